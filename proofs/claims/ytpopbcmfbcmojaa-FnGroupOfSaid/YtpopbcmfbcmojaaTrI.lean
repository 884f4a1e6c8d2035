/-
  Images of boards under symmetries: the program's.
-/
import Derived.Test.YtpopbcmfbcmojaaMvI
namespace Go.Proofs.Ytpopbcmfbcmojaa
set_option maxRecDepth 100000
open Go.RowKit

def trOk (s : Int) (cs : List Int) (k : Int) : Bool := Bd.okB s cs && Pt.okK k
def trS (s : Int) (cs : List Int) (k : Int) : Int := if trOk s cs k then s else 0
def trCs (s : Int) (cs : List Int) (k : Int) : List Int := if trOk s cs k then Bd.mv s k cs else []

set_option maxHeartbeats 4000000 in
theorem i_trB (s k : Int) (w : World) (B : Nat) (A : Option Addr) (n c : Nat) (cs : List Int) (h : Ints w B A n cs) (hB : B ≤ w.heap.size) (hn : n ≤ 1000000000) :
    Calls Try.prog 13 #[.agg #[.int .i64 s, .slice A n c], .int .i64 k] w fun e w' => Made (trS s cs k) (trCs s cs k) w e w' := by
  have e1 : (w.alloc (.cells #[.int .i64 s, .slice A n c] 25)).heap.size = w.heap.size + 1 := by simp
  have x0 := (Bx.new 25 w s (.slice A n c)).alloc (.cells #[.int .i64 0, .slice none 0 0] 25)
  have x1 := Bx.new 25 (w.alloc (.cells #[.int .i64 s, .slice A n c] 25)) 0 (.slice none 0 0)
  rw [e1] at x1
  have hb2 : Below w.heap.size w ((w.alloc (.cells #[.int .i64 s, .slice A n c] 25)).alloc (.cells #[.int .i64 0, .slice none 0 0] 25)) := ((Below.refl _ _).alloc (Nat.le_refl _) _).alloc (by simp) _
  have hl := h.1
  have H := Lib.hid (h.below hb2 hB)
  have X0 := Lib.hid x0
  have X1 := Lib.hid x1
  have Hb := Lib.hid hb2
  clear e1 x0 x1 hb2 h
  by_cases hv : Bd.okB s cs = true
  · obtain ⟨q1, q2, q3, _⟩ := (Bd.okB_iff s cs).1 hv
    have q4 := Pt.sq_bd s q1 q2
    have hn49 : n ≤ 49 := by omega
    have hns : (n : Int) = s * s := by omega
    have Hns := Lib.hid hns
    clear hns
    by_cases hk : Pt.okK k = true
    · have hall : trOk s cs k = true := by rw [trOk, hv, hk]; rfl
      have Hs := Lib.hid (show trS s cs k = s by rw [trS, hall]; rfl)
      have Hc := Lib.hid (show trCs s cs k = Bd.mv s k cs by rw [trCs, hall]; rfl)
      clear hall
      obtain ⟨k1, k2⟩ := (Pt.okK_iff k).1 hk
      go_enter Try.func13, Try.ntmps13
      go_wp2_with fail
      refine (i_validBoard _ _ _ _ _ _ _ H.out (by simp; omega) (by omega)).mono ?_
      rintro e y2 ⟨rfl, hb⟩
      rw [hv]
      have X0 := Lib.hid (X0.out.below hb X0.out.lt)
      have X1 := Lib.hid (X1.out.below hb X1.out.lt)
      have H := Lib.hid (H.out.below hb (by simp; omega))
      have Hb := Lib.hid (Hb.out.trans (hb.mono (by simp; omega)))
      clear hb hv
      have z2 := X1.out.lt
      have u00 := X0.out.cell0
      have u01 := X0.out.cell1
      have u02 := X0.out.lt
      go_wp2_with fail
      refine (i_sym _ _).mono ?_
      rintro e w' ⟨rfl, rfl⟩
      rw [hk]
      clear hk
      go_upto_region 3 with (fail)
      go_cut [] (fun wx => ∃ A' c', Bx 25 wx (w.heap.size + 1) s (.slice A' n c') ∧ Own wx y2.heap.size A' n c' (Bd.mv s k cs) ∧ Below w.heap.size w wx)
      case first =>
        go_region_with (first | (go_at_call 54; refine (i_imagesOf s k n _ q1 q2 Hns.out k1 k2).mono ?_; rintro e ya ⟨Aa, ca, rfl, hoa, hba⟩; have hbw : Below y2.heap.size y2 ya := ⟨hba.os, hba.tape, hba.output, hba.size, hba.block⟩; have za := hbw.size; have u0 := (X0.out.below hbw X0.out.lt).cell0; have u1 := (X0.out.below hbw X0.out.lt).cell1; have ul := (X0.out.below hbw X0.out.lt).lt; have Hoa := Lib.hid hoa.ints; have Ha := Lib.hid (H.out.below hbw (by omega)); have Hba := Lib.hid hbw; clear hoa hba hbw) | (go_at_call 53; refine (i_movedTo s k _ B ya.heap.size _ _ n _ _ cs (by exact Ha.out) (by exact Hoa.out) (by show B ≤ ya.heap.size; omega) (by exact Nat.le_refl _) q1 q2 Hns.out k1 k2).mono ?_; rintro e y ⟨A', c', rfl, ho, hb⟩; have hbw : Below y2.heap.size y2 y := Hba.out.trans ((show Below ya.heap.size ya y from ⟨hb.os, hb.tape, hb.output, hb.size, hb.block⟩).mono Hba.out.size); clear u0 u1; have w0 := (X0.out.below hbw X0.out.lt).cell0; have w1 := (X0.out.below hbw X0.out.lt).cell1; have v0 := (X1.out.below hbw X1.out.lt).cell0; have v1 := (X1.out.below hbw X1.out.lt).cell1; have v2 := (X1.out.below hbw X1.out.lt).frozen 0; have v3 := (X1.out.below hbw X1.out.lt).frozen 1; have v4 := (X1.out.below hbw X1.out.lt).lt; have HX1 := Lib.hid (X1.out.below hbw X1.out.lt); have Ho : Hid (Own y y2.heap.size A' n c' (Bd.mv s k cs)) := Lib.hid (Own.weaken ho za); have Hb' := Lib.hid hbw; clear ho hb hbw))
        all_goals go_wp2_with fail
        all_goals go_meet
        all_goals
          have ho2 := (Ho.out.far ⟨w.heap.size + 1, 0, none⟩ (fun g hA => by have := (Ho.out.ge hA).1; show g ≠ w.heap.size + 1; omega) (.int .i64 s)).far ⟨w.heap.size + 1, 1, none⟩ (fun g hA => by have := (Ho.out.ge hA).1; show g ≠ w.heap.size + 1; omega) (.slice A' n c')
          have hb3 := ((Hb.out.trans (Hb'.out.mono (by omega))).setCell (p := ⟨w.heap.size + 1, 0, none⟩) (by show w.heap.size ≤ w.heap.size + 1; omega) (.int .i64 s)).setCell (p := ⟨w.heap.size + 1, 1, none⟩) (by show w.heap.size ≤ w.heap.size + 1; omega) (.slice A' n c')
          exact ⟨A', c', (HX1.out.set0 s).set1 _, ho2, hb3⟩
      case rest =>
        obtain ⟨A', c', hx, ho, hb⟩ := hcut
        have Ho := Lib.hid ho
        have Hb2 := Lib.hid hb
        clear ho hb
        go_wp2_with fail
        have k0 := hx.cell0
        have k1 := hx.cell1
        refine bodyPost_ret (v := .agg #[.int .i64 s, .slice A' n c']) (by simp [results, Try.results13, go_sem, k0, k1]) rfl ?_
        exact ⟨_, _, _, by rw [Hs.out], by rw [Hc.out]; exact Ho.out.weaken (by omega), Hb2.out⟩
    · have hk0 : Pt.okK k = false := by simpa using hk
      have hall : trOk s cs k = false := by rw [trOk, hv, hk0]; rfl
      have Hs := Lib.hid (show trS s cs k = 0 by rw [trS, hall]; rfl)
      have Hc := Lib.hid (show trCs s cs k = [] by rw [trCs, hall]; rfl)
      clear hall
      clear hk
      go_enter Try.func13, Try.ntmps13
      go_wp2_with fail
      refine (i_validBoard _ _ _ _ _ _ _ H.out (by simp; omega) (by omega)).mono ?_
      rintro e y2 ⟨rfl, hb⟩
      rw [hv]
      have X0 := Lib.hid (X0.out.below hb X0.out.lt)
      have X1 := Lib.hid (X1.out.below hb X1.out.lt)
      have H := Lib.hid (H.out.below hb (by simp; omega))
      have Hb := Lib.hid (Hb.out.trans (hb.mono (by simp; omega)))
      clear hb hv
      have z2 := X1.out.lt
      have u00 := X0.out.cell0
      have u01 := X0.out.cell1
      have u02 := X0.out.lt
      go_wp2_with fail
      refine (i_sym _ _).mono ?_
      rintro e w' ⟨rfl, rfl⟩
      rw [hk0]
      clear hk0
      have v10 := X1.out.cell0
      have v11 := X1.out.cell1
      have v12 := X1.out.frozen 0
      have v13 := X1.out.frozen 1
      have v14 := X1.out.lt
      have K0 := Lib.hid ((X1.out.set0 0).cell0)
      have K1 := Lib.hid (((X1.out.set0 0).set1 (.slice none 0 0)).cell1)
      have Hb3 := Lib.hid ((Hb.out.setCell (p := ⟨w.heap.size + 1, 0, none⟩) (by show w.heap.size ≤ w.heap.size + 1; omega) (.int .i64 0)).setCell (p := ⟨w.heap.size + 1, 1, none⟩) (by show w.heap.size ≤ w.heap.size + 1; omega) (.slice none 0 0))
      clear u00 u01
      go_wp2_with fail
      have k0 := K0.out
      have k1 := K1.out
      refine bodyPost_ret (v := .agg #[.int .i64 0, .slice none 0 0]) (by simp [results, Try.results13, go_sem, k0, k1]) rfl ?_
      exact ⟨_, _, _, by rw [Hs.out], by rw [Hc.out]; exact Own.nil _ _, Hb3.out⟩
  · have hv0 : Bd.okB s cs = false := by simpa using hv
    have hall : trOk s cs k = false := by rw [trOk, hv0]; rfl
    have Hs := Lib.hid (show trS s cs k = 0 by rw [trS, hall]; rfl)
    have Hc := Lib.hid (show trCs s cs k = [] by rw [trCs, hall]; rfl)
    clear hall
    clear hv
    go_enter Try.func13, Try.ntmps13
    go_wp2_with fail
    refine (i_validBoard _ _ _ _ _ _ _ H.out (by simp; omega) (by omega)).mono ?_
    rintro e y2 ⟨rfl, hb⟩
    rw [hv0]
    have X0 := Lib.hid (X0.out.below hb X0.out.lt)
    have X1 := Lib.hid (X1.out.below hb X1.out.lt)
    have H := Lib.hid (H.out.below hb (by simp; omega))
    have Hb := Lib.hid (Hb.out.trans (hb.mono (by simp; omega)))
    clear hb hv0
    have z2 := X1.out.lt
    have u00 := X0.out.cell0
    have u01 := X0.out.cell1
    have u02 := X0.out.lt
    have v10 := X1.out.cell0
    have v11 := X1.out.cell1
    have v12 := X1.out.frozen 0
    have v13 := X1.out.frozen 1
    have v14 := X1.out.lt
    have K0 := Lib.hid ((X1.out.set0 0).cell0)
    have K1 := Lib.hid (((X1.out.set0 0).set1 (.slice none 0 0)).cell1)
    have Hb3 := Lib.hid ((Hb.out.setCell (p := ⟨w.heap.size + 1, 0, none⟩) (by show w.heap.size ≤ w.heap.size + 1; omega) (.int .i64 0)).setCell (p := ⟨w.heap.size + 1, 1, none⟩) (by show w.heap.size ≤ w.heap.size + 1; omega) (.slice none 0 0))
    clear u00 u01
    go_wp2_with fail
    have k0 := K0.out
    have k1 := K1.out
    refine bodyPost_ret (v := .agg #[.int .i64 0, .slice none 0 0]) (by simp [results, Try.results13, go_sem, k0, k1]) rfl ?_
    exact ⟨_, _, _, by rw [Hs.out], by rw [Hc.out]; exact Own.nil _ _, Hb3.out⟩
end Go.Proofs.Ytpopbcmfbcmojaa
