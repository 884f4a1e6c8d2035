/-
  Exchanging the colors of boards: both packages make the same board.
-/
import Derived.Test.YtpopbcmfbcmojaaInv
namespace Go.Proofs.Ytpopbcmfbcmojaa
set_option maxRecDepth 100000
open Go.RowKit

def invS (s : Int) (cs : List Int) : Int := if Bd.okB s cs then s else 0
def invCs (s : Int) (cs : List Int) : List Int := if Bd.okB s cs then othCs cs else []

theorem i_inv (s : Int) (w : World) (B : Nat) (A : Option Addr) (n c : Nat) (cs : List Int) (h : Ints w B A n cs) (hB : B ≤ w.heap.size) (hn : n ≤ 1000000000) :
    Calls Try.prog 16 #[.agg #[.int .i64 s, .slice A n c]] w fun e w' => Made (invS s cs) (invCs s cs) w e w' := by
  have e1 : (w.alloc (.cells #[.int .i64 s, .slice A n c] 25)).heap.size = w.heap.size + 1 := by simp
  have x0 := (Bx.new 25 w s (.slice A n c)).alloc (.cells #[.int .i64 0, .slice none 0 0] 25)
  have x1 := Bx.new 25 (w.alloc (.cells #[.int .i64 s, .slice A n c] 25)) 0 (.slice none 0 0)
  rw [e1] at x1
  have hb2 : Below w.heap.size w ((w.alloc (.cells #[.int .i64 s, .slice A n c] 25)).alloc (.cells #[.int .i64 0, .slice none 0 0] 25)) := ((Below.refl _ _).alloc (Nat.le_refl _) _).alloc (by simp) _
  have H := Lib.hid (h.below hb2 hB)
  have X0 := Lib.hid x0
  have X1 := Lib.hid x1
  have Hb := Lib.hid hb2
  clear e1 x0 x1 hb2 h
  by_cases hv : Bd.okB s cs = true
  · have hn49 : n ≤ 49 := by
      obtain ⟨q1, q2, q3, _⟩ := (Bd.okB_iff s cs).1 hv
      have q4 := Pt.sq_bd s q1 q2
      have q5 := H.out.1
      omega
    have Hs := Lib.hid (show invS s cs = s by rw [invS, if_pos hv])
    have Hc := Lib.hid (show invCs s cs = othCs cs by rw [invCs, if_pos hv])
    go_enter Try.func16, Try.ntmps16
    go_wp2_with fail
    refine (i_validBoard _ _ _ _ _ _ _ H.out (by simp; omega) (by omega)).mono ?_
    rintro e y2 ⟨rfl, hb⟩
    rw [hv]
    have X0 := Lib.hid (X0.out.below hb X0.out.lt)
    have X1 := Lib.hid (X1.out.below hb X1.out.lt)
    have H := Lib.hid (H.out.below hb (by simp; omega))
    have Hb := Lib.hid (Hb.out.trans (hb.mono (by simp; omega)))
    clear hb hv
    have z2 := X1.out.lt
    have u00 := X0.out.cell0
    have u01 := X0.out.cell1
    have u02 := X0.out.lt
    go_upto_region 3 with (fail)
    go_cut [] (fun wx => ∃ A' c', Bx 25 wx (w.heap.size + 1) s (.slice A' n c') ∧ Own wx y2.heap.size A' n c' (othCs cs) ∧ Below w.heap.size w wx)
    case first =>
      go_region_with (go_at_call 62; refine (i_inverted _ B _ _ _ cs (by exact H.out) ?_ (by omega)).mono ?_; (show B ≤ y2.heap.size; omega); rintro e y ⟨A', c', rfl, ho, hb⟩; have hbw : Below y2.heap.size y2 y := ⟨hb.os, hb.tape, hb.output, hb.size, hb.block⟩; have u0 := (X0.out.below hbw X0.out.lt).cell0; have u1 := (X0.out.below hbw X0.out.lt).cell1; have v0 := (X1.out.below hbw X1.out.lt).cell0; have v1 := (X1.out.below hbw X1.out.lt).cell1; have v2 := (X1.out.below hbw X1.out.lt).frozen 0; have v3 := (X1.out.below hbw X1.out.lt).frozen 1; have v4 := (X1.out.below hbw X1.out.lt).lt; have HX1 := Lib.hid (X1.out.below hbw X1.out.lt); have Ho : Hid (Own y y2.heap.size A' n c' (othCs cs)) := Lib.hid ho; have Hb' := Lib.hid hbw; clear ho hb hbw)
      all_goals go_wp2_with fail
      all_goals go_meet
      all_goals
        have ho2 := (Ho.out.far ⟨w.heap.size + 1, 0, none⟩ (fun g hA => by have := (Ho.out.ge hA).1; show g ≠ w.heap.size + 1; omega) (.int .i64 s)).far ⟨w.heap.size + 1, 1, none⟩ (fun g hA => by have := (Ho.out.ge hA).1; show g ≠ w.heap.size + 1; omega) (.slice A' n c')
        have hb3 := ((Hb.out.trans (Hb'.out.mono (by omega))).setCell (p := ⟨w.heap.size + 1, 0, none⟩) (by show w.heap.size ≤ w.heap.size + 1; omega) (.int .i64 s)).setCell (p := ⟨w.heap.size + 1, 1, none⟩) (by show w.heap.size ≤ w.heap.size + 1; omega) (.slice A' n c')
        exact ⟨A', c', (HX1.out.set0 s).set1 _, ho2, hb3⟩
    case rest =>
      obtain ⟨A', c', hx, ho, hb⟩ := hcut
      have Ho := Lib.hid ho
      have Hb2 := Lib.hid hb
      clear ho hb
      go_wp2_with fail
      have k0 := hx.cell0
      have k1 := hx.cell1
      refine bodyPost_ret (v := .agg #[.int .i64 s, .slice A' n c']) (by simp [results, Try.results16, go_sem, k0, k1]) rfl ?_
      exact ⟨_, _, _, by rw [Hs.out], by rw [Hc.out]; exact Ho.out.weaken (by omega), Hb2.out⟩
  · have hv' : Bd.okB s cs = false := by simpa using hv
    have Hs := Lib.hid (show invS s cs = 0 by rw [invS, if_neg hv])
    have Hc := Lib.hid (show invCs s cs = [] by rw [invCs, if_neg hv])
    clear hv
    go_enter Try.func16, Try.ntmps16
    go_wp2_with fail
    refine (i_validBoard _ _ _ _ _ _ _ H.out (by simp; omega) (by omega)).mono ?_
    rintro e y2 ⟨rfl, hb⟩
    rw [hv']
    have X1 := X1.out.below hb X1.out.lt
    have Hb := Lib.hid (Hb.out.trans (hb.mono (by simp; omega)))
    clear hb
    have c0 := X1.cell0
    have c1 := X1.cell1
    have f0 := X1.frozen 0
    have f1 := X1.frozen 1
    have l1 := X1.lt
    have K0 := Lib.hid ((X1.set0 0).cell0)
    have K1 := Lib.hid (((X1.set0 0).set1 (.slice none 0 0)).cell1)
    have Hb3 := Lib.hid ((Hb.out.setCell (p := ⟨w.heap.size + 1, 0, none⟩) (by show w.heap.size ≤ w.heap.size + 1; omega) (.int .i64 0)).setCell (p := ⟨w.heap.size + 1, 1, none⟩) (by show w.heap.size ≤ w.heap.size + 1; omega) (.slice none 0 0))
    clear X1
    go_wp2_with fail
    have k0 := K0.out
    have k1 := K1.out
    refine bodyPost_ret (v := .agg #[.int .i64 0, .slice none 0 0]) (by simp [results, Try.results16, go_sem, k0, k1]) rfl ?_
    exact ⟨_, _, _, by rw [Hs.out], by rw [Hc.out]; exact Own.nil _ _, Hb3.out⟩
end Go.Proofs.Ytpopbcmfbcmojaa
