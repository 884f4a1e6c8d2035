/-
  The canonical board: the model's side, and the contracts for every board.
-/
import Derived.Test.YtoflbpihcfdcgaaCan
import Derived.Test.YtoflbpihcfdcgaaSpecVB
namespace Go.Proofs.Ytoflbpihcfdcgaa
open Go.RowKit

theorem s_trX (s k : Int) (w : World) (B : Nat) (A : Option Addr) (n c : Nat) (cs : List Int) (h : Ints w B A n cs) (hB : B ≤ w.heap.size) (hv : Bd.okB s cs = true) (k1 : 0 ≤ k) (k2 : k < 8) :
    Calls Try.prog 62 #[.agg #[.int .i64 s, .slice A n c], .int .i64 k] w fun e w' => ∃ A1 c1, e = .returned (.agg #[.int .i64 s, .slice A1 n c1]) ∧ Own w' w.heap.size A1 n c1 (Bd.mv s k cs) ∧ Below w.heap.size w w' := by
  have hl := h.1
  obtain ⟨s1, s7, hsn, _⟩ := (Bd.okB_iff s cs).1 hv
  refine (s_transformBoard s k w B A n c cs h hB s1 s7 (by omega) k1 k2).mono ?_
  rintro e w' ⟨A1, n1, c1, rfl, ho, hb⟩
  have e1 := ho.1
  rw [Bd.mv_len] at e1
  obtain rfl : n1 = n := by omega
  exact ⟨_, _, rfl, ho, hb⟩

set_option maxRecDepth 100000 in
set_option maxHeartbeats 4000000 in
theorem s_canonical (s : Int) (w : World) (B : Nat) (A : Option Addr) (n c : Nat) (cs : List Int) (h : Ints w B A n cs) (hB : B ≤ w.heap.size) (hv : Bd.okB s cs = true) (ds : List Int) (a : Int) (Hd : Hid (Cn s n cs 7 ds a)) :
    Calls Try.prog 75 #[.agg #[.int .i64 s, .slice A n c]] w fun e w' => MadeI s ds a w e w' := by
  have hl := h.1
  obtain ⟨s1, s7, hsn, _⟩ := (Bd.okB_iff s cs).1 hv
  have hsq := Pt.sq_bd s s1 s7
  have hn49 : n ≤ 49 := by omega
  have Hv := Lib.hid hv
  have Hz := Lib.hid (mv_zero s1 s7 hsn)
  have e1 : (w.alloc (.cells #[.int .i64 s, .slice A n c] 25)).heap.size = w.heap.size + 1 := by simp
  have x0 := (Bx.new 25 w s (.slice A n c)).alloc (.cells #[.int .i64 0, .slice none 0 0] 25)
  have x1 := Bx.new 25 (w.alloc (.cells #[.int .i64 s, .slice A n c] 25)) 0 (.slice none 0 0)
  rw [e1] at x1
  have hb2 : Below w.heap.size w ((w.alloc (.cells #[.int .i64 s, .slice A n c] 25)).alloc (.cells #[.int .i64 0, .slice none 0 0] 25)) := ((Below.refl _ _).alloc (Nat.le_refl _) _).alloc (by simp) _
  have H := Lib.hid (h.below hb2 hB)
  have X0 := Lib.hid x0
  have X1 := Lib.hid x1
  have Hb := Lib.hid hb2
  clear e1 x0 x1 hb2 h hv hsn
  go_enter Try.func75, Try.ntmps75
  go_wp2_with fail
  refine (s_copyBoard _ _ _ _ _ _ _ H.out (by simp; omega) (by omega)).mono ?_
  rintro e y3 ⟨A3, c3, rfl, ho, hb⟩
  have X0 := Lib.hid (X0.out.below hb X0.out.lt)
  have X1 := Lib.hid (X1.out.below hb X1.out.lt)
  have H := Lib.hid (H.out.below hb (by simp; omega))
  have Hb := Lib.hid (Hb.out.trans (hb.mono (by simp; omega)))
  have Ho := Lib.hid (ho.weaken (B' := w.heap.size + 2) (by simp))
  have z2 := X1.out.lt
  have Hfar : Hid (∀ g, A3 = some ⟨g, 0, none⟩ → g ≠ y3.heap.size) := Lib.hid (fun g e => by have := (ho.ge e).2; omega)
  have z3 := hb.size
  have z32 : w.heap.size + 2 ≤ y3.heap.size := by simpa using z3
  clear hb ho
  go_upto_region 2 with (fail)
  obtain ⟨y4, hy4, hb4, z4, z4'⟩ := new_box y3 (.cells #[.int .i64 s, .slice A3 n c3] 25)
  have X4 : Hid (Bx 25 y4 y3.heap.size s (.slice A3 n c3)) := Lib.hid (by rw [hy4]; exact Bx.new _ _ _ _)
  rw [← hy4]
  clear hy4
  have X0 := Lib.hid (X0.out.below hb4 X0.out.lt)
  have X1 := Lib.hid (X1.out.below hb4 X1.out.lt)
  have H := Lib.hid (H.out.below hb4 (by omega))
  have Ho := Lib.hid (Ho.out.below hb4)
  have Hb := Lib.hid (Hb.out.trans (hb4.mono (by omega)))
  clear hb4
  go_wp2_with fail
  go_loopw [5, 6] (fun v i wr => ∃ (m : Nat) (Am : Option Addr) (cm : Nat) (d0 : List Int) (a0 : Int), m ≤ 7 ∧ i = .int .i64 ((m : Int) + 1) ∧ v = .int .i64 a0 ∧ Cn s n cs m d0 a0 ∧ Bx 25 wr y3.heap.size s (.slice Am n cm) ∧ Own wr (w.heap.size + 2) Am n cm d0 ∧ (∀ g, Am = some ⟨g, 0, none⟩ → g ≠ y3.heap.size) ∧ Below (w.heap.size + 2) y4 wr) (fun _ i _ => 8 - (intOf i).toNat)
  case atStart => exact ⟨0, _, _, _, _, by omega, by simp, rfl, ⟨rfl, rfl⟩, X4.out, Ho.out, Hfar.out, Below.refl _ _⟩
  case round =>
    clear X4 Ho Hfar
    obtain ⟨wo, rfl⟩ : ∃ wo : World, wo = wr := ⟨_, rfl⟩
    obtain ⟨m, Am, cm, d0, a0, hm, rfl, rfl, hcn, x4, ho, hfar, hbr⟩ := hrel
    have hz := hbr.size
    have X0r := Lib.hid (X0.out.below hbr (by omega))
    have X1r := Lib.hid (X1.out.below hbr (by omega))
    have Hr := Lib.hid (H.out.below hbr (by omega))
    have Hbw := Lib.hid (Hb.out.trans (hbr.mono (by omega)))
    have Hcn := Lib.hid hcn
    have X4 := Lib.hid x4
    have Ho := Lib.hid ho
    have Hfar := Lib.hid hfar
    have Hbr := Lib.hid hbr
    have z41 := x4.lt
    have u00 := X0r.out.cell0
    have u01 := X0r.out.cell1
    have u02 := X0r.out.lt
    clear hcn x4 ho hfar hbr
    by_cases hm7 : m = 7
    · subst hm7
      obtain ⟨e1, e2⟩ := Hcn.out.one Hd.out
      have Hds := Lib.hid e1
      have Ha := Lib.hid e2
      clear e1 e2
      have v40 := X4.out.cell0
      have v41 := X4.out.cell1
      have v10 := X1r.out.cell0
      have v11 := X1r.out.cell1
      have v12 := X1r.out.frozen 0
      have v13 := X1r.out.frozen 1
      have v14 := X1r.out.lt
      have K0 := Lib.hid ((X1r.out.set0 s).cell0)
      have K1 := Lib.hid (((X1r.out.set0 s).set1 (.slice Am n cm)).cell1)
      have Ho2 := Lib.hid ((Ho.out.far ⟨w.heap.size + 1, 0, none⟩ (fun g hA => by have := (Ho.out.ge hA).1; show g ≠ w.heap.size + 1; omega) (.int .i64 s)).far ⟨w.heap.size + 1, 1, none⟩ (fun g hA => by have := (Ho.out.ge hA).1; show g ≠ w.heap.size + 1; omega) (.slice Am n cm))
      have Hb3 := Lib.hid ((Hbw.out.setCell (p := ⟨w.heap.size + 1, 0, none⟩) (by show w.heap.size ≤ w.heap.size + 1; omega) (.int .i64 s)).setCell (p := ⟨w.heap.size + 1, 1, none⟩) (by show w.heap.size ≤ w.heap.size + 1; omega) (.slice Am n cm))
      go_wp2_with fail
      have k0 := K0.out
      have k1 := K1.out
      refine bodyPost_ret (v := .tuple #[.agg #[.int .i64 s, .slice Am n cm], .int .i64 a0]) (by simp [results, Try.results75, go_sem, k0, k1]) rfl ?_
      exact ⟨_, _, _, by rw [Ha.out], by rw [← Hds.out]; exact Ho2.out.weaken (by omega), Hb3.out⟩
    · have hmI : (m : Int) + 1 < 8 := by omega
      go_wp2_with fail
      refine (s_trX s ((m : Int) + 1) _ B _ n _ cs Hr.out (by omega) Hv.out (by omega) (by omega)).mono ?_
      rintro e y5 ⟨A5, c5, rfl, ho5, hb5⟩
      have z5 := hb5.size
      have X4 := Lib.hid (X4.out.below hb5 X4.out.lt)
      have Ho := Lib.hid (Ho.out.below hb5)
      have Ho5 := Lib.hid ho5
      have Hf5 : Hid (∀ g, A5 = some ⟨g, 0, none⟩ → g ≠ y3.heap.size ∧ g < y5.heap.size) := Lib.hid (fun g e => by have := ho5.ge e; omega)
      have Hbr := Lib.hid (Hbr.out.trans (hb5.mono (by omega)))
      clear ho5 hb5 u00 u01
      go_upto_region 7 with (fail)
      obtain ⟨y6, hy6, hb6, z6, z6'⟩ := new_box y5 (.cells #[.int .i64 s, .slice A5 n c5] 25)
      have X7 : Hid (Bx 25 y6 y5.heap.size s (.slice A5 n c5)) := Lib.hid (by rw [hy6]; exact Bx.new _ _ _ _)
      rw [← hy6]
      clear hy6
      have X4 := Lib.hid (X4.out.below hb6 X4.out.lt)
      have Ho := Lib.hid (Ho.out.below hb6)
      have Ho5 := Lib.hid ((Ho5.out.below hb6).weaken (B' := w.heap.size + 2) (by omega))
      have Hbr := Lib.hid (Hbr.out.trans (hb6.mono (by omega)))
      clear hb6
      have t70 := X7.out.cell0
      have t71 := X7.out.cell1
      have t72 := X7.out.lt
      have t40 := X4.out.cell0
      have t41 := X4.out.cell1
      have t42 := X4.out.frozen 0
      have t43 := X4.out.frozen 1
      have t44 := X4.out.lt
      obtain ⟨b, hb⟩ := Lx.make n (Bd.mv s ((m : Int) + 1) cs) d0
      have HL := Lib.hid hb
      clear hb
      go_wp2_with fail
      refine (s_less _ _ _ _ _ n _ _ _ _ Ho5.out.ints Ho.out.ints (by omega) b HL).mono ?_
      rintro e y7 ⟨rfl, hb7⟩
      have X7 := Lib.hid (X7.out.below hb7 X7.out.lt)
      have Hf5 : Hid (∀ g, A5 = some ⟨g, 0, none⟩ → g ≠ y3.heap.size) := Lib.hid (fun g e => (Hf5.out g e).1)
      have X4 := Lib.hid (X4.out.below hb7 X4.out.lt)
      have Ho := Lib.hid (Ho.out.below hb7)
      have Ho5 := Lib.hid (Ho5.out.below hb7)
      have Hbr := Lib.hid (Hbr.out.trans (hb7.mono (by omega)))
      clear hb7 t70 t71 t72 t40 t41 t42 t43 t44
      have t70 := X7.out.cell0
      have t71 := X7.out.cell1
      have t72 := X7.out.lt
      have t40 := X4.out.cell0
      have t41 := X4.out.cell1
      have t42 := X4.out.frozen 0
      have t43 := X4.out.frozen 1
      have t44 := X4.out.lt
      cases b
      · go_wp2_with fail
        go_roundw
        case rel => exact ⟨m + 1, _, _, d0, a0, by omega, by simp, rfl, ⟨d0, a0, false, Hcn.out, HL.out, .inr ⟨rfl, rfl, rfl⟩⟩, X4.out, Ho.out, Hfar.out, Hbr.out⟩
        case measure => simp [intOf]; omega
      · have X4s := Lib.hid ((X4.out.set0 s).set1 (.slice A5 n c5))
        have Ho5s := Lib.hid ((Ho5.out.far ⟨y3.heap.size, 0, none⟩ (fun g hA => Hf5.out g hA) (.int .i64 s)).far ⟨y3.heap.size, 1, none⟩ (fun g hA => Hf5.out g hA) (.slice A5 n c5))
        have Hbrs := Lib.hid ((Hbr.out.setCell (p := ⟨y3.heap.size, 0, none⟩) (by show w.heap.size + 2 ≤ y3.heap.size; omega) (.int .i64 s)).setCell (p := ⟨y3.heap.size, 1, none⟩) (by show w.heap.size + 2 ≤ y3.heap.size; omega) (.slice A5 n c5))
        go_wp2_with fail
        go_roundw
        case rel => exact ⟨m + 1, _, _, _, _, by omega, by simp, rfl, ⟨d0, a0, true, Hcn.out, HL.out, .inl ⟨rfl, rfl, rfl⟩⟩, X4s.out, Ho5s.out, Hf5.out, Hbrs.out⟩
        case measure => simp [intOf]; omega
end Go.Proofs.Ytoflbpihcfdcgaa
