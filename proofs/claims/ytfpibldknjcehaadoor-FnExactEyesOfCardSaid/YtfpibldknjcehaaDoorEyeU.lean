/-
  Whether a point is an eye, in both packages.
-/
import Derived.Test.YtfpibldknjcehaaDoorEyeT
import Derived.Test.YtfpibldknjcehaaDoorBoardI
namespace Go.Proofs.YtfpibldknjcehaaDoor
set_option maxRecDepth 100000
open Go.RowKit

def eyB (s : Int) (cs : List Int) (p x : Int) : Bool := Bd.okB s cs && (Pt.okP s p && ((decide (1 ≤ x) && decide (x ≤ 2)) && eyeS s cs p x))

theorem s_vpt (s p : Int) (w : World) : Calls Tryd.prog 18 #[.int .i64 s, .int .i64 p] w fun e w' => e = .returned (.bool (decide (0 ≤ p) && decide (p ≤ wrap64 (wrap64 (s * s) - 1)))) ∧ w = w' := by
  go_enter Tryd.func18, Tryd.ntmps18
  go_wp2_with fail
  refine (s_range _ _ _ _).mono ?_
  rintro e w' ⟨rfl, rfl⟩
  go_wp2_with fail
  go_ret
  exact ⟨rfl, rfl⟩
theorem s_vptB (s p : Int) (w : World) (h1 : 1 ≤ s) (h2 : s ≤ 7) : Calls Tryd.prog 18 #[.int .i64 s, .int .i64 p] w fun e w' => e = .returned (.bool (Pt.okP s p)) ∧ w = w' := by
  have hsq := Pt.sq_bd s h1 h2
  have e1 : wrap64 (s * s) = s * s := by unfold wrap64; omega
  have e2 : wrap64 (s * s - 1) = s * s - 1 := by unfold wrap64; omega
  have e : (decide (0 ≤ p) && decide (p ≤ wrap64 (wrap64 (s * s) - 1))) = Pt.okP s p := by
    rw [e1, e2, Bool.eq_iff_iff, Pt.okP_iff, Bool.and_eq_true, decide_eq_true_eq, decide_eq_true_eq]
    omega
  rw [← e]
  exact s_vpt s p w
theorem i_eyeStone (x : Int) (w : World) : Calls Tryd.prog 24 #[.int .i64 x] w fun e w' => e = .returned (.bool (decide (1 ≤ x) && decide (x ≤ 2))) ∧ w = w' := by
  refine (i_isStone x w).mono ?_
  rintro e w' ⟨rfl, rfl⟩
  refine ⟨ret_bool ?_, rfl⟩
  rw [Bool.eq_iff_iff]
  simp
  omega

theorem bit_ne (m p : Nat) (hm : m < 18446744073709551616) (hp : p < 64) : (bits .and .u64 (m : Int) ((2 ^ p : Nat) : Int) != 0) = m.testBit p := by
  have hpp : 2 ^ p < 18446744073709551616 := Nat.pow_lt_pow_right (n := 64) (by decide) hp
  rw [u64_and_nat _ _ hm hpp]
  have hb : (m &&& 2 ^ p).testBit p = m.testBit p := by rw [Nat.testBit_and, Nat.testBit_two_pow_self, Bool.and_true]
  cases e : m.testBit p
  · have : m &&& 2 ^ p = 0 := Nat.eq_of_testBit_eq fun j => by
      rw [Nat.testBit_and, Nat.testBit_two_pow, Nat.zero_testBit]
      by_cases hj : p = j
      · subst hj; rw [e]; rfl
      · rw [decide_eq_false hj, Bool.and_false]
    rw [this]; rfl
  · have : m &&& 2 ^ p ≠ 0 := fun h0 => by rw [h0, Nat.zero_testBit, e] at hb; cases hb
    rw [bne_iff_ne]
    omega

section
variable (s p x : Int) (w : World) (B : Nat) (A : Option Addr) (n c : Nat) (cs : List Int) (h : Ints w B A n cs) (hB : B ≤ w.heap.size) (hn : n ≤ 1000000000)
include h hB hn

set_option maxHeartbeats 2000000 in
theorem s_IsEye : Calls Tryd.prog 6 #[.agg #[.int .i64 s, .slice A n c], .int .i64 p, .int .i64 x] w fun e w' => e = .returned (.bool (eyB s cs p x)) ∧ Below w.heap.size w w' := by
  have hb1 : Below w.heap.size w (w.alloc (.cells #[.int .i64 s, .slice A n c] 27)) := (Below.refl _ _).alloc (Nat.le_refl _) _
  have H := Lib.hid (h.below hb1 hB)
  have Hb := Lib.hid hb1
  have Bxx := Lib.hid (Bx.new 27 w s (.slice A n c))
  have Hl := Lib.hid h.1
  have He := Lib.hid (show eyB s cs p x = (Bd.okB s cs && (Pt.okP s p && ((decide (1 ≤ x) && decide (x ≤ 2)) && eyeS s cs p x))) from rfl)
  clear hb1 h
  obtain ⟨b1, e1⟩ : ∃ b, Bd.okB s cs = b := ⟨_, rfl⟩
  have He1 := Lib.hid e1
  cases b1
  · have HF := Lib.hid (show eyB s cs p x = false by rw [He.out, e1]; rfl)
    clear e1
    go_enter Tryd.func6, Tryd.ntmps6
    go_wp2_with fail
    refine (s_validBoard _ _ _ _ _ _ _ H.out (by simp; omega) hn).mono ?_
    rintro e y ⟨rfl, hb⟩
    have Hb2 := Lib.hid (Hb.out.trans (hb.mono (by simp)))
    clear hb
    rw [He1.out]
    go_wp2_with fail
    go_ret
    exact ⟨ret_bool HF.out.symm, Hb2.out⟩
  · obtain ⟨q1, q2, q3, q4⟩ := (Bd.okB_iff s cs).1 e1
    have Hq3 := Lib.hid q3
    clear e1 q3 q4
    have cV : ∀ w, Calls Tryd.prog 18 #[.int .i64 s, .int .i64 p] w fun e w' => e = .returned (.bool (Pt.okP s p)) ∧ w = w' := fun w => s_vptB s p w q1 q2
    obtain ⟨b2, e2⟩ : ∃ b, Pt.okP s p = b := ⟨_, rfl⟩
    have He2 := Lib.hid e2
    cases b2
    · have HF := Lib.hid (show eyB s cs p x = false by rw [He.out, He1.out, e2]; rfl)
      have CV := Lib.hid cV
      clear e2 cV
      go_enter Tryd.func6, Tryd.ntmps6
      go_wp2_with fail
      refine (s_validBoard _ _ _ _ _ _ _ H.out (by simp; omega) hn).mono ?_
      rintro e y ⟨rfl, hb⟩
      have v0 := (Bxx.out.below hb (by simp)).cell0
      have v1 := (Bxx.out.below hb (by simp)).cell1
      have Hb2 := Lib.hid (Hb.out.trans (hb.mono (by simp)))
      clear hb
      rw [He1.out]
      go_wp2_with fail
      refine (CV.out _).mono ?_
      rintro e w' ⟨rfl, rfl⟩
      rw [He2.out]
      go_wp2_with fail
      go_ret
      exact ⟨ret_bool HF.out.symm, Hb2.out⟩
    · obtain ⟨_, _, p3, p4⟩ := (Pt.okP_iff s p).1 e2
      have CV := Lib.hid cV
      clear e2 cV
      obtain ⟨b3, e3⟩ : ∃ b, (decide (1 ≤ x) && decide (x ≤ 2)) = b := ⟨_, rfl⟩
      have He3 := Lib.hid e3
      cases b3
      · have HF := Lib.hid (show eyB s cs p x = false by rw [He.out, He1.out, He2.out, e3]; rfl)
        clear e3
        go_enter Tryd.func6, Tryd.ntmps6
        go_wp2_with fail
        refine (s_validBoard _ _ _ _ _ _ _ H.out (by simp; omega) hn).mono ?_
        rintro e y ⟨rfl, hb⟩
        have v0 := (Bxx.out.below hb (by simp)).cell0
        have v1 := (Bxx.out.below hb (by simp)).cell1
        have Hb2 := Lib.hid (Hb.out.trans (hb.mono (by simp)))
        clear hb
        rw [He1.out]
        go_wp2_with fail
        refine (CV.out _).mono ?_
        rintro e w' ⟨rfl, rfl⟩
        rw [He2.out]
        go_wp2_with fail
        refine (s_eyeColor _ _).mono ?_
        rintro e w' ⟨rfl, rfl⟩
        rw [He3.out]
        go_wp2_with fail
        go_ret
        exact ⟨ret_bool HF.out.symm, Hb2.out⟩
      · have hx : 1 ≤ x ∧ x ≤ 2 := by simpa using e3
        obtain ⟨x1, x2⟩ := hx
        obtain ⟨t, rfl⟩ := Int.eq_ofNat_of_zero_le (show 0 ≤ s by omega)
        obtain ⟨q, rfl⟩ := Int.eq_ofNat_of_zero_le p3
        have hq : q < t * t := by exact_mod_cast p4
        have hnn : n = t * t := by
          have := Hq3.out
          have h' := Hl.out
          have : (n : Int) = (t : Int) * t := by omega
          exact_mod_cast this
        have HF := Lib.hid (show eyB (t : Int) cs (q : Int) x = eyeS t cs q x by rw [He.out, He1.out, He2.out, e3]; rfl)
        have CE : Hid (∀ w, Ints w B A n cs → B ≤ w.heap.size → Calls Tryd.prog 20 #[.agg #[.int .i64 (t : Nat), .slice A n c], .int .i64 (q : Nat), .int .i64 x] w fun e w' => e = .returned (.bool (eyeS t cs q x)) ∧ Below w.heap.size w w') := Lib.hid fun w h hB => s_isEye t q x w B A n c cs h hB (by omega) (by omega) hnn hq x1 x2
        clear e3 hnn hq p3 p4
        go_enter Tryd.func6, Tryd.ntmps6
        go_wp2_with fail
        refine (s_validBoard _ _ _ _ _ _ _ H.out (by simp; omega) hn).mono ?_
        rintro e y ⟨rfl, hb⟩
        have v0 := (Bxx.out.below hb (by simp)).cell0
        have v1 := (Bxx.out.below hb (by simp)).cell1
        have H2 := Lib.hid (H.out.below hb (by simp; omega))
        have Hb2 := Lib.hid (Hb.out.trans (hb.mono (by simp)))
        clear hb
        rw [He1.out]
        go_wp2_with fail
        refine (CV.out _).mono ?_
        rintro e w' ⟨rfl, rfl⟩
        rw [He2.out]
        go_wp2_with fail
        refine (s_eyeColor _ _).mono ?_
        rintro e w' ⟨rfl, rfl⟩
        rw [He3.out]
        go_wp2_with fail
        refine (CE.out _ H2.out (by have := Hb2.out.size; omega)).mono ?_
        rintro e y2 ⟨rfl, hb⟩
        have Hb3 := Lib.hid (Hb2.out.trans (hb.mono Hb2.out.size))
        clear hb
        go_wp2_with fail
        go_ret
        exact ⟨ret_bool HF.out.symm, Hb3.out⟩
end
end Go.Proofs.YtfpibldknjcehaaDoor
