/-
  Whether a point is an eye, in the program.
-/
import Derived.Test.YtfpibldknjcehaaDoorEyeU
namespace Go.Proofs.YtfpibldknjcehaaDoor
set_option maxRecDepth 100000
open Go.RowKit

/-- The program's eyes, as the model tells them. -/
theorem eye_bit (t q : Nat) (cs : List Int) (x y : Int) (n m : Nat) (h1 : 1 ≤ t) (h2 : t ≤ 7) (hn : n = t * t) (hl : cs.length = n) (hok : ∀ c ∈ cs, 0 ≤ c ∧ c ≤ 2) (hx : (x = 1 ∧ y = 2) ∨ (x = 2 ∧ y = 1)) (hq : q < t * t)
    (hm : IsEy t (encM t (Bt.msk cs 0 n) (Bt.msk cs x n) (Bt.msk cs y n)) (Bt.msk cs y n) m) : m.testBit q = eyeS t cs q x := by
  have hy : 3 - x = y := by omega
  rw [hm q, enc_eq t cs x y n h1 h2 hn hl hok hx q hq, hold_eq t cs y n h1 h2 hn q hq, eyeS, hy]
theorem ey_lt {s Y O m : Nat} (h : IsEy s Y O m) (hY : Y < 2 ^ 49) : m < 2 ^ 49 := by
  refine Nat.lt_pow_two_of_testBit _ fun j hj => ?_
  rw [h j, Bt.high hY hj, Bool.false_and]

theorem ey_ex (t Y O : Nat) (hY : Y < 2 ^ 64) : ∃ m, IsEy t Y O m := by
  have key : ∀ j, j ≤ 64 → ∃ m : Nat, ∀ z : Nat, m.testBit z = (decide (z < j) && (Y.testBit z && holdB t z O)) := by
    intro j
    induction j with
    | zero => exact fun _ => ⟨0, fun z => by simp⟩
    | succ j ih =>
      intro hj
      obtain ⟨m, hm⟩ := ih (by omega)
      cases e : (Y.testBit j && holdB t j O)
      · refine ⟨m, fun z => ?_⟩
        rw [hm z]
        by_cases hz : z = j
        · subst hz; rw [e, Bool.and_false, Bool.and_false]
        · congr 1; exact decide_eq_decide.2 (by omega)
      · refine ⟨m ||| 2 ^ j, fun z => ?_⟩
        rw [Nat.testBit_or, hm z, Nat.testBit_two_pow]
        by_cases hz : z = j
        · subst hz; rw [e]; simp
        · have a1 : decide (j = z) = false := decide_eq_false (by omega)
          rw [a1, Bool.or_false]
          congr 1; exact decide_eq_decide.2 (by omega)
  obtain ⟨m, hm⟩ := key 64 (Nat.le_refl _)
  refine ⟨m, fun z => ?_⟩
  rw [hm z]
  by_cases hz : z < 64
  · rw [decide_eq_true hz, Bool.true_and]
  · rw [Bt.high (n := 64) hY (by omega)]; simp

theorem i_eyesX (t : Nat) (cs : List Int) (x : Int) (n : Nat) (t1 : 1 ≤ t) (t2 : t ≤ 7) (hnn : n = t * t) (hl : cs.length = n) (hok : ∀ c ∈ cs, 0 ≤ c ∧ c ≤ 2) (hx : x = 1 ∨ x = 2) :
    ∃ m Y : Nat, m < 2 ^ 49 ∧ Y < 2 ^ (t * t) ∧ (∀ q, q < t * t → m.testBit q = eyeS t cs q x) ∧ (∀ q, q < t * t → Y.testBit q = encS t cs q x) ∧
      ∀ w, Tab w → Calls Tryd.prog 26 #[.agg #[.int .i64 (t : Nat), .int .u64 (Bt.msk cs 0 n : Nat), .int .u64 (Bt.msk cs 1 n : Nat), .int .u64 (Bt.msk cs 2 n : Nat)], .int .i64 x] w fun e w' => e = .returned (.tuple #[.int .u64 (m : Nat), .int .u64 ((Y &&& (18446744073709551615 - m) : Nat) : Int)]) ∧ Below w.heap.size w w' := by
  have h7 := (Bt.masks t t1 t2).2.2.2.2.2.2
  have l0 : Bt.msk cs 0 n < 2 ^ (t * t) := by rw [← hnn]; exact Bt.msk_lt cs 0 n
  have l1 : Bt.msk cs 1 n < 2 ^ (t * t) := by rw [← hnn]; exact Bt.msk_lt cs 1 n
  have l2 : Bt.msk cs 2 n < 2 ^ (t * t) := by rw [← hnn]; exact Bt.msk_lt cs 2 n
  rcases hx with rfl | rfl
  · have hY := encM_lt (s := t) (M := Bt.msk cs 1 n) (O := Bt.msk cs 2 n) l0
    obtain ⟨m, hm⟩ := ey_ex t (encM t (Bt.msk cs 0 n) (Bt.msk cs 1 n) (Bt.msk cs 2 n)) (Bt.msk cs 2 n) (by omega)
    refine ⟨m, _, ey_lt hm (Nat.lt_of_lt_of_le hY h7), hY, fun q hq => eye_bit t q cs 1 2 n m t1 t2 hnn hl hok (by simp) hq hm, fun q hq => enc_eq t cs 1 2 n t1 t2 hnn hl hok (by simp) q hq, fun w ht => (i_eyes1 t _ _ _ w ht t1 t2 l0 l1 l2).mono ?_⟩
    rintro e w' ⟨m', rfl, hm', hb⟩
    rw [hm'.one hm]
    exact ⟨rfl, hb⟩
  · have hY := encM_lt (s := t) (M := Bt.msk cs 2 n) (O := Bt.msk cs 1 n) l0
    obtain ⟨m, hm⟩ := ey_ex t (encM t (Bt.msk cs 0 n) (Bt.msk cs 2 n) (Bt.msk cs 1 n)) (Bt.msk cs 1 n) (by omega)
    refine ⟨m, _, ey_lt hm (Nat.lt_of_lt_of_le hY h7), hY, fun q hq => eye_bit t q cs 2 1 n m t1 t2 hnn hl hok (by simp) hq hm, fun q hq => enc_eq t cs 2 1 n t1 t2 hnn hl hok (by simp) q hq, fun w ht => (i_eyes2 t _ _ _ w ht t1 t2 l0 l2 l1).mono ?_⟩
    rintro e w' ⟨m', rfl, hm', hb⟩
    rw [hm'.one hm]
    exact ⟨rfl, hb⟩

section
variable (s p x : Int) (w : World) (B : Nat) (A : Option Addr) (n c : Nat) (cs : List Int) (h : Ints w B A n cs) (hB : B ≤ w.heap.size) (hn : n ≤ 1000000000) (ht : Tab w)
include h hB hn ht

set_option maxHeartbeats 2000000 in
theorem i_IsEye : Calls Tryd.prog 8 #[.agg #[.int .i64 s, .slice A n c], .int .i64 p, .int .i64 x] w fun e w' => e = .returned (.bool (eyB s cs p x)) ∧ Below w.heap.size w w' := by
  have hb1 : Below w.heap.size w (w.alloc (.cells #[.int .i64 s, .slice A n c] 27)) := (Below.refl _ _).alloc (Nat.le_refl _) _
  have H := Lib.hid (h.below hb1 hB)
  have Hb := Lib.hid hb1
  have Bxx := Lib.hid (Bx.new 27 w s (.slice A n c))
  have HT := Lib.hid (ht.alloc (.cells #[.int .i64 s, .slice A n c] 27))
  have Hl := Lib.hid h.1
  have He := Lib.hid (show eyB s cs p x = (Bd.okB s cs && (Pt.okP s p && ((decide (1 ≤ x) && decide (x ≤ 2)) && eyeS s cs p x))) from rfl)
  clear hb1 h ht
  obtain ⟨b1, e1⟩ : ∃ b, Bd.okB s cs = b := ⟨_, rfl⟩
  have He1 := Lib.hid e1
  cases b1
  · have HF := Lib.hid (show eyB s cs p x = false by rw [He.out, e1]; rfl)
    clear e1
    go_enter Tryd.func8, Tryd.ntmps8
    go_wp2_with fail
    refine (i_validBoard _ _ _ _ _ _ _ H.out (by simp; omega) hn).mono ?_
    rintro e y ⟨rfl, hb⟩
    have Hb2 := Lib.hid (Hb.out.trans (hb.mono (by simp)))
    clear hb
    rw [He1.out]
    go_wp2_with fail
    go_ret
    exact ⟨ret_bool HF.out.symm, Hb2.out⟩
  · obtain ⟨b2, e2⟩ : ∃ b, Pt.okP s p = b := ⟨_, rfl⟩
    have He2 := Lib.hid e2
    cases b2
    · have HF := Lib.hid (show eyB s cs p x = false by rw [He.out, He1.out, e2]; rfl)
      clear e2 e1
      go_enter Tryd.func8, Tryd.ntmps8
      go_wp2_with fail
      refine (i_validBoard _ _ _ _ _ _ _ H.out (by simp; omega) hn).mono ?_
      rintro e y ⟨rfl, hb⟩
      have v0 := (Bxx.out.below hb (by simp)).cell0
      have v1 := (Bxx.out.below hb (by simp)).cell1
      have Hb2 := Lib.hid (Hb.out.trans (hb.mono (by simp)))
      clear hb
      rw [He1.out]
      go_wp2_with fail
      refine (i_point _ _ _).mono ?_
      rintro e w' ⟨rfl, rfl⟩
      rw [He2.out]
      go_wp2_with fail
      go_ret
      exact ⟨ret_bool HF.out.symm, Hb2.out⟩
    · obtain ⟨_, _, p3, p4⟩ := (Pt.okP_iff s p).1 e2
      clear e2
      obtain ⟨b3, e3⟩ : ∃ b, (decide (1 ≤ x) && decide (x ≤ 2)) = b := ⟨_, rfl⟩
      have He3 := Lib.hid e3
      cases b3
      · have HF := Lib.hid (show eyB s cs p x = false by rw [He.out, He1.out, He2.out, e3]; rfl)
        clear e3 e1 p3 p4
        go_enter Tryd.func8, Tryd.ntmps8
        go_wp2_with fail
        refine (i_validBoard _ _ _ _ _ _ _ H.out (by simp; omega) hn).mono ?_
        rintro e y ⟨rfl, hb⟩
        have v0 := (Bxx.out.below hb (by simp)).cell0
        have v1 := (Bxx.out.below hb (by simp)).cell1
        have Hb2 := Lib.hid (Hb.out.trans (hb.mono (by simp)))
        clear hb
        rw [He1.out]
        go_wp2_with fail
        refine (i_point _ _ _).mono ?_
        rintro e w' ⟨rfl, rfl⟩
        rw [He2.out]
        go_wp2_with fail
        refine (i_eyeStone _ _).mono ?_
        rintro e w' ⟨rfl, rfl⟩
        rw [He3.out]
        go_wp2_with fail
        go_ret
        exact ⟨ret_bool HF.out.symm, Hb2.out⟩
      · have hx : 1 ≤ x ∧ x ≤ 2 := by simpa using e3
        obtain ⟨q1, q2, q3, q4⟩ := (Bd.okB_iff s cs).1 e1
        obtain ⟨t, rfl⟩ := Int.eq_ofNat_of_zero_le (show 0 ≤ s by omega)
        obtain ⟨q, rfl⟩ := Int.eq_ofNat_of_zero_le p3
        have hq : q < t * t := by exact_mod_cast p4
        have t1 : 1 ≤ t := by omega
        have t2 : t ≤ 7 := by omega
        have hnn : n = t * t := by
          have h' := Hl.out
          have : (n : Int) = (t : Int) * t := by omega
          exact_mod_cast this
        have hsq := (Bt.sq_nat t t1 t2).2.1
        have h7 := (Bt.masks t t1 t2).2.2.2.2.2.2
        have HF := Lib.hid (show eyB (t : Int) cs (q : Int) x = eyeS t cs q x by rw [He.out, He1.out, He2.out, e3]; rfl)
        have CP : Hid (∀ w, Ints w B A n cs → B ≤ w.heap.size → Calls Tryd.prog 25 #[.agg #[.int .i64 (t : Nat), .slice A n c]] w fun e w' => e = .returned (.agg #[.int .i64 (t : Nat), .int .u64 (Bt.msk cs 0 n : Nat), .int .u64 (Bt.msk cs 1 n : Nat), .int .u64 (Bt.msk cs 2 n : Nat)]) ∧ Below w.heap.size w w') := Lib.hid fun w h hB => i_positionOf t w B A n c cs h hB e1
        obtain ⟨m, Y, hml, hYl, hmb, _, cE⟩ := i_eyesX t cs x n t1 t2 hnn Hl.out q4 (by omega)
        have hm64 : m < 18446744073709551616 := by omega
        have hmq := hmb q hq
        obtain ⟨f, hf⟩ : ∃ f, f = Y &&& (18446744073709551615 - m) := ⟨_, rfl⟩
        rw [← hf] at cE
        have CE := Lib.hid cE
        clear hml hYl hmb hf
        have hq64 : q < 64 := by omega
        have hbit := bit_ne m q hm64 hq64
        obtain ⟨P, hP⟩ : ∃ P, P = 2 ^ q := ⟨_, rfl⟩
        rw [← hP, hmq, ← HF.out] at hbit
        have Hbit := Lib.hid hbit
        have HP := Lib.hid hP
        obtain ⟨E0, h0⟩ : ∃ E, Bt.msk cs 0 n = E := ⟨_, rfl⟩
        obtain ⟨E1, h1⟩ : ∃ E, Bt.msk cs 1 n = E := ⟨_, rfl⟩
        obtain ⟨E2, h2⟩ : ∃ E, Bt.msk cs 2 n = E := ⟨_, rfl⟩
        rw [h0, h1, h2] at CP CE
        clear e3 hnn hq p3 p4 e1 hbit hP hmq q1 q2 q3 q4 hsq h7 cE h0 h1 h2 hx
        go_enter Tryd.func8, Tryd.ntmps8
        go_wp2_with fail
        refine (i_validBoard _ _ _ _ _ _ _ H.out (by simp; omega) hn).mono ?_
        rintro e y ⟨rfl, hb⟩
        have v0 := (Bxx.out.below hb (by simp)).cell0
        have v1 := (Bxx.out.below hb (by simp)).cell1
        have H2 := Lib.hid (H.out.below hb (by simp; omega))
        have HT2 := Lib.hid (HT.out.below hb)
        have Hb2 := Lib.hid (Hb.out.trans (hb.mono (by simp)))
        clear hb
        rw [He1.out]
        go_wp2_with fail
        refine (i_point _ _ _).mono ?_
        rintro e w' ⟨rfl, rfl⟩
        rw [He2.out]
        go_wp2_with fail
        refine (i_eyeStone _ _).mono ?_
        rintro e w' ⟨rfl, rfl⟩
        rw [He3.out]
        go_wp2_with fail
        refine (CP.out _ H2.out (by have := Hb2.out.size; omega)).mono ?_
        rintro e y2 ⟨rfl, hb⟩
        have HT3 := Lib.hid (HT2.out.below hb)
        have Hb3 := Lib.hid (Hb2.out.trans (hb.mono Hb2.out.size))
        clear hb v0 v1
        go_wp2_with fail
        refine (CE.out _ HT3.out).mono ?_
        rintro e y3 ⟨rfl, hb⟩
        have Hb4 := Lib.hid (Hb3.out.trans (hb.mono Hb3.out.size))
        clear hb
        go_wp2_with fail
        refine (i_onlyN _ q P _ rfl HP.out hq64).mono ?_
        rintro e w' ⟨rfl, rfl⟩
        go_wp2_with fail
        go_ret
        exact ⟨ret_bool Hbit.out, Hb4.out⟩
end
end Go.Proofs.YtfpibldknjcehaaDoor
