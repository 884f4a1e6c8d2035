/-
  Canonical and inverted patterns of the program.
-/
import Derived.Test.YtpopbcmfbcmojaaPkK
import Derived.Test.YtpopbcmfbcmojaaInvS
namespace Go.Proofs.Ytpopbcmfbcmojaa
set_option maxRecDepth 100000
open Go.RowKit

def Pk.ok (n : Int) : Bool := decide (0 ≤ n) && decide (n ≤ 65535)
theorem Pk.ok_iff {n : Int} : Pk.ok n = true ↔ 0 ≤ n ∧ n ≤ 65535 := by simp [Pk.ok]
def Pk.canA (n : Int) : Int := if Pk.ok n = true then Pk.can n else -1
def Pk.invA (n : Int) : Int := if Pk.ok n = true then Pk.inv oth n else -1
theorem oth_ex : Pk.Ex oth := by
  refine ⟨rfl, ?_, ?_⟩
  · intro x hx
    unfold Pk.d4 at *
    have : x = 0 ∨ x = 1 ∨ x = 2 ∨ x = 3 := by omega
    rcases this with rfl | rfl | rfl | rfl <;> decide
  · intro x hx
    unfold Pk.d4 at *
    have : x = 0 ∨ x = 1 ∨ x = 2 ∨ x = 3 := by omega
    rcases this with rfl | rfl | rfl | rfl <;> decide
theorem i_invPat (n : Int) (w : World) : Calls Try.prog 17 #[.int .i64 n] w fun e w' => e = .returned (.int .i64 (Pk.invA n)) ∧ Below w.heap.size w w' := by
  by_cases hv : Pk.ok n = true
  · obtain ⟨h0, h1⟩ := Pk.ok_iff.1 hv
    have hA : Pk.invA n = Pk.pat (othCs (Pk.cells n)) := by unfold Pk.invA; rw [if_pos hv]; rfl
    have HA := Lib.hid hA
    have Hv := Lib.hid hv
    clear hA hv
    go_enter Try.func17, Try.ntmps17
    go_wp2_with fail
    refine (i_vpat n _).mono ?_
    rintro e y ⟨rfl, rfl⟩
    rw [show (decide (0 ≤ n) && decide (n ≤ 65535)) = true from Hv.out]
    go_wp2_with fail
    refine (i_patCells n _ h0 h1).mono ?_
    rintro e y1 ⟨A, c, rfl, ho, hb⟩
    have Ho := Lib.hid ho.ints
    have HB := Lib.hid hb
    have hz := hb.size
    clear ho hb
    go_wp2_with fail
    refine (i_inverted _ _ _ 9 _ _ Ho.out (Nat.le_refl _) (by omega)).mono ?_
    rintro e y2 ⟨A2, c2, rfl, ho2, hb2⟩
    have HB := Lib.hid (HB.out.trans (hb2.mono hz))
    have Ho2 := Lib.hid ho2.ints
    clear ho2 hb2 Ho
    go_wp2_with fail
    refine (i_pattern _ (Pk.map_good oth_ex (Pk.good_cells n)).nine _ _ _ _ Ho2.out).mono ?_
    rintro e y3 ⟨rfl, rfl⟩
    go_wp2_with fail
    go_ret
    exact ⟨ret_int HA.out.symm, HB.out⟩
  · have hv' : (decide (0 ≤ n) && decide (n ≤ 65535)) = false := by simpa [Pk.ok] using hv
    have hA : Pk.invA n = -1 := by unfold Pk.invA; rw [if_neg hv]
    have HA := Lib.hid hA
    have Hv := Lib.hid hv'
    clear hA hv hv'
    go_enter Try.func17, Try.ntmps17
    go_wp2_with fail
    refine (i_vpat n _).mono ?_
    rintro e y ⟨rfl, rfl⟩
    rw [Hv.out]
    go_wp2_with fail
    go_ret
    exact ⟨ret_int HA.out.symm, Below.refl _ _⟩
set_option maxHeartbeats 2000000 in
theorem i_canPat (n : Int) (w : World) : Calls Try.prog 15 #[.int .i64 n] w fun e w' => e = .returned (.int .i64 (Pk.canA n)) ∧ Below w.heap.size w w' := by
  by_cases hv : Pk.ok n = true
  · obtain ⟨h0, h1⟩ := Pk.ok_iff.1 hv
    have hA : Pk.canA n = Pk.least (Pk.ims n) 7 := by unfold Pk.canA; rw [if_pos hv, Pk.least_ims n 7 (by omega)]; rfl
    have HA := Lib.hid hA
    have Hv := Lib.hid hv
    clear hA hv
    go_enter Try.func15, Try.ntmps15
    go_wp2_with fail
    refine (i_vpat n _).mono ?_
    rintro e y ⟨rfl, rfl⟩
    rw [show (decide (0 ≤ n) && decide (n ≤ 65535)) = true from Hv.out]
    go_wp2_with fail
    refine (i_patImages n _ h0 h1).mono ?_
    rintro e y1 ⟨rfl, hb⟩
    have HB := Lib.hid hb
    have hz := hb.size
    clear hb
    unfold Arr8
    obtain ⟨x0, e0⟩ : ∃ x, Pk.im 0 n = x := ⟨_, rfl⟩
    obtain ⟨x1, e1⟩ : ∃ x, Pk.im 1 n = x := ⟨_, rfl⟩
    obtain ⟨x2, e2⟩ : ∃ x, Pk.im 2 n = x := ⟨_, rfl⟩
    obtain ⟨x3, e3⟩ : ∃ x, Pk.im 3 n = x := ⟨_, rfl⟩
    obtain ⟨x4, e4⟩ : ∃ x, Pk.im 4 n = x := ⟨_, rfl⟩
    obtain ⟨x5, e5⟩ : ∃ x, Pk.im 5 n = x := ⟨_, rfl⟩
    obtain ⟨x6, e6⟩ : ∃ x, Pk.im 6 n = x := ⟨_, rfl⟩
    obtain ⟨x7, e7⟩ : ∃ x, Pk.im 7 n = x := ⟨_, rfl⟩
    have hI : Pk.ims n = [x0, x1, x2, x3, x4, x5, x6, x7] := by unfold Pk.ims; rw [e0, e1, e2, e3, e4, e5, e6, e7]
    rw [e0, e1, e2, e3, e4, e5, e6, e7]
    have HI := Lib.hid hI
    clear e0 e1 e2 e3 e4 e5 e6 e7 hI
    go_wp2_with fail
    have hl := Ints.lit y1 67 [x0, x1, x2, x3, x4, x5, x6, x7]
    refine (i_min [x0, x1, x2, x3, x4, x5, x6, x7] 7 _ _ _ _ hl (by omega)).mono ?_
    rintro e y2 ⟨rfl, rfl⟩
    have Hb2 := Lib.hid (HB.out.trans (((Below.refl y1.heap.size y1).alloc (Nat.le_refl _) (.cells #[.int .i64 x0, .int .i64 x1, .int .i64 x2, .int .i64 x3, .int .i64 x4, .int .i64 x5, .int .i64 x6, .int .i64 x7] 67)).mono hz))
    clear hl
    go_wp2_with fail
    go_ret
    exact ⟨ret_int (by rw [HA.out, HI.out]), Hb2.out⟩
  · have hv' : (decide (0 ≤ n) && decide (n ≤ 65535)) = false := by simpa [Pk.ok] using hv
    have hA : Pk.canA n = -1 := by unfold Pk.canA; rw [if_neg hv]
    have HA := Lib.hid hA
    have Hv := Lib.hid hv'
    clear hA hv hv'
    go_enter Try.func15, Try.ntmps15
    go_wp2_with fail
    refine (i_vpat n _).mono ?_
    rintro e y ⟨rfl, rfl⟩
    rw [Hv.out]
    go_wp2_with fail
    go_ret
    exact ⟨ret_int HA.out.symm, Below.refl _ _⟩
end Go.Proofs.Ytpopbcmfbcmojaa
