/-
  The program's test of corners.
-/
import Derived.Test.YtpogjegihhljpaaDoorEyeI
namespace Go.Proofs.YtpogjegihhljpaaDoor
set_option maxRecDepth 100000
open Go.RowKit

section
variable (s p E M O : Nat) (w : World) (h1 : 1 ≤ s) (h2 : s ≤ 7) (hp : p < s * s) (hO : O < 2 ^ (s * s))
include h1 h2 hp hO

set_option maxHeartbeats 2000000 in
theorem i_cornersHold1 : Calls Tryd.prog 94 #[.agg #[.int .i64 (s : Nat), .int .u64 (E : Nat), .int .u64 (M : Nat), .int .u64 (O : Nat)], .int .i64 (p : Nat), .int .i64 1] w fun e w' => e = .returned (.bool (holdB s p O)) ∧ Below w.heap.size w w' := by
  have h7 := (Bt.masks s h1 h2).2.2.2.2.2.2
  have hCl := Bt.abv_lt s (Bt.bes s (2 ^ p))
  have cD : ∀ w, Calls Tryd.prog 111 #[.int .i64 (s : Nat), .int .i64 (p : Nat)] w fun e w' => Drew (.int .u64 ((Bt.abv s (Bt.bes s (2 ^ p)) : Nat) : Int)) w e w' := fun w => i_diagonals s p w h1 h2 hp
  have hh : holdB s p O = if (Bt.pts (Bt.abv s (Bt.bes s (2 ^ p))) 64).length = 4 then decide ((Bt.pts (Bt.abv s (Bt.bes s (2 ^ p)) &&& O) 64).length ≤ 1) else decide ((Bt.pts (Bt.abv s (Bt.bes s (2 ^ p)) &&& O) 64).length = 0) := rfl
  obtain ⟨C, hC⟩ : ∃ C, Bt.abv s (Bt.bes s (2 ^ p)) = C := ⟨_, rfl⟩
  rw [hC] at hCl cD hh
  obtain ⟨L, hL⟩ : ∃ L, C &&& O = L := ⟨_, rfl⟩
  have hLC : L ≤ C := by rw [← hL]; exact Nat.and_le_left
  have hC64 : C < 18446744073709551616 := by omega
  have hL64 : L < 18446744073709551616 := by omega
  have r1 : bits .and .u64 (C : Int) (O : Int) = (L : Int) := by rw [← hL]; exact u64_and_nat _ _ hC64 (by omega)
  rw [hL] at hh
  have cC : ∀ w, Calls Tryd.prog 112 #[.int .u64 (C : Nat)] w fun e w' => e = .returned (.int .i64 ((Bt.pts C 64).length : Int)) ∧ w = w' := fun w => i_pcount C w hC64
  have cL : ∀ w, Calls Tryd.prog 112 #[.int .u64 (L : Nat)] w fun e w' => e = .returned (.int .i64 ((Bt.pts L 64).length : Int)) ∧ w = w' := fun w => i_pcount L w hL64
  have lC := Bt.pts_len C 64
  have lL := Bt.pts_len L 64
  obtain ⟨nC, hnC⟩ : ∃ n, (Bt.pts C 64).length = n := ⟨_, rfl⟩
  obtain ⟨nL, hnL⟩ : ∃ n, (Bt.pts L 64).length = n := ⟨_, rfl⟩
  rw [hnC] at cC hh lC
  rw [hnL] at cL hh lL
  have CD := Lib.hid cD
  have CC := Lib.hid cC
  have CL := Lib.hid cL
  have HH := Lib.hid hh
  have P0 := Lib.hid (Px.new w (s : Nat) E M O)
  have Hb := Lib.hid ((Below.refl w.heap.size w).alloc (Nat.le_refl _) (.cells #[.int .i64 (s : Nat), .int .u64 (E : Nat), .int .u64 (M : Nat), .int .u64 (O : Nat)] 67))
  have c0 := P0.out.c0
  have c1 := P0.out.c1
  have c2 := P0.out.c2
  have c3 := P0.out.c3
  clear h7 hCl hC hL hLC hC64 hL64 cD cC cL hh hnC hnL hO
  by_cases h4 : nC = 4
  · have b4 : ((nC : Int) == 4) = true := by rw [h4]; rfl
    have HH4 : Hid (holdB s p O = decide ((nL : Int) ≤ 1)) := Lib.hid (by rw [HH.out, if_pos h4]; exact decide_eq_decide.2 (by omega))
    clear h4
    go_enter Tryd.func94, Tryd.ntmps94
    go_wp2_with fail
    refine (CD.out _).mono ?_
    rintro e w' ⟨k, rfl, rfl⟩
    go_wp2_with fail
    refine (i_oth1 _).mono ?_
    rintro e w' ⟨rfl, rfl⟩
    go_wp2_with fail
    refine (CL.out _).mono ?_
    rintro e w' ⟨rfl, rfl⟩
    go_wp2_with fail
    refine (CC.out _).mono ?_
    rintro e w' ⟨rfl, rfl⟩
    go_wp2_with fail
    go_ret
    exact ⟨ret_bool HH4.out.symm, ⟨Hb.out.os, Hb.out.tape, Hb.out.output, Hb.out.size, Hb.out.block⟩⟩
  · have b4 : ((nC : Int) == 4) = false := by simp; omega
    have HH4 : Hid (holdB s p O = ((nL : Int) == 0)) := Lib.hid (by
      rw [HH.out, if_neg h4, Bool.eq_iff_iff, decide_eq_true_eq, beq_iff_eq]
      omega)
    clear h4
    go_enter Tryd.func94, Tryd.ntmps94
    go_wp2_with fail
    refine (CD.out _).mono ?_
    rintro e w' ⟨k, rfl, rfl⟩
    go_wp2_with fail
    refine (i_oth1 _).mono ?_
    rintro e w' ⟨rfl, rfl⟩
    go_wp2_with fail
    refine (CL.out _).mono ?_
    rintro e w' ⟨rfl, rfl⟩
    go_wp2_with fail
    refine (CC.out _).mono ?_
    rintro e w' ⟨rfl, rfl⟩
    go_wp2_with fail
    go_ret
    exact ⟨ret_bool HH4.out.symm, ⟨Hb.out.os, Hb.out.tape, Hb.out.output, Hb.out.size, Hb.out.block⟩⟩

set_option maxHeartbeats 2000000 in
theorem i_cornersHold2 : Calls Tryd.prog 94 #[.agg #[.int .i64 (s : Nat), .int .u64 (E : Nat), .int .u64 (O : Nat), .int .u64 (M : Nat)], .int .i64 (p : Nat), .int .i64 2] w fun e w' => e = .returned (.bool (holdB s p O)) ∧ Below w.heap.size w w' := by
  have h7 := (Bt.masks s h1 h2).2.2.2.2.2.2
  have hCl := Bt.abv_lt s (Bt.bes s (2 ^ p))
  have cD : ∀ w, Calls Tryd.prog 111 #[.int .i64 (s : Nat), .int .i64 (p : Nat)] w fun e w' => Drew (.int .u64 ((Bt.abv s (Bt.bes s (2 ^ p)) : Nat) : Int)) w e w' := fun w => i_diagonals s p w h1 h2 hp
  have hh : holdB s p O = if (Bt.pts (Bt.abv s (Bt.bes s (2 ^ p))) 64).length = 4 then decide ((Bt.pts (Bt.abv s (Bt.bes s (2 ^ p)) &&& O) 64).length ≤ 1) else decide ((Bt.pts (Bt.abv s (Bt.bes s (2 ^ p)) &&& O) 64).length = 0) := rfl
  obtain ⟨C, hC⟩ : ∃ C, Bt.abv s (Bt.bes s (2 ^ p)) = C := ⟨_, rfl⟩
  rw [hC] at hCl cD hh
  obtain ⟨L, hL⟩ : ∃ L, C &&& O = L := ⟨_, rfl⟩
  have hLC : L ≤ C := by rw [← hL]; exact Nat.and_le_left
  have hC64 : C < 18446744073709551616 := by omega
  have hL64 : L < 18446744073709551616 := by omega
  have r1 : bits .and .u64 (C : Int) (O : Int) = (L : Int) := by rw [← hL]; exact u64_and_nat _ _ hC64 (by omega)
  rw [hL] at hh
  have cC : ∀ w, Calls Tryd.prog 112 #[.int .u64 (C : Nat)] w fun e w' => e = .returned (.int .i64 ((Bt.pts C 64).length : Int)) ∧ w = w' := fun w => i_pcount C w hC64
  have cL : ∀ w, Calls Tryd.prog 112 #[.int .u64 (L : Nat)] w fun e w' => e = .returned (.int .i64 ((Bt.pts L 64).length : Int)) ∧ w = w' := fun w => i_pcount L w hL64
  have lC := Bt.pts_len C 64
  have lL := Bt.pts_len L 64
  obtain ⟨nC, hnC⟩ : ∃ n, (Bt.pts C 64).length = n := ⟨_, rfl⟩
  obtain ⟨nL, hnL⟩ : ∃ n, (Bt.pts L 64).length = n := ⟨_, rfl⟩
  rw [hnC] at cC hh lC
  rw [hnL] at cL hh lL
  have CD := Lib.hid cD
  have CC := Lib.hid cC
  have CL := Lib.hid cL
  have HH := Lib.hid hh
  have P0 := Lib.hid (Px.new w (s : Nat) E O M)
  have Hb := Lib.hid ((Below.refl w.heap.size w).alloc (Nat.le_refl _) (.cells #[.int .i64 (s : Nat), .int .u64 (E : Nat), .int .u64 (O : Nat), .int .u64 (M : Nat)] 67))
  have c0 := P0.out.c0
  have c1 := P0.out.c1
  have c2 := P0.out.c2
  have c3 := P0.out.c3
  clear h7 hCl hC hL hLC hC64 hL64 cD cC cL hh hnC hnL hO
  by_cases h4 : nC = 4
  · have b4 : ((nC : Int) == 4) = true := by rw [h4]; rfl
    have HH4 : Hid (holdB s p O = decide ((nL : Int) ≤ 1)) := Lib.hid (by rw [HH.out, if_pos h4]; exact decide_eq_decide.2 (by omega))
    clear h4
    go_enter Tryd.func94, Tryd.ntmps94
    go_wp2_with fail
    refine (CD.out _).mono ?_
    rintro e w' ⟨k, rfl, rfl⟩
    go_wp2_with fail
    refine (i_oth2 _).mono ?_
    rintro e w' ⟨rfl, rfl⟩
    go_wp2_with fail
    refine (CL.out _).mono ?_
    rintro e w' ⟨rfl, rfl⟩
    go_wp2_with fail
    refine (CC.out _).mono ?_
    rintro e w' ⟨rfl, rfl⟩
    go_wp2_with fail
    go_ret
    exact ⟨ret_bool HH4.out.symm, ⟨Hb.out.os, Hb.out.tape, Hb.out.output, Hb.out.size, Hb.out.block⟩⟩
  · have b4 : ((nC : Int) == 4) = false := by simp; omega
    have HH4 : Hid (holdB s p O = ((nL : Int) == 0)) := Lib.hid (by
      rw [HH.out, if_neg h4, Bool.eq_iff_iff, decide_eq_true_eq, beq_iff_eq]
      omega)
    clear h4
    go_enter Tryd.func94, Tryd.ntmps94
    go_wp2_with fail
    refine (CD.out _).mono ?_
    rintro e w' ⟨k, rfl, rfl⟩
    go_wp2_with fail
    refine (i_oth2 _).mono ?_
    rintro e w' ⟨rfl, rfl⟩
    go_wp2_with fail
    refine (CL.out _).mono ?_
    rintro e w' ⟨rfl, rfl⟩
    go_wp2_with fail
    refine (CC.out _).mono ?_
    rintro e w' ⟨rfl, rfl⟩
    go_wp2_with fail
    go_ret
    exact ⟨ret_bool HH4.out.symm, ⟨Hb.out.os, Hb.out.tape, Hb.out.output, Hb.out.size, Hb.out.block⟩⟩

end
end Go.Proofs.YtpogjegihhljpaaDoor
