/-
  The program's enclosed points, and corners.
-/
import Derived.Test.YtpogjegihhljpaaDoorAro
namespace Go.Proofs.YtpogjegihhljpaaDoor
set_option maxRecDepth 100000
open Go.RowKit

/-- Empty points all of whose neighbours have the color of M. -/
def encM (s E M O : Nat) : Nat := (E &&& Bt.aro s M) &&& (18446744073709551615 - Bt.aro s (E ||| O))
/-- Whether the corners of a point hold. -/
def holdB (s p O : Nat) : Bool := if (Bt.pts (Bt.abv s (Bt.bes s (2 ^ p))) 64).length = 4 then decide ((Bt.pts (Bt.abv s (Bt.bes s (2 ^ p)) &&& O) 64).length ≤ 1) else decide ((Bt.pts (Bt.abv s (Bt.bes s (2 ^ p)) &&& O) 64).length = 0)

section
variable (s E M O : Nat) (w : World) (h1 : 1 ≤ s) (h2 : s ≤ 7) (hE : E < 2 ^ (s * s)) (hM : M < 2 ^ (s * s)) (hO : O < 2 ^ (s * s))
include h1 h2 hE hM hO

set_option maxHeartbeats 2000000 in
theorem i_enclosed1 : Calls Tryd.prog 93 #[.agg #[.int .i64 (s : Nat), .int .u64 (E : Nat), .int .u64 (M : Nat), .int .u64 (O : Nat)], .int .i64 1] w fun e w' => e = .returned (.int .u64 ((encM s E M O : Nat) : Int)) ∧ Below w.heap.size w w' := by
  have h7 := (Bt.masks s h1 h2).2.2.2.2.2.2
  obtain ⟨Q, hQ⟩ : ∃ Q, Q = E ||| O := ⟨_, rfl⟩
  have hQl : Q < 2 ^ (s * s) := by rw [hQ]; exact Bt.or_lt hE hO
  have hAM := Bt.aro_lt s M h1 h2 hM
  have hAQ := Bt.aro_lt s Q h1 h2 hQl
  obtain ⟨aM, haM⟩ : ∃ a, a = Bt.aro s M := ⟨_, rfl⟩
  obtain ⟨aQ, haQ⟩ : ∃ a, a = Bt.aro s Q := ⟨_, rfl⟩
  rw [← haM] at hAM
  rw [← haQ] at hAQ
  obtain ⟨X, hX⟩ : ∃ X, X = E &&& aM := ⟨_, rfl⟩
  have hXE : X ≤ E := by rw [hX]; exact Nat.and_le_left
  have r1 : bits .or .u64 (E : Int) (O : Int) = (Q : Int) := by rw [hQ]; exact u64_or_nat _ _ (by omega) (by omega)
  have r2 : bits .and .u64 (E : Int) (aM : Int) = (X : Int) := by rw [hX]; exact u64_and_nat _ _ (by omega) (by omega)
  have r3 : bits .andNot .u64 (X : Int) (aQ : Int) = ((encM s E M O : Nat) : Int) := by rw [u64_andNot_nat _ _ (by omega) (by omega), hX, haM, haQ, hQ]; rfl
  have cM : ∀ w, Calls Tryd.prog 105 #[.int .u64 (M : Nat), .int .i64 (s : Nat)] w fun e w' => e = .returned (.int .u64 (aM : Int)) ∧ ∃ d, w' = w.drewN d := fun w => by rw [haM]; exact i_around s M w h1 h2 hM
  have cQ : ∀ w, Calls Tryd.prog 105 #[.int .u64 (Q : Nat), .int .i64 (s : Nat)] w fun e w' => e = .returned (.int .u64 (aQ : Int)) ∧ ∃ d, w' = w.drewN d := fun w => by rw [haQ]; exact i_around s Q w h1 h2 hQl
  have CM := Lib.hid cM
  have CQ := Lib.hid cQ
  have P0 := Lib.hid (Px.new w (s : Nat) E M O)
  have Hb := Lib.hid ((Below.refl w.heap.size w).alloc (Nat.le_refl _) (.cells #[.int .i64 (s : Nat), .int .u64 (E : Nat), .int .u64 (M : Nat), .int .u64 (O : Nat)] 67))
  have R3 := Lib.hid r3
  have c0 := P0.out.c0
  have c1 := P0.out.c1
  have c2 := P0.out.c2
  have c3 := P0.out.c3
  clear h7 hQ hQl hAM hAQ haM haQ hX hXE r3 cM cQ hE hM hO
  go_enter Tryd.func93, Tryd.ntmps93
  go_wp2_with fail
  go_quiet ((go_at_call 75; exact Calls.quiet_of_same (i_oth1 _)))
  go_wp2_with fail
  obtain ⟨y, hy⟩ : ∃ y, y = (w.alloc (.cells #[.int .i64 (s : Nat), .int .u64 (E : Nat), .int .u64 (M : Nat), .int .u64 (O : Nat)] 67)).drewN nq := ⟨_, rfl⟩
  have P1 : Hid (Px y w.heap.size (s : Nat) E M O) := Lib.hid (by rw [hy]; exact P0.out)
  have Hb1 : Hid (Below w.heap.size w y) := Lib.hid (by rw [hy]; exact ⟨Hb.out.os, Hb.out.tape, Hb.out.output, Hb.out.size, Hb.out.block⟩)
  rw [← hy]
  clear hy c0 c1 c2 c3 P0 Hb
  have c0 := P1.out.c0
  have c1 := P1.out.c1
  have c2 := P1.out.c2
  have c3 := P1.out.c3
  go_quiet ((first | (go_at_call 105; (with_reducible show Calls _ _ #[.int .u64 (M : Nat), _] _ _); exact Calls.quiet_of (CM.out _)) | (go_at_call 105; (with_reducible show Calls _ _ #[.int .u64 (Q : Nat), _] _ _); exact Calls.quiet_of (CQ.out _))))
  go_wp2_with fail
  go_ret
  exact ⟨by rw [← R3.out]; rfl, ⟨Hb1.out.os, Hb1.out.tape, Hb1.out.output, Hb1.out.size, Hb1.out.block⟩⟩

set_option maxHeartbeats 2000000 in
theorem i_enclosed2 : Calls Tryd.prog 93 #[.agg #[.int .i64 (s : Nat), .int .u64 (E : Nat), .int .u64 (O : Nat), .int .u64 (M : Nat)], .int .i64 2] w fun e w' => e = .returned (.int .u64 ((encM s E M O : Nat) : Int)) ∧ Below w.heap.size w w' := by
  have h7 := (Bt.masks s h1 h2).2.2.2.2.2.2
  obtain ⟨Q, hQ⟩ : ∃ Q, Q = E ||| O := ⟨_, rfl⟩
  have hQl : Q < 2 ^ (s * s) := by rw [hQ]; exact Bt.or_lt hE hO
  have hAM := Bt.aro_lt s M h1 h2 hM
  have hAQ := Bt.aro_lt s Q h1 h2 hQl
  obtain ⟨aM, haM⟩ : ∃ a, a = Bt.aro s M := ⟨_, rfl⟩
  obtain ⟨aQ, haQ⟩ : ∃ a, a = Bt.aro s Q := ⟨_, rfl⟩
  rw [← haM] at hAM
  rw [← haQ] at hAQ
  obtain ⟨X, hX⟩ : ∃ X, X = E &&& aM := ⟨_, rfl⟩
  have hXE : X ≤ E := by rw [hX]; exact Nat.and_le_left
  have r1 : bits .or .u64 (E : Int) (O : Int) = (Q : Int) := by rw [hQ]; exact u64_or_nat _ _ (by omega) (by omega)
  have r2 : bits .and .u64 (E : Int) (aM : Int) = (X : Int) := by rw [hX]; exact u64_and_nat _ _ (by omega) (by omega)
  have r3 : bits .andNot .u64 (X : Int) (aQ : Int) = ((encM s E M O : Nat) : Int) := by rw [u64_andNot_nat _ _ (by omega) (by omega), hX, haM, haQ, hQ]; rfl
  have cM : ∀ w, Calls Tryd.prog 105 #[.int .u64 (M : Nat), .int .i64 (s : Nat)] w fun e w' => e = .returned (.int .u64 (aM : Int)) ∧ ∃ d, w' = w.drewN d := fun w => by rw [haM]; exact i_around s M w h1 h2 hM
  have cQ : ∀ w, Calls Tryd.prog 105 #[.int .u64 (Q : Nat), .int .i64 (s : Nat)] w fun e w' => e = .returned (.int .u64 (aQ : Int)) ∧ ∃ d, w' = w.drewN d := fun w => by rw [haQ]; exact i_around s Q w h1 h2 hQl
  have CM := Lib.hid cM
  have CQ := Lib.hid cQ
  have P0 := Lib.hid (Px.new w (s : Nat) E O M)
  have Hb := Lib.hid ((Below.refl w.heap.size w).alloc (Nat.le_refl _) (.cells #[.int .i64 (s : Nat), .int .u64 (E : Nat), .int .u64 (O : Nat), .int .u64 (M : Nat)] 67))
  have R3 := Lib.hid r3
  have c0 := P0.out.c0
  have c1 := P0.out.c1
  have c2 := P0.out.c2
  have c3 := P0.out.c3
  clear h7 hQ hQl hAM hAQ haM haQ hX hXE r3 cM cQ hE hM hO
  go_enter Tryd.func93, Tryd.ntmps93
  go_wp2_with fail
  go_quiet ((go_at_call 75; exact Calls.quiet_of_same (i_oth2 _)))
  go_wp2_with fail
  obtain ⟨y, hy⟩ : ∃ y, y = (w.alloc (.cells #[.int .i64 (s : Nat), .int .u64 (E : Nat), .int .u64 (O : Nat), .int .u64 (M : Nat)] 67)).drewN nq := ⟨_, rfl⟩
  have P1 : Hid (Px y w.heap.size (s : Nat) E O M) := Lib.hid (by rw [hy]; exact P0.out)
  have Hb1 : Hid (Below w.heap.size w y) := Lib.hid (by rw [hy]; exact ⟨Hb.out.os, Hb.out.tape, Hb.out.output, Hb.out.size, Hb.out.block⟩)
  rw [← hy]
  clear hy c0 c1 c2 c3 P0 Hb
  have c0 := P1.out.c0
  have c1 := P1.out.c1
  have c2 := P1.out.c2
  have c3 := P1.out.c3
  go_quiet ((first | (go_at_call 105; (with_reducible show Calls _ _ #[.int .u64 (M : Nat), _] _ _); exact Calls.quiet_of (CM.out _)) | (go_at_call 105; (with_reducible show Calls _ _ #[.int .u64 (Q : Nat), _] _ _); exact Calls.quiet_of (CQ.out _))))
  go_wp2_with fail
  go_ret
  exact ⟨by rw [← R3.out]; rfl, ⟨Hb1.out.os, Hb1.out.tape, Hb1.out.output, Hb1.out.size, Hb1.out.block⟩⟩


end
end Go.Proofs.YtpogjegihhljpaaDoor
