/-
  The program's grown sets.
-/
import Derived.Test.YteldfjibmaigiaaDoorGrw
import Derived.Test.YteldfjibmaigiaaDoorAro
namespace Go.Proofs.YteldfjibmaigiaaDoor
set_option maxRecDepth 100000
open Go.RowKit

set_option maxHeartbeats 2000000 in
theorem i_grown (s m a : Nat) (keep : List Bool) (w : World) (h1 : 1 ≤ s) (h2 : s ≤ 7) (hm : m < 2 ^ (s * s)) (ha : a < 2 ^ (s * s)) (hk : Gw.Same a keep) :
    Calls Tryd.prog 82 #[.int .u64 (m : Nat), .int .i64 (s : Nat), .int .u64 (a : Nat)] w fun e w' => ∃ g : Nat, e = .returned (.int .u64 (g : Nat)) ∧ g < 2 ^ (s * s) ∧ Gw.Gr s a m keep g ∧ Below w.heap.size w w' := by
  have h7 := (Bt.masks s h1 h2).2.2.2.2.2.2
  have r0 : bits .and .u64 (m : Int) (a : Int) = ((m &&& a : Nat) : Int) := u64_and_nat _ _ (by omega) (by omega)
  have R0 := Lib.hid r0
  have Ha := Lib.hid ha
  have Hk := Lib.hid hk
  have H7 := Lib.hid h7
  clear hm ha hk h7 r0
  go_enter Tryd.func82, Tryd.ntmps82
  go_wp2_with fail
  go_loopw [7] (fun v wr => ∃ g : Nat, v = .int .u64 (g : Nat) ∧ Gw.Gi s a m keep g ∧ Below w.heap.size w wr) (fun v _ => 562949953421312 - (intOf v).toNat)
  case atStart => exact ⟨m &&& a, by rw [R0.out], Gw.Gi.begin, Below.refl _ _⟩
  case round =>
    obtain ⟨g, rfl, hg, hb⟩ := hrel
    have hgl := hg.lt Ha.out
    have hAl := Bt.aro_lt s g h1 h2 hgl
    have h7 := H7.out
    have ha := Ha.out
    obtain ⟨aG, haG⟩ : ∃ x, x = Bt.aro s g := ⟨_, rfl⟩
    have cA : ∀ w, Calls Tryd.prog 81 #[.int .u64 (g : Nat), .int .i64 (s : Nat)] w fun e w' => e = .returned (.int .u64 (aG : Int)) ∧ ∃ d, w' = w.drewN d := fun w => by rw [haG]; exact i_around s g w h1 h2 hgl
    rw [← haG] at hAl
    obtain ⟨X, hX⟩ : ∃ X, X = aG &&& a := ⟨_, rfl⟩
    have hXl : X < 2 ^ (s * s) := by rw [hX]; exact Bt.and_lt hAl
    obtain ⟨L, hL⟩ : ∃ L, L = g ||| X := ⟨_, rfl⟩
    have r1 : bits .and .u64 (aG : Int) (a : Int) = (X : Int) := by rw [hX]; exact u64_and_nat _ _ (by omega) (by omega)
    have r2 : bits .or .u64 (g : Int) (X : Int) = (L : Int) := by rw [hL]; exact u64_or_nat _ _ (by omega) (by omega)
    have hup : g ≤ L := by rw [hL]; exact Gw.up _ _
    have hLl : L < 2 ^ (s * s) := by rw [hL]; exact Bt.or_lt hgl hXl
    have hLe : L = g ||| (Bt.aro s g &&& a) := by rw [hL, hX, haG]
    have hnext : Gw.Gi s a m keep L := by rw [hLe]; exact hg.next h1 h2 ha Hk.out
    have CA := Lib.hid cA
    have Hg := Lib.hid hg
    have Hn := Lib.hid hnext
    have Hb := Lib.hid hb
    have HLe := Lib.hid hLe
    have Hgl := Lib.hid hgl
    have hL49 : L < 562949953421312 := by omega
    by_cases e : L = g
    · have e0 : ((L : Int) == (g : Int)) = true := by simp [e]
      have He := Lib.hid e
      clear e hLe hnext hg hb cA hgl hLl hXl hX hL haG hAl ha h7 hup
      go_wp2_with fail
      refine (CA.out _).mono ?_
      rintro e w' ⟨rfl, d, rfl⟩
      go_wp2_with fail
      go_ret
      exact ⟨g, rfl, Hgl.out, Hg.out.stop h1 h2 Ha.out Hk.out (by rw [← HLe.out]; exact He.out), ⟨Hb.out.os, Hb.out.tape, Hb.out.output, Hb.out.size, Hb.out.block⟩⟩
    · have e0 : ((L : Int) == (g : Int)) = false := by simp; omega
      have hlt : g < L := by omega
      have He := Lib.hid e
      clear e hLe hnext hg hb cA hgl hLl hXl hX hL haG hAl ha h7 hup
      go_wp2_with fail
      refine (CA.out _).mono ?_
      rintro e w' ⟨rfl, d, rfl⟩
      go_wp2_with fail
      go_roundw
      case rel => exact ⟨L, rfl, Hn.out, ⟨Hb.out.os, Hb.out.tape, Hb.out.output, Hb.out.size, Hb.out.block⟩⟩
      case measure => simp [intOf]; omega

section
variable (s E M O : Nat) (w : World) (h1 : 1 ≤ s) (h2 : s ≤ 7) (hE : E < 2 ^ (s * s)) (hM : M < 2 ^ (s * s)) (keep : List Bool) (hk : Gw.Same M keep)
include h1 h2 hE hM hk
set_option maxHeartbeats 2000000 in
theorem i_without1 : Calls Tryd.prog 57 #[.agg #[.int .i64 (s : Nat), .int .u64 (E : Nat), .int .u64 (M : Nat), .int .u64 (O : Nat)], .int .i64 1] w fun e w' => ∃ g : Nat, e = .returned (.int .u64 ((M &&& (18446744073709551615 - g) : Nat) : Int)) ∧ g < 2 ^ (s * s) ∧ Gw.Gr s M (Bt.aro s E) keep g ∧ Below w.heap.size w w' := by
  have h7 := (Bt.masks s h1 h2).2.2.2.2.2.2
  have hAl := Bt.aro_lt s E h1 h2 hE
  obtain ⟨aE, haE⟩ : ∃ x, x = Bt.aro s E := ⟨_, rfl⟩
  have cE : ∀ w, Calls Tryd.prog 81 #[.int .u64 (E : Nat), .int .i64 (s : Nat)] w fun e w' => e = .returned (.int .u64 (aE : Int)) ∧ ∃ d, w' = w.drewN d := fun w => by rw [haE]; exact i_around s E w h1 h2 hE
  have cG : ∀ w, Calls Tryd.prog 82 #[.int .u64 (aE : Nat), .int .i64 (s : Nat), .int .u64 (M : Nat)] w fun e w' => ∃ g : Nat, e = .returned (.int .u64 (g : Nat)) ∧ g < 2 ^ (s * s) ∧ Gw.Gr s M aE keep g ∧ Below w.heap.size w w' := fun w => i_grown s aE M keep w h1 h2 (by rw [haE]; exact hAl) hM hk
  rw [← haE]
  have CE := Lib.hid cE
  have CG := Lib.hid cG
  have H7 := Lib.hid h7
  have HM := Lib.hid hM
  have P0 := Lib.hid (Px.new w (s : Nat) E M O)
  have Hb := Lib.hid ((Below.refl w.heap.size w).alloc (Nat.le_refl _) (.cells #[.int .i64 (s : Nat), .int .u64 (E : Nat), .int .u64 (M : Nat), .int .u64 (O : Nat)] 58))
  have c0 := P0.out.c0
  have c1 := P0.out.c1
  have c2 := P0.out.c2
  have c3 := P0.out.c3
  clear h7 hAl haE cE cG hk hE hM
  go_enter Tryd.func57, Tryd.ntmps57
  go_wp2_with fail
  refine (CE.out _).mono ?_
  rintro e w' ⟨rfl, d, rfl⟩
  obtain ⟨y, hy⟩ : ∃ y, y = (w.alloc (.cells #[.int .i64 (s : Nat), .int .u64 (E : Nat), .int .u64 (M : Nat), .int .u64 (O : Nat)] 58)).drewN d := ⟨_, rfl⟩
  have P1 : Hid (Px y w.heap.size (s : Nat) E M O) := Lib.hid (by rw [hy]; exact P0.out)
  have Hb1 : Hid (Below w.heap.size w y) := Lib.hid (by rw [hy]; exact ⟨Hb.out.os, Hb.out.tape, Hb.out.output, Hb.out.size, Hb.out.block⟩)
  rw [← hy]
  clear hy c0 c1 c2 c3 P0 Hb
  have c0 := P1.out.c0
  go_wp2_with fail
  refine (CG.out _).mono ?_
  rintro e y2 ⟨g, rfl, hgl, hg, hb⟩
  have r1 : bits .andNot .u64 (M : Int) (g : Int) = ((M &&& (18446744073709551615 - g) : Nat) : Int) := u64_andNot_nat _ _ (by have := HM.out; have := H7.out; omega) (by have := H7.out; omega)
  have R1 := Lib.hid r1
  have Hg := Lib.hid hg
  have Hb2 := Lib.hid (Hb1.out.trans (hb.mono Hb1.out.size))
  have Hgl := Lib.hid hgl
  clear hg hb r1 c0 hgl
  go_wp2_with fail
  go_ret
  exact ⟨g, by rw [← R1.out]; rfl, Hgl.out, Hg.out, Hb2.out⟩

set_option maxHeartbeats 2000000 in
theorem i_without2 : Calls Tryd.prog 57 #[.agg #[.int .i64 (s : Nat), .int .u64 (E : Nat), .int .u64 (O : Nat), .int .u64 (M : Nat)], .int .i64 2] w fun e w' => ∃ g : Nat, e = .returned (.int .u64 ((M &&& (18446744073709551615 - g) : Nat) : Int)) ∧ g < 2 ^ (s * s) ∧ Gw.Gr s M (Bt.aro s E) keep g ∧ Below w.heap.size w w' := by
  have h7 := (Bt.masks s h1 h2).2.2.2.2.2.2
  have hAl := Bt.aro_lt s E h1 h2 hE
  obtain ⟨aE, haE⟩ : ∃ x, x = Bt.aro s E := ⟨_, rfl⟩
  have cE : ∀ w, Calls Tryd.prog 81 #[.int .u64 (E : Nat), .int .i64 (s : Nat)] w fun e w' => e = .returned (.int .u64 (aE : Int)) ∧ ∃ d, w' = w.drewN d := fun w => by rw [haE]; exact i_around s E w h1 h2 hE
  have cG : ∀ w, Calls Tryd.prog 82 #[.int .u64 (aE : Nat), .int .i64 (s : Nat), .int .u64 (M : Nat)] w fun e w' => ∃ g : Nat, e = .returned (.int .u64 (g : Nat)) ∧ g < 2 ^ (s * s) ∧ Gw.Gr s M aE keep g ∧ Below w.heap.size w w' := fun w => i_grown s aE M keep w h1 h2 (by rw [haE]; exact hAl) hM hk
  rw [← haE]
  have CE := Lib.hid cE
  have CG := Lib.hid cG
  have H7 := Lib.hid h7
  have HM := Lib.hid hM
  have P0 := Lib.hid (Px.new w (s : Nat) E O M)
  have Hb := Lib.hid ((Below.refl w.heap.size w).alloc (Nat.le_refl _) (.cells #[.int .i64 (s : Nat), .int .u64 (E : Nat), .int .u64 (O : Nat), .int .u64 (M : Nat)] 58))
  have c0 := P0.out.c0
  have c1 := P0.out.c1
  have c2 := P0.out.c2
  have c3 := P0.out.c3
  clear h7 hAl haE cE cG hk hE hM
  go_enter Tryd.func57, Tryd.ntmps57
  go_wp2_with fail
  refine (CE.out _).mono ?_
  rintro e w' ⟨rfl, d, rfl⟩
  obtain ⟨y, hy⟩ : ∃ y, y = (w.alloc (.cells #[.int .i64 (s : Nat), .int .u64 (E : Nat), .int .u64 (O : Nat), .int .u64 (M : Nat)] 58)).drewN d := ⟨_, rfl⟩
  have P1 : Hid (Px y w.heap.size (s : Nat) E O M) := Lib.hid (by rw [hy]; exact P0.out)
  have Hb1 : Hid (Below w.heap.size w y) := Lib.hid (by rw [hy]; exact ⟨Hb.out.os, Hb.out.tape, Hb.out.output, Hb.out.size, Hb.out.block⟩)
  rw [← hy]
  clear hy c0 c1 c2 c3 P0 Hb
  have c0 := P1.out.c0
  go_wp2_with fail
  refine (CG.out _).mono ?_
  rintro e y2 ⟨g, rfl, hgl, hg, hb⟩
  have r1 : bits .andNot .u64 (M : Int) (g : Int) = ((M &&& (18446744073709551615 - g) : Nat) : Int) := u64_andNot_nat _ _ (by have := HM.out; have := H7.out; omega) (by have := H7.out; omega)
  have R1 := Lib.hid r1
  have Hg := Lib.hid hg
  have Hb2 := Lib.hid (Hb1.out.trans (hb.mono Hb1.out.size))
  have Hgl := Lib.hid hgl
  clear hg hb r1 c0 hgl
  go_wp2_with fail
  go_ret
  exact ⟨g, by rw [← R1.out]; rfl, Hgl.out, Hg.out, Hb2.out⟩

end
end Go.Proofs.YteldfjibmaigiaaDoor
