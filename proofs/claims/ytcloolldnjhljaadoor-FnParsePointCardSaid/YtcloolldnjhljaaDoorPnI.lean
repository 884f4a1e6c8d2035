/-
  The program's name of a point.
-/
import Derived.Test.YtcloolldnjhljaaDoorPn
import Derived.Deep.RegionWith
import Derived.Deep.RegionHeld3
import Derived.Deep.DeepCutAuto
import Derived.IntWalk
import Derived.Laws.BitsLemmas
namespace Go.Proofs.YtcloolldnjhljaaDoor
set_option maxRecDepth 100000
open Go.RowKit

theorem cat_two (a b : Int) : strOfNums [a] ++ strOfNums [b] = strOfNums [a, b] := by
  apply ByteArray.ext
  simp [strOfNums]

theorem ret_str {a b : ByteArray} (h : a = b) : Ending.returned (.string a) = .returned (.string b) := by rw [h]

set_option maxHeartbeats 1000000 in
theorem i_PN (s p : Int) (w : World) :
    Calls Tryd.prog 23 #[.int .i64 s, .int .i64 p] w fun e w' => e = .returned (.string (nm s p)) ∧ Below w.heap.size w w' := by
  by_cases hp : Pt.okP s p = true
  · obtain ⟨h1, h2, h3, h4⟩ := (Pt.okP_iff s p).1 hp
    obtain ⟨d1, d2, d3, d4, d5⟩ := Pt.dm s p h1 h2 h3 h4
    have hfin : nm s p = nmRC (p / s) (p % s) := by rw [nm, if_pos hp]
    rw [hfin]
    clear d5 hfin
    obtain ⟨r, hr⟩ : ∃ r, p / s = r := ⟨_, rfl⟩
    obtain ⟨c, hc⟩ : ∃ c, p % s = c := ⟨_, rfl⟩
    have hpl : ∀ w, Calls Tryd.prog 33 #[.int .i64 s, .int .i64 p] w fun e w' => e = .returned (.agg #[.int .i64 r, .int .i64 c]) ∧ Below w.heap.size w w' := fun w => by rw [← hr, ← hc]; exact i_place s p w h1 h2 h3 h4
    have Hpl := Lib.hid hpl
    rw [hr, hc]
    rw [hr] at d1 d2
    rw [hc] at d3 d4
    have henc := enc_one (65 + c) (by omega) (by omega)
    have hcat := cat_two (65 + c) (48 + (r + 1))
    have hnm : nmRC r c = strOfNums [65 + c, 48 + (r + 1)] := by rw [nmRC]; congr 3; omega
    have HE := Lib.hid henc
    have HK := Lib.hid hcat
    have HN := Lib.hid hnm
    have HP := Lib.hid hp
    clear hp hr hc hpl henc hcat hnm
    go_enter Tryd.func23, Tryd.ntmps23
    go_wp2_with fail
    refine (i_point _ _ _).mono ?_
    rintro e w' ⟨rfl, rfl⟩
    rw [HP.out]
    go_wp2_with fail
    refine (Hpl.out _).mono ?_
    rintro e w1 ⟨rfl, hb1⟩
    go_upto_region 4 with (fail)
    have At := Lib.hid (At2.new w1 r c)
    have Hw := Lib.hid (hb1.alloc hb1.size (.cells #[.int .i64 r, .int .i64 c] 43))
    obtain ⟨wb, hwb⟩ : ∃ wb, wb = w1.alloc (.cells #[.int .i64 r, .int .i64 c] 43) := ⟨_, rfl⟩
    rw [← hwb] at At Hw
    rw [← hwb]
    clear hwb hb1
    have c0 := At.out.cell0
    have c1 := At.out.cell1
    have HC := Lib.hid (Below.refl wb.heap.size wb)
    have hsz : ¬ 9223372036854775807 < (Utf8.encode (65 + c)).size + (strOfNums [48 + (r + 1)]).size := by rw [HE.out, strOfNums_size, strOfNums_size]; simp
    have hr1 : 1 ≤ r + 1 := by omega
    have hr7 : r + 1 ≤ 7 := by omega
    have e1 : IntKind.i64.wrap (r + 1) = r + 1 := IntWalk.i64_in _ (by omega)
    have e2 : IntKind.i64.wrap (65 + c) = 65 + c := IntWalk.i64_in _ (by omega)
    have e3 : IntKind.i32.wrap (65 + c) = 65 + c := by rw [IntKind.wrap_i32]; omega
    go_region_with ((go_at_call 35; refine (i_itoa (r + 1) _ hr1 hr7).mono ?_; rintro e yc ⟨rfl, hb9⟩; have hb8 : Below wb.heap.size wb yc := ⟨hb9.os, hb9.tape, hb9.output, hb9.size, hb9.block⟩; have c0 := (At.out.below hb8 At.out.lt).cell0; have c1 := (At.out.below hb8 At.out.lt).cell1; have HC := Lib.hid hb8; clear hb9 hb8))
    all_goals go_wp2_with fail
    all_goals go_ret
    all_goals exact ⟨ret_str (by rw [HN.out, ← HK.out, ← HE.out]), Hw.out.trans (HC.out.mono Hw.out.size)⟩
  · have hp' : Pt.okP s p = false := by simpa using hp
    have hfin : nm s p = ⟨#[]⟩ := by rw [nm, if_neg hp]
    have HF := Lib.hid hfin
    have HP := Lib.hid hp'
    clear hp hp' hfin
    go_enter Tryd.func23, Tryd.ntmps23
    go_wp2_with fail
    refine (i_point _ _ _).mono ?_
    rintro e w' ⟨rfl, rfl⟩
    rw [HP.out]
    go_wp2_with fail
    go_ret
    exact ⟨by rw [HF.out]; rfl, Below.refl _ _⟩
end Go.Proofs.YtcloolldnjhljaaDoor
