/-
  The draw of a stone: a point and a color.
-/
import Derived.Test.YtjolappndbmmaaaDraw
import Derived.OwnWalk
namespace Go.Proofs.Ytjolappndbmmaaa
set_option maxRecDepth 100000
open Go.RowKit

theorem bgK {B g : Nat} {w w1 w2 : World} (hb : Below B w w1) (hB : B ≤ w1.heap.size) (hw : w1.grownBy w2 (some g)) (hg : B ≤ g) : Below B w w2 :=
  hb.grown hw hB (fun k e => by injection e; omega)
theorem r_kcolor (B g q : Nat) (w : World) (h : Rdr w B g q) (hq : q ≤ 1000000000000) :
    Calls Try.prog 40 #[.pointer (some ⟨g, 0, none⟩)] w fun e w' => Got (fun x => -1 ≤ x ∧ x ≤ 3) w B g (q + 1) e w' := by
  have hlt := h.lt
  go_enter Try.func40, Try.ntmps40
  go_wp2_with fail
  have hl := Ints.lit w 3 [1, 2, 1, 2, 1, 2, 1, 2, 1, 2, 0, 3, -1]
  refine (r_one B g q _ _ [1, 2, 1, 2, 1, 2, 1, 2, 1, 2, 0, 3, -1] _ _ (h.below ((Below.refl _ _).alloc (Nat.le_refl _) _) hlt) hq hl (by simp) (by simp) (by simp) (by rintro b o e; injection e with e; injection e; omega)).mono ?_
  rintro e w1 ⟨x, rfl, hx, hr, hw⟩
  have Hr := Lib.hid hr
  have Hw := Lib.hid (gtrans (World.grownBy_alloc w _ (some g)) hw)
  have Hx := Lib.hid hx
  clear hr hw hl hx
  go_wp2_with fail
  go_ret
  refine ⟨_, rfl, ?_, Hr.out, Hw.out⟩
  have := Hx.out
  simp at this
  omega
theorem d_key (w : World) (a : Option Addr) (len cap : Nat) (zs : List Int) (h : IsRow .u8 w a len cap zs) :
    Calls Try.prog 13 #[.slice a len cap] w fun e w' => ∃ x y : Int, e = .returned (.tuple #[.int .i64 x, .int .i64 y]) ∧ Below w.heap.size w w' := by
  go_enter Try.func13, Try.ntmps13
  go_wp2_with fail
  refine (r_new w a len cap zs h).mono ?_
  rintro e w1 ⟨g, rfl, hr, hb⟩
  go_wp2_with fail
  refine (r_pick _ g 0 _ _ hr (by omega)).mono ?_
  rintro e w2 ⟨x, rfl, x1, x2, hr2, hw2⟩
  have hb2 := bgK hb hb.size hw2 hr2.1
  have x3 : x < 51 := by omega
  clear hb hw2 hr x2
  go_wp2_with fail
  refine (r_kcolor _ g 1 _ hr2 (by omega)).mono ?_
  rintro e w3 ⟨y, rfl, ⟨y1, y2⟩, hr3, hw3⟩
  have hb3 := bgK hb2 hb2.size hw3 hr3.1
  clear hb2 hw3 hr2 hr3
  go_wp2_with fail
  all_goals go_ret2
  all_goals exact ⟨_, _, rfl, hb3⟩
end Go.Proofs.Ytjolappndbmmaaa
