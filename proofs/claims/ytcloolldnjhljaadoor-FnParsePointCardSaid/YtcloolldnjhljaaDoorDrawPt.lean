/-
  The draws of points' and symmetries' arguments: two or three ints; nothing that was there before is written.
-/
import Derived.Test.YtcloolldnjhljaaDoorDraw
import Derived.Test.YtcloolldnjhljaaDoorDrawSz
import Derived.OwnWalk
namespace Go.Proofs.YtcloolldnjhljaaDoor
set_option maxRecDepth 100000
open Go.RowKit

theorem bg {B g : Nat} {w w1 w2 : World} (hb : Below B w w1) (hB : B ≤ w1.heap.size) (hw : w1.grownBy w2 (some g)) (hg : B ≤ g) : Below B w w2 :=
  hb.grown hw hB (fun k e => by injection e; omega)

def Two (w : World) (e : Ending) (w' : World) : Prop := ∃ x y : Int, e = .returned (.tuple #[.int .i64 x, .int .i64 y]) ∧ Below w.heap.size w w'
def Three (w : World) (e : Ending) (w' : World) : Prop := ∃ x y z : Int, e = .returned (.tuple #[.int .i64 x, .int .i64 y, .int .i64 z]) ∧ Below w.heap.size w w'

theorem d_vp (w : World) (a : Option Addr) (len cap : Nat) (zs : List Int) (h : IsRow .u8 w a len cap zs) :
    Calls Tryd.prog 28 #[.slice a len cap] w fun e w' => Two w e w' := by
  go_enter Tryd.func28, Tryd.ntmps28
  go_wp2_with fail
  refine (r_new w a len cap zs h).mono ?_
  rintro e w1 ⟨g, rfl, hr, hb⟩
  go_wp2_with fail
  refine (r_anySize _ g 0 _ hr (by omega)).mono ?_
  rintro e w2 ⟨s, rfl, ⟨s1, s2⟩, hr2, hw2⟩
  have hb2 := bg hb hb.size hw2 hr2.1
  clear hb hw2 hr
  go_wp2_with fail
  refine (r_anyPoint _ g 1 s _ hr2 (by omega) s1 s2).mono ?_
  rintro e w5 ⟨p, rfl, _, hr5, hw5⟩
  have hb5 := bg hb2 hb2.size hw5 hr5.1
  clear hb2 hw5 hr2 hr5
  go_wp2_with fail
  go_ret2
  exact ⟨_, _, rfl, hb5⟩

end Go.Proofs.YtcloolldnjhljaaDoor
