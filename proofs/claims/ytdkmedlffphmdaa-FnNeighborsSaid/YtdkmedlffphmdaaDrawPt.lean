/-
  The draws of points' and symmetries' arguments: two or three ints; nothing that was there before is written.
-/
import Derived.Test.YtdkmedlffphmdaaDraw
import Derived.OwnWalk
namespace Go.Proofs.Ytdkmedlffphmdaa
open Go.RowKit

theorem bg {B g : Nat} {w w1 w2 : World} (hb : Below B w w1) (hB : B ≤ w1.heap.size) (hw : w1.grownBy w2 (some g)) (hg : B ≤ g) : Below B w w2 :=
  hb.grown hw hB (fun k e => by injection e; omega)

def Two (w : World) (e : Ending) (w' : World) : Prop := ∃ x y : Int, e = .returned (.tuple #[.int .i64 x, .int .i64 y]) ∧ Below w.heap.size w w'
def Three (w : World) (e : Ending) (w' : World) : Prop := ∃ x y z : Int, e = .returned (.tuple #[.int .i64 x, .int .i64 y, .int .i64 z]) ∧ Below w.heap.size w w'

theorem d_comp (w : World) (a : Option Addr) (len cap : Nat) (zs : List Int) (h : IsRow .u8 w a len cap zs) :
    Calls Try.prog 22 #[.slice a len cap] w fun e w' => Two w e w' := by
  go_enter Try.func22, Try.ntmps22
  go_wp2_with fail
  refine (r_new w a len cap zs h).mono ?_
  rintro e w1 ⟨g, rfl, hr, hb⟩
  go_wp2_with fail
  refine (r_pick _ g 0 _ _ hr (by omega)).mono ?_
  rintro e w2 ⟨x, rfl, x1, x2, hr2, hw2⟩
  have hb2 := bg hb hb.size hw2 hr2.1
  clear hb hw2 hr
  go_wp2_with fail
  refine (r_pick _ g 1 _ _ hr2 (by omega)).mono ?_
  rintro e w3 ⟨y, rfl, y1, y2, hr3, hw3⟩
  have hb3 := bg hb2 hb2.size hw3 hr3.1
  clear hb2 hw3 hr2
  go_wp2_with fail
  refine (r_pick _ g 2 _ _ hr3 (by omega)).mono ?_
  rintro e w4 ⟨z, rfl, z1, z2, hr4, hw4⟩
  have hb4 := bg hb3 hb3.size hw4 hr4.1
  clear hb3 hw4 hr3 hr4
  go_wp2_with fail
  all_goals go_ret2
  all_goals exact ⟨_, _, rfl, hb4⟩

theorem d_tr (w : World) (a : Option Addr) (len cap : Nat) (zs : List Int) (h : IsRow .u8 w a len cap zs) :
    Calls Try.prog 18 #[.slice a len cap] w fun e w' => Three w e w' := by
  go_enter Try.func18, Try.ntmps18
  go_wp2_with fail
  refine (r_new w a len cap zs h).mono ?_
  rintro e w1 ⟨g, rfl, hr, hb⟩
  go_wp2_with fail
  refine (r_anySize _ g 0 _ hr (by omega)).mono ?_
  rintro e w2 ⟨s, rfl, ⟨s1, s2⟩, hr2, hw2⟩
  have hb2 := bg hb hb.size hw2 hr2.1
  clear hb hw2 hr
  go_wp2_with fail
  refine (r_pick _ g 1 _ _ hr2 (by omega)).mono ?_
  rintro e w3 ⟨k, rfl, k1, k2, hr3, hw3⟩
  have hb3 := bg hb2 hb2.size hw3 hr3.1
  clear hb2 hw3 hr2
  go_wp2_with fail
  refine (r_pick _ g 2 _ _ hr3 (by omega)).mono ?_
  rintro e w4 ⟨z, rfl, z1, z2, hr4, hw4⟩
  have hb4 := bg hb3 hb3.size hw4 hr4.1
  clear hb3 hw4 hr3
  go_wp2_with fail
  all_goals
    refine (r_anyPoint _ g 3 s _ hr4 (by omega) s1 s2).mono ?_
    rintro e w5 ⟨p, rfl, _, hr5, hw5⟩
    have hb5 := bg hb4 hb4.size hw5 hr5.1
    clear hb4 hw5 hr4 hr5
    go_wp2_with fail
    go_ret3
    exact ⟨_, _, _, rfl, hb5⟩

theorem d_vp (w : World) (a : Option Addr) (len cap : Nat) (zs : List Int) (h : IsRow .u8 w a len cap zs) :
    Calls Try.prog 30 #[.slice a len cap] w fun e w' => Two w e w' := by
  go_enter Try.func30, Try.ntmps30
  go_wp2_with fail
  refine (r_new w a len cap zs h).mono ?_
  rintro e w1 ⟨g, rfl, hr, hb⟩
  go_wp2_with fail
  refine (r_anySize _ g 0 _ hr (by omega)).mono ?_
  rintro e w2 ⟨s, rfl, ⟨s1, s2⟩, hr2, hw2⟩
  have hb2 := bg hb hb.size hw2 hr2.1
  clear hb hw2 hr
  go_wp2_with fail
  refine (r_anyPoint _ g 1 s _ hr2 (by omega) s1 s2).mono ?_
  rintro e w5 ⟨p, rfl, _, hr5, hw5⟩
  have hb5 := bg hb2 hb2.size hw5 hr5.1
  clear hb2 hw5 hr2 hr5
  go_wp2_with fail
  go_ret2
  exact ⟨_, _, rfl, hb5⟩

theorem d_nb (w : World) (a : Option Addr) (len cap : Nat) (zs : List Int) (h : IsRow .u8 w a len cap zs) :
    Calls Try.prog 12 #[.slice a len cap] w fun e w' => Two w e w' := by
  go_enter Try.func12, Try.ntmps12
  go_wp2_with fail
  refine (d_vp w a len cap zs h).mono ?_
  rintro e w1 ⟨x, y, rfl, hb⟩
  go_wp2_with fail
  go_ret2
  exact ⟨_, _, rfl, hb⟩
end Go.Proofs.Ytdkmedlffphmdaa
