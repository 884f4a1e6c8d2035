/-
  The two lists of eyes, by names.
-/
import Derived.Test.YtfpibldknjcehaaDoorEyeX
namespace Go.Proofs.YtfpibldknjcehaaDoor
set_option maxRecDepth 100000
open Go.RowKit
variable (s x : Int) (w : World) (B : Nat) (A : Option Addr) (n c : Nat) (cs : List Int) (la lb : List Int)
theorem s_EyL (ha : Hid (eyL s cs x = la)) (hb : Hid (eyW s cs x = lb)) (h : Ints w B A n cs) (hB : B ≤ w.heap.size) (hn : n ≤ 1000000000) : Calls Tryd.prog 10 #[.agg #[.int .i64 s, .slice A n c], .int .i64 x] w fun e w' => ∃ A n1 c1 D n2 c2, e = .returned (.tuple #[.slice A n1 c1, .slice D n2 c2]) ∧ TwoL w' w.heap.size A n1 c1 la D n2 c2 lb ∧ Below w.heap.size w w' := by
  rw [← ha.out, ← hb.out]; exact s_EyesOf s x w B A n c cs h hB hn
theorem i_EyL (ha : Hid (eyL s cs x = la)) (hb : Hid (eyW s cs x = lb)) (h : Ints w B A n cs) (hB : B ≤ w.heap.size) (hn : n ≤ 1000000000) (ht : Tab w) : Calls Tryd.prog 11 #[.agg #[.int .i64 s, .slice A n c], .int .i64 x] w fun e w' => ∃ A n1 c1 D n2 c2 mid, e = .returned (.tuple #[.slice A n1 c1, .slice D n2 c2]) ∧ Own w' w.heap.size A n1 c1 la ∧ (∀ g, A = some ⟨g, 0, none⟩ → g < mid) ∧ Own w' mid D n2 c2 lb ∧ w.heap.size ≤ mid ∧ mid ≤ w'.heap.size ∧ Below w.heap.size w w' := by
  rw [← ha.out, ← hb.out]; exact i_EyesOf s x w B A n c cs h hB hn ht
end Go.Proofs.YtfpibldknjcehaaDoor
