/-
  ParseBoard in both packages, at the board that a text asks for.
-/
import Derived.Test.YtmokpaofljdehaaPbS
import Derived.Test.YtmokpaofljdehaaPbI
namespace Go.Proofs.Ytmokpaofljdehaa
set_option maxRecDepth 100000
open Go.RowKit
section
variable (S : ByteArray) (ok : Bool) (s : Int) (cs : List Int) (w : World) (hP : Fm.Prs S ok s cs) (hS : S.size ≤ 1048576)
include hP hS
theorem s_ParseX : Calls Try.prog 30 #[.string S] w fun e w' => ∃ A n c, e = .returned (.tuple #[.agg #[.int .i64 s, .slice A n c], .bool ok]) ∧ Own w' w.heap.size A n c cs ∧ Below w.heap.size w w' :=
  (s_ParseE S w hS).mono fun _ _ h => h.at hP
theorem i_ParseX : Calls Try.prog 31 #[.string S] w fun e w' => ∃ A n c, e = .returned (.tuple #[.agg #[.int .i64 s, .slice A n c], .bool ok]) ∧ Own w' w.heap.size A n c cs ∧ Below w.heap.size w w' :=
  (i_ParseE S w hS).mono fun _ _ h => h.at hP
end
end Go.Proofs.Ytmokpaofljdehaa
