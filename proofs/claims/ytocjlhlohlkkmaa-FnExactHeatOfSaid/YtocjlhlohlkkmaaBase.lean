/-
  The validity of sizes, points and symmetries: both packages' tests compute the plain functions of PurePt. No condition.
-/
import Derived.Test.YtocjlhlohlkkmaaProg
import Derived.Test.YtocjlhlohlkkmaaPurePt
import Derived.WalkKit
import Derived.Handy
import Derived.Below
import Derived.Lib.Hide
import Derived.WalkLawsBesides
import Derived.WalkSpells
import Derived.Deep.QuietTactic
import Derived.BigQuiet
namespace Go.Proofs.Ytocjlhlohlkkmaa
set_option maxRecDepth 100000
open Go.RowKit

theorem ret_bool {a b : Bool} (h : a = b) : Ending.returned (.bool a) = .returned (.bool b) := by rw [h]
theorem ret_int {a b : Int} (h : a = b) : Ending.returned (.int .i64 a) = .returned (.int .i64 b) := by rw [h]

end Go.Proofs.Ytocjlhlohlkkmaa
