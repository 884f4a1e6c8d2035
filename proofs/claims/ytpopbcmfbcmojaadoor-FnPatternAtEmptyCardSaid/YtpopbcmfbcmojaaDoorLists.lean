/-
  Lists of ints in memory: equal lists compare equal.
-/
import Derived.Test.YtpopbcmfbcmojaaDoorWords
import Derived.LoopTactic
namespace Go.Proofs.YtpopbcmfbcmojaaDoor
set_option maxRecDepth 100000
open Go.RowKit

def Drew (v : Value) (w : World) (e : Ending) (w' : World) : Prop := ∃ k, e = .returned v ∧ w' = w.drewN k

end Go.Proofs.YtpopbcmfbcmojaaDoor
