/-
  The model's eyes.
-/
import Derived.Test.YteldfjibmaigiaaDoorEyeS
namespace Go.Proofs.YteldfjibmaigiaaDoor
set_option maxRecDepth 100000
open Go.RowKit

def eyeS (s : Int) (cs : List Int) (p x : Int) : Bool := encS s cs p x && holdS s cs p (3 - x)

section
variable (s p : Nat) (x : Int) (w : World) (B : Nat) (A : Option Addr) (n c : Nat) (cs : List Int) (h : Ints w B A n cs) (hB : B ≤ w.heap.size) (h1 : 1 ≤ s) (h2 : s ≤ 7) (hn : n = s * s) (hp : p < s * s) (x1 : 1 ≤ x) (x2 : x ≤ 2)
include h hB h1 h2 hn hp x1 x2

end
end Go.Proofs.YteldfjibmaigiaaDoor
