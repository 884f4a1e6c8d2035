/-
  What the exact laws do with boards: sizes, copies, comparing, marking, finding the marks.
-/
import Derived.Test.YtpopbcmfbcmojaaDoorBoard
import Derived.Test.YtpopbcmfbcmojaaDoorMarks
namespace Go.Proofs.YtpopbcmfbcmojaaDoor
set_option maxRecDepth 100000
open Go.RowKit

theorem fill_succ {cs : List Int} {n k : Nat} (hl : cs.length = n) (hk : k < n) :
    (cs.take k ++ List.replicate (n - k) 0).set k (cs.getD k 0) = cs.take (k + 1) ++ List.replicate (n - (k + 1)) 0 := by
  have hlt : (cs.take k).length = k := by rw [List.length_take]; omega
  obtain ⟨m, hm⟩ : ∃ m, n - k = m + 1 := ⟨n - k - 1, by omega⟩
  have e : cs.getD k 0 = cs[k]'(by omega) := by simp [List.getD_eq_getElem?_getD, List.getElem?_eq_getElem (show k < cs.length by omega)]
  have e2 : cs.take (k + 1) = cs.take k ++ [cs[k]'(by omega)] := List.take_succ_eq_append_getElem (by omega)
  rw [List.set_append_right _ _ (by omega), hlt, Nat.sub_self, hm, List.replicate_succ, List.set_cons_zero, e2, show n - (k + 1) = m by omega, e, List.append_assoc]
  rfl

/-- A board that the call made, its number of cells told. -/
def MadeN (s' : Int) (n : Nat) (cs' : List Int) (w : World) (e : Ending) (w' : World) : Prop :=
  ∃ A c, e = .returned (.agg #[.int .i64 s', .slice A n c]) ∧ Own w' w.heap.size A n c cs' ∧ Below w.heap.size w w'

end Go.Proofs.YtpopbcmfbcmojaaDoor
