/-
  Plain functions on boards: a board is its size and the list of its cells. No program is imported.
-/
import Derived.Test.YteldfjibmaigiaaDoorPurePt
namespace Go.Proofs.YteldfjibmaigiaaDoor.Bd
set_option maxRecDepth 100000
open Pt

def okC (c : Int) : Bool := decide (0 ≤ c) && decide (c ≤ 2)
def okCs (cs : List Int) : Bool := cs.all okC
def okB (s : Int) (cs : List Int) : Bool := okS s && ((cs.length : Int) == s * s) && okCs cs

theorem okC_iff (c : Int) : okC c = true ↔ 0 ≤ c ∧ c ≤ 2 := by simp [okC]
theorem okB_iff (s : Int) (cs : List Int) : okB s cs = true ↔ 1 ≤ s ∧ s ≤ 7 ∧ (cs.length : Int) = s * s ∧ ∀ c ∈ cs, 0 ≤ c ∧ c ≤ 2 := by
  simp [okB, okCs, okS, okC, and_assoc]
theorem okCs_take_succ {cs : List Int} {k : Nat} (h : k < cs.length) : okCs (cs.take (k + 1)) = (okCs (cs.take k) && okC (cs.getD k 0)) := by
  unfold okCs
  rw [List.take_succ_eq_append_getElem h, List.all_append]
  have e : cs.getD k 0 = cs[k] := by simp [List.getD_eq_getElem?_getD, List.getElem?_eq_getElem h]
  rw [e]
  simp
theorem okCs_false {cs : List Int} {k : Nat} (h : k < cs.length) (hc : okC (cs.getD k 0) = false) : okCs cs = false := by
  rw [Bool.eq_false_iff]
  intro hall
  have hm : cs.getD k 0 ∈ cs := by
    rw [List.getD_eq_getElem?_getD, List.getElem?_eq_getElem h]; exact List.getElem_mem _
  have := List.all_eq_true.1 hall _ hm
  rw [hc] at this
  cases this
end Go.Proofs.YteldfjibmaigiaaDoor.Bd
