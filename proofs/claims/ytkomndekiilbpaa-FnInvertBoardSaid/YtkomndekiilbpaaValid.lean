/-
  What the board functions of both packages give on valid boards, and on the others; what the exchange of colors and the images have to do with each other.
-/
import Derived.Test.YtkomndekiilbpaaStep
import Derived.Test.YtkomndekiilbpaaTrS
import Derived.Test.YtkomndekiilbpaaCount
namespace Go.Proofs.Ytkomndekiilbpaa
open Go.RowKit

section
variable (s : Int) (w : World) (A : Option Addr) (n c : Nat) (cs : List Int)
theorem i_invV (h : Ints w w.heap.size A n cs) (hn : n ≤ 49) (hv : Bd.okB s cs = true) : Calls Try.prog 23 #[.agg #[.int .i64 s, .slice A n c]] w fun e w' => Made s (othCs cs) w e w' := by
  have := i_inv s w w.heap.size A n c cs h (Nat.le_refl _) (by omega)
  rwa [invS, invCs, if_pos hv, if_pos hv] at this
theorem s_invV (h : Ints w w.heap.size A n cs) (hn : n ≤ 49) (hv : Bd.okB s cs = true) : Calls Try.prog 25 #[.agg #[.int .i64 s, .slice A n c]] w fun e w' => Made s (othCs cs) w e w' := by
  have := s_inv s w w.heap.size A n c cs h (Nat.le_refl _) (by omega)
  rwa [invS, invCs, if_pos hv, if_pos hv] at this
theorem i_invN (h : Ints w w.heap.size A n cs) (hn : n ≤ 49) (hv : Bd.okB s cs = false) : Calls Try.prog 23 #[.agg #[.int .i64 s, .slice A n c]] w fun e w' => Made 0 [] w e w' := by
  have := i_inv s w w.heap.size A n c cs h (Nat.le_refl _) (by omega)
  rwa [invS, invCs, if_neg (by rw [hv]; decide), if_neg (by rw [hv]; decide)] at this
theorem s_invN (h : Ints w w.heap.size A n cs) (hn : n ≤ 49) (hv : Bd.okB s cs = false) : Calls Try.prog 25 #[.agg #[.int .i64 s, .slice A n c]] w fun e w' => Made 0 [] w e w' := by
  have := s_inv s w w.heap.size A n c cs h (Nat.le_refl _) (by omega)
  rwa [invS, invCs, if_neg (by rw [hv]; decide), if_neg (by rw [hv]; decide)] at this
variable (k : Int)
theorem i_trV (h : Ints w w.heap.size A n cs) (hn : n ≤ 49) (hv : Bd.okB s cs = true) (hk : Pt.okK k = true) : Calls Try.prog 22 #[.agg #[.int .i64 s, .slice A n c], .int .i64 k] w fun e w' => Made s (Bd.mv s k cs) w e w' := by
  have := i_trB s k w w.heap.size A n c cs h (Nat.le_refl _) (by omega)
  rwa [trS, trCs, show trOk s cs k = true by rw [trOk, hv, hk]; rfl, if_pos rfl, if_pos rfl] at this
theorem s_trV (h : Ints w w.heap.size A n cs) (hn : n ≤ 49) (hv : Bd.okB s cs = true) (hk : Pt.okK k = true) : Calls Try.prog 27 #[.agg #[.int .i64 s, .slice A n c], .int .i64 k] w fun e w' => Made s (Bd.mv s k cs) w e w' := by
  have := s_trB s k w w.heap.size A n c cs h (Nat.le_refl _) (by omega)
  rwa [trS, trCs, show trOk s cs k = true by rw [trOk, hv, hk]; rfl, if_pos rfl, if_pos rfl] at this
theorem i_trN (h : Ints w w.heap.size A n cs) (hn : n ≤ 49) (hv : trOk s cs k = false) : Calls Try.prog 22 #[.agg #[.int .i64 s, .slice A n c], .int .i64 k] w fun e w' => Made 0 [] w e w' := by
  have := i_trB s k w w.heap.size A n c cs h (Nat.le_refl _) (by omega)
  rwa [trS, trCs, hv, if_neg (by decide), if_neg (by decide)] at this
theorem s_trN (h : Ints w w.heap.size A n cs) (hn : n ≤ 49) (hv : trOk s cs k = false) : Calls Try.prog 27 #[.agg #[.int .i64 s, .slice A n c], .int .i64 k] w fun e w' => Made 0 [] w e w' := by
  have := s_trB s k w w.heap.size A n c cs h (Nat.le_refl _) (by omega)
  rwa [trS, trCs, hv, if_neg (by decide), if_neg (by decide)] at this
end

theorem len_of {cs : List Int} {n m : Nat} (h : (othCs cs).length = m) (h0 : cs.length = n) : n = m := by rw [othCs_len] at h; omega
theorem len_mv {s k : Int} {cs : List Int} {n m : Nat} (h : (Bd.mv s k cs).length = m) (h0 : cs.length = n) : n = m := by rw [Bd.mv_len] at h; omega
theorem oth_oth {x : Int} (h0 : 0 ≤ x) (h2 : x ≤ 2) : oth (oth x) = x := by
  have h3 : x = 0 ∨ x = 1 ∨ x = 2 := by omega
  rcases h3 with rfl | rfl | rfl <;> decide
theorem othCs_twice {cs : List Int} (h : OkL cs) : othCs (othCs cs) = cs := by
  rw [okL_mem] at h
  unfold othCs
  rw [List.map_map]
  conv => rhs; rw [← List.map_id cs]
  exact List.map_congr_left fun x hx => oth_oth (h x hx).1 (h x hx).2
theorem othCs_set (l : List Int) (p : Nat) (x : Int) : othCs (l.set p x) = (othCs l).set p (oth x) := by
  unfold othCs; rw [List.map_set]
theorem othCs_getD (cs : List Int) (j : Nat) : oth (cs.getD j 0) = (othCs cs).getD j 0 := by
  unfold othCs
  rw [List.getD_eq_getElem?_getD, List.getD_eq_getElem?_getD, List.getElem?_map]
  cases cs[j]? <;> rfl
theorem steps_oth (f : Nat → Nat) (cs : List Int) (j : Nat) (l : List Int) : othCs (Bd.steps f cs j l) = Bd.steps f (othCs cs) j (othCs l) := by
  induction j with
  | zero => rfl
  | succ j ih => rw [Bd.steps, Bd.steps, othCs_set, ih, othCs_getD]
theorem mv_oth (s k : Int) (cs : List Int) : Bd.mv s k (othCs cs) = othCs (Bd.mv s k cs) := by
  unfold Bd.mv
  rw [steps_oth, othCs_len]
end Go.Proofs.Ytkomndekiilbpaa
