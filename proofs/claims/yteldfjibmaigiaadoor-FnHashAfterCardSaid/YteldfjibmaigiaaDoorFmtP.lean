/-
  Texts of boards: the bytes, told by their places. No program is imported.
-/
import Derived.Test.YteldfjibmaigiaaDoorPureBd
import Derived.Test.YteldfjibmaigiaaDoorFactPt
namespace Go.Proofs.YteldfjibmaigiaaDoor.Fm
set_option maxRecDepth 100000

def let_ (c : Int) : Int := if c = 1 then 88 else if c = 2 then 79 else 46
def col (b : Int) : Int := if b = 88 then 1 else if b = 79 then 2 else 0
/-- The byte at place i of the text of a board. -/
def at_ (s : Nat) (cs : List Int) (i : Nat) : Int := if i % (s + 1) = s then 47 else let_ (cs.getD ((s - 1 - i / (s + 1)) * s + i % (s + 1)) 0)
def fmt (s : Nat) (cs : List Int) : List Int := (List.range (s * (s + 1))).map (at_ s cs)

theorem fmt_len (s : Nat) (cs : List Int) : (fmt s cs).length = s * (s + 1) := by simp [fmt]
theorem fmt_take {s : Nat} {cs : List Int} {i : Nat} (h : i < s * (s + 1)) : (fmt s cs).take (i + 1) = (fmt s cs).take i ++ [at_ s cs i] := by
  rw [List.take_succ_eq_append_getElem (by rw [fmt_len]; exact h)]
  simp [fmt]
theorem let_bd (c : Int) : 46 ≤ let_ c ∧ let_ c ≤ 88 ∧ let_ c ≠ 47 := by unfold let_; split <;> (try split) <;> decide
theorem at_bd (s : Nat) (cs : List Int) (i : Nat) : 46 ≤ at_ s cs i ∧ at_ s cs i ≤ 88 := by
  unfold at_; split
  · decide
  · have := let_bd (cs.getD ((s - 1 - i / (s + 1)) * s + i % (s + 1)) 0); omega
theorem at_rc {s k c : Nat} (cs : List Int) (hc : c < s) : at_ s cs (k * (s + 1) + c) = let_ (cs.getD ((s - 1 - k) * s + c) 0) := by
  have e1 : (k * (s + 1) + c) % (s + 1) = c := by rw [Nat.mul_comm, Nat.mul_add_mod]; exact Nat.mod_eq_of_lt (by omega)
  have e2 : (k * (s + 1) + c) / (s + 1) = k := by rw [Nat.mul_comm, Nat.mul_add_div (by omega), Nat.div_eq_of_lt (by omega), Nat.add_zero]
  rw [at_, e1, e2, if_neg (by omega)]
theorem at_end {s k : Nat} (cs : List Int) : at_ s cs (k * (s + 1) + s) = 47 := by
  have e1 : (k * (s + 1) + s) % (s + 1) = s := by rw [Nat.mul_comm, Nat.mul_add_mod]; exact Nat.mod_eq_of_lt (by omega)
  rw [at_, if_pos e1]
theorem col_let {c : Int} (h : 0 ≤ c) (h2 : c ≤ 2) : col (let_ c) = c := by
  have : c = 0 ∨ c = 1 ∨ c = 2 := by omega
  rcases this with rfl | rfl | rfl <;> decide
theorem let_eq {c : Int} (h : 0 ≤ c) (h2 : c ≤ 2) : let_ c = if c = 0 then 46 else if c = 1 then 88 else 79 := by
  have : c = 0 ∨ c = 1 ∨ c = 2 := by omega
  rcases this with rfl | rfl | rfl <;> decide
end Go.Proofs.YteldfjibmaigiaaDoor.Fm
