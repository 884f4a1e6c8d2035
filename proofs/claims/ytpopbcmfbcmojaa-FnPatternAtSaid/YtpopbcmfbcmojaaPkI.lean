/-
  Patterns of the program: its cells, the number of cells, validity.
-/
import Derived.Test.YtpopbcmfbcmojaaPkP
import Derived.Test.YtpopbcmfbcmojaaMvI
import Derived.Deep.LoopGhost
namespace Go.Proofs.Ytpopbcmfbcmojaa
set_option maxRecDepth 100000
open Go.RowKit

/-- What is left of a number behind the first k cells. -/
def Pk.rest (n : Int) : Nat → Int
  | 0 => n
  | k + 1 => if k = 4 then Pk.rest n k else Pk.rest n k / 4
/-- The cell at k. -/
def Pk.at (n : Int) (k : Nat) : Int := if k = 4 then 0 else Pk.rest n k % 4
theorem Pk.rest_bd {n : Int} (h0 : 0 ≤ n) (h1 : n ≤ 65535) : ∀ k, 0 ≤ Pk.rest n k ∧ Pk.rest n k ≤ 65535
  | 0 => ⟨h0, h1⟩
  | k + 1 => by
    have := Pk.rest_bd h0 h1 k
    unfold Pk.rest
    split <;> omega
theorem Pk.cells_at {n : Int} {k : Nat} (hk : k < 9) : (Pk.cells n).getD k 0 = Pk.at n k := by
  have : k = 0 ∨ k = 1 ∨ k = 2 ∨ k = 3 ∨ k = 4 ∨ k = 5 ∨ k = 6 ∨ k = 7 ∨ k = 8 := by omega
  rcases this with rfl | rfl | rfl | rfl | rfl | rfl | rfl | rfl | rfl <;> simp [Pk.cells, Pk.at, Pk.rest] <;> omega
theorem Pk.cells_len (n : Int) : (Pk.cells n).length = 9 := rfl
theorem i_vpat (n : Int) (w : World) : Calls Try.prog 59 #[.int .i64 n] w fun e w' => e = .returned (.bool (decide (0 ≤ n) && decide (n ≤ 65535))) ∧ w = w' := by
  by_cases h0 : 0 ≤ n
  · have e0 := decide_eq_true h0
    by_cases h1 : n ≤ 65535
    · have e1 := decide_eq_true h1
      rw [e0, e1]
      clear e0 e1
      go_enter Try.func59, Try.ntmps59
      go_wp2_with fail
      go_ret
      exact ⟨rfl, rfl⟩
    · have e1 := decide_eq_false h1
      rw [e0, e1]
      clear e0 e1
      go_enter Try.func59, Try.ntmps59
      go_wp2_with fail
      go_ret
      exact ⟨rfl, rfl⟩
  · have e0 := decide_eq_false h0
    rw [e0, Bool.false_and]
    clear e0
    go_enter Try.func59, Try.ntmps59
    go_wp2_with fail
    go_ret
    exact ⟨rfl, rfl⟩
set_option maxHeartbeats 2000000 in
theorem i_patCells (n : Int) (w : World) (h0 : 0 ≤ n) (h1 : n ≤ 65535) :
    Calls Try.prog 63 #[.int .i64 n] w fun e w' => ∃ A c, e = .returned (.slice A 9 c) ∧ Own w' w.heap.size A 9 c (Pk.cells n) ∧ Below w.heap.size w w' := by
  go_enter Try.func63, Try.ntmps63
  go_wp2_with (at_make; refine make0t 58 Try.underlying58 rfl _ rfl _ w.heap.size _ 9 rfl (by omega) (by omega) (Nat.le_refl _) ?_; intro w1 hown hb hlt)
  have Ho := Lib.hid hown
  have Hb := Lib.hid hb
  clear hown hb
  go_loopg [0, 8] 10 (fun q v0 v8 wr => ∃ k : Nat, k + q = 10 ∧ k ≤ 9 ∧ v0 = .int .i64 (Pk.rest n k) ∧ v8 = .int .i64 (k : Nat) ∧ Own wr w.heap.size (some ⟨w.heap.size, 0, none⟩) 9 9 ((Pk.cells n).take k ++ List.replicate (9 - k) 0) ∧ Below w.heap.size w wr)
  case atStart => exact ⟨0, by omega, by omega, rfl, rfl, by simpa using Ho.out, Hb.out⟩
  case round =>
    clear Ho Hb
    obtain ⟨k, hk, hk9, rfl, rfl, ho, hb⟩ := hrel
    obtain ⟨b0, b1⟩ := Pk.rest_bd h0 h1 k
    by_cases hkk : k = 9
    · subst hkk
      have hlt : ¬ (((9 : Nat) : Int)) < 9 := by omega
      have ho2 : Own wr w.heap.size (some ⟨w.heap.size, 0, none⟩) 9 9 (Pk.cells n) := by
        have := ho
        rw [Nat.sub_self, List.take_of_length_le (by rw [Pk.cells_len]; exact Nat.le_refl _)] at this
        simpa using this
      have Ho := Lib.hid ho2
      have Hb := Lib.hid hb
      clear ho ho2 hb
      go_wp2_with fail
      go_ret
      exact ⟨_, _, rfl, Ho.out, Hb.out⟩
    · have hlt : ((k : Nat) : Int) < 9 := by omega
      have hcell : ∃ u, wr.cell? ⟨w.heap.size, k, none⟩ = some u := by
        have := World.ownsRow.cellAt ho.2 k (by omega)
        rw [this]
        exact ⟨_, List.getElem?_eq_getElem (by rw [List.length_map, ho.1]; omega)⟩
      obtain ⟨u, hu⟩ := hcell
      have hf := World.ownsRow.frozenAt ho.2 k
      have hst := (ho.stored k ((Pk.cells n).getD k 0)).1
      rw [fill_succ (Pk.cells_len n) (by omega), Pk.cells_at (by omega)] at hst
      obtain ⟨Y, hY⟩ : ∃ Y, Pk.rest n k = Y := ⟨_, rfl⟩
      rw [hY] at b0 b1 ⊢
      have Hb := Lib.hid hb
      by_cases h4 : k = 4
      · subst h4
        have hr : Pk.rest n (4 + 1) = Y := by rw [← hY]; rfl
        have hs : Own wr w.heap.size (some ⟨w.heap.size, 0, none⟩) 9 9 ((Pk.cells n).take 5 ++ List.replicate (9 - 5) 0) := by
          have := ho
          exact this
        have Hr := Lib.hid hr
        have Hs := Lib.hid hs
        have hne : ((((4 : Nat) : Int)) != 4) = false := by decide
        clear ho hb hst hY hs hr
        go_wp2_with fail
        go_roundg 5
        case measure => omega
        case rel => exact ⟨5, by omega, by omega, by rw [Hr.out], by go_num, Hs.out, Hb.out⟩
      · have hr : Pk.rest n (k + 1) = Y / 4 := by rw [← hY]; show (if k = 4 then _ else _) = _; rw [if_neg h4]
        have ha : Pk.at n k = Y % 4 := by rw [← hY]; unfold Pk.at; rw [if_neg h4]
        rw [ha] at hst
        have Hr := Lib.hid hr
        have Hs := Lib.hid hst
        have hne : (((k : Nat) : Int) != 4) = true := by simp; omega
        have hk0 : (0 : Int) ≤ (k : Nat) := by omega
        clear ho hb hst hY hr ha
        go_wp2_with fail
        go_roundg (9 - k)
        case measure => omega
        case rel => exact ⟨k + 1, by omega, by omega, by rw [Hr.out], by go_num, Hs.out, Hb.out.setCell (Nat.le_refl _) _⟩
end Go.Proofs.Ytpopbcmfbcmojaa
