/-
  Plain functions on numbers: what the points' functions compute. No program is imported. Every statement here is about Int alone; where bounds are wanted they are premises (sizes 1 to 7, points of the board, symmetries 0 to 7).
-/
namespace Go.Proofs.YteldfjibmaigiaaDoor.Pt

def okS (s : Int) : Bool := decide (1 ≤ s) && decide (s ≤ 7)
def okP (s p : Int) : Bool := okS s && (decide (0 ≤ p) && decide (p < s * s))
def okK (k : Int) : Bool := decide (0 ≤ k) && decide (k < 8)

/-- A quarter turn, n times. -/
def rot (s : Int) : Nat → Int × Int → Int × Int
  | 0, x => x
  | n + 1, x => ((rot s n x).2, s - 1 - (rot s n x).1)
def beg (s k p : Int) : Int × Int := (p / s, if 4 ≤ k then s - 1 - p % s else p % s)
def img (s k p : Int) : Int := (rot s (k % 4).toNat (beg s k p)).1 * s + (rot s (k % 4).toNat (beg s k p)).2
def tr (s k p : Int) : Int := if okP s p && okK k then img s k p else -1
def comp (a b : Int) : Int := if okK a && okK b then (a / 4 + b / 4) % 2 * 4 + (if 4 ≤ b then b - a + 8 else b + a) % 4 else -1

def nbL (s p : Int) : List Int := if s ≤ p then [p - s] else []
def nbA (s p : Int) : List Int := if 0 < p % s then [p - 1] else []
def nbB (s p : Int) : List Int := if p % s < s - 1 then [p + 1] else []
def nbU (s p : Int) : List Int := if p + s < s * s then [p + s] else []
def nbs (s p : Int) : List Int := nbL s p ++ nbA s p ++ nbB s p ++ nbU s p
def nb (s p : Int) : List Int := if okP s p then nbs s p else []

theorem okS_iff (s : Int) : okS s = true ↔ 1 ≤ s ∧ s ≤ 7 := by simp [okS]
theorem okK_iff (k : Int) : okK k = true ↔ 0 ≤ k ∧ k < 8 := by simp [okK]
theorem okP_iff (s p : Int) : okP s p = true ↔ 1 ≤ s ∧ s ≤ 7 ∧ 0 ≤ p ∧ p < s * s := by simp [okP, okS, and_assoc]

theorem sq_bd (s : Int) (h1 : 1 ≤ s) (h2 : s ≤ 7) : 1 ≤ s * s ∧ s * s ≤ 49 := by
  have : s = 1 ∨ s = 2 ∨ s = 3 ∨ s = 4 ∨ s = 5 ∨ s = 6 ∨ s = 7 := by omega
  rcases this with rfl | rfl | rfl | rfl | rfl | rfl | rfl <;> decide

/-- Division and remainder of a point. -/
theorem dm (s p : Int) (h1 : 1 ≤ s) (h2 : s ≤ 7) (h3 : 0 ≤ p) (h4 : p < s * s) :
    0 ≤ p / s ∧ p / s ≤ s - 1 ∧ 0 ≤ p % s ∧ p % s ≤ s - 1 ∧ p / s * s + p % s = p := by
  have : s = 1 ∨ s = 2 ∨ s = 3 ∨ s = 4 ∨ s = 5 ∨ s = 6 ∨ s = 7 := by omega
  rcases this with rfl | rfl | rfl | rfl | rfl | rfl | rfl <;> omega

theorem rot_bd (s : Int) (n : Nat) (x : Int × Int) (h : 0 ≤ x.1 ∧ x.1 ≤ s - 1 ∧ 0 ≤ x.2 ∧ x.2 ≤ s - 1) :
    0 ≤ (rot s n x).1 ∧ (rot s n x).1 ≤ s - 1 ∧ 0 ≤ (rot s n x).2 ∧ (rot s n x).2 ≤ s - 1 := by
  induction n with
  | zero => exact h
  | succ n ih => simp only [rot]; omega

theorem beg_bd (s k p : Int) (h1 : 1 ≤ s) (h2 : s ≤ 7) (h3 : 0 ≤ p) (h4 : p < s * s) :
    0 ≤ (beg s k p).1 ∧ (beg s k p).1 ≤ s - 1 ∧ 0 ≤ (beg s k p).2 ∧ (beg s k p).2 ≤ s - 1 := by
  have := dm s p h1 h2 h3 h4
  unfold beg
  split <;> simp only <;> omega

theorem lin_bd (s r c : Int) (h1 : 1 ≤ s) (h2 : s ≤ 7) (a : 0 ≤ r) (b : r ≤ s - 1) (d : 0 ≤ c) (e : c ≤ s - 1) : 0 ≤ r * s ∧ r * s ≤ 42 ∧ 0 ≤ r * s + c ∧ r * s + c < s * s := by
  have : s = 1 ∨ s = 2 ∨ s = 3 ∨ s = 4 ∨ s = 5 ∨ s = 6 ∨ s = 7 := by omega
  rcases this with rfl | rfl | rfl | rfl | rfl | rfl | rfl <;> omega

theorem img_bd (s k p : Int) (h1 : 1 ≤ s) (h2 : s ≤ 7) (h3 : 0 ≤ p) (h4 : p < s * s) : 0 ≤ img s k p ∧ img s k p < s * s := by
  have hb := rot_bd s (k % 4).toNat _ (beg_bd s k p h1 h2 h3 h4)
  have := lin_bd s _ _ h1 h2 hb.1 hb.2.1 hb.2.2.1 hb.2.2.2
  exact this.2.2

theorem row_pos (s p : Int) (h1 : 1 ≤ s) (h2 : s ≤ 7) (h3 : 0 ≤ p) (h4 : p < s * s) : (0 < p / s ↔ s ≤ p) ∧ (p / s < s - 1 ↔ p + s < s * s) := by
  have : s = 1 ∨ s = 2 ∨ s = 3 ∨ s = 4 ∨ s = 5 ∨ s = 6 ∨ s = 7 := by omega
  rcases this with rfl | rfl | rfl | rfl | rfl | rfl | rfl <;> omega

/-! ### What holds at every one of the finitely many valid arguments -/
theorem all_k {P : Int → Prop} (h : ∀ k : Fin 8, P ((k : Nat) : Int)) (k : Int) (a : 0 ≤ k) (b : k < 8) : P k := by
  obtain ⟨n, rfl⟩ := Int.eq_ofNat_of_zero_le a
  exact h ⟨n, by omega⟩
theorem all_sp {P : Int → Int → Prop} (h : ∀ s : Fin 7, ∀ p : Fin 49, ((p : Nat) : Int) < (((s : Nat) : Int) + 1) * (((s : Nat) : Int) + 1) → P (((s : Nat) : Int) + 1) ((p : Nat) : Int)) (s p : Int) (h1 : 1 ≤ s) (h2 : s ≤ 7) (h3 : 0 ≤ p) (h4 : p < s * s) : P s p := by
  obtain ⟨n, hn⟩ := Int.eq_ofNat_of_zero_le (show 0 ≤ s - 1 by omega)
  obtain rfl : s = (n : Int) + 1 := by omega
  obtain ⟨m, rfl⟩ := Int.eq_ofNat_of_zero_le h3
  have := sq_bd _ h1 h2
  exact h ⟨n, by omega⟩ ⟨m, by omega⟩ h4

end Go.Proofs.YteldfjibmaigiaaDoor.Pt
