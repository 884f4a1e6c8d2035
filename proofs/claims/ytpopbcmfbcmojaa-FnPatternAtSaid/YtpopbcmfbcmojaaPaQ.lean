/-
  What surrounds a point: the points around it, its pattern (plain functions on numbers and lists). No program is imported.
-/
import Derived.Test.YtpopbcmfbcmojaaPkJ
namespace Go.Proofs.Ytpopbcmfbcmojaa.Pa
set_option maxRecDepth 100000
open Go.Proofs.Ytpopbcmfbcmojaa

def row (s p i : Int) : Int := p / s - 1 + i / 3
def col (s p i : Int) : Int := p % s - 1 + i % 3
def inB (s p i : Int) : Bool := (decide (0 ≤ row s p i) && decide (row s p i ≤ s - 1)) && (decide (0 ≤ col s p i) && decide (col s p i ≤ s - 1))
def pt (s p i : Int) : Int := if inB s p i = true then row s p i * s + col s p i else -1
/-- The list of the points around, up to the i-th. -/
def arl (s p : Int) : Nat → List Int
  | 0 => []
  | i + 1 => if i = 4 then arl s p i else arl s p i ++ [pt s p i]
/-- The digit of the i-th place. -/
def dg (s : Int) (cs : List Int) (p i : Int) : Int := if inB s p i = true then cs.getD (row s p i * s + col s p i).toNat 0 else 3
def near (s : Int) (cs : List Int) (p : Int) : List Int := [dg s cs p 0, dg s cs p 1, dg s cs p 2, dg s cs p 3, dg s cs p 4, dg s cs p 5, dg s cs p 6, dg s cs p 7, dg s cs p 8]
def ix (i : Nat) : Nat := if i < 4 then i else i + 1
theorem inB_iff {s p i : Int} : inB s p i = true ↔ (0 ≤ row s p i ∧ row s p i ≤ s - 1) ∧ (0 ≤ col s p i ∧ col s p i ≤ s - 1) := by
  unfold inB
  simp
theorem pt_bd {s p i : Int} (h1 : 1 ≤ s) (h2 : s ≤ 7) : -1 ≤ pt s p i ∧ pt s p i < s * s := by
  have := Pt.sq_bd s h1 h2
  unfold pt
  split
  · next h =>
    obtain ⟨⟨a, b⟩, c, d⟩ := inB_iff.1 h
    have := Pt.lin_bd s _ _ h1 h2 a b c d
    omega
  · omega
theorem pt_dg {s : Int} {cs : List Int} {p i : Int} (h1 : 1 ≤ s) (h2 : s ≤ 7) : (0 ≤ pt s p i → dg s cs p i = cs.getD (pt s p i).toNat 0) ∧ (pt s p i < 0 → dg s cs p i = 3) := by
  unfold pt dg
  cases hb : inB s p i with
  | true =>
    obtain ⟨⟨a, b⟩, c, d⟩ := inB_iff.1 hb
    have := Pt.lin_bd s _ _ h1 h2 a b c d
    simp
    omega
  | false => simp
theorem arl_len (s p : Int) : (arl s p 9).length = 8 := by simp [arl]
theorem arl_few (s p : Int) : ∀ i, (arl s p i).length ≤ i
  | 0 => by simp [arl]
  | i + 1 => by
    have := arl_few s p i
    rw [show arl s p (i + 1) = if i = 4 then arl s p i else arl s p i ++ [pt s p i] from rfl]
    split <;> simp <;> omega
theorem arl_at (s p : Int) {i : Nat} (hi : i < 8) : (arl s p 9).getD i 0 = pt s p (ix i : Nat) := by
  have : i = 0 ∨ i = 1 ∨ i = 2 ∨ i = 3 ∨ i = 4 ∨ i = 5 ∨ i = 6 ∨ i = 7 := by omega
  rcases this with rfl | rfl | rfl | rfl | rfl | rfl | rfl | rfl <;> simp [arl, ix]
theorem dg_bd {s : Int} {cs : List Int} {p i : Int} (hv : Bd.okB s cs = true) : 0 ≤ dg s cs p i ∧ dg s cs p i ≤ 3 := by
  obtain ⟨h1, h2, h3, h4⟩ := (Bd.okB_iff s cs).1 hv
  unfold dg
  split
  · next h =>
    obtain ⟨⟨a, b⟩, c, d⟩ := inB_iff.1 h
    have := Pt.lin_bd s _ _ h1 h2 a b c d
    have hl : (row s p i * s + col s p i).toNat < cs.length := by omega
    rw [List.getD_eq_getElem?_getD, List.getElem?_eq_getElem hl]
    have := h4 _ (List.getElem_mem hl)
    simp
    omega
  · omega
theorem near_nine {s : Int} {cs : List Int} {p : Int} (hv : Bd.okB s cs = true) : Pk.Nine (near s cs p) :=
  ⟨_, _, _, _, _, _, _, _, _, rfl, dg_bd hv, dg_bd hv, dg_bd hv, dg_bd hv, dg_bd hv, dg_bd hv, dg_bd hv, dg_bd hv, dg_bd hv⟩
theorem enc_bd {a b c d e f g h : Int} (ha : 0 ≤ a ∧ a ≤ 3) (hb : 0 ≤ b ∧ b ≤ 3) (hc : 0 ≤ c ∧ c ≤ 3) (hd : 0 ≤ d ∧ d ≤ 3) (he : 0 ≤ e ∧ e ≤ 3) (hf : 0 ≤ f ∧ f ≤ 3) (hg : 0 ≤ g ∧ g ≤ 3) (hh : 0 ≤ h ∧ h ≤ 3) : 0 ≤ Pk.enc a b c d e f g h ∧ Pk.enc a b c d e f g h ≤ 65535 := by
  unfold Pk.enc
  omega
/-- The pattern around a point. -/
def pat (s : Int) (cs : List Int) (p : Int) : Int := Pk.pat (near s cs p)
theorem pat_bd {s : Int} {cs : List Int} {p : Int} (hv : Bd.okB s cs = true) : 0 ≤ pat s cs p ∧ pat s cs p ≤ 65535 :=
  enc_bd (dg_bd hv) (dg_bd hv) (dg_bd hv) (dg_bd hv) (dg_bd hv) (dg_bd hv) (dg_bd hv) (dg_bd hv)
theorem near_at (s : Int) (cs : List Int) (p : Int) {q : Nat} (hq : q < 9) : (near s cs p).getD q 0 = dg s cs p q := by
  have : q = 0 ∨ q = 1 ∨ q = 2 ∨ q = 3 ∨ q = 4 ∨ q = 5 ∨ q = 6 ∨ q = 7 ∨ q = 8 := by omega
  rcases this with rfl | rfl | rfl | rfl | rfl | rfl | rfl | rfl | rfl <;> rfl
end Go.Proofs.Ytpopbcmfbcmojaa.Pa
