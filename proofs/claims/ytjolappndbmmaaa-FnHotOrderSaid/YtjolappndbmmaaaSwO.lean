/-
  A row of switches of the call's own: it reads as a list of switches; one switch more is appended.
-/
import Derived.Test.YtjolappndbmmaaaHoT
namespace Go.Proofs.Ytjolappndbmmaaa
set_option maxRecDepth 100000
open Go.RowKit

def flat : List (Int × Int) → List Value
  | [] => []
  | x :: xs => .int .i64 x.1 :: .int .i64 x.2 :: flat xs
theorem flat_len : ∀ ls, (flat ls).length = ls.length * 2
  | [] => rfl
  | x :: xs => by simp only [flat, List.length_cons, flat_len xs]; omega
theorem flat_app : ∀ ls l r, flat (ls ++ [(l, r)]) = flat ls ++ [.int .i64 l, .int .i64 r]
  | [], _, _ => rfl
  | x :: xs, l, r => by simp only [List.cons_append, flat, flat_app xs l r]
theorem flat_get : ∀ (ls : List (Int × Int)) (j : Nat), j < ls.length → (flat ls)[j * 2]? = some (.int .i64 (ls.getD j (0, 0)).1) ∧ (flat ls)[j * 2 + 1]? = some (.int .i64 (ls.getD j (0, 0)).2)
  | [], j, h => by simp at h
  | x :: xs, 0, _ => by simp [flat]
  | x :: xs, j + 1, h => by
    have ih := flat_get xs j (by simpa using h)
    rw [show (j + 1) * 2 = j * 2 + 1 + 1 by omega]
    simp only [flat, List.getElem?_cons_succ, List.getD_cons_succ]
    exact ih
def OwS (w : World) (B : Nat) (A : Option Addr) (n c : Nat) (ls : List (Int × Int)) : Prop := ls.length = n ∧ w.ownsRow B 39 2 (.slice A n c) n (flat ls)
theorem OwS.sws {w : World} {B n c : Nat} {A : Option Addr} {ls : List (Int × Int)} (h : OwS w B A n c ls) : Sws w w.heap.size A n ls := by
  refine ⟨h.1, ?_⟩
  rcases h.2.2 with ⟨hv, h0⟩ | ⟨g, cap, cur, hv, _⟩
  · exact .inl h0
  · have hA : A = some ⟨g, 0, none⟩ := by injection hv
    have hlt := (World.ownsRow.lt h.2 g (by rw [hv]; rfl)).2
    refine .inr ⟨g, 0, hA, hlt, fun j hj => ?_⟩
    subst hA
    have hg := flat_get ls j (by rw [h.1]; exact hj)
    have e : ∀ i : Nat, (⟨g, 0, none⟩ : Addr).add i = ⟨g, 0 + i, none⟩ := fun i => by by_cases hj0 : i = 0 <;> simp [Addr.add, hj0]
    have c0 := World.ownsRow.cells h.2 (g := g) rfl (j * 2) _ hg.1
    have c1 := World.ownsRow.cells h.2 (g := g) rfl (j * 2 + 1) _ hg.2
    rw [e] at c0 c1
    exact ⟨c0, by rw [show 0 + j * 2 + 1 = 0 + (j * 2 + 1) by omega]; exact c1⟩
theorem OwS.kept {w w' : World} {B n c : Nat} {A : Option Addr} {ls : List (Int × Int)} (h : OwS w B A n c ls) {row : Option Nat} (hg : w.grownBy w' row) (hne : ∀ g, A = some ⟨g, 0, none⟩ → row ≠ some g) : OwS w' B A n c ls := by
  refine ⟨h.1, h.2.kept hg ?_⟩
  rcases h.2.2 with ⟨hv, _⟩ | ⟨g, cap, cur, hv, _⟩
  · exact .inl (by rw [hv]; rfl)
  · refine .inr fun e => ?_
    have hA : A = some ⟨g, 0, none⟩ := by injection hv
    subst hA
    exact hne g rfl e.symm
theorem OwS.ge {w : World} {B n c g : Nat} {A : Option Addr} {ls : List (Int × Int)} (h : OwS w B A n c ls) (hA : A = some ⟨g, 0, none⟩) : B ≤ g ∧ g < w.heap.size := by
  subst hA
  exact World.ownsRow.lt h.2 g rfl
theorem OwS.row {w : World} {B n c g : Nat} {A : Option Addr} {ls : List (Int × Int)} (h : OwS w B A n c ls) (hr : (Value.slice A n c).ownBlock = some g) : A = some ⟨g, 0, none⟩ := by
  rcases h.2.2 with ⟨hv, _⟩ | ⟨g', cap, cur, hv, _⟩
  · rw [hv] at hr; cases hr
  · have hA : A = some ⟨g', 0, none⟩ := by injection hv
    subst hA
    have : g' = g := Option.some.inj hr
    rw [this]
theorem OwS.bare (w : World) (B : Nat) (hB : B ≤ w.heap.size) : OwS (w.alloc (.cells #[] 39)) B (some ⟨w.heap.size, 0, none⟩) 0 0 [] :=
  ⟨rfl, rfl, .inr ⟨w.heap.size, 0, #[], rfl, hB, heap_alloc_new w _, Nat.le_refl _, Nat.zero_le _, rfl, rfl⟩⟩
theorem info_sw : (Try.prog.info? 39).map (fun i => (i.zero, i.size, i.bytes)) = some (some (.agg #[.int .i64 0, .int .i64 0]), 2, 16) := by kernel_rfl
set_option maxRecDepth 100000 in
/-- 'append(xs, s)' of one switch. -/
theorem appSw {ops : Array Oper} {rest : List Oper} {o : Oper} {a : Act} {Q : Exit → Act → World → Prop} (hgd : o.guard = none) (s x : Operand)
    (ho : o.op = .call { callee := .builtin .append, args := #[s, x], argTypes := #[31, 31] })
    (w : World) (B : Nat) (A : Option Addr) (n c : Nat) (ls : List (Int × Int)) (l r : Int) (G : Nat) (hs : a.eval s = .slice A n c) (hx : a.eval x = .slice (some ⟨G, 0, none⟩) 1 1) (hG : w.heap.size = G)
    (hown : OwS w B A n c ls) (hB : B ≤ w.heap.size) (hn : n ≤ 1000000)
    (h : ∀ A' c' w', OwS w' B A' (n + 1) c' (ls ++ [(l, r)]) → w.grownBy w' (Value.slice A n c).ownBlock → wpList Try.prog ops Q rest (a.put o.dst (.slice A' (n + 1) c')) w') :
    wpList Try.prog ops Q (o :: rest) a (w.alloc (.cells #[.int .i64 l, .int .i64 r] 39)) := by
  subst hG
  obtain ⟨i0, hi, hz0, hz1, hz2⟩ := info_parts info_sw
  refine wpList_append_own _ hgd s x 31 ho B 39 i0 (.agg #[.int .i64 0, .int .i64 0]) 2 16 Try.underlying31 hi hz0 hz1 hz2 rfl (by decide) _ n _ hs (hown.2.alloc _) ⟨w.heap.size, 0, none⟩ 1 1 [.int .i64 l, .int .i64 r] hx rfl ?_ ?_ ?_ ?_ ?_ ?_
  · intro j u hj
    match j, hj with
    | 0, hj =>
      simp at hj; subst hj
      have e : (⟨w.heap.size, 0, none⟩ : Addr).add 0 = ⟨w.heap.size, 0, none⟩ := by simp [Addr.add]
      rw [e]
      exact (Bx.new 39 w l (.int .i64 r)).cell0
    | 1, hj =>
      simp at hj; subst hj
      have e : (⟨w.heap.size, 0, none⟩ : Addr).add 1 = ⟨w.heap.size, 1, none⟩ := by simp [Addr.add]
      rw [e]
      exact (Bx.new 39 w l (.int .i64 r)).cell1
  · intro u hu
    simp at hu
    rcases hu with rfl | rfl <;> rfl
  · unfold maxLen; omega
  · omega
  · simp; omega
  · intro v' w' hown' hgrow hnil
    have hne : v' ≠ .slice none 0 0 := fun e => by have := (hnil.1 e).2; omega
    rcases hown'.2 with ⟨hv, _⟩ | ⟨g, cap, cur, hv, hr⟩
    · exact absurd hv hne
    · subst hv
      have hgr : w.grownBy w' (Value.slice A n c).ownBlock := gtrans (World.grownBy_alloc w _ _) hgrow
      exact h _ _ _ ⟨by simp [hown.1], by rw [flat_app]; exact hown'⟩ hgr
end Go.Proofs.Ytjolappndbmmaaa
