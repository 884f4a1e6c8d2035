/-
  Words for memory, more: a row of bools in one block; an append of one int that says where the row lies afterwards; a row of one int; a row without its last element.
-/
import Derived.Test.YteldfjibmaigiaaDoorWords
import Derived.Maps.AppendAt
import Derived.WalkSmall
namespace Go.Proofs.YteldfjibmaigiaaDoor
set_option maxRecDepth 100000
open Go.RowKit

/-- Block g is just these bools. -/
def Bl (w : World) (g : Nat) (bs : List Bool) : Prop := w.heap[g]? = some (.cells (bs.map Value.bool).toArray 4 (0, 0))
section
variable {w w' : World} {g : Nat} {bs : List Bool}
theorem Bl.lt (h : Bl w g bs) : g < w.heap.size := by
  rcases Nat.lt_or_ge g w.heap.size with hlt | hge
  · exact hlt
  · unfold Bl at h; rw [Array.getElem?_eq_none hge] at h; cases h
theorem Bl.cell (h : Bl w g bs) {j : Nat} (hj : j < bs.length) : w.cell? ⟨g, j, none⟩ = some (.bool (bs.getD j false)) := by
  unfold Bl at h
  simp [World.cell?, h, List.getD_eq_getElem?_getD, List.getElem?_eq_getElem hj]
theorem Bl.frozen (h : Bl w g bs) (i : Nat) : w.frozen? ⟨g, i, none⟩ = false := by
  unfold Bl at h; simp [World.frozen?, h]
theorem Bl.alloc (h : Bl w g bs) (o : Obj) : Bl (w.alloc o) g bs := (Below.heap_alloc w o g h.lt).trans h
theorem Bl.drew (h : Bl w g bs) : Bl w.drew g bs := h
theorem Bl.below {B : Nat} (h : Bl w g bs) (hb : Below B w w') (hg : g < B) : Bl w' g bs := (hb.block g hg).trans h
theorem Bl.grown {row : Option Nat} (h : Bl w g bs) (hb : w.grownBy w' row) (hg : some g ≠ row) : Bl w' g bs := (hb.block g h.lt hg).trans h
theorem Bl.far (h : Bl w g bs) {p : Addr} (hp : g ≠ p.block) (u : Value) : Bl (w.setCell p u) g bs := (Below.heap_setCell w p u g hp).trans h
theorem Bl.set_ (h : Bl w g bs) (i : Nat) (b : Bool) : Bl (w.setCell ⟨g, i, none⟩ (.bool b)) g (bs.set i b) := by
  unfold Bl at h ⊢
  simp [World.setCell, Array.getElem?_modify, h]
end

theorem info_bool : (Tryd.prog.info? 4).map (fun i => (i.zero, i.size, i.bytes)) = some (some (.bool false), 1, 1) := by kernel_rfl

/-- 'make([]bool, n)'. -/
theorem makeB {ops : Array Oper} {rest : List Oper} {o : Oper} {a : Act} {Q : Exit → Act → World → Prop} (hg : o.guard = none) (l : Operand) (hop : o.op = Op.makeSlice 91 l l)
    (w : World) (L : Int) (n : Nat) (hl : a.eval l = .int .i64 L) (hL : L = (n : Int)) (hn : n ≤ 1000000000)
    (h : ∀ w', Bl w' w.heap.size (List.replicate n false) → Below w.heap.size w w' → w.heap.size < w'.heap.size → wpList Tryd.prog ops Q rest (a.put o.dst (.slice (some ⟨w.heap.size, 0, none⟩) n n)) w') :
    wpList Tryd.prog ops Q (o :: rest) a w := by
  obtain ⟨i0, hi, hz0, hz1, hz2⟩ := info_parts info_bool
  refine wpList_make_full w hg l l 91 hop w.heap.size 4 i0 (.bool false) 1 Tryd.underlying91 hi hz0 hz1 .i64 .i64 L L n hl hl hL hL (by rw [hz2]; omega) (by unfold maxLen; omega) (Nat.le_refl _) ?_
  intro w' hown hgr
  rw [Nat.mul_one, show (Value.bool false).cells = #[.bool false] from rfl, toList_madeCells_one] at hown
  rcases hown.2 with ⟨e, _⟩ | ⟨g, cap, cur, e, _, hh, hnc, hcm, hcs, ht⟩
  · cases e
  · obtain ⟨hgw, hcap⟩ : g = w.heap.size ∧ cap = n := by
      injection e with e1 e2 e3
      injection e1 with e1
      injection e1 with e1
      exact ⟨e1.symm, e3.symm⟩
    subst hgw
    subst hcap
    have hcur : cur = ((List.replicate cap false).map Value.bool).toArray := by
      apply Array.ext'
      rw [List.take_of_length_le (by rw [Array.length_toList, hcs]; exact Nat.le_refl _)] at ht
      rw [ht]
      simp
    have hbl : Bl w' w.heap.size (List.replicate cap false) := by unfold Bl; rw [hh, hcur]
    exact h w' hbl (below_g hgr (Nat.le_refl _) (fun k e => by cases e)) hbl.lt

/-- 'append(xs, y)' of one int, and where the row lies then: in the same block, or in a new one. -/
theorem app1at {ops : Array Oper} {rest : List Oper} {o : Oper} {a : Act} {Q : Exit → Act → World → Prop} (hgd : o.guard = none) (s x : Operand)
    (ho : o.op = .call { callee := .builtin .append, args := #[s, x], argTypes := #[23, 23] })
    (w : World) (B : Nat) (A : Option Addr) (n c : Nat) (xs : List Int) (y : Int) (G : Nat) (hs : a.eval s = .slice A n c) (hx : a.eval x = .slice (some ⟨G, 0, none⟩) 1 1) (hG : w.heap.size = G)
    (hown : Own w B A n c xs) (hB : B ≤ w.heap.size) (hn : n ≤ 1000000000)
    (h : ∀ A' c' w', Own w' B A' (n + 1) c' (xs ++ [y]) → w.heap.size < w'.heap.size → w.grownBy w' (Value.slice A n c).ownBlock → (∀ g, A' = some ⟨g, 0, none⟩ → (Value.slice A n c).ownBlock = some g ∨ w.heap.size < g) → wpList Tryd.prog ops Q rest (a.put o.dst (.slice A' (n + 1) c')) w') :
    wpList Tryd.prog ops Q (o :: rest) a (w.alloc (.cells #[.int .i64 y] 3)) := by
  subst hG
  obtain ⟨i0, hi, hz0, hz1, hz2⟩ := info_parts info_int
  refine wpList_append_own_at _ hgd s x 23 ho B 3 i0 (.int .i64 0) 1 8 Tryd.underlying23 hi hz0 hz1 hz2 rfl (by decide) _ n _ hs (hown.2.alloc _) ⟨w.heap.size, 0, none⟩ 1 1 [.int .i64 y] hx rfl (cell_one_new _ _ _) ?_ ?_ ?_ ?_ ?_
  · intro u hu; simp at hu; subst hu; rfl
  · unfold maxLen; omega
  · omega
  · simp; omega
  · intro v' w' hown' hgrow hnil hat
    have hne : v' ≠ .slice none 0 0 := fun e => by have := (hnil.1 e).2; omega
    rcases hown'.2 with ⟨hv, _⟩ | ⟨g, cap, cur, hv, hr⟩
    · exact absurd hv hne
    · subst hv
      have hgr : w.grownBy w' (Value.slice A n c).ownBlock := gtrans (World.grownBy_alloc w _ _) hgrow
      refine h _ _ _ ⟨by simp [hown.1], by simpa using hown'⟩ ?_ hgr ?_
      · have := hgrow.size; simp at this; omega
      · intro g2 e2
        injection e2 with e2
        injection e2 with e2
        subst e2
        rcases hat with hat | hat
        · left; rw [← hat]; rfl
        · right
          have : g = w.heap.size + 1 := by simpa [Value.ownBlock] using hat
          omega

/-- A new row of one int. -/
theorem Own.one (w : World) (B : Nat) (x : Int) (hB : B ≤ w.heap.size) : Own (w.alloc (.cells #[.int .i64 x] 3)) B (some ⟨w.heap.size, 0, none⟩) 1 1 [x] :=
  ⟨rfl, World.ownsRow_lit w #[.int .i64 x] 1 hB (by unfold maxLen; omega) rfl⟩
theorem Own.pop {w : World} {B g n c : Nat} {xs : List Int} {x : Int} (h : Own w B (some ⟨g, 0, none⟩) (n + 1) c (xs ++ [x])) : Own w B (some ⟨g, 0, none⟩) n c xs := by
  have hl : xs.length = n := by have := h.1; rw [List.length_append] at this; simpa using this
  refine ⟨hl, ?_⟩
  have h2 := h.2
  rw [List.map_append] at h2
  exact ownsRow_pop (by rw [List.length_map, hl]; omega) h2
theorem Own.cap {w : World} {B g n c : Nat} {xs : List Int} (h : Own w B (some ⟨g, 0, none⟩) n c xs) : n ≤ c := by
  rcases h.2.2 with ⟨e, _⟩ | ⟨g', cap, cur, e, _, _, hnc, _⟩
  · cases e
  · injection e with e1 e2 e3
    omega
end Go.Proofs.YteldfjibmaigiaaDoor
