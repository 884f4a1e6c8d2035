/-
  Words for memory: a slice of ints that reads as a list; rows of the call's own; worlds that differ by new blocks and writes to one row; an append of one int.
-/
import Derived.Test.YteldfjibmaigiaaDoorBase
import Derived.Deep.AppendLies
import Derived.Deep.Draws
import Derived.OwnWalk
namespace Go.Proofs.YteldfjibmaigiaaDoor
set_option maxRecDepth 100000
open Go.RowKit

/-- The slice at A of n elements reads as the ints xs, and its memory lies below block B. -/
def Ints (w : World) (B : Nat) (A : Option Addr) (n : Nat) (xs : List Int) : Prop :=
  xs.length = n ∧ (n = 0 ∨ ∃ b o, A = some ⟨b, o, none⟩ ∧ b < B ∧ ∀ j, j < n → w.cell? ⟨b, o + j, none⟩ = some (.int .i64 (xs.getD j 0)))

theorem Ints.keep {w w' : World} {B n : Nat} {A : Option Addr} {xs : List Int} (h : Ints w B A n xs) (hk : ∀ k, k < B → w'.heap[k]? = w.heap[k]?) : Ints w' B A n xs := by
  refine ⟨h.1, ?_⟩
  rcases h.2 with h | ⟨b, o, hA, hb, hc⟩
  · exact .inl h
  · exact .inr ⟨b, o, hA, hb, fun j hj => (World.cell?_of_block (w := w) (hk b hb)).trans (hc j hj)⟩
theorem Ints.below {w w' : World} {B B' n : Nat} {A : Option Addr} {xs : List Int} (h : Ints w B A n xs) (hb : Below B' w w') (hB : B ≤ B') : Ints w' B A n xs := h.keep fun k hk => hb.block k (by omega)
theorem Ints.more {w : World} {B B' n : Nat} {A : Option Addr} {xs : List Int} (h : Ints w B A n xs) (hB : B ≤ B') : Ints w B' A n xs := by
  refine ⟨h.1, ?_⟩
  rcases h.2 with h | ⟨b, o, hA, hb, hc⟩
  · exact .inl h
  · exact .inr ⟨b, o, hA, by omega, hc⟩
theorem Ints.lit (w : World) (t : TypeId) (xs : List Int) : Ints (w.alloc (.cells (xs.map (Value.int .i64)).toArray t)) (w.heap.size + 1) (some ⟨w.heap.size, 0, none⟩) xs.length xs := by
  refine ⟨rfl, .inr ⟨w.heap.size, 0, rfl, by omega, fun j hj => ?_⟩⟩
  rw [World.cell?_alloc_at _ _ _ _ rfl]
  simp [List.getD_eq_getElem?_getD, List.getElem?_eq_getElem hj]

theorem gtrans {a b c : World} {row : Option Nat} (h : a.grownBy b row) (k : b.grownBy c row) : a.grownBy c row :=
  ⟨k.os.trans h.os, k.tape.trans h.tape, k.output.trans h.output, Nat.le_trans h.size k.size, fun i hi hne => (k.block i (Nat.lt_of_lt_of_le hi h.size) hne).trans (h.block i hi hne)⟩
theorem gbelow {a b : World} {B : Nat} (row : Option Nat) (hb : Below B a b) (hB : a.heap.size ≤ B) : a.grownBy b row :=
  ⟨hb.os, hb.tape, hb.output, hb.size, fun i hi _ => hb.block i (by omega)⟩
theorem below_g {a b : World} {B : Nat} {row : Option Nat} (h : a.grownBy b row) (hB : B ≤ a.heap.size) (hr : ∀ k, row = some k → B ≤ k) : Below B a b := (Below.refl _ _).grown h hB hr
theorem gsome {a b : World} (h : a.grownBy b none) (row : Option Nat) : a.grownBy b row := ⟨h.os, h.tape, h.output, h.size, fun i hi _ => h.block i hi (by simp)⟩
theorem gdrewN (a : World) (n : Nat) (row : Option Nat) : a.grownBy (a.drewN n) row := ⟨rfl, rfl, rfl, Nat.le_refl _, fun _ _ _ => rfl⟩

/-- The call owns the row of n ints xs (in blocks from B on). -/
def Own (w : World) (B : Nat) (A : Option Addr) (n c : Nat) (xs : List Int) : Prop :=
  xs.length = n ∧ w.ownsRow B 3 1 (.slice A n c) n (xs.map (Value.int .i64))

theorem Own.ints {w : World} {B n c : Nat} {A : Option Addr} {xs : List Int} (h : Own w B A n c xs) : Ints w w.heap.size A n xs := by
  refine ⟨h.1, ?_⟩
  by_cases hn : n = 0
  · exact .inl hn
  · have hpos : 0 < n := by omega
    obtain ⟨g, cap, hv, hg, hlt⟩ := World.ownsRow.form h.2 hpos
    have hA : A = some ⟨g, 0, none⟩ := by injection hv
    subst hA
    refine .inr ⟨g, 0, rfl, hlt, fun j hj => ?_⟩
    have hj' : j < xs.length := by have := h.1; omega
    have := World.ownsRow.cells h.2 (g := g) rfl j (.int .i64 (xs.getD j 0)) (by simp [List.getElem?_eq_getElem hj', List.getD_eq_getElem?_getD])
    have e : (⟨g, 0, none⟩ : Addr).add j = ⟨g, 0 + j, none⟩ := by by_cases hj0 : j = 0 <;> simp [Addr.add, hj0]
    rw [e] at this
    exact this
theorem Own.nil (w : World) (B : Nat) : Own w B none 0 0 [] := ⟨rfl, World.ownsRow_nil _ _ _ _⟩
theorem Own.alloc {w : World} {B n c : Nat} {A : Option Addr} {xs : List Int} (h : Own w B A n c xs) (o : Obj) : Own (w.alloc o) B A n c xs := ⟨h.1, h.2.alloc o⟩
theorem Own.drew {w : World} {B n c : Nat} {A : Option Addr} {xs : List Int} (h : Own w B A n c xs) : Own w.drew B A n c xs := h
theorem Own.drewN {w : World} {B n c : Nat} {A : Option Addr} {xs : List Int} (h : Own w B A n c xs) (k : Nat) : Own (w.drewN k) B A n c xs := h
theorem Own.kept {w w' : World} {B n c : Nat} {A : Option Addr} {xs : List Int} (h : Own w B A n c xs) {row : Option Nat} (hg : w.grownBy w' row) (hne : ∀ g, A = some ⟨g, 0, none⟩ → row ≠ some g) : Own w' B A n c xs := by
  refine ⟨h.1, h.2.kept hg ?_⟩
  rcases h.2.2 with ⟨hv, _⟩ | ⟨g, cap, cur, hv, _⟩
  · exact .inl (by rw [hv]; rfl)
  · refine .inr fun e => ?_
    have hA : A = some ⟨g, 0, none⟩ := by injection hv
    subst hA
    exact hne g rfl e.symm
theorem Own.below {w w' : World} {B n c : Nat} {A : Option Addr} {xs : List Int} (h : Own w B A n c xs) (hb : Below w.heap.size w w') : Own w' B A n c xs :=
  h.kept (gbelow none hb (Nat.le_refl _)) (fun g _ => by simp)
/-- A new empty slice that is not nil. -/
theorem Own.bare (w : World) (B : Nat) (hB : B ≤ w.heap.size) : Own (w.alloc (.cells #[] 3)) B (some ⟨w.heap.size, 0, none⟩) 0 0 [] :=
  ⟨rfl, World.ownsRow_made w #[] 0 hB (by simp) rfl⟩

theorem info_int : (Tryd.prog.info? 3).map (fun i => (i.zero, i.size, i.bytes)) = some (some (.int .i64 0), 1, 8) := by kernel_rfl

/-- 'append(xs, y)' of one int: the row grows by it, in the same block or in a new one. -/
theorem app1 {ops : Array Oper} {rest : List Oper} {o : Oper} {a : Act} {Q : Exit → Act → World → Prop} (hgd : o.guard = none) (s x : Operand)
    (ho : o.op = .call { callee := .builtin .append, args := #[s, x], argTypes := #[23, 23] })
    (w : World) (B : Nat) (A : Option Addr) (n c : Nat) (xs : List Int) (y : Int) (G : Nat) (hs : a.eval s = .slice A n c) (hx : a.eval x = .slice (some ⟨G, 0, none⟩) 1 1) (hG : w.heap.size = G)
    (hown : Own w B A n c xs) (hB : B ≤ w.heap.size) (hn : n ≤ 1000000000)
    (h : ∀ A' c' w', Own w' B A' (n + 1) c' (xs ++ [y]) → Below B w w' → w.heap.size < w'.heap.size → w.grownBy w' (Value.slice A n c).ownBlock → wpList Tryd.prog ops Q rest (a.put o.dst (.slice A' (n + 1) c')) w') :
    wpList Tryd.prog ops Q (o :: rest) a (w.alloc (.cells #[.int .i64 y] 3)) := by
  subst hG
  obtain ⟨i0, hi, hz0, hz1, hz2⟩ := info_parts info_int
  refine wpList_append_own _ hgd s x 23 ho B 3 i0 (.int .i64 0) 1 8 Tryd.underlying23 hi hz0 hz1 hz2 rfl (by decide) _ n _ hs (hown.2.alloc _) ⟨w.heap.size, 0, none⟩ 1 1 [.int .i64 y] hx rfl ?_ ?_ ?_ ?_ ?_ ?_
  · intro j u hj
    match j, hj with
    | 0, hj => simp at hj; subst hj; simp [Addr.add]
  · intro u hu; simp at hu; subst hu; rfl
  · unfold maxLen; omega
  · omega
  · simp; omega
  · intro v' w' hown' hgrow hnil
    have hne : v' ≠ .slice none 0 0 := fun e => by have := (hnil.1 e).2; omega
    rcases hown'.2 with ⟨hv, _⟩ | ⟨g, cap, cur, hv, hr⟩
    · exact absurd hv hne
    · subst hv
      have hgr : w.grownBy w' (Value.slice A n c).ownBlock := gtrans (World.grownBy_alloc w _ _) hgrow
      refine h _ _ _ ⟨by simp [hown.1], by simpa using hown'⟩ (below_g hgr hB ?_) ?_ hgr
      · intro k hk
        exact (World.ownsRow.lt hown.2 k hk).1
      · have := hgrow.size; simp at this; omega

set_option maxRecDepth 100000 in
/-- 'make([]int, n)': a new row of n zeros. -/
theorem make0 {ops : Array Oper} {rest : List Oper} {o : Oper} {a : Act} {Q : Exit → Act → World → Prop} (hg : o.guard = none) (l : Operand) (hop : o.op = Op.makeSlice 23 l l)
    (w : World) (B : Nat) (L : Int) (n : Nat) (hl : a.eval l = .int .i64 L) (hL : L = (n : Int)) (hn : n ≤ 1000000000) (hB : B ≤ w.heap.size)
    (h : ∀ w', Own w' B (some ⟨w.heap.size, 0, none⟩) n n (List.replicate n 0) → Below w.heap.size w w' → w.heap.size < w'.heap.size → wpList Tryd.prog ops Q rest (a.put o.dst (.slice (some ⟨w.heap.size, 0, none⟩) n n)) w') :
    wpList Tryd.prog ops Q (o :: rest) a w := by
  obtain ⟨i0, hi, hz0, hz1, hz2⟩ := info_parts info_int
  refine wpList_make_full w hg l l 23 hop B 3 i0 (.int .i64 0) 1 Tryd.underlying23 hi hz0 hz1 .i64 .i64 L L n hl hl hL hL (by rw [hz2]; omega) (by unfold maxLen; omega) hB ?_
  intro w' hown hgr
  rw [Nat.mul_one, show (Value.int IntKind.i64 0).cells = #[.int .i64 0] from rfl, toList_madeCells_one] at hown
  have ho : Own w' B (some ⟨w.heap.size, 0, none⟩) n n (List.replicate n 0) := ⟨by simp, by simpa using hown⟩
  refine h w' ho (below_g hgr (Nat.le_refl _) (fun k e => by cases e)) ?_
  rcases hown.2 with ⟨e, _⟩ | ⟨g, cap, cur, e, _, hh, _⟩
  · cases e
  · have hgw : g = w.heap.size := by injection e with e; injection e with e; injection e with e; exact e.symm
    subst hgw
    rcases Nat.lt_or_ge w.heap.size w'.heap.size with hlt | hge
    · exact hlt
    · rw [Array.getElem?_eq_none hge] at hh; cases hh

/-- Block g holds two cells, the first an int (a struct of an int and one cell more). -/
def Bx (t : TypeId) (w : World) (g : Nat) (s : Int) (v : Value) : Prop := w.heap[g]? = some (.cells #[.int .i64 s, v] t (0, 0))

section
variable {t : TypeId} {w w' : World} {g : Nat} {s : Int} {v : Value}
theorem Bx.lt (h : Bx t w g s v) : g < w.heap.size := by
  rcases Nat.lt_or_ge g w.heap.size with hlt | hge
  · exact hlt
  · unfold Bx at h; rw [Array.getElem?_eq_none hge] at h; cases h
theorem Bx.cell0 (h : Bx t w g s v) : w.cell? ⟨g, 0, none⟩ = some (.int .i64 s) := by
  unfold Bx at h; simp [World.cell?, h]
theorem Bx.cell1 (h : Bx t w g s v) : w.cell? ⟨g, 1, none⟩ = some v := by
  unfold Bx at h; simp [World.cell?, h]
theorem Bx.frozen (h : Bx t w g s v) (i : Nat) : w.frozen? ⟨g, i, none⟩ = false := by
  unfold Bx at h; simp [World.frozen?, h]
theorem Bx.new (t : TypeId) (w : World) (s : Int) (v : Value) : Bx t (w.alloc (.cells #[.int .i64 s, v] t)) w.heap.size s v := heap_alloc_new w _
theorem Bx.alloc (h : Bx t w g s v) (o : Obj) : Bx t (w.alloc o) g s v := (Below.heap_alloc w o g h.lt).trans h
theorem Bx.drewN (h : Bx t w g s v) (n : Nat) : Bx t (w.drewN n) g s v := h
theorem Bx.below {B : Nat} (h : Bx t w g s v) (hb : Below B w w') (hg : g < B) : Bx t w' g s v := (hb.block g hg).trans h
theorem Bx.grown {row : Option Nat} (h : Bx t w g s v) (hb : w.grownBy w' row) (hg : some g ≠ row) : Bx t w' g s v := (hb.block g h.lt hg).trans h
theorem Bx.far (h : Bx t w g s v) {p : Addr} (hp : g ≠ p.block) (u : Value) : Bx t (w.setCell p u) g s v := (Below.heap_setCell w p u g hp).trans h
theorem Bx.set0 (h : Bx t w g s v) (s' : Int) : Bx t (w.setCell ⟨g, 0, none⟩ (.int .i64 s')) g s' v := by
  unfold Bx at h ⊢
  simp [World.setCell, Array.getElem?_modify, h]
theorem Bx.set1 (h : Bx t w g s v) (v' : Value) : Bx t (w.setCell ⟨g, 1, none⟩ v') g s v' := by
  unfold Bx at h ⊢
  simp [World.setCell, Array.getElem?_modify, h]
end

theorem Own.far {w : World} {B n c : Nat} {A : Option Addr} {xs : List Int} (h : Own w B A n c xs) (p : Addr) (hne : ∀ g, A = some ⟨g, 0, none⟩ → g ≠ p.block) (u : Value) : Own (w.setCell p u) B A n c xs :=
  h.kept (row := some p.block) ⟨rfl, rfl, rfl, by simp [World.setCell], fun k _ hk => Below.heap_setCell w p u k (fun e => hk (by rw [e]))⟩ (fun g hA e => hne g hA (by injection e with e; exact e.symm))
/-- A row of the call's own that lies from B on is none of the blocks below B. -/
theorem Own.ge {w : World} {B n c g : Nat} {A : Option Addr} {xs : List Int} (h : Own w B A n c xs) (hA : A = some ⟨g, 0, none⟩) : B ≤ g ∧ g < w.heap.size := by
  subst hA
  exact World.ownsRow.lt h.2 g rfl
theorem Own.weaken {w : World} {B B' n c : Nat} {A : Option Addr} {xs : List Int} (h : Own w B A n c xs) (hB : B' ≤ B) : Own w B' A n c xs := by
  refine ⟨h.1, h.2.1, ?_⟩
  rcases h.2.2 with h2 | ⟨g, cap, cur, hv, hg, r⟩
  · exact .inl h2
  · exact .inr ⟨g, cap, cur, hv, by omega, r⟩
end Go.Proofs.YteldfjibmaigiaaDoor
