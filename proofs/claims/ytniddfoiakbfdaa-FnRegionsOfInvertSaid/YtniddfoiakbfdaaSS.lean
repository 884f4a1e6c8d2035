/-
  Lists of lists of ints in memory: how they are read, owned, and appended to.
-/
import Derived.Test.YtniddfoiakbfdaaUn
import Derived.Test.YtniddfoiakbfdaaRows2
namespace Go.Proofs.Ytniddfoiakbfdaa
set_option maxRecDepth 100000
open Go.RowKit

/-- The slice at A of n rows reads as the lists xss. -/
def IntsS (w : World) (A : Option Addr) (n : Nat) (xss : List (List Int)) : Prop :=
  xss.length = n ∧ (n = 0 ∨ ∃ b o, A = some ⟨b, o, none⟩ ∧ b < w.heap.size ∧ ∀ j, j < n → ∃ Aj nj cj, w.cell? ⟨b, o + j, none⟩ = some (.slice Aj nj cj) ∧ Ints w w.heap.size Aj nj (xss.getD j []))

theorem IntsS.below {w w' : World} {A : Option Addr} {n : Nat} {xss : List (List Int)} (h : IntsS w A n xss) (hb : Below w.heap.size w w') : IntsS w' A n xss := by
  refine ⟨h.1, ?_⟩
  rcases h.2 with h0 | ⟨b, o, hA, hlt, hc⟩
  · exact .inl h0
  · refine .inr ⟨b, o, hA, Nat.lt_of_lt_of_le hlt hb.size, fun j hj => ?_⟩
    obtain ⟨Aj, nj, cj, e, hi⟩ := hc j hj
    exact ⟨Aj, nj, cj, (hb.cell (p := ⟨b, o + j, none⟩) hlt).trans e, (hi.below hb (Nat.le_refl _)).more hb.size⟩

/-- The call owns the row of rows: its own block, a block for each row, all of them different, from B to below hi. -/
structure SS (w : World) (B hi : Nat) (A : Option Addr) (n c : Nat) (xss : List (List Int)) : Prop where
  len : xss.length = n
  bd : ∀ g, A = some ⟨g, 0, none⟩ → g < hi
  ex : ∃ (vs : List Value) (ra : Nat → Option Addr) (rn rc : Nat → Nat), vs.length = n ∧ w.ownsRow B 23 1 (.slice A n c) n vs ∧
    (∀ j, j < n → vs[j]? = some (.slice (ra j) (rn j) (rc j)) ∧ Own w B (ra j) (rn j) (rc j) (xss.getD j [])) ∧
    (∀ j, j < n → ∀ g, ra j = some ⟨g, 0, none⟩ → g < hi ∧ A ≠ some ⟨g, 0, none⟩) ∧
    (∀ i j, i < n → j < n → i ≠ j → ∀ g, ra i = some ⟨g, 0, none⟩ → ra j ≠ some ⟨g, 0, none⟩)

section
variable {w w' : World} {B hi n c : Nat} {A : Option Addr} {xss : List (List Int)}

theorem slice_block {A : Option Addr} {n c g : Nat} (h : (Value.slice A n c).ownBlock = some g) (hA : A = none ∨ ∃ b, A = some ⟨b, 0, none⟩) : A = some ⟨g, 0, none⟩ := by
  rcases hA with rfl | ⟨b, rfl⟩
  · cases h
  · have : b = g := by simpa [Value.ownBlock] using h
    rw [this]

theorem row_form {t : TypeId} {vs : List Value} (h : w.ownsRow B t 1 (.slice A n c) n vs) : A = none ∨ ∃ b, A = some ⟨b, 0, none⟩ := by
  rcases h.2 with ⟨e, _⟩ | ⟨g, cap, cur, e, _⟩
  · left; injection e
  · right; exact ⟨g, by injection e⟩

theorem SS.nil (w : World) (B hi : Nat) : SS w B hi none 0 0 [] :=
  ⟨rfl, (fun g e => by cases e), [], fun _ => none, fun _ => 0, fun _ => 0, rfl, World.ownsRow_nil _ _ _ _, fun j hj => absurd hj (by omega), fun j hj => absurd hj (by omega), fun i j hi => absurd hi (by omega)⟩

theorem SS.bare (w : World) (B : Nat) (hB : B ≤ w.heap.size) : SS (w.alloc (.cells #[] 23)) B (w.heap.size + 1) (some ⟨w.heap.size, 0, none⟩) 0 0 [] :=
  ⟨rfl, (fun g e => by injection e with e; injection e with e; omega), [], fun _ => none, fun _ => 0, fun _ => 0, rfl, World.ownsRow_made w #[] 0 hB (by simp) rfl, fun j hj => absurd hj (by omega), fun j hj => absurd hj (by omega), fun i j hi => absurd hi (by omega)⟩

theorem SS.more (h : SS w B hi A n c xss) {hi' : Nat} (hh : hi ≤ hi') : SS w B hi' A n c xss := by
  obtain ⟨l, bd, vs, ra, rn, rc, h1, h2, h3, h4, h5⟩ := h
  exact ⟨l, fun g e => Nat.lt_of_lt_of_le (bd g e) hh, vs, ra, rn, rc, h1, h2, h3, fun j hj g e => ⟨Nat.lt_of_lt_of_le (h4 j hj g e).1 hh, (h4 j hj g e).2⟩, h5⟩

theorem ownsRow_under {t : TypeId} {B' : Nat} {vs : List Value} (h : w.ownsRow B t 1 (.slice A n c) n vs) (hb : Below B' w w') (hA : ∀ g, A = some ⟨g, 0, none⟩ → g < B') : w'.ownsRow B t 1 (.slice A n c) n vs := by
  refine ⟨h.1, ?_⟩
  rcases h.2 with ⟨e, r⟩ | ⟨g, cap, cur, e, hg, hh, r⟩
  · exact .inl ⟨e, r⟩
  · have : A = some ⟨g, 0, none⟩ := by injection e
    exact .inr ⟨g, cap, cur, e, hg, (hb.block g (hA g this)).trans hh, r⟩

theorem Own.under {A : Option Addr} {n c B' : Nat} {xs : List Int} (h : Own w B A n c xs) (hb : Below B' w w') (hA : ∀ g, A = some ⟨g, 0, none⟩ → g < B') : Own w' B A n c xs := ⟨h.1, ownsRow_under h.2 hb hA⟩

/-- What lies below B' is kept. -/
theorem SS.under {B' : Nat} (h : SS w B hi A n c xss) (hb : Below B' w w') (hh : hi ≤ B') : SS w' B hi A n c xss := by
  obtain ⟨l, bd, vs, ra, rn, rc, h1, h2, h3, h4, h5⟩ := h
  exact ⟨l, bd, vs, ra, rn, rc, h1, ownsRow_under h2 hb (fun g e => Nat.lt_of_lt_of_le (bd g e) hh),
    fun j hj => ⟨(h3 j hj).1, (h3 j hj).2.under hb (fun g e => Nat.lt_of_lt_of_le (h4 j hj g e).1 hh)⟩, h4, h5⟩

theorem SS.top (h : SS w B hi A n c xss) : SS w B w.heap.size A n c xss := by
  obtain ⟨l, bd, vs, ra, rn, rc, h1, h2, h3, h4, h5⟩ := h
  refine ⟨l, fun g e => ?_, vs, ra, rn, rc, h1, h2, h3, fun j hj g e => ⟨((h3 j hj).2.ge e).2, (h4 j hj g e).2⟩, h5⟩
  subst e
  exact (World.ownsRow.lt h2 g rfl).2

theorem SS.below (h : SS w B hi A n c xss) (hb : Below w.heap.size w w') : SS w' B hi A n c xss := by
  obtain ⟨l, bd, vs, ra, rn, rc, h1, h2, h3, h4, h5⟩ := h
  refine ⟨l, bd, vs, ra, rn, rc, h1, ownsRow_under h2 hb (fun g e => ?_), fun j hj => ⟨(h3 j hj).1, (h3 j hj).2.below hb⟩, h4, h5⟩
  subst e
  exact (World.ownsRow.lt h2 g rfl).2

/-- A row elsewhere is written. -/
theorem SS.kept (h : SS w B hi A n c xss) {row : Option Nat} (hg : w.grownBy w' row) (hne : ∀ g, row = some g → g < B ∨ hi ≤ g) : SS w' B hi A n c xss := by
  obtain ⟨l, bd, vs, ra, rn, rc, h1, h2, h3, h4, h5⟩ := h
  refine ⟨l, bd, vs, ra, rn, rc, h1, h2.kept hg ?_, fun j hj => ⟨(h3 j hj).1, (h3 j hj).2.kept hg fun g e e2 => ?_⟩, h4, h5⟩
  · rcases row_form h2 with e | ⟨b, e⟩
    · left; subst e; rcases h2.2 with ⟨e, _⟩ | ⟨g, cap, cur, e, _⟩
      · rw [e]; rfl
      · injection e with e; cases e
    · right
      intro e2
      subst e
      have hb1 := World.ownsRow.lt h2 b rfl
      have hb2 := bd b rfl
      rcases hne b e2.symm with h | h
      · omega
      · omega
  · have hb1 := ((h3 j hj).2.ge e).1
    have hb2 := (h4 j hj g e).1
    rcases hne g e2 with h | h <;> omega

theorem SS.ints (h : SS w B hi A n c xss) : IntsS w A n xss := by
  obtain ⟨l, bd, vs, ra, rn, rc, h1, h2, h3, h4, h5⟩ := h
  refine ⟨l, ?_⟩
  by_cases hn : n = 0
  · exact .inl hn
  · rcases row_form h2 with e | ⟨b, rfl⟩
    · subst e
      rcases h2.2 with ⟨e, r⟩ | ⟨g, cap, cur, e, _⟩
      · have : n = 0 := by injection e
        exact absurd this hn
      · injection e with e; cases e
    · refine .inr ⟨b, 0, rfl, (World.ownsRow.lt h2 b rfl).2, fun j hj => ⟨ra j, rn j, rc j, ?_, (h3 j hj).2.ints⟩⟩
      rw [Nat.zero_add, World.ownsRow.cellAt h2 j (by omega)]
      exact (h3 j hj).1

/-- One row of them. -/
theorem SS.at_ (h : SS w B hi A n c xss) {j : Nat} (hj : j < n) : ∃ b Aj nj cj, A = some ⟨b, 0, none⟩ ∧ w.cell? ⟨b, j, none⟩ = some (.slice Aj nj cj) ∧ Own w B Aj nj cj (xss.getD j []) ∧
    (∀ w' ys, Own w' B Aj nj cj ys → w.grownBy w' (Value.slice Aj nj cj).ownBlock → SS w' B hi A n c (xss.set j ys)) := by
  obtain ⟨l, bd, vs, ra, rn, rc, h1, h2, h3, h4, h5⟩ := h
  obtain ⟨b, rfl⟩ : ∃ b, A = some ⟨b, 0, none⟩ := by
    rcases row_form h2 with e | e
    · subst e
      rcases h2.2 with ⟨e, r⟩ | ⟨g, cap, cur, e, _⟩
      · have : n = 0 := by injection e
        omega
      · injection e with e; cases e
    · exact e
  refine ⟨b, ra j, rn j, rc j, rfl, ?_, (h3 j hj).2, fun w' ys ho hg => ?_⟩
  · rw [World.ownsRow.cellAt h2 j (by omega)]
    exact (h3 j hj).1
  · have hrow : ∀ g, (Value.slice (ra j) (rn j) (rc j)).ownBlock = some g → ra j = some ⟨g, 0, none⟩ := fun g e => slice_block e (row_form (h3 j hj).2.2)
    refine ⟨by rw [List.length_set]; exact l, bd, vs, ra, rn, rc, h1, h2.kept hg (.inr fun e => ?_), fun i hi => ⟨(h3 i hi).1, ?_⟩, h4, h5⟩
    · exact (h4 j hj b (hrow b e.symm)).2 rfl
    · by_cases e : i = j
      · subst e
        rw [show (xss.set i ys).getD i [] = ys by simp [List.getD_eq_getElem?_getD, l, hi]]
        exact ho
      · rw [show (xss.set j ys).getD i [] = xss.getD i [] by simp [List.getD_eq_getElem?_getD, Ne.symm e]]
        exact (h3 i hi).2.kept hg fun g e1 e2 => h5 i j hi hj e g e1 (hrow g e2)
end

theorem info_ints : (Try.prog.info? 23).map (fun i => (i.zero, i.size, i.bytes)) = some (some (.slice none 0 0), 1, 24) := by kernel_rfl

/-- 'append(xss, xs)' of one row that lies above the others. -/
theorem app1S {ops : Array Oper} {rest : List Oper} {o : Oper} {a : Act} {Q : Exit → Act → World → Prop} (hgd : o.guard = none) (s x : Operand)
    (ho : o.op = .call { callee := .builtin .append, args := #[s, x], argTypes := #[34, 34] })
    (w : World) (B hi : Nat) (A A1 : Option Addr) (n c n1 c1 : Nat) (xss : List (List Int)) (xs : List Int) (G : Nat) (hs : a.eval s = .slice A n c) (hx : a.eval x = .slice (some ⟨G, 0, none⟩) 1 1) (hG : w.heap.size = G)
    (hown : SS w B hi A n c xss) (hone : Own w hi A1 n1 c1 xs) (hB : B ≤ hi) (hh : hi ≤ w.heap.size) (hn : n ≤ 1000000)
    (h : ∀ A' c' w', SS w' B w'.heap.size A' (n + 1) c' (xss ++ [xs]) → w.heap.size < w'.heap.size → Below B w w' → w.grownBy w' (Value.slice A n c).ownBlock → wpList Try.prog ops Q rest (a.put o.dst (.slice A' (n + 1) c')) w') :
    wpList Try.prog ops Q (o :: rest) a (w.alloc (.cells #[.slice A1 n1 c1] 23)) := by
  subst hG
  obtain ⟨i0, hi', hz0, hz1, hz2⟩ := info_parts info_ints
  obtain ⟨l, bd, vs, ra, rn, rc, h1, h2, h3, h4, h5⟩ := hown
  refine wpList_append_own_at _ hgd s x 34 ho B 23 i0 (.slice none 0 0) 1 24 Try.underlying34 hi' hz0 hz1 hz2 rfl (by decide) _ n _ hs (h2.alloc _) ⟨w.heap.size, 0, none⟩ 1 1 [.slice A1 n1 c1] hx rfl (cell_one_new _ _ _) ?_ ?_ ?_ ?_ ?_
  · intro u hu; simp at hu; subst hu; rfl
  · unfold maxLen; omega
  · omega
  · simp; omega
  · intro v' w' hown' hgrow hnil hat
    have hne : v' ≠ .slice none 0 0 := fun e => by have := (hnil.1 e).2; omega
    have hown2 := hown'.2
    rcases hown2 with ⟨hv, _⟩ | ⟨g, cap, cur, hv, hr⟩
    · exact absurd hv hne
    · subst hv
      have hgr : w.grownBy w' (Value.slice A n c).ownBlock := gtrans (World.grownBy_alloc w _ _) hgrow
      have hsz : w.heap.size < w'.heap.size := by have := hgrow.size; simp at this; omega
      have hbl : ∀ k, (Value.slice A n c).ownBlock = some k → A = some ⟨k, 0, none⟩ := fun k e => slice_block e (row_form h2)
      have hgb : ∀ k, (Value.slice A n c).ownBlock = some k → B ≤ k ∧ k < hi := fun k e => by
        have e := hbl k e
        refine ⟨?_, bd k e⟩
        subst e
        exact (World.ownsRow.lt h2 k rfl).1
      have hg2 : (Value.slice A n c).ownBlock = some g ∨ w.heap.size < g := by
        rcases hat with hat | hat
        · left; rw [← hat]; rfl
        · right
          have : g = w.heap.size + 1 := by simpa [Value.ownBlock] using hat
          omega
      have hown1 : w'.ownsRow B 23 1 (.slice (some ⟨g, 0, none⟩) (n + 1) cap) (n + 1) (vs ++ [.slice A1 n1 c1]) := by simpa using hown'
      have hgl := World.ownsRow.lt hown1 g rfl
      have hk1 : Own w' hi A1 n1 c1 xs := hone.kept hgr fun q e e2 => by have := (hone.ge e).1; have := (hgb q e2).2; omega
      refine h _ _ _ ⟨by simp [l], fun q e => ?_, vs ++ [.slice A1 n1 c1], (fun j => if j < n then ra j else A1), (fun j => if j < n then rn j else n1), (fun j => if j < n then rc j else c1), by simp [h1], hown1, ?_, ?_, ?_⟩ hsz (below_g hgr (by omega) fun k hk => (hgb k hk).1) hgr
      · injection e with e; injection e with e; omega
      · intro j hj
        by_cases e : j < n
        · simp only [if_pos e]
          refine ⟨by rw [List.getElem?_append_left (by omega)]; exact (h3 j e).1, ?_⟩
          rw [show (xss ++ [xs]).getD j [] = xss.getD j [] by rw [List.getD_eq_getElem?_getD, List.getElem?_append_left (by omega), ← List.getD_eq_getElem?_getD]]
          exact (h3 j e).2.kept hgr fun q e1 e2 => (h4 j e q e1).2 (hbl q e2)
        · obtain rfl : j = n := by omega
          simp only [if_neg e]
          refine ⟨by rw [← h1]; simp, ?_⟩
          rw [show (xss ++ [xs]).getD j [] = xs by rw [← l]; simp [List.getD_eq_getElem?_getD]]
          exact hk1.weaken hB
      · intro j hj q e1
        by_cases e : j < n
        · simp only [if_pos e] at e1
          have := (h3 j e).2.ge e1
          refine ⟨by omega, fun e3 => ?_⟩
          injection e3 with e3; injection e3 with e3
          subst e3
          rcases hg2 with hg2 | hg2
          · exact (h4 j e g e1).2 (hbl g hg2)
          · omega
        · simp only [if_neg e] at e1
          have := hone.ge e1
          refine ⟨by omega, fun e3 => ?_⟩
          injection e3 with e3; injection e3 with e3
          subst e3
          rcases hg2 with hg2 | hg2
          · have := (hgb g hg2).2; omega
          · omega
      · intro i j hi1 hj1 hij q e1 e2
        by_cases ei : i < n <;> by_cases ej : j < n
        · simp only [if_pos ei] at e1
          simp only [if_pos ej] at e2
          exact h5 i j ei ej hij q e1 e2
        · simp only [if_pos ei] at e1
          simp only [if_neg ej] at e2
          have := (h4 i ei q e1).1
          have := (hone.ge e2).1
          omega
        · simp only [if_neg ei] at e1
          simp only [if_pos ej] at e2
          have := (h4 j ej q e2).1
          have := (hone.ge e1).1
          omega
        · omega
end Go.Proofs.Ytniddfoiakbfdaa
