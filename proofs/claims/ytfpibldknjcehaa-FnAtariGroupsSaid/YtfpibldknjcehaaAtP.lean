/-
  Some of the rows of a list of lists: what 'append' keeps of them.
-/
import Derived.Test.YtfpibldknjcehaaGsI
import Derived.Test.YtfpibldknjcehaaLibI
namespace Go.Proofs.Ytfpibldknjcehaa
set_option maxRecDepth 100000
open Go.RowKit

/-- 'append(xss, xs)' on a row of rows, nothing said of the rows. -/
theorem app1V {ops : Array Oper} {rest : List Oper} {o : Oper} {a : Act} {Q : Exit → Act → World → Prop} (hgd : o.guard = none) (s x : Operand)
    (ho : o.op = .call { callee := .builtin .append, args := #[s, x], argTypes := #[41, 41] })
    (w : World) (B : Nat) (A A1 : Option Addr) (n c n1 c1 : Nat) (vs : List Value) (G : Nat) (hs : a.eval s = .slice A n c) (hx : a.eval x = .slice (some ⟨G, 0, none⟩) 1 1) (hG : w.heap.size = G)
    (h2 : w.ownsRow B 23 1 (.slice A n c) n vs) (hB : B ≤ w.heap.size) (hn : n ≤ 1000000)
    (h : ∀ A' c' w', w'.ownsRow B 23 1 (.slice A' (n + 1) c') (n + 1) (vs ++ [.slice A1 n1 c1]) → w.heap.size < w'.heap.size → w.grownBy w' (Value.slice A n c).ownBlock → (∀ g, A' = some ⟨g, 0, none⟩ → A = some ⟨g, 0, none⟩ ∨ w.heap.size < g) → wpList Try.prog ops Q rest (a.put o.dst (.slice A' (n + 1) c')) w') :
    wpList Try.prog ops Q (o :: rest) a (w.alloc (.cells #[.slice A1 n1 c1] 23)) := by
  subst hG
  obtain ⟨i0, hi', hz0, hz1, hz2⟩ := info_parts info_ints
  refine wpList_append_own_at _ hgd s x 41 ho B 23 i0 (.slice none 0 0) 1 24 Try.underlying41 hi' hz0 hz1 hz2 rfl (by decide) _ n _ hs (h2.alloc _) ⟨w.heap.size, 0, none⟩ 1 1 [.slice A1 n1 c1] hx rfl (cell_one_new _ _ _) ?_ ?_ ?_ ?_ ?_
  · intro u hu; simp at hu; subst hu; rfl
  · unfold maxLen; omega
  · omega
  · simp; omega
  · intro v' w' hown' hgrow hnil hat
    have hne : v' ≠ .slice none 0 0 := fun e => by have := (hnil.1 e).2; omega
    have hown2 := hown'.2
    rcases hown2 with ⟨hv, _⟩ | ⟨g, cap, cur, hv, hr⟩
    · exact absurd hv hne
    · subst hv
      have hgr : w.grownBy w' (Value.slice A n c).ownBlock := gtrans (World.grownBy_alloc w _ _) hgrow
      have hsz : w.heap.size < w'.heap.size := by have := hgrow.size; simp at this; omega
      refine h _ _ _ (by simpa using hown') hsz hgr fun q e => ?_
      injection e with e
      injection e with e
      subst e
      rcases hat with hat | hat
      · left
        exact slice_block (g := g) (by rw [← hat]; rfl) (row_form h2)
      · right
        have : g = w.heap.size + 1 := by simpa [Value.ownBlock] using hat
        omega

/-- A row of some of the rows, in their order, each once. -/
def FD (w : World) (B0 lo hi : Nat) (ra : Nat → Option Addr) (rn rc : Nat → Nat) (gs : List (List Int)) (i : Nat) (A : Option Addr) (m c : Nat) (fs : List (List Int)) : Prop :=
  ∃ f : Nat → Nat, m ≤ i ∧ (∀ j, j < m → f j < i) ∧ (∀ j k, j < m → k < m → j ≠ k → f j ≠ f k) ∧ w.ownsRow B0 23 1 (.slice A m c) m ((List.range m).map fun j => .slice (ra (f j)) (rn (f j)) (rc (f j))) ∧ fs.length = m ∧ (∀ j, j < m → fs.getD j [] = gs.getD (f j) []) ∧ (∀ g, A = some ⟨g, 0, none⟩ → g < lo ∨ hi ≤ g)

section
variable {w w' : World} {B0 lo hi m c i : Nat} {A : Option Addr} {ra : Nat → Option Addr} {rn rc : Nat → Nat} {gs fs : List (List Int)}

theorem FD.nil (w : World) (B0 lo hi : Nat) (ra : Nat → Option Addr) (rn rc : Nat → Nat) (gs : List (List Int)) : FD w B0 lo hi ra rn rc gs 0 none 0 0 [] :=
  ⟨fun _ => 0, Nat.le_refl _, fun j hj => absurd hj (by omega), fun j k hj => absurd hj (by omega), World.ownsRow_nil _ _ _ _, rfl, fun j hj => absurd hj (by omega), fun g e => by cases e⟩
theorem FD.of {w : World} {A : Option Addr} {c : Nat} (h : w.ownsRow B0 23 1 (.slice A 0 c) 0 []) (hA : ∀ g, A = some ⟨g, 0, none⟩ → g < lo ∨ hi ≤ g) (ra : Nat → Option Addr) (rn rc : Nat → Nat) (gs : List (List Int)) : FD w B0 lo hi ra rn rc gs 0 A 0 c [] :=
  ⟨fun _ => 0, Nat.le_refl _, fun j hj => absurd hj (by omega), fun j k hj => absurd hj (by omega), h, rfl, fun j hj => absurd hj (by omega), hA⟩
theorem FD.skip (h : FD w B0 lo hi ra rn rc gs i A m c fs) : FD w B0 lo hi ra rn rc gs (i + 1) A m c fs := by
  obtain ⟨f, a1, a2, a3, a4, a5, a6, a7⟩ := h
  exact ⟨f, by omega, fun j hj => by have := a2 j hj; omega, a3, a4, a5, a6, a7⟩
theorem FD.row (h : FD w B0 lo hi ra rn rc gs i A m c fs) : ∃ vs, w.ownsRow B0 23 1 (.slice A m c) m vs ∧ m ≤ i ∧
    (∀ w' A' c', w'.ownsRow B0 23 1 (.slice A' (m + 1) c') (m + 1) (vs ++ [.slice (ra i) (rn i) (rc i)]) → (∀ g, A' = some ⟨g, 0, none⟩ → A = some ⟨g, 0, none⟩ ∨ hi ≤ g) → FD w' B0 lo hi ra rn rc gs (i + 1) A' (m + 1) c' (fs ++ [gs.getD i []])) ∧
    (∀ w' : World, w'.ownsRow B0 23 1 (.slice A m c) m vs → FD w' B0 lo hi ra rn rc gs i A m c fs) := by
  obtain ⟨f, a1, a2, a3, a4, a5, a6, a7⟩ := h
  refine ⟨_, a4, a1, fun w' A' c' h' hA' => ⟨fun j => if j < m then f j else i, by omega, fun j hj => ?_, fun j k hj hk hne => ?_, ?_, by simp [a5], fun j hj => ?_, fun g e => ?_⟩, fun w' h' => ⟨f, a1, a2, a3, h', a5, a6, a7⟩⟩
  · by_cases e : j < m
    · simp only [if_pos e]; have := a2 j e; omega
    · simp only [if_neg e]; omega
  · by_cases e1 : j < m <;> by_cases e2 : k < m
    · simp only [if_pos e1, if_pos e2]; exact a3 j k e1 e2 hne
    · simp only [if_pos e1, if_neg e2]; have := a2 j e1; omega
    · simp only [if_neg e1, if_pos e2]; have := a2 k e2; omega
    · omega
  · have e : ((List.range (m + 1)).map fun j => Value.slice (ra (if j < m then f j else i)) (rn (if j < m then f j else i)) (rc (if j < m then f j else i))) = ((List.range m).map fun j => Value.slice (ra (f j)) (rn (f j)) (rc (f j))) ++ [.slice (ra i) (rn i) (rc i)] := by
      rw [List.range_succ, List.map_append, List.map_singleton, if_neg (Nat.lt_irrefl _)]
      congr 1
      refine List.map_congr_left fun j hj => ?_
      rw [if_pos (List.mem_range.1 hj)]
    rw [e]
    exact h'
  · by_cases e : j < m
    · simp only [if_pos e]
      rw [← a6 j e, List.getD_eq_getElem?_getD, List.getElem?_append_left (by omega), ← List.getD_eq_getElem?_getD]
    · obtain rfl : j = m := by omega
      simp only [if_neg e]
      rw [← a5]
      simp [List.getD_eq_getElem?_getD]
  · rcases hA' g e with e2 | e2
    · exact a7 g e2
    · exact .inr e2
theorem FD.below (h : FD w B0 lo hi ra rn rc gs i A m c fs) (hb : Below w.heap.size w w') : FD w' B0 lo hi ra rn rc gs i A m c fs := by
  obtain ⟨vs, a1, _, _, a4⟩ := h.row
  refine a4 w' (ownsRow_under a1 hb fun g e => ?_)
  subst e
  exact (World.ownsRow.lt a1 g rfl).2
theorem FD.ss {B n : Nat} (h : FD w B0 lo hi ra rn rc gs i A m c fs) (hin : i ≤ n) (hB : B ≤ B0) (h3 : ∀ j, j < n → Own w B (ra j) (rn j) (rc j) (gs.getD j [])) (h4 : ∀ j, j < n → ∀ g, ra j = some ⟨g, 0, none⟩ → lo ≤ g ∧ g < hi)
    (h5 : ∀ i j, i < n → j < n → i ≠ j → ∀ g, ra i = some ⟨g, 0, none⟩ → ra j ≠ some ⟨g, 0, none⟩) : SS w B w.heap.size A m c fs := by
  obtain ⟨f, a1, a2, a3, a4, a5, a6, a7⟩ := h
  refine ⟨a5, fun g e => ?_, _, fun j => ra (f j), fun j => rn (f j), fun j => rc (f j), by simp, ⟨a4.1, ?_⟩, fun j hj => ⟨by simp [hj], ?_⟩, fun j hj g e => ⟨?_, fun e2 => ?_⟩, fun j k hj hk hne => ?_⟩
  · subst e; exact (World.ownsRow.lt a4 g rfl).2
  · rcases a4.2 with e | ⟨g, cap, cur, e, hg, r⟩
    · exact .inl e
    · exact .inr ⟨g, cap, cur, e, by omega, r⟩
  · rw [a6 j hj]; exact h3 _ (by have := a2 j hj; omega)
  · exact ((h3 _ (by have := a2 j hj; omega)).ge e).2
  · subst e2
    have h1 := h4 (f j) (by have := a2 j hj; omega) g e
    have h2 := a7 g rfl
    omega
  · exact h5 _ _ (by have := a2 j hj; omega) (by have := a2 k hk; omega) (a3 j k hj hk hne)
end

/-- A group with one liberty. -/
def AT (s : Int) (n : Nat) (cs : List Int) (g : List Int) : Prop := ∃ S, Bs.BI s n cs 0 g [] S ∧ (Fl.pts S n).length = 1

/-- Those of the first i lists that have a property. -/
def AtF (P : List Int → Prop) (gs : List (List Int)) : Nat → List (List Int) → Prop
  | 0, fs => fs = []
  | i + 1, fs => ∃ f0, AtF P gs i f0 ∧ ((P (gs.getD i []) ∧ fs = f0 ++ [gs.getD i []]) ∨ (¬ P (gs.getD i []) ∧ fs = f0))
theorem AtF.one {P : List Int → Prop} {gs : List (List Int)} : ∀ {i : Nat} {fs fs' : List (List Int)}, AtF P gs i fs → AtF P gs i fs' → fs = fs' := by
  intro i
  induction i with
  | zero => intro fs fs' h h'; exact h.trans h'.symm
  | succ i ih =>
    intro fs fs' h h'
    obtain ⟨l0, h0, h⟩ := h
    obtain ⟨l1, h1, h'⟩ := h'
    have e := ih h0 h1
    subst e
    rcases h with ⟨a, rfl⟩ | ⟨a, rfl⟩ <;> rcases h' with ⟨b, rfl⟩ | ⟨b, rfl⟩
    · rfl
    · exact absurd a b
    · exact absurd b a
    · rfl
theorem AtF.make (P : List Int → Prop) (gs : List (List Int)) : ∀ i, ∃ fs, AtF P gs i fs := by
  intro i
  induction i with
  | zero => exact ⟨[], rfl⟩
  | succ i ih =>
    obtain ⟨l0, h0⟩ := ih
    by_cases e : P (gs.getD i [])
    · exact ⟨_, l0, h0, .inl ⟨e, rfl⟩⟩
    · exact ⟨_, l0, h0, .inr ⟨e, rfl⟩⟩
theorem AtF.sub {P : List Int → Prop} {gs : List (List Int)} : ∀ {i : Nat} {fs : List (List Int)}, AtF P gs i fs → fs.length ≤ i ∧ ∀ g ∈ fs, ∃ j, g = gs.getD j [] := by
  intro i
  induction i with
  | zero => intro fs h; cases (show fs = [] from h); exact ⟨Nat.le_refl _, fun g hg => by cases hg⟩
  | succ i ih =>
    intro fs h
    obtain ⟨l0, h0, h⟩ := h
    obtain ⟨a1, a2⟩ := ih h0
    rcases h with ⟨_, rfl⟩ | ⟨_, rfl⟩
    · refine ⟨by simp; omega, fun q hq => ?_⟩
      rw [List.mem_append, List.mem_singleton] at hq
      rcases hq with hq | rfl
      · exact a2 q hq
      · exact ⟨i, rfl⟩
    · exact ⟨by omega, a2⟩

/-- The groups in atari of a color, as lists; nothing for other arguments. -/
def AtIs (s : Int) (n : Nat) (cs : List Int) (x : Int) (fs : List (List Int)) : Prop := ∃ gs, GrpsIs s n cs x gs ∧ AtF (AT s n cs) gs gs.length fs
theorem AtIs.make (s : Int) (n : Nat) (cs : List Int) (x : Int) (hn : cs.length = n) : ∃ fs, AtIs s n cs x fs := by
  obtain ⟨gs, hg⟩ := GrpsIs.make s n cs x hn
  obtain ⟨fs, hf⟩ := AtF.make (AT s n cs) gs gs.length
  exact ⟨fs, gs, hg, hf⟩
theorem AtIs.small {s x : Int} {n : Nat} {cs : List Int} {fs : List (List Int)} (h : AtIs s n cs x fs) (hn : cs.length = n) : fs.length ≤ 49 ∧ ∀ j, (fs.getD j []).length ≤ 49 := by
  obtain ⟨gs, hg, hf⟩ := h
  obtain ⟨a, b⟩ := hg.small hn
  obtain ⟨c, d⟩ := hf.sub
  refine ⟨by omega, fun j => ?_⟩
  by_cases hj : j < fs.length
  · rw [List.getD_eq_getElem?_getD, List.getElem?_eq_getElem hj]
    obtain ⟨k, e⟩ := d _ (List.getElem_mem hj)
    show (fs[j]).length ≤ 49
    rw [e]; exact b k
  · rw [List.getD_eq_getElem?_getD, List.getElem?_eq_none (by omega)]
    exact Nat.zero_le _
theorem GrpsIs.one {s x : Int} {n : Nat} {cs : List Int} {l l' : List (List Int)} (h : GrpsIs s n cs x l) (h' : GrpsIs s n cs x l') : l = l' := by
  rcases Bool.eq_false_or_eq_true (okGs s cs x) with e | e
  · exact (h.1 e).one (h'.1 e)
  · rw [h.2 e, h'.2 e]
theorem AtIs.of {s x : Int} {n : Nat} {cs : List Int} {fs gs : List (List Int)} (h : AtIs s n cs x fs) (hg : GrpsIs s n cs x gs) : AtF (AT s n cs) gs gs.length fs := by
  obtain ⟨gs', hg', hf⟩ := h
  rw [hg'.one hg] at hf
  exact hf
theorem AtIs.nil {s x : Int} {n : Nat} {cs : List Int} {fs : List (List Int)} (h : AtIs s n cs x fs) (hh : okGs s cs x = false) : fs = [] := by
  obtain ⟨gs', hg', hf⟩ := h
  rw [hg'.2 hh] at hf
  exact hf
theorem AT.iff {s : Int} {n : Nat} {cs g : List Int} {S : List Bool} (h : Bs.BI s n cs 0 g [] S) : AT s n cs g ↔ (Fl.pts S n).length = 1 := by
  constructor
  · rintro ⟨T, hT, hl⟩
    rw [bi_one h hT]; exact hl
  · exact fun e => ⟨S, h, e⟩

/-- What a row of 'groupsOf' is. -/
theorem GL.row {s x : Int} {n : Nat} {cs : List Int} : ∀ {k : Nat} {ls : List (List Int)}, k ≤ n → GL s n cs x k ls → ∀ g ∈ ls, ∃ q : Nat, q < n ∧ 0 < g.length ∧ g.getD 0 0 = (q : Int) ∧ Reached s n (hasCol (cs.getD q 0) cs) (q : Int) g := by
  intro k
  induction k with
  | zero => intro ls _ h; cases (show ls = [] from h); exact fun g hg => by cases hg
  | succ k ih =>
    intro ls hk h
    obtain ⟨l0, h0, h⟩ := h
    rcases h with ⟨e, g, hg, rfl⟩ | ⟨_, rfl⟩
    · intro q hq
      rw [List.mem_append, List.mem_singleton] at hq
      rcases hq with hq | rfl
      · exact ih (by omega) h0 q hq
      · obtain ⟨f1, f2⟩ := hg.first (by omega)
        exact ⟨k, by omega, f1, f2.2 e.2, hg⟩
    · exact ih (by omega) h0
end Go.Proofs.Ytfpibldknjcehaa
