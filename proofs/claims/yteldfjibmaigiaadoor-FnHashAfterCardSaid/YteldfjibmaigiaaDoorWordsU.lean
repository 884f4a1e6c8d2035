/-
  Rows of bytes of the call's own.
-/
import Derived.Test.YteldfjibmaigiaaDoorWords
import Derived.Laws.BytesString
namespace Go.Proofs.YteldfjibmaigiaaDoor
set_option maxRecDepth 100000
open Go.RowKit

/-- The call owns the row of n ints xs (in blocks from B on). -/
def OwU (w : World) (B : Nat) (A : Option Addr) (n c : Nat) (xs : List Int) : Prop :=
  xs.length = n ∧ w.ownsRow B 5 1 (.slice A n c) n (xs.map (Value.int .u8))

theorem OwU.nil (w : World) (B : Nat) : OwU w B none 0 0 [] := ⟨rfl, World.ownsRow_nil _ _ _ _⟩
theorem OwU.alloc {w : World} {B n c : Nat} {A : Option Addr} {xs : List Int} (h : OwU w B A n c xs) (o : Obj) : OwU (w.alloc o) B A n c xs := ⟨h.1, h.2.alloc o⟩
theorem OwU.drew {w : World} {B n c : Nat} {A : Option Addr} {xs : List Int} (h : OwU w B A n c xs) : OwU w.drew B A n c xs := h
theorem OwU.drewN {w : World} {B n c : Nat} {A : Option Addr} {xs : List Int} (h : OwU w B A n c xs) (k : Nat) : OwU (w.drewN k) B A n c xs := h
theorem OwU.kept {w w' : World} {B n c : Nat} {A : Option Addr} {xs : List Int} (h : OwU w B A n c xs) {row : Option Nat} (hg : w.grownBy w' row) (hne : ∀ g, A = some ⟨g, 0, none⟩ → row ≠ some g) : OwU w' B A n c xs := by
  refine ⟨h.1, h.2.kept hg ?_⟩
  rcases h.2.2 with ⟨hv, _⟩ | ⟨g, cap, cur, hv, _⟩
  · exact .inl (by rw [hv]; rfl)
  · refine .inr fun e => ?_
    have hA : A = some ⟨g, 0, none⟩ := by injection hv
    subst hA
    exact hne g rfl e.symm
theorem OwU.below {w w' : World} {B n c : Nat} {A : Option Addr} {xs : List Int} (h : OwU w B A n c xs) (hb : Below w.heap.size w w') : OwU w' B A n c xs :=
  h.kept (gbelow none hb (Nat.le_refl _)) (fun g _ => by simp)
/-- A new empty slice that is not nil. -/
theorem OwU.bare (w : World) (B : Nat) (hB : B ≤ w.heap.size) : OwU (w.alloc (.cells #[] 5)) B (some ⟨w.heap.size, 0, none⟩) 0 0 [] :=
  ⟨rfl, World.ownsRow_made w #[] 0 hB (by simp) rfl⟩

theorem info_u8 : (Tryd.prog.info? 5).map (fun i => (i.zero, i.size, i.bytes)) = some (some (.int .u8 0), 1, 1) := by kernel_rfl

/-- 'append(xs, y)' of one int: the row grows by it, in the same block or in a new one. -/
theorem appU1 {ops : Array Oper} {rest : List Oper} {o : Oper} {a : Act} {Q : Exit → Act → World → Prop} (hgd : o.guard = none) (s x : Operand)
    (ho : o.op = .call { callee := .builtin .append, args := #[s, x], argTypes := #[22, 22] })
    (w : World) (B : Nat) (A : Option Addr) (n c : Nat) (xs : List Int) (y : Int) (G : Nat) (hs : a.eval s = .slice A n c) (hx : a.eval x = .slice (some ⟨G, 0, none⟩) 1 1) (hG : w.heap.size = G)
    (hown : OwU w B A n c xs) (hB : B ≤ w.heap.size) (hn : n ≤ 1000000000)
    (h : ∀ A' c' w', OwU w' B A' (n + 1) c' (xs ++ [y]) → Below B w w' → w.heap.size < w'.heap.size → w.grownBy w' (Value.slice A n c).ownBlock → wpList Tryd.prog ops Q rest (a.put o.dst (.slice A' (n + 1) c')) w') :
    wpList Tryd.prog ops Q (o :: rest) a (w.alloc (.cells #[.int .u8 y] 5)) := by
  subst hG
  obtain ⟨i0, hi, hz0, hz1, hz2⟩ := info_parts info_u8
  refine wpList_append_own _ hgd s x 22 ho B 5 i0 (.int .u8 0) 1 1 Tryd.underlying22 hi hz0 hz1 hz2 rfl (by decide) _ n _ hs (hown.2.alloc _) ⟨w.heap.size, 0, none⟩ 1 1 [.int .u8 y] hx rfl ?_ ?_ ?_ ?_ ?_ ?_
  · intro j u hj
    match j, hj with
    | 0, hj => simp at hj; subst hj; simp [Addr.add]
  · intro u hu; simp at hu; subst hu; rfl
  · unfold maxLen; omega
  · omega
  · simp; omega
  · intro v' w' hown' hgrow hnil
    have hne : v' ≠ .slice none 0 0 := fun e => by have := (hnil.1 e).2; omega
    rcases hown'.2 with ⟨hv, _⟩ | ⟨g, cap, cur, hv, hr⟩
    · exact absurd hv hne
    · subst hv
      have hgr : w.grownBy w' (Value.slice A n c).ownBlock := gtrans (World.grownBy_alloc w _ _) hgrow
      refine h _ _ _ ⟨by simp [hown.1], by simpa using hown'⟩ (below_g hgr hB ?_) ?_ hgr
      · intro k hk
        exact (World.ownsRow.lt hown.2 k hk).1
      · have := hgrow.size; simp at this; omega

theorem OwU.far {w : World} {B n c : Nat} {A : Option Addr} {xs : List Int} (h : OwU w B A n c xs) (p : Addr) (hne : ∀ g, A = some ⟨g, 0, none⟩ → g ≠ p.block) (u : Value) : OwU (w.setCell p u) B A n c xs :=
  h.kept (row := some p.block) ⟨rfl, rfl, rfl, by simp [World.setCell], fun k _ hk => Below.heap_setCell w p u k (fun e => hk (by rw [e]))⟩ (fun g hA e => hne g hA (by injection e with e; exact e.symm))
/-- A row of the call's own that lies from B on is none of the blocks below B. -/
theorem OwU.ge {w : World} {B n c g : Nat} {A : Option Addr} {xs : List Int} (h : OwU w B A n c xs) (hA : A = some ⟨g, 0, none⟩) : B ≤ g ∧ g < w.heap.size := by
  subst hA
  exact World.ownsRow.lt h.2 g rfl
theorem OwU.weaken {w : World} {B B' n c : Nat} {A : Option Addr} {xs : List Int} (h : OwU w B A n c xs) (hB : B' ≤ B) : OwU w B' A n c xs := by
  refine ⟨h.1, h.2.1, ?_⟩
  rcases h.2.2 with h2 | ⟨g, cap, cur, hv, hg, r⟩
  · exact .inl h2
  · exact .inr ⟨g, cap, cur, hv, by omega, r⟩
end Go.Proofs.YteldfjibmaigiaaDoor
