/-
  A strings.Builder that the call itself has made: a byte is written.
-/
import Derived.Test.YtmddkifadknlfaaWordsU
import Derived.Lib.Builder
namespace Go.Proofs.Ytmddkifadknlfaa
set_option maxRecDepth 100000
open Go.RowKit

/-- Block b is a builder that holds the bytes xs, in blocks from B on. -/
def Bu (w : World) (B b : Nat) (xs : List Int) : Prop :=
  B ≤ b ∧ ∃ (p : Option Addr) (A : Option Addr) (c : Nat), (p = none ∨ p = some ⟨b, 0, none⟩) ∧ w.heap[b]? = some (.cells #[.pointer p, .slice A xs.length c] 43 (0, 0)) ∧ OwU w B A xs.length c xs ∧ A ≠ some ⟨b, 0, none⟩

theorem Bu.lt {w : World} {B b : Nat} {xs : List Int} (h : Bu w B b xs) : b < w.heap.size := by
  obtain ⟨_, p, A, c, _, hb, _⟩ := h
  rcases Nat.lt_or_ge b w.heap.size with h' | h'
  · exact h'
  · simp [Array.getElem?_eq_none h'] at hb
theorem Bu.new (w : World) : Bu (w.alloc (.cells #[.pointer none, .slice none 0 0] 43)) w.heap.size w.heap.size [] :=
  ⟨Nat.le_refl _, none, none, 0, .inl rfl, heap_alloc_new w _, OwU.nil _ _, by simp⟩
theorem Bu.lib {w : World} {B b : Nat} {xs : List Int} (h : Bu w B b xs) : Lib.IsBuilder 43 5 B b (xs.map (Value.int .u8)) w := by
  obtain ⟨hB, p, A, c, hp, hb, ho, hA⟩ := h
  have hne : (Value.slice A xs.length c).ownBlock ≠ some b := fun e => by
    rcases ho.2.2 with ⟨hv, _⟩ | ⟨g, cap, cur, hv, _⟩
    · rw [hv] at e; cases e
    · have hAg : A = some ⟨g, 0, none⟩ := by injection hv
      subst hAg
      have : g = b := by simpa [Value.ownBlock] using e
      subst this
      exact hA rfl
  have hl : (xs.map (Value.int .u8)).length = xs.length := by simp
  rcases hp with rfl | rfl
  · exact .inl ⟨hB, _, hb, by rw [hl]; exact ho.2, hne⟩
  · exact .inr ⟨hB, _, hb, by rw [hl]; exact ho.2, hne⟩
theorem Bu.drew {w : World} {B b : Nat} {xs : List Int} (h : Bu w B b xs) : Bu w.drew B b xs := h

theorem size_bu : (Try.prog.info? 43).map (·.size) = some 2 := by kernel_rfl
theorem lies_bu : liesAt Try.prog Try.prog.depth 43 (2 / Try.prog.cellsOf 43) 0 43 1 = true := by kernel_rfl

/-- copyCheck: behind it the builder holds its own address. -/
theorem g_check (b : Nat) (v : Value) (p : Option Addr) (w : World) (hp : p = none ∨ p = some ⟨b, 0, none⟩) (h : w.heap[b]? = some (.cells #[.pointer p, v] 43 (0, 0))) :
    Calls Try.prog 34 #[.pointer (some ⟨b, 0, none⟩)] w fun e w' => e = .returned (.tuple #[]) ∧ w'.heap[b]? = some (.cells #[.pointer (some ⟨b, 0, none⟩), v] 43 (0, 0)) ∧ w.grownBy w' (some b) := by
  obtain ⟨j, hj, hjs⟩ := Option.map_eq_some_iff.1 size_bu
  have h0 : w.cell? ⟨b, 0, none⟩ = some (.pointer p) := by simp [World.cell?, h]
  have hf : w.frozen? ⟨b, 0, none⟩ = false := by simp [World.frozen?, h]
  have hsh : w.shape? b = some (43, 2) := by simp [World.shape?, h]
  rcases hp with rfl | rfl
  · have k1 : (w.setCell ⟨b, 0, none⟩ (.pointer (some ⟨b, 0, none⟩))).heap[b]? = some (.cells #[.pointer (some ⟨b, 0, none⟩), v] 43 (0, 0)) := by simp [World.setCell, Array.getElem?_modify, h]
    have k2 : w.grownBy (w.setCell ⟨b, 0, none⟩ (.pointer (some ⟨b, 0, none⟩))) (some b) := ⟨rfl, rfl, rfl, by simp [World.setCell], fun k _ hk => Below.heap_setCell w ⟨b, 0, none⟩ _ k (fun e => hk (by rw [e]))⟩
    have K1 := Lib.hid k1
    have K2 := Lib.hid k2
    clear h k1 k2
    go_enter Try.func34, Try.ntmps34
    go_wp2
    rw [Lib.run_to_unsafe w ⟨b, 0, none⟩ Try.underlying41 Try.underlying66 hj (by rw [hjs]; decide) hsh (Nat.zero_lt_succ 1)]
    simp only [Result.andThen]
    rw [Oper.upon_value]
    go_wp2
    rw [run_callFunc_extern Try.func44 (by kernel_rfl) (by kernel_rfl) (by kernel_rfl) (e := Extern.AbiNoEscape.same) (by kernel_rfl)]
    rw [Lib.run_noEscape]
    simp only [Result.andThen]
    rw [Oper.upon_value]
    go_wp2
    rw [Lib.run_from_unsafe w ⟨b, 0, none⟩ Try.underlying66 Try.underlying41 hj hsh lies_bu]
    simp only [Result.andThen]
    rw [Oper.upon_value]
    go_wp2
    go_end0
    exact ⟨rfl, K1.out, K2.out⟩
  · have K1 := Lib.hid h
    clear h
    go_enter Try.func34, Try.ntmps34
    go_wp2
    rw [Lib.run_neq_ptr_same w _ Try.underlying41 hj]
    go_wp2
    go_end0
    exact ⟨rfl, K1.out, World.grownBy.refl _ _⟩

/-- WriteByte. -/
theorem g_writeByte (B b : Nat) (xs : List Int) (x : Int) (w : World) (h : Bu w B b xs) (hn : xs.length ≤ 1000000) (hB : B ≤ w.heap.size) :
    Calls Try.prog 20 #[.pointer (some ⟨b, 0, none⟩), .int .u8 x] w fun e w' => e = .returned .nilIface ∧ Bu w' B b (xs ++ [x]) ∧ Below B w w' := by
  have hlt := h.lt
  obtain ⟨hBb, p, A, c, hp, hb, ho, hA⟩ := h
  obtain ⟨n, hl⟩ : ∃ n, xs.length = n := ⟨_, rfl⟩
  rw [hl] at hb ho hn
  have HL := Lib.hid hl
  have Hb := Lib.hid hb
  have Ho := Lib.hid ho
  have HA := Lib.hid hA
  clear hb ho hA hl
  go_enter Try.func20, Try.ntmps20
  go_wp2_with fail
  refine (g_check b _ p _ hp Hb.out).mono ?_
  rintro e w1 ⟨rfl, hb1, hg1⟩
  have ho1 := Ho.out.kept hg1 (fun g e he => by have := Option.some.inj he; exact HA.out (by rw [e, this]))
  have hz1 := hg1.size
  have hB1 : B ≤ w1.heap.size := by omega
  have hbelow := below_g hg1 hB (fun k hk => by have := Option.some.inj hk; omega)
  have Hb1 := Lib.hid hb1
  have Ho1 := Lib.hid ho1
  have Hw1 := Lib.hid hbelow
  have d0 : w1.cell? ⟨b, 0, none⟩ = some (.pointer (some ⟨b, 0, none⟩)) := by simp [World.cell?, hb1]
  have d1 : w1.cell? ⟨b, 1, none⟩ = some (.slice A n c) := by simp [World.cell?, hb1]
  have hlt1 : b < w1.heap.size := by omega
  clear hb1 hg1 ho1 hbelow hp Hb Ho
  have hne : some b ≠ (Value.slice A n c).ownBlock := fun e => by
    rcases Ho1.out.2.2 with ⟨hv, _⟩ | ⟨g, cap, cur, hv, _⟩
    · rw [hv] at e; cases e
    · have hAg : A = some ⟨g, 0, none⟩ := by injection hv
      subst hAg
      have : b = g := by simpa [Value.ownBlock] using e
      subst this
      exact HA.out rfl
  have hnx : ∀ w2, w1.grownBy w2 (Value.slice A n c).ownBlock → w2.cell? ⟨b, 1, none⟩ = some (.slice A n c) ∧ w2.frozen? ⟨b, 1, none⟩ = false ∧ w2.heap[b]? = some (.cells #[.pointer (some ⟨b, 0, none⟩), .slice A n c] 43 (0, 0)) := fun w2 hg => by
    have hb2 := (hg.block b hlt1 hne).trans Hb1.out
    exact ⟨by simp [World.cell?, hb2], by simp [World.frozen?, hb2], hb2⟩
  have Hnx := Lib.hid hnx
  clear hne hnx
  go_wp2_with (at_builtin; refine appU1 rfl _ _ rfl _ _ _ _ _ _ _ _ rfl rfl rfl Ho1.out hB1 (by omega) ?_; intro A' c' w2 hown' hb' hlt' hgrow'; have q1 := (Hnx.out _ hgrow').1; have q2 := (Hnx.out _ hgrow').2.1; have Q3 := Lib.hid (Hnx.out _ hgrow').2.2; have Ho2 := Lib.hid hown'; have Hw2 := Lib.hid (Hw1.out.trans hb'); have Hg2 := Lib.hid hgrow'; clear hown' hb' hgrow')
  go_ret
  have hA' : A' ≠ some ⟨b, 0, none⟩ := fun e => by
    have q3 := Q3.out
    rcases Ho2.out.2.2 with ⟨hv, _⟩ | ⟨g, cap, cur, hv, _, hh, _⟩
    · rw [e] at hv; cases hv
    · rw [e] at hv
      injection hv with hv
      injection hv with hv
      injection hv with hv
      subst hv
      rw [q3] at hh
      injection hh with hh
      injection hh with _ hh
      cases hh
  have hl1 : (xs ++ [x]).length = n + 1 := by rw [List.length_append, HL.out]; rfl
  refine ⟨rfl, ⟨hBb, some ⟨b, 0, none⟩, A', c', .inr rfl, ?_, ?_, hA'⟩, Hw2.out.setCell (p := ⟨b, 1, none⟩) hBb _⟩
  · have q3 := Q3.out
    rw [hl1]
    simp [World.setCell, Array.getElem?_modify, q3]
  · rw [hl1]
    exact Ho2.out.far ⟨b, 1, none⟩ (fun g hg e => hA' (by rw [hg, e])) _
end Go.Proofs.Ytmddkifadknlfaa
