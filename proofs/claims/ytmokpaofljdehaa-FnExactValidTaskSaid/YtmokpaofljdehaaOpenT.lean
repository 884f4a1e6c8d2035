/-
  A task that came in as an argument of a law.
-/
import Derived.Test.YtmokpaofljdehaaOpenL
import Derived.Lib.SmallJoins
namespace Go.Proofs.Ytmokpaofljdehaa
set_option maxRecDepth 100000
open Go.RowKit Go.ChangeShapes Go.WideShapes Go.ChangeAt Go.Joins

theorem cellsTask : Try.prog.cellsOf 26 = 4 := by kernel_rfl
theorem cellsIntT : Try.prog.cellsOf 3 = 1 := by kernel_rfl
theorem cellsIntsT : Try.prog.cellsOf 22 = 1 := by kernel_rfl
theorem four {xs : Array Value} (h : xs.size = 4) : ∃ a b c d, xs = #[a, b, c, d] := by
  obtain ⟨l⟩ := xs
  match l, h with
  | [a, b, c, d], _ => exact ⟨a, b, c, d, rfl⟩

theorem list_of {H : Type} {enc : TypeId × Value → H} {w : World} {base : Nat} {spare : Nat → Bool} {held : Bool} {k : Nat} {x : Value} {y : DataW H × List MemPlace} (h1 : DataW.trod enc Try.prog w base spare held k 22 [x] = some y) :
    ∃ (A : Option Addr) (n c : Nat) (cs : List Int), x = .slice A n c ∧ Ints w w.heap.size A n cs ∧ n ≤ 9223372036854775807 := by
  rcases open_ints Try.underlying22 Try.underlying3 (by kernel_rfl) h1 with ⟨hcs, _⟩ | ⟨x, l, c, zs, hcs, _, hl, hm, hz, _, hcell, _⟩
  · simp at hcs
    subst hcs
    exact ⟨none, 0, 0, [], rfl, ⟨rfl, .inl rfl⟩, by omega⟩
  · simp at hcs
    subst hcs
    have hlz : l ≤ zs.length := by rw [hz]; split <;> omega
    refine ⟨some x, l, c, zs.take l, rfl, ⟨by rw [List.length_take]; omega, ?_⟩, by unfold maxLen at hm; omega⟩
    by_cases h0 : l = 0
    · exact .inl h0
    · obtain ⟨b, off, spot⟩ := x
      have hc := hcell 0 (by omega)
      have hspot : spot = none := by simpa [Addr.add] using World.cell?_spot hc
      subst hspot
      refine .inr ⟨b, off, rfl, World.block_lt_of_cell? w _ hc, fun j hj => ?_⟩
      have hj' := hcell j (by omega)
      have e : (⟨b, off, none⟩ : Addr).add j = ⟨b, off + j, none⟩ := by by_cases hj0 : j = 0 <;> simp [Addr.add, hj0]
      rw [e] at hj'
      rw [hj']
      simp [List.getD_eq_getElem?_getD, hj]

theorem open_task {H : Type} {enc : TypeId × Value → H} {w : World} {base : Nat} {spare : Nat → Bool} {held : Bool} {r : Reach} {b0 : Nat} {v : Value} {d : DataW H} {p : List MemPlace}
    (hv : Value.okWide Try.prog w r b0 26 v) (h : DataW.Trod enc Try.prog w base spare held 26 v d p) :
    ∃ (s : Int) (A : Option Addr) (n c : Nat) (cs : List Int) (t : Int) (P : Option Addr) (m pc : Nat) (ps : List Int), v = .agg #[.int .i64 s, .slice A n c, .int .i64 t, .slice P m pc] ∧ Ints w w.heap.size A n cs ∧ n ≤ 9223372036854775807 ∧ Ints w w.heap.size P m ps ∧ m ≤ 9223372036854775807 := by
  obtain ⟨xs, rfl, hsz⟩ := okWide_struct Try.underlying26 hv
  obtain ⟨x0, x1, x2, x3, rfl⟩ := four (hsz.trans cellsTask)
  obtain ⟨fuel, hf⟩ := h
  obtain ⟨zs, k, _, _, _, hlen, hz⟩ := DataW.trod_struct Try.underlying26 hf
  match zs, hlen, hz with
  | [y0, y1, y2], _, hz =>
    have h0 := hz 0 _ rfl
    have h1 := hz 1 _ rfl
    have h2 := hz 2 _ rfl
    simp [cellsBoard, cellsIntT, cellsIntsT, Value.cells] at h0 h1 h2
    obtain ⟨us, k2, _, _, _, hlen2, hz2⟩ := DataW.trod_struct Try.underlying24 h0
    match us, hlen2, hz2 with
    | [u0, u1], _, hz2 =>
      have g0 := hz2 0 _ rfl
      have g1 := hz2 1 _ rfl
      simp [cellsIntT, cellsIntsT] at g0 g1
      obtain ⟨s, e0, _, _⟩ := DataW.trod_int Try.underlying3 g0
      obtain ⟨t, e2, _, _⟩ := DataW.trod_int Try.underlying3 h1
      simp at e0 e2
      subst e0
      subst e2
      obtain ⟨A, n, c, cs, rfl, hi, hn⟩ := list_of g1
      obtain ⟨P, m, pc, ps, rfl, hi2, hm⟩ := list_of h2
      exact ⟨s, A, n, c, cs, t, P, m, pc, ps, rfl, hi, hn, hi2, hm⟩
end Go.Proofs.Ytmokpaofljdehaa
