/-
  What ParseBoard leads to; pieces of texts.
-/
import Derived.Test.YtmokpaofljdehaaPbR
import Derived.Lib.Strings
namespace Go.Proofs.Ytmokpaofljdehaa
set_option maxRecDepth 100000
open Go.RowKit

/-- What a text leads to: the board that it asks for, of the call's own, or nothing. -/
def ParsedE (S : ByteArray) (w : World) (e : Ending) (w' : World) : Prop :=
  ∃ (ok : Bool) (s' : Int) (cs : List Int) (A : Option Addr) (n c : Nat), Fm.Prs S ok s' cs ∧ e = .returned (.tuple #[.agg #[.int .i64 s', .slice A n c], .bool ok]) ∧ Own w' w.heap.size A n c cs ∧ Below w.heap.size w w'

theorem ParsedE.at {S : ByteArray} {w w' : World} {e : Ending} {ok : Bool} {s : Int} {cs : List Int} (hP : Fm.Prs S ok s cs) (h : ParsedE S w e w') :
    ∃ (A : Option Addr) (n c : Nat), e = .returned (.tuple #[.agg #[.int .i64 s, .slice A n c], .bool ok]) ∧ Own w' w.heap.size A n c cs ∧ Below w.heap.size w w' := by
  obtain ⟨ok', s', cs', A, n, c, h1, h2, h3, h4⟩ := h
  obtain ⟨rfl, rfl, rfl⟩ := hP.one h1
  exact ⟨A, n, c, h2, h3, h4⟩

theorem ext_size {S : ByteArray} {Q E m : Nat} (hE : Q + m = E) (h : E ≤ S.size) : (S.extract Q E).size = m := by
  rw [Fm.size_data, Lib.extract_data, List.length_take, List.length_drop, ← Fm.size_data]; omega
theorem ext_byt {S : ByteArray} {Q E m : Nat} (hE : Q + m = E) (c : Nat) (hc : c < m) : Fm.byt (S.extract Q E) c = Fm.byt S (Q + c) := by
  rw [Fm.byt_data, Fm.byt_data, Lib.extract_data, List.getD_eq_getElem?_getD, List.getD_eq_getElem?_getD, List.getElem?_take, if_pos (by omega), List.getElem?_drop]

section
variable (T : ByteArray) (k : Nat) (hT : T.size = k) (w : World) (B g n c off cap : Nat) (cs : List Int) (h : Own w B (some ⟨g, 0, none⟩) n c cs) (hoff : off + k ≤ n) (hn : n ≤ 1000000) (hcap : k ≤ cap)
include h hT hoff hn hcap
theorem i_readRowT (hall : ∀ i, i < k → 0 ≤ Fm.lx (Fm.byt T i)) :
    Calls Try.prog 64 #[.slice (some ⟨g, off, none⟩) k cap, .string T] w fun e w' => e = .returned (.bool true) ∧ ∃ cs', Fm.Rr T off k cs cs' ∧ Own w' B (some ⟨g, 0, none⟩) n c cs' ∧ w.grownBy w' (some g) := by
  refine (i_readRow T k hT w B g n c off cap cs h hoff hn hcap).mono ?_
  rintro e w' ⟨b, cs', j, rfl, hj, h1, h2, h3, h4, h5⟩
  rcases Bool.eq_false_or_eq_true b with rfl | rfl
  · obtain rfl := h2 rfl
    exact ⟨rfl, cs', h1, h4, h5⟩
  · have := h3 rfl
    have h9 := hall j this.1
    omega
theorem i_readRowF (hno : ∃ i, i < k ∧ Fm.lx (Fm.byt T i) < 0) :
    Calls Try.prog 64 #[.slice (some ⟨g, off, none⟩) k cap, .string T] w fun e w' => e = .returned (.bool false) ∧ w.grownBy w' (some g) := by
  refine (i_readRow T k hT w B g n c off cap cs h hoff hn hcap).mono ?_
  rintro e w' ⟨b, cs', j, rfl, hj, h1, h2, h3, h4, h5⟩
  rcases Bool.eq_false_or_eq_true b with rfl | rfl
  · obtain rfl := h2 rfl
    obtain ⟨i, hi, hx⟩ := hno
    have := h1.2.1 i hi
    omega
  · exact ⟨rfl, h5⟩
end
end Go.Proofs.Ytmokpaofljdehaa
