/-
  RemoveDead in both packages, at its named answer.
-/
import Derived.Test.YtmokpaofljdehaaRdS
namespace Go.Proofs.Ytmokpaofljdehaa
set_option maxRecDepth 100000
open Go.RowKit
section
variable (s : Int) (w : World) (B B' : Nat) (A P : Option Addr) (n c m pc : Nat) (cs ds : List Int) (ok : Bool) (s' : Int) (cs' : List Int) (h : Ints w B A n cs) (h' : Ints w B' P m ds) (hB : B ≤ w.heap.size) (hB' : B' ≤ w.heap.size) (hn : n ≤ 1048576) (hm : m ≤ 1048576) (hR : Hid (Rmv s cs ds ok s' cs'))
include h h' hB hB' hn hm hR
theorem s_RmvX : Calls Try.prog 18 #[.agg #[.int .i64 s, .slice A n c], .slice P m pc] w fun e w' => ∃ A n c, e = .returned (.tuple #[.agg #[.int .i64 s', .slice A n c], .bool ok]) ∧ Own w' w.heap.size A n c cs' ∧ Below w.heap.size w w' := by
  refine (s_Rmv s w B B' A P n c m pc cs ds h h' hB hB' hn hm).mono ?_
  rintro e w' ⟨ok', s1, c1, A1, n1, cc, hr, rfl, ho, hb⟩
  obtain ⟨rfl, rfl, rfl⟩ := hR.out.one hr
  exact ⟨_, _, _, rfl, ho, hb⟩
theorem i_RmvX : Calls Try.prog 21 #[.agg #[.int .i64 s, .slice A n c], .slice P m pc] w fun e w' => ∃ A n c, e = .returned (.tuple #[.agg #[.int .i64 s', .slice A n c], .bool ok]) ∧ Own w' w.heap.size A n c cs' ∧ Below w.heap.size w w' := by
  refine (i_Rmv s w B B' A P n c m pc cs ds h h' hB hB' hn hm).mono ?_
  rintro e w' ⟨ok', s1, c1, A1, n1, cc, hr, rfl, ho, hb⟩
  obtain ⟨rfl, rfl, rfl⟩ := hR.out.one hr
  exact ⟨_, _, _, rfl, ho, hb⟩
end
end Go.Proofs.Ytmokpaofljdehaa
