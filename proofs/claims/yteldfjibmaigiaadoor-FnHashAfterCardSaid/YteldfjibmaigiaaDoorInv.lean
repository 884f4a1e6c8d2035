/-
  Exchanging the colors: the program's and the model's lists.
-/
import Derived.Test.YteldfjibmaigiaaDoorCopy
import Derived.Test.YteldfjibmaigiaaDoorBoardI
import Derived.Test.YteldfjibmaigiaaDoorBoardX
import Derived.StillTailTactics
namespace Go.Proofs.YteldfjibmaigiaaDoor
set_option maxRecDepth 100000
open Go.RowKit

def oth (c : Int) : Int := if c = 1 then 2 else if c = 2 then 1 else c
def othCs (cs : List Int) : List Int := cs.map oth
theorem othCs_len (cs : List Int) : (othCs cs).length = cs.length := by simp [othCs]
theorem othCs_at {cs : List Int} {k : Nat} (h : k < cs.length) : (othCs cs).getD k 0 = oth (cs.getD k 0) := by
  simp [othCs, List.getD_eq_getElem?_getD, List.getElem?_eq_getElem h]

theorem i_other (c : Int) (w : World) : Calls Tryd.prog 55 #[.int .i64 c] w fun e w' => e = .returned (.int .i64 (oth c)) ∧ w = w' := by
  rcases Bool.eq_false_or_eq_true (c == 1) with h1 | h1
  · have H := Lib.hid (show oth c = 2 by rw [oth, if_pos (by simpa using h1)])
    go_enter Tryd.func55, Tryd.ntmps55
    go_wp2_with fail
    go_ret
    exact ⟨ret_int H.out.symm, rfl⟩
  · rcases Bool.eq_false_or_eq_true (c == 2) with h2 | h2
    · have H := Lib.hid (show oth c = 1 by rw [oth, if_neg (by simpa using h1), if_pos (by simpa using h2)])
      go_enter Tryd.func55, Tryd.ntmps55
      go_wp2_with fail
      go_ret
      exact ⟨ret_int H.out.symm, rfl⟩
    · have H := Lib.hid (show oth c = c by rw [oth, if_neg (by simpa using h1), if_neg (by simpa using h2)])
      go_enter Tryd.func55, Tryd.ntmps55
      go_wp2_with fail
      go_ret
      exact ⟨ret_int H.out.symm, rfl⟩

theorem s_opp (c : Int) (w : World) (h1 : 1 ≤ c) (h2 : c ≤ 2) : Calls Tryd.prog 65 #[.int .i64 c] w fun e w' => e = .returned (.int .i64 (oth c)) ∧ w = w' := by
  have H := Lib.hid (show oth c = 3 - c by unfold oth; split <;> (try split) <;> omega)
  go_enter Tryd.func65, Tryd.ntmps65
  go_wp2_with fail
  go_ret
  exact ⟨ret_int H.out.symm, rfl⟩

/-- 'make(cellList, n)': a new row of n zeros, whatever the slice type's name. -/
theorem make0t {ops : Array Oper} {rest : List Oper} {o : Oper} {a : Act} {Q : Exit → Act → World → Prop} (t : TypeId) (ht : Tryd.prog.underlying t = some (.slice 3)) (hg : o.guard = none) (l : Operand) (hop : o.op = Op.makeSlice t l l)
    (w : World) (B : Nat) (L : Int) (n : Nat) (hl : a.eval l = .int .i64 L) (hL : L = (n : Int)) (hn : n ≤ 1000000000) (hB : B ≤ w.heap.size)
    (h : ∀ w', Own w' B (some ⟨w.heap.size, 0, none⟩) n n (List.replicate n 0) → Below w.heap.size w w' → w.heap.size < w'.heap.size → wpList Tryd.prog ops Q rest (a.put o.dst (.slice (some ⟨w.heap.size, 0, none⟩) n n)) w') :
    wpList Tryd.prog ops Q (o :: rest) a w := by
  obtain ⟨i0, hi, hz0, hz1, hz2⟩ := info_parts info_int
  refine wpList_make_full w hg l l t hop B 3 i0 (.int .i64 0) 1 ht hi hz0 hz1 .i64 .i64 L L n hl hl hL hL (by rw [hz2]; omega) (by unfold maxLen; omega) hB ?_
  intro w' hown hgr
  rw [Nat.mul_one, show (Value.int IntKind.i64 0).cells = #[.int .i64 0] from rfl, toList_madeCells_one] at hown
  have ho : Own w' B (some ⟨w.heap.size, 0, none⟩) n n (List.replicate n 0) := ⟨by simp, by simpa using hown⟩
  refine h w' ho (below_g hgr (Nat.le_refl _) (fun k e => by cases e)) ?_
  rcases hown.2 with ⟨e, _⟩ | ⟨g, cap, cur, e, _, hh, _⟩
  · cases e
  · have hgw : g = w.heap.size := by injection e with e; injection e with e; injection e with e; exact e.symm
    subst hgw
    rcases Nat.lt_or_ge w.heap.size w'.heap.size with hlt | hge
    · exact hlt
    · rw [Array.getElem?_eq_none hge] at hh; cases hh

end Go.Proofs.YteldfjibmaigiaaDoor
