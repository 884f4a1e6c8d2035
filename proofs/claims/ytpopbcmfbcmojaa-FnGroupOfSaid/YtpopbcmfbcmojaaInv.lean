/-
  Exchanging the colors: the program's and the model's lists.
-/
import Derived.Test.YtpopbcmfbcmojaaCopy
import Derived.Test.YtpopbcmfbcmojaaBoardI
import Derived.Test.YtpopbcmfbcmojaaBoardX
import Derived.StillTailTactics
namespace Go.Proofs.Ytpopbcmfbcmojaa
set_option maxRecDepth 100000
open Go.RowKit

def oth (c : Int) : Int := if c = 1 then 2 else if c = 2 then 1 else c
def othCs (cs : List Int) : List Int := cs.map oth
theorem othCs_len (cs : List Int) : (othCs cs).length = cs.length := by simp [othCs]
theorem othCs_at {cs : List Int} {k : Nat} (h : k < cs.length) : (othCs cs).getD k 0 = oth (cs.getD k 0) := by
  simp [othCs, List.getD_eq_getElem?_getD, List.getElem?_eq_getElem h]

theorem i_other (c : Int) (w : World) : Calls Try.prog 86 #[.int .i64 c] w fun e w' => e = .returned (.int .i64 (oth c)) ∧ w = w' := by
  rcases Bool.eq_false_or_eq_true (c == 1) with h1 | h1
  · have H := Lib.hid (show oth c = 2 by rw [oth, if_pos (by simpa using h1)])
    go_enter Try.func86, Try.ntmps86
    go_wp2_with fail
    go_ret
    exact ⟨ret_int H.out.symm, rfl⟩
  · rcases Bool.eq_false_or_eq_true (c == 2) with h2 | h2
    · have H := Lib.hid (show oth c = 1 by rw [oth, if_neg (by simpa using h1), if_pos (by simpa using h2)])
      go_enter Try.func86, Try.ntmps86
      go_wp2_with fail
      go_ret
      exact ⟨ret_int H.out.symm, rfl⟩
    · have H := Lib.hid (show oth c = c by rw [oth, if_neg (by simpa using h1), if_neg (by simpa using h2)])
      go_enter Try.func86, Try.ntmps86
      go_wp2_with fail
      go_ret
      exact ⟨ret_int H.out.symm, rfl⟩

theorem s_opp (c : Int) (w : World) (h1 : 1 ≤ c) (h2 : c ≤ 2) : Calls Try.prog 109 #[.int .i64 c] w fun e w' => e = .returned (.int .i64 (oth c)) ∧ w = w' := by
  have H := Lib.hid (show oth c = 3 - c by unfold oth; split <;> (try split) <;> omega)
  go_enter Try.func109, Try.ntmps109
  go_wp2_with fail
  go_ret
  exact ⟨ret_int H.out.symm, rfl⟩

/-- 'make(cellList, n)': a new row of n zeros, whatever the slice type's name. -/
theorem make0t {ops : Array Oper} {rest : List Oper} {o : Oper} {a : Act} {Q : Exit → Act → World → Prop} (t : TypeId) (ht : Try.prog.underlying t = some (.slice 3)) (hg : o.guard = none) (l : Operand) (hop : o.op = Op.makeSlice t l l)
    (w : World) (B : Nat) (L : Int) (n : Nat) (hl : a.eval l = .int .i64 L) (hL : L = (n : Int)) (hn : n ≤ 1000000000) (hB : B ≤ w.heap.size)
    (h : ∀ w', Own w' B (some ⟨w.heap.size, 0, none⟩) n n (List.replicate n 0) → Below w.heap.size w w' → w.heap.size < w'.heap.size → wpList Try.prog ops Q rest (a.put o.dst (.slice (some ⟨w.heap.size, 0, none⟩) n n)) w') :
    wpList Try.prog ops Q (o :: rest) a w := by
  obtain ⟨i0, hi, hz0, hz1, hz2⟩ := info_parts info_int
  refine wpList_make_full w hg l l t hop B 3 i0 (.int .i64 0) 1 ht hi hz0 hz1 .i64 .i64 L L n hl hl hL hL (by rw [hz2]; omega) (by unfold maxLen; omega) hB ?_
  intro w' hown hgr
  rw [Nat.mul_one, show (Value.int IntKind.i64 0).cells = #[.int .i64 0] from rfl, toList_madeCells_one] at hown
  have ho : Own w' B (some ⟨w.heap.size, 0, none⟩) n n (List.replicate n 0) := ⟨by simp, by simpa using hown⟩
  refine h w' ho (below_g hgr (Nat.le_refl _) (fun k e => by cases e)) ?_
  rcases hown.2 with ⟨e, _⟩ | ⟨g, cap, cur, e, _, hh, _⟩
  · cases e
  · have hgw : g = w.heap.size := by injection e with e; injection e with e; injection e with e; exact e.symm
    subst hgw
    rcases Nat.lt_or_ge w.heap.size w'.heap.size with hlt | hge
    · exact hlt
    · rw [Array.getElem?_eq_none hge] at hh; cases hh

theorem i_inverted (w : World) (B : Nat) (A : Option Addr) (n c : Nat) (cs : List Int) (h : Ints w B A n cs) (hB : B ≤ w.heap.size) (hn : n ≤ 1048576) :
    Calls Try.prog 62 #[.slice A n c] w fun e w' => ∃ A' c', e = .returned (.slice A' n c') ∧ Own w' w.heap.size A' n c' (othCs cs) ∧ Below w.heap.size w w' := by
  have hl := h.1
  have Hl := Lib.hid hl
  have H := Lib.hid h
  clear h hl
  go_enter Try.func62, Try.ntmps62
  go_wp2_with (at_make; refine make0t 58 Try.underlying58 rfl _ rfl _ w.heap.size _ n rfl rfl (by omega) (Nat.le_refl _) ?_; intro w1 hown hb hlt)
  have Ho := Lib.hid hown
  have Hb := Lib.hid hb
  clear hown hb
  go_loopw [11] (fun i wr => ∃ k : Nat, k ≤ n ∧ i = .int .i64 k ∧ Own wr w.heap.size (some ⟨w.heap.size, 0, none⟩) n n ((othCs cs).take k ++ List.replicate (n - k) 0) ∧ Below w.heap.size w wr) (fun i _ => n - (intOf i).toNat)
  case atStart => exact ⟨0, by omega, rfl, by simpa using Ho.out, Hb.out⟩
  case round =>
    clear Ho Hb
    obtain ⟨k, hk, rfl, ho, hb⟩ := hrel
    by_cases hkn : k < n
    · rcases H.out.2 with h0 | ⟨b, o, rfl, hbB, hc⟩
      · omega
      · have hck := (hb.cell (p := ⟨b, o + k, none⟩) (by show b < _; omega)).trans (hc k hkn)
        have hcell : ∃ u, wr.cell? ⟨w.heap.size, k, none⟩ = some u := by
          have := World.ownsRow.cellAt ho.2 k (by omega)
          rw [this]
          exact ⟨_, List.getElem?_eq_getElem (by rw [List.length_map, ho.1]; exact hkn)⟩
        obtain ⟨u, hu⟩ := hcell
        have hf := World.ownsRow.frozenAt ho.2 k
        have hst := (ho.stored k ((othCs cs).getD k 0)).1
        rw [fill_succ (by rw [othCs_len]; exact Hl.out) hkn, othCs_at (by rw [Hl.out]; exact hkn)] at hst
        obtain ⟨x, hx⟩ : ∃ x, cs.getD k 0 = x := ⟨_, rfl⟩
        rw [hx] at hst hck
        have Hs := Lib.hid hst
        have Hb := Lib.hid hb
        have hne : b ≠ w.heap.size := by omega
        clear hx hst ho hb hc
        go_wp2_with fail
        refine (i_other _ _).mono ?_
        rintro e w' ⟨rfl, rfl⟩
        go_wp2_with fail
        go_roundw
        case rel => exact ⟨k + 1, by omega, by go_num, Hs.out, Hb.out.setCell (Nat.le_refl _) _⟩
        case measure => simp [intOf]; omega
    · obtain rfl : k = n := by omega
      have ho2 : Own wr w.heap.size (some ⟨w.heap.size, 0, none⟩) k k (othCs cs) := by
        have := ho
        rw [Nat.sub_self, List.take_of_length_le (by rw [othCs_len, Hl.out]; exact Nat.le_refl _)] at this
        simpa using this
      have Ho := Lib.hid ho2
      have Hb := Lib.hid hb
      clear ho ho2 hb
      go_wp2_with fail
      go_ret
      exact ⟨_, _, rfl, Ho.out, Hb.out⟩
end Go.Proofs.Ytpopbcmfbcmojaa
