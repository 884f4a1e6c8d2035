/-
  Marking a row of the call's own, and finding the marks; the images of a list of points.
-/
import Derived.Test.YtdkmedlffphmdaaLists
import Derived.Test.YtdkmedlffphmdaaNbImpl
import Derived.Laws.OwnMore
namespace Go.Proofs.Ytdkmedlffphmdaa
open Go.RowKit

/-- k, k + 1, .. (n of them) -/
def marks (k : Int) (n : Nat) : List Int := (List.range n).map fun (j : Nat) => k + (j : Int)
theorem marks_len (k : Int) (n : Nat) : (marks k n).length = n := by simp [marks]
theorem marks_at (k : Int) (n j : Nat) (h : j < n) : (marks k n).getD j 0 = k + j := by
  simp [marks, List.getD_eq_getElem?_getD, List.getElem?_range h]
theorem marks_succ (k : Int) (j : Nat) (xs : List Int) (h : j < xs.length) : (marks k j ++ xs.drop j).set j (k + j) = marks k (j + 1) ++ xs.drop (j + 1) := by
  rw [List.set_append_right _ _ (by rw [marks_len]; exact Nat.le_refl _), marks_len, Nat.sub_self, List.drop_eq_getElem_cons h, List.set_cons_zero]
  simp [marks, List.range_succ]

/-- The row at A is the call's own, and that row alone was written between the two worlds. -/
theorem Own.stored {w : World} {B n c g : Nat} {xs : List Int} (h : Own w B (some ⟨g, 0, none⟩) n c xs) (j : Nat) (x : Int) :
    Own (w.setCell ⟨g, j, none⟩ (.int .i64 x)) B (some ⟨g, 0, none⟩) n c (xs.set j x) ∧ w.grownBy (w.setCell ⟨g, j, none⟩ (.int .i64 x)) (some g) := by
  have := World.ownsRow.stored h.2 j (.int .i64 x)
  exact ⟨⟨by simpa using h.1, by rw [List.map_set]; exact this.1⟩, this.2⟩

def Marked (B : Nat) (A : Option Addr) (n c : Nat) (k : Int) (w : World) (e : Ending) (w' : World) : Prop :=
  e = .returned (.int .i64 (k + n)) ∧ Own w' B A n c (marks k n) ∧ w.grownBy w' (Value.slice A n c).ownBlock

theorem mark_any (w : World) (B : Nat) (A : Option Addr) (n c : Nat) (xs : List Int) (k : Int) (h : Own w B A n c xs) (hn : n ≤ 1000000000) (k1 : 0 ≤ k) (k2 : k ≤ 1000000000) :
    Calls Try.prog 28 #[.slice A n c, .int .i64 k] w fun e w' => Marked B A n c k w e w' := by
  by_cases h0 : n = 0
  · subst h0
    have hx : xs = [] := List.eq_nil_of_length_eq_zero h.1
    subst hx
    have H := Lib.hid h
    clear h
    go_enter Try.func28, Try.ntmps28
    go_wp2_with fail
    go_rounds 1
    go_ret
    exact ⟨by simp, by simpa [marks] using H.out, World.grownBy.refl _ _⟩
  · obtain ⟨g, cap, hv, hg, hlt⟩ := World.ownsRow.form h.2 (by omega)
    obtain rfl : A = some ⟨g, 0, none⟩ := by injection hv
    clear hv
    have hl := h.1
    have H := Lib.hid h
    have Hl := Lib.hid hl
    clear h hl
    go_enter Try.func28, Try.ntmps28
    go_wp2_with fail
    go_loopw [1, 5] (fun q i wr => ∃ j : Nat, j ≤ n ∧ i = .int .i64 j ∧ q = .int .i64 (k + j) ∧ Own wr B (some ⟨g, 0, none⟩) n c (marks k j ++ xs.drop j) ∧ w.grownBy wr (some g)) (fun _ i _ => n - (intOf i).toNat)
    case atStart => exact ⟨0, by omega, rfl, by simp, by simpa [marks] using H.out, World.grownBy.refl _ _⟩
    case round =>
      obtain ⟨j, hj, rfl, rfl, ho, hgr⟩ := hrel
      by_cases hlt : j < n
      · have hcell : ∃ u, wr.cell? ⟨g, j, none⟩ = some u := by
          have := World.ownsRow.cellAt ho.2 j (by omega)
          rw [this]
          exact ⟨_, List.getElem?_eq_getElem (by rw [List.length_map, ho.1]; exact hlt)⟩
        obtain ⟨u, hu⟩ := hcell
        have hf := World.ownsRow.frozenAt ho.2 j
        have hst := ho.stored j (k + j)
        rw [marks_succ k j xs (by rw [Hl.out]; exact hlt)] at hst
        have Hs := Lib.hid hst
        have Hg := Lib.hid hgr
        clear hst ho hgr
        go_wp2_with fail
        go_roundw
        case rel => exact ⟨j + 1, by omega, by go_num, by go_num, Hs.out.1, gtrans Hg.out Hs.out.2⟩
        case measure => simp [intOf]; omega
      · obtain rfl : j = n := by omega
        go_wp2_with fail
        go_ret
        exact ⟨rfl, by rw [List.drop_of_length_le (by rw [Hl.out]; exact Nat.le_refl _), List.append_nil] at ho; exact ho, hgr⟩

theorem held_t (w : World) (B : Nat) (A : Option Addr) (n c : Nat) (k : Int) (h : Ints w B A n (marks k n)) (hn : n ≤ 1000000000) (k1 : 0 ≤ k) (k2 : k ≤ 1000000000) :
    Calls Try.prog 29 #[.slice A n c, .int .i64 k] w fun e w' => e = .returned (.int .i64 (k + n)) ∧ w = w' := by
  rcases h.2 with rfl | ⟨b, o, rfl, hlt, hc⟩
  · clear h
    go_enter Try.func29, Try.ntmps29
    go_wp2_with fail
    go_rounds 1
    go_ret
    exact ⟨by simp, rfl⟩
  · have Hc := Lib.hid hc
    clear hc h
    go_enter Try.func29, Try.ntmps29
    go_wp2_with fail
    go_loop [1, 5] (fun q i => ∃ j : Nat, j ≤ n ∧ i = .int .i64 j ∧ q = .int .i64 (k + j)) (fun _ i => n - (intOf i).toNat)
    case atStart => exact ⟨0, by omega, rfl, by simp⟩
    case round =>
      obtain ⟨j, hj, rfl, rfl⟩ := hrel
      by_cases hlt : j < n
      · have c1 := Hc.out j hlt
        rw [marks_at k n j hlt] at c1
        go_wp2_with fail
        go_round
        case rel => exact ⟨j + 1, by omega, by go_num, by go_num⟩
        case measure => simp [intOf]; omega
      · obtain rfl : j = n := by omega
        go_wp2_with fail
        go_ret
        exact ⟨rfl, rfl⟩

/-! ### The images of a list of points -/
def part (s k : Int) (l : List Int) (q : Nat) : List Int := (l.filter fun x => Pt.tr s k x == (q : Int)).map fun _ => (q : Int)
def upto (s k : Int) (l : List Int) (q : Nat) : List Int := (List.range q).flatMap fun q => part s k l q
theorem upto_succ (s k : Int) (l : List Int) (q : Nat) : upto s k l (q + 1) = upto s k l q ++ part s k l q := by simp [upto, List.range_succ]
theorem part_len (s k : Int) (l : List Int) (q : Nat) : (part s k l q).length ≤ l.length := by simp only [part, List.length_map]; exact List.length_filter_le _ _
theorem upto_len (s k : Int) (l : List Int) (q : Nat) : (upto s k l q).length ≤ q * l.length := by
  induction q with
  | zero => simp [upto]
  | succ q ih => rw [upto_succ, List.length_append, Nat.succ_mul]; exact Nat.add_le_add ih (part_len s k l q)
theorem part_snoc (s k : Int) (l : List Int) (q i : Nat) (hi : i < l.length) :
    part s k (l.take (i + 1)) q = part s k (l.take i) q ++ (if Pt.tr s k (l.getD i 0) == (q : Int) then [(q : Int)] else []) := by
  rw [List.take_succ_eq_append_getElem hi]
  simp only [part, List.filter_append, List.map_append]
  have : l.getD i 0 = l[i] := by simp [List.getD_eq_getElem?_getD, List.getElem?_eq_getElem hi]
  rw [this]
  by_cases h : Pt.tr s k l[i] == (q : Int) <;> simp [h]
theorem upto_all (s k : Int) (l : List Int) : upto s k l (s * s).toNat = Pt.imagesOf s k l := rfl

set_option maxHeartbeats 400000 in
theorem images_any (s k : Int) (w : World) (B : Nat) (A : Option Addr) (n c : Nat) (xs : List Int) (h1 : 1 ≤ s) (h2 : s ≤ 7) (h : Ints w B A n xs) (hB : B ≤ w.heap.size) (hn : n ≤ 4) :
    Calls Try.prog 21 #[.int .i64 s, .int .i64 k, .slice A n c] w fun e w' => ∃ A' n' c', e = .returned (.slice A' n' c') ∧ Own w' w.heap.size A' n' c' (Pt.imagesOf s k xs) ∧ Below w.heap.size w w' := by
  have hsq := Pt.sq_bd s h1 h2
  have H := Lib.hid h
  have hl := h.1
  have Hl := Lib.hid hl
  clear h hl
  go_enter Try.func21, Try.ntmps21
  go_wp2_with fail
  have Ho := Lib.hid (Own.bare w w.heap.size (Nat.le_refl _))
  have Hb := Lib.hid ((Below.refl w.heap.size w).alloc (Nat.le_refl _) (.cells #[] 3))
  go_loopw [7, 8] (fun v p wr => ∃ q : Nat, (q : Int) ≤ s * s ∧ p = .int .i64 q ∧ Slc w.heap.size w v wr (upto s k xs q)) (fun _ p _ => (s * s).toNat - (intOf p).toNat)
  case atStart => exact ⟨0, by omega, rfl, _, _, _, rfl, Ho.out, Hb.out⟩
  case round =>
    clear Ho Hb
    obtain ⟨q, hq, rfl, A', n', c', rfl, ho, hb⟩ := hrel
    obtain ⟨wo, rfl⟩ : ∃ wo : World, wo = wr := ⟨_, rfl⟩
    by_cases hlt : (q : Int) < s * s
    · have Ho := Lib.hid ho
      have Hb := Lib.hid hb
      clear ho hb
      go_wp2_with fail
      go_loopw [7, 9] (fun v j wr => ∃ i : Nat, i ≤ n ∧ j = .int .i64 i ∧ Slc w.heap.size w v wr (upto s k xs q ++ part s k (xs.take i) q)) (fun _ j _ => n - (intOf j).toNat)
      case atStart => exact ⟨0, by omega, rfl, _, _, _, rfl, by simpa [part] using Ho.out, Hb.out⟩
      case round =>
        clear Ho Hb
        obtain ⟨i, hi, rfl, A2, n2, c2, rfl, ho, hb⟩ := hrel
        have hn2 : n2 ≤ 1000 := by
          have e1 := ho.1
          rw [List.length_append] at e1
          have e2 := upto_len s k xs q
          have e3 := part_len s k (xs.take i) q
          have e4 : (xs.take i).length ≤ 4 := by rw [List.length_take, Hl.out]; omega
          have e5 : q * xs.length ≤ 49 * 4 := Nat.mul_le_mul (by omega) (by rw [Hl.out]; exact hn)
          omega
        have Ho := Lib.hid ho
        have Hb := Lib.hid hb
        have hz := hb.size
        clear ho hb
        by_cases hil : i < n
        · rcases H.out.2 with h0 | ⟨b, o, rfl, hbB, hc⟩
          · omega
          · have hci := (Hb.out.cell (p := ⟨b, o + i, none⟩) (by show b < _; omega)).trans (hc i hil)
            have Hp := Lib.hid (part_snoc s k xs q i (by rw [Hl.out]; exact hil))
            obtain ⟨x, hx⟩ : ∃ x, xs.getD i 0 = x := ⟨_, rfl⟩
            rw [hx] at hci Hp
            clear hx hc
            by_cases ht : (Pt.tr s k x == (q : Int)) = true
            · go_wp2_with fail
              refine (i_tr _ _ _ _).mono ?_
              rintro e w3 ⟨rfl, hb3⟩
              have Ho3 := Lib.hid (Ho.out.below hb3)
              have hz3 := hb3.size
              go_wp2_with (at_builtin; refine app1 rfl _ _ rfl _ _ _ _ _ _ _ _ rfl rfl (by simp) Ho3.out (by omega) (by omega) ?_; intro A' c' w' hown' hb' hlt' _)
              go_roundw
              case rel => exact ⟨i + 1, by omega, by go_num, _, _, _, rfl, by rw [Hp.out, if_pos ht, ← List.append_assoc]; exact hown', (Hb.out.trans (hb3.mono (by omega))).trans (hb'.mono (by omega))⟩
              case measure => simp [intOf]; omega
            · have ht' : (Pt.tr s k x == (q : Int)) = false := by simpa using ht
              go_wp2_with fail
              refine (i_tr _ _ _ _).mono ?_
              rintro e w3 ⟨rfl, hb3⟩
              have Ho3 := Lib.hid (Ho.out.below hb3)
              go_wp2_with fail
              go_roundw
              case rel => exact ⟨i + 1, by omega, by go_num, _, _, _, rfl, by rw [Hp.out, if_neg (by rw [ht']; simp), List.append_nil]; exact Ho3.out, Hb.out.trans (hb3.mono (by omega))⟩
              case measure => simp [intOf]; omega
        · have hfull : xs.take i = xs := List.take_of_length_le (by rw [Hl.out]; omega)
          have Hf := Lib.hid hfull
          clear hfull
          go_wp2_with fail
          go_roundw
          case rel => exact ⟨q + 1, by omega, by go_num, _, _, _, rfl, by have := Ho.out; rw [Hf.out] at this; rw [upto_succ]; exact this, Hb.out⟩
          case measure => simp [intOf]; omega
    · have Ho := Lib.hid ho
      have Hb := Lib.hid hb
      have hq' : (s * s).toNat = q := by omega
      have Hq := Lib.hid hq'
      clear ho hb hq'
      go_wp2_with fail
      go_ret
      exact ⟨_, _, _, rfl, by rw [← upto_all, Hq.out]; exact Ho.out, Hb.out⟩
end Go.Proofs.Ytdkmedlffphmdaa
