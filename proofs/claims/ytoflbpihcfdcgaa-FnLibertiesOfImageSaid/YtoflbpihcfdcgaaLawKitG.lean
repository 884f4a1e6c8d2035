/-
  Texts that laws over drawn boards stand on: Count, SpecVB, NbImpl, Images, ListsB, PureUn, Un, UnS, GrpI, NextTo, LibI, Step, Valid, DrawLI, CntP, LawP, ColAt, Point, DrawP, GrpF, LibF, ImgG.
-/
import Derived.Test.YtoflbpihcfdcgaaBoardI
import Derived.Test.YtoflbpihcfdcgaaBoard
import Derived.Test.YtoflbpihcfdcgaaImplPtB
import Derived.Test.YtoflbpihcfdcgaaNbSpec
import Derived.Test.YtoflbpihcfdcgaaWords
import Derived.Test.YtoflbpihcfdcgaaLists
import Derived.Test.YtoflbpihcfdcgaaFactPt
import Derived.Test.YtoflbpihcfdcgaaPureFl
import Derived.Test.YtoflbpihcfdcgaaInvS
import Derived.Test.YtoflbpihcfdcgaaWordsB
import Derived.Test.YtoflbpihcfdcgaaMarks
import Derived.Test.YtoflbpihcfdcgaaGroupS
import Derived.Test.YtoflbpihcfdcgaaLibs
import Derived.Test.YtoflbpihcfdcgaaAny
import Derived.Test.YtoflbpihcfdcgaaTrS
import Derived.Deep.RegionWith
import Derived.BigQuiet
import Derived.Deep.QuietTactic
namespace Go.Proofs.Ytoflbpihcfdcgaa
open Go.RowKit

def cnt (x : Int) (cs : List Int) : Int := ((cs.filter fun c => c == x).length : Nat)
theorem cnt_bd (x : Int) (cs : List Int) : 0 ≤ cnt x cs ∧ cnt x cs ≤ cs.length := by
  unfold cnt
  have := List.length_filter_le (fun c => c == x) cs
  omega
theorem cnt_yes {x : Int} {cs : List Int} {k : Nat} (h : k < cs.length) (hx : (cs.getD k 0 == x) = true) : cnt x (cs.take (k + 1)) = cnt x (cs.take k) + 1 := by
  have e : cs.getD k 0 = cs[k] := by simp [List.getD_eq_getElem?_getD, List.getElem?_eq_getElem h]
  rw [e] at hx
  unfold cnt
  rw [List.take_succ_eq_append_getElem h, List.filter_append, List.length_append, List.filter_cons, hx]
  simp
theorem cnt_no {x : Int} {cs : List Int} {k : Nat} (h : k < cs.length) (hx : (cs.getD k 0 == x) = false) : cnt x (cs.take (k + 1)) = cnt x (cs.take k) := by
  have e : cs.getD k 0 = cs[k] := by simp [List.getD_eq_getElem?_getD, List.getElem?_eq_getElem h]
  rw [e] at hx
  unfold cnt
  rw [List.take_succ_eq_append_getElem h, List.filter_append, List.length_append, List.filter_cons, hx]
  simp

def cntB (s : Int) (cs : List Int) (x : Int) : Int := if Bd.okB s cs then cnt x cs else -1

end Go.Proofs.Ytoflbpihcfdcgaa

namespace Go.Proofs.Ytoflbpihcfdcgaa
open Go.RowKit

end Go.Proofs.Ytoflbpihcfdcgaa

namespace Go.Proofs.Ytoflbpihcfdcgaa
open Go.RowKit

theorem i_nbs (s p : Int) (w : World) (h1 : 1 ≤ s) (h2 : s ≤ 7) (h3 : 0 ≤ p) (h4 : p < s * s) :
    Calls Try.prog 48 #[.int .i64 s, .int .i64 p] w fun e w' => ∃ A n c, e = .returned (.slice A n c) ∧ Own w' w.heap.size A n c (Pt.nbs s p) ∧ Below w.heap.size w w' := by
  have hp : Pt.okP s p = true := (Pt.okP_iff s p).2 ⟨h1, h2, h3, h4⟩
  have hb := Pt.sq_bd s h1 h2
  obtain ⟨d1, d2, d3, d4, d5⟩ := Pt.dm s p h1 h2 h3 h4
  have hrow := Pt.row_pos s p h1 h2 h3 h4
  clear d5
  go_enter Try.func48, Try.ntmps48
  go_wp2_with fail
  refine (i_point _ _ _).mono ?_
  rintro e w' ⟨rfl, rfl⟩
  go_wp2_with fail
  refine (i_place _ _ _ h1 h2 h3 h4).mono ?_
  rintro e w1 ⟨rfl, hb1⟩
  have hz1 := hb1.size
  go_upto_if 16 with (fail)
  have At := Lib.hid (At2.new w1 (p / s) (p % s))
  have Hw := Lib.hid (hb1.alloc hz1 (.cells #[.int .i64 (p / s), .int .i64 (p % s)] 66))
  clear hb1
  obtain ⟨wb, hwb⟩ : ∃ wb, wb = w1.alloc (.cells #[.int .i64 (p / s), .int .i64 (p % s)] 66) := ⟨_, rfl⟩
  rw [← hwb] at At Hw
  have hzb : wb.heap.size = w1.heap.size + 1 := by rw [hwb]; simp
  have Hzb := Lib.hid hzb
  have hlb : w1.heap.size < wb.heap.size := by omega
  rw [← hwb]
  clear hwb hzb
  have Ho := Lib.hid (Own.nil wb wb.heap.size)
  have Hb := Lib.hid (Below.refl wb.heap.size wb)
  have c0 := At.out.cell0
  have c1 := At.out.cell1
  go_cut [6] (fun v wx => Slc wb.heap.size wb v wx (Pt.nbL s p))
  case first =>
    by_cases hA : s ≤ p
    · have hA' : 0 < p / s := hrow.1.2 hA
      go_wp2_with (at_builtin; refine app1 rfl _ _ rfl _ _ _ _ _ _ _ _ rfl rfl (by simp) Ho.out (Nat.le_refl _) (by omega) ?_; intro A' c' w' hown' hb' hlt' _)
      go_meet
      exact ⟨_, _, _, rfl, by rw [Pt.nbL, if_pos hA]; exact hown', hb'⟩
    · have hA' : ¬ 0 < p / s := fun h => hA (hrow.1.1 h)
      go_wp2_with fail
      go_meet
      exact ⟨_, _, _, rfl, by rw [Pt.nbL, if_neg (by omega)]; exact Ho.out, Hb.out⟩
  case rest =>
    clear Ho Hb c0 c1
    obtain ⟨A, n, c, rfl, ho, hbe⟩ := hcut
    have hn := ho.1
    have hz := hbe.size
    have hn1 : n ≤ 1 := by rw [← hn]; exact len_if _
    have Ho := Lib.hid ho
    have Hb := Lib.hid hbe
    clear hn ho hbe
    have c0 := (At.out.below Hb.out hlb).cell0
    have c1 := (At.out.below Hb.out hlb).cell1
    go_upto_if 25 with (fail)
    go_cut [6] (fun v wx => Slc wb.heap.size wb v wx (Pt.nbL s p ++ Pt.nbA s p))
    case first =>
      by_cases hA : 0 < p % s
      · go_wp2_with (at_builtin; refine app1 rfl _ _ rfl _ _ _ _ _ _ _ _ rfl rfl (by simp) Ho.out hz (by omega) ?_; intro A' c' w' hown' hb' hlt' _)
        go_meet
        exact ⟨_, _, _, rfl, by rw [Pt.nbA, if_pos hA]; exact hown', Hb.out.trans (hb'.mono (by omega))⟩
      · go_wp2_with fail
        go_meet
        exact ⟨_, _, _, rfl, by rw [Pt.nbA, if_neg (by omega), List.append_nil]; exact Ho.out, Hb.out⟩
    case rest =>
      clear Ho Hb hz c0 c1
      obtain ⟨A, n, c, rfl, ho, hbe⟩ := hcut
      have hn := ho.1
      have hz := hbe.size
      have hn2 : n ≤ 2 := by rw [← hn, List.length_append]; exact Nat.add_le_add (len_if _) (len_if _)
      have Ho := Lib.hid ho
      have Hb := Lib.hid hbe
      clear hn ho hbe
      have c0 := (At.out.below Hb.out hlb).cell0
      have c1 := (At.out.below Hb.out hlb).cell1
      go_upto_if 35 with (fail)
      go_cut [6] (fun v wx => Slc wb.heap.size wb v wx (Pt.nbL s p ++ Pt.nbA s p ++ Pt.nbB s p))
      case first =>
        by_cases hA : p % s < s - 1
        · go_wp2_with (at_builtin; refine app1 rfl _ _ rfl _ _ _ _ _ _ _ _ rfl rfl (by simp) Ho.out hz (by omega) ?_; intro A' c' w' hown' hb' hlt' _)
          go_meet
          exact ⟨_, _, _, rfl, by rw [Pt.nbB, if_pos hA]; exact hown', Hb.out.trans (hb'.mono (by omega))⟩
        · go_wp2_with fail
          go_meet
          exact ⟨_, _, _, rfl, by rw [Pt.nbB, if_neg (by omega), List.append_nil]; exact Ho.out, Hb.out⟩
      case rest =>
        clear Ho Hb hz c0 c1
        obtain ⟨A, n, c, rfl, ho, hbe⟩ := hcut
        have hn := ho.1
        have hz := hbe.size
        have hn3 : n ≤ 3 := by rw [← hn, List.length_append, List.length_append]; exact Nat.add_le_add (Nat.add_le_add (len_if _) (len_if _)) (len_if _)
        have Ho := Lib.hid ho
        have Hb := Lib.hid hbe
        clear hn ho hbe
        have c0 := (At.out.below Hb.out hlb).cell0
        have c1 := (At.out.below Hb.out hlb).cell1
        by_cases hA : p + s < s * s
        · have hA' : p / s < s - 1 := hrow.2.2 hA
          have Hf : Hid (Pt.nbs s p = Pt.nbL s p ++ Pt.nbA s p ++ Pt.nbB s p ++ [p + s]) := Lib.hid (by rw [Pt.nbs, Pt.nbU, if_pos hA])
          go_wp2_with (at_builtin; refine app1 rfl _ _ rfl _ _ _ _ _ _ _ _ rfl rfl (by simp) Ho.out hz (by omega) ?_; intro A' c' w' hown' hb' hlt' _)
          go_ret
          exact ⟨_, _, _, rfl, by rw [Hf.out]; exact hown'.weaken (by omega), Hw.out.trans ((Hb.out.trans (hb'.mono (by omega))).mono (by omega))⟩
        · have hA' : ¬ p / s < s - 1 := fun h => hA (hrow.2.1 h)
          have Hf : Hid (Pt.nbs s p = Pt.nbL s p ++ Pt.nbA s p ++ Pt.nbB s p) := Lib.hid (by rw [Pt.nbs, Pt.nbU, if_neg hA, List.append_nil])
          go_wp2_with fail
          go_ret
          exact ⟨_, _, _, rfl, by rw [Hf.out]; exact Ho.out.weaken (by omega), Hw.out.trans (Hb.out.mono (by omega))⟩

theorem nb_no {s p : Int} (h : Pt.okP s p = false) : Pt.nb s p = [] := by rw [Pt.nb, h]; rfl
theorem nb_yes {s p : Int} (h : Pt.okP s p = true) : Pt.nb s p = Pt.nbs s p := by rw [Pt.nb, if_pos h]

theorem i_nb (s p : Int) (w : World) :
    Calls Try.prog 48 #[.int .i64 s, .int .i64 p] w fun e w' => ∃ A n c, e = .returned (.slice A n c) ∧ Own w' w.heap.size A n c (Pt.nb s p) ∧ Below w.heap.size w w' := by
  by_cases h : Pt.okP s p = true
  · obtain ⟨h1, h2, h3, h4⟩ := (Pt.okP_iff s p).1 h
    rw [nb_yes h]
    exact i_nbs s p w h1 h2 h3 h4
  · have h' : Pt.okP s p = false := by simpa using h
    have H := Lib.hid (nb_no h')
    go_enter Try.func48, Try.ntmps48
    go_wp2_with fail
    refine (i_point _ _ _).mono ?_
    rintro e w' ⟨rfl, rfl⟩
    go_wp2_with fail
    go_ret
    exact ⟨_, _, _, rfl, by rw [H.out]; exact Own.nil _ _, Below.refl _ _⟩

end Go.Proofs.Ytoflbpihcfdcgaa

namespace Go.Proofs.Ytoflbpihcfdcgaa
open Go.RowKit

/-! ### The images of a list of points -/
def part (s k : Int) (l : List Int) (q : Nat) : List Int := (l.filter fun x => Pt.tr s k x == (q : Int)).map fun _ => (q : Int)
def upto (s k : Int) (l : List Int) (q : Nat) : List Int := (List.range q).flatMap fun q => part s k l q
theorem upto_succ (s k : Int) (l : List Int) (q : Nat) : upto s k l (q + 1) = upto s k l q ++ part s k l q := by simp [upto, List.range_succ]
theorem part_len (s k : Int) (l : List Int) (q : Nat) : (part s k l q).length ≤ l.length := by simp only [part, List.length_map]; exact List.length_filter_le _ _
theorem upto_len (s k : Int) (l : List Int) (q : Nat) : (upto s k l q).length ≤ q * l.length := by
  induction q with
  | zero => simp [upto]
  | succ q ih => rw [upto_succ, List.length_append, Nat.succ_mul]; exact Nat.add_le_add ih (part_len s k l q)
theorem part_snoc (s k : Int) (l : List Int) (q i : Nat) (hi : i < l.length) :
    part s k (l.take (i + 1)) q = part s k (l.take i) q ++ (if Pt.tr s k (l.getD i 0) == (q : Int) then [(q : Int)] else []) := by
  rw [List.take_succ_eq_append_getElem hi]
  simp only [part, List.filter_append, List.map_append]
  have : l.getD i 0 = l[i] := by simp [List.getD_eq_getElem?_getD, List.getElem?_eq_getElem hi]
  rw [this]
  by_cases h : Pt.tr s k l[i] == (q : Int) <;> simp [h]
theorem upto_all (s k : Int) (l : List Int) : upto s k l (s * s).toNat = Pt.imagesOf s k l := rfl

set_option maxHeartbeats 400000 in
theorem images_any (s k : Int) (w : World) (B : Nat) (A : Option Addr) (n c : Nat) (xs : List Int) (h1 : 1 ≤ s) (h2 : s ≤ 7) (h : Ints w B A n xs) (hB : B ≤ w.heap.size) (hn : n ≤ 49) :
    Calls Try.prog 52 #[.int .i64 s, .int .i64 k, .slice A n c] w fun e w' => ∃ A' n' c', e = .returned (.slice A' n' c') ∧ Own w' w.heap.size A' n' c' (Pt.imagesOf s k xs) ∧ Below w.heap.size w w' := by
  have hsq := Pt.sq_bd s h1 h2
  have H := Lib.hid h
  have hl := h.1
  have Hl := Lib.hid hl
  clear h hl
  go_enter Try.func52, Try.ntmps52
  go_wp2_with fail
  have Ho := Lib.hid (Own.bare w w.heap.size (Nat.le_refl _))
  have Hb := Lib.hid ((Below.refl w.heap.size w).alloc (Nat.le_refl _) (.cells #[] 3))
  go_loopw [7, 8] (fun v p wr => ∃ q : Nat, (q : Int) ≤ s * s ∧ p = .int .i64 q ∧ Slc w.heap.size w v wr (upto s k xs q)) (fun _ p _ => (s * s).toNat - (intOf p).toNat)
  case atStart => exact ⟨0, by omega, rfl, _, _, _, rfl, Ho.out, Hb.out⟩
  case round =>
    clear Ho Hb
    obtain ⟨q, hq, rfl, A', n', c', rfl, ho, hb⟩ := hrel
    obtain ⟨wo, rfl⟩ : ∃ wo : World, wo = wr := ⟨_, rfl⟩
    by_cases hlt : (q : Int) < s * s
    · have Ho := Lib.hid ho
      have Hb := Lib.hid hb
      clear ho hb
      go_wp2_with fail
      go_loopw [7, 9] (fun v j wr => ∃ i : Nat, i ≤ n ∧ j = .int .i64 i ∧ Slc w.heap.size w v wr (upto s k xs q ++ part s k (xs.take i) q)) (fun _ j _ => n - (intOf j).toNat)
      case atStart => exact ⟨0, by omega, rfl, _, _, _, rfl, by simpa [part] using Ho.out, Hb.out⟩
      case round =>
        clear Ho Hb
        obtain ⟨i, hi, rfl, A2, n2, c2, rfl, ho, hb⟩ := hrel
        have hn2 : n2 ≤ 10000 := by
          have e1 := ho.1
          rw [List.length_append] at e1
          have e2 := upto_len s k xs q
          have e3 := part_len s k (xs.take i) q
          have e4 : (xs.take i).length ≤ 49 := by rw [List.length_take, Hl.out]; omega
          have e5 : q * xs.length ≤ 49 * 49 := Nat.mul_le_mul (by omega) (by rw [Hl.out]; exact hn)
          omega
        have Ho := Lib.hid ho
        have Hb := Lib.hid hb
        have hz := hb.size
        clear ho hb
        by_cases hil : i < n
        · rcases H.out.2 with h0 | ⟨b, o, rfl, hbB, hc⟩
          · omega
          · have hci := (Hb.out.cell (p := ⟨b, o + i, none⟩) (by show b < _; omega)).trans (hc i hil)
            have Hp := Lib.hid (part_snoc s k xs q i (by rw [Hl.out]; exact hil))
            obtain ⟨x, hx⟩ : ∃ x, xs.getD i 0 = x := ⟨_, rfl⟩
            rw [hx] at hci Hp
            clear hx hc
            by_cases ht : (Pt.tr s k x == (q : Int)) = true
            · go_wp2_with fail
              refine (i_tr _ _ _ _).mono ?_
              rintro e w3 ⟨rfl, hb3⟩
              have Ho3 := Lib.hid (Ho.out.below hb3)
              have hz3 := hb3.size
              go_wp2_with (at_builtin; refine app1 rfl _ _ rfl _ _ _ _ _ _ _ _ rfl rfl (by simp) Ho3.out (by omega) (by omega) ?_; intro A' c' w' hown' hb' hlt' _)
              go_roundw
              case rel => exact ⟨i + 1, by omega, by go_num, _, _, _, rfl, by rw [Hp.out, if_pos ht, ← List.append_assoc]; exact hown', (Hb.out.trans (hb3.mono (by omega))).trans (hb'.mono (by omega))⟩
              case measure => simp [intOf]; omega
            · have ht' : (Pt.tr s k x == (q : Int)) = false := by simpa using ht
              go_wp2_with fail
              refine (i_tr _ _ _ _).mono ?_
              rintro e w3 ⟨rfl, hb3⟩
              have Ho3 := Lib.hid (Ho.out.below hb3)
              go_wp2_with fail
              go_roundw
              case rel => exact ⟨i + 1, by omega, by go_num, _, _, _, rfl, by rw [Hp.out, if_neg (by rw [ht']; simp), List.append_nil]; exact Ho3.out, Hb.out.trans (hb3.mono (by omega))⟩
              case measure => simp [intOf]; omega
        · have hfull : xs.take i = xs := List.take_of_length_le (by rw [Hl.out]; omega)
          have Hf := Lib.hid hfull
          clear hfull
          go_wp2_with fail
          go_roundw
          case rel => exact ⟨q + 1, by omega, by go_num, _, _, _, rfl, by have := Ho.out; rw [Hf.out] at this; rw [upto_succ]; exact this, Hb.out⟩
          case measure => simp [intOf]; omega
    · have Ho := Lib.hid ho
      have Hb := Lib.hid hb
      have hq' : (s * s).toNat = q := by omega
      have Hq := Lib.hid hq'
      clear ho hb hq'
      go_wp2_with fail
      go_ret
      exact ⟨_, _, _, rfl, by rw [← upto_all, Hq.out]; exact Ho.out, Hb.out⟩
end Go.Proofs.Ytoflbpihcfdcgaa

namespace Go.Proofs.Ytoflbpihcfdcgaa
open Go.RowKit

theorem mem_at {xs : List Int} {x : Int} (h : x ∈ xs) : ∃ j, j < xs.length ∧ xs.getD j 0 = x ∧ ∀ i, i < j → xs.getD i 0 ≠ x := by
  induction xs with
  | nil => cases h
  | cons y l ih =>
    by_cases hy : y = x
    · exact ⟨0, by simp, by simpa using hy, fun i hi => by omega⟩
    · have hm : x ∈ l := by
        rcases List.mem_cons.1 h with h | h
        · exact absurd h.symm hy
        · exact h
      obtain ⟨j, hj, he, hb⟩ := ih hm
      refine ⟨j + 1, by simpa using hj, by simpa using he, fun i hi => ?_⟩
      match i with
      | 0 => simpa using hy
      | i + 1 => simpa using hb i (by omega)

theorem in_t (w : World) (B : Nat) (A : Option Addr) (n c : Nat) (xs : List Int) (x : Int) (h : Ints w B A n xs) (hn : n ≤ 1000000000) (hx : x ∈ xs) :
    Calls Try.prog 49 #[.slice A n c, .int .i64 x] w fun e w' => e = .returned (.bool true) ∧ w = w' := by
  obtain ⟨m, hm, he, hb⟩ := mem_at hx
  rw [h.1] at hm
  rcases h.2 with h0 | ⟨b, o, rfl, hlt, hc⟩
  · omega
  · have Hc := Lib.hid hc
    have Hb := Lib.hid hb
    have He := Lib.hid he
    clear hc hb he hx h
    go_enter Try.func49, Try.ntmps49
    go_wp2_with fail
    go_loop [5] (fun i => ∃ k : Nat, k ≤ m ∧ i = .int .i64 k) (fun i => n - (intOf i).toNat)
    case atStart => exact ⟨0, by omega, rfl⟩
    case round =>
      obtain ⟨k, hk, rfl⟩ := hrel
      have hck := Hc.out k (by omega)
      obtain ⟨y, hy⟩ : ∃ y, xs.getD k 0 = y := ⟨_, rfl⟩
      rw [hy] at hck
      by_cases hkm : k = m
      · have hyx : (y == x) = true := by rw [← hy, hkm, He.out]; simp
        clear hy hkm
        go_wp2_with fail
        go_ret
        exact ⟨rfl, rfl⟩
      · have hyx : (y == x) = false := by rw [← hy]; simpa using Hb.out k (by omega)
        clear hy
        go_wp2_with fail
        go_round
        case rel => exact ⟨k + 1, by omega, by go_num⟩
        case measure => simp [intOf]; omega

theorem rises_at {xs : List Int} (h : Pt.rises xs = true) (k : Nat) (hk : k + 1 < xs.length) : xs.getD k 0 < xs.getD (k + 1) 0 := by
  induction xs generalizing k with
  | nil => simp at hk
  | cons a l ih =>
    match l, k, hk, h with
    | [], k, hk, _ => simp at hk
    | b :: l, 0, _, h => simp [Pt.rises] at h; simpa using h.1
    | b :: l, k + 1, hk, h => simp [Pt.rises] at h; simpa using ih h.2 k (by simpa using hk)

theorem asc_t (w : World) (B : Nat) (A : Option Addr) (n c : Nat) (xs : List Int) (h : Ints w B A n xs) (hn : n ≤ 1000000000) (hx : Pt.rises xs = true) :
    Calls Try.prog 50 #[.slice A n c] w fun e w' => Drew (.bool true) w e w' := by
  have hr := rises_at hx
  rw [h.1] at hr
  have Hr := Lib.hid hr
  clear hr hx
  rcases h.2 with rfl | ⟨b, o, rfl, hlt, hc⟩
  · clear h
    go_enter Try.func50, Try.ntmps50
    go_wp2_with fail
    go_rounds 1
    go_ret
    exact ⟨0, rfl, rfl⟩
  · have Hc := Lib.hid hc
    clear hc h
    go_enter Try.func50, Try.ntmps50
    go_wp2_with fail
    go_loopw [3] (fun i wr => ∃ k : Nat, 1 ≤ k ∧ k ≤ n + 1 ∧ i = .int .i64 k ∧ ∃ d, wr = w.drewN d) (fun i _ => n + 1 - (intOf i).toNat)
    case atStart => exact ⟨1, by omega, by omega, rfl, 0, rfl⟩
    case round =>
      obtain ⟨k, hk1, hk2, rfl, d, rfl⟩ := hrel
      by_cases hlt : k < n
      · obtain ⟨j, rfl⟩ : ∃ j, k = j + 1 := ⟨k - 1, by omega⟩
        have c1 := Hc.out j (by omega)
        have c2 := Hc.out (j + 1) hlt
        have hab := Hr.out j hlt
        obtain ⟨x, hx⟩ : ∃ x, xs.getD j 0 = x := ⟨_, rfl⟩
        obtain ⟨y, hy⟩ : ∃ y, xs.getD (j + 1) 0 = y := ⟨_, rfl⟩
        rw [hx] at c1
        rw [hy] at c2
        rw [hx, hy] at hab
        clear hx hy
        have hd : decide (y ≤ x) = false := by rw [decide_eq_false_iff_not]; omega
        have e1 : IntKind.i64.wrap (((j + 1 : Nat) : Int) - 1) = (j : Int) := by rw [show (((j + 1 : Nat) : Int) - 1) = (j : Int) by omega]; exact IntWalk.i64_in _ (by omega)
        go_wp2_with fail
        go_quiet (fail)
        go_wp2_with fail
        go_roundw
        case rel => exact ⟨j + 1 + 1, by omega, by omega, by go_num, _, rfl⟩
        case measure => simp [intOf]; omega
      · go_wp2_with fail
        go_ret
        exact ⟨_, rfl, rfl⟩
end Go.Proofs.Ytoflbpihcfdcgaa

namespace Go.Proofs.Ytoflbpihcfdcgaa.Un
open Pt

/-- The forest u of n points, in which r tells the first point of each set. -/
structure Un (u : List Int) (n : Nat) (r : Nat → Nat) : Prop where
  len : u.length = n
  lo : ∀ p, p < n → 0 ≤ u.getD p 0 ∧ u.getD p 0 ≤ p
  same : ∀ p, p < n → r (u.getD p 0).toNat = r p
  root : ∀ p, p < n → u.getD p 0 = p → r p = p

theorem getD_set (u : List Int) (k a : Nat) (x : Int) (h : k < u.length) : (u.set k x).getD a 0 = if a = k then x else u.getD a 0 := by
  simp only [List.getD_eq_getElem?_getD, List.getElem?_set]
  by_cases e : a = k
  · subst e; simp [h]
  · rw [if_neg (fun h => e h.symm), if_neg e]

theorem Un.fix {u : List Int} {n : Nat} {r : Nat → Nat} (h : Un u n r) : ∀ p, p < n → r p ≤ p ∧ r (r p) = r p := by
  intro p
  induction p using Nat.strongRecOn with
  | ind p ih =>
    intro hp
    by_cases e : u.getD p 0 = p
    · have := h.root p hp e
      rw [this]
      exact ⟨Nat.le_refl _, this⟩
    · obtain ⟨l1, l2⟩ := h.lo p hp
      have hlt : (u.getD p 0).toNat < p := by omega
      obtain ⟨i1, i2⟩ := ih _ hlt (by omega)
      rw [h.same p hp] at i1 i2
      exact ⟨by omega, i2⟩

/-- One step of 'firstOf': every other point is skipped. -/
theorem Un.half {u : List Int} {n : Nat} {r : Nat → Nat} (h : Un u n r) {p x y : Nat} (hp : p < n) (hx : u.getD p 0 = (x : Int)) (hy : u.getD x 0 = (y : Int)) (hne : x ≠ p) :
    y < p ∧ r y = r p ∧ Un (u.set p (y : Int)) n r := by
  have l1 := h.lo p hp
  rw [hx] at l1
  have hxn : x < n := by omega
  have l2 := h.lo x hxn
  rw [hy] at l2
  have s1 := h.same p hp
  rw [hx] at s1
  have s2 := h.same x hxn
  rw [hy] at s2
  simp only [Int.toNat_natCast] at s1 s2
  have hl : p < u.length := by rw [h.len]; exact hp
  refine ⟨by omega, s2.trans s1, by rw [List.length_set]; exact h.len, fun q hq => ?_, fun q hq => ?_, fun q hq => ?_⟩
  · rw [getD_set _ _ _ _ hl]
    split
    · omega
    · exact h.lo q hq
  · rw [getD_set _ _ _ _ hl]
    split
    · next e => subst e; simpa using s2.trans s1
    · exact h.same q hq
  · rw [getD_set _ _ _ _ hl]
    split
    · intro e; omega
    · exact h.root q hq

/-- The first points after two sets are made one. -/
def joined (r : Nat → Nat) (p q : Nat) : Nat → Nat := fun x => if r x = max (r p) (r q) then min (r p) (r q) else r x

theorem Un.join {u : List Int} {n : Nat} {r : Nat → Nat} (h : Un u n r) {p q : Nat} (hp : p < n) (hq : q < n) :
    Un (u.set (max (r p) (r q)) ((min (r p) (r q) : Nat) : Int)) n (joined r p q) := by
  obtain ⟨p1, p2⟩ := h.fix p hp
  obtain ⟨q1, q2⟩ := h.fix q hq
  obtain ⟨M, hM⟩ : ∃ M, max (r p) (r q) = M := ⟨_, rfl⟩
  obtain ⟨m, hm⟩ : ∃ m, min (r p) (r q) = m := ⟨_, rfl⟩
  have hMn : M < n := by omega
  have hmM : m ≤ M := by omega
  have rM : r M = M := by
    rcases Nat.le_total (r p) (r q) with h1 | h1
    · rw [← hM, Nat.max_eq_right h1]; exact q2
    · rw [← hM, Nat.max_eq_left h1]; exact p2
  have rm : r m = m := by
    rcases Nat.le_total (r p) (r q) with h1 | h1
    · rw [← hm, Nat.min_eq_left h1]; exact p2
    · rw [← hm, Nat.min_eq_right h1]; exact q2
  have hj : ∀ x, joined r p q x = if r x = M then m else r x := fun x => by unfold joined; rw [hM, hm]
  rw [hM, hm]
  have hl : M < u.length := by rw [h.len]; exact hMn
  refine ⟨by rw [List.length_set]; exact h.len, fun x hx => ?_, fun x hx => ?_, fun x hx => ?_⟩
  · rw [getD_set _ _ _ _ hl]
    split
    · omega
    · exact h.lo x hx
  · rw [getD_set _ _ _ _ hl]
    split
    · next e =>
      subst e
      rw [Int.toNat_natCast, hj, hj, rm, rM, if_pos rfl]
      split <;> rfl
    · rw [hj, hj, h.same x hx]
  · rw [getD_set _ _ _ _ hl, hj]
    split
    · next e =>
      subst e
      intro e2
      rw [rM, if_pos rfl]
      omega
    · next e =>
      intro e2
      have := h.root x hx e2
      rw [this, if_neg e]

theorem joined_keep {r : Nat → Nat} {p q x y : Nat} (h : r x = r y) : joined r p q x = joined r p q y := by unfold joined; rw [h]
theorem joined_two (r : Nat → Nat) (p q : Nat) : joined r p q p = joined r p q q := by
  unfold joined
  rcases Nat.le_total (r p) (r q) with h1 | h1
  · rw [Nat.max_eq_right h1, Nat.min_eq_left h1]; simp
  · rw [Nat.max_eq_left h1, Nat.min_eq_right h1]; simp
theorem joined_sound {r : Nat → Nat} {p q : Nat} {n : Nat} {E : Nat → Nat → Prop} (hs : ∀ x y, x < n → y < n → E x y → E y x) (ht : ∀ x y z, x < n → y < n → z < n → E x y → E y z → E x z) (hp : p < n) (hq : q < n) (he : E p q) (h : ∀ x y, x < n → y < n → r x = r y → E x y)
    {x y : Nat} (hx : x < n) (hy : y < n) (e : joined r p q x = joined r p q y) : E x y := by
  have key : ∀ z, z < n → (r z = r p ∨ r z = r q) → E p z := by
    intro z hz h1
    rcases h1 with h1 | h1
    · exact h p z hp hz h1.symm
    · exact ht p q z hp hq hz he (h q z hq hz h1.symm)
  by_cases ex : r x = r p ∨ r x = r q
  · by_cases ey : r y = r p ∨ r y = r q
    · exact ht x p y hx hp hy (hs p x hp hx (key x hx ex)) (key y hy ey)
    · have hy' : joined r p q y = r y := by unfold joined; rw [if_neg (by omega)]
      rw [hy'] at e
      unfold joined at e
      split at e <;> omega
  · have hx' : joined r p q x = r x := by unfold joined; rw [if_neg (by omega)]
    rw [hx'] at e
    by_cases ey : r y = r p ∨ r y = r q
    · unfold joined at e
      split at e <;> omega
    · have hy' : joined r p q y = r y := by unfold joined; rw [if_neg (by omega)]
      rw [hy'] at e
      exact h x y hx hy e
theorem Un.start (n : Nat) : Un ((List.range n).map fun (p : Nat) => (p : Int)) n id := by
  have e : ∀ p, p < n → ((List.range n).map fun (p : Nat) => (p : Int)).getD p 0 = (p : Int) := fun p hp => by
    simp [List.getD_eq_getElem?_getD, hp]
  exact ⟨by simp, fun p hp => by rw [e p hp]; omega, fun p hp => by rw [e p hp]; rfl, fun p _ _ => rfl⟩

section
variable {s : Int} {n : Nat}

theorem reach_trans {keep : List Bool} {p q x : Int} (h : Fl.Reach s keep p q) (k : Fl.Reach s keep q x) : Fl.Reach s keep p x := by
  induction k with
  | base => exact h
  | step _ hm hk ih => exact .step ih hm hk

theorem reach_kept {keep : List Bool} {p x : Int} (hp : Fl.at_ keep p = true) (h : Fl.Reach s keep p x) : Fl.at_ keep x = true := by
  cases h with
  | base => exact hp
  | step _ _ hk => exact hk

theorem reach_back (hnn : ∀ x : Int, 0 ≤ x → x < n → ∀ y ∈ nbs s x, 0 ≤ y ∧ y < n) (hsy : ∀ x : Int, 0 ≤ x → x < n → ∀ y ∈ nbs s x, x ∈ nbs s y)
    {keep : List Bool} {p x : Int} (hp : 0 ≤ p ∧ p < n) (hk : Fl.at_ keep p = true) (h : Fl.Reach s keep p x) : Fl.Reach s keep x p := by
  induction h with
  | base => exact .base
  | step hr hm hy ih =>
    have hin := Fl.reach_in hnn hp hr
    exact reach_trans (.step .base (hsy _ hin.1 hin.2 _ hm) (reach_kept hk hr)) ih

/-- Which points have the color of a point. -/
def col (cs : List Int) (x : Nat) : List Bool := cs.map fun c => c == cs.getD x 0
theorem col_at {cs : List Int} {x y : Nat} (hy : y < cs.length) : Fl.at_ (col cs x) (y : Int) = (cs.getD y 0 == cs.getD x 0) := by
  simp [Fl.at_, col, List.getD_eq_getElem?_getD, List.getElem?_eq_getElem hy]
theorem col_eq {cs : List Int} {x y : Nat} (h : cs.getD y 0 = cs.getD x 0) : col cs y = col cs x := by unfold col; rw [h]

/-- Connected points of one color. -/
def Con (s : Int) (cs : List Int) (x y : Nat) : Prop := cs.getD y 0 = cs.getD x 0 ∧ Fl.Reach s (col cs x) (x : Int) (y : Int)

structure Jn (s : Int) (n : Nat) (cs : List Int) (r : Nat → Nat) (k i : Nat) : Prop where
  sound : ∀ x y, x < n → y < n → r x = r y → Con s cs x y
  done : ∀ x, x < k → ∀ y : Nat, y < n → (y : Int) ∈ nbs s (x : Int) → cs.getD y 0 = cs.getD x 0 → r y = r x
  part : ∀ y : Nat, y < n → (y : Int) ∈ (nbs s (k : Int)).take i → cs.getD y 0 = cs.getD k 0 → r y = r k

theorem Jn.start (s : Int) (n : Nat) (cs : List Int) : Jn s n cs id 0 0 :=
  ⟨fun x y _ _ e => by cases (show x = y from e); exact ⟨rfl, .base⟩, fun x hx => absurd hx (by omega), fun y _ h => by simp at h⟩

theorem take_more {l : List Int} {i : Nat} {q y : Int} (hi : i < l.length) (hq : l.getD i 0 = q) : y ∈ l.take (i + 1) ↔ y ∈ l.take i ∨ y = q := by
  have e : l.getD i 0 = l[i] := by simp [List.getD_eq_getElem?_getD, List.getElem?_eq_getElem hi]
  rw [List.take_succ_eq_append_getElem hi, List.mem_append, List.mem_singleton, ← e, hq]

theorem Jn.skip {cs : List Int} {r : Nat → Nat} {k i q : Nat} (h : Jn s n cs r k i) (hi : i < (nbs s (k : Int)).length) (hq : (nbs s (k : Int)).getD i 0 = (q : Int)) (hne : cs.getD q 0 ≠ cs.getD k 0) : Jn s n cs r k (i + 1) := by
  refine ⟨h.sound, h.done, fun y hy hm hc => ?_⟩
  rcases (take_more hi hq).1 hm with hm | e
  · exact h.part y hy hm hc
  · obtain rfl : y = q := by omega
    exact absurd hc hne

theorem Jn.join (hnn : ∀ x : Int, 0 ≤ x → x < n → ∀ y ∈ nbs s x, 0 ≤ y ∧ y < n) (hsy : ∀ x : Int, 0 ≤ x → x < n → ∀ y ∈ nbs s x, x ∈ nbs s y) {cs : List Int} (hcs : cs.length = n) {r : Nat → Nat} {k i q : Nat} (h : Jn s n cs r k i) (hk : k < n) (hqn : q < n)
    (hi : i < (nbs s (k : Int)).length) (hq : (nbs s (k : Int)).getD i 0 = (q : Int)) (he : cs.getD q 0 = cs.getD k 0) : Jn s n cs (joined r k q) k (i + 1) := by
  have hm : (q : Int) ∈ nbs s (k : Int) := by
    have := (take_more (y := (q : Int)) hi hq).2 (.inr rfl)
    exact List.mem_of_mem_take this
  refine ⟨fun x y hx hy e => ?_, fun x hx y hy hm hc => joined_keep (h.done x hx y hy hm hc), fun y hy hm hc => ?_⟩
  · refine joined_sound (E := Con s cs) (n := n) ?_ ?_ hk hqn ⟨he, .step .base hm ?_⟩ h.sound hx hy e
    · intro x y hx hy ⟨e1, e2⟩
      refine ⟨e1.symm, ?_⟩
      rw [col_eq e1]
      exact reach_back hnn hsy ⟨by omega, by omega⟩ (by rw [col_at (by omega)]; simp) e2
    · intro x y z hx hy hz ⟨e1, e2⟩ ⟨e3, e4⟩
      rw [col_eq e1] at e4
      exact ⟨e3.trans e1, reach_trans e2 e4⟩
    · rw [col_at (by omega), he]; simp
  · rcases (take_more hi hq).1 hm with hm | e
    · exact joined_keep (h.part y hy hm hc)
    · obtain rfl : y = q := by omega
      exact (joined_two r k y).symm

theorem Jn.next {cs : List Int} {r : Nat → Nat} {k i : Nat} (h : Jn s n cs r k i) (hi : (nbs s (k : Int)).length ≤ i) : Jn s n cs r (k + 1) 0 := by
  refine ⟨h.sound, fun x hx y hy hm hc => ?_, fun y _ hm => by simp at hm⟩
  by_cases e : x = k
  · subst e
    exact h.part y hy (by rw [List.take_of_length_le hi]; exact hm) hc
  · exact h.done x (by omega) y hy hm hc

theorem Jn.iff (hnn : ∀ x : Int, 0 ≤ x → x < n → ∀ y ∈ nbs s x, 0 ≤ y ∧ y < n) {cs : List Int} (hcs : cs.length = n) {r : Nat → Nat} (h : Jn s n cs r n 0) {x : Nat} (hx : x < n) (y : Int) (hy : 0 ≤ y ∧ y < n) : r y.toNat = r x ↔ Fl.Reach s (col cs x) (x : Int) y := by
  constructor
  · intro e
    have := (h.sound x y.toNat hx (by omega) e.symm).2
    rwa [Int.toNat_of_nonneg hy.1] at this
  · intro hr
    have key : ∀ z : Int, Fl.Reach s (col cs x) (x : Int) z → (0 ≤ z ∧ z < n) ∧ r z.toNat = r x ∧ cs.getD z.toNat 0 = cs.getD x 0 := by
      intro z hz
      induction hz with
      | base => exact ⟨⟨by omega, by omega⟩, by simp, by simp⟩
      | @step a b h1 hm hk ih =>
        obtain ⟨⟨a0, an⟩, i2, i3⟩ := ih
        obtain ⟨b0, bn⟩ := hnn a a0 an b hm
        have hb : (b.toNat : Int) = b := Int.toNat_of_nonneg b0
        have hc : cs.getD b.toNat 0 = cs.getD x 0 := by
          rw [← hb, col_at (by omega)] at hk
          simpa using hk
        refine ⟨⟨b0, bn⟩, ?_, hc⟩
        rw [← i2]
        refine h.done a.toNat (by omega) b.toNat (by omega) ?_ (hc.trans i3.symm)
        rw [hb, Int.toNat_of_nonneg a0]
        exact hm
    exact (key y hr).2.1
end
end Go.Proofs.Ytoflbpihcfdcgaa.Un

namespace Go.Proofs.Ytoflbpihcfdcgaa
open Go.RowKit

theorem i_newUnions (n : Nat) (w : World) (hn : n ≤ 1000) :
    Calls Try.prog 101 #[.int .i64 (n : Nat)] w fun e w' => ∃ c', e = .returned (.slice (some ⟨w.heap.size, 0, none⟩) n c') ∧ Own w' w.heap.size (some ⟨w.heap.size, 0, none⟩) n c' (marks 0 n) ∧ Below w.heap.size w w' := by
  go_enter Try.func101, Try.ntmps101
  go_wp2_with (at_make; refine make0t 77 Try.underlying77 rfl _ rfl _ w.heap.size _ n rfl rfl (by omega) (Nat.le_refl _) ?_; intro w1 hown hb hlt)
  have Ho := Lib.hid hown
  have Hb := Lib.hid hb
  clear hown hb
  go_loopw [9] (fun i wr => ∃ j : Nat, j ≤ n ∧ i = .int .i64 j ∧ Own wr w.heap.size (some ⟨w.heap.size, 0, none⟩) n n (marks 0 j ++ (List.replicate n 0).drop j) ∧ Below w.heap.size w wr) (fun i _ => n - (intOf i).toNat)
  case atStart => exact ⟨0, by omega, rfl, by simpa [marks] using Ho.out, Hb.out⟩
  case round =>
    clear Ho Hb
    obtain ⟨j, hj, rfl, ho, hb⟩ := hrel
    by_cases hjn : j < n
    · have hcell : ∃ u, wr.cell? ⟨w.heap.size, j, none⟩ = some u := by
        have := World.ownsRow.cellAt ho.2 j (by omega)
        rw [this]
        exact ⟨_, List.getElem?_eq_getElem (by rw [List.length_map, ho.1]; exact hjn)⟩
      obtain ⟨u, hu⟩ := hcell
      have hf := World.ownsRow.frozenAt ho.2 j
      have hst := (ho.stored j (0 + (j : Int))).1
      rw [marks_succ 0 j _ (by rw [List.length_replicate]; exact hjn), Int.zero_add] at hst
      have Hs := Lib.hid hst
      have Hb := Lib.hid hb
      clear hst ho hb
      go_wp2_with fail
      go_roundw
      case rel => exact ⟨j + 1, by omega, by go_num, Hs.out, Hb.out.setCell (Nat.le_refl _) _⟩
      case measure => simp [intOf]; omega
    · obtain rfl : j = n := by omega
      have ho2 : Own wr w.heap.size (some ⟨w.heap.size, 0, none⟩) j j (marks 0 j) := by
        have := ho
        rw [List.drop_of_length_le (by rw [List.length_replicate]; exact Nat.le_refl _), List.append_nil] at this
        exact this
      have Ho := Lib.hid ho2
      have Hb := Lib.hid hb
      clear ho ho2 hb
      go_wp2_with fail
      go_ret
      exact ⟨_, rfl, Ho.out, Hb.out⟩

theorem Own.cellD {w : World} {B g n c : Nat} {xs : List Int} (h : Own w B (some ⟨g, 0, none⟩) n c xs) (j : Nat) (hj : j < n) : w.cell? ⟨g, j, none⟩ = some (.int .i64 (xs.getD j 0)) := by
  rw [World.ownsRow.cellAt h.2 j (by omega)]
  simp [List.getD_eq_getElem?_getD, List.getElem?_eq_getElem (show j < xs.length by rw [h.1]; exact hj)]

/-- What the calls on a forest keep: the row at block g alone is written. -/
def Fst (B g n c : Nat) (r : Nat → Nat) (w wx : World) : Prop := ∃ u, Own wx B (some ⟨g, 0, none⟩) n c u ∧ Un.Un u n r ∧ w.grownBy wx (some g)

theorem i_firstOf (w : World) (B g n c : Nat) (u : List Int) (r : Nat → Nat) (p : Nat) (h : Own w B (some ⟨g, 0, none⟩) n c u) (hu : Un.Un u n r) (hp : p < n) :
    Calls Try.prog 87 #[.slice (some ⟨g, 0, none⟩) n c, .int .i64 (p : Nat)] w fun e w' => e = .returned (.int .i64 (r p : Nat)) ∧ Fst B g n c r w w' := by
  have H := Lib.hid h
  have Hu := Lib.hid hu
  clear h hu
  go_enter Try.func87, Try.ntmps87
  go_wp2_with fail
  go_loopw [1] (fun i wr => ∃ (k : Nat) (v : List Int), k < n ∧ r k = r p ∧ i = .int .i64 (k : Nat) ∧ Own wr B (some ⟨g, 0, none⟩) n c v ∧ Un.Un v n r ∧ w.grownBy wr (some g)) (fun i _ => (intOf i).toNat)
  case atStart => exact ⟨p, u, hp, rfl, rfl, H.out, Hu.out, World.grownBy.refl _ _⟩
  case round =>
    clear H Hu
    obtain ⟨k, v, hk, hrk, rfl, ho, hun, hgr⟩ := hrel
    obtain ⟨l1, l2⟩ := hun.lo k hk
    obtain ⟨x, hx⟩ : ∃ x : Nat, v.getD k 0 = (x : Int) := ⟨(v.getD k 0).toNat, by omega⟩
    have ck := ho.cellD k hk
    rw [hx] at ck l1 l2
    by_cases hxk : x = k
    · subst hxk
      have hroot := hun.root x hk hx
      have hrp : r p = x := hrk.symm.trans hroot
      have Hrp := Lib.hid hrp
      have Ho := Lib.hid ho
      have Hun := Lib.hid hun
      have Hgr := Lib.hid hgr
      clear ho hun hgr hrp hroot hrk hx
      go_wp2_with fail
      go_ret
      exact ⟨by rw [Hrp.out]; rfl, _, Ho.out, Hun.out, Hgr.out⟩
    · have hxn : x < n := by omega
      obtain ⟨m1, m2⟩ := hun.lo x hxn
      obtain ⟨y, hy⟩ : ∃ y : Nat, v.getD x 0 = (y : Int) := ⟨(v.getD x 0).toNat, by omega⟩
      have cx := ho.cellD x hxn
      rw [hy] at cx
      obtain ⟨q1, q2, q3⟩ := hun.half hk hx hy hxk
      have fk := World.ownsRow.frozenAt ho.2 k
      have hst := ho.stored k (y : Int)
      have Hs := Lib.hid hst.1
      have Hg := Lib.hid (gtrans hgr hst.2)
      have Hun := Lib.hid q3
      have Hr := Lib.hid (q2.trans hrk)
      have hyn : y < n := by omega
      clear ho hun hgr hst q2 q3 hrk hx hy m1 m2 l1
      go_wp2_with fail
      go_roundw
      case rel => exact ⟨y, _, hyn, Hr.out, by go_num, Hs.out, Hun.out, Hg.out⟩
      case measure => simp [intOf]; omega

theorem i_join (w : World) (B g n c : Nat) (u : List Int) (r : Nat → Nat) (p q : Nat) (h : Own w B (some ⟨g, 0, none⟩) n c u) (hu : Un.Un u n r) (hp : p < n) (hq : q < n) :
    Calls Try.prog 102 #[.slice (some ⟨g, 0, none⟩) n c, .int .i64 (p : Nat), .int .i64 (q : Nat)] w fun e w' => e = .returned (.tuple #[]) ∧ Fst B g n c (Un.joined r p q) w w' := by
  have H := Lib.hid h
  have Hu := Lib.hid hu
  clear h hu
  go_enter Try.func102, Try.ntmps102
  go_wp2_with fail
  refine (i_firstOf _ _ _ _ _ _ _ _ H.out Hu.out hp).mono ?_
  rintro e y ⟨rfl, u1, ho1, hu1, hg1⟩
  have H1 := Lib.hid ho1
  have Hu1 := Lib.hid hu1
  have Hg1 := Lib.hid hg1
  clear H Hu ho1 hu1 hg1
  go_wp2_with fail
  refine (i_firstOf _ _ _ _ _ _ _ _ H1.out Hu1.out hq).mono ?_
  rintro e y2 ⟨rfl, u2, ho2, hu2, hg2⟩
  have Hg2 := Lib.hid (gtrans Hg1.out hg2)
  have hpb := (hu2.fix p hp).1
  have hqb := (hu2.fix q hq).1
  have hst := ho2.stored (max (r p) (r q)) ((min (r p) (r q) : Nat) : Int)
  have hun := hu2.join hp hq
  have Hf := Lib.hid (show Fst B g n c (Un.joined r p q) w (y2.setCell ⟨g, max (r p) (r q), none⟩ (.int .i64 ((min (r p) (r q) : Nat) : Int))) from ⟨_, hst.1, hun, gtrans Hg2.out hst.2⟩)
  have hM : max (r p) (r q) < n := by omega
  obtain ⟨u9, hu9⟩ : ∃ v, y2.cell? ⟨g, max (r p) (r q), none⟩ = some v := ⟨_, ho2.cellD _ hM⟩
  have hf9 := World.ownsRow.frozenAt ho2.2 (max (r p) (r q))
  clear H1 Hu1 Hg1 Hg2 ho2 hu2 hg2 hst hun
  generalize hR : Un.joined r p q = R at Hf
  generalize r p = a at *
  generalize r q = b at *
  have HR := Lib.hid hR
  clear hR
  rcases Nat.lt_trichotomy a b with hab | rfl | hab
  · rw [Nat.max_eq_right (Nat.le_of_lt hab), Nat.min_eq_left (Nat.le_of_lt hab)] at Hf
    rw [Nat.max_eq_right (Nat.le_of_lt hab)] at hM hu9 hf9
    go_wp2_with fail
    refine bodyPost_end (results_none rfl _ _ _) rfl ?_
    exact ⟨rfl, by rw [HR.out]; exact Hf.out⟩
  · rw [Nat.max_self, Nat.min_self] at Hf
    rw [Nat.max_self] at hM hu9 hf9
    go_wp2_with fail
    refine bodyPost_end (results_none rfl _ _ _) rfl ?_
    exact ⟨rfl, by rw [HR.out]; exact Hf.out⟩
  · rw [Nat.max_eq_left (Nat.le_of_lt hab), Nat.min_eq_right (Nat.le_of_lt hab)] at Hf
    rw [Nat.max_eq_left (Nat.le_of_lt hab)] at hM hu9 hf9
    go_wp2_with fail
    refine bodyPost_end (results_none rfl _ _ _) rfl ?_
    exact ⟨rfl, by rw [HR.out]; exact Hf.out⟩
end Go.Proofs.Ytoflbpihcfdcgaa

namespace Go.Proofs.Ytoflbpihcfdcgaa
open Go.RowKit

theorem nbs_sy {s : Int} {n : Nat} (h1 : 1 ≤ s) (h2 : s ≤ 7) (hn : (n : Int) = s * s) : ∀ x : Int, 0 ≤ x → x < n → ∀ y ∈ Pt.nbs s x, x ∈ Pt.nbs s y := by
  intro x h0 hx y hy
  obtain ⟨m1, _, _⟩ := Pt.nbs_all s x h1 h2 h0 (by omega)
  have := List.all_eq_true.1 m1 y hy
  simp only [Bool.and_eq_true, decide_eq_true_eq] at this
  simpa using this.1.2

/-- The points whose set begins with a point, as a list of marks. -/
def inSet (r : Nat → Nat) (p n : Nat) : List Bool := (List.range n).map fun q => r q == r p
theorem inSet_len (r : Nat → Nat) (p n : Nat) : (inSet r p n).length = n := by simp [inSet]
theorem inSet_at {r : Nat → Nat} {p n q : Nat} (h : q < n) : (inSet r p n).getD q false = (r q == r p) := by
  simp [inSet, List.getD_eq_getElem?_getD, h]

set_option maxRecDepth 100000 in
set_option maxHeartbeats 4000000 in
theorem i_setOf (w : World) (B g n c : Nat) (u : List Int) (r : Nat → Nat) (p : Nat) (h : Own w B (some ⟨g, 0, none⟩) n c u) (hu : Un.Un u n r) (hp : p < n) (hn : n ≤ 1000) :
    Calls Try.prog 81 #[.slice (some ⟨g, 0, none⟩) n c, .int .i64 (p : Nat)] w fun e w' => ∃ A m c', e = .returned (.slice A m c') ∧ Own w' w.heap.size A m c' (Fl.pts (inSet r p n) n) ∧ Fst B g n c r w w' := by
  have hgw := (h.ge rfl).2
  have H := Lib.hid h
  have Hu := Lib.hid hu
  clear h hu
  go_enter Try.func81, Try.ntmps81
  go_wp2_with fail
  refine (i_firstOf _ _ _ _ _ _ _ _ H.out Hu.out hp).mono ?_
  rintro e y ⟨rfl, u1, ho1, hu1, hg1⟩
  have H1 := Lib.hid ho1
  have Hu1 := Lib.hid hu1
  have Hg1 := Lib.hid hg1
  have hzy := hg1.size
  have hgy := (ho1.ge rfl).2
  have hrp := (hu1.fix p hp).1
  clear H Hu ho1 hu1 hg1
  obtain ⟨a, ha⟩ : ∃ a, r p = a := ⟨_, rfl⟩
  have Ha := Lib.hid ha
  rw [ha] at hrp ⊢
  clear ha
  go_wp2_with fail
  go_loopw [6, 13] (fun v i wr => ∃ (j m c' : Nat) (A : Option Addr) (u2 : List Int), j ≤ n ∧ i = .int .i64 (j : Nat) ∧ v = .slice A m c' ∧ Own wr y.heap.size A m c' (Fl.pts (inSet r p n) j) ∧ Own wr B (some ⟨g, 0, none⟩) n c u2 ∧ Un.Un u2 n r ∧ y.grownBy wr (some g)) (fun _ i _ => n - (intOf i).toNat)
  case atStart => exact ⟨0, 0, 0, none, _, by omega, rfl, rfl, Own.nil _ _, H1.out, Hu1.out, World.grownBy.refl _ _⟩
  case round =>
    clear H1 Hu1
    obtain ⟨wo, rfl⟩ : ∃ wo : World, wo = wr := ⟨_, rfl⟩
    obtain ⟨j, m, c', A, u2, hj, rfl, rfl, ho, hf, hun, hgr⟩ := hrel
    have hm := ho.1
    have hm2 := Fl.pts_len (inSet r p n) j
    have hzr := hgr.size
    have Ho := Lib.hid ho
    have Hf := Lib.hid hf
    have Hun := Lib.hid hun
    have Hgr := Lib.hid hgr
    have hm3 : m ≤ 1000 := by omega
    clear ho hf hun hgr hm hm2
    by_cases hjn : j < n
    · go_wp2_with fail
      refine (i_firstOf _ _ _ _ _ _ _ _ Hf.out Hun.out hjn).mono ?_
      rintro e y2 ⟨rfl, u3, hf3, hun3, hg3⟩
      have hrj := (hun3.fix j hjn).1
      have hz3 := hg3.size
      have ho3 := Ho.out.kept hg3 (fun g2 e e2 => by have := (Ho.out.ge e).1; injection e2 with e2; omega)
      have Ho3 := Lib.hid ho3
      have Hf3 := Lib.hid hf3
      have Hun3 := Lib.hid hun3
      have Hg3 := Lib.hid (gtrans Hgr.out hg3)
      have Hin := Lib.hid (inSet_at (r := r) (p := p) hjn)
      clear Ho Hf Hun Hgr hf3 hun3 hg3 ho3
      obtain ⟨b, hb⟩ : ∃ b, r j = b := ⟨_, rfl⟩
      have Hbb := Lib.hid hb
      rw [hb] at hrj ⊢
      clear hb
      by_cases hab : b = a
      · have Hy := Lib.hid (show Fl.pts (inSet r p n) (j + 1) = Fl.pts (inSet r p n) j ++ [(j : Int)] from Fl.pts_yes (by rw [Hin.out, Ha.out, Hbb.out]; simpa using hab))
        have hab2 : (b : Int) = a := by omega
        go_wp2_with (at_builtin; refine app1 rfl _ _ rfl _ _ _ _ _ _ _ _ rfl rfl rfl Ho3.out (by omega) (by omega) ?_; intro A' c2 w' hown' hb' hlt' hgrow)
        have hfa : ∀ q, (Value.slice A m c').ownBlock = some q → y.heap.size ≤ q := fun q e2 => (Ho3.out.ge (own_block Ho3.out e2)).1
        have Hf4 : Hid (Own w' B (some ⟨g, 0, none⟩) n c u3) := Lib.hid (Hf3.out.kept hgrow (fun q e e2 => by injection e with e; injection e with e; have := hfa q e2; omega))
        have Hg4 : Hid (y.grownBy w' (some g)) := Lib.hid ⟨hgrow.os.trans Hg3.out.os, hgrow.tape.trans Hg3.out.tape, hgrow.output.trans Hg3.out.output, Nat.le_trans Hg3.out.size hgrow.size, fun i hi hne => (hgrow.block i (Nat.lt_of_lt_of_le hi Hg3.out.size) (fun e2 => by have := hfa i e2.symm; omega)).trans (Hg3.out.block i hi hne)⟩
        have Ho4 := Lib.hid hown'
        clear hown' hb' hgrow hfa
        go_roundw
        case rel => exact ⟨j + 1, _, _, _, _, by omega, by go_num, rfl, by rw [Hy.out]; exact Ho4.out, Hf4.out, Hun3.out, Hg4.out⟩
        case measure => simp [intOf]; omega
      · have Hy := Lib.hid (show Fl.pts (inSet r p n) (j + 1) = Fl.pts (inSet r p n) j from Fl.pts_no (by rw [Hin.out, Ha.out, Hbb.out]; simpa using hab))
        have hab2 : ¬ (b : Int) = a := by omega
        go_wp2_with fail
        go_roundw
        case rel => exact ⟨j + 1, _, _, _, _, by omega, by go_num, rfl, by rw [Hy.out]; exact Ho3.out, Hf3.out, Hun3.out, Hg3.out⟩
        case measure => simp [intOf]; omega
    · obtain rfl : j = n := by omega
      go_wp2_with fail
      go_ret
      exact ⟨_, _, _, rfl, Ho.out.weaken (by omega), _, Hf.out, Hun.out, gtrans Hg1.out Hgr.out⟩

/-- What 'joinEqual' returns: a forest of the connected points of one color. -/
def Joined (s : Int) (n : Nat) (cs : List Int) (w : World) (e : Ending) (w' : World) : Prop :=
  ∃ g c' u r, e = .returned (.slice (some ⟨g, 0, none⟩) n c') ∧ Own w' w.heap.size (some ⟨g, 0, none⟩) n c' u ∧ Un.Un u n r ∧ Un.Jn s n cs r n 0 ∧ Below w.heap.size w w'

set_option maxRecDepth 100000 in
set_option maxHeartbeats 4000000 in
theorem i_joinEqual (s : Int) (w : World) (B : Nat) (A : Option Addr) (n c : Nat) (cs : List Int) (h : Ints w B A n cs) (hB : B ≤ w.heap.size) (h1 : 1 ≤ s) (h2 : s ≤ 7) (hn : (n : Int) = s * s) :
    Calls Try.prog 80 #[.agg #[.int .i64 s, .slice A n c]] w fun e w' => Joined s n cs w e w' := by
  have hsq := Pt.sq_bd s h1 h2
  have hn49 : n ≤ 49 := by omega
  have hn1 : 0 < n := by omega
  have Hnn := Lib.hid (nbs_in h1 h2 hn)
  have Hsy := Lib.hid (nbs_sy h1 h2 hn)
  have hl := h.1
  have hb1 : Below w.heap.size w (w.alloc (.cells #[.int .i64 s, .slice A n c] 25)) := (Below.refl _ _).alloc (Nat.le_refl _) _
  have X0 := Lib.hid (Bx.new 25 w s (.slice A n c))
  have H := Lib.hid (h.below hb1 hB)
  have Hb := Lib.hid hb1
  have Hn := Lib.hid hn
  have Hl := Lib.hid hl
  clear h hb1 hn hl
  go_enter Try.func80, Try.ntmps80
  go_upto_region 1 with (fail)
  obtain ⟨y0, hy⟩ : ∃ y, y = w.alloc (.cells #[.int .i64 s, .slice A n c] 25) := ⟨_, rfl⟩
  have hyz : w.heap.size < y0.heap.size := by rw [hy]; simp
  rw [← hy] at X0 H Hb ⊢
  clear hy
  obtain ⟨b, o, rfl, hbB, hc⟩ : ∃ b o, A = some ⟨b, o, none⟩ ∧ b < B ∧ ∀ j, j < n → y0.cell? ⟨b, o + j, none⟩ = some (.int .i64 (cs.getD j 0)) := by
    rcases H.out.2 with h0 | ⟨b, o, hA, hbB, hc⟩
    · omega
    · exact ⟨b, o, hA, hbB, hc⟩
  have Hc := Lib.hid hc
  clear hc
  have u0 := X0.out.cell0
  have u1 := X0.out.cell1
  have ul := X0.out.lt
  go_wp2_with fail
  refine (i_newUnions _ _ (by omega)).mono ?_
  rintro e y1 ⟨c1, rfl, ho1, hb1⟩
  have hz1 := hb1.size
  have X1 := Lib.hid (X0.out.below hb1 ul)
  have Ho1 := Lib.hid ho1
  have Hb1 := Lib.hid hb1
  clear ho1 hb1 u0 u1
  have u0 := X1.out.cell0
  have u1 := X1.out.cell1
  have ul1 := X1.out.lt
  go_wp2_with fail
  go_loopw [15] (fun i wr => ∃ (k : Nat) (u : List Int) (r : Nat → Nat), k ≤ n ∧ i = .int .i64 (k : Nat) ∧ Own wr y0.heap.size (some ⟨y0.heap.size, 0, none⟩) n c1 u ∧ Un.Un u n r ∧ Un.Jn s n cs r k 0 ∧ Below y0.heap.size y0 wr) (fun i _ => n - (intOf i).toNat)
  case atStart => exact ⟨0, _, id, by omega, rfl, Ho1.out, by have := Un.Un.start n; simpa [marks] using this, Un.Jn.start s n cs, Hb1.out⟩
  case round =>
    clear Ho1 Hb1 X1 u0 u1 ul1
    obtain ⟨wo, rfl⟩ : ∃ wo : World, wo = wr := ⟨_, rfl⟩
    obtain ⟨k, u, r, hk, rfl, ho, hun, hjn, hbr⟩ := hrel
    have hz := hbr.size
    have hgl := (ho.ge rfl).2
    have X0r := Lib.hid (X0.out.below hbr ul)
    have Ho := Lib.hid ho
    have Hun := Lib.hid hun
    have Hjn := Lib.hid hjn
    have Hbr := Lib.hid hbr
    clear ho hun hjn hbr
    by_cases hkn : k < n
    · have ck := (Hbr.out.cell (p := ⟨b, o + k, none⟩) (by show b < _; omega)).trans (Hc.out k hkn)
      obtain ⟨x, hx⟩ : ∃ x, cs.getD k 0 = x := ⟨_, rfl⟩
      have Hx := Lib.hid hx
      rw [hx] at ck
      clear hx
      have v0 := X0r.out.cell0
      have v1 := X0r.out.cell1
      have vl := X0r.out.lt
      have hk0 : (0 : Int) ≤ (k : Nat) := by omega
      have hkss : ((k : Nat) : Int) < s * s := by have := Hn.out; omega
      have hkI : (k : Int) < n := by omega
      go_wp2_with fail
      refine (i_nbs s k _ h1 h2 hk0 hkss).mono ?_
      rintro e yc ⟨A2, n2, c2, rfl, ho2, hb2⟩
      have hn2 : n2 ≤ 4 := by
        have := ho2.1
        rw [Pt.nbs, List.length_append, List.length_append, List.length_append] at this
        have := len_if (P := s ≤ (k : Int)) ((k : Int) - s)
        have := len_if (P := 0 < (k : Int) % s) ((k : Int) - 1)
        have := len_if (P := (k : Int) % s < s - 1) ((k : Int) + 1)
        have := len_if (P := (k : Int) + s < s * s) ((k : Int) + s)
        unfold Pt.nbL Pt.nbA Pt.nbB Pt.nbU at *
        omega
      have hzc := hb2.size
      have Ho2 := Lib.hid ho2
      have Hlo := Lib.hid ho2.1
      have X0c := Lib.hid (X0r.out.below hb2 vl)
      have Hoc := Lib.hid (Ho.out.below hb2)
      have Hbc := Lib.hid (Hbr.out.trans (hb2.mono (by omega)))
      clear ho2 hb2 v0 v1 ck Ho
      go_wp2_with fail
      go_loopw [25] (fun i wi => ∃ (j : Nat) (u2 : List Int) (r2 : Nat → Nat), j ≤ n2 ∧ i = .int .i64 (j : Nat) ∧ Own wi y0.heap.size (some ⟨y0.heap.size, 0, none⟩) n c1 u2 ∧ Un.Un u2 n r2 ∧ Un.Jn s n cs r2 k j ∧ yc.grownBy wi (some y0.heap.size)) (fun i _ => n2 - (intOf i).toNat)
      case atStart => exact ⟨0, _, _, by omega, rfl, Hoc.out, Hun.out, Hjn.out, World.grownBy.refl _ _⟩
      case round =>
        clear Hoc Hun Hjn
        obtain ⟨j, u2, r2, hj, rfl, ho, hun, hjn, hgr⟩ := hrel
        have hzi := hgr.size
        by_cases hjn2 : j < n2
        · have Xi := Lib.hid (X0c.out.grown hgr (by simp; omega))
          have v0 := Xi.out.cell0
          have v1 := Xi.out.cell1
          have vl := Xi.out.lt
          obtain ⟨nb, hA2⟩ : ∃ nb, A2 = some ⟨nb, 0, none⟩ := by
            obtain ⟨g, cap, hv, _⟩ := World.ownsRow.form Ho2.out.2 (by omega)
            exact ⟨g, by injection hv⟩
          have hnb := Ho2.out.ge hA2
          have hon := Ho2.out.kept hgr (fun g e e2 => by have := (Ho2.out.ge e).1; injection e2 with e2; omega)
          rw [hA2] at hon
          have hjl : j < (Pt.nbs s k).length := by rw [Hlo.out]; exact hjn2
          have hcn := hon.cellD j hjn2
          have hmem : (Pt.nbs s k).getD j 0 ∈ Pt.nbs s k := by
            rw [List.getD_eq_getElem?_getD, List.getElem?_eq_getElem hjl]; exact List.getElem_mem _
          obtain ⟨q0, qn⟩ := Hnn.out k hk0 hkI _ hmem
          obtain ⟨q, hq⟩ : ∃ q, (Pt.nbs s k).getD j 0 = q := ⟨_, rfl⟩
          rw [hq] at hcn q0 qn
          obtain ⟨d, rfl⟩ := Int.eq_ofNat_of_zero_le q0
          have hdn : d < n := by omega
          have cb := hgr.cell ((Hbc.out.cell (p := ⟨b, o + d, none⟩) (by show b < _; omega)).trans (Hc.out d hdn)) (by simp; omega)
          obtain ⟨e0, he0⟩ : ∃ e0, cs.getD d 0 = e0 := ⟨_, rfl⟩
          rw [he0] at cb
          have Hq := Lib.hid hq
          have Hjl := Lib.hid hjl
          have He0 := Lib.hid he0
          have Ho := Lib.hid ho
          have Hun := Lib.hid hun
          have Hjn := Lib.hid hjn
          have Hgr := Lib.hid hgr
          have HA := Lib.hid hA2
          rw [hA2]
          have hj2 : (j : Int) < n2 := by omega
          clear hq hmem hjl he0 hA2 hon ho hun hjn hgr
          by_cases hcol : e0 = x
          · have Hst := Lib.hid (Hjn.out.join Hnn.out Hsy.out Hl.out hkn hdn Hjl.out Hq.out (by rw [He0.out, Hx.out]; exact hcol))
            go_wp2_with fail
            refine (i_join _ _ _ _ _ _ _ _ _ Ho.out Hun.out hkn hdn).mono ?_
            rintro e y9 ⟨rfl, u3, ho3, hun3, hg3⟩
            have Ho3 := Lib.hid ho3
            have Hun3 := Lib.hid hun3
            have Hg3 := Lib.hid (gtrans Hgr.out hg3)
            clear ho3 hun3 hg3
            go_wp2_with fail
            go_roundw
            case rel => exact ⟨j + 1, _, _, by omega, by go_num, Ho3.out, Hun3.out, Hst.out, Hg3.out⟩
            case measure => simp [intOf]; omega
          · have Hst := Lib.hid (Hjn.out.skip Hjl.out Hq.out (by rw [He0.out, Hx.out]; exact hcol))
            go_wp2_with fail
            go_roundw
            case rel => exact ⟨j + 1, _, _, by omega, by go_num, Ho.out, Hun.out, Hst.out, Hgr.out⟩
            case measure => simp [intOf]; omega
        · have Hjn2 := Lib.hid (hjn.next (by rw [Hlo.out]; omega))
          have Ho := Lib.hid ho
          have Hun := Lib.hid hun
          have Hgr := Lib.hid hgr
          clear ho hun hjn hgr
          go_wp2_with fail
          go_roundw
          case rel => exact ⟨k + 1, _, _, by omega, by go_num, Ho.out, Hun.out, Hjn2.out, Hbc.out.grown Hgr.out (by omega) (fun k e => by injection e; omega)⟩
          case measure => simp [intOf]; omega
    · obtain rfl : k = n := by omega
      go_wp2_with fail
      go_ret
      exact ⟨_, _, _, _, rfl, Ho.out.weaken (by omega), Hun.out, Hjn.out, Hb.out.trans (Hbr.out.mono (by omega))⟩
end Go.Proofs.Ytoflbpihcfdcgaa

namespace Go.Proofs.Ytoflbpihcfdcgaa
open Go.RowKit

/-- Is there a stone? -/
def hst (s : Int) (cs : List Int) (p : Int) : Bool := Bd.okB s cs && (Pt.okP s p && !(cs.getD p.toNat 0 == 0))

/-- The group of a stone, as a list; nothing where there is no stone. -/
def GrpIs (s : Int) (n : Nat) (cs : List Int) (p : Int) (l : List Int) : Prop := (hst s cs p = true → Reached s n (hasCol (cs.getD p.toNat 0) cs) p l) ∧ (hst s cs p = false → l = [])

theorem pts_ext {S T : List Bool} {n : Nat} (h : ∀ q, q < n → S.getD q false = T.getD q false) : Fl.pts S n = Fl.pts T n := by
  unfold Fl.pts
  congr 1
  refine List.filter_congr fun q hq => ?_
  exact h q (List.mem_range.1 hq)

theorem Reached.one {s : Int} {n : Nat} {keep : List Bool} {p : Int} {l l' : List Int} (h : Reached s n keep p l) (h' : Reached s n keep p l') : l = l' := by
  obtain ⟨S, _, hS, rfl⟩ := h
  obtain ⟨T, _, hT, rfl⟩ := h'
  refine pts_ext fun q _ => ?_
  have e1 := hS (q : Int) (by omega)
  have e2 := hT (q : Int) (by omega)
  unfold Fl.at_ at e1 e2
  rw [Int.toNat_natCast] at e1 e2
  rw [Bool.eq_iff_iff]
  exact e1.trans e2.symm

theorem GrpIs.one {s : Int} {n : Nat} {cs : List Int} {p : Int} {l l' : List Int} (h : GrpIs s n cs p l) (h' : GrpIs s n cs p l') : l = l' := by
  rcases Bool.eq_false_or_eq_true (hst s cs p) with e | e
  · exact (h.1 e).one (h'.1 e)
  · rw [h.2 e, h'.2 e]

/-- The marks of the points of a property. -/
theorem marks_of (n : Nat) (P : Nat → Prop) : ∃ S : List Bool, S.length = n ∧ ∀ q, q < n → (S.getD q false = true ↔ P q) := by
  induction n with
  | zero => exact ⟨[], rfl, fun q h => absurd h (by omega)⟩
  | succ n ih =>
    obtain ⟨S, hl, h⟩ := ih
    have key : ∀ b : Bool, (b = true ↔ P n) → ∃ S : List Bool, S.length = n + 1 ∧ ∀ q, q < n + 1 → (S.getD q false = true ↔ P q) := by
      intro b hb
      refine ⟨S ++ [b], by simp [hl], fun q hq => ?_⟩
      by_cases e : q = n
      · subst e
        simp [List.getD_eq_getElem?_getD, ← hl, hb]
      · rw [List.getD_eq_getElem?_getD, List.getElem?_append_left (by omega), ← List.getD_eq_getElem?_getD]
        exact h q (by omega)
    by_cases hp : P n
    · exact key true (by simp [hp])
    · exact key false (by simp [hp])

theorem Reached.make {s : Int} {n : Nat} (h1 : 1 ≤ s) (h2 : s ≤ 7) (hn : (n : Int) = s * s) (keep : List Bool) {p : Int} (hp : 0 ≤ p ∧ p < n) : ∃ l, Reached s n keep p l := by
  obtain ⟨S, hl, h⟩ := marks_of n fun q => Fl.Reach s keep p (q : Int)
  refine ⟨Fl.pts S n, S, hl, fun y hy => ?_, rfl⟩
  obtain ⟨q, rfl⟩ := Int.eq_ofNat_of_zero_le hy
  by_cases hq : q < n
  · have := h q hq
    unfold Fl.at_
    rw [Int.toNat_natCast]
    exact this
  · constructor
    · intro e
      unfold Fl.at_ at e
      rw [Int.toNat_natCast, List.getD_eq_getElem?_getD, List.getElem?_eq_none (by omega)] at e
      cases e
    · intro e
      have := (Fl.reach_in (nbs_in h1 h2 hn) hp e).2
      omega

theorem hst_iff {s : Int} {cs : List Int} {p : Int} (h : hst s cs p = true) : Bd.okB s cs = true ∧ Pt.okP s p = true ∧ cs.getD p.toNat 0 ≠ 0 := by
  unfold hst at h
  simp only [Bool.and_eq_true, Bool.not_eq_true', beq_eq_false_iff_ne] at h
  exact ⟨h.1, h.2.1, h.2.2⟩

theorem GrpIs.make (s : Int) (n : Nat) (cs : List Int) (p : Int) (hn : cs.length = n) : ∃ l, GrpIs s n cs p l := by
  rcases Bool.eq_false_or_eq_true (hst s cs p) with e | e
  · obtain ⟨a, b, _⟩ := hst_iff e
    obtain ⟨q1, q2, q3, _⟩ := (Bd.okB_iff s cs).1 a
    obtain ⟨_, _, p1, p2⟩ := (Pt.okP_iff s p).1 b
    obtain ⟨l, hl⟩ := Reached.make q1 q2 (n := n) (by omega) (hasCol (cs.getD p.toNat 0) cs) ⟨p1, by omega⟩
    exact ⟨l, ⟨fun _ => hl, fun h => absurd (e.symm.trans h) (by decide)⟩⟩
  · exact ⟨[], ⟨fun h => absurd (e.symm.trans h) (by decide), fun _ => rfl⟩⟩

theorem GrpIs.few {s : Int} {n : Nat} {cs : List Int} {p : Int} {l : List Int} (h : GrpIs s n cs p l) : l.length ≤ n := by
  rcases Bool.eq_false_or_eq_true (hst s cs p) with e | e
  · exact (h.1 e).few
  · rw [h.2 e]; exact Nat.zero_le _

set_option maxRecDepth 100000 in
set_option maxHeartbeats 4000000 in
theorem i_hasStone (s p : Int) (w : World) (B : Nat) (A : Option Addr) (n c : Nat) (cs : List Int) (h : Ints w B A n cs) (hB : B ≤ w.heap.size) (hn : n ≤ 1000000000) :
    Calls Try.prog 79 #[.agg #[.int .i64 s, .slice A n c], .int .i64 p] w fun e w' => e = .returned (.bool (hst s cs p)) ∧ Below w.heap.size w w' := by
  have hb1 : Below w.heap.size w (w.alloc (.cells #[.int .i64 s, .slice A n c] 25)) := (Below.refl _ _).alloc (Nat.le_refl _) _
  have hl := h.1
  have X0 := Lib.hid (Bx.new 25 w s (.slice A n c))
  have H := Lib.hid (h.below hb1 hB)
  have Hb := Lib.hid hb1
  clear h hb1
  by_cases hv : Bd.okB s cs = true
  · obtain ⟨q1, q2, q3, _⟩ := (Bd.okB_iff s cs).1 hv
    have q4 := Pt.sq_bd s q1 q2
    have hn49 : n ≤ 49 := by omega
    by_cases hp : Pt.okP s p = true
    · obtain ⟨_, _, p1, p2⟩ := (Pt.okP_iff s p).1 hp
      have hpp : (decide (0 ≤ p) && decide (p < s * s)) = true := by simp [p1, p2]
      obtain ⟨q, rfl⟩ := Int.eq_ofNat_of_zero_le p1
      have hqn : q < n := by omega
      by_cases hz : cs.getD q 0 = 0
      · have hh : hst s cs (q : Int) = false := by unfold hst; rw [hv, hp, Int.toNat_natCast, hz]; rfl
        have Hh := Lib.hid hh
        clear hh
        go_enter Try.func79, Try.ntmps79
        go_wp2_with fail
        refine (i_validBoard _ _ _ _ _ _ _ H.out (by simp; omega) (by omega)).mono ?_
        rintro e y2 ⟨rfl, hb⟩
        rw [hv]
        have X2 := Lib.hid (X0.out.below hb X0.out.lt)
        have H2 := Lib.hid (H.out.below hb (by simp; omega))
        have Hb2 := Lib.hid (Hb.out.trans (hb.mono (by simp)))
        have zy2 := hb.size
        clear hb X0 H Hb
        have u00 := X2.out.cell0
        have u01 := X2.out.cell1
        have u02 := X2.out.lt
        clear hv
        go_wp2_with fail
        refine (i_point _ _ _).mono ?_
        rintro e w' ⟨rfl, rfl⟩
        rw [hp]
        clear hp hpp
        obtain ⟨b, o, rfl, hbB, hc⟩ : ∃ b o, A = some ⟨b, o, none⟩ ∧ b < B ∧ ∀ j, j < n → y2.cell? ⟨b, o + j, none⟩ = some (.int .i64 (cs.getD j 0)) := by
          rcases H2.out.2 with h0 | ⟨b, o, hA, hbB, hc⟩
          · omega
          · exact ⟨b, o, hA, hbB, hc⟩
        have ck := hc q hqn
        rw [hz] at ck
        clear hc hz
        go_wp2_with fail
        go_ret
        exact ⟨by rw [Hh.out]; rfl, Hb2.out⟩
      · have hh : hst s cs (q : Int) = true := by unfold hst; rw [hv, hp, Int.toNat_natCast]; simpa using hz
        have Hh := Lib.hid hh
        clear hh
        go_enter Try.func79, Try.ntmps79
        go_wp2_with fail
        refine (i_validBoard _ _ _ _ _ _ _ H.out (by simp; omega) (by omega)).mono ?_
        rintro e y2 ⟨rfl, hb⟩
        rw [hv]
        have X2 := Lib.hid (X0.out.below hb X0.out.lt)
        have H2 := Lib.hid (H.out.below hb (by simp; omega))
        have Hb2 := Lib.hid (Hb.out.trans (hb.mono (by simp)))
        have zy2 := hb.size
        clear hb X0 H Hb
        have u00 := X2.out.cell0
        have u01 := X2.out.cell1
        have u02 := X2.out.lt
        clear hv
        go_wp2_with fail
        refine (i_point _ _ _).mono ?_
        rintro e w' ⟨rfl, rfl⟩
        rw [hp]
        clear hp hpp
        obtain ⟨b, o, rfl, hbB, hc⟩ : ∃ b o, A = some ⟨b, o, none⟩ ∧ b < B ∧ ∀ j, j < n → y2.cell? ⟨b, o + j, none⟩ = some (.int .i64 (cs.getD j 0)) := by
          rcases H2.out.2 with h0 | ⟨b, o, hA, hbB, hc⟩
          · omega
          · exact ⟨b, o, hA, hbB, hc⟩
        have ck := hc q hqn
        obtain ⟨x, hx⟩ : ∃ x, cs.getD q 0 = x := ⟨_, rfl⟩
        have Hx := Lib.hid hx
        rw [hx] at ck hz
        have hxb : (x != 0) = true := by simpa using hz
        have hxc : (x == 0) = false := by simpa using hz
        clear hc hx hz
        go_wp2_with fail
        go_ret
        exact ⟨by rw [Hh.out]; rfl, Hb2.out⟩
    · have hp' : Pt.okP s p = false := by simpa using hp
      have hh : hst s cs p = false := by unfold hst; rw [hp']; simp
      have Hh := Lib.hid hh
      clear hh hp
      have hp := hp'
      have hpp : (decide (0 ≤ p) && decide (p < s * s)) = false := by
        rcases Bool.eq_false_or_eq_true (decide (0 ≤ p) && decide (p < s * s)) with e | e
        · rw [Bool.and_eq_true, decide_eq_true_eq, decide_eq_true_eq] at e
          rw [(Pt.okP_iff s p).2 ⟨q1, q2, e.1, e.2⟩] at hp'
          cases hp'
        · exact e
      clear hp'
      go_enter Try.func79, Try.ntmps79
      go_wp2_with fail
      refine (i_validBoard _ _ _ _ _ _ _ H.out (by simp; omega) (by omega)).mono ?_
      rintro e y2 ⟨rfl, hb⟩
      rw [hv]
      have X2 := Lib.hid (X0.out.below hb X0.out.lt)
      have H2 := Lib.hid (H.out.below hb (by simp; omega))
      have Hb2 := Lib.hid (Hb.out.trans (hb.mono (by simp)))
      have zy2 := hb.size
      clear hb X0 H Hb
      have u00 := X2.out.cell0
      have u01 := X2.out.cell1
      have u02 := X2.out.lt
      clear hv
      go_wp2_with fail
      refine (i_point _ _ _).mono ?_
      rintro e w' ⟨rfl, rfl⟩
      rw [hp]
      clear hp hpp
      go_wp2_with fail
      go_ret
      exact ⟨by rw [Hh.out]; rfl, Hb2.out⟩
  · have hv' : Bd.okB s cs = false := by simpa using hv
    have hh : hst s cs p = false := by unfold hst; rw [hv']; rfl
    have Hh := Lib.hid hh
    clear hh hv
    have hv := hv'
    clear hv'
    go_enter Try.func79, Try.ntmps79
    go_wp2_with fail
    refine (i_validBoard _ _ _ _ _ _ _ H.out (by simp; omega) (by omega)).mono ?_
    rintro e y2 ⟨rfl, hb⟩
    rw [hv]
    have X2 := Lib.hid (X0.out.below hb X0.out.lt)
    have H2 := Lib.hid (H.out.below hb (by simp; omega))
    have Hb2 := Lib.hid (Hb.out.trans (hb.mono (by simp)))
    have zy2 := hb.size
    clear hb X0 H Hb
    have u00 := X2.out.cell0
    have u01 := X2.out.cell1
    have u02 := X2.out.lt
    clear hv
    go_wp2_with fail
    go_ret
    exact ⟨by rw [Hh.out]; rfl, Hb2.out⟩

set_option maxRecDepth 100000 in
set_option maxHeartbeats 4000000 in
theorem s_GroupOf (s p : Int) (w : World) (B : Nat) (A : Option Addr) (n c : Nat) (cs : List Int) (h : Ints w B A n cs) (hB : B ≤ w.heap.size) (hn : n ≤ 1000000000) (l : List Int) (Hl : Hid (GrpIs s n cs p l)) :
    Calls Try.prog 32 #[.agg #[.int .i64 s, .slice A n c], .int .i64 p] w fun e w' => ∃ A' m' c', e = .returned (.slice A' m' c') ∧ Own w' w.heap.size A' m' c' l ∧ Below w.heap.size w w' := by
  have hb1 : Below w.heap.size w (w.alloc (.cells #[.int .i64 s, .slice A n c] 25)) := (Below.refl _ _).alloc (Nat.le_refl _) _
  have hl := h.1
  have X0 := Lib.hid (Bx.new 25 w s (.slice A n c))
  have H := Lib.hid (h.below hb1 hB)
  have Hb := Lib.hid hb1
  clear h hb1
  by_cases hv : Bd.okB s cs = true
  · obtain ⟨q1, q2, q3, _⟩ := (Bd.okB_iff s cs).1 hv
    have q4 := Pt.sq_bd s q1 q2
    have hn49 : n ≤ 49 := by omega
    by_cases hp : Pt.okP s p = true
    · obtain ⟨_, _, p1, p2⟩ := (Pt.okP_iff s p).1 hp
      have hpp : (decide (0 ≤ p) && decide (p < s * s)) = true := by simp [p1, p2]
      obtain ⟨q, rfl⟩ := Int.eq_ofNat_of_zero_le p1
      have hqn : q < n := by omega
      by_cases hz : cs.getD q 0 = 0
      · have hh : hst s cs (q : Int) = false := by unfold hst; rw [hv, hp, Int.toNat_natCast, hz]; rfl
        have Hh := Lib.hid hh
        clear hh
        go_enter Try.func32, Try.ntmps32
        go_wp2_with fail
        refine (s_validBoard _ _ _ _ _ _ _ H.out (by simp; omega) (by omega)).mono ?_
        rintro e y2 ⟨rfl, hb⟩
        rw [hv]
        have X2 := Lib.hid (X0.out.below hb X0.out.lt)
        have H2 := Lib.hid (H.out.below hb (by simp; omega))
        have Hb2 := Lib.hid (Hb.out.trans (hb.mono (by simp)))
        have zy2 := hb.size
        clear hb X0 H Hb
        have u00 := X2.out.cell0
        have u01 := X2.out.cell1
        have u02 := X2.out.lt
        clear hv
        go_wp2_with fail
        refine (s_vpoint _ _ _ q1 q2).mono ?_
        rintro e w' ⟨rfl, rfl⟩
        rw [hpp]
        clear hp hpp
        obtain ⟨b, o, rfl, hbB, hc⟩ : ∃ b o, A = some ⟨b, o, none⟩ ∧ b < B ∧ ∀ j, j < n → y2.cell? ⟨b, o + j, none⟩ = some (.int .i64 (cs.getD j 0)) := by
          rcases H2.out.2 with h0 | ⟨b, o, hA, hbB, hc⟩
          · omega
          · exact ⟨b, o, hA, hbB, hc⟩
        have ck := hc q hqn
        rw [hz] at ck
        clear hc hz
        go_wp2_with fail
        go_ret
        exact ⟨_, _, _, rfl, by rw [Hl.out.2 Hh.out]; exact Own.nil _ _, Hb2.out⟩
      · have hh : hst s cs (q : Int) = true := by unfold hst; rw [hv, hp, Int.toNat_natCast]; simpa using hz
        have Hh := Lib.hid hh
        clear hh
        go_enter Try.func32, Try.ntmps32
        go_wp2_with fail
        refine (s_validBoard _ _ _ _ _ _ _ H.out (by simp; omega) (by omega)).mono ?_
        rintro e y2 ⟨rfl, hb⟩
        rw [hv]
        have X2 := Lib.hid (X0.out.below hb X0.out.lt)
        have H2 := Lib.hid (H.out.below hb (by simp; omega))
        have Hb2 := Lib.hid (Hb.out.trans (hb.mono (by simp)))
        have zy2 := hb.size
        clear hb X0 H Hb
        have u00 := X2.out.cell0
        have u01 := X2.out.cell1
        have u02 := X2.out.lt
        clear hv
        go_wp2_with fail
        refine (s_vpoint _ _ _ q1 q2).mono ?_
        rintro e w' ⟨rfl, rfl⟩
        rw [hpp]
        clear hp hpp
        obtain ⟨b, o, rfl, hbB, hc⟩ : ∃ b o, A = some ⟨b, o, none⟩ ∧ b < B ∧ ∀ j, j < n → y2.cell? ⟨b, o + j, none⟩ = some (.int .i64 (cs.getD j 0)) := by
          rcases H2.out.2 with h0 | ⟨b, o, hA, hbB, hc⟩
          · omega
          · exact ⟨b, o, hA, hbB, hc⟩
        have ck := hc q hqn
        obtain ⟨x, hx⟩ : ∃ x, cs.getD q 0 = x := ⟨_, rfl⟩
        have Hx := Lib.hid hx
        rw [hx] at ck hz
        have hxb : (x != 0) = true := by simpa using hz
        have hxc : (x == 0) = false := by simpa using hz
        clear hc hx hz
        go_wp2_with fail
        refine (s_groupOf s q _ B _ n _ cs H2.out (by omega) q1 q2 (by omega) hqn).mono ?_
        rintro e y3 ⟨A3, m3, c3, l3, rfl, ho, hr, hb⟩
        have hl3 : l3 = l := Reached.one hr (by have := Hl.out.1 Hh.out; rw [Int.toNat_natCast] at this; exact this)
        rw [hl3] at ho
        have Ho := Lib.hid ho
        have Hb3 := Lib.hid (Hb2.out.trans (hb.mono (by omega)))
        clear ho hb hr hl3
        go_wp2_with fail
        go_ret
        exact ⟨_, _, _, rfl, Ho.out.weaken (by omega), Hb3.out⟩
    · have hp' : Pt.okP s p = false := by simpa using hp
      have hh : hst s cs p = false := by unfold hst; rw [hp']; simp
      have Hh := Lib.hid hh
      clear hh hp
      have hp := hp'
      have hpp : (decide (0 ≤ p) && decide (p < s * s)) = false := by
        rcases Bool.eq_false_or_eq_true (decide (0 ≤ p) && decide (p < s * s)) with e | e
        · rw [Bool.and_eq_true, decide_eq_true_eq, decide_eq_true_eq] at e
          rw [(Pt.okP_iff s p).2 ⟨q1, q2, e.1, e.2⟩] at hp'
          cases hp'
        · exact e
      clear hp'
      go_enter Try.func32, Try.ntmps32
      go_wp2_with fail
      refine (s_validBoard _ _ _ _ _ _ _ H.out (by simp; omega) (by omega)).mono ?_
      rintro e y2 ⟨rfl, hb⟩
      rw [hv]
      have X2 := Lib.hid (X0.out.below hb X0.out.lt)
      have H2 := Lib.hid (H.out.below hb (by simp; omega))
      have Hb2 := Lib.hid (Hb.out.trans (hb.mono (by simp)))
      have zy2 := hb.size
      clear hb X0 H Hb
      have u00 := X2.out.cell0
      have u01 := X2.out.cell1
      have u02 := X2.out.lt
      clear hv
      go_wp2_with fail
      refine (s_vpoint _ _ _ q1 q2).mono ?_
      rintro e w' ⟨rfl, rfl⟩
      rw [hpp]
      clear hp hpp
      go_wp2_with fail
      go_ret
      exact ⟨_, _, _, rfl, by rw [Hl.out.2 Hh.out]; exact Own.nil _ _, Hb2.out⟩
  · have hv' : Bd.okB s cs = false := by simpa using hv
    have hh : hst s cs p = false := by unfold hst; rw [hv']; rfl
    have Hh := Lib.hid hh
    clear hh hv
    have hv := hv'
    clear hv'
    go_enter Try.func32, Try.ntmps32
    go_wp2_with fail
    refine (s_validBoard _ _ _ _ _ _ _ H.out (by simp; omega) (by omega)).mono ?_
    rintro e y2 ⟨rfl, hb⟩
    rw [hv]
    have X2 := Lib.hid (X0.out.below hb X0.out.lt)
    have H2 := Lib.hid (H.out.below hb (by simp; omega))
    have Hb2 := Lib.hid (Hb.out.trans (hb.mono (by simp)))
    have zy2 := hb.size
    clear hb X0 H Hb
    have u00 := X2.out.cell0
    have u01 := X2.out.cell1
    have u02 := X2.out.lt
    clear hv
    go_wp2_with fail
    go_ret
    exact ⟨_, _, _, rfl, by rw [Hl.out.2 Hh.out]; exact Own.nil _ _, Hb2.out⟩

theorem inSet_reached {s : Int} {n : Nat} {cs : List Int} {r : Nat → Nat} {q : Nat} (h1 : 1 ≤ s) (h2 : s ≤ 7) (hn : (n : Int) = s * s) (hl : cs.length = n) (h : Un.Jn s n cs r n 0) (hq : q < n) : Reached s n (hasCol (cs.getD q 0) cs) (q : Int) (Fl.pts (inSet r q n) n) := by
  refine ⟨inSet r q n, inSet_len _ _ _, fun y hy => ?_, rfl⟩
  obtain ⟨z, rfl⟩ := Int.eq_ofNat_of_zero_le hy
  have e : hasCol (cs.getD q 0) cs = Un.col cs q := rfl
  by_cases hz : z < n
  · have := h.iff (nbs_in h1 h2 hn) hl hq (z : Int) ⟨by omega, by omega⟩
    rw [e, ← this]
    unfold Fl.at_
    rw [Int.toNat_natCast, inSet_at hz]
    simp
  · constructor
    · intro e
      unfold Fl.at_ at e
      rw [Int.toNat_natCast, List.getD_eq_getElem?_getD, List.getElem?_eq_none (by rw [inSet_len]; omega)] at e
      cases e
    · intro e
      have := (Fl.reach_in (nbs_in h1 h2 hn) ⟨by omega, by omega⟩ e).2
      omega

set_option maxRecDepth 100000 in
set_option maxHeartbeats 4000000 in
theorem i_GroupOf (s p : Int) (w : World) (B : Nat) (A : Option Addr) (n c : Nat) (cs : List Int) (h : Ints w B A n cs) (hB : B ≤ w.heap.size) (hn : n ≤ 1000000000) (l : List Int) (Hl : Hid (GrpIs s n cs p l)) :
    Calls Try.prog 33 #[.agg #[.int .i64 s, .slice A n c], .int .i64 p] w fun e w' => ∃ A' m' c', e = .returned (.slice A' m' c') ∧ Own w' w.heap.size A' m' c' l ∧ Below w.heap.size w w' := by
  have hb1 : Below w.heap.size w (w.alloc (.cells #[.int .i64 s, .slice A n c] 25)) := (Below.refl _ _).alloc (Nat.le_refl _) _
  have hl := h.1
  have X0 := Lib.hid (Bx.new 25 w s (.slice A n c))
  have H := Lib.hid (h.below hb1 hB)
  have Hb := Lib.hid hb1
  clear h hb1
  go_enter Try.func33, Try.ntmps33
  go_wp2_with fail
  refine (i_hasStone _ _ _ _ _ _ _ _ H.out (by simp; omega) hn).mono ?_
  rintro e y2 ⟨rfl, hb⟩
  have X0 := Lib.hid (X0.out.below hb X0.out.lt)
  have H := Lib.hid (H.out.below hb (by simp; omega))
  have Hb := Lib.hid (Hb.out.trans (hb.mono (by simp)))
  have zy2 := hb.size
  clear hb
  have u00 := X0.out.cell0
  have u01 := X0.out.cell1
  have u02 := X0.out.lt
  rcases Bool.eq_false_or_eq_true (hst s cs p) with hh | hh
  · have Hh := Lib.hid hh
    obtain ⟨a1, a2, _⟩ := hst_iff hh
    obtain ⟨q1, q2, q3, _⟩ := (Bd.okB_iff s cs).1 a1
    obtain ⟨_, _, p1, p2⟩ := (Pt.okP_iff s p).1 a2
    have q4 := Pt.sq_bd s q1 q2
    obtain ⟨q, rfl⟩ := Int.eq_ofNat_of_zero_le p1
    have hqn : q < n := by omega
    rw [hh]
    clear hh a1 a2
    go_wp2_with fail
    refine (i_joinEqual s _ B _ n _ cs H.out (by omega) q1 q2 (by omega)).mono ?_
    rintro e y3 ⟨g, c3, u3, r, rfl, ho, hun, hjn, hb3⟩
    have hz3 := hb3.size
    have Ho := Lib.hid ho
    have Hun := Lib.hid hun
    have Hb3 := Lib.hid (Hb.out.trans (hb3.mono (by omega)))
    have hr := inSet_reached q1 q2 (by omega) hl hjn hqn
    have hg := (ho.ge rfl).1
    have hl3 : Fl.pts (inSet r q n) n = l := Reached.one hr (by have := Hl.out.1 Hh.out; rw [Int.toNat_natCast] at this; exact this)
    have Hl3 := Lib.hid hl3
    clear ho hun hb3 hjn hr hl3
    go_wp2_with fail
    refine (i_setOf _ _ _ _ _ _ r q Ho.out Hun.out hqn (by omega)).mono ?_
    rintro e y4 ⟨A4, m4, c4, rfl, ho4, u4, ho5, hun5, hg5⟩
    rw [Hl3.out] at ho4
    have Ho4 := Lib.hid ho4
    have Hb4 : Hid (Below w.heap.size w y4) := Lib.hid (Hb3.out.grown hg5 (by omega) (fun k e => by injection e; omega))
    clear ho4 ho5 hun5 hg5
    go_wp2_with fail
    go_ret
    exact ⟨_, _, _, rfl, Ho4.out.weaken (by omega), Hb4.out⟩
  · have Hh := Lib.hid hh
    rw [hh]
    clear hh
    go_wp2_with fail
    go_ret
    exact ⟨_, _, _, rfl, by rw [Hl.out.2 Hh.out]; exact Own.nil _ _, Hb.out⟩
end Go.Proofs.Ytoflbpihcfdcgaa

namespace Go.Proofs.Ytoflbpihcfdcgaa
open Go.RowKit

theorem nbs_few (s z : Int) : (Pt.nbs s z).length ≤ 4 := by
  rw [Pt.nbs, List.length_append, List.length_append, List.length_append]
  have := len_if (P := s ≤ z) (z - s)
  have := len_if (P := 0 < z % s) (z - 1)
  have := len_if (P := z % s < s - 1) (z + 1)
  have := len_if (P := z + s < s * s) (z + s)
  unfold Pt.nbL Pt.nbA Pt.nbB Pt.nbU at *
  omega

set_option maxRecDepth 100000 in
set_option maxHeartbeats 4000000 in
theorem i_emptyNextTo (s : Int) (w : World) (B B' : Nat) (A P : Option Addr) (n c m pc : Nat) (cs ps : List Int) (h : Ints w B A n cs) (h' : Ints w B' P m ps) (hB : B ≤ w.heap.size) (hB' : B' ≤ w.heap.size)
    (hv : m = 0 ∨ (1 ≤ s ∧ s ≤ 7 ∧ (n : Int) = s * s)) (hps : ∀ j, j < m → 0 ≤ ps.getD j 0 ∧ ps.getD j 0 < n) (hm : m ≤ 1000) (hn6 : n ≤ 1048576) :
    Calls Try.prog 83 #[.agg #[.int .i64 s, .slice A n c], .slice P m pc] w fun e w' => ∃ A' m' c' S, e = .returned (.slice A' m' c') ∧ Own w' w.heap.size A' m' c' (Fl.pts S n) ∧ Bs.BI s n cs 0 ps [] S ∧ Below w.heap.size w w' := by
  have hb1 : Below w.heap.size w (w.alloc (.cells #[.int .i64 s, .slice A n c] 25)) := (Below.refl _ _).alloc (Nat.le_refl _) _
  have X0 := Lib.hid (Bx.new 25 w s (.slice A n c))
  have H := Lib.hid (h.below hb1 hB)
  have HP := Lib.hid (h'.below hb1 hB')
  have Hb := Lib.hid hb1
  have Hv := Lib.hid hv
  have Hps := Lib.hid hps
  clear h h' hb1 hv hps
  go_enter Try.func83, Try.ntmps83
  go_upto_region 1 with (fail)
  obtain ⟨y0, hy⟩ : ∃ y, y = w.alloc (.cells #[.int .i64 s, .slice A n c] 25) := ⟨_, rfl⟩
  have hyz : w.heap.size < y0.heap.size := by rw [hy]; simp
  rw [← hy] at X0 H HP Hb ⊢
  clear hy
  have u0 := X0.out.cell0
  have u1 := X0.out.cell1
  have ul := X0.out.lt
  go_upto_region 2 with (at_make; refine makeB rfl _ rfl _ _ n rfl rfl (by omega) ?_; intro y1 hbl hb hlt)
  have Hbl := Lib.hid hbl
  have Hb1 := Lib.hid hb
  clear hbl hb u0 u1
  go_wp2_with fail
  go_loopw [19] (fun i wr => ∃ k S, k ≤ m ∧ i = .int .i64 (k : Nat) ∧ Bl wr y0.heap.size S ∧ Bs.BI s n cs 0 (ps.take k) [] S ∧ Below y0.heap.size y0 wr) (fun i _ => m - (intOf i).toNat)
  case atStart => exact ⟨0, _, by omega, rfl, Hbl.out, Bs.start s n cs 0, Hb1.out⟩
  case round =>
    clear Hbl Hb1
    obtain ⟨wo, rfl⟩ : ∃ wo : World, wo = wr := ⟨_, rfl⟩
    obtain ⟨k, S, hk, rfl, hbl, hbi, hbr⟩ := hrel
    have hz := hbr.size
    have hgl := hbl.lt
    have X0r := Lib.hid (X0.out.below hbr ul)
    have HPr := Lib.hid (HP.out.below hbr (by omega))
    have Hbl := Lib.hid hbl
    have Hbi := Lib.hid hbi
    have Hbr := Lib.hid hbr
    clear hbl hbi hbr
    by_cases hkm : k < m
    · obtain ⟨h1, h2, hn⟩ : 1 ≤ s ∧ s ≤ 7 ∧ (n : Int) = s * s := by
        rcases Hv.out with e | e
        · omega
        · exact e
      have hsq := Pt.sq_bd s h1 h2
      have hn49 : n ≤ 49 := by omega
      have hn1 : 0 < n := by omega
      have Hnn := Lib.hid (nbs_in h1 h2 hn)
      have Hn := Lib.hid hn
      clear hn
      obtain ⟨b, o, rfl, hbB, hc⟩ : ∃ b o, A = some ⟨b, o, none⟩ ∧ b < B ∧ ∀ j, j < n → y0.cell? ⟨b, o + j, none⟩ = some (.int .i64 (cs.getD j 0)) := by
        rcases H.out.2 with h0 | ⟨b, o, hA, hbB, hc⟩
        · omega
        · exact ⟨b, o, hA, hbB, hc⟩
      have Hc := Lib.hid hc
      clear hc
      obtain ⟨z0, zn⟩ := Hps.out k hkm
      obtain ⟨bp, op, rfl, hbP, hcp⟩ : ∃ bp op, P = some ⟨bp, op, none⟩ ∧ bp < B' ∧ ∀ j, j < m → wo.cell? ⟨bp, op + j, none⟩ = some (.int .i64 (ps.getD j 0)) := by
        rcases HPr.out.2 with h0 | ⟨b, o, hA, hbB, hc⟩
        · omega
        · exact ⟨b, o, hA, hbB, hc⟩
      have cz := hcp k hkm
      have htk : ps.take (k + 1) = ps.take k ++ [ps.getD k 0] := by
        have hl : k < ps.length := by rw [HPr.out.1]; exact hkm
        rw [List.take_succ_eq_append_getElem hl]
        simp [List.getD_eq_getElem?_getD, List.getElem?_eq_getElem hl]
      obtain ⟨z, hz0⟩ : ∃ z, ps.getD k 0 = z := ⟨_, rfl⟩
      rw [hz0] at cz z0 zn htk
      have Htk := Lib.hid htk
      clear hz0 hcp htk
      have v0 := X0r.out.cell0
      have v1 := X0r.out.cell1
      have vl := X0r.out.lt
      have hkm' : (k : Int) < m := by omega
      have hzs : z < s * s := by have := Hn.out; omega
      go_wp2_with fail
      refine (i_nbs s z _ h1 h2 z0 hzs).mono ?_
      rintro e yc ⟨A2, n2, c2, rfl, ho, hb⟩
      have hn2 : n2 ≤ 4 := by have := ho.1; have := nbs_few s z; omega
      have hzc := hb.size
      have Ho := Lib.hid ho
      have Hlo := Lib.hid ho.1
      have X0c := Lib.hid (X0r.out.below hb vl)
      have Hblc := Lib.hid (Hbl.out.below hb hgl)
      have Hbc := Lib.hid (Hbr.out.trans (hb.mono (by omega)))
      clear ho hb v0 v1 cz
      go_wp2_with fail
      go_loopw [28] (fun i wi => ∃ j S2, j ≤ n2 ∧ i = .int .i64 (j : Nat) ∧ Bl wi y0.heap.size S2 ∧ Bs.BI s n cs 0 (ps.take k) ((Pt.nbs s z).take j) S2 ∧ yc.grownBy wi (some y0.heap.size)) (fun i _ => n2 - (intOf i).toNat)
      case atStart => exact ⟨0, _, by omega, rfl, Hblc.out, Hbi.out, World.grownBy.refl _ _⟩
      case round =>
        obtain ⟨j, S2, hj, rfl, hbl, hbi, hgr⟩ := hrel
        have Hbi2 := Lib.hid hbi
        have Hgr := Lib.hid hgr
        have hzi := hgr.size
        have hgi := hbl.lt
        by_cases hjn : j < n2
        · have Xi := Lib.hid (X0c.out.grown hgr (by simp; omega))
          have v0 := Xi.out.cell0
          have v1 := Xi.out.cell1
          have vl := Xi.out.lt
          obtain ⟨nb, hA2⟩ : ∃ nb, A2 = some ⟨nb, 0, none⟩ := by
            obtain ⟨g, cap, hv, _⟩ := World.ownsRow.form Ho.out.2 (by omega)
            exact ⟨g, by injection hv⟩
          have hnb := Ho.out.ge hA2
          have hon := Ho.out.kept hgr (fun g e e2 => by have := (Ho.out.ge e).1; injection e2 with e2; omega)
          rw [hA2] at hon
          have hjl : j < (Pt.nbs s z).length := by rw [Hlo.out]; exact hjn
          have hcn := hon.cellD j hjn
          have hmem : (Pt.nbs s z).getD j 0 ∈ Pt.nbs s z := by
            rw [List.getD_eq_getElem?_getD, List.getElem?_eq_getElem hjl]; exact List.getElem_mem _
          have htk : (Pt.nbs s z).take (j + 1) = (Pt.nbs s z).take j ++ [(Pt.nbs s z).getD j 0] := by
            rw [List.take_succ_eq_append_getElem hjl]
            simp [List.getD_eq_getElem?_getD, List.getElem?_eq_getElem hjl]
          obtain ⟨q0, qn⟩ := Hnn.out z z0 zn _ hmem
          obtain ⟨q, hq⟩ : ∃ q, (Pt.nbs s z).getD j 0 = q := ⟨_, rfl⟩
          rw [hq] at hcn q0 qn htk
          obtain ⟨d, rfl⟩ := Int.eq_ofNat_of_zero_le q0
          have hdn : d < n := by omega
          have Htk2 := Lib.hid htk
          have cb := hgr.cell ((Hbc.out.cell (p := ⟨b, o + d, none⟩) (by show b < _; omega)).trans (Hc.out d hdn)) (by simp; omega)
          obtain ⟨u, hu⟩ : ∃ u, wr.cell? ⟨y0.heap.size, d, none⟩ = some u := ⟨_, hbl.cell (by rw [hbi.len]; exact hdn)⟩
          have hf := hbl.frozen d
          have Hs := Lib.hid (hbl.set_ d (cs.getD d 0 == 0))
          have Hst := Lib.hid (Hbi2.out.step d hdn)
          obtain ⟨e0, he0⟩ : ∃ e0, cs.getD d 0 = e0 := ⟨_, rfl⟩
          rw [he0] at cb Hs Hst
          have HA := Lib.hid hA2
          rw [hA2]
          have hne1 : b ≠ y0.heap.size := by omega
          have hne2 : nb ≠ y0.heap.size := by omega
          have hj2 : (j : Int) < n2 := by omega
          have Hsz := Lib.hid (show yc.grownBy (wr.setCell ⟨y0.heap.size, d, none⟩ (.bool (e0 == 0))) (some y0.heap.size) from gtrans Hgr.out ⟨rfl, rfl, rfl, by simp [World.setCell], fun k _ hk => Below.heap_setCell wr ⟨y0.heap.size, d, none⟩ (.bool (e0 == 0)) k (fun e => hk (by rw [e]))⟩)
          clear hq htk hmem hjl he0 hA2 hon hbl hbi hgr
          go_wp2_with fail
          go_roundw
          case rel => exact ⟨j + 1, _, by omega, by go_num, Hs.out, by rw [Htk2.out]; exact Hst.out, Hsz.out⟩
          case measure => simp [intOf]; omega
        · have hfull : (Pt.nbs s z).take j = Pt.nbs s z := List.take_of_length_le (by rw [Hlo.out]; omega)
          have hm2 := hbi
          rw [hfull] at hm2
          have Hm2 := Lib.hid hm2.merge
          have Hbl2 := Lib.hid hbl
          clear hfull hm2 hbi hbl hgr
          go_wp2_with fail
          go_roundw
          case rel => exact ⟨k + 1, _, by omega, by go_num, Hbl2.out, by rw [Htk.out]; exact Hm2.out, Hbc.out.grown Hgr.out (by omega) (fun k e => by injection e; omega)⟩
          case measure => simp [intOf]; omega
    · have hfin : ps.take k = ps := List.take_of_length_le (by rw [HP.out.1]; omega)
      have Hfin : Hid (Bs.BI s n cs 0 ps [] S) := Lib.hid (by have := Hbi.out; rw [hfin] at this; exact this)
      have Hlen := Lib.hid Hfin.out.len
      clear hfin
      go_wp2_with fail
      go_loopw [10, 45] (fun v i wi => ∃ j : Nat, j ≤ n ∧ i = .int .i64 j ∧ Slc wo.heap.size wo v wi (Fl.pts S j)) (fun _ i _ => n - (intOf i).toNat)
      case atStart => exact ⟨0, by omega, rfl, none, 0, 0, rfl, Own.nil _ _, Below.refl _ _⟩
      case round =>
        obtain ⟨j, hj, rfl, A4, n4, c4, rfl, ho4, hb4⟩ := hrel
        have hn4 : n4 ≤ n := by have := ho4.1; have := Fl.pts_len S j; omega
        have Ho4 := Lib.hid ho4
        have Hb4 := Lib.hid hb4
        have hz4 := hb4.size
        clear ho4 hb4
        by_cases hjn : j < n
        · have cs4 := (Hbl.out.below Hb4.out hgl).cell (j := j) (by rw [Hlen.out]; exact hjn)
          have hjs : (j : Int) < n := by omega
          rcases Bool.eq_false_or_eq_true (S.getD j false) with hsx | hsx
          · have Hy := Lib.hid (Fl.pts_yes hsx)
            rw [hsx] at cs4
            clear hsx
            go_wp2_with (at_builtin; refine app1 rfl _ _ rfl _ _ _ _ _ _ _ _ rfl rfl rfl Ho4.out hz4 (by omega) ?_; intro A' c' w' hown' hb' hlt' _)
            go_roundw
            case rel => exact ⟨j + 1, by omega, by go_num, _, _, _, rfl, by rw [Hy.out]; exact hown', Hb4.out.trans (hb'.mono (by omega))⟩
            case measure => simp [intOf]; omega
          · have Hy := Lib.hid (Fl.pts_no hsx)
            rw [hsx] at cs4
            clear hsx
            go_wp2_with fail
            go_roundw
            case rel => exact ⟨j + 1, by omega, by go_num, _, _, _, rfl, by rw [Hy.out]; exact Ho4.out, Hb4.out⟩
            case measure => simp [intOf]; omega
        · obtain rfl : j = n := by omega
          go_wp2_with fail
          go_ret
          exact ⟨_, _, _, S, rfl, Ho4.out.weaken (by omega), Hfin.out, Hb.out.trans ((Hbr.out.trans (Hb4.out.mono (by omega))).mono (by omega))⟩
end Go.Proofs.Ytoflbpihcfdcgaa

namespace Go.Proofs.Ytoflbpihcfdcgaa
open Go.RowKit

theorem bi_one {s x : Int} {n : Nat} {cs L : List Int} {S T : List Bool} (h : Bs.BI s n cs x L [] S) (h' : Bs.BI s n cs x L [] T) : Fl.pts S n = Fl.pts T n := by
  refine pts_ext fun q hq => ?_
  have e1 := h.all (q : Int) (by omega) (by omega)
  have e2 := h'.all (q : Int) (by omega) (by omega)
  unfold Fl.at_ at e1 e2
  rw [Int.toNat_natCast] at e1 e2
  rw [Bool.eq_iff_iff]
  exact e1.trans e2.symm

theorem bi_make (s x : Int) (n : Nat) (cs L : List Int) : ∃ S, Bs.BI s n cs x L [] S := by
  obtain ⟨S, hl, h⟩ := marks_of n fun q => (cs.getD q 0 == x) = true ∧ ∃ z ∈ L, (q : Int) ∈ Pt.nbs s z
  refine ⟨S, hl, fun y h0 hn => ?_⟩
  obtain ⟨q, rfl⟩ := Int.eq_ofNat_of_zero_le h0
  unfold Fl.at_
  rw [Int.toNat_natCast, h q (by omega)]
  simp

theorem bi_none {s x : Int} {n : Nat} {cs : List Int} {S : List Bool} (h : Bs.BI s n cs x [] [] S) : Fl.pts S n = [] := by
  rw [bi_one h (Bs.start s n cs x)]
  unfold Fl.pts
  rw [List.map_eq_nil_iff, List.filter_eq_nil_iff]
  intro q _
  rw [List.getD_eq_getElem?_getD, List.getElem?_replicate]
  split <;> simp

/-- The liberties of a stone, as a list; nothing where there is no stone. -/
def LibIs (s : Int) (n : Nat) (cs : List Int) (p : Int) (l : List Int) : Prop := ∃ g S, GrpIs s n cs p g ∧ Bs.BI s n cs 0 g [] S ∧ l = Fl.pts S n

theorem LibIs.make (s : Int) (n : Nat) (cs : List Int) (p : Int) (hn : cs.length = n) : ∃ l, LibIs s n cs p l := by
  obtain ⟨g, hg⟩ := GrpIs.make s n cs p hn
  obtain ⟨S, hS⟩ := bi_make s 0 n cs g
  exact ⟨_, g, S, hg, hS, rfl⟩

theorem LibIs.few {s : Int} {n : Nat} {cs : List Int} {p : Int} {l : List Int} (h : LibIs s n cs p l) : l.length ≤ n := by
  obtain ⟨_, S, _, _, rfl⟩ := h
  exact Fl.pts_len S n

theorem LibIs.of {s : Int} {n : Nat} {cs : List Int} {p : Int} {l g : List Int} {S : List Bool} (h : LibIs s n cs p l) (hg : GrpIs s n cs p g) (hS : Bs.BI s n cs 0 g [] S) : Fl.pts S n = l := by
  obtain ⟨g', S', hg', hS', rfl⟩ := h
  rw [hg'.one hg] at hS'
  exact bi_one hS hS'

theorem LibIs.nil {s : Int} {n : Nat} {cs : List Int} {p : Int} {l : List Int} (h : LibIs s n cs p l) (hh : hst s cs p = false) : l = [] := by
  obtain ⟨g', S', hg', hS', rfl⟩ := h
  rw [hg'.2 hh] at hS'
  exact bi_none hS'

theorem LibIs.one {s : Int} {n : Nat} {cs : List Int} {p : Int} {l l' : List Int} (h : LibIs s n cs p l) (h' : LibIs s n cs p l') : l = l' := by
  obtain ⟨g', S', hg', hS', rfl⟩ := h
  exact h'.of hg' hS'

set_option maxRecDepth 100000 in
set_option maxHeartbeats 4000000 in
theorem s_LibertiesOf (s p : Int) (w : World) (B : Nat) (A : Option Addr) (n c : Nat) (cs : List Int) (h : Ints w B A n cs) (hB : B ≤ w.heap.size) (hn : n ≤ 1000000000) (l : List Int) (Hl : Hid (LibIs s n cs p l)) :
    Calls Try.prog 37 #[.agg #[.int .i64 s, .slice A n c], .int .i64 p] w fun e w' => ∃ A' m' c', e = .returned (.slice A' m' c') ∧ Own w' w.heap.size A' m' c' l ∧ Below w.heap.size w w' := by
  have hb1 : Below w.heap.size w (w.alloc (.cells #[.int .i64 s, .slice A n c] 25)) := (Below.refl _ _).alloc (Nat.le_refl _) _
  have hl := h.1
  have X0 := Lib.hid (Bx.new 25 w s (.slice A n c))
  have H := Lib.hid (h.below hb1 hB)
  have Hb := Lib.hid hb1
  clear h hb1
  by_cases hv : Bd.okB s cs = true
  · obtain ⟨q1, q2, q3, _⟩ := (Bd.okB_iff s cs).1 hv
    have q4 := Pt.sq_bd s q1 q2
    have hn49 : n ≤ 49 := by omega
    by_cases hp : Pt.okP s p = true
    · obtain ⟨_, _, p1, p2⟩ := (Pt.okP_iff s p).1 hp
      have hpp : (decide (0 ≤ p) && decide (p < s * s)) = true := by simp [p1, p2]
      obtain ⟨q, rfl⟩ := Int.eq_ofNat_of_zero_le p1
      have hqn : q < n := by omega
      by_cases hz : cs.getD q 0 = 0
      · have hh : hst s cs (q : Int) = false := by unfold hst; rw [hv, hp, Int.toNat_natCast, hz]; rfl
        have Hh := Lib.hid hh
        clear hh
        go_enter Try.func37, Try.ntmps37
        go_wp2_with fail
        refine (s_validBoard _ _ _ _ _ _ _ H.out (by simp; omega) (by omega)).mono ?_
        rintro e y2 ⟨rfl, hb⟩
        rw [hv]
        have X2 := Lib.hid (X0.out.below hb X0.out.lt)
        have H2 := Lib.hid (H.out.below hb (by simp; omega))
        have Hb2 := Lib.hid (Hb.out.trans (hb.mono (by simp)))
        have zy2 := hb.size
        clear hb X0 H Hb
        have u00 := X2.out.cell0
        have u01 := X2.out.cell1
        have u02 := X2.out.lt
        clear hv
        go_wp2_with fail
        refine (s_vpoint _ _ _ q1 q2).mono ?_
        rintro e w' ⟨rfl, rfl⟩
        rw [hpp]
        clear hp hpp
        obtain ⟨b, o, rfl, hbB, hc⟩ : ∃ b o, A = some ⟨b, o, none⟩ ∧ b < B ∧ ∀ j, j < n → y2.cell? ⟨b, o + j, none⟩ = some (.int .i64 (cs.getD j 0)) := by
          rcases H2.out.2 with h0 | ⟨b, o, hA, hbB, hc⟩
          · omega
          · exact ⟨b, o, hA, hbB, hc⟩
        have ck := hc q hqn
        rw [hz] at ck
        clear hc hz
        go_wp2_with fail
        go_ret
        exact ⟨_, _, _, rfl, by rw [Hl.out.nil Hh.out]; exact Own.nil _ _, Hb2.out⟩
      · have hh : hst s cs (q : Int) = true := by unfold hst; rw [hv, hp, Int.toNat_natCast]; simpa using hz
        have Hh := Lib.hid hh
        clear hh
        go_enter Try.func37, Try.ntmps37
        go_wp2_with fail
        refine (s_validBoard _ _ _ _ _ _ _ H.out (by simp; omega) (by omega)).mono ?_
        rintro e y2 ⟨rfl, hb⟩
        rw [hv]
        have X2 := Lib.hid (X0.out.below hb X0.out.lt)
        have H2 := Lib.hid (H.out.below hb (by simp; omega))
        have Hb2 := Lib.hid (Hb.out.trans (hb.mono (by simp)))
        have zy2 := hb.size
        clear hb X0 H Hb
        have u00 := X2.out.cell0
        have u01 := X2.out.cell1
        have u02 := X2.out.lt
        clear hv
        go_wp2_with fail
        refine (s_vpoint _ _ _ q1 q2).mono ?_
        rintro e w' ⟨rfl, rfl⟩
        rw [hpp]
        clear hp hpp
        obtain ⟨b, o, rfl, hbB, hc⟩ : ∃ b o, A = some ⟨b, o, none⟩ ∧ b < B ∧ ∀ j, j < n → y2.cell? ⟨b, o + j, none⟩ = some (.int .i64 (cs.getD j 0)) := by
          rcases H2.out.2 with h0 | ⟨b, o, hA, hbB, hc⟩
          · omega
          · exact ⟨b, o, hA, hbB, hc⟩
        have ck := hc q hqn
        obtain ⟨x, hx⟩ : ∃ x, cs.getD q 0 = x := ⟨_, rfl⟩
        have Hx := Lib.hid hx
        rw [hx] at ck hz
        have hxb : (x != 0) = true := by simpa using hz
        have hxc : (x == 0) = false := by simpa using hz
        clear hc hx hz
        go_wp2_with fail
        refine (s_liberties s q _ B _ n _ cs H2.out (by omega) q1 q2 (by omega) hqn).mono ?_
        rintro e y3 ⟨A3, m3, c3, l3, S3, rfl, ho, hr, hS, hb⟩
        have hl3 : Fl.pts S3 n = l := Hl.out.of ⟨fun _ => by rw [Int.toNat_natCast]; exact hr, fun e => absurd (Hh.out.symm.trans e) (by decide)⟩ hS
        rw [hl3] at ho
        have Ho := Lib.hid ho
        have Hb3 := Lib.hid (Hb2.out.trans (hb.mono (by omega)))
        clear ho hb hr hl3 hS
        go_wp2_with fail
        go_ret
        exact ⟨_, _, _, rfl, Ho.out.weaken (by omega), Hb3.out⟩
    · have hp' : Pt.okP s p = false := by simpa using hp
      have hh : hst s cs p = false := by unfold hst; rw [hp']; simp
      have Hh := Lib.hid hh
      clear hh hp
      have hp := hp'
      have hpp : (decide (0 ≤ p) && decide (p < s * s)) = false := by
        rcases Bool.eq_false_or_eq_true (decide (0 ≤ p) && decide (p < s * s)) with e | e
        · rw [Bool.and_eq_true, decide_eq_true_eq, decide_eq_true_eq] at e
          rw [(Pt.okP_iff s p).2 ⟨q1, q2, e.1, e.2⟩] at hp'
          cases hp'
        · exact e
      clear hp'
      go_enter Try.func37, Try.ntmps37
      go_wp2_with fail
      refine (s_validBoard _ _ _ _ _ _ _ H.out (by simp; omega) (by omega)).mono ?_
      rintro e y2 ⟨rfl, hb⟩
      rw [hv]
      have X2 := Lib.hid (X0.out.below hb X0.out.lt)
      have H2 := Lib.hid (H.out.below hb (by simp; omega))
      have Hb2 := Lib.hid (Hb.out.trans (hb.mono (by simp)))
      have zy2 := hb.size
      clear hb X0 H Hb
      have u00 := X2.out.cell0
      have u01 := X2.out.cell1
      have u02 := X2.out.lt
      clear hv
      go_wp2_with fail
      refine (s_vpoint _ _ _ q1 q2).mono ?_
      rintro e w' ⟨rfl, rfl⟩
      rw [hpp]
      clear hp hpp
      go_wp2_with fail
      go_ret
      exact ⟨_, _, _, rfl, by rw [Hl.out.nil Hh.out]; exact Own.nil _ _, Hb2.out⟩
  · have hv' : Bd.okB s cs = false := by simpa using hv
    have hh : hst s cs p = false := by unfold hst; rw [hv']; rfl
    have Hh := Lib.hid hh
    clear hh hv
    have hv := hv'
    clear hv'
    go_enter Try.func37, Try.ntmps37
    go_wp2_with fail
    refine (s_validBoard _ _ _ _ _ _ _ H.out (by simp; omega) (by omega)).mono ?_
    rintro e y2 ⟨rfl, hb⟩
    rw [hv]
    have X2 := Lib.hid (X0.out.below hb X0.out.lt)
    have H2 := Lib.hid (H.out.below hb (by simp; omega))
    have Hb2 := Lib.hid (Hb.out.trans (hb.mono (by simp)))
    have zy2 := hb.size
    clear hb X0 H Hb
    have u00 := X2.out.cell0
    have u01 := X2.out.cell1
    have u02 := X2.out.lt
    clear hv
    go_wp2_with fail
    go_ret
    exact ⟨_, _, _, rfl, by rw [Hl.out.nil Hh.out]; exact Own.nil _ _, Hb2.out⟩

theorem GrpIs.fit {s : Int} {n m : Nat} {cs g : List Int} {p : Int} (h : GrpIs s n cs p g) (hl : cs.length = n) (hm : g.length = m) (hn : n ≤ 1000000000) :
    (m = 0 ∨ (1 ≤ s ∧ s ≤ 7 ∧ (n : Int) = s * s)) ∧ (∀ j, j < m → 0 ≤ g.getD j 0 ∧ g.getD j 0 < n) ∧ m ≤ 1000 := by
  rcases Bool.eq_false_or_eq_true (hst s cs p) with e | e
  · obtain ⟨a, _, _⟩ := hst_iff e
    obtain ⟨q1, q2, q3, _⟩ := (Bd.okB_iff s cs).1 a
    have q4 := Pt.sq_bd s q1 q2
    have hf := (h.1 e).few
    exact ⟨.inr ⟨q1, q2, by omega⟩, fun j hj => (h.1 e).small j (by omega), by omega⟩
  · have := h.2 e
    subst this
    have : m = 0 := by simpa using hm.symm
    subst this
    exact ⟨.inl rfl, fun j hj => absurd hj (by omega), by omega⟩

set_option maxRecDepth 100000 in
set_option maxHeartbeats 4000000 in
theorem i_LibertiesOf (s p : Int) (w : World) (B : Nat) (A : Option Addr) (n c : Nat) (cs : List Int) (h : Ints w B A n cs) (hB : B ≤ w.heap.size) (hn : n ≤ 1048576) (l : List Int) (Hl : Hid (LibIs s n cs p l)) :
    Calls Try.prog 38 #[.agg #[.int .i64 s, .slice A n c], .int .i64 p] w fun e w' => ∃ A' m' c', e = .returned (.slice A' m' c') ∧ Own w' w.heap.size A' m' c' l ∧ Below w.heap.size w w' := by
  have hb1 : Below w.heap.size w (w.alloc (.cells #[.int .i64 s, .slice A n c] 25)) := (Below.refl _ _).alloc (Nat.le_refl _) _
  have hl := h.1
  obtain ⟨g, hg⟩ := GrpIs.make s n cs p hl
  have hf := hg.few
  have Hg := Lib.hid hg
  have X0 := Lib.hid (Bx.new 25 w s (.slice A n c))
  have H := Lib.hid (h.below hb1 hB)
  have Hb := Lib.hid hb1
  have HL := Lib.hid hl
  clear h hb1 hg hl
  go_enter Try.func38, Try.ntmps38
  go_upto_region 1 with (fail)
  obtain ⟨y0, hy⟩ : ∃ y, y = w.alloc (.cells #[.int .i64 s, .slice A n c] 25) := ⟨_, rfl⟩
  have hyz : w.heap.size < y0.heap.size := by rw [hy]; simp
  rw [← hy] at X0 H Hb ⊢
  clear hy
  have u0 := X0.out.cell0
  have u1 := X0.out.cell1
  have ul := X0.out.lt
  go_cut [4] (fun v wx => ∃ A' m' c', v = .slice A' m' c' ∧ Own wx w.heap.size A' m' c' l ∧ Below w.heap.size w wx)
  case first =>
    go_region_with (first | (go_at_call 33; refine (i_GroupOf s p _ B _ n _ cs (by exact H.out) ?_ (by omega) g Hg).mono ?_; (show B ≤ y0.heap.size; omega); rintro e ya ⟨Aa, ma, ca, rfl, hoa, hba⟩; have hbw : Below y0.heap.size y0 ya := ⟨hba.os, hba.tape, hba.output, hba.size, hba.block⟩; have za := hbw.size; have u2 := (X0.out.below hbw ul).cell0; have u3 := (X0.out.below hbw ul).cell1; have Hoa : Hid (Own ya y0.heap.size Aa ma ca g) := Lib.hid hoa; have Hba := Lib.hid hbw; clear hoa hba hbw) | (go_at_call 83; refine (i_emptyNextTo s _ B _ _ _ n _ ma ca cs g (by exact H.out.below Hba.out (by omega)) (by exact Hoa.out.ints) ?_ ?_ (Hg.out.fit HL.out Hoa.out.1 (by omega)).1 (Hg.out.fit HL.out Hoa.out.1 (by omega)).2.1 (Hg.out.fit HL.out Hoa.out.1 (by omega)).2.2 hn).mono ?_; (show B ≤ ya.heap.size; omega); (show ya.heap.size ≤ ya.heap.size; omega); rintro e yb ⟨Ab, mb, cb, S, rfl, hob, hS, hbb⟩; rw [Hl.out.of Hg.out hS] at hob; have Hob : Hid (Own yb y0.heap.size Ab mb cb l) := Lib.hid (Own.weaken hob za); have Hbb : Hid (Below y0.heap.size y0 yb) := Lib.hid (Hba.out.trans ((show Below ya.heap.size ya yb from ⟨hbb.os, hbb.tape, hbb.output, hbb.size, hbb.block⟩).mono za)); clear hob hS hbb))
    all_goals go_wp2_with fail
    all_goals go_meet
    all_goals exact ⟨_, _, _, rfl, Hob.out.weaken (by omega), Hb.out.trans (Hbb.out.mono (by omega))⟩
  case rest =>
    obtain ⟨A9, m9, c9, rfl, ho, hb⟩ := hcut
    have Ho := Lib.hid ho
    have Hb9 := Lib.hid hb
    clear ho hb
    go_wp2_with fail
    go_ret
    exact ⟨_, _, _, rfl, Ho.out, Hb9.out⟩
end Go.Proofs.Ytoflbpihcfdcgaa

namespace Go.Proofs.Ytoflbpihcfdcgaa
open Go.RowKit

theorem undrew {a b : World} (h : Below a.drew.heap.size a.drew b) : Below a.heap.size a b := ⟨h.os, h.tape, h.output, h.size, h.block⟩
theorem Ints.step {w w' : World} {n : Nat} {A : Option Addr} {xs : List Int} (h : Ints w w.heap.size A n xs) (hb : Below w.heap.size w w') : Ints w' w'.heap.size A n xs := (h.below hb (Nat.le_refl _)).more hb.size
theorem Bx.step {t : TypeId} {w w' : World} {g : Nat} {s : Int} {v : Value} (h : Bx t w g s v) (hb : Below w.heap.size w w') : Bx t w' g s v := h.below hb h.lt
theorem bstep {a w w' : World} (h : Below a.heap.size a w) (hb : Below w.heap.size w w') : Below a.heap.size a w' := h.trans (hb.mono h.size)

theorem l_eqB (s : Int) (w : World) (A A' : Option Addr) (n c c' : Nat) (xs : List Int) (h : Ints w w.heap.size A n xs) (h' : Ints w w.heap.size A' n xs) (hn : n ≤ 1000000) :
    Calls Try.prog 17 #[.agg #[.int .i64 s, .slice A n c], .agg #[.int .i64 s, .slice A' n c']] w fun e w' => e = .returned (.bool true) ∧ Below w.heap.size w w' := by
  have hb2 : Below w.heap.size w ((w.alloc (.cells #[.int .i64 s, .slice A n c] 25)).alloc (.cells #[.int .i64 s, .slice A' n c'] 25)) := ((Below.refl _ _).alloc (Nat.le_refl _) _).alloc (by simp) _
  have H := Lib.hid (h.below hb2 (Nat.le_refl _))
  have H' := Lib.hid (h'.below hb2 (Nat.le_refl _))
  have Hb := Lib.hid hb2
  clear h h' hb2
  go_enter Try.func17, Try.ntmps17
  go_wp2_with fail
  refine (eqi_t _ _ _ _ _ n _ _ xs H.out H'.out (by omega)).mono ?_
  rintro e w' ⟨k, rfl, rfl⟩
  go_wp2_with fail
  go_ret
  exact ⟨rfl, drew_below Hb.out k⟩

theorem IsRow.below {k : IntKind} {w w' : World} {a : Option Addr} {len cap : Nat} {zs : List Int} (h : IsRow k w a len cap zs) (hb : Below w.heap.size w w') : IsRow k w' a len cap zs := by
  rcases h with h | ⟨x, hx, h1, h2, h3, h4, h5⟩
  · exact .inl h
  · refine .inr ⟨x, hx, h1, h2, h3, fun i hi => ?_, h5⟩
    have := h4 i hi
    exact (World.cell?_of_block (w := w) (a := x.add i) (hb.block _ (World.block_lt_of_cell? w _ this))).trans this

/-- What a law's draw of a board gives. -/
def DrawnL (w : World) (e : Ending) (w' : World) : Prop :=
  ∃ (s : Int) (A : Option Addr) (n c : Nat) (cs : List Int), e = .returned (.agg #[.int .i64 s, .slice A n c]) ∧ Ints w' w'.heap.size A n cs ∧ n ≤ 49 ∧ 0 ≤ s ∧ s ≤ 8 ∧ Below w.heap.size w w'
/-- The same with an int. -/
def DrawnLI (P : Int → Prop) (w : World) (e : Ending) (w' : World) : Prop :=
  ∃ (s : Int) (A : Option Addr) (n c : Nat) (cs : List Int) (x : Int), e = .returned (.tuple #[.agg #[.int .i64 s, .slice A n c], .int .i64 x]) ∧ Ints w' w'.heap.size A n cs ∧ n ≤ 49 ∧ 0 ≤ s ∧ s ≤ 8 ∧ P x ∧ Below w.heap.size w w'

end Go.Proofs.Ytoflbpihcfdcgaa

namespace Go.Proofs.Ytoflbpihcfdcgaa
open Go.RowKit

section
variable (s : Int) (w : World) (A : Option Addr) (n c : Nat) (cs : List Int)
variable (k : Int)
theorem i_trV (h : Ints w w.heap.size A n cs) (hn : n ≤ 49) (hv : Bd.okB s cs = true) (hk : Pt.okK k = true) : Calls Try.prog 16 #[.agg #[.int .i64 s, .slice A n c], .int .i64 k] w fun e w' => Made s (Bd.mv s k cs) w e w' := by
  have := i_trB s k w w.heap.size A n c cs h (Nat.le_refl _) (by omega)
  rwa [trS, trCs, show trOk s cs k = true by rw [trOk, hv, hk]; rfl, if_pos rfl, if_pos rfl] at this
theorem s_trV (h : Ints w w.heap.size A n cs) (hn : n ≤ 49) (hv : Bd.okB s cs = true) (hk : Pt.okK k = true) : Calls Try.prog 18 #[.agg #[.int .i64 s, .slice A n c], .int .i64 k] w fun e w' => Made s (Bd.mv s k cs) w e w' := by
  have := s_trB s k w w.heap.size A n c cs h (Nat.le_refl _) (by omega)
  rwa [trS, trCs, show trOk s cs k = true by rw [trOk, hv, hk]; rfl, if_pos rfl, if_pos rfl] at this
theorem i_trN (h : Ints w w.heap.size A n cs) (hn : n ≤ 49) (hv : trOk s cs k = false) : Calls Try.prog 16 #[.agg #[.int .i64 s, .slice A n c], .int .i64 k] w fun e w' => Made 0 [] w e w' := by
  have := i_trB s k w w.heap.size A n c cs h (Nat.le_refl _) (by omega)
  rwa [trS, trCs, hv, if_neg (by decide), if_neg (by decide)] at this
theorem s_trN (h : Ints w w.heap.size A n cs) (hn : n ≤ 49) (hv : trOk s cs k = false) : Calls Try.prog 18 #[.agg #[.int .i64 s, .slice A n c], .int .i64 k] w fun e w' => Made 0 [] w e w' := by
  have := s_trB s k w w.heap.size A n c cs h (Nat.le_refl _) (by omega)
  rwa [trS, trCs, hv, if_neg (by decide), if_neg (by decide)] at this
end

theorem len_of {cs : List Int} {n m : Nat} (h : (othCs cs).length = m) (h0 : cs.length = n) : n = m := by rw [othCs_len] at h; omega
theorem len_mv {s k : Int} {cs : List Int} {n m : Nat} (h : (Bd.mv s k cs).length = m) (h0 : cs.length = n) : n = m := by rw [Bd.mv_len] at h; omega
theorem oth_oth {x : Int} (h0 : 0 ≤ x) (h2 : x ≤ 2) : oth (oth x) = x := by
  have h3 : x = 0 ∨ x = 1 ∨ x = 2 := by omega
  rcases h3 with rfl | rfl | rfl <;> decide
theorem othCs_twice {cs : List Int} (h : OkL cs) : othCs (othCs cs) = cs := by
  rw [okL_mem] at h
  unfold othCs
  rw [List.map_map]
  conv => rhs; rw [← List.map_id cs]
  exact List.map_congr_left fun x hx => oth_oth (h x hx).1 (h x hx).2
theorem othCs_set (l : List Int) (p : Nat) (x : Int) : othCs (l.set p x) = (othCs l).set p (oth x) := by
  unfold othCs; rw [List.map_set]
theorem othCs_getD (cs : List Int) (j : Nat) : oth (cs.getD j 0) = (othCs cs).getD j 0 := by
  unfold othCs
  rw [List.getD_eq_getElem?_getD, List.getD_eq_getElem?_getD, List.getElem?_map]
  cases cs[j]? <;> rfl
theorem steps_oth (f : Nat → Nat) (cs : List Int) (j : Nat) (l : List Int) : othCs (Bd.steps f cs j l) = Bd.steps f (othCs cs) j (othCs l) := by
  induction j with
  | zero => rfl
  | succ j ih => rw [Bd.steps, Bd.steps, othCs_set, ih, othCs_getD]
theorem mv_oth (s k : Int) (cs : List Int) : Bd.mv s k (othCs cs) = othCs (Bd.mv s k cs) := by
  unfold Bd.mv
  rw [steps_oth, othCs_len]
end Go.Proofs.Ytoflbpihcfdcgaa

namespace Go.Proofs.Ytoflbpihcfdcgaa
open Go.RowKit

theorem r_anyColor (B g q : Nat) (w : World) (h : Rdr w B g q) (hq : q ≤ 1000000000000) :
    Calls Try.prog 69 #[.pointer (some ⟨g, 0, none⟩)] w fun e w' => Got (fun x => -1 ≤ x ∧ x ≤ 3) w B g (q + 1) e w' := by
  have hlt := h.lt
  go_enter Try.func69, Try.ntmps69
  go_wp2_with fail
  have hl := Ints.lit w 3 [1, 2, 1, 2, 1, 2, 1, 2, 1, 2, 0, 3, -1]
  refine (r_one B g q _ _ [1, 2, 1, 2, 1, 2, 1, 2, 1, 2, 0, 3, -1] _ _ (h.below ((Below.refl _ _).alloc (Nat.le_refl _) _) hlt) hq hl (by simp) (by simp) (by simp) (by rintro b o e; injection e with e; injection e; omega)).mono ?_
  rintro e w1 ⟨x, rfl, hx, hr, hw⟩
  have Hr := Lib.hid hr
  have Hw := Lib.hid (gtrans (World.grownBy_alloc w _ (some g)) hw)
  have Hx := Lib.hid hx
  clear hr hw hl hx
  go_wp2_with fail
  go_ret
  refine ⟨_, rfl, ?_, Hr.out, Hw.out⟩
  have := Hx.out
  simp at this
  omega

set_option maxRecDepth 100000 in
set_option maxHeartbeats 2000000 in
theorem d_trb (w : World) (a : Option Addr) (len cap : Nat) (zs : List Int) (h : IsRow .u8 w a len cap zs) :
    Calls Try.prog 15 #[.slice a len cap] w fun e w' => DrawnLI (fun x => -1 ≤ x ∧ x ≤ 8) w e w' := by
  have hb1 : Below w.heap.size w (w.alloc (.cells #[.int .i64 0, .slice none 0 0] 25)) := (Below.refl _ _).alloc (Nat.le_refl _) _
  have X2 := Lib.hid (Bx.new 25 w 0 (.slice none 0 0))
  have Hb := Lib.hid hb1
  have hsz : (w.alloc (.cells #[.int .i64 0, .slice none 0 0] 25)).heap.size = w.heap.size + 1 := by simp
  have Hsz := Lib.hid hsz
  have H := Lib.hid (h.below hb1)
  clear h hb1 hsz
  go_enter Try.func15, Try.ntmps15
  go_wp2_with fail
  refine (r_new _ _ _ _ zs H.out).mono ?_
  rintro e y ⟨g, rfl, hr, hb⟩
  have Hg := Lib.hid hr.1
  rw [Hsz.out] at Hg
  have hg1 := Hg.out
  have X2 := Lib.hid (X2.out.below hb X2.out.lt)
  have Hb := Lib.hid (Hb.out.trans (hb.mono (by rw [Hsz.out]; omega)))
  have zy := X2.out.lt
  obtain ⟨Bq, Hr⟩ : ∃ Bq, Hid (Rdr y Bq g 0) := ⟨_, Lib.hid hr⟩
  clear hr hb
  go_wp2_with fail
  have hgy := Hr.out.lt
  refine (r_any Bq g 0 _ Hr.out (by omega)).mono ?_
  rintro e y2 ⟨s, A, n, c, cs, q', rfl, hi, hn, s0, s8, hr, hq, hg⟩
  have X2 := Lib.hid (X2.out.grown hg (fun e => by have := Option.some.inj e; omega))
  have Hb := Lib.hid (Hb.out.trans (below_g hg (by omega) (fun k hk => by have := Option.some.inj hk; omega)))
  have Hi := Lib.hid hi
  have Hr := Lib.hid hr
  have hgl := hr.lt
  have zz := hg.size
  clear hi hr hg
  go_upto_region 3 with (fail)
  obtain ⟨y3, hy3, hb3, z3, z4⟩ := new_box y2 (.cells #[.int .i64 s, .slice A n c] 25)
  have X5 : Hid (Bx 25 y3 y2.heap.size s (.slice A n c)) := Lib.hid (by rw [hy3]; exact Bx.new _ _ _ _)
  rw [← hy3]
  clear hy3
  have X2 := Lib.hid (X2.out.below hb3 X2.out.lt)
  have Hr := Lib.hid (Hr.out.below hb3 Hr.out.lt)
  have Hi := Lib.hid (Hi.out.below hb3)
  have Hb := Lib.hid (Hb.out.trans (hb3.mono (by omega)))
  clear hb3
  have t0 := X5.out.cell0
  have t1 := X5.out.cell1
  have t2 := X5.out.lt
  go_region_with (first | (go_at_call 55; refine (r_one Bq g q' _ _ [0, 1, 2, 3, 4, 5, 6, 7, 8, -1] (y3.heap.size + 1) _ (by exact (show Rdr (y3.alloc (.cells #[.int .i64 0, .int .i64 1, .int .i64 2, .int .i64 3, .int .i64 4, .int .i64 5, .int .i64 6, .int .i64 7, .int .i64 8, .int .i64 (-1)] 3)) Bq g q' from Hr.out.below ((Below.refl _ _).alloc (Nat.le_refl _) _) Hr.out.lt)) (by omega) (by exact Ints.lit y3 3 [0, 1, 2, 3, 4, 5, 6, 7, 8, -1]) (by show y3.heap.size + 1 ≤ (y3.alloc (.cells #[.int .i64 0, .int .i64 1, .int .i64 2, .int .i64 3, .int .i64 4, .int .i64 5, .int .i64 6, .int .i64 7, .int .i64 8, .int .i64 (-1)] 3)).heap.size; simp) (by simp) (by simp) (by rintro b o e; injection e with e; injection e; omega)).mono ?_; rintro e y5 ⟨x, rfl, hx, hr, hg⟩; have hg5 : y3.grownBy y5 (some g) := gtrans (World.grownBy_alloc y3 (.cells #[.int .i64 0, .int .i64 1, .int .i64 2, .int .i64 3, .int .i64 4, .int .i64 5, .int .i64 6, .int .i64 7, .int .i64 8, .int .i64 (-1)] 3) (some g)) ⟨hg.os, hg.tape, hg.output, hg.size, hg.block⟩; have hx8 : -1 ≤ x ∧ x ≤ 8 := (by simp at hx; omega); have HX2 := Lib.hid (X2.out.grown hg5 (fun e => by have := Option.some.inj e; omega)); have HX5 := Lib.hid (X5.out.grown hg5 (fun e => by have := Option.some.inj e; omega)); have HI := Lib.hid (Hi.out.grown hg5 (by omega)); have HB := Lib.hid (Hb.out.trans (below_g hg5 (by omega) (fun k hk => by have := Option.some.inj hk; omega))); have u0 := HX5.out.cell0; have u1 := HX5.out.cell1; have u2 := HX5.out.lt; have r0 := HX2.out.cell0; have r1 := HX2.out.cell1; have r2 := HX2.out.frozen 0; have r3 := HX2.out.frozen 1; have r4 := HX2.out.lt; clear hr hg hg5))
  all_goals go_wp2_with fail
  all_goals
    have k0 := (HX2.out.set0 s).cell0
    have k1 := ((HX2.out.set0 s).set1 (.slice A n c)).cell1
    refine bodyPost_ret (v := .tuple #[.agg #[.int .i64 s, .slice A n c], .int .i64 x]) (by simp [results, Try.results15, go_sem, k0, k1]) rfl ?_
    have hi3 := ((HI.out.far ⟨w.heap.size, 0, none⟩ (by show w.heap.size < y.heap.size; omega) (.int .i64 s)).far ⟨w.heap.size, 1, none⟩ (by show w.heap.size < y.heap.size; omega) (.slice A n c)).ints
    have hb3 := (HB.out.setCell (p := ⟨w.heap.size, 0, none⟩) (Nat.le_refl _) (.int .i64 s)).setCell (p := ⟨w.heap.size, 1, none⟩) (Nat.le_refl _) (.slice A n c)
    exact ⟨_, _, _, _, _, _, rfl, hi3, hn, s0, s8, hx8, hb3⟩

end Go.Proofs.Ytoflbpihcfdcgaa

namespace Go.Proofs.Ytoflbpihcfdcgaa

theorem perm_of_sub {l r : List Nat} (hn : l.Nodup) (hs : ∀ x ∈ l, x ∈ r) (hl : r.length ≤ l.length) : List.Perm l r := by
  induction l generalizing r with
  | nil =>
    have e : r = [] := List.eq_nil_of_length_eq_zero (by simpa using hl)
    subst e
    exact .refl _
  | cons x l ih =>
    have hx : x ∈ r := hs x (by simp)
    obtain ⟨hxl, hnl⟩ := List.nodup_cons.1 hn
    refine List.Perm.trans ?_ (List.perm_cons_erase hx).symm
    refine List.Perm.cons x (ih hnl (fun y hy => ?_) ?_)
    · have hne : y ≠ x := fun e => hxl (e ▸ hy)
      exact (List.mem_erase_of_ne hne).2 (hs y (by simp [hy]))
    · rw [List.length_erase_of_mem hx]
      simp at hl
      omega

theorem nodup_map {f : Nat → Nat} {l : List Nat} (hn : l.Nodup) (hf : ∀ a ∈ l, ∀ b ∈ l, f a = f b → a = b) : (l.map f).Nodup := by
  induction l with
  | nil => simp
  | cons x l ih =>
    obtain ⟨hx, hl⟩ := List.nodup_cons.1 hn
    rw [List.map_cons, List.nodup_cons]
    refine ⟨fun hm => ?_, ih hl fun a ha b hb => hf a (by simp [ha]) b (by simp [hb])⟩
    obtain ⟨y, hy, he⟩ := List.mem_map.1 hm
    have := hf y (by simp [hy]) x (by simp) he
    exact hx (this ▸ hy)

theorem list_as_map (cs : List Int) : cs = (List.range cs.length).map fun p => cs.getD p 0 := by
  apply List.ext_getElem
  · simp
  · intro i h1 h2
    simp [List.getD_eq_getElem?_getD, List.getElem?_eq_getElem h1]

theorem mv_perm {s k : Int} {cs : List Int} (h1 : 1 ≤ s) (h2 : s ≤ 7) (hn : (cs.length : Int) = s * s) (k1 : 0 ≤ k) (k2 : k < 8) : List.Perm (Bd.mv s k cs) cs := by
  have hp : List.Perm ((List.range cs.length).map (Bd.imgN s k)) (List.range cs.length) := by
    refine perm_of_sub (nodup_map List.nodup_range fun a ha b hb he => ?_) (fun x hx => ?_) (by simp)
    · exact Bd.imgN_inj s k cs.length h1 h2 hn k1 k2 a b (List.mem_range.1 ha) (List.mem_range.1 hb) he
    · obtain ⟨p, hp, rfl⟩ := List.mem_map.1 hx
      exact List.mem_range.2 (Bd.imgN_lt s k cs.length p h1 h2 hn (List.mem_range.1 hp)).1
  have e1 := list_as_map (Bd.mv s k cs)
  rw [Bd.mv_len] at e1
  rw [e1]
  refine ((hp.map fun q => (Bd.mv s k cs).getD q 0).symm).trans ?_
  rw [List.map_map]
  conv => rhs; rw [list_as_map cs]
  have : (List.range cs.length).map ((fun q => (Bd.mv s k cs).getD q 0) ∘ Bd.imgN s k) = (List.range cs.length).map fun p => cs.getD p 0 := by
    apply List.map_congr_left
    intro p hp
    have hp' := List.mem_range.1 hp
    have := Bd.steps_at (f := Bd.imgN s k) (cs := cs) (l := cs) (j := cs.length) (fun a b ha hb he => Bd.imgN_inj s k cs.length h1 h2 hn k1 k2 a b ha hb he) (fun a ha => (Bd.imgN_lt s k cs.length a h1 h2 hn ha).1) hp'
    show (Bd.mv s k cs).getD (Bd.imgN s k p) 0 = _
    unfold Bd.mv
    rw [List.getD_eq_getElem?_getD, this]
    rfl
  rw [this]

theorem cnt_perm {a b : List Int} (h : List.Perm a b) (x : Int) : cnt x a = cnt x b := by
  unfold cnt
  rw [(h.filter _).length_eq]
theorem cnt_mv {s k : Int} {cs : List Int} (hv : Bd.okB s cs = true) (hk : Pt.okK k = true) (x : Int) : cnt x (Bd.mv s k cs) = cnt x cs := by
  obtain ⟨a, b, c, _⟩ := (Bd.okB_iff s cs).1 hv
  obtain ⟨k1, k2⟩ := (Pt.okK_iff k).1 hk
  exact cnt_perm (mv_perm a b c k1 k2) x
theorem cnt_oth {cs : List Int} (h : OkL cs) {x : Int} (x1 : 1 ≤ x) (x2 : x ≤ 2) : cnt (3 - x) (othCs cs) = cnt x cs := by
  rw [okL_mem] at h
  unfold cnt othCs
  rw [List.filter_map, List.length_map]
  congr 2
  apply List.filter_congr
  intro c hc
  have h3 : c = 0 ∨ c = 1 ∨ c = 2 := by have := h c hc; omega
  have h4 : x = 1 ∨ x = 2 := by omega
  rcases h3 with rfl | rfl | rfl <;> rcases h4 with rfl | rfl <;> rfl
theorem cnt_nonneg (x : Int) (cs : List Int) : 0 ≤ cnt x cs := by unfold cnt; omega
end Go.Proofs.Ytoflbpihcfdcgaa

namespace Go.Proofs.Ytoflbpihcfdcgaa
open Go.RowKit

theorem cntB_mv {s k x N : Int} {cs : List Int} (hv : Bd.okB s cs = true) (hk : Pt.okK k = true) (hN : cntB s cs x = N) : cntB s (Bd.mv s k cs) x = N := by
  rw [← hN, cntB, cntB, if_pos hv, if_pos (okB_mv hv), cnt_mv hv hk]
theorem cntB_oth {s x N : Int} {cs : List Int} (hv : Bd.okB s cs = true) (x1 : 1 ≤ x) (x2 : x ≤ 2) (hN : cntB s cs x = N) : cntB s (othCs cs) (3 - x) = N := by
  rw [← hN, cntB, cntB, if_pos hv, if_pos (okB_oth hv), cnt_oth (okL_mem.2 ((Bd.okB_iff s cs).1 hv).2.2.2) x1 x2]
theorem cntB_ok {s x N : Int} {cs : List Int} (hN : cntB s cs x = N) (h0 : 0 ≤ N) : Bd.okB s cs = true := by
  rcases Bool.eq_false_or_eq_true (Bd.okB s cs) with h | h
  · exact h
  · rw [cntB, h] at hN
    have : (-1 : Int) = N := hN
    omega

theorem mv_at {s k : Int} {cs : List Int} (h1 : 1 ≤ s) (h2 : s ≤ 7) (hn : (cs.length : Int) = s * s) (k1 : 0 ≤ k) (k2 : k < 8) {p : Nat} (hp : p < cs.length) : (Bd.mv s k cs)[Bd.imgN s k p]? = some (cs.getD p 0) :=
  Bd.steps_at (f := Bd.imgN s k) (cs := cs) (l := cs) (j := cs.length) (fun a b ha hb he => Bd.imgN_inj s k cs.length h1 h2 hn k1 k2 a b ha hb he) (fun a ha => (Bd.imgN_lt s k cs.length a h1 h2 hn ha).1) hp
theorem imgN_comp {s a b : Int} {n p : Nat} (h1 : 1 ≤ s) (h2 : s ≤ 7) (hn : (n : Int) = s * s) (a1 : 0 ≤ a) (a2 : a < 8) (b1 : 0 ≤ b) (b2 : b < 8) (hp : p < n) : Bd.imgN s (Pt.comp a b) p = Bd.imgN s b (Bd.imgN s a p) := by
  obtain ⟨c1, c2⟩ := Pt.comp_bd a b a1 a2 b1 b2
  obtain ⟨l1, e1⟩ := Bd.imgN_lt s a n p h1 h2 hn hp
  have hc := Pt.comp_tr a b s p a1 a2 b1 b2 h1 h2 (by omega) (by omega)
  rw [Pt.tr_in s a p h1 h2 (by omega) (by omega) a1 a2, ← e1, Pt.tr_in s b _ h1 h2 (by omega) (by omega) b1 b2, Pt.tr_in s (Pt.comp a b) p h1 h2 (by omega) (by omega) c1 c2] at hc
  unfold Bd.imgN at hc ⊢
  rw [hc]
theorem mv_mv {s a b : Int} {cs : List Int} (h1 : 1 ≤ s) (h2 : s ≤ 7) (hn : (cs.length : Int) = s * s) (a1 : 0 ≤ a) (a2 : a < 8) (b1 : 0 ≤ b) (b2 : b < 8) : Bd.mv s b (Bd.mv s a cs) = Bd.mv s (Pt.comp a b) cs := by
  obtain ⟨c1, c2⟩ := Pt.comp_bd a b a1 a2 b1 b2
  have hl : (Bd.mv s a cs).length = cs.length := Bd.mv_len _ _ _
  apply List.ext_getElem?
  intro q
  by_cases hq : q < cs.length
  · obtain ⟨p, hp, rfl⟩ := Bd.imgN_sur s (Pt.comp a b) cs.length h1 h2 hn c1 c2 q hq
    obtain ⟨l1, _⟩ := Bd.imgN_lt s a cs.length p h1 h2 hn hp
    rw [mv_at h1 h2 hn c1 c2 hp, imgN_comp h1 h2 hn a1 a2 b1 b2 hp, mv_at h1 h2 (by rw [hl]; exact hn) b1 b2 (by rw [hl]; exact l1), List.getD_eq_getElem?_getD, mv_at h1 h2 hn a1 a2 hp]
    rfl
  · rw [List.getElem?_eq_none (by rw [Bd.mv_len, hl]; omega), List.getElem?_eq_none (by rw [Bd.mv_len]; omega)]

theorem Ints.dr {w : World} {n : Nat} {A : Option Addr} {xs : List Int} (h : Ints w w.heap.size A n xs) : Ints w.drew w.drew.heap.size A n xs := h
/-- An image whose size and cells have names. -/
theorem i_trW (s k : Int) (w : World) (A : Option Addr) (n c : Nat) (cs ds : List Int) (h : Ints w w.heap.size A n cs) (hn : n ≤ 49) (hv : Bd.okB s cs = true) (hk : Pt.okK k = true) (hd : Bd.mv s k cs = ds) :
    Calls Try.prog 16 #[.agg #[.int .i64 s, .slice A n c], .int .i64 k] w fun e w' => ∃ A1 c1, e = .returned (.agg #[.int .i64 s, .slice A1 n c1]) ∧ Own w' w.heap.size A1 n c1 ds ∧ Below w.heap.size w w' := by
  have hl := h.1
  refine (i_trV s w A n c cs k h hn hv hk).mono ?_
  rintro e w' ⟨A1, n1, c1, rfl, ho, hb⟩
  rw [hd] at ho
  have e1 := ho.1
  rw [← hd, Bd.mv_len] at e1
  obtain rfl : n1 = n := by omega
  exact ⟨_, _, rfl, ho, hb⟩
theorem s_trW (s k : Int) (w : World) (A : Option Addr) (n c : Nat) (cs ds : List Int) (h : Ints w w.heap.size A n cs) (hn : n ≤ 49) (hv : Bd.okB s cs = true) (hk : Pt.okK k = true) (hd : Bd.mv s k cs = ds) :
    Calls Try.prog 18 #[.agg #[.int .i64 s, .slice A n c], .int .i64 k] w fun e w' => ∃ A1 c1, e = .returned (.agg #[.int .i64 s, .slice A1 n c1]) ∧ Own w' w.heap.size A1 n c1 ds ∧ Below w.heap.size w w' := by
  have hl := h.1
  refine (s_trV s w A n c cs k h hn hv hk).mono ?_
  rintro e w' ⟨A1, n1, c1, rfl, ho, hb⟩
  rw [hd] at ho
  have e1 := ho.1
  rw [← hd, Bd.mv_len] at e1
  obtain rfl : n1 = n := by omega
  exact ⟨_, _, rfl, ho, hb⟩
theorem i_compB (a b : Int) (w : World) : Calls Try.prog 19 #[.int .i64 a, .int .i64 b] w fun e w' => e = .returned (.int .i64 (Pt.comp a b)) ∧ Below w.heap.size w w' :=
  (i_comp a b w).mono fun _ _ ⟨h1, h2⟩ => ⟨h1, by rw [← h2]; exact Below.refl _ _⟩
theorem len_comp {s k : Int} {cs : List Int} {n m : Nat} (h : (Bd.mv s k cs).length = m) (h0 : cs.length = n) : n = m := len_mv h h0
end Go.Proofs.Ytoflbpihcfdcgaa

namespace Go.Proofs.Ytoflbpihcfdcgaa
open Go.RowKit

theorem l_colorAt (s : Int) (w : World) (A : Option Addr) (n c : Nat) (cs : List Int) (q : Nat) (e : Int) (h : Ints w w.heap.size A n cs) (hq : q < n) (he : cs.getD q 0 = e) :
    Calls Try.prog 20 #[.agg #[.int .i64 s, .slice A n c], .int .i64 (q : Nat)] w fun e' w' => e' = .returned (.int .i64 e) ∧ Below w.heap.size w w' := by
  obtain ⟨b, o, rfl, hbB, hc⟩ : ∃ b o, A = some ⟨b, o, none⟩ ∧ b < w.heap.size ∧ ∀ j, j < n → w.cell? ⟨b, o + j, none⟩ = some (.int .i64 (cs.getD j 0)) := by
    rcases h.2 with h0 | ⟨b, o, hA, hbB, hc⟩
    · omega
    · exact ⟨b, o, hA, hbB, hc⟩
  have hb1 : Below w.heap.size w (w.alloc (.cells #[.int .i64 s, .slice (some ⟨b, o, none⟩) n c] 25)) := (Below.refl _ _).alloc (Nat.le_refl _) _
  have ck := (hb1.cell (p := ⟨b, o + q, none⟩) hbB).trans (hc q hq)
  rw [he] at ck
  have Hb := Lib.hid hb1
  have X0 := Lib.hid (Bx.new 25 w s (.slice (some ⟨b, o, none⟩) n c))
  have u0 := X0.out.cell0
  have u1 := X0.out.cell1
  have ul := X0.out.lt
  have hqI : (q : Int) < n := by omega
  clear hc h he hb1
  go_enter Try.func20, Try.ntmps20
  go_wp2_with fail
  go_ret
  exact ⟨rfl, Hb.out⟩
end Go.Proofs.Ytoflbpihcfdcgaa

namespace Go.Proofs.Ytoflbpihcfdcgaa
open Go.RowKit

theorem r_anyPtB (B g q : Nat) (s : Int) (w : World) (h : Rdr w B g q) (hq : q ≤ 100000000000) (s1 : 0 ≤ s) (s2 : s ≤ 8) :
    Calls Try.prog 95 #[.pointer (some ⟨g, 0, none⟩), .int .i64 s] w fun e w' => Got (fun x => -1 ≤ x ∧ x ≤ 64) w B g (q + 2) e w' := by
  have hlt := h.lt
  obtain ⟨m1, m2⟩ := sq8 s s1 s2
  go_enter Try.func95, Try.ntmps95
  go_wp2_with fail
  refine (r_pick B g q _ _ h (by omega)).mono ?_
  rintro e w1 ⟨x, rfl, x1, x2, hr, hw⟩
  have hz := hw.size
  have Hw := Lib.hid hw
  clear hw h
  by_cases h0 : x = 0
  · have hb : ((x : Int) == 0) = true := by simpa using h0
    clear h0
    go_wp2_with fail
    have hl := Ints.lit w1 3 [-1, s * s, 49]
    have hlt1 := hr.lt
    refine (r_one B g (q + 1) _ _ [-1, s * s, 49] _ _ (hr.below ((Below.refl _ _).alloc (Nat.le_refl _) _) hlt1) (by omega) hl (by simp) (by simp) (by simp) (by rintro b o e; injection e with e; injection e; omega)).mono ?_
    rintro e w2 ⟨y, rfl, hy, hr2, hw2⟩
    have Hr := Lib.hid hr2
    have Hy : Hid (-1 ≤ y ∧ y ≤ 64) := Lib.hid (by simp at hy; omega)
    have Hw2 := Lib.hid (gtrans Hw.out (gtrans (World.grownBy_alloc w1 _ (some g)) hw2))
    clear hr hw2 hl hy hr2
    go_wp2_with fail
    go_ret
    exact ⟨_, rfl, Hy.out, Hr.out, Hw2.out⟩
  · have hb : ((x : Int) == 0) = false := by simpa using h0
    clear h0
    go_wp2_with fail
    all_goals
      refine (r_pick B g (q + 1) _ _ hr (by omega)).mono ?_
      rintro e w2 ⟨y, rfl, y1, y2, hr2, hw2⟩
      have Hr := Lib.hid hr2
      have Hw2 := Lib.hid (gtrans Hw.out hw2)
      have Hy : Hid (-1 ≤ y ∧ y ≤ 64) := Lib.hid (by omega)
      clear hr hw2 hr2 y1 y2
      go_wp2_with fail
      go_ret
      exact ⟨_, rfl, Hy.out, Hr.out, Hw2.out⟩

/-- A drawn board and a point that may be wrong. -/
def DrawnAP (w : World) (B g lo q : Nat) (e : Ending) (w' : World) : Prop :=
  ∃ (s : Int) (A : Option Addr) (n c : Nat) (cs : List Int) (q' : Nat) (p : Int), e = .returned (.tuple #[.agg #[.int .i64 s, .slice A n c], .int .i64 p]) ∧ IntsF w' lo A n cs ∧ n ≤ 49 ∧ 0 ≤ s ∧ s ≤ 8 ∧ -1 ≤ p ∧ p ≤ 64 ∧ Rdr w' B g q' ∧ q' ≤ q ∧ w.grownBy w' (some g)

/-- The world when 'boardPoint' has stored its board. -/
theorem bp_end {w yf : World} {B g q' n c : Nat} {s : Int} {A : Option Addr} {cs : List Int} (X2 : Bx 25 yf w.heap.size 0 (.slice none 0 0)) (Hi : IntsF yf (w.heap.size + 1) A n cs) (Hr : Rdr yf B g q') (hBw : B ≤ w.heap.size) (hgw : g < w.heap.size) (Hg : w.grownBy yf (some g)) :
    ((yf.setCell ⟨w.heap.size, 0, none⟩ (.int .i64 s)).setCell ⟨w.heap.size, 1, none⟩ (.slice A n c)).cell? ⟨w.heap.size, 0, none⟩ = some (.int .i64 s) ∧
    ((yf.setCell ⟨w.heap.size, 0, none⟩ (.int .i64 s)).setCell ⟨w.heap.size, 1, none⟩ (.slice A n c)).cell? ⟨w.heap.size, 1, none⟩ = some (.slice A n c) ∧
    IntsF ((yf.setCell ⟨w.heap.size, 0, none⟩ (.int .i64 s)).setCell ⟨w.heap.size, 1, none⟩ (.slice A n c)) w.heap.size A n cs ∧
    Rdr ((yf.setCell ⟨w.heap.size, 0, none⟩ (.int .i64 s)).setCell ⟨w.heap.size, 1, none⟩ (.slice A n c)) B g q' ∧
    w.grownBy ((yf.setCell ⟨w.heap.size, 0, none⟩ (.int .i64 s)).setCell ⟨w.heap.size, 1, none⟩ (.slice A n c)) (some g) :=
  ⟨((X2.set0 s).set1 (.slice A n c)).cell0, ((X2.set0 s).set1 (.slice A n c)).cell1,
    ((Hi.far ⟨w.heap.size, 0, none⟩ (Nat.lt_succ_self _) (.int .i64 s)).far ⟨w.heap.size, 1, none⟩ (Nat.lt_succ_self _) (.slice A n c)).weaken (by omega),
    (Hr.far ⟨w.heap.size, 0, none⟩ (by show g ≠ w.heap.size; omega) (by show B ≤ w.heap.size; omega) (.int .i64 s)).far ⟨w.heap.size, 1, none⟩ (by show g ≠ w.heap.size; omega) (by show B ≤ w.heap.size; omega) (.slice A n c),
    gset (gset Hg ⟨w.heap.size, 0, none⟩ (Nat.le_refl _) (.int .i64 s)) ⟨w.heap.size, 1, none⟩ (Nat.le_refl _) (.slice A n c)⟩

set_option maxRecDepth 100000 in
set_option maxHeartbeats 8000000 in
theorem r_bp (B g q : Nat) (w : World) (h : Rdr w B g q) (hq : q ≤ 1000000000) :
    Calls Try.prog 68 #[.pointer (some ⟨g, 0, none⟩)] w fun e w' => DrawnAP w B g w.heap.size (q + 205) e w' := by
  have hlt := h.lt
  have hb1 : Below w.heap.size w (w.alloc (.cells #[.int .i64 0, .slice none 0 0] 25)) := (Below.refl _ _).alloc (Nat.le_refl _) _
  have X2 := Lib.hid (Bx.new 25 w 0 (.slice none 0 0))
  have Hr := Lib.hid (h.below hb1 hlt)
  have Hb := Lib.hid hb1
  have hsz : (w.alloc (.cells #[.int .i64 0, .slice none 0 0] 25)).heap.size = w.heap.size + 1 := by simp
  have Hsz := Lib.hid hsz
  clear h hb1 hsz
  go_enter Try.func68, Try.ntmps68
  go_wp2_with fail
  refine (r_any B g q _ Hr.out (by omega)).mono ?_
  rintro e y ⟨s, A, n, c, cs, q1, rfl, hi, hn, s0, s8, hr, hq1, hg⟩
  rw [Hsz.out] at hi
  have X2 := Lib.hid (X2.out.grown hg (fun e => by have := Option.some.inj e; omega))
  have Hg := Lib.hid (gtrans (gbelow (some g) Hb.out (Nat.le_refl _)) hg)
  have Hr := Lib.hid hr
  have Hi := Lib.hid hi
  have z2 := X2.out.lt
  clear hr hg hi Hb
  go_upto_region 2 with (fail)
  obtain ⟨y3, hy3, hb3, z3, z4⟩ := new_box y (.cells #[.int .i64 s, .slice A n c] 25)
  have X4 : Hid (Bx 25 y3 y.heap.size s (.slice A n c)) := Lib.hid (by rw [hy3]; exact Bx.new _ _ _ _)
  rw [← hy3]
  clear hy3
  have X2 := Lib.hid (X2.out.below hb3 X2.out.lt)
  have Hr := Lib.hid (Hr.out.below hb3 Hr.out.lt)
  have Hi := Lib.hid (Hi.out.below hb3)
  have Hg := Lib.hid (gtrans Hg.out (gbelow (some g) hb3 (Nat.le_refl _)))
  clear hb3
  have t0 := X4.out.cell0
  have t1 := X4.out.cell1
  have t2 := X4.out.lt
  go_wp2_with fail
  refine (r_anyPtB B g q1 s _ Hr.out (by omega) s0 s8).mono ?_
  rintro e y4 ⟨p, rfl, ⟨p1, p2⟩, hr, hg⟩
  have X2 := Lib.hid (X2.out.grown hg (fun e => by have := Option.some.inj e; omega))
  have X4 := Lib.hid (X4.out.grown hg (fun e => by have := Option.some.inj e; omega))
  have Hi := Lib.hid (Hi.out.grown hg (by omega))
  have Hg := Lib.hid (gtrans Hg.out hg)
  have Hr := Lib.hid hr
  clear hr hg t0 t1 t2
  have t0 := X4.out.cell0
  have t1 := X4.out.cell1
  have t2 := X4.out.lt
  go_wp2_with fail
  refine (r_pick B g (q1 + 2) _ _ Hr.out (by omega)).mono ?_
  rintro e y5 ⟨f, rfl, f1, f2, hr, hg⟩
  have X2 := Lib.hid (X2.out.grown hg (fun e => by have := Option.some.inj e; omega))
  have X4 := Lib.hid (X4.out.grown hg (fun e => by have := Option.some.inj e; omega))
  have Hi := Lib.hid (Hi.out.grown hg (by omega))
  have Hg := Lib.hid (gtrans Hg.out hg)
  have Hr := Lib.hid hr
  have z5 := X4.out.lt
  clear hr hg t0 t1 t2 f2
  by_cases hf : f = 0 ∧ 0 < n
  · obtain ⟨hf0, hn0⟩ := hf
    have hfb : ((f : Int) == 0) = true := by simpa using hf0
    have hnI : (0 : Int) < n := by omega
    have t0 := X4.out.cell0
    have t1 := X4.out.cell1
    have t2 := X4.out.lt
    clear hf0
    go_wp2_with fail
    go_loopw [5, 6] (fun v i wr => ∃ (k : Nat) (p : Int), k ≤ n ∧ i = .int .i64 (k : Nat) ∧ v = .int .i64 p ∧ -1 ≤ p ∧ p ≤ 64 ∧ Bx 25 wr w.heap.size 0 (.slice none 0 0) ∧ Bx 25 wr y.heap.size s (.slice A n c) ∧ IntsF wr (w.heap.size + 1) A n cs ∧ Rdr wr B g (q1 + 2 + 1) ∧ w.grownBy wr (some g)) (fun _ i _ => n - (intOf i).toNat)
    case atStart => exact ⟨0, p, by omega, rfl, rfl, p1, p2, X2.out, X4.out, Hi.out, Hr.out, Hg.out⟩
    case round =>
      clear t0 t1 t2 p1 p2 X2 X4 Hi Hr Hg
      obtain ⟨k, p9, hk, rfl, rfl, p1, p2, x2, x4, hi, hr, hg⟩ := hrel
      have X2 := Lib.hid x2
      have X4 := Lib.hid x4
      have Hi := Lib.hid hi
      have Hr := Lib.hid hr
      have Hg := Lib.hid hg
      clear x2 x4 hi hr hg
      have t0 := X4.out.cell0
      have t1 := X4.out.cell1
      have t2 := X4.out.lt
      by_cases hkn : k < n
      · have hkI : (k : Int) < n := by omega
        by_cases hp0 : 0 ≤ p9
        · obtain ⟨pn, rfl⟩ := Int.eq_ofNat_of_zero_le hp0
          obtain ⟨m, hm⟩ : ∃ m, pn % n = m := ⟨_, rfl⟩
          have hmn : m < n := by rw [← hm]; exact Nat.mod_lt _ hn0
          have hmod : Int.tmod (pn : Int) (n : Int) = (m : Int) := by rw [← hm]; rfl
          obtain ⟨m2, hm2⟩ : ∃ m, (pn + 1) % n = m := ⟨_, rfl⟩
          have hmn2 : m2 < n := by rw [← hm2]; exact Nat.mod_lt _ hn0
          have hmod2 : Int.tmod ((pn : Int) + 1) (n : Int) = (m2 : Int) := by rw [← hm2]; rfl
          obtain ⟨b, o, hA, hbl, hc⟩ : ∃ b o, A = some ⟨b, o, none⟩ ∧ b < wr.heap.size ∧ ∀ j, j < n → wr.cell? ⟨b, o + j, none⟩ = some (.int .i64 (cs.getD j 0)) := by
            rcases Hi.out.ints.2 with h0 | ⟨b, o, hA, hbB, hc⟩
            · omega
            · exact ⟨b, o, hA, hbB, hc⟩
          have ck := hc m hmn
          obtain ⟨e0, he0⟩ : ∃ e, cs.getD m 0 = e := ⟨_, rfl⟩
          rw [he0] at ck
          rw [hA] at t1
          clear hc he0 hm hm2
          by_cases he : e0 = 0
          · subst he
            go_wp2_with fail
            go_quiet (fail)
            go_wp2_with fail
            go_roundw
            case rel => exact ⟨k + 1, _, by omega, by go_num, rfl, by omega, by omega, X2.out.drewN _, X4.out.drewN _, Hi.out, Hr.out, ⟨Hg.out.os, Hg.out.tape, Hg.out.output, Hg.out.size, Hg.out.block⟩⟩
            case measure => simp [intOf]; omega
          · have heb : (e0 == 0) = false := by simpa using he
            go_wp2_with fail
            go_quiet (fail)
            clear ck
            obtain ⟨yf, hyf⟩ : ∃ y, y = wr.drewN nq := ⟨_, rfl⟩
            have X2 : Hid (Bx 25 yf w.heap.size 0 (.slice none 0 0)) := Lib.hid (by rw [hyf]; exact X2.out.drewN _)
            have X4 : Hid (Bx 25 yf y.heap.size s (.slice A n c)) := Lib.hid (by rw [hyf]; exact X4.out.drewN _)
            have Hi : Hid (IntsF yf (w.heap.size + 1) A n cs) := Lib.hid (by rw [hyf]; exact Hi.out)
            have Hr : Hid (Rdr yf B g (q1 + 2 + 1)) := Lib.hid (by rw [hyf]; exact Hr.out)
            have Hg : Hid (w.grownBy yf (some g)) := Lib.hid (by rw [hyf]; exact ⟨Hg.out.os, Hg.out.tape, Hg.out.output, Hg.out.size, Hg.out.block⟩)
            rw [← hyf]
            clear hyf t0 t1 t2
            have hBg := Hr.out.1
            obtain ⟨k0', k1', hi9, hr9, hg9⟩ := bp_end (s := s) (c := c) X2.out Hi.out Hr.out (by omega) (by omega) Hg.out
            have K0 := Lib.hid k0'
            have K1 := Lib.hid k1'
            have Hi9 := Lib.hid hi9
            have Hr9 := Lib.hid hr9
            have Hg9 := Lib.hid hg9
            have r0 := X2.out.cell0
            have r1 := X2.out.cell1
            have r2 := X2.out.frozen 0
            have r3 := X2.out.frozen 1
            have r4 := X2.out.lt
            have t0 := X4.out.cell0
            have t1 := X4.out.cell1
            have t2 := X4.out.lt
            clear k0' k1' hi9 hr9 hg9
            rw [hA] at K0 K1 Hi9 Hr9 Hg9
            go_wp2_with fail
            have k0 := K0.out
            have k1 := K1.out
            refine bodyPost_ret (v := .tuple #[.agg #[.int .i64 s, .slice (some ⟨b, o, none⟩) n c], .int .i64 (pn : Nat)]) (by simp [results, Try.results68, go_sem, k0, k1]) rfl ?_
            exact ⟨_, _, _, _, _, _, _, rfl, Hi9.out, hn, s0, s8, by omega, by omega, Hr9.out, by omega, Hg9.out⟩
        · obtain rfl : p9 = -1 := by omega
          clear hp0
          go_wp2_with fail
          go_quiet (fail)
          obtain ⟨yf, hyf⟩ : ∃ y, y = wr.drewN nq := ⟨_, rfl⟩
          have X2 : Hid (Bx 25 yf w.heap.size 0 (.slice none 0 0)) := Lib.hid (by rw [hyf]; exact X2.out.drewN _)
          have X4 : Hid (Bx 25 yf y.heap.size s (.slice A n c)) := Lib.hid (by rw [hyf]; exact X4.out.drewN _)
          have Hi : Hid (IntsF yf (w.heap.size + 1) A n cs) := Lib.hid (by rw [hyf]; exact Hi.out)
          have Hr : Hid (Rdr yf B g (q1 + 2 + 1)) := Lib.hid (by rw [hyf]; exact Hr.out)
          have Hg : Hid (w.grownBy yf (some g)) := Lib.hid (by rw [hyf]; exact ⟨Hg.out.os, Hg.out.tape, Hg.out.output, Hg.out.size, Hg.out.block⟩)
          rw [← hyf]
          clear hyf t0 t1 t2
          have hBg := Hr.out.1
          obtain ⟨k0', k1', hi9, hr9, hg9⟩ := bp_end (s := s) (c := c) X2.out Hi.out Hr.out (by omega) (by omega) Hg.out
          have K0 := Lib.hid k0'
          have K1 := Lib.hid k1'
          have Hi9 := Lib.hid hi9
          have Hr9 := Lib.hid hr9
          have Hg9 := Lib.hid hg9
          have r0 := X2.out.cell0
          have r1 := X2.out.cell1
          have r2 := X2.out.frozen 0
          have r3 := X2.out.frozen 1
          have r4 := X2.out.lt
          have t0 := X4.out.cell0
          have t1 := X4.out.cell1
          have t2 := X4.out.lt
          clear k0' k1' hi9 hr9 hg9
          go_wp2_with fail
          have k0 := K0.out
          have k1 := K1.out
          refine bodyPost_ret (v := .tuple #[.agg #[.int .i64 s, .slice A n c], .int .i64 (-1)]) (by simp [results, Try.results68, go_sem, k0, k1]) rfl ?_
          exact ⟨_, _, _, _, _, _, _, rfl, Hi9.out, hn, s0, s8, by omega, by omega, Hr9.out, by omega, Hg9.out⟩
      · have hkI : ¬ (k : Int) < n := by omega
        go_wp2_with fail
        go_quiet (fail)
        obtain ⟨yf, hyf⟩ : ∃ y, y = wr.drewN nq := ⟨_, rfl⟩
        have X2 : Hid (Bx 25 yf w.heap.size 0 (.slice none 0 0)) := Lib.hid (by rw [hyf]; exact X2.out.drewN _)
        have X4 : Hid (Bx 25 yf y.heap.size s (.slice A n c)) := Lib.hid (by rw [hyf]; exact X4.out.drewN _)
        have Hi : Hid (IntsF yf (w.heap.size + 1) A n cs) := Lib.hid (by rw [hyf]; exact Hi.out)
        have Hr : Hid (Rdr yf B g (q1 + 2 + 1)) := Lib.hid (by rw [hyf]; exact Hr.out)
        have Hg : Hid (w.grownBy yf (some g)) := Lib.hid (by rw [hyf]; exact ⟨Hg.out.os, Hg.out.tape, Hg.out.output, Hg.out.size, Hg.out.block⟩)
        rw [← hyf]
        clear hyf t0 t1 t2
        have hBg := Hr.out.1
        obtain ⟨k0', k1', hi9, hr9, hg9⟩ := bp_end (s := s) (c := c) X2.out Hi.out Hr.out (by omega) (by omega) Hg.out
        have K0 := Lib.hid k0'
        have K1 := Lib.hid k1'
        have Hi9 := Lib.hid hi9
        have Hr9 := Lib.hid hr9
        have Hg9 := Lib.hid hg9
        have r0 := X2.out.cell0
        have r1 := X2.out.cell1
        have r2 := X2.out.frozen 0
        have r3 := X2.out.frozen 1
        have r4 := X2.out.lt
        have t0 := X4.out.cell0
        have t1 := X4.out.cell1
        have t2 := X4.out.lt
        clear k0' k1' hi9 hr9 hg9
        go_wp2_with fail
        have k0 := K0.out
        have k1 := K1.out
        refine bodyPost_ret (v := .tuple #[.agg #[.int .i64 s, .slice A n c], .int .i64 p9]) (by simp [results, Try.results68, go_sem, k0, k1]) rfl ?_
        exact ⟨_, _, _, _, _, _, _, rfl, Hi9.out, hn, s0, s8, by omega, by omega, Hr9.out, by omega, Hg9.out⟩
  · by_cases hf0 : f = 0
    · have hn0 : n = 0 := by omega
      have hfb : ((f : Int) == 0) = true := by simpa using hf0
      have t0 := X4.out.cell0
      have t1 := X4.out.cell1
      have t2 := X4.out.lt
      subst hn0
      clear hf0
      have hBg := Hr.out.1
      obtain ⟨k0', k1', hi9, hr9, hg9⟩ := bp_end (s := s) (c := c) X2.out Hi.out Hr.out (by omega) (by omega) Hg.out
      have K0 := Lib.hid k0'
      have K1 := Lib.hid k1'
      have Hi9 := Lib.hid hi9
      have Hr9 := Lib.hid hr9
      have Hg9 := Lib.hid hg9
      have r0 := X2.out.cell0
      have r1 := X2.out.cell1
      have r2 := X2.out.frozen 0
      have r3 := X2.out.frozen 1
      have r4 := X2.out.lt
      have t0 := X4.out.cell0
      have t1 := X4.out.cell1
      have t2 := X4.out.lt
      clear k0' k1' hi9 hr9 hg9
      go_wp2_with fail
      have k0 := K0.out
      have k1 := K1.out
      refine bodyPost_ret (v := .tuple #[.agg #[.int .i64 s, .slice A 0 c], .int .i64 p]) (by simp [results, Try.results68, go_sem, k0, k1]) rfl ?_
      exact ⟨_, _, _, _, _, _, _, rfl, Hi9.out, hn, s0, s8, by omega, by omega, Hr9.out, by omega, Hg9.out⟩
    · have hfb : ((f : Int) == 0) = false := by simpa using hf0
      clear hf0
      have hBg := Hr.out.1
      obtain ⟨k0', k1', hi9, hr9, hg9⟩ := bp_end (s := s) (c := c) X2.out Hi.out Hr.out (by omega) (by omega) Hg.out
      have K0 := Lib.hid k0'
      have K1 := Lib.hid k1'
      have Hi9 := Lib.hid hi9
      have Hr9 := Lib.hid hr9
      have Hg9 := Lib.hid hg9
      have r0 := X2.out.cell0
      have r1 := X2.out.cell1
      have r2 := X2.out.frozen 0
      have r3 := X2.out.frozen 1
      have r4 := X2.out.lt
      have t0 := X4.out.cell0
      have t1 := X4.out.cell1
      have t2 := X4.out.lt
      clear k0' k1' hi9 hr9 hg9
      go_wp2_with fail
      have k0 := K0.out
      have k1 := K1.out
      refine bodyPost_ret (v := .tuple #[.agg #[.int .i64 s, .slice A n c], .int .i64 p]) (by simp [results, Try.results68, go_sem, k0, k1]) rfl ?_
      exact ⟨_, _, _, _, _, _, _, rfl, Hi9.out, hn, s0, s8, by omega, by omega, Hr9.out, by omega, Hg9.out⟩
end Go.Proofs.Ytoflbpihcfdcgaa

namespace Go.Proofs.Ytoflbpihcfdcgaa
open Go.RowKit

/-- What a law's draw of a board and two ints gives. -/
def DrawnLII (P Q : Int → Prop) (w : World) (e : Ending) (w' : World) : Prop :=
  ∃ (s : Int) (A : Option Addr) (n c : Nat) (cs : List Int) (p x : Int), e = .returned (.tuple #[.agg #[.int .i64 s, .slice A n c], .int .i64 p, .int .i64 x]) ∧ Ints w' w'.heap.size A n cs ∧ n ≤ 49 ∧ 0 ≤ s ∧ s ≤ 8 ∧ P p ∧ Q x ∧ Below w.heap.size w w'

set_option maxRecDepth 100000 in
set_option maxHeartbeats 4000000 in
theorem d_grp (w : World) (a : Option Addr) (len cap : Nat) (zs : List Int) (h : IsRow .u8 w a len cap zs) :
    Calls Try.prog 46 #[.slice a len cap] w fun e w' => DrawnLI (fun x => -1 ≤ x ∧ x ≤ 64) w e w' := by
  have hb1 : Below w.heap.size w (w.alloc (.cells #[.int .i64 0, .slice none 0 0] 25)) := (Below.refl _ _).alloc (Nat.le_refl _) _
  have X2 := Lib.hid (Bx.new 25 w 0 (.slice none 0 0))
  have Hb := Lib.hid hb1
  have hsz : (w.alloc (.cells #[.int .i64 0, .slice none 0 0] 25)).heap.size = w.heap.size + 1 := by simp
  have Hsz := Lib.hid hsz
  have H := Lib.hid (h.below hb1)
  clear h hb1 hsz
  go_enter Try.func46, Try.ntmps46
  go_wp2_with fail
  refine (r_new _ _ _ _ zs H.out).mono ?_
  rintro e y ⟨g, rfl, hr, hb⟩
  have Hg := Lib.hid hr.1
  rw [Hsz.out] at Hg
  have hg1 := Hg.out
  have X2 := Lib.hid (X2.out.below hb X2.out.lt)
  have Hb := Lib.hid (Hb.out.trans (hb.mono (by rw [Hsz.out]; omega)))
  have zy := X2.out.lt
  obtain ⟨Bq, Hr⟩ : ∃ Bq, Hid (Rdr y Bq g 0) := ⟨_, Lib.hid hr⟩
  clear hr hb
  go_wp2_with fail
  have hgy := Hr.out.lt
  refine (r_bp Bq g 0 _ Hr.out (by omega)).mono ?_
  rintro e y2 ⟨s, A, n, c, cs, q', p, rfl, hi, hn, s0, s8, p1, p2, hr, hq, hg⟩
  have X2 := Lib.hid (X2.out.grown hg (fun e => by have := Option.some.inj e; omega))
  have Hb := Lib.hid (Hb.out.trans (below_g hg (by omega) (fun k hk => by have := Option.some.inj hk; omega)))
  have Hi := Lib.hid (((hi.far ⟨w.heap.size, 0, none⟩ (by show w.heap.size < y.heap.size; omega) (.int .i64 s)).far ⟨w.heap.size, 1, none⟩ (by show w.heap.size < y.heap.size; omega) (.slice A n c)).ints)
  clear hi hr hg hq
  have r0 := X2.out.cell0
  have r1 := X2.out.cell1
  have r2 := X2.out.frozen 0
  have r3 := X2.out.frozen 1
  have r4 := X2.out.lt
  have K0 := Lib.hid ((X2.out.set0 s).cell0)
  have K1 := Lib.hid (((X2.out.set0 s).set1 (.slice A n c)).cell1)
  have Hb3 := Lib.hid ((Hb.out.setCell (p := ⟨w.heap.size, 0, none⟩) (Nat.le_refl _) (.int .i64 s)).setCell (p := ⟨w.heap.size, 1, none⟩) (Nat.le_refl _) (.slice A n c))
  go_wp2_with fail
  have k0 := K0.out
  have k1 := K1.out
  refine bodyPost_ret (v := .tuple #[.agg #[.int .i64 s, .slice A n c], .int .i64 p]) (by simp [results, Try.results46, go_sem, k0, k1]) rfl ?_
  exact ⟨_, _, _, _, _, _, rfl, Hi.out, hn, s0, s8, ⟨p1, p2⟩, Hb3.out⟩

set_option maxRecDepth 100000 in
set_option maxHeartbeats 4000000 in
theorem d_lib (w : World) (a : Option Addr) (len cap : Nat) (zs : List Int) (h : IsRow .u8 w a len cap zs) :
    Calls Try.prog 51 #[.slice a len cap] w fun e w' => DrawnLI (fun x => -1 ≤ x ∧ x ≤ 64) w e w' := by
  have hb1 : Below w.heap.size w (w.alloc (.cells #[.int .i64 0, .slice none 0 0] 25)) := (Below.refl _ _).alloc (Nat.le_refl _) _
  have X2 := Lib.hid (Bx.new 25 w 0 (.slice none 0 0))
  have Hb := Lib.hid hb1
  have hsz : (w.alloc (.cells #[.int .i64 0, .slice none 0 0] 25)).heap.size = w.heap.size + 1 := by simp
  have Hsz := Lib.hid hsz
  have H := Lib.hid (h.below hb1)
  clear h hb1 hsz
  go_enter Try.func51, Try.ntmps51
  go_wp2_with fail
  refine (r_new _ _ _ _ zs H.out).mono ?_
  rintro e y ⟨g, rfl, hr, hb⟩
  have Hg := Lib.hid hr.1
  rw [Hsz.out] at Hg
  have hg1 := Hg.out
  have X2 := Lib.hid (X2.out.below hb X2.out.lt)
  have Hb := Lib.hid (Hb.out.trans (hb.mono (by rw [Hsz.out]; omega)))
  have zy := X2.out.lt
  obtain ⟨Bq, Hr⟩ : ∃ Bq, Hid (Rdr y Bq g 0) := ⟨_, Lib.hid hr⟩
  clear hr hb
  go_wp2_with fail
  have hgy := Hr.out.lt
  refine (r_bp Bq g 0 _ Hr.out (by omega)).mono ?_
  rintro e y2 ⟨s, A, n, c, cs, q', p, rfl, hi, hn, s0, s8, p1, p2, hr, hq, hg⟩
  have X2 := Lib.hid (X2.out.grown hg (fun e => by have := Option.some.inj e; omega))
  have Hb := Lib.hid (Hb.out.trans (below_g hg (by omega) (fun k hk => by have := Option.some.inj hk; omega)))
  have Hi := Lib.hid (((hi.far ⟨w.heap.size, 0, none⟩ (by show w.heap.size < y.heap.size; omega) (.int .i64 s)).far ⟨w.heap.size, 1, none⟩ (by show w.heap.size < y.heap.size; omega) (.slice A n c)).ints)
  clear hi hr hg hq
  have r0 := X2.out.cell0
  have r1 := X2.out.cell1
  have r2 := X2.out.frozen 0
  have r3 := X2.out.frozen 1
  have r4 := X2.out.lt
  have K0 := Lib.hid ((X2.out.set0 s).cell0)
  have K1 := Lib.hid (((X2.out.set0 s).set1 (.slice A n c)).cell1)
  have Hb3 := Lib.hid ((Hb.out.setCell (p := ⟨w.heap.size, 0, none⟩) (Nat.le_refl _) (.int .i64 s)).setCell (p := ⟨w.heap.size, 1, none⟩) (Nat.le_refl _) (.slice A n c))
  go_wp2_with fail
  have k0 := K0.out
  have k1 := K1.out
  refine bodyPost_ret (v := .tuple #[.agg #[.int .i64 s, .slice A n c], .int .i64 p]) (by simp [results, Try.results51, go_sem, k0, k1]) rfl ?_
  exact ⟨_, _, _, _, _, _, rfl, Hi.out, hn, s0, s8, ⟨p1, p2⟩, Hb3.out⟩

set_option maxRecDepth 100000 in
set_option maxHeartbeats 4000000 in
theorem d_set (w : World) (a : Option Addr) (len cap : Nat) (zs : List Int) (h : IsRow .u8 w a len cap zs) :
    Calls Try.prog 22 #[.slice a len cap] w fun e w' => DrawnLII (fun x => -1 ≤ x ∧ x ≤ 64) (fun x => -1 ≤ x ∧ x ≤ 8) w e w' := by
  have hb1 : Below w.heap.size w (w.alloc (.cells #[.int .i64 0, .slice none 0 0] 25)) := (Below.refl _ _).alloc (Nat.le_refl _) _
  have X2 := Lib.hid (Bx.new 25 w 0 (.slice none 0 0))
  have Hb := Lib.hid hb1
  have hsz : (w.alloc (.cells #[.int .i64 0, .slice none 0 0] 25)).heap.size = w.heap.size + 1 := by simp
  have Hsz := Lib.hid hsz
  have H := Lib.hid (h.below hb1)
  clear h hb1 hsz
  go_enter Try.func22, Try.ntmps22
  go_wp2_with fail
  refine (r_new _ _ _ _ zs H.out).mono ?_
  rintro e y ⟨g, rfl, hr, hb⟩
  have Hg := Lib.hid hr.1
  rw [Hsz.out] at Hg
  have hg1 := Hg.out
  have X2 := Lib.hid (X2.out.below hb X2.out.lt)
  have Hb := Lib.hid (Hb.out.trans (hb.mono (by rw [Hsz.out]; omega)))
  have zy := X2.out.lt
  obtain ⟨Bq, Hr⟩ : ∃ Bq, Hid (Rdr y Bq g 0) := ⟨_, Lib.hid hr⟩
  clear hr hb
  go_wp2_with fail
  have hgy := Hr.out.lt
  refine (r_bp Bq g 0 _ Hr.out (by omega)).mono ?_
  rintro e y2 ⟨s, A, n, c, cs, q', p, rfl, hi, hn, s0, s8, p1, p2, hr, hq, hg⟩
  have X2 := Lib.hid (X2.out.grown hg (fun e => by have := Option.some.inj e; omega))
  have Hb := Lib.hid (Hb.out.trans (below_g hg (by omega) (fun k hk => by have := Option.some.inj hk; omega)))
  have Hi := Lib.hid hi
  have Hr := Lib.hid hr
  have hgl := hr.lt
  have zz := hg.size
  clear hi hr hg
  go_upto_region 3 with (fail)
  obtain ⟨y3, hy3, hb3, z3, z4⟩ := new_box y2 (.cells #[.int .i64 s, .slice A n c] 25)
  have X5 : Hid (Bx 25 y3 y2.heap.size s (.slice A n c)) := Lib.hid (by rw [hy3]; exact Bx.new _ _ _ _)
  rw [← hy3]
  clear hy3
  have X2 := Lib.hid (X2.out.below hb3 X2.out.lt)
  have Hr := Lib.hid (Hr.out.below hb3 Hr.out.lt)
  have Hi := Lib.hid (Hi.out.below hb3)
  have Hb := Lib.hid (Hb.out.trans (hb3.mono (by omega)))
  clear hb3
  have t0 := X5.out.cell0
  have t1 := X5.out.cell1
  have t2 := X5.out.lt
  go_region_with (first | (go_at_call 69; refine (r_anyColor Bq g q' _ (by exact Hr.out) (by omega)).mono ?_; rintro e y5 ⟨x, rfl, hx, hr, hg⟩; have hg5 : y3.grownBy y5 (some g) := ⟨hg.os, hg.tape, hg.output, hg.size, hg.block⟩; have hx8 : -1 ≤ x ∧ x ≤ 8 := (by omega); have HX2 := Lib.hid (X2.out.grown hg5 (fun e => by have := Option.some.inj e; omega)); have HX5 := Lib.hid (X5.out.grown hg5 (fun e => by have := Option.some.inj e; omega)); have HI := Lib.hid (Hi.out.grown hg5 (by omega)); have HB := Lib.hid (Hb.out.trans (below_g hg5 (by omega) (fun k hk => by have := Option.some.inj hk; omega))); have u0 := HX5.out.cell0; have u1 := HX5.out.cell1; have u2 := HX5.out.lt; have r0 := HX2.out.cell0; have r1 := HX2.out.cell1; have r2 := HX2.out.frozen 0; have r3 := HX2.out.frozen 1; have r4 := HX2.out.lt; clear hr hg hg5))
  all_goals go_wp2_with fail
  all_goals
    have k0 := (HX2.out.set0 s).cell0
    have k1 := ((HX2.out.set0 s).set1 (.slice A n c)).cell1
    refine bodyPost_ret (v := .tuple #[.agg #[.int .i64 s, .slice A n c], .int .i64 p, .int .i64 x]) (by simp [results, Try.results22, go_sem, k0, k1]) rfl ?_
    have hi3 := ((HI.out.far ⟨w.heap.size, 0, none⟩ (by show w.heap.size < y.heap.size; omega) (.int .i64 s)).far ⟨w.heap.size, 1, none⟩ (by show w.heap.size < y.heap.size; omega) (.slice A n c)).ints
    have hb3 := (HB.out.setCell (p := ⟨w.heap.size, 0, none⟩) (Nat.le_refl _) (.int .i64 s)).setCell (p := ⟨w.heap.size, 1, none⟩) (Nat.le_refl _) (.slice A n c)
    exact ⟨_, _, _, _, _, _, _, rfl, hi3, hn, s0, s8, ⟨p1, p2⟩, hx8, hb3⟩
end Go.Proofs.Ytoflbpihcfdcgaa

namespace Go.Proofs.Ytoflbpihcfdcgaa
open Go.RowKit

theorem pts_mem2 {S : List Bool} {n : Nat} {y : Int} : y ∈ Fl.pts S n ↔ ∃ q : Nat, q < n ∧ S.getD q false = true ∧ y = (q : Int) := by
  unfold Fl.pts
  simp only [List.mem_map, List.mem_filter, List.mem_range]
  constructor
  · rintro ⟨q, ⟨a, b⟩, rfl⟩; exact ⟨q, a, b, rfl⟩
  · rintro ⟨q, a, b, rfl⟩; exact ⟨q, ⟨a, b⟩, rfl⟩

theorem pts_asc (S : List Bool) (n : Nat) : ∀ j, j + 1 < (Fl.pts S n).length → (Fl.pts S n).getD j 0 < (Fl.pts S n).getD (j + 1) 0 := by
  have hp : (Fl.pts S n).Pairwise (· < ·) := by
    unfold Fl.pts
    rw [List.pairwise_map]
    exact (List.pairwise_lt_range.filter _).imp fun h => by omega
  intro j hj
  have := List.pairwise_iff_getElem.1 hp j (j + 1) (by omega) hj (by omega)
  simpa [List.getD_eq_getElem?_getD, List.getElem?_eq_getElem hj, List.getElem?_eq_getElem (show j < (Fl.pts S n).length by omega)] using this

section
variable {s : Int} {n : Nat} {cs g : List Int}
theorem Reached.mem (h1 : 1 ≤ s) (h2 : s ≤ 7) (hn : (n : Int) = s * s) {keep : List Bool} {p : Nat} (hp : p < n) (h : Reached s n keep (p : Int) g) (q : Nat) : (q : Int) ∈ g ↔ Fl.Reach s keep (p : Int) (q : Int) := by
  obtain ⟨S, hl, hS, rfl⟩ := h
  have e := hS (q : Int) (by omega)
  unfold Fl.at_ at e
  rw [Int.toNat_natCast] at e
  rw [pts_mem2]
  constructor
  · rintro ⟨q', _, a, b⟩
    obtain rfl : q' = q := by omega
    exact e.1 a
  · intro hr
    have := (Fl.reach_in (nbs_in h1 h2 hn) ⟨by omega, by omega⟩ hr).2
    exact ⟨q, by omega, e.2 hr, rfl⟩

theorem hasCol_self {p : Nat} (hp : p < cs.length) : Fl.at_ (hasCol (cs.getD p 0) cs) (p : Int) = true := by
  unfold Fl.at_; rw [Int.toNat_natCast, hasCol_at hp]; simp

/-- A point of the group of a stone: its color and its group. -/
theorem Reached.point (h1 : 1 ≤ s) (h2 : s ≤ 7) (hn : (n : Int) = s * s) (hl : cs.length = n) {p : Nat} (hp : p < n) (h : Reached s n (hasCol (cs.getD p 0) cs) (p : Int) g) {q : Nat} (hq : q < n) (hr : Fl.Reach s (hasCol (cs.getD p 0) cs) (p : Int) (q : Int)) :
    cs.getD q 0 = cs.getD p 0 ∧ Reached s n (hasCol (cs.getD q 0) cs) (q : Int) g := by
  have hk := Un.reach_kept (hasCol_self (cs := cs) (p := p) (by omega)) hr
  have hc : cs.getD q 0 = cs.getD p 0 := by
    unfold Fl.at_ at hk
    rw [Int.toNat_natCast, hasCol_at (by omega)] at hk
    simpa using hk
  refine ⟨hc, ?_⟩
  rw [hc]
  obtain ⟨S, a, b, rfl⟩ := h
  have hb := Un.reach_back (nbs_in h1 h2 hn) (nbs_sy h1 h2 hn) ⟨by omega, by omega⟩ (hasCol_self (cs := cs) (p := p) (by omega)) hr
  exact ⟨S, a, fun y hy => (b y hy).trans ⟨fun r => Un.reach_trans hb r, fun r => Un.reach_trans hr r⟩, rfl⟩

/-- The k-th point of a group. -/
theorem Reached.nth (h1 : 1 ≤ s) (h2 : s ≤ 7) (hn : (n : Int) = s * s) {keep : List Bool} {p : Nat} (hp : p < n) (h : Reached s n keep (p : Int) g) {k : Nat} (hk : k < g.length) : ∃ q : Nat, q < n ∧ g.getD k 0 = (q : Int) ∧ Fl.Reach s keep (p : Int) (q : Int) := by
  have hm : g.getD k 0 ∈ g := by rw [List.getD_eq_getElem?_getD, List.getElem?_eq_getElem hk]; exact List.getElem_mem _
  obtain ⟨a, b⟩ := h.small k hk
  obtain ⟨q, hq⟩ := Int.eq_ofNat_of_zero_le a
  have hq' : g.getD k 0 = (q : Int) := hq
  exact ⟨q, by omega, hq', (h.mem h1 h2 hn hp q).1 (by rw [← hq']; exact hm)⟩
theorem Reached.asc {keep : List Bool} {p : Int} (h : Reached s n keep p g) : ∀ j, j + 1 < g.length → g.getD j 0 < g.getD (j + 1) 0 := by
  obtain ⟨S, _, _, rfl⟩ := h
  exact pts_asc S n
end

section
variable (w : World) (A A' : Option Addr) (n c c' : Nat) (xs : List Int)
theorem eqi_b (h : Ints w w.heap.size A n xs) (h' : Ints w w.heap.size A' n xs) (hn : n ≤ 1000000000) :
    Calls Try.prog 47 #[.slice A n c, .slice A' n c'] w fun e w' => e = .returned (.bool true) ∧ Below w.heap.size w w' := by
  refine (eqi_t w _ _ A A' n c c' xs h h' hn).mono ?_
  rintro e w' ⟨k, rfl, rfl⟩
  exact ⟨rfl, ⟨rfl, rfl, rfl, Nat.le_refl _, fun _ _ => rfl⟩⟩

def IsIn (y : Int) (xs : List Int) (w : World) (e : Ending) (w' : World) : Prop := ∃ b : Bool, e = .returned (.bool b) ∧ (b = true ↔ y ∈ xs) ∧ w = w'
theorem l_isIn (y : Int) (h : Ints w w.heap.size A n xs) (hn : n ≤ 1000000000) :
    Calls Try.prog 49 #[.slice A n c, .int .i64 y] w fun e w' => IsIn y xs w e w' := by
  have hl := h.1
  rcases h.2 with rfl | ⟨b, o, rfl, hlt, hc⟩
  · have hx : xs = [] := List.eq_nil_of_length_eq_zero hl
    clear h
    go_enter Try.func49, Try.ntmps49
    go_wp2_with fail
    go_rounds 1
    go_ret
    exact ⟨_, rfl, by rw [hx]; simp, rfl⟩
  · have Hc := Lib.hid hc
    have Hl := Lib.hid hl
    clear hc h hl
    go_enter Try.func49, Try.ntmps49
    go_wp2_with fail
    go_loop [5] (fun i => ∃ k : Nat, k ≤ n ∧ i = .int .i64 k ∧ ∀ j, j < k → xs.getD j 0 ≠ y) (fun i => n - (intOf i).toNat)
    case atStart => exact ⟨0, by omega, rfl, fun j hj => absurd hj (by omega)⟩
    case round =>
      obtain ⟨k, hk, rfl, hno⟩ := hrel
      have Hno := Lib.hid hno
      clear hno
      by_cases hlt : k < n
      · have c1 := Hc.out k hlt
        obtain ⟨x, hx⟩ : ∃ x, xs.getD k 0 = x := ⟨_, rfl⟩
        have Hx := Lib.hid hx
        rw [hx] at c1
        clear hx
        have hki : (k : Int) < n := by omega
        by_cases hxy : x = y
        · subst hxy
          have Hin : Hid (x ∈ xs) := Lib.hid (by
            rw [← Hx.out, List.getD_eq_getElem?_getD, List.getElem?_eq_getElem (by rw [Hl.out]; exact hlt)]; exact List.getElem_mem _)
          go_wp2_with fail
          go_ret
          exact ⟨_, rfl, by simp [Hin.out], rfl⟩
        · go_wp2_with fail
          go_round
          case rel => exact ⟨k + 1, by omega, by go_num, fun j hj => by by_cases e : j = k; (· subst e; rw [Hx.out]; exact hxy); (· exact Hno.out j (by omega))⟩
          case measure => simp [intOf]; omega
      · have Hout : Hid (¬ y ∈ xs) := Lib.hid (fun hm => by
          obtain ⟨j, hj, e⟩ := List.mem_iff_getElem.1 hm
          refine Hno.out j (by have := Hl.out; omega) ?_
          rw [List.getD_eq_getElem?_getD, List.getElem?_eq_getElem hj]
          exact e)
        go_wp2_with fail
        go_ret
        exact ⟨_, rfl, by simp [Hout.out], rfl⟩
theorem l_isInY (y : Int) (h : Ints w w.heap.size A n xs) (hn : n ≤ 1000000000) (hy : y ∈ xs) :
    Calls Try.prog 49 #[.slice A n c, .int .i64 y] w fun e w' => e = .returned (.bool true) ∧ Below w.heap.size w w' := by
  refine (l_isIn w A n c xs y h hn).mono ?_
  rintro e w' ⟨b, rfl, hb, rfl⟩
  rw [hb.2 hy]
  exact ⟨rfl, Below.refl _ _⟩

theorem l_ascends (h : Ints w w.heap.size A n xs) (hn : n ≤ 1000000) (ha : ∀ j, j + 1 < xs.length → xs.getD j 0 < xs.getD (j + 1) 0) :
    Calls Try.prog 50 #[.slice A n c] w fun e w' => e = .returned (.bool true) ∧ Below w.heap.size w w' := by
  have hl := h.1
  rcases h.2 with rfl | ⟨b, o, rfl, hlt, hc⟩
  · clear h ha
    go_enter Try.func50, Try.ntmps50
    go_wp2_with fail
    go_rounds 1
    go_ret
    exact ⟨rfl, Below.refl _ _⟩
  · have Hc := Lib.hid hc
    have Hl := Lib.hid hl
    have Ha := Lib.hid ha
    clear hc h hl ha
    go_enter Try.func50, Try.ntmps50
    go_wp2_with fail
    go_loopw [3] (fun i wr => ∃ k : Nat, 1 ≤ k ∧ (k ≤ n ∨ k = 1) ∧ i = .int .i64 k ∧ ∃ d, wr = w.drewN d) (fun i _ => n - (intOf i).toNat)
    case atStart => exact ⟨1, by omega, by omega, rfl, 0, rfl⟩
    case round =>
      obtain ⟨k, hk1, hk, rfl, d, rfl⟩ := hrel
      obtain ⟨i, rfl⟩ : ∃ i, k = i + 1 := ⟨k - 1, by omega⟩
      by_cases hlt : i + 1 < n
      · have c1 := Hc.out (i + 1) hlt
        have c0 := Hc.out i (by omega)
        have hh := Ha.out i (by rw [Hl.out]; exact hlt)
        obtain ⟨x1, hx1⟩ : ∃ x, xs.getD (i + 1) 0 = x := ⟨_, rfl⟩
        obtain ⟨x0, hx0⟩ : ∃ x, xs.getD i 0 = x := ⟨_, rfl⟩
        rw [hx1] at c1 hh
        rw [hx0] at c0 hh
        clear hx1 hx0
        have hki : ((i : Int) + 1) < n := by omega
        have hno : ¬ (x1 ≤ x0) := by omega
        go_wp2_with fail
        go_quiet (fail)
        go_wp2_with fail
        go_roundw
        case rel => exact ⟨i + 1 + 1, by omega, by omega, by go_num, _, rfl⟩
        case measure => simp [intOf]; omega
      · go_wp2_with fail
        go_ret
        exact ⟨rfl, ⟨rfl, rfl, rfl, Nat.le_refl _, fun _ _ => rfl⟩⟩
end

section
variable (s p : Int) (w : World) (A : Option Addr) (n c m : Nat) (cs l : List Int)
theorem i_GroupW (h : Ints w w.heap.size A n cs) (hn : n ≤ 49) (Hl : Hid (GrpIs s n cs p l)) (hm : l.length = m) :
    Calls Try.prog 33 #[.agg #[.int .i64 s, .slice A n c], .int .i64 p] w fun e w' => ∃ A1 c1, e = .returned (.slice A1 m c1) ∧ Own w' w.heap.size A1 m c1 l ∧ Below w.heap.size w w' := by
  refine (i_GroupOf s p w _ A n c cs h (Nat.le_refl _) (by omega) l Hl).mono ?_
  rintro e w' ⟨A1, m1, c1, rfl, ho, hb⟩
  obtain rfl : m1 = m := ho.1.symm.trans hm
  exact ⟨_, _, rfl, ho, hb⟩
theorem s_GroupW (h : Ints w w.heap.size A n cs) (hn : n ≤ 49) (Hl : Hid (GrpIs s n cs p l)) (hm : l.length = m) :
    Calls Try.prog 32 #[.agg #[.int .i64 s, .slice A n c], .int .i64 p] w fun e w' => ∃ A1 c1, e = .returned (.slice A1 m c1) ∧ Own w' w.heap.size A1 m c1 l ∧ Below w.heap.size w w' := by
  refine (s_GroupOf s p w _ A n c cs h (Nat.le_refl _) (by omega) l Hl).mono ?_
  rintro e w' ⟨A1, m1, c1, rfl, ho, hb⟩
  obtain rfl : m1 = m := ho.1.symm.trans hm
  exact ⟨_, _, rfl, ho, hb⟩
theorem i_LibW (h : Ints w w.heap.size A n cs) (hn : n ≤ 49) (Hl : Hid (LibIs s n cs p l)) (hm : l.length = m) :
    Calls Try.prog 38 #[.agg #[.int .i64 s, .slice A n c], .int .i64 p] w fun e w' => ∃ A1 c1, e = .returned (.slice A1 m c1) ∧ Own w' w.heap.size A1 m c1 l ∧ Below w.heap.size w w' := by
  refine (i_LibertiesOf s p w _ A n c cs h (Nat.le_refl _) (by omega) l Hl).mono ?_
  rintro e w' ⟨A1, m1, c1, rfl, ho, hb⟩
  obtain rfl : m1 = m := ho.1.symm.trans hm
  exact ⟨_, _, rfl, ho, hb⟩
theorem s_LibW (h : Ints w w.heap.size A n cs) (hn : n ≤ 49) (Hl : Hid (LibIs s n cs p l)) (hm : l.length = m) :
    Calls Try.prog 37 #[.agg #[.int .i64 s, .slice A n c], .int .i64 p] w fun e w' => ∃ A1 c1, e = .returned (.slice A1 m c1) ∧ Own w' w.heap.size A1 m c1 l ∧ Below w.heap.size w w' := by
  refine (s_LibertiesOf s p w _ A n c cs h (Nat.le_refl _) (by omega) l Hl).mono ?_
  rintro e w' ⟨A1, m1, c1, rfl, ho, hb⟩
  obtain rfl : m1 = m := ho.1.symm.trans hm
  exact ⟨_, _, rfl, ho, hb⟩
end
end Go.Proofs.Ytoflbpihcfdcgaa

namespace Go.Proofs.Ytoflbpihcfdcgaa
open Go.RowKit

theorem LibIs.nth {s : Int} {n : Nat} {cs l g : List Int} {p : Int} (h : LibIs s n cs p l) (hg : GrpIs s n cs p g) {k : Nat} (hk : k < l.length) : ∃ q : Nat, q < n ∧ l.getD k 0 = (q : Int) ∧ cs.getD q 0 = 0 ∧ ∃ z ∈ g, (q : Int) ∈ Pt.nbs s z := by
  obtain ⟨g', S, hg', hS, rfl⟩ := h
  rw [hg'.one hg] at hS
  have hm : (Fl.pts S n).getD k 0 ∈ Fl.pts S n := by rw [List.getD_eq_getElem?_getD, List.getElem?_eq_getElem hk]; exact List.getElem_mem _
  obtain ⟨q, a, b, e⟩ := pts_mem2.1 hm
  have := (hS.all (q : Int) (by omega) (by omega)).1 (by unfold Fl.at_; rw [Int.toNat_natCast]; exact b)
  rw [Int.toNat_natCast] at this
  obtain ⟨c1, c2⟩ := this
  refine ⟨q, a, e, by simpa using c1, ?_⟩
  rcases c2 with c2 | c2
  · exact c2
  · cases c2
theorem LibIs.asc {s : Int} {n : Nat} {cs l : List Int} {p : Int} (h : LibIs s n cs p l) : ∀ j, j + 1 < l.length → l.getD j 0 < l.getD (j + 1) 0 := by
  obtain ⟨g', S, hg', hS, rfl⟩ := h
  exact pts_asc S n
theorem LibIs.move {s : Int} {n : Nat} {cs l g : List Int} {p q : Int} (h : LibIs s n cs p l) (hg : GrpIs s n cs p g) (hq : GrpIs s n cs q g) : LibIs s n cs q l := by
  obtain ⟨g', S, hg', hS, rfl⟩ := h
  rw [hg'.one hg] at hS
  exact ⟨g, S, hq, hS, rfl⟩
/-- A point that touches the group: one of its neighbours is in it. -/
theorem touch {s : Int} {n : Nat} {g : List Int} {q : Nat} (h1 : 1 ≤ s) (h2 : s ≤ 7) (hn : (n : Int) = s * s) (hg : ∀ z ∈ g, 0 ≤ z ∧ z < n) (h : ∃ z ∈ g, (q : Int) ∈ Pt.nbs s z) : ∃ j, j < (Pt.nbs s (q : Int)).length ∧ (Pt.nbs s (q : Int)).getD j 0 ∈ g := by
  obtain ⟨z, hz, hm⟩ := h
  obtain ⟨a, b⟩ := hg z hz
  obtain ⟨j, hj, e⟩ := List.mem_iff_getElem.1 (nbs_sy h1 h2 hn z a b _ hm)
  exact ⟨j, hj, by rw [List.getD_eq_getElem?_getD, List.getElem?_eq_getElem hj]; show (Pt.nbs s (q : Int))[j] ∈ g; rw [e]; exact hz⟩
theorem Reached.all {s : Int} {n : Nat} {keep : List Bool} {p : Int} {g : List Int} (h : Reached s n keep p g) : ∀ z ∈ g, 0 ≤ z ∧ z < n := by
  obtain ⟨S, _, _, rfl⟩ := h
  intro z hz
  obtain ⟨q, a, _, rfl⟩ := pts_mem2.1 hz
  omega
theorem sofar_step {g l : List Int} {j : Nat} {b : Bool} (h : b = true ↔ l.getD j 0 ∈ g) (hno : ¬ ∃ i, i < j ∧ l.getD i 0 ∈ g) : b = true ↔ ∃ i, i < j + 1 ∧ l.getD i 0 ∈ g := by
  rw [h]
  constructor
  · exact fun e => ⟨j, by omega, e⟩
  · rintro ⟨i, hi, e⟩
    by_cases h2 : i = j
    · rw [← h2]; exact e
    · exact absurd ⟨i, by omega, e⟩ hno
end Go.Proofs.Ytoflbpihcfdcgaa

namespace Go.Proofs.Ytoflbpihcfdcgaa
open Go.RowKit

section
variable {s k : Int} {n : Nat} (h1 : 1 ≤ s) (h2 : s ≤ 7) (hn : (n : Int) = s * s) (k1 : 0 ≤ k) (k2 : k < 8)
include h1 h2 hn k1 k2

theorem tr_nat {p : Nat} (hp : p < n) : Pt.tr s k (p : Int) = ((Bd.imgN s k p : Nat) : Int) := by
  rw [(Bd.imgN_lt s k n p h1 h2 hn hp).2]
  exact Pt.tr_in s k p h1 h2 (by omega) (by omega) k1 k2

/-- The marks of the images of marked points. -/
theorem img_marks (S : List Bool) (hl : S.length = n) : ∃ T : List Bool, T.length = n ∧ (∀ p, p < n → T.getD (Bd.imgN s k p) false = S.getD p false) ∧ Pt.imagesOf s k (Fl.pts S n) = Fl.pts T n := by
  obtain ⟨T, hT, hTq⟩ := marks_of n fun q => ∃ p, p < n ∧ S.getD p false = true ∧ Bd.imgN s k p = q
  refine ⟨T, hT, fun p hp => ?_, ?_⟩
  · rw [Bool.eq_iff_iff, hTq _ (Bd.imgN_lt s k n p h1 h2 hn hp).1]
    constructor
    · rintro ⟨p', hp', a, e⟩
      rw [← Bd.imgN_inj s k n h1 h2 hn k1 k2 p' p hp' hp e]; exact a
    · exact fun a => ⟨p, hp, a, rfl⟩
  · have hN : (s * s).toNat = n := by omega
    unfold Pt.imagesOf
    rw [hN]
    have key : ∀ q, q < n → (((Fl.pts S n).filter fun x => Pt.tr s k x == (q : Int)).map fun _ => (q : Int)) = if T.getD q false = true then [(q : Int)] else [] := by
      intro q hq
      -- at most one point goes there
      have hone : ∀ l : List Nat, (∀ a ∈ l, a < n) → l.Nodup → ((l.map fun (a : Nat) => (a : Int)).filter fun x => Pt.tr s k x == (q : Int)) = if ∃ p ∈ l, Bd.imgN s k p = q then ((l.map fun (a : Nat) => (a : Int)).filter fun x => Pt.tr s k x == (q : Int)).take 1 else [] := by
        intro l hl hd
        induction l with
        | nil => simp
        | cons a l ih =>
          have ha := hl a (by simp)
          have ih' := ih (fun b hb => hl b (by simp [hb])) (List.nodup_cons.1 hd).2
          have e : (Pt.tr s k (a : Int) == (q : Int)) = decide (Bd.imgN s k a = q) := by
            rw [tr_nat h1 h2 hn k1 k2 ha, Bool.eq_iff_iff]
            simp only [beq_iff_eq, decide_eq_true_eq]
            omega
          by_cases hq : Bd.imgN s k a = q
          · have hno : ¬ ∃ p ∈ l, Bd.imgN s k p = q := by
              rintro ⟨p, hp, e2⟩
              have := Bd.imgN_inj s k n h1 h2 hn k1 k2 p a (hl p (by simp [hp])) ha (e2.trans hq.symm)
              subst this
              exact (List.nodup_cons.1 hd).1 hp
            rw [if_neg hno] at ih'
            rw [List.map_cons, List.filter_cons, e, if_pos (by simpa using hq), ih', if_pos ⟨a, by simp, hq⟩]
            rfl
          · rw [List.map_cons, List.filter_cons, e, if_neg (by simpa using hq)]
            by_cases hex : ∃ p ∈ l, Bd.imgN s k p = q
            · rw [if_pos (by obtain ⟨p, hp, e2⟩ := hex; exact ⟨p, by simp [hp], e2⟩)]
              rw [if_pos hex] at ih'
              exact ih'
            · rw [if_neg hex] at ih'
              rw [ih', if_neg (by
                rintro ⟨p, hp, e2⟩
                rcases List.mem_cons.1 hp with rfl | hp
                · exact hq e2
                · exact hex ⟨p, hp, e2⟩)]
      have hl0 : ∀ a ∈ (List.range n).filter fun q => S.getD q false, a < n := fun a ha => List.mem_range.1 (List.mem_filter.1 ha).1
      have hnd : ((List.range n).filter fun q => S.getD q false).Nodup := List.Pairwise.filter _ List.nodup_range
      have hf := hone _ hl0 hnd
      show ((((List.range n).filter fun q => S.getD q false).map fun (q : Nat) => (q : Int)).filter _).map _ = _
      by_cases hT9 : T.getD q false = true
      · obtain ⟨p, hp, a, e⟩ := (hTq q hq).1 hT9
        have hm : p ∈ (List.range n).filter fun q => S.getD q false := List.mem_filter.2 ⟨List.mem_range.2 hp, a⟩
        have hmem : (p : Int) ∈ (((List.range n).filter fun q => S.getD q false).map fun (q : Nat) => (q : Int)).filter fun x => Pt.tr s k x == (q : Int) :=
          List.mem_filter.2 ⟨List.mem_map.2 ⟨p, hm, rfl⟩, by rw [tr_nat h1 h2 hn k1 k2 hp, e]; simp⟩
        rw [if_pos ⟨p, hm, e⟩] at hf
        rw [if_pos hT9]
        generalize hG : (((List.range n).filter fun q => S.getD q false).map fun (q : Nat) => (q : Int)).filter (fun x => Pt.tr s k x == (q : Int)) = G at hf hmem
        match G, hf, hmem with
        | [], _, hmem => cases hmem
        | [x], _, _ => rfl
        | x :: y :: G, hf, _ => simp at hf
      · rw [if_neg hT9]
        have hno : ¬ ∃ p ∈ (List.range n).filter fun q => S.getD q false, Bd.imgN s k p = q := by
          rintro ⟨p, hp, e⟩
          have := List.mem_filter.1 hp
          exact hT9 ((hTq q hq).2 ⟨p, List.mem_range.1 this.1, this.2, e⟩)
        rw [if_neg hno] at hf
        rw [hf]
        rfl
    have hflat : ∀ m, m ≤ n → (List.range m).flatMap (fun (q : Nat) => ((Fl.pts S n).filter fun x => Pt.tr s k x == (q : Int)).map fun _ => (q : Int)) = Fl.pts T m := by
      intro m
      induction m with
      | zero => intro _; rfl
      | succ m ih =>
        intro hm
        rw [List.range_succ, List.flatMap_append, ih (by omega), List.flatMap_cons, List.flatMap_nil, List.append_nil, key m (by omega)]
        rcases Bool.eq_false_or_eq_true (T.getD m false) with e | e
        · rw [if_pos e, Fl.pts_yes e]
        · rw [if_neg (by rw [e]; decide), List.append_nil, Fl.pts_no e]
    exact hflat n (Nat.le_refl _)

theorem nbs_images {p q : Nat} (hp : p < n) (hq : q < n) : (q : Int) ∈ Pt.nbs s (p : Int) ↔ ((Bd.imgN s k q : Nat) : Int) ∈ Pt.nbs s ((Bd.imgN s k p : Nat) : Int) := by
  rw [(Bd.imgN_lt s k n p h1 h2 hn hp).2, Pt.nbs_img s k p h1 h2 (by omega) (by omega) k1 k2]
  have hql := (Bd.imgN_lt s k n q h1 h2 hn hq).1
  unfold Pt.imagesOf
  simp only [List.mem_flatMap, List.mem_range, List.mem_map, List.mem_filter, beq_iff_eq]
  constructor
  · intro h
    exact ⟨Bd.imgN s k q, by omega, (q : Int), ⟨h, tr_nat h1 h2 hn k1 k2 hq⟩, rfl⟩
  · rintro ⟨r, hr, x, ⟨hx, e⟩, e2⟩
    obtain ⟨x0, xn⟩ := nbs_in h1 h2 hn (p : Int) (by omega) (by omega) x hx
    obtain ⟨y, rfl⟩ := Int.eq_ofNat_of_zero_le x0
    rw [tr_nat h1 h2 hn k1 k2 (show y < n by omega)] at e
    have : y = q := Bd.imgN_inj s k n h1 h2 hn k1 k2 y q (by omega) hq (by omega)
    rw [← this]; exact hx

theorem mv_get {cs : List Int} (hl : cs.length = n) {p : Nat} (hp : p < n) : (Bd.mv s k cs).getD (Bd.imgN s k p) 0 = cs.getD p 0 := by
  rw [List.getD_eq_getElem?_getD, mv_at h1 h2 (by rw [hl]; exact hn) k1 k2 (by rw [hl]; exact hp)]
  rfl

/-- What is reached on a board is reached on its image. -/
theorem reach_img {cs : List Int} (hl : cs.length = n) (c : Int) {p : Nat} (hp : p < n) {y : Int} (h : Fl.Reach s (hasCol c cs) (p : Int) y) : ∃ q : Nat, q < n ∧ y = (q : Int) ∧ Fl.Reach s (hasCol c (Bd.mv s k cs)) ((Bd.imgN s k p : Nat) : Int) ((Bd.imgN s k q : Nat) : Int) := by
  induction h with
  | base => exact ⟨p, hp, rfl, .base⟩
  | step _ hm hk ih =>
    obtain ⟨q, hq, rfl, hr⟩ := ih
    obtain ⟨a, b⟩ := nbs_in h1 h2 hn (q : Int) (by omega) (by omega) _ hm
    obtain ⟨z, rfl⟩ := Int.eq_ofNat_of_zero_le a
    have hz : z < n := by omega
    refine ⟨z, hz, rfl, .step hr ((nbs_images h1 h2 hn k1 k2 hq hz).1 hm) ?_⟩
    have hzl := (Bd.imgN_lt s k n z h1 h2 hn hz).1
    unfold Fl.at_ at hk ⊢
    rw [Int.toNat_natCast, hasCol_at (by omega)] at hk
    rw [Int.toNat_natCast, hasCol_at (by rw [Bd.mv_len]; omega), mv_get h1 h2 hn k1 k2 hl hz]
    exact hk
theorem reach_img_back {cs : List Int} (hl : cs.length = n) (c : Int) {p : Nat} (hp : p < n) {y : Int} (h : Fl.Reach s (hasCol c (Bd.mv s k cs)) ((Bd.imgN s k p : Nat) : Int) y) : ∃ q : Nat, q < n ∧ y = ((Bd.imgN s k q : Nat) : Int) ∧ Fl.Reach s (hasCol c cs) (p : Int) (q : Int) := by
  induction h with
  | base => exact ⟨p, hp, rfl, .base⟩
  | step _ hm hk ih =>
    obtain ⟨q, hq, rfl, hr⟩ := ih
    have hql := (Bd.imgN_lt s k n q h1 h2 hn hq).1
    obtain ⟨a, b⟩ := nbs_in h1 h2 hn _ (by omega) (by omega) _ hm
    obtain ⟨z, rfl⟩ := Int.eq_ofNat_of_zero_le a
    obtain ⟨z', hz', e⟩ := Bd.imgN_sur s k n h1 h2 hn k1 k2 z (by omega)
    subst e
    refine ⟨z', hz', rfl, .step hr ((nbs_images h1 h2 hn k1 k2 hq hz').2 hm) ?_⟩
    have hzl := (Bd.imgN_lt s k n z' h1 h2 hn hz').1
    unfold Fl.at_ at hk ⊢
    rw [Int.toNat_natCast, hasCol_at (by rw [Bd.mv_len]; omega), mv_get h1 h2 hn k1 k2 hl hz'] at hk
    rw [Int.toNat_natCast, hasCol_at (by omega)]
    exact hk

/-- The group of the image of a stone. -/
theorem Reached.img {cs g : List Int} (hl : cs.length = n) (c : Int) {p : Nat} (hp : p < n) (h : Reached s n (hasCol c cs) (p : Int) g) : Reached s n (hasCol c (Bd.mv s k cs)) ((Bd.imgN s k p : Nat) : Int) (Pt.imagesOf s k g) := by
  obtain ⟨S, hS, hR, rfl⟩ := h
  obtain ⟨T, hT, hTS, e⟩ := img_marks h1 h2 hn k1 k2 S hS
  refine ⟨T, hT, fun y hy => ?_, e⟩
  obtain ⟨z, rfl⟩ := Int.eq_ofNat_of_zero_le hy
  by_cases hz : z < n
  · obtain ⟨q, hq, e2⟩ := Bd.imgN_sur s k n h1 h2 hn k1 k2 z hz
    subst e2
    have e3 := hR (q : Int) (by omega)
    unfold Fl.at_ at e3 ⊢
    rw [Int.toNat_natCast] at e3 ⊢
    rw [hTS q hq, e3]
    constructor
    · intro hr
      obtain ⟨q', hq', e4, hr'⟩ := reach_img h1 h2 hn k1 k2 hl c hp hr
      obtain rfl : q' = q := by omega
      exact hr'
    · intro hr
      obtain ⟨q', hq', e4, hr'⟩ := reach_img_back h1 h2 hn k1 k2 hl c hp hr
      have : q = q' := Bd.imgN_inj s k n h1 h2 hn k1 k2 q q' hq hq' (by omega)
      rw [this]; exact hr'
  · have hpl := (Bd.imgN_lt s k n p h1 h2 hn hp).1
    constructor
    · intro e2
      unfold Fl.at_ at e2
      rw [Int.toNat_natCast, List.getD_eq_getElem?_getD, List.getElem?_eq_none (by omega)] at e2
      cases e2
    · intro hr
      have := (Fl.reach_in (nbs_in h1 h2 hn) ⟨by omega, by omega⟩ hr).2
      omega

/-- The empty neighbours of the image of a list. -/
theorem bi_img {cs g : List Int} {S T : List Bool} (hl : cs.length = n) (hg : ∀ z ∈ g, 0 ≤ z ∧ z < n) (x : Int) (h : Bs.BI s n cs x g [] S) (h' : Bs.BI s n (Bd.mv s k cs) x (Pt.imagesOf s k g) [] T) : Fl.pts T n = Pt.imagesOf s k (Fl.pts S n) := by
  obtain ⟨U, hU, hUS, e⟩ := img_marks h1 h2 hn k1 k2 S h.len
  rw [e]
  refine pts_ext fun z hz => ?_
  obtain ⟨q, hq, e2⟩ := Bd.imgN_sur s k n h1 h2 hn k1 k2 z hz
  subst e2
  have a1 := h.all (q : Int) (by omega) (by omega)
  have a2 := h'.all ((Bd.imgN s k q : Nat) : Int) (by omega) (by omega)
  unfold Fl.at_ at a1 a2
  rw [Int.toNat_natCast] at a1 a2
  rw [hUS q hq, Bool.eq_iff_iff, a1, a2, mv_get h1 h2 hn k1 k2 hl hq]
  have key : (∃ w ∈ Pt.imagesOf s k g, ((Bd.imgN s k q : Nat) : Int) ∈ Pt.nbs s w) ↔ ∃ w ∈ g, (q : Int) ∈ Pt.nbs s w := by
    unfold Pt.imagesOf
    simp only [List.mem_flatMap, List.mem_range, List.mem_map, List.mem_filter, beq_iff_eq]
    constructor
    · rintro ⟨w, ⟨r, hr, y, ⟨hy, e4⟩, rfl⟩, hm⟩
      obtain ⟨y0, yn⟩ := hg y hy
      obtain ⟨y', rfl⟩ := Int.eq_ofNat_of_zero_le y0
      rw [tr_nat h1 h2 hn k1 k2 (show y' < n by omega)] at e4
      rw [← e4] at hm
      exact ⟨_, hy, (nbs_images h1 h2 hn k1 k2 (by omega) hq).2 hm⟩
    · rintro ⟨w, hw, hm⟩
      obtain ⟨y0, yn⟩ := hg w hw
      obtain ⟨y', rfl⟩ := Int.eq_ofNat_of_zero_le y0
      have hyl := (Bd.imgN_lt s k n y' h1 h2 hn (by omega)).1
      exact ⟨_, ⟨Bd.imgN s k y', by omega, (y' : Int), ⟨hw, tr_nat h1 h2 hn k1 k2 (by omega)⟩, rfl⟩, (nbs_images h1 h2 hn k1 k2 (by omega) hq).1 hm⟩
  constructor
  · rintro ⟨c, d | d⟩
    · exact ⟨c, .inl (key.1 d)⟩
    · cases d
  · rintro ⟨c, d | d⟩
    · exact ⟨c, .inl (key.2 d)⟩
    · cases d
end
theorem images_W (s k : Int) (w : World) (A : Option Addr) (n c m : Nat) (xs l : List Int) (h1 : 1 ≤ s) (h2 : s ≤ 7) (h : Ints w w.heap.size A n xs) (hn : n ≤ 49) (hl : Pt.imagesOf s k xs = l) (hm : l.length = m) :
    Calls Try.prog 52 #[.int .i64 s, .int .i64 k, .slice A n c] w fun e w' => ∃ A' c', e = .returned (.slice A' m c') ∧ Own w' w.heap.size A' m c' l ∧ Below w.heap.size w w' := by
  refine (images_any s k w _ A n c xs h1 h2 h (Nat.le_refl _) hn).mono ?_
  rintro e w' ⟨A1, m1, c1, rfl, ho, hb⟩
  rw [hl] at ho
  obtain rfl : m1 = m := ho.1.symm.trans hm
  exact ⟨_, _, rfl, ho, hb⟩
theorem GrpIs.img {s k : Int} {n : Nat} (h1 : 1 ≤ s) (h2 : s ≤ 7) (hn : (n : Int) = s * s) (k1 : 0 ≤ k) (k2 : k < 8) {cs g : List Int} (hl : cs.length = n) (hv : Bd.okB s cs = true) {p : Nat} (hp : p < n) (h0 : cs.getD p 0 ≠ 0) (h : Reached s n (hasCol (cs.getD p 0) cs) (p : Int) g) : GrpIs s n (Bd.mv s k cs) ((Bd.imgN s k p : Nat) : Int) (Pt.imagesOf s k g) := by
  have hpl := (Bd.imgN_lt s k n p h1 h2 hn hp).1
  have hc := mv_get h1 h2 hn k1 k2 hl hp
  refine ⟨fun _ => ?_, fun h9 => ?_⟩
  · rw [Int.toNat_natCast, hc]
    exact h.img h1 h2 hn k1 k2 hl _ hp
  · exfalso
    have : hst s (Bd.mv s k cs) ((Bd.imgN s k p : Nat) : Int) = true := by
      unfold hst
      rw [okB_mv hv, (Pt.okP_iff s _).2 ⟨h1, h2, by omega, by omega⟩, Int.toNat_natCast, hc]
      simpa using h0
    rw [h9] at this; cases this
theorem LibIs.img {s k : Int} {n : Nat} (h1 : 1 ≤ s) (h2 : s ≤ 7) (hn : (n : Int) = s * s) (k1 : 0 ≤ k) (k2 : k < 8) {cs g l : List Int} (hl : cs.length = n) {p p' : Int} (hg : GrpIs s n cs p g) (ha : ∀ z ∈ g, 0 ≤ z ∧ z < n) (h : LibIs s n cs p l) (hg' : GrpIs s n (Bd.mv s k cs) p' (Pt.imagesOf s k g)) : LibIs s n (Bd.mv s k cs) p' (Pt.imagesOf s k l) := by
  obtain ⟨g', S, a, hS, rfl⟩ := h
  rw [a.one hg] at hS
  obtain ⟨T, hT⟩ := bi_make s 0 n (Bd.mv s k cs) (Pt.imagesOf s k g)
  exact ⟨_, T, hg', hT, (bi_img h1 h2 hn k1 k2 hl ha 0 hS hT).symm⟩
end Go.Proofs.Ytoflbpihcfdcgaa

