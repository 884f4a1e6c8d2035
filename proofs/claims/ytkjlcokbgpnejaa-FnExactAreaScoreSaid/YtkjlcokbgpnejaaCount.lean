/-
  Counting the points of a color: both packages compute the same number, -1 for boards that are not valid.
-/
import Derived.Test.YtkjlcokbgpnejaaBoardI
namespace Go.Proofs.Ytkjlcokbgpnejaa
set_option maxRecDepth 100000
open Go.RowKit

def cnt (x : Int) (cs : List Int) : Int := ((cs.filter fun c => c == x).length : Nat)
theorem cnt_bd (x : Int) (cs : List Int) : 0 ≤ cnt x cs ∧ cnt x cs ≤ cs.length := by
  unfold cnt
  have := List.length_filter_le (fun c => c == x) cs
  omega
theorem cnt_yes {x : Int} {cs : List Int} {k : Nat} (h : k < cs.length) (hx : (cs.getD k 0 == x) = true) : cnt x (cs.take (k + 1)) = cnt x (cs.take k) + 1 := by
  have e : cs.getD k 0 = cs[k] := by simp [List.getD_eq_getElem?_getD, List.getElem?_eq_getElem h]
  rw [e] at hx
  unfold cnt
  rw [List.take_succ_eq_append_getElem h, List.filter_append, List.length_append, List.filter_cons, hx]
  simp
theorem cnt_no {x : Int} {cs : List Int} {k : Nat} (h : k < cs.length) (hx : (cs.getD k 0 == x) = false) : cnt x (cs.take (k + 1)) = cnt x (cs.take k) := by
  have e : cs.getD k 0 = cs[k] := by simp [List.getD_eq_getElem?_getD, List.getElem?_eq_getElem h]
  rw [e] at hx
  unfold cnt
  rw [List.take_succ_eq_append_getElem h, List.filter_append, List.length_append, List.filter_cons, hx]
  simp

theorem i_cnt (w : World) (B : Nat) (A : Option Addr) (n c : Nat) (cs : List Int) (x : Int) (h : Ints w B A n cs) (hn : n ≤ 1000000000) :
    Calls Try.prog 56 #[.slice A n c, .int .i64 x] w fun e w' => e = .returned (.int .i64 (cnt x cs)) ∧ w = w' := by
  have hl := h.1
  rcases h.2 with rfl | ⟨b, o, rfl, hlt, hc⟩
  · have hx : cs = [] := List.eq_nil_of_length_eq_zero hl
    subst hx
    clear h hl
    go_enter Try.func56, Try.ntmps56
    go_wp2_with fail
    go_rounds 1
    go_ret
    exact ⟨rfl, rfl⟩
  · have Hc := Lib.hid hc
    have Hl := Lib.hid hl
    clear hc h hl
    go_enter Try.func56, Try.ntmps56
    go_wp2_with fail
    go_loop [5, 10] (fun m i => ∃ k : Nat, k ≤ n ∧ i = .int .i64 k ∧ m = .int .i64 (cnt x (cs.take k))) (fun _ i => n - (intOf i).toNat)
    case atStart => exact ⟨0, by omega, rfl, rfl⟩
    case round =>
      obtain ⟨k, hk, rfl, rfl⟩ := hrel
      obtain ⟨b1, b2⟩ := cnt_bd x (cs.take k)
      have b3 : ((cs.take k).length : Int) ≤ k := by rw [List.length_take]; omega
      by_cases hlt : k < n
      · have c1 := Hc.out k hlt
        have hy := Lib.hid (cnt_yes (x := x) (cs := cs) (k := k) (by rw [Hl.out]; exact hlt))
        have hno := Lib.hid (cnt_no (x := x) (cs := cs) (k := k) (by rw [Hl.out]; exact hlt))
        obtain ⟨y, hyy⟩ : ∃ y, cs.getD k 0 = y := ⟨_, rfl⟩
        rw [hyy] at c1 hy hno
        clear hyy
        rcases Bool.eq_false_or_eq_true (y == x) with ht | ht
        · have Hy := Lib.hid (hy.out ht)
          clear hy hno
          go_wp2_with fail
          go_round
          case rel => exact ⟨k + 1, by omega, by go_num, by rw [Hy.out]⟩
          case measure => simp [intOf]; omega
        · have Hy := Lib.hid (hno.out ht)
          clear hy hno
          go_wp2_with fail
          go_round
          case rel => exact ⟨k + 1, by omega, by go_num, by rw [Hy.out]⟩
          case measure => simp [intOf]; omega
      · have hf : cnt x (cs.take k) = cnt x cs := by rw [List.take_of_length_le (by rw [Hl.out]; omega)]
        have Hf := Lib.hid hf
        clear hf
        go_wp2_with fail
        go_ret
        exact ⟨ret_int Hf.out, rfl⟩

theorem s_cnt (s : Int) (w : World) (B : Nat) (A : Option Addr) (n c : Nat) (cs : List Int) (x : Int) (h : Ints w B A n cs) (hB : B ≤ w.heap.size) (hn : n ≤ 1000000000) :
    Calls Try.prog 52 #[.agg #[.int .i64 s, .slice A n c], .int .i64 x] w fun e w' => e = .returned (.int .i64 (cnt x cs)) ∧ Below w.heap.size w w' := by
  have hb1 : Below w.heap.size w (w.alloc (.cells #[.int .i64 s, .slice A n c] 28)) := (Below.refl _ _).alloc (Nat.le_refl _) _
  have h1 := h.below hb1 hB
  have Hb := Lib.hid hb1
  have hl := h.1
  clear hb1
  rcases h1.2 with h0 | ⟨b, o, hA, hlt, hc⟩
  · subst h0
    have hx : cs = [] := List.eq_nil_of_length_eq_zero hl
    subst hx
    clear h hl h1
    go_enter Try.func52, Try.ntmps52
    go_wp2_with fail
    go_rounds 1
    go_ret
    exact ⟨rfl, Hb.out⟩
  · have HA := Lib.hid hA
    subst hA
    have Hc := Lib.hid hc
    have Hl := Lib.hid hl
    have Bxx := Lib.hid (Bx.new 28 w s (.slice (some ⟨b, o, none⟩) n c))
    clear hc h hl h1 HA
    go_enter Try.func52, Try.ntmps52
    go_wp2_with fail
    have v1 := Bxx.out.cell1
    go_loop [5, 6] (fun m i => ∃ k : Nat, k ≤ n ∧ i = .int .i64 k ∧ m = .int .i64 (cnt x (cs.take k))) (fun _ i => n - (intOf i).toNat)
    case atStart => exact ⟨0, by omega, rfl, rfl⟩
    case round =>
      obtain ⟨k, hk, rfl, rfl⟩ := hrel
      obtain ⟨b1, b2⟩ := cnt_bd x (cs.take k)
      have b3 : ((cs.take k).length : Int) ≤ k := by rw [List.length_take]; omega
      by_cases hlt : k < n
      · have c1 := Hc.out k hlt
        have hy := Lib.hid (cnt_yes (x := x) (cs := cs) (k := k) (by rw [Hl.out]; exact hlt))
        have hno := Lib.hid (cnt_no (x := x) (cs := cs) (k := k) (by rw [Hl.out]; exact hlt))
        obtain ⟨y, hyy⟩ : ∃ y, cs.getD k 0 = y := ⟨_, rfl⟩
        rw [hyy] at c1 hy hno
        clear hyy
        rcases Bool.eq_false_or_eq_true (y == x) with ht | ht
        · have Hy := Lib.hid (hy.out ht)
          clear hy hno
          go_wp2_with fail
          go_round
          case rel => exact ⟨k + 1, by omega, by go_num, by rw [Hy.out]⟩
          case measure => simp [intOf]; omega
        · have Hy := Lib.hid (hno.out ht)
          clear hy hno
          go_wp2_with fail
          go_round
          case rel => exact ⟨k + 1, by omega, by go_num, by rw [Hy.out]⟩
          case measure => simp [intOf]; omega
      · have hf : cnt x (cs.take k) = cnt x cs := by rw [List.take_of_length_le (by rw [Hl.out]; omega)]
        have Hf := Lib.hid hf
        clear hf
        go_wp2_with fail
        go_ret
        exact ⟨ret_int Hf.out, Hb.out⟩

def cntB (s : Int) (cs : List Int) (x : Int) : Int := if Bd.okB s cs then cnt x cs else -1

theorem i_count (s : Int) (w : World) (B : Nat) (A : Option Addr) (n c : Nat) (cs : List Int) (x : Int) (h : Ints w B A n cs) (hB : B ≤ w.heap.size) (hn : n ≤ 1000000000) :
    Calls Try.prog 28 #[.agg #[.int .i64 s, .slice A n c], .int .i64 x] w fun e w' => e = .returned (.int .i64 (cntB s cs x)) ∧ Below w.heap.size w w' := by
  have hb1 : Below w.heap.size w (w.alloc (.cells #[.int .i64 s, .slice A n c] 28)) := (Below.refl _ _).alloc (Nat.le_refl _) _
  have H := Lib.hid (h.below hb1 hB)
  have Hb := Lib.hid hb1
  have Bxx := Lib.hid (Bx.new 28 w s (.slice A n c))
  clear hb1 h
  by_cases hv : Bd.okB s cs = true
  · have Hf := Lib.hid (show cntB s cs x = cnt x cs by rw [cntB, if_pos hv])
    go_enter Try.func28, Try.ntmps28
    go_wp2_with fail
    refine (i_validBoard _ _ _ _ _ _ _ H.out (by simp; omega) hn).mono ?_
    rintro e y ⟨rfl, hb⟩
    have v0 := (Bxx.out.below hb (by simp)).cell0
    have v1 := (Bxx.out.below hb (by simp)).cell1
    have H2 := Lib.hid (H.out.below hb (by simp; omega))
    have Hb2 := Lib.hid (Hb.out.trans (hb.mono (by simp)))
    clear hb
    rw [hv]
    go_wp2_with fail
    refine (i_cnt _ _ _ _ _ _ _ H2.out hn).mono ?_
    rintro e y2 ⟨rfl, rfl⟩
    go_wp2_with fail
    go_ret
    exact ⟨ret_int Hf.out.symm, Hb2.out⟩
  · have hv' : Bd.okB s cs = false := by simpa using hv
    have Hf := Lib.hid (show cntB s cs x = -1 by rw [cntB, if_neg hv])
    go_enter Try.func28, Try.ntmps28
    go_wp2_with fail
    refine (i_validBoard _ _ _ _ _ _ _ H.out (by simp; omega) hn).mono ?_
    rintro e y ⟨rfl, hb⟩
    have Hb2 := Lib.hid (Hb.out.trans (hb.mono (by simp)))
    clear hb hv
    rw [hv']
    go_wp2_with fail
    go_ret
    exact ⟨ret_int Hf.out.symm, Hb2.out⟩
end Go.Proofs.Ytkjlcokbgpnejaa
