/-
  Toward the laws of diagonals: their draw; what holds of every point of every board; an element that is found or not, and facts that go over to the next world.
-/
import Derived.Test.YtcloolldnjhljaaDoorDia
import Derived.Test.YtcloolldnjhljaaDoorListsB
import Derived.Test.YtcloolldnjhljaaDoorDrawPt
import Derived.Test.YtcloolldnjhljaaDoorNbImpl
namespace Go.Proofs.YtcloolldnjhljaaDoor
set_option maxRecDepth 100000
open Go.RowKit

namespace Bt
def diaB (s p : Int) : Bool := ((dia s p).all fun q => Pt.okP s q && (dia s q).contains p && !(Pt.nbs s p).contains q) && Pt.rises (dia s p)
  && (s == 1 || decide (((dia s p).length : Int) = (if p < s ∨ s * s - s ≤ p then 1 else 2) * (if p % s = 0 ∨ p % s = s - 1 then 1 else 2)))
theorem dia_all (s p : Int) (h1 : 1 ≤ s) (h2 : s ≤ 7) (h3 : 0 ≤ p) (h4 : p < s * s) : diaB s p = true :=
  Pt.all_sp (P := fun s p => diaB s p = true) (by decide +kernel) s p h1 h2 h3 h4
theorem diag_len (s p : Int) : (diag s p).length ≤ 4 := by
  unfold diag
  split
  · exact dis_len s p 4
  · simp
theorem diag_rises (s p : Int) : Pt.rises (diag s p) = true := by
  unfold diag
  split
  · rename_i h
    obtain ⟨h1, h2, h3, h4⟩ := (Pt.okP_iff s p).1 h
    have := dia_all s p h1 h2 h3 h4
    simp only [diaB, Bool.and_eq_true] at this
    exact this.1.2
  · rfl
theorem diag_mem {s p q : Int} (hq : q ∈ diag s p) : p ∈ diag s q ∧ q ∉ Pt.nb s p := by
  unfold diag at hq
  split at hq
  · rename_i h
    obtain ⟨h1, h2, h3, h4⟩ := (Pt.okP_iff s p).1 h
    have := dia_all s p h1 h2 h3 h4
    simp only [diaB, Bool.and_eq_true] at this
    have := List.all_eq_true.1 this.1.1 q hq
    simp only [Bool.and_eq_true, Bool.not_eq_true'] at this
    refine ⟨?_, ?_⟩
    · unfold diag
      rw [if_pos this.1.1]
      simpa using this.1.2
    · unfold Pt.nb
      rw [if_pos h]
      simpa using this.2
  · cases hq
theorem diag_at {s p : Int} {n : Nat} (hl : (diag s p).length = n) (j : Nat) (hj : j < n) : p ∈ diag s ((diag s p).getD j 0) ∧ (diag s p).getD j 0 ∉ Pt.nb s p := by
  refine diag_mem ?_
  have hj' : j < (diag s p).length := by omega
  rw [List.getD_eq_getElem?_getD, List.getElem?_eq_getElem hj']
  exact List.getElem_mem _
end Bt

theorem nb_few (s p : Int) : (Pt.nb s p).length ≤ 4 := by
  unfold Pt.nb
  split
  · rw [Pt.nbs, List.length_append, List.length_append, List.length_append]
    exact Nat.add_le_add (Nat.add_le_add (Nat.add_le_add (len_if _) (len_if _)) (len_if _)) (len_if _)
  · exact Nat.zero_le _

theorem d_dia (w : World) (a : Option Addr) (len cap : Nat) (zs : List Int) (h : IsRow .u8 w a len cap zs) :
    Calls Tryd.prog 16 #[.slice a len cap] w fun e w' => Two w e w' := by
  go_enter Tryd.func16, Tryd.ntmps16
  go_wp2_with fail
  refine (d_vp w a len cap zs h).mono ?_
  rintro e w1 ⟨x, y, rfl, hb⟩
  go_wp2_with fail
  go_ret2
  exact ⟨_, _, rfl, hb⟩

theorem undrewD {a b : World} (h : Below a.drew.heap.size a.drew b) : Below a.heap.size a b := ⟨h.os, h.tape, h.output, h.size, h.block⟩
theorem Ints.stp {w w' : World} {n : Nat} {A : Option Addr} {xs : List Int} (h : Ints w w.heap.size A n xs) (hb : Below w.heap.size w w') : Ints w' w'.heap.size A n xs := (h.below hb (Nat.le_refl _)).more hb.size
theorem Ints.drD {w : World} {n : Nat} {A : Option Addr} {xs : List Int} (h : Ints w w.heap.size A n xs) : Ints w.drew w.drew.heap.size A n xs := h
theorem Tab.drD {w : World} (h : Tab w) : Tab w.drew := h
theorem bstp {a w w' : World} (h : Below a.heap.size a w) (hb : Below w.heap.size w w') : Below a.heap.size a w' := h.trans (hb.mono h.size)

theorem in_y (w : World) (A : Option Addr) (n c : Nat) (xs : List Int) (x : Int) (h : Ints w w.heap.size A n xs) (hn : n ≤ 1000000000) (hx : x ∈ xs) :
    Calls Tryd.prog 18 #[.slice A n c, .int .i64 x] w fun e w' => e = .returned (.bool true) ∧ Below w.heap.size w w' := by
  refine (in_t w _ A n c xs x h hn hx).mono ?_
  rintro e w' ⟨rfl, rfl⟩
  exact ⟨rfl, Below.refl _ _⟩

theorem in_n (w : World) (A : Option Addr) (n c : Nat) (xs : List Int) (x : Int) (h : Ints w w.heap.size A n xs) (hn : n ≤ 1000000000) (hx : x ∉ xs) :
    Calls Tryd.prog 18 #[.slice A n c, .int .i64 x] w fun e w' => e = .returned (.bool false) ∧ Below w.heap.size w w' := by
  have hne : ∀ j, j < n → xs.getD j 0 ≠ x := fun j hj e => hx (by
    have hj' : j < xs.length := by rw [h.1]; exact hj
    rw [← e, List.getD_eq_getElem?_getD, List.getElem?_eq_getElem hj']
    exact List.getElem_mem _)
  have Hne := Lib.hid hne
  clear hne hx
  rcases h.2 with rfl | ⟨b, o, rfl, hlt, hc⟩
  · clear h
    go_enter Tryd.func18, Tryd.ntmps18
    go_wp2_with fail
    go_rounds 1
    go_ret
    exact ⟨rfl, Below.refl _ _⟩
  · have Hc := Lib.hid hc
    clear hc h
    go_enter Tryd.func18, Tryd.ntmps18
    go_wp2_with fail
    go_loop [5] (fun i => ∃ k : Nat, k ≤ n ∧ i = .int .i64 k) (fun i => n - (intOf i).toNat)
    case atStart => exact ⟨0, by omega, rfl⟩
    case round =>
      obtain ⟨k, hk, rfl⟩ := hrel
      by_cases hkn : k < n
      · have hck := Hc.out k hkn
        obtain ⟨y, hy⟩ : ∃ y, xs.getD k 0 = y := ⟨_, rfl⟩
        rw [hy] at hck
        have hyx : (y == x) = false := by rw [← hy]; simpa using Hne.out k hkn
        clear hy
        go_wp2_with fail
        go_round
        case rel => exact ⟨k + 1, by omega, by go_num⟩
        case measure => simp [intOf]; omega
      · obtain rfl : k = n := by omega
        go_wp2_with fail
        go_ret
        exact ⟨rfl, Below.refl _ _⟩
end Go.Proofs.YtcloolldnjhljaaDoor
