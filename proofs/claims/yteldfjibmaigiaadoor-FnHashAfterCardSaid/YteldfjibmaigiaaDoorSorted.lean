/-
  The model's 'sorted'.
-/
import Derived.Test.YteldfjibmaigiaaDoorSortP
import Derived.Test.YteldfjibmaigiaaDoorInvS
import Derived.Test.YteldfjibmaigiaaDoorMarks
import Derived.Deep.QuietTactic
import Derived.BigQuiet
namespace Go.Proofs.YteldfjibmaigiaaDoor
set_option maxRecDepth 100000
open Go.RowKit

set_option maxRecDepth 100000 in
set_option maxHeartbeats 4000000 in
theorem s_sorted (w : World) (B : Nat) (A : Option Addr) (n c : Nat) (xs : List Int) (h : Ints w B A n xs) (hB : B ≤ w.heap.size) (hn : n ≤ 1000000) :
    Calls Tryd.prog 67 #[.slice A n c] w fun e w' => ∃ A' c' ys, e = .returned (.slice A' n c') ∧ Own w' w.heap.size A' n c' ys ∧ So.SO xs ys n ∧ Below w.heap.size w w' := by
  have H := Lib.hid h
  have hl := h.1
  clear h
  go_enter Tryd.func67, Tryd.ntmps67
  go_wp2_with fail
  refine (s_copyInts _ _ _ _ _ _ H.out hB hn).mono ?_
  rintro e y ⟨A1, c1, rfl, ho, hb⟩
  have Ho := Lib.hid ho
  have Hb := Lib.hid hb
  have hzy := hb.size
  clear ho hb
  go_wp2_with fail
  go_loopw [4] (fun i wr => ∃ k ys, 1 ≤ k ∧ (k ≤ n ∨ k = 1) ∧ i = .int .i64 (k : Nat) ∧ Own wr w.heap.size A1 n c1 ys ∧ So.SO xs ys k ∧ Below w.heap.size w wr) (fun i _ => n - (intOf i).toNat)
  case atStart => exact ⟨1, _, by omega, by omega, rfl, Ho.out, So.SO.start xs, Hb.out⟩
  case round =>
    clear Ho Hb
    obtain ⟨k, ys, hk1, hk2, rfl, ho, hso, hbr⟩ := hrel
    obtain ⟨wo, rfl⟩ : ∃ wo : World, wo = wr := ⟨_, rfl⟩
    have Ho := Lib.hid ho
    have Hso := Lib.hid hso
    have Hbr := Lib.hid hbr
    clear ho hso hbr
    by_cases hkn : k < n
    · obtain ⟨g, hA1⟩ : ∃ g, A1 = some ⟨g, 0, none⟩ := by
        obtain ⟨g, cap, hv, _⟩ := World.ownsRow.form Ho.out.2 (by omega)
        exact ⟨g, by injection hv⟩
      subst hA1
      have hkk : (k : Int) < n := by omega
      go_wp2_with fail
      go_loopw [5] (fun i wr => ∃ j zs, j ≤ k ∧ i = .int .i64 (j : Nat) ∧ Own wr w.heap.size (some ⟨g, 0, none⟩) n c1 zs ∧ So.SI xs zs k j ∧ Below w.heap.size w wr) (fun i _ => (intOf i).toNat)
      case atStart => exact ⟨k, _, by omega, rfl, Ho.out, Hso.out.go, Hbr.out⟩
      case round =>
        clear Ho Hso Hbr
        obtain ⟨j, zs, hj, rfl, ho, hsi, hbr⟩ := hrel
        have hzl := ho.1
        have hgg := (ho.ge rfl).1
        have Ho := Lib.hid ho
        have Hsi := Lib.hid hsi
        have Hbr := Lib.hid hbr
        clear ho hsi hbr
        by_cases hj0 : j = 0
        · subst hj0
          have Hst := Lib.hid (Hsi.out.stop hj (.inl rfl))
          go_wp2_with fail
          go_quiet (fail)
          go_wp2_with fail
          go_roundw
          case rel => exact ⟨k + 1, _, by omega, by omega, by go_num, Own.drewN Ho.out _, Hst.out, ⟨Hbr.out.os, Hbr.out.tape, Hbr.out.output, Hbr.out.size, Hbr.out.block⟩⟩
          case measure => simp [intOf]; omega
        · obtain ⟨i, rfl⟩ : ∃ i, j = i + 1 := ⟨j - 1, by omega⟩
          have c1' : wr.cell? ⟨g, i + 1, none⟩ = some (.int .i64 (zs.getD (i + 1) 0)) := by
            rw [World.ownsRow.cellAt Ho.out.2 (i + 1) (by omega)]
            simp [List.getD_eq_getElem?_getD, List.getElem?_eq_getElem (show i + 1 < zs.length by omega)]
          have c0' : wr.cell? ⟨g, i, none⟩ = some (.int .i64 (zs.getD i 0)) := by
            rw [World.ownsRow.cellAt Ho.out.2 i (by omega)]
            simp [List.getD_eq_getElem?_getD, List.getElem?_eq_getElem (show i < zs.length by omega)]
          have f1 := World.ownsRow.frozenAt Ho.out.2 (i + 1)
          have f0 := World.ownsRow.frozenAt Ho.out.2 i
          by_cases hlt : zs.getD (i + 1) 0 < zs.getD i 0
          · have Hsw := Lib.hid (Hsi.out.swap (by omega) hj (by omega) hlt)
            obtain ⟨u1, hu1⟩ : ∃ u, zs.getD (i + 1) 0 = u := ⟨_, rfl⟩
            obtain ⟨u0, hu0⟩ : ∃ u, zs.getD i 0 = u := ⟨_, rfl⟩
            have Hu1 := Lib.hid hu1
            have Hu0 := Lib.hid hu0
            rw [hu1] at c1' hlt
            rw [hu0] at c0' hlt
            clear hu1 hu0
            go_wp2_with fail
            go_quiet (fail)
            go_wp2_with fail
            go_roundw
            case rel =>
              have hst := ((Ho.out.drewN nq).stored (i + 1) u0).1
              refine ⟨i, _, by omega, by go_num, Own.stored hst i u1 |>.1, by have := Hsw.out; rw [show i + 1 - 1 = i from rfl, Hu1.out, Hu0.out] at this; exact this, ?_⟩
              have hbd : Below w.heap.size w (wr.drewN nq) := ⟨Hbr.out.os, Hbr.out.tape, Hbr.out.output, Hbr.out.size, Hbr.out.block⟩
              exact (hbd.setCell (p := ⟨g, i + 1, none⟩) hgg (.int .i64 u0)).setCell (p := ⟨g, i, none⟩) hgg (.int .i64 u1)
            case measure => simp [intOf]
          · have Hst := Lib.hid (Hsi.out.stop hj (.inr (by show zs.getD i 0 ≤ zs.getD (i + 1) 0; omega)))
            obtain ⟨u1, hu1⟩ : ∃ u, zs.getD (i + 1) 0 = u := ⟨_, rfl⟩
            obtain ⟨u0, hu0⟩ : ∃ u, zs.getD i 0 = u := ⟨_, rfl⟩
            rw [hu1] at c1' hlt
            rw [hu0] at c0' hlt
            clear hu1 hu0
            go_wp2_with fail
            go_quiet (fail)
            go_wp2_with fail
            go_roundw
            case rel => exact ⟨k + 1, _, by omega, by omega, by go_num, Own.drewN Ho.out _, Hst.out, ⟨Hbr.out.os, Hbr.out.tape, Hbr.out.output, Hbr.out.size, Hbr.out.block⟩⟩
            case measure => simp [intOf]; omega
    · have hfin : So.SO xs ys n := by
        rcases hk2 with h | h
        · obtain rfl : k = n := by omega
          exact Hso.out
        · exact ⟨Hso.out.len, Hso.out.perm, fun a b h1 h2 => Hso.out.pair a b h1 (by omega)⟩
      have Hfin := Lib.hid hfin
      clear hfin
      go_wp2_with fail
      go_ret
      exact ⟨_, _, _, rfl, Ho.out, Hfin.out, Hbr.out⟩
end Go.Proofs.YteldfjibmaigiaaDoor
