/-
  The program's readRow: a row of a board is read from its text.
-/
import Derived.Test.YtmokpaofljdehaaPbP
import Derived.Test.YtmokpaofljdehaaIxB
import Derived.Test.YtmokpaofljdehaaMarks
import Derived.Test.YtmokpaofljdehaaRows2
import Derived.Deep.QuietTactic
import Derived.BigQuiet
import Derived.IntWalk
namespace Go.Proofs.Ytmokpaofljdehaa
set_option maxRecDepth 100000
open Go.RowKit

theorem gboth {a b : World} {row : Option Nat} (h : a.grownBy b row) : a.heap.size ≤ b.heap.size := h.size

set_option maxRecDepth 100000 in
set_option maxHeartbeats 4000000 in
/-- 'readRow' on a part of a row of the call's own. -/
theorem i_readRow (T : ByteArray) (k : Nat) (hT : T.size = k) (w : World) (B g n c off cap : Nat) (cs : List Int) (h : Own w B (some ⟨g, 0, none⟩) n c cs) (hoff : off + k ≤ n) (hn : n ≤ 1000000) (hcap : k ≤ cap) :
    Calls Try.prog 64 #[.slice (some ⟨g, off, none⟩) k cap, .string T] w fun e w' =>
      ∃ (b : Bool) (cs' : List Int) (j : Nat), e = .returned (.bool b) ∧ j ≤ k ∧ Fm.Rr T off j cs cs' ∧ (b = true → j = k) ∧ (b = false → j < k ∧ Fm.lx (Fm.byt T j) < 0) ∧ Own w' B (some ⟨g, 0, none⟩) n c cs' ∧ w.grownBy w' (some g) := by
  have Hl := Lib.hid h.1
  have Ho := Lib.hid h
  have Hs := Lib.hid (Fm.Rr.start T off cs)
  have Hg := Lib.hid (World.grownBy.refl w (some g))
  clear h
  go_enter Try.func64, Try.ntmps64
  go_wp2_with fail
  go_loopw [9] (fun v wr => ∃ (j : Nat) (ds : List Int), j ≤ k ∧ v = .int .i64 (j : Nat) ∧ Fm.Rr T off j cs ds ∧ Own wr B (some ⟨g, 0, none⟩) n c ds ∧ w.grownBy wr (some g)) (fun v _ => k - (intOf v).toNat)
  case atStart => exact ⟨0, _, by omega, rfl, Hs.out, Ho.out, Hg.out⟩
  case round =>
    clear Ho Hs Hg
    obtain ⟨j, ds, hj, rfl, hr, ho, hg⟩ := hrel
    have Hr := Lib.hid hr
    have Ho := Lib.hid ho
    have Hg := Lib.hid hg
    clear hr ho hg
    by_cases hjk : j < k
    · have hjT : j < T.size := by omega
      obtain ⟨x, hx⟩ : ∃ x, Fm.lx (Fm.byt T j) = x := ⟨_, rfl⟩
      have hix : Lib.indexByte (ByteArray.mk #[46, 88, 79]).data.toList ((T[j].toNat : Int).toNat.toUInt8) = x := by
        have e : (T[j].toNat : Int).toNat.toUInt8 = T[j] := by simp
        rw [e, ← hx, Fm.byt_eq hjT]
        exact Fm.lx_index T[j]
      have hxb := Fm.lx_bd (Fm.byt T j)
      rw [hx] at hxb
      have Hx := Lib.hid hx
      clear hx
      obtain ⟨v, hv0⟩ : ∃ v, wr.cell? ⟨g, off + j, none⟩ = some v := by
        have := World.ownsRow.cellAt Ho.out.2 (off + j) (by omega)
        rw [this]
        exact ⟨_, List.getElem?_eq_getElem (by rw [List.length_map, Ho.out.1]; omega)⟩
      have hf := World.ownsRow.frozenAt Ho.out.2 (off + j)
      by_cases hneg : x < 0
      · have Hneg := Lib.hid hneg
        clear Hl
        go_wp2_with fail
        refine (i_indexByte _ _ _).mono ?_
        rintro e w' ⟨rfl, rfl⟩
        rw [hix]
        go_wp2_with fail
        go_ret
        exact ⟨false, ds, j, rfl, by omega, Hr.out, (fun h => by cases h), (fun _ => ⟨hjk, by rw [Hx.out]; exact Hneg.out⟩), Ho.out, Hg.out⟩
      · have Hr2 := Lib.hid (Hr.out.step (by have := Hl.out; omega) (by rw [Hx.out]; omega))
        rw [Hx.out] at Hr2
        have hneg' : ¬ x < 0 := hneg
        go_wp2_with fail
        refine (i_indexByte _ _ _).mono ?_
        rintro e w' ⟨rfl, rfl⟩
        rw [hix]
        go_wp2_with fail
        go_roundw
        case rel => exact ⟨j + 1, _, by omega, by go_num, Hr2.out, (Own.stored Ho.out (off + j) x).1, gtrans Hg.out (Own.stored Ho.out (off + j) x).2⟩
        case measure => simp [intOf]; omega
    · obtain rfl : j = k := by omega
      go_wp2_with fail
      go_ret
      exact ⟨true, ds, _, rfl, Nat.le_refl _, Hr.out, (fun _ => rfl), (fun h => by cases h), Ho.out, Hg.out⟩
end Go.Proofs.Ytmokpaofljdehaa
