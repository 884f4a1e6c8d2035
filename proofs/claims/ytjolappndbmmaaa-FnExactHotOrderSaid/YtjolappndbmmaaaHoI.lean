/-
  The order of switches: the closure that compares two of them by heat.
-/
import Derived.Test.YtjolappndbmmaaaSwA
import Derived.Test.YtjolappndbmmaaaHoP
namespace Go.Proofs.Ytjolappndbmmaaa
set_option maxRecDepth 100000
open Go.RowKit

theorem i_cmpB (x y : Int) (w : World) : Calls Try.prog 59 #[.int .i64 x, .int .i64 y] w fun r w' => r = .returned (.int .i64 (if x < y then -1 else if y < x then 1 else 0)) ∧ Below w.heap.size w w' :=
  (i_cmpI x y w).mono fun _ _ h => ⟨h.1, h.2 ▸ Below.refl _ _⟩
theorem undrew {a b : World} (h : Below a.drew.heap.size a.drew b) : Below a.heap.size a b := ⟨h.os, h.tape, h.output, h.size, h.block⟩
theorem bstep {a w w' : World} (h : Below a.heap.size a w) (hb : Below w.heap.size w w') : Below a.heap.size a w' := h.trans (hb.mono h.size)
theorem cell_below {w w' : World} {a : Addr} {v : Value} (h : w.cell? a = some v) (hb : Below w.heap.size w w') : w'.cell? a = some v :=
  (World.cell?_of_block (w := w) (hb.block _ (World.block_lt_of_cell? w _ h))).trans h

set_option maxRecDepth 100000 in
set_option maxHeartbeats 2000000 in
theorem i_cl (w : World) (gb b o n c i j : Nat) (li ri lj rj k : Int) (hg : w.cell? ⟨gb, 0, none⟩ = some (.slice (some ⟨b, o, none⟩) n c)) (hi : i < n) (hj : j < n)
    (ci0 : w.cell? ⟨b, o + i * 2, none⟩ = some (.int .i64 li)) (ci1 : w.cell? ⟨b, o + i * 2 + 1, none⟩ = some (.int .i64 ri)) (cj0 : w.cell? ⟨b, o + j * 2, none⟩ = some (.int .i64 lj)) (cj1 : w.cell? ⟨b, o + j * 2 + 1, none⟩ = some (.int .i64 rj))
    (oi : Sw.ok li ri = true) (oj : Sw.ok lj rj = true) (hk : (if lj - rj < li - ri then -1 else if li - ri < lj - rj then 1 else 0) = k) :
    Calls Try.prog 58 #[.int .i64 (i : Nat), .int .i64 (j : Nat), .pointer (some ⟨gb, 0, none⟩)] w fun e w' => e = .returned (.int .i64 k) ∧ Below w.heap.size w w' := by
  have Oi := Lib.hid oi
  have Oj := Lib.hid oj
  obtain ⟨Hi, hHi⟩ : ∃ H, li - ri = H := ⟨_, rfl⟩
  obtain ⟨Hj, hHj⟩ : ∃ H, lj - rj = H := ⟨_, rfl⟩
  rw [hHi, hHj] at hk
  have Hk := Lib.hid hk
  have KHi := Lib.hid hHi
  have KHj := Lib.hid hHj
  have HC := Lib.hid (Below.refl w.heap.size w)
  have hin : ((i : Nat) : Int) < n := by omega
  have hjn : ((j : Nat) : Int) < n := by omega
  have hi0 : (0 : Int) ≤ (i : Nat) := by omega
  have hj0 : (0 : Int) ≤ (j : Nat) := by omega
  clear oi oj hk hHi hHj
  go_enter Try.func58, Try.ntmps58
  go_wp2_with fail
  go_region_held3 (fun w' => w'.cell? ⟨gb, 0, none⟩ = some (.slice (some ⟨b, o, none⟩) n c) ∧ w'.cell? ⟨b, o + i * 2, none⟩ = some (.int .i64 li) ∧ w'.cell? ⟨b, o + i * 2 + 1, none⟩ = some (.int .i64 ri) ∧ w'.cell? ⟨b, o + j * 2, none⟩ = some (.int .i64 lj) ∧ w'.cell? ⟨b, o + j * 2 + 1, none⟩ = some (.int .i64 rj)) (first | exact ⟨hg, ci0, ci1, cj0, cj1⟩ | go_keep) (first | (go_at_call 59; refine (i_cmpB Hj Hi _).mono ?_; rintro e yc ⟨rfl, hb9⟩; (try replace hb9 := undrew hb9); have HC := Lib.hid (bstep HC.out hb9); have hg := cell_below (by exact hg) hb9; have ci0 := cell_below (by exact ci0) hb9; have ci1 := cell_below (by exact ci1) hb9; have cj0 := cell_below (by exact cj0) hb9; have cj1 := cell_below (by exact cj1) hb9; rw [Hk.out]; clear hb9) | (go_at_call 60; (with_reducible show Calls _ _ #[.agg #[.int .i64 lj, .int .i64 rj]] _ _); refine (i_swheat lj rj _ Oj.out).mono ?_; rintro e yc ⟨rfl, hb9⟩; (try replace hb9 := undrew hb9); have HC := Lib.hid (bstep HC.out hb9); have hg := cell_below (by exact hg) hb9; have ci0 := cell_below (by exact ci0) hb9; have ci1 := cell_below (by exact ci1) hb9; have cj0 := cell_below (by exact cj0) hb9; have cj1 := cell_below (by exact cj1) hb9; rw [KHj.out]; clear hb9) | (go_at_call 60; (with_reducible show Calls _ _ #[.agg #[.int .i64 li, .int .i64 ri]] _ _); refine (i_swheat li ri _ Oi.out).mono ?_; rintro e yc ⟨rfl, hb9⟩; (try replace hb9 := undrew hb9); have HC := Lib.hid (bstep HC.out hb9); have hg := cell_below (by exact hg) hb9; have ci0 := cell_below (by exact ci0) hb9; have ci1 := cell_below (by exact ci1) hb9; have cj0 := cell_below (by exact cj0) hb9; have cj1 := cell_below (by exact cj1) hb9; rw [KHi.out]; clear hb9))
  all_goals go_wp2_with fail
  all_goals go_ret
  all_goals exact ⟨rfl, HC.out⟩
end Go.Proofs.Ytjolappndbmmaaa
