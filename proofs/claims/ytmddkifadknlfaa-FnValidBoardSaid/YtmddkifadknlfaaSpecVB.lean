/-
  The model's ValidBoard, for every board.
-/
import Derived.Test.YtmddkifadknlfaaBoard
namespace Go.Proofs.Ytmddkifadknlfaa
set_option maxRecDepth 100000
open Go.RowKit

theorem s_VB (s : Int) (w : World) (B : Nat) (A : Option Addr) (n c : Nat) (cs : List Int) (h : Ints w B A n cs) (hB : B ≤ w.heap.size) (hn : n ≤ 1000000000) :
    Calls Try.prog 7 #[.agg #[.int .i64 s, .slice A n c]] w fun e w' => e = .returned (.bool (Bd.okB s cs)) ∧ Below w.heap.size w w' := by
  have hb1 : Below w.heap.size w (w.alloc (.cells #[.int .i64 s, .slice A n c] 25)) := (Below.refl _ _).alloc (Nat.le_refl _) _
  have H := Lib.hid (h.below hb1 hB)
  have Hb := Lib.hid hb1
  clear h hb1
  go_enter Try.func7, Try.ntmps7
  go_wp2_with fail
  refine (s_validBoard _ _ _ _ _ _ _ H.out (by simp; omega) hn).mono ?_
  rintro e x ⟨rfl, hb⟩
  have Hb2 := Lib.hid (Hb.out.trans (hb.mono (by simp)))
  clear hb
  go_wp2_with fail
  go_ret
  exact ⟨rfl, Hb2.out⟩
end Go.Proofs.Ytmddkifadknlfaa
