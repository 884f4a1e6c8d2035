/-
  Equal boards compare equal; a board's row is marked; the marks are found.
-/
import Derived.Test.YtpopbcmfbcmojaaBoardX
namespace Go.Proofs.Ytpopbcmfbcmojaa
set_option maxRecDepth 100000
open Go.RowKit

theorem drew_below {B : Nat} {a w : World} (h : Below B a w) (k : Nat) : Below B a (w.drewN k) := ⟨h.os, h.tape, h.output, h.size, h.block⟩

theorem b_eq (w : World) (s : Int) (B B' : Nat) (A A' : Option Addr) (n c c' : Nat) (xs : List Int) (h : Ints w B A n xs) (h' : Ints w B' A' n xs) (hB : B ≤ w.heap.size) (hB' : B' ≤ w.heap.size) (hn : n ≤ 1000000000) :
    Calls Try.prog 20 #[.agg #[.int .i64 s, .slice A n c], .agg #[.int .i64 s, .slice A' n c']] w fun e w' => e = .returned (.bool true) ∧ Below w.heap.size w w' := by
  have hb2 : Below w.heap.size w ((w.alloc (.cells #[.int .i64 s, .slice A n c] 25)).alloc (.cells #[.int .i64 s, .slice A' n c'] 25)) := ((Below.refl _ _).alloc (Nat.le_refl _) _).alloc (by simp) _
  have H := Lib.hid (h.below hb2 hB)
  have H' := Lib.hid (h'.below hb2 hB')
  have Hb := Lib.hid hb2
  clear h h' hb2
  go_enter Try.func20, Try.ntmps20
  go_wp2_with fail
  refine (eqs_t _ _ _ _ _ _ _ _ _ H.out H'.out hn).mono ?_
  rintro e w' ⟨k, rfl, rfl⟩
  go_wp2_with fail
  go_ret
  exact ⟨rfl, drew_below Hb.out k⟩

theorem b_mark (w : World) (s : Int) (B : Nat) (A : Option Addr) (n c : Nat) (xs : List Int) (k : Int) (h : Own w B A n c xs) (hn : n ≤ 1000000000) (k1 : 0 ≤ k) (k2 : k ≤ 1000000000) :
    Calls Try.prog 29 #[.agg #[.int .i64 s, .slice A n c], .int .i64 k] w fun e w' => Marked B A n c k w e w' := by
  have H := Lib.hid (h.alloc (.cells #[.int .i64 s, .slice A n c] 25))
  have hg1 := Lib.hid (World.grownBy_alloc w (.cells #[.int .i64 s, .slice A n c] 25) (Value.slice A n c).ownBlock)
  clear h
  go_enter Try.func29, Try.ntmps29
  go_wp2_with fail
  refine (mark_any _ _ _ _ _ _ k H.out hn k1 k2).mono ?_
  rintro e w' ⟨rfl, ho, hg⟩
  have Ho := Lib.hid ho
  have Hg := Lib.hid (gtrans hg1.out hg)
  clear ho hg
  go_wp2_with fail
  go_ret
  exact ⟨rfl, Ho.out, Hg.out⟩

end Go.Proofs.Ytpopbcmfbcmojaa
