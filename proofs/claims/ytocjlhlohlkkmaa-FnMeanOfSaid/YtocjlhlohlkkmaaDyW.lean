/-
  The dyadic functions of both packages at named answers; the arguments of the laws; equality of numbers.
-/
import Derived.Test.YtocjlhlohlkkmaaDyK
import Derived.Test.YtocjlhlohlkkmaaDyC
import Derived.Test.YtocjlhlohlkkmaaDyN
import Derived.Test.YtocjlhlohlkkmaaDyO
namespace Go.Proofs.Ytocjlhlohlkkmaa
set_option maxRecDepth 100000
open Go.RowKit

def Dy.mk (n e : Int) : (Int × Int) × Bool := if Dy.okR n e = true then (Dy.low e.toNat n, true) else ((0, 0), false)
def Dy.ad (n e m k : Int) : (Int × Int) × Bool := if Dy.addB n e m k = true then (Dy.add n e m k, true) else ((0, 0), false)

theorem i_makeW (n e p q : Int) (b : Bool) (w : World) (h : Hid (Dy.mk n e = ((p, q), b))) : Calls Try.prog 18 #[.int .i64 n, .int .i64 e] w fun r w' => r = .returned (.tuple #[.agg #[.int .i64 p, .int .i64 q], .bool b]) ∧ Below w.heap.size w w' := by
  refine (i_make n e w).mono ?_
  rintro r w' ⟨rfl, hb⟩
  refine ⟨?_, hb⟩
  have := h.out
  unfold Dy.mk at this
  by_cases hr : Dy.okR n e = true
  · rw [if_pos hr] at this ⊢
    injection this with h1 h2
    rw [h1, ← h2]
  · rw [if_neg hr] at this ⊢
    injection this with h1 h2
    injection h1 with h3 h4
    rw [← h2, ← h3, ← h4]
theorem s_makeW (n e p q : Int) (b : Bool) (w : World) (h : Hid (Dy.mk n e = ((p, q), b))) : Calls Try.prog 19 #[.int .i64 n, .int .i64 e] w fun r w' => r = .returned (.tuple #[.agg #[.int .i64 p, .int .i64 q], .bool b]) ∧ Below w.heap.size w w' := by
  refine (s_make n e w).mono ?_
  rintro r w' ⟨rfl, hb⟩
  refine ⟨?_, hb⟩
  have := h.out
  unfold Dy.mk at this
  by_cases hr : Dy.okR n e = true
  · rw [if_pos hr] at this ⊢
    injection this with h1 h2
    rw [h1, ← h2]
  · rw [if_neg hr] at this ⊢
    injection this with h1 h2
    injection h1 with h3 h4
    rw [← h2, ← h3, ← h4]
theorem i_addW (n e m k p q : Int) (b : Bool) (w : World) (h : Hid (Dy.ad n e m k = ((p, q), b))) : Calls Try.prog 21 #[.agg #[.int .i64 n, .int .i64 e], .agg #[.int .i64 m, .int .i64 k]] w fun r w' => r = .returned (.tuple #[.agg #[.int .i64 p, .int .i64 q], .bool b]) ∧ Below w.heap.size w w' := by
  refine (i_add n e m k w).mono ?_
  rintro r w' ⟨rfl, hb⟩
  refine ⟨?_, hb⟩
  have := h.out
  unfold Dy.ad at this
  by_cases hr : Dy.addB n e m k = true
  · rw [if_pos hr] at this ⊢
    injection this with h1 h2
    rw [h1, ← h2]
  · rw [if_neg hr] at this ⊢
    injection this with h1 h2
    injection h1 with h3 h4
    rw [← h2, ← h3, ← h4]
theorem s_addW (n e m k p q : Int) (b : Bool) (w : World) (h : Hid (Dy.ad n e m k = ((p, q), b))) : Calls Try.prog 22 #[.agg #[.int .i64 n, .int .i64 e], .agg #[.int .i64 m, .int .i64 k]] w fun r w' => r = .returned (.tuple #[.agg #[.int .i64 p, .int .i64 q], .bool b]) ∧ Below w.heap.size w w' := by
  refine (s_add n e m k w).mono ?_
  rintro r w' ⟨rfl, hb⟩
  refine ⟨?_, hb⟩
  have := h.out
  unfold Dy.ad at this
  by_cases hr : Dy.addB n e m k = true
  · rw [if_pos hr] at this ⊢
    injection this with h1 h2
    rw [h1, ← h2]
  · rw [if_neg hr] at this ⊢
    injection this with h1 h2
    injection h1 with h3 h4
    rw [← h2, ← h3, ← h4]
theorem i_cmpW (n e m k c : Int) (w : World) (h : Hid (Dy.cmp n e m k = c)) : Calls Try.prog 25 #[.agg #[.int .i64 n, .int .i64 e], .agg #[.int .i64 m, .int .i64 k]] w fun r w' => r = .returned (.int .i64 c) ∧ Below w.heap.size w w' := by
  rw [← h.out]; exact i_cmp n e m k w
theorem s_cmpW (n e m k c : Int) (w : World) (h : Hid (Dy.cmp n e m k = c)) : Calls Try.prog 26 #[.agg #[.int .i64 n, .int .i64 e], .agg #[.int .i64 m, .int .i64 k]] w fun r w' => r = .returned (.int .i64 c) ∧ Below w.heap.size w w' := by
  rw [← h.out]; exact s_cmp n e m k w

theorem l_eqDy (x y : Int) (w : World) : Calls Try.prog 36 #[.agg #[.int .i64 x, .int .i64 y], .agg #[.int .i64 x, .int .i64 y]] w fun r w' => r = .returned (.bool true) ∧ Below w.heap.size w w' := by
  go_enter Try.func36, Try.ntmps36
  go_wp2
  go_ret
  exact ⟨rfl, ((Below.refl _ _).alloc (Nat.le_refl _) _).alloc (by simp) _⟩
theorem l_toDy (x y : Int) (w : World) : Calls Try.prog 37 #[.agg #[.int .i64 x, .int .i64 y]] w fun r w' => r = .returned (.agg #[.int .i64 x, .int .i64 y]) ∧ Below w.heap.size w w' := by
  go_enter Try.func37, Try.ntmps37
  go_wp2
  go_returns
  exact ⟨rfl, (((Below.refl _ _).alloc (Nat.le_refl _) _).alloc (by simp) _).alloc (by simp; omega) _⟩
end Go.Proofs.Ytocjlhlohlkkmaa
