/-
  What the laws of the simplest number between two others turn on.
-/
import Derived.Test.YtocjlhlohlkkmaaDyV
import Derived.Test.YtocjlhlohlkkmaaDyL
namespace Go.Proofs.Ytocjlhlohlkkmaa
set_option maxRecDepth 100000
open Go.RowKit

theorem Dy.simP (n e m k : Int) : ∃ (p q : Int) (b : Bool), (Dy.simR n e m k = if b = true then some (p, q) else none) ∧ (b = false → p = 0 ∧ q = 0) := by
  cases h : Dy.simR n e m k with
  | none => exact ⟨0, 0, false, rfl, fun _ => ⟨rfl, rfl⟩⟩
  | some x => exact ⟨x.1, x.2, true, rfl, fun h => by cases h⟩
theorem Dy.simR_some {n e m k p q : Int} (h : Dy.simR n e m k = some (p, q)) : Dy.ok n e = true ∧ Dy.ok m k = true ∧ Dy.sim (Dy.sc n e) (Dy.sc m k) = some (p, q) := by
  unfold Dy.simR at h
  by_cases ho : Dy.ok n e = true ∧ Dy.ok m k = true
  · rw [if_pos ho] at h
    exact ⟨ho.1, ho.2, h⟩
  · rw [if_neg ho] at h
    cases h
theorem Dy.simR_cmp {n e m k p q : Int} (h : Dy.simR n e m k = some (p, q)) : Dy.cmp n e p q = -1 ∧ Dy.cmp p q m k = -1 := by
  obtain ⟨o1, o2, hs⟩ := Dy.simR_some h
  obtain ⟨o3, h1, h2⟩ := Dy.sim_ok hs
  rw [Dy.cmp_ok o1 o3, Dy.cmp_ok o3 o2, if_pos h1, if_pos h2]
  exact ⟨rfl, rfl⟩
theorem Dy.mk_val {n e p q : Int} (h : Dy.mk n e = ((p, q), true)) : Dy.ok p q = true ∧ Dy.sc p q = Dy.sc n e ∧ -9999 ≤ n ∧ n ≤ 9999 := by
  obtain ⟨hr, hl⟩ := Dy.mk_true h
  obtain ⟨a, b, c, d⟩ := Dy.okR_iff.1 hr
  obtain ⟨hb, hodd, _⟩ := Dy.mk_cross h
  have hs := (Dy.low_spec e.toNat n (by omega)).2.2.2.1
  rw [hl] at hs
  simp only at hs
  rw [show ((e.toNat : Nat) : Int) = e by omega] at hs
  exact ⟨Dy.ok_iff.2 ⟨⟨hb.2.2.2.2.1, hb.2.2.2.2.2.1, hb.2.2.1, hb.2.2.2.1⟩, hodd⟩, hs, a, b⟩
theorem Dy.simR_lo {n e m k p q l1 l2 : Int} (h : Dy.simR n e m k = some (p, q)) (hq : 0 < q) (hm : Dy.mk (p - 1) q = ((l1, l2), true)) : Dy.cmp l1 l2 n e ≤ 0 := by
  obtain ⟨o1, o2, hs⟩ := Dy.simR_some h
  obtain ⟨o3, h1, h2, _⟩ := Dy.mk_val hm
  have := Dy.sim_lo hs hq h2
  rw [Dy.cmp_ok o3 o1, h1]
  split
  · omega
  · rw [if_neg (by omega)]; exact Int.le_refl _
theorem Dy.simR_hi {n e m k p q l1 l2 : Int} (h : Dy.simR n e m k = some (p, q)) (hq : 0 < q) (hm : Dy.mk (p + 1) q = ((l1, l2), true)) : 0 ≤ Dy.cmp l1 l2 m k := by
  obtain ⟨o1, o2, hs⟩ := Dy.simR_some h
  obtain ⟨o3, h1, _, h2⟩ := Dy.mk_val hm
  have := Dy.sim_hi hs hq h2
  rw [Dy.cmp_ok o3 o2, h1, if_neg (by omega)]
  split <;> omega
theorem Dy.simR_neg {n e m k p q : Int} (h : Dy.simR n e m k = some (p, q)) : Dy.simR (-m) k (-n) e = some (-p, q) := by
  obtain ⟨o1, o2, hs⟩ := Dy.simR_some h
  rw [Dy.simR, if_pos ⟨Dy.ok_neg o2, Dy.ok_neg o1⟩, Dy.sc_neg, Dy.sc_neg, Dy.sim_neg, hs]
  rfl
end Go.Proofs.Ytocjlhlohlkkmaa
