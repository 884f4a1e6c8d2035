/-
  The reader of the drawn codes: 'pick' returns a number below its bound and moves the reader's position on; nothing else is written.
-/
import Derived.Test.YteldfjibmaigiaaDoorBase
import Derived.IntWalk
namespace Go.Proofs.YteldfjibmaigiaaDoor
set_option maxRecDepth 100000
open Go.RowKit

/-- The bytes that the reader reads lie below block B. -/
def Code (w : World) (B : Nat) (S : Option Addr) (n : Nat) : Prop :=
  n = 0 ∨ ∃ b o, S = some ⟨b, o, none⟩ ∧ b < B ∧ n ≤ 2000 ∧ ∀ j, j < n → ∃ x : Int, 0 ≤ x ∧ x ≤ 255 ∧ w.cell? ⟨b, o + j, none⟩ = some (.int .u8 x)

/-- Block g is a reader over such bytes, at position q. -/
def Rdr (w : World) (B g q : Nat) : Prop :=
  B ≤ g ∧ ∃ S n c, w.heap[g]? = some (.cells #[.slice S n c, .int .i64 q] 75 (0, 0)) ∧ Code w B S n

theorem Rdr.lt {w : World} {B g q : Nat} (h : Rdr w B g q) : g < w.heap.size := by
  obtain ⟨_, S, n, c, h, _⟩ := h
  rcases Nat.lt_or_ge g w.heap.size with hlt | hge
  · exact hlt
  · rw [Array.getElem?_eq_none hge] at h; cases h
theorem Code.keep {w w' : World} {B n : Nat} {S : Option Addr} (h : Code w B S n) (hk : ∀ k, k < B → w'.heap[k]? = w.heap[k]?) : Code w' B S n := by
  rcases h with h | ⟨b, o, hS, hb, hn, hc⟩
  · exact .inl h
  · refine .inr ⟨b, o, hS, hb, hn, fun j hj => ?_⟩
    obtain ⟨x, x1, x2, hx⟩ := hc j hj
    exact ⟨x, x1, x2, (World.cell?_of_block (w := w) (hk b hb)).trans hx⟩
theorem Rdr.below {w w' : World} {B g q : Nat} (h : Rdr w B g q) {B' : Nat} (hb : Below B' w w') (hg : g < B') : Rdr w' B g q := by
  obtain ⟨hB, S, n, c, hh, hc⟩ := h
  exact ⟨hB, S, n, c, (hb.block g hg).trans hh, hc.keep fun k hk => hb.block k (by omega)⟩
theorem Rdr.grown {w w' : World} {B g q : Nat} (h : Rdr w B g q) {row : Option Nat} (hw : w.grownBy w' row) (hr : ∀ k, row = some k → B ≤ k ∧ k ≠ g) : Rdr w' B g q := by
  have hlt := h.lt
  obtain ⟨hB, S, n, c, hh, hc⟩ := h
  refine ⟨hB, S, n, c, (hw.block g hlt fun e => (hr g e.symm).2 rfl).trans hh, hc.keep fun k hk => hw.block k (by omega) fun e => ?_⟩
  have := (hr k e.symm).1
  omega

theorem xor_bd (a b : Nat) (ha : a < 2 ^ 62) (hb : b < 2 ^ 62) : 0 ≤ bits .xor .i64 (a : Int) (b : Int) := by
  have hx : a ^^^ b < 2 ^ 62 := Nat.xor_lt_two_pow ha hb
  have h1 : (BitVec.ofInt 64 (a : Int)).toNat = a := by
    rw [BitVec.ofInt_natCast, BitVec.toNat_ofNat]; exact Nat.mod_eq_of_lt (by omega)
  have h2 : (BitVec.ofInt 64 (b : Int)).toNat = b := by
    rw [BitVec.ofInt_natCast, BitVec.toNat_ofNat]; exact Nat.mod_eq_of_lt (by omega)
  show 0 ≤ IntKind.i64.wrap ((BitVec.ofInt 64 (a : Int) ^^^ BitVec.ofInt 64 (b : Int)).toNat : Int)
  rw [BitVec.toNat_xor, h1, h2, IntKind.wrap_i64]
  omega

theorem xor_mod (X m : Int) (h0 : 0 ≤ X) (h1 : X ≤ 1000000000000000) (hm : 1 ≤ m) : 0 ≤ (bits .xor .i64 X (X / 64)).tmod m ∧ (bits .xor .i64 X (X / 64)).tmod m < m := by
  obtain ⟨a, rfl⟩ := Int.eq_ofNat_of_zero_le h0
  obtain ⟨b, hb⟩ := Int.eq_ofNat_of_zero_le (show 0 ≤ (a : Int) / 64 by omega)
  rw [hb]
  have := xor_bd a b (by omega) (by omega)
  exact ⟨Int.tmod_nonneg _ this, Int.tmod_lt_of_pos _ (by omega)⟩

def Picked (w : World) (B g q : Nat) (m : Int) (e : Ending) (w' : World) : Prop :=
  ∃ x : Int, e = .returned (.int .i64 x) ∧ 0 ≤ x ∧ x < max m 1 ∧ Rdr w' B g (q + 1) ∧ w.grownBy w' (some g)

theorem picked_of {w w' : World} {B g q k : Nat} {m : Int} {e : Ending} {S : Option Addr} {n c : Nat} {x : Int} (hB : B ≤ g) (hh : w.heap[g]? = some (.cells #[.slice S n c, .int .i64 q] 75 (0, 0))) (hc : Code w B S n)
    (he : e = .returned (.int .i64 x)) (x1 : 0 ≤ x) (x2 : x < max m 1) (hw : (w.setCell ⟨g, 1, none⟩ (.int .i64 (q + 1))).drewN k = w') : Picked w B g q m e w' := by
  subst hw
  have hg : w.grownBy ((w.setCell ⟨g, 1, none⟩ (.int .i64 (q + 1))).drewN k) (some g) :=
    ⟨rfl, rfl, rfl, by simp [World.setCell], fun j hj hne => Below.heap_setCell _ _ _ _ (fun e => hne (by subst e; rfl))⟩
  refine ⟨x, he, x1, x2, ⟨hB, S, n, c, ?_, hc.keep fun j hj => Below.heap_setCell _ _ _ _ (fun e => by subst e; exact absurd hj (by simp; omega))⟩, hg⟩
  show ((w.setCell ⟨g, 1, none⟩ (.int .i64 (q + 1)))).heap[g]? = _
  simp [World.setCell, Array.getElem?_modify, hh]

set_option maxRecDepth 100000 in
set_option maxHeartbeats 800000 in
theorem r_pick (B g q : Nat) (m : Int) (w : World) (h : Rdr w B g q) (hq : q ≤ 1000000000000) :
    Calls Tryd.prog 28 #[.pointer (some ⟨g, 0, none⟩), .int .i64 m] w fun e w' => Picked w B g q m e w' := by
  obtain ⟨hB, S, n, c, hh, hc⟩ := h
  have c0 : w.cell? ⟨g, 0, none⟩ = some (.slice S n c) := by simp [World.cell?, hh]
  have c1 : w.cell? ⟨g, 1, none⟩ = some (.int .i64 q) := by simp [World.cell?, hh]
  have f1 : w.frozen? ⟨g, 1, none⟩ = false := by simp [World.frozen?, hh]
  have hlt : g < w.heap.size := Rdr.lt ⟨hB, S, n, c, hh, hc⟩
  have fin := fun e w' x k => picked_of (w' := w') (k := k) (m := m) (e := e) (x := x) hB hh hc
  have Fin := Lib.hid fin
  clear fin
  have Hh := Lib.hid hh
  clear hh
  by_cases hm : m < 1
  · have hc' := Lib.hid hc
    clear hc
    go_enter Tryd.func28, Tryd.ntmps28
    go_wp2
    go_ret
    exact Fin.out _ _ 0 0 rfl (by omega) (by omega) rfl
  · rcases hc with rfl | ⟨b, o, rfl, hb, hn, hcell⟩
    · go_enter Tryd.func28, Tryd.ntmps28
      go_wp2
      go_ret
      exact Fin.out _ _ 0 0 rfl (by omega) (by omega) rfl
    · by_cases hn0 : n = 0
      · subst hn0
        go_enter Tryd.func28, Tryd.ntmps28
        go_wp2
        go_ret
        exact Fin.out _ _ 0 0 rfl (by omega) (by omega) rfl
      · by_cases hqn : q < n
        · obtain ⟨x, x1, x2, hx⟩ := hcell q hqn
          clear hcell
          have hm0 : 0 ≤ x % m := Int.emod_nonneg _ (by omega)
          have hm1 : x % m < m := Int.emod_lt_of_pos _ (by omega)
          have hlt' : b < g := by omega
          go_enter Tryd.func28, Tryd.ntmps28
          go_wp2
          go_ret
          exact Fin.out _ _ _ 0 rfl hm0 (by omega) rfl
        · have hpos : 0 < n := by omega
          have r1 := Nat.mod_lt q hpos
          have r2 := Nat.mod_lt (q * 7 + 3) hpos
          obtain ⟨j1, hj1⟩ : ∃ j, q % n = j := ⟨_, rfl⟩
          obtain ⟨j2, hj2⟩ : ∃ j, (q * 7 + 3) % n = j := ⟨_, rfl⟩
          obtain ⟨d, hd⟩ : ∃ d, q / n = d := ⟨_, rfl⟩
          have hdq : d ≤ q := by rw [← hd]; exact Nat.div_le_self q n
          rw [hj1] at r1
          rw [hj2] at r2
          obtain ⟨x, x1, x2, hx⟩ := hcell j1 r1
          obtain ⟨y, y1, y2, hy⟩ := hcell j2 r2
          clear hcell
          have t1 : (q : Int).tmod (n : Int) = (j1 : Int) := by rw [Int.tmod_eq_emod_of_nonneg (by omega), ← hj1]; rfl
          have t2 : ((q : Int) * 7 + 3).tmod (n : Int) = (j2 : Int) := by rw [Int.tmod_eq_emod_of_nonneg (by omega), ← hj2]; rfl
          have t1' : (q : Int) % (n : Int) = (j1 : Int) := by rw [← hj1]; rfl
          have t2' : ((q : Int) * 7 + 3) % (n : Int) = (j2 : Int) := by rw [← hj2]; rfl
          have t3 : (q : Int).tdiv (n : Int) = (d : Int) := by rw [Int.tdiv_eq_ediv_of_nonneg (by omega), ← hd]; rfl
          have t3' : (q : Int) / (n : Int) = (d : Int) := by rw [← hd]; rfl
          have l1 : (j1 : Int) < n := by omega
          have l2 : (j2 : Int) < n := by omega
          have k1 : IntKind.i64.wrap ((q : Int) * 7) = (q : Int) * 7 := IntWalk.i64_in _ (by omega)
          have k2 : IntKind.i64.wrap ((q : Int) * 7 + 3) = (q : Int) * 7 + 3 := IntWalk.i64_in _ (by omega)
          have k3 : IntKind.i64.wrap ((q : Int) * 29) = (q : Int) * 29 := IntWalk.i64_in _ (by omega)
          have k4 : IntKind.i64.wrap ((d : Int) * 53) = (d : Int) * 53 := IntWalk.i64_in _ (by omega)
          have k5 : IntKind.i64.wrap (x * 131) = x * 131 := IntWalk.i64_in _ (by omega)
          have k6 : IntKind.i64.wrap (y * 1117) = y * 1117 := IntWalk.i64_in _ (by omega)
          have k7 : IntKind.i64.wrap (x * 131 + y * 1117) = x * 131 + y * 1117 := IntWalk.i64_in _ (by omega)
          have k8 : IntKind.i64.wrap (x * 131 + y * 1117 + (q : Int) * 29) = x * 131 + y * 1117 + (q : Int) * 29 := IntWalk.i64_in _ (by omega)
          have k9 : IntKind.i64.wrap (x * 131 + y * 1117 + (q : Int) * 29 + (d : Int) * 53) = x * 131 + y * 1117 + (q : Int) * 29 + (d : Int) * 53 := IntWalk.i64_in _ (by omega)
          have hlt' : b < g := by omega
          go_enter Tryd.func28, Tryd.ntmps28
          go_wp2
          go_quiet (fail)
          have X1 : 0 ≤ x * 131 + y * 1117 + (q : Int) * 29 + (d : Int) * 53 := by omega
          have X2 : x * 131 + y * 1117 + (q : Int) * 29 + (d : Int) * 53 ≤ 1000000000000000 := by omega
          clear t1 t2 t1' t2' t3 t3' l1 l2 k1 k2 k3 k4 k5 k6 k7 k8 k9 hj1 hj2 hd
          generalize x * 131 + y * 1117 + (q : Int) * 29 + (d : Int) * 53 = X at *
          go_wp2
          go_ret
          have hm' := xor_mod X m X1 X2 (by omega)
          exact Fin.out _ _ _ _ rfl hm'.1 (by omega) rfl
end Go.Proofs.YteldfjibmaigiaaDoor
