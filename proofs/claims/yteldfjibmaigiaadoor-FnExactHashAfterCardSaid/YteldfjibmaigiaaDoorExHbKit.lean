/-
  Texts that laws over drawn boards stand on: OpenB, KyI, Reader, HaP, HbP, EyeU, PlayU, PlBd, PlSt, InvB, InvS, Removed, Sorted, StepApp, Play, PlayS, SpSt, PlV, HbQ, HaI, SetS, CopyB, SetI, HbI.
-/
import Derived.Test.YteldfjibmaigiaaDoorWords
import Derived.ProofKit
import Derived.OpenShut
import Derived.Lib.SmallJoins
import Derived.Test.YteldfjibmaigiaaDoorSpecA
import Derived.Test.YteldfjibmaigiaaDoorBoardI
import Derived.Deep.LoopGhost
import Derived.Test.YteldfjibmaigiaaDoorBase
import Derived.IntWalk
import Derived.Test.YteldfjibmaigiaaDoorEyeT
import Derived.Test.YteldfjibmaigiaaDoorPlayI
import Derived.Test.YteldfjibmaigiaaDoorGrwI
import Derived.Test.YteldfjibmaigiaaDoorPlayP
import Derived.Test.YteldfjibmaigiaaDoorMarks
import Derived.Test.YteldfjibmaigiaaDoorRows2
import Derived.Test.YteldfjibmaigiaaDoorInv
import Derived.Test.YteldfjibmaigiaaDoorRmPure
import Derived.Test.YteldfjibmaigiaaDoorSortP
import Derived.Deep.QuietTactic
import Derived.BigQuiet
import Derived.Test.YteldfjibmaigiaaDoorCopy
import Derived.Deep.RegionLaw
import Derived.Deep.DeepCutAuto
import Derived.Laws.CopyOwn
namespace Go.Proofs.YteldfjibmaigiaaDoor
set_option maxRecDepth 100000
open Go.RowKit Go.ChangeShapes Go.WideShapes Go.ChangeAt Go.Joins

theorem cellsBoard : Tryd.prog.cellsOf 37 = 2 := by kernel_rfl

theorem open_board {H : Type} {enc : TypeId × Value → H} {w : World} {base : Nat} {spare : Nat → Bool} {held : Bool} {r : Reach} {b0 : Nat} {v : Value} {d : DataW H} {p : List MemPlace}
    (hv : Value.okWide Tryd.prog w r b0 37 v) (h : DataW.Trod enc Tryd.prog w base spare held 37 v d p) :
    ∃ (s : Int) (A : Option Addr) (n c : Nat) (cs : List Int), v = .agg #[.int .i64 s, .slice A n c] ∧ Ints w w.heap.size A n cs ∧ n ≤ 9223372036854775807 := by
  obtain ⟨v0, v1, y0, y1, m, rfl, _, _, h0, h1⟩ := open_agg2 Tryd.underlying37 (by kernel_rfl) cellsBoard hv h
  obtain ⟨s, e0, _, _⟩ := DataW.trod_int Tryd.underlying3 h0
  simp at e0
  subst e0
  rcases open_ints Tryd.underlying23 Tryd.underlying3 (by kernel_rfl) h1 with ⟨hcs, _⟩ | ⟨x, l, c, zs, hcs, _, hl, hm, hz, _, hcell, _⟩
  · simp at hcs
    subst hcs
    exact ⟨s, none, 0, 0, [], rfl, ⟨rfl, .inl rfl⟩, by omega⟩
  · simp at hcs
    subst hcs
    have hlz : l ≤ zs.length := by rw [hz]; split <;> omega
    refine ⟨s, some x, l, c, zs.take l, rfl, ⟨by rw [List.length_take]; omega, ?_⟩, by unfold maxLen at hm; omega⟩
    by_cases h0 : l = 0
    · exact .inl h0
    · obtain ⟨b, off, spot⟩ := x
      have hc := hcell 0 (by omega)
      have hspot : spot = none := by simpa [Addr.add] using World.cell?_spot hc
      subst hspot
      refine .inr ⟨b, off, rfl, World.block_lt_of_cell? w _ hc, fun j hj => ?_⟩
      have hj' := hcell j (by omega)
      have e : (⟨b, off, none⟩ : Addr).add j = ⟨b, off + j, none⟩ := by by_cases hj0 : j = 0 <;> simp [Addr.add, hj0]
      rw [e] at hj'
      rw [hj']
      simp [List.getD_eq_getElem?_getD, hj]
end Go.Proofs.YteldfjibmaigiaaDoor

namespace Go.Proofs.YteldfjibmaigiaaDoor
set_option maxRecDepth 100000
open Go.RowKit

def Ky.step (x : Int) : Int := (48271 * x + 11) % 1048576
def Ky.it : Nat → Int → Int
  | 0, x => x
  | k + 1, x => Ky.step (Ky.it k x)
def Ky.ok (p c : Int) : Bool := Pt.okP 7 p && (c == 1 || c == 2)
def Ky.key (p c : Int) : Int := if Ky.ok p c = true then Ky.it 4 (2 * p + c) else -1
theorem Ky.it_bd {x : Int} (h0 : 0 ≤ x) (h1 : x ≤ 98) : ∀ k, 0 ≤ Ky.it k x ∧ Ky.it k x ≤ 1048575
  | 0 => ⟨h0, by show x ≤ _; omega⟩
  | k + 1 => by
    unfold Ky.it Ky.step
    omega
theorem Ky.ok_iff {p c : Int} : Ky.ok p c = true ↔ 0 ≤ p ∧ p ≤ 48 ∧ (c = 1 ∨ c = 2) := by
  unfold Ky.ok
  rw [Bool.and_eq_true, Pt.okP_iff, Bool.or_eq_true, beq_iff_eq, beq_iff_eq]
  omega
theorem Ky.key_bd {p c : Int} (h : Ky.ok p c = true) : 0 ≤ Ky.key p c ∧ Ky.key p c ≤ 1048575 := by
  unfold Ky.key
  rw [if_pos h]
  obtain ⟨h1, h2, h3⟩ := Ky.ok_iff.1 h
  exact Ky.it_bd (by omega) (by omega) 4
theorem Ky.step_inj {x y : Int} (hx : 0 ≤ x) (hx1 : x ≤ 1048575) (hy : 0 ≤ y) (hy1 : y ≤ 1048575) (h : Ky.step x = Ky.step y) : x = y := by
  unfold Ky.step at h
  omega
theorem Ky.it_inj {x y : Int} (hx : 0 ≤ x) (hx1 : x ≤ 98) (hy : 0 ≤ y) (hy1 : y ≤ 98) : ∀ k, Ky.it k x = Ky.it k y → x = y
  | 0, h => h
  | k + 1, h => by
    obtain ⟨a1, a2⟩ := Ky.it_bd hx hx1 k
    obtain ⟨b1, b2⟩ := Ky.it_bd hy hy1 k
    exact Ky.it_inj hx hx1 hy hy1 k (Ky.step_inj a1 a2 b1 b2 h)
theorem Ky.differ {p c : Int} (h : Ky.ok p c = true) : Ky.ok p (3 - c) = true ∧ Ky.key p (3 - c) ≠ Ky.key p c := by
  obtain ⟨h1, h2, h3⟩ := Ky.ok_iff.1 h
  have h' : Ky.ok p (3 - c) = true := Ky.ok_iff.2 (by omega)
  refine ⟨h', ?_⟩
  unfold Ky.key
  rw [if_pos h, if_pos h']
  intro e
  have := Ky.it_inj (by omega) (by omega) (by omega) (by omega) 4 e
  omega

theorem s_kcolor (x : Int) (w : World) : Calls Tryd.prog 37 #[.int .i64 x] w fun e w' => e = .returned (.bool (decide (1 ≤ x) && decide (x ≤ 2))) ∧ w = w' := by
  go_enter Tryd.func37, Tryd.ntmps37
  go_wp2_with fail
  refine (s_range _ _ _ _).mono ?_
  rintro e y ⟨rfl, rfl⟩
  go_wp2_with fail
  go_ret
  exact ⟨rfl, rfl⟩
theorem i_kstone (c : Int) (w : World) : Calls Tryd.prog 30 #[.int .i64 c] w fun e w' => e = .returned (.bool (c == 1 || c == 2)) ∧ w = w' := i_isStone c w
theorem i_key (p c : Int) (w : World) : Calls Tryd.prog 21 #[.int .i64 p, .int .i64 c] w fun e w' => e = .returned (.int .i64 (Ky.key p c)) ∧ w = w' := by
  by_cases hp : Pt.okP 7 p = true
  · by_cases hc : (c == 1 || c == 2) = true
    · have hok : Ky.ok p c = true := by unfold Ky.ok; rw [hp, hc]; rfl
      have hk : Ky.key p c = Ky.it 4 (2 * p + c) := by unfold Ky.key; rw [if_pos hok]
      obtain ⟨p1, p2, c1⟩ := Ky.ok_iff.1 hok
      have c0 : 1 ≤ c := by omega
      have c2 : c ≤ 2 := by omega
      have Hk := Lib.hid hk
      have Hp := Lib.hid hp
      have Hc := Lib.hid hc
      clear hk hp hc hok c1
      go_enter Tryd.func21, Tryd.ntmps21
      go_wp2_with fail
      refine (i_point _ _ _).mono ?_
      rintro e y ⟨rfl, rfl⟩
      rw [Hp.out]
      go_wp2_with fail
      refine (i_kstone _ _).mono ?_
      rintro e y ⟨rfl, rfl⟩
      rw [Hc.out]
      obtain ⟨X, hX⟩ : ∃ X, 2 * p + c = X := ⟨_, rfl⟩
      have x0 : 0 ≤ X := by omega
      have x1 : X ≤ 98 := by omega
      rw [hX] at Hk
      go_wp2_with fail
      go_loopg [5, 18] 5 (fun q v5 v18 wr => ∃ k : Nat, k + q = 5 ∧ k ≤ 4 ∧ v5 = .int .i64 (Ky.it k X) ∧ v18 = .int .i64 (k : Nat) ∧ wr = w)
      case atStart => exact ⟨0, by omega, by omega, by rw [← hX]; rfl, rfl, rfl⟩
      case round =>
        obtain ⟨k, hk, hk4, rfl, rfl, rfl⟩ := hrel
        obtain ⟨b0, b1⟩ := Ky.it_bd x0 x1 k
        by_cases hkk : k = 4
        · subst hkk
          have hlt : ¬ (((4 : Nat) : Int)) < 4 := by omega
          clear hX
          go_wp2_with fail
          go_ret
          exact ⟨ret_int Hk.out.symm, rfl⟩
        · have hlt : ((k : Nat) : Int) < 4 := by omega
          obtain ⟨Y, hY⟩ : ∃ Y, Ky.it k X = Y := ⟨_, rfl⟩
          have hYs : Ky.it (k + 1) X = (48271 * Y + 11) % 1048576 := by rw [← hY]; rfl
          have Hs := Lib.hid hYs
          rw [hY] at b0 b1 ⊢
          clear hX hY hYs
          go_wp2_with fail
          go_roundg (4 - k)
          case measure => omega
          case rel => exact ⟨k + 1, by omega, by omega, by first | (rw [Hs.out]; done) | (rw [Hs.out]; rfl) | (rw [Hs.out]; go_num), by go_num, rfl⟩
    · have hc' : (c == 1 || c == 2) = false := by simpa using hc
      have hk : Ky.key p c = -1 := by unfold Ky.key Ky.ok; rw [hc', Bool.and_false, if_neg (by decide)]
      have Hk := Lib.hid hk
      have Hp := Lib.hid hp
      have Hc := Lib.hid hc'
      clear hk hp hc hc'
      go_enter Tryd.func21, Tryd.ntmps21
      go_wp2_with fail
      refine (i_point _ _ _).mono ?_
      rintro e y ⟨rfl, rfl⟩
      rw [Hp.out]
      go_wp2_with fail
      refine (i_kstone _ _).mono ?_
      rintro e y ⟨rfl, rfl⟩
      rw [Hc.out]
      go_wp2_with fail
      go_ret
      exact ⟨ret_int Hk.out.symm, rfl⟩
  · have hp' : Pt.okP 7 p = false := by simpa using hp
    have hk : Ky.key p c = -1 := by unfold Ky.key Ky.ok; rw [hp', Bool.false_and, if_neg (by decide)]
    have Hk := Lib.hid hk
    have Hp := Lib.hid hp'
    clear hk hp hp'
    go_enter Tryd.func21, Tryd.ntmps21
    go_wp2_with fail
    refine (i_point _ _ _).mono ?_
    rintro e y ⟨rfl, rfl⟩
    rw [Hp.out]
    go_wp2_with fail
    go_ret
    exact ⟨ret_int Hk.out.symm, rfl⟩
theorem s_key0 (p c : Int) (w : World) (p1 : 0 ≤ p) (p2 : p ≤ 48) (c0 : 1 ≤ c) (c2 : c ≤ 2) : Calls Tryd.prog 72 #[.int .i64 p, .int .i64 c] w fun e w' => e = .returned (.int .i64 (Ky.it 4 (2 * p + c))) ∧ w = w' := by
  obtain ⟨X, hX⟩ : ∃ X, 2 * p + c = X := ⟨_, rfl⟩
  have x0 : 0 ≤ X := by omega
  have x1 : X ≤ 98 := by omega
  have HX := Lib.hid hX
  go_enter Tryd.func72, Tryd.ntmps72
  go_wp2_with fail
  go_loopg [5, 6] 5 (fun q v5 v18 wr => ∃ k : Nat, k + q = 5 ∧ k ≤ 4 ∧ v5 = .int .i64 (Ky.it k X) ∧ v18 = .int .i64 (k : Nat) ∧ wr = w)
  case atStart => exact ⟨0, by omega, by omega, by rw [← hX]; rfl, rfl, rfl⟩
  case round =>
    obtain ⟨k, hk, hk4, rfl, rfl, rfl⟩ := hrel
    obtain ⟨b0, b1⟩ := Ky.it_bd x0 x1 k
    by_cases hkk : k = 4
    · subst hkk
      have hlt : ¬ (((4 : Nat) : Int)) < 4 := by omega
      clear hX
      go_wp2_with fail
      go_ret
      exact ⟨ret_int (by rw [HX.out]), rfl⟩
    · have hlt : ((k : Nat) : Int) < 4 := by omega
      obtain ⟨Y, hY⟩ : ∃ Y, Ky.it k X = Y := ⟨_, rfl⟩
      have hYs : Ky.it (k + 1) X = (48271 * Y + 11) % 1048576 := by rw [← hY]; rfl
      have Hs := Lib.hid hYs
      rw [hY] at b0 b1 ⊢
      clear hX hY hYs
      go_wp2_with fail
      go_roundg (4 - k)
      case measure => omega
      case rel => exact ⟨k + 1, by omega, by omega, by first | (rw [Hs.out]; done) | (rw [Hs.out, Int.mul_comm 48271]; done) | (rw [Hs.out]; go_num), by go_num, rfl⟩
end Go.Proofs.YteldfjibmaigiaaDoor

namespace Go.Proofs.YteldfjibmaigiaaDoor
set_option maxRecDepth 100000
open Go.RowKit

/-- The bytes that the reader reads lie below block B. -/
def Code (w : World) (B : Nat) (S : Option Addr) (n : Nat) : Prop :=
  n = 0 ∨ ∃ b o, S = some ⟨b, o, none⟩ ∧ b < B ∧ n ≤ 2000 ∧ ∀ j, j < n → ∃ x : Int, 0 ≤ x ∧ x ≤ 255 ∧ w.cell? ⟨b, o + j, none⟩ = some (.int .u8 x)

/-- Block g is a reader over such bytes, at position q. -/
def Rdr (w : World) (B g q : Nat) : Prop :=
  B ≤ g ∧ ∃ S n c, w.heap[g]? = some (.cells #[.slice S n c, .int .i64 q] 75 (0, 0)) ∧ Code w B S n

theorem Rdr.lt {w : World} {B g q : Nat} (h : Rdr w B g q) : g < w.heap.size := by
  obtain ⟨_, S, n, c, h, _⟩ := h
  rcases Nat.lt_or_ge g w.heap.size with hlt | hge
  · exact hlt
  · rw [Array.getElem?_eq_none hge] at h; cases h
theorem Code.keep {w w' : World} {B n : Nat} {S : Option Addr} (h : Code w B S n) (hk : ∀ k, k < B → w'.heap[k]? = w.heap[k]?) : Code w' B S n := by
  rcases h with h | ⟨b, o, hS, hb, hn, hc⟩
  · exact .inl h
  · refine .inr ⟨b, o, hS, hb, hn, fun j hj => ?_⟩
    obtain ⟨x, x1, x2, hx⟩ := hc j hj
    exact ⟨x, x1, x2, (World.cell?_of_block (w := w) (hk b hb)).trans hx⟩
theorem Rdr.below {w w' : World} {B g q : Nat} (h : Rdr w B g q) {B' : Nat} (hb : Below B' w w') (hg : g < B') : Rdr w' B g q := by
  obtain ⟨hB, S, n, c, hh, hc⟩ := h
  exact ⟨hB, S, n, c, (hb.block g hg).trans hh, hc.keep fun k hk => hb.block k (by omega)⟩
theorem Rdr.grown {w w' : World} {B g q : Nat} (h : Rdr w B g q) {row : Option Nat} (hw : w.grownBy w' row) (hr : ∀ k, row = some k → B ≤ k ∧ k ≠ g) : Rdr w' B g q := by
  have hlt := h.lt
  obtain ⟨hB, S, n, c, hh, hc⟩ := h
  refine ⟨hB, S, n, c, (hw.block g hlt fun e => (hr g e.symm).2 rfl).trans hh, hc.keep fun k hk => hw.block k (by omega) fun e => ?_⟩
  have := (hr k e.symm).1
  omega

theorem xor_bd (a b : Nat) (ha : a < 2 ^ 62) (hb : b < 2 ^ 62) : 0 ≤ bits .xor .i64 (a : Int) (b : Int) := by
  have hx : a ^^^ b < 2 ^ 62 := Nat.xor_lt_two_pow ha hb
  have h1 : (BitVec.ofInt 64 (a : Int)).toNat = a := by
    rw [BitVec.ofInt_natCast, BitVec.toNat_ofNat]; exact Nat.mod_eq_of_lt (by omega)
  have h2 : (BitVec.ofInt 64 (b : Int)).toNat = b := by
    rw [BitVec.ofInt_natCast, BitVec.toNat_ofNat]; exact Nat.mod_eq_of_lt (by omega)
  show 0 ≤ IntKind.i64.wrap ((BitVec.ofInt 64 (a : Int) ^^^ BitVec.ofInt 64 (b : Int)).toNat : Int)
  rw [BitVec.toNat_xor, h1, h2, IntKind.wrap_i64]
  omega

theorem xor_mod (X m : Int) (h0 : 0 ≤ X) (h1 : X ≤ 1000000000000000) (hm : 1 ≤ m) : 0 ≤ (bits .xor .i64 X (X / 64)).tmod m ∧ (bits .xor .i64 X (X / 64)).tmod m < m := by
  obtain ⟨a, rfl⟩ := Int.eq_ofNat_of_zero_le h0
  obtain ⟨b, hb⟩ := Int.eq_ofNat_of_zero_le (show 0 ≤ (a : Int) / 64 by omega)
  rw [hb]
  have := xor_bd a b (by omega) (by omega)
  exact ⟨Int.tmod_nonneg _ this, Int.tmod_lt_of_pos _ (by omega)⟩

def Picked (w : World) (B g q : Nat) (m : Int) (e : Ending) (w' : World) : Prop :=
  ∃ x : Int, e = .returned (.int .i64 x) ∧ 0 ≤ x ∧ x < max m 1 ∧ Rdr w' B g (q + 1) ∧ w.grownBy w' (some g)

theorem picked_of {w w' : World} {B g q k : Nat} {m : Int} {e : Ending} {S : Option Addr} {n c : Nat} {x : Int} (hB : B ≤ g) (hh : w.heap[g]? = some (.cells #[.slice S n c, .int .i64 q] 75 (0, 0))) (hc : Code w B S n)
    (he : e = .returned (.int .i64 x)) (x1 : 0 ≤ x) (x2 : x < max m 1) (hw : (w.setCell ⟨g, 1, none⟩ (.int .i64 (q + 1))).drewN k = w') : Picked w B g q m e w' := by
  subst hw
  have hg : w.grownBy ((w.setCell ⟨g, 1, none⟩ (.int .i64 (q + 1))).drewN k) (some g) :=
    ⟨rfl, rfl, rfl, by simp [World.setCell], fun j hj hne => Below.heap_setCell _ _ _ _ (fun e => hne (by subst e; rfl))⟩
  refine ⟨x, he, x1, x2, ⟨hB, S, n, c, ?_, hc.keep fun j hj => Below.heap_setCell _ _ _ _ (fun e => by subst e; exact absurd hj (by simp; omega))⟩, hg⟩
  show ((w.setCell ⟨g, 1, none⟩ (.int .i64 (q + 1)))).heap[g]? = _
  simp [World.setCell, Array.getElem?_modify, hh]

set_option maxRecDepth 100000 in
set_option maxHeartbeats 800000 in
theorem r_pick (B g q : Nat) (m : Int) (w : World) (h : Rdr w B g q) (hq : q ≤ 1000000000000) :
    Calls Tryd.prog 28 #[.pointer (some ⟨g, 0, none⟩), .int .i64 m] w fun e w' => Picked w B g q m e w' := by
  obtain ⟨hB, S, n, c, hh, hc⟩ := h
  have c0 : w.cell? ⟨g, 0, none⟩ = some (.slice S n c) := by simp [World.cell?, hh]
  have c1 : w.cell? ⟨g, 1, none⟩ = some (.int .i64 q) := by simp [World.cell?, hh]
  have f1 : w.frozen? ⟨g, 1, none⟩ = false := by simp [World.frozen?, hh]
  have hlt : g < w.heap.size := Rdr.lt ⟨hB, S, n, c, hh, hc⟩
  have fin := fun e w' x k => picked_of (w' := w') (k := k) (m := m) (e := e) (x := x) hB hh hc
  have Fin := Lib.hid fin
  clear fin
  have Hh := Lib.hid hh
  clear hh
  by_cases hm : m < 1
  · have hc' := Lib.hid hc
    clear hc
    go_enter Tryd.func28, Tryd.ntmps28
    go_wp2
    go_ret
    exact Fin.out _ _ 0 0 rfl (by omega) (by omega) rfl
  · rcases hc with rfl | ⟨b, o, rfl, hb, hn, hcell⟩
    · go_enter Tryd.func28, Tryd.ntmps28
      go_wp2
      go_ret
      exact Fin.out _ _ 0 0 rfl (by omega) (by omega) rfl
    · by_cases hn0 : n = 0
      · subst hn0
        go_enter Tryd.func28, Tryd.ntmps28
        go_wp2
        go_ret
        exact Fin.out _ _ 0 0 rfl (by omega) (by omega) rfl
      · by_cases hqn : q < n
        · obtain ⟨x, x1, x2, hx⟩ := hcell q hqn
          clear hcell
          have hm0 : 0 ≤ x % m := Int.emod_nonneg _ (by omega)
          have hm1 : x % m < m := Int.emod_lt_of_pos _ (by omega)
          have hlt' : b < g := by omega
          go_enter Tryd.func28, Tryd.ntmps28
          go_wp2
          go_ret
          exact Fin.out _ _ _ 0 rfl hm0 (by omega) rfl
        · have hpos : 0 < n := by omega
          have r1 := Nat.mod_lt q hpos
          have r2 := Nat.mod_lt (q * 7 + 3) hpos
          obtain ⟨j1, hj1⟩ : ∃ j, q % n = j := ⟨_, rfl⟩
          obtain ⟨j2, hj2⟩ : ∃ j, (q * 7 + 3) % n = j := ⟨_, rfl⟩
          obtain ⟨d, hd⟩ : ∃ d, q / n = d := ⟨_, rfl⟩
          have hdq : d ≤ q := by rw [← hd]; exact Nat.div_le_self q n
          rw [hj1] at r1
          rw [hj2] at r2
          obtain ⟨x, x1, x2, hx⟩ := hcell j1 r1
          obtain ⟨y, y1, y2, hy⟩ := hcell j2 r2
          clear hcell
          have t1 : (q : Int).tmod (n : Int) = (j1 : Int) := by rw [Int.tmod_eq_emod_of_nonneg (by omega), ← hj1]; rfl
          have t2 : ((q : Int) * 7 + 3).tmod (n : Int) = (j2 : Int) := by rw [Int.tmod_eq_emod_of_nonneg (by omega), ← hj2]; rfl
          have t1' : (q : Int) % (n : Int) = (j1 : Int) := by rw [← hj1]; rfl
          have t2' : ((q : Int) * 7 + 3) % (n : Int) = (j2 : Int) := by rw [← hj2]; rfl
          have t3 : (q : Int).tdiv (n : Int) = (d : Int) := by rw [Int.tdiv_eq_ediv_of_nonneg (by omega), ← hd]; rfl
          have t3' : (q : Int) / (n : Int) = (d : Int) := by rw [← hd]; rfl
          have l1 : (j1 : Int) < n := by omega
          have l2 : (j2 : Int) < n := by omega
          have k1 : IntKind.i64.wrap ((q : Int) * 7) = (q : Int) * 7 := IntWalk.i64_in _ (by omega)
          have k2 : IntKind.i64.wrap ((q : Int) * 7 + 3) = (q : Int) * 7 + 3 := IntWalk.i64_in _ (by omega)
          have k3 : IntKind.i64.wrap ((q : Int) * 29) = (q : Int) * 29 := IntWalk.i64_in _ (by omega)
          have k4 : IntKind.i64.wrap ((d : Int) * 53) = (d : Int) * 53 := IntWalk.i64_in _ (by omega)
          have k5 : IntKind.i64.wrap (x * 131) = x * 131 := IntWalk.i64_in _ (by omega)
          have k6 : IntKind.i64.wrap (y * 1117) = y * 1117 := IntWalk.i64_in _ (by omega)
          have k7 : IntKind.i64.wrap (x * 131 + y * 1117) = x * 131 + y * 1117 := IntWalk.i64_in _ (by omega)
          have k8 : IntKind.i64.wrap (x * 131 + y * 1117 + (q : Int) * 29) = x * 131 + y * 1117 + (q : Int) * 29 := IntWalk.i64_in _ (by omega)
          have k9 : IntKind.i64.wrap (x * 131 + y * 1117 + (q : Int) * 29 + (d : Int) * 53) = x * 131 + y * 1117 + (q : Int) * 29 + (d : Int) * 53 := IntWalk.i64_in _ (by omega)
          have hlt' : b < g := by omega
          go_enter Tryd.func28, Tryd.ntmps28
          go_wp2
          go_quiet (fail)
          have X1 : 0 ≤ x * 131 + y * 1117 + (q : Int) * 29 + (d : Int) * 53 := by omega
          have X2 : x * 131 + y * 1117 + (q : Int) * 29 + (d : Int) * 53 ≤ 1000000000000000 := by omega
          clear t1 t2 t1' t2' t3 t3' l1 l2 k1 k2 k3 k4 k5 k6 k7 k8 k9 hj1 hj2 hd
          generalize x * 131 + y * 1117 + (q : Int) * 29 + (d : Int) * 53 = X at *
          go_wp2
          go_ret
          have hm' := xor_mod X m X1 X2 (by omega)
          exact Fin.out _ _ _ _ rfl hm'.1 (by omega) rfl
end Go.Proofs.YteldfjibmaigiaaDoor

namespace Go.Proofs.YteldfjibmaigiaaDoor
set_option maxRecDepth 100000
open Go.RowKit

def Ha.xr (a b : Int) : Int := ((a.toNat ^^^ b.toNat : Nat) : Int)
theorem Ha.xr_bd {a b : Int} (a0 : 0 ≤ a) (a1 : a ≤ 1048575) (b0 : 0 ≤ b) (b1 : b ≤ 1048575) : 0 ≤ Ha.xr a b ∧ Ha.xr a b ≤ 1048575 := by
  have : a.toNat ^^^ b.toNat < 2 ^ 20 := Nat.xor_lt_two_pow (by omega) (by omega)
  unfold Ha.xr
  omega
theorem Ha.xor_val {a b : Int} (a0 : 0 ≤ a) (a1 : a ≤ 1048575) (b0 : 0 ≤ b) (b1 : b ≤ 1048575) : bits .xor .i64 a b = Ha.xr a b := by
  obtain ⟨x, rfl⟩ := Int.eq_ofNat_of_zero_le a0
  obtain ⟨y, rfl⟩ := Int.eq_ofNat_of_zero_le b0
  have hx : x ^^^ y < 2 ^ 20 := Nat.xor_lt_two_pow (by omega) (by omega)
  have h1 : (BitVec.ofInt 64 (x : Int)).toNat = x := by
    rw [BitVec.ofInt_natCast, BitVec.toNat_ofNat]; exact Nat.mod_eq_of_lt (by omega)
  have h2 : (BitVec.ofInt 64 (y : Int)).toNat = y := by
    rw [BitVec.ofInt_natCast, BitVec.toNat_ofNat]; exact Nat.mod_eq_of_lt (by omega)
  show IntKind.i64.wrap ((BitVec.ofInt 64 (x : Int) ^^^ BitVec.ofInt 64 (y : Int)).toNat : Int) = ((((x : Int).toNat ^^^ (y : Int).toNat : Nat)) : Int)
  rw [BitVec.toNat_xor, h1, h2, IntKind.wrap_i64, Int.toNat_natCast, Int.toNat_natCast]
  omega
theorem Ha.xr_swap (a b c : Int) : Ha.xr (Ha.xr a b) c = Ha.xr (Ha.xr a c) b := by
  unfold Ha.xr
  rw [Int.toNat_natCast, Int.toNat_natCast, Nat.xor_assoc, Nat.xor_assoc, Nat.xor_comm b.toNat]
/-- The keys of the stones at the first k points. -/
def Ha.upto (cs : List Int) : Nat → Int
  | 0 => 0
  | k + 1 => if cs.getD k 0 = 0 then Ha.upto cs k else Ha.xr (Ha.upto cs k) (Ky.key (k : Int) (cs.getD k 0))
theorem Ha.next (cs : List Int) (k : Nat) : Ha.upto cs (k + 1) = if cs.getD k 0 = 0 then Ha.upto cs k else Ha.xr (Ha.upto cs k) (Ky.key (k : Int) (cs.getD k 0)) := rfl
theorem Ha.bd {cs : List Int} (hv : ∀ x ∈ cs, 0 ≤ x ∧ x ≤ 2) : ∀ k, k ≤ 49 → k ≤ cs.length → 0 ≤ Ha.upto cs k ∧ Ha.upto cs k ≤ 1048575
  | 0, _, _ => by simp [Ha.upto]
  | k + 1, h49, hl => by
    have ih := Ha.bd hv k (by omega) (by omega)
    rw [Ha.next]
    split
    · exact ih
    · next h0 =>
      have hx : cs.getD k 0 ∈ cs := by
        rw [List.getD_eq_getElem?_getD, List.getElem?_eq_getElem (show k < cs.length by omega)]
        exact List.getElem_mem _
      have hb := hv _ hx
      have hk := Ky.key_bd (p := (k : Int)) (c := cs.getD k 0) (Ky.ok_iff.2 (by omega))
      exact Ha.xr_bd ih.1 ih.2 hk.1 hk.2
theorem Ha.zero (n : Nat) : ∀ k, Ha.upto (List.replicate n 0) k = 0
  | 0 => rfl
  | k + 1 => by
    rw [Ha.next, if_pos, Ha.zero n k]
    by_cases h : k < n <;> simp [List.getD_eq_getElem?_getD, h]
/-- One stone more. -/
theorem Ha.more {cs : List Int} {p : Nat} {c : Int} (hp : p < cs.length) (h0 : cs.getD p 0 = 0) (hc : c ≠ 0) : ∀ k, (k ≤ p → Ha.upto (cs.set p c) k = Ha.upto cs k) ∧ (p < k → Ha.upto (cs.set p c) k = Ha.xr (Ha.upto cs k) (Ky.key (p : Int) c))
  | 0 => ⟨fun _ => rfl, fun h => absurd h (by omega)⟩
  | k + 1 => by
    have ih := Ha.more hp h0 hc k
    refine ⟨fun h => ?_, fun h => ?_⟩
    · have hk : (cs.set p c).getD k 0 = cs.getD k 0 := by
        simp [List.getD_eq_getElem?_getD, show p ≠ k by omega]
      rw [Ha.next, Ha.next, hk, ih.1 (by omega)]
    · by_cases hkp : k = p
      · subst hkp
        have hk : (cs.set k c).getD k 0 = c := by
          simp [List.getD_eq_getElem?_getD, hp]
        rw [Ha.next, Ha.next, hk, if_neg hc, if_pos h0, ih.1 (Nat.le_refl _)]
      · have hk : (cs.set p c).getD k 0 = cs.getD k 0 := by
          simp [List.getD_eq_getElem?_getD, show p ≠ k by omega]
        rw [Ha.next, Ha.next, hk, ih.2 (by omega)]
        split
        · rfl
        · exact Ha.xr_swap _ _ _
/-- What HashOf answers. -/
def Ha.ans (s : Int) (cs : List Int) : Int := if Bd.okB s cs = true then Ha.upto cs cs.length else -1
end Go.Proofs.YteldfjibmaigiaaDoor

namespace Go.Proofs.YteldfjibmaigiaaDoor
set_option maxRecDepth 100000
open Go.RowKit

theorem Ha.xr_back {a b : Int} (a0 : 0 ≤ a) : Ha.xr (Ha.xr a b) b = a := by
  unfold Ha.xr
  rw [Int.toNat_natCast, Nat.xor_assoc, Nat.xor_self, Nat.xor_zero]
  omega
/-- The hash behind the first k of the stones that are taken from a board. -/
def Ha.rm (ps gs : List Int) (h : Int) : Nat → Int
  | 0 => h
  | k + 1 => Ha.xr (Ha.rm ps gs h k) (Ky.key (gs.getD k 0) (ps.getD (gs.getD k 0).toNat 0))
/-- The board behind the first k of them. -/
def Ha.off (ps gs : List Int) : Nat → List Int
  | 0 => ps
  | k + 1 => (Ha.off ps gs k).set (gs.getD k 0).toNat 0
theorem Ha.off_len (ps gs : List Int) : ∀ k, (Ha.off ps gs k).length = ps.length
  | 0 => rfl
  | k + 1 => by
    rw [show Ha.off ps gs (k + 1) = (Ha.off ps gs k).set (gs.getD k 0).toNat 0 from rfl, List.length_set]
    exact Ha.off_len ps gs k
theorem Ha.off_at (ps gs : List Int) {j : Nat} (hj : j < ps.length) : ∀ k, (Ha.off ps gs k).getD j 0 = if ∃ i, i < k ∧ (gs.getD i 0).toNat = j then 0 else ps.getD j 0
  | 0 => by rw [if_neg (by rintro ⟨i, hi, _⟩; omega)]; rfl
  | k + 1 => by
    have ih := Ha.off_at ps gs hj k
    have hl := Ha.off_len ps gs k
    rw [show Ha.off ps gs (k + 1) = (Ha.off ps gs k).set (gs.getD k 0).toNat 0 from rfl]
    by_cases h : (gs.getD k 0).toNat = j
    · rw [if_pos ⟨k, by omega, h⟩, h, List.getD_eq_getElem?_getD, List.getElem?_set_self (by omega)]
      rfl
    · rw [List.getD_eq_getElem?_getD, List.getElem?_set_ne h, ← List.getD_eq_getElem?_getD, ih]
      by_cases he : ∃ i, i < k ∧ (gs.getD i 0).toNat = j
      · obtain ⟨i, hi, e⟩ := he
        rw [if_pos ⟨i, hi, e⟩, if_pos ⟨i, by omega, e⟩]
      · rw [if_neg he, if_neg]
        rintro ⟨i, hi, e⟩
        by_cases hik : i = k
        · exact h (by rw [← hik]; exact e)
        · exact he ⟨i, by omega, e⟩
theorem Ha.off_okv {ps gs : List Int} (hv : ∀ x ∈ ps, 0 ≤ x ∧ x ≤ 2) : ∀ k, ∀ x ∈ Ha.off ps gs k, 0 ≤ x ∧ x ≤ 2
  | 0 => hv
  | k + 1 => by
    intro x hx
    rcases List.mem_or_eq_of_mem_set hx with h | rfl
    · exact Ha.off_okv hv k x h
    · omega
/-- Stones that are taken from a board, each once. -/
theorem Ha.taken {ps gs : List Int} {n : Nat} (hl : ps.length = n) (hn : n ≤ 49) (hv : ∀ x ∈ ps, 0 ≤ x ∧ x ≤ 2) (hin : ∀ i, i < gs.length → 0 ≤ gs.getD i 0 ∧ gs.getD i 0 < n ∧ ps.getD (gs.getD i 0).toNat 0 ≠ 0)
    (hd : ∀ i k, i < k → k < gs.length → gs.getD i 0 ≠ gs.getD k 0) : ∀ k, k ≤ gs.length → Ha.upto (Ha.off ps gs k) n = Ha.rm ps gs (Ha.upto ps n) k
  | 0, _ => rfl
  | k + 1, hk => by
    have ih := Ha.taken hl hn hv hin hd k (by omega)
    obtain ⟨g0, g1, g2⟩ := hin k (by omega)
    obtain ⟨j, hj⟩ := Int.eq_ofNat_of_zero_le g0
    have hjn : j < n := by omega
    have hol := Ha.off_len ps gs k
    have hat := Ha.off_at ps gs (j := j) (by omega) k
    rw [if_neg (by
      rintro ⟨i, hi, e⟩
      have := hd i k hi (by omega)
      have := (hin i (by omega)).1
      omega)] at hat
    rw [show Ha.rm ps gs (Ha.upto ps n) (k + 1) = Ha.xr (Ha.rm ps gs (Ha.upto ps n) k) (Ky.key (gs.getD k 0) (ps.getD (gs.getD k 0).toNat 0)) from rfl, ← ih, show Ha.off ps gs (k + 1) = (Ha.off ps gs k).set (gs.getD k 0).toNat 0 from rfl]
    rw [hj, Int.toNat_natCast] at g2 ⊢
    obtain ⟨c, hc⟩ : ∃ c, ps.getD j 0 = c := ⟨_, rfl⟩
    rw [hc] at g2 hat ⊢
    have hback : ((Ha.off ps gs k).set j 0).set j c = Ha.off ps gs k := by
      rw [List.set_set]
      apply List.ext_getElem (by rw [List.length_set])
      intro i h1 h2
      by_cases hij : j = i
      · subst hij
        rw [List.getElem_set_self]
        rw [List.getD_eq_getElem?_getD, List.getElem?_eq_getElem h2] at hat
        exact hat.symm
      · rw [List.getElem_set_ne hij]
    have hm := (Ha.more (cs := (Ha.off ps gs k).set j 0) (p := j) (c := c) (by rw [List.length_set]; omega) (by rw [List.getD_eq_getElem?_getD, List.getElem?_set_self (by omega)]; rfl) g2 n).2 hjn
    rw [hback] at hm
    rw [hm]
    refine (Ha.xr_back ?_).symm
    refine (Ha.bd ?_ n hn (by rw [List.length_set]; omega)).1
    intro x hx
    rcases List.mem_or_eq_of_mem_set hx with h | rfl
    · exact Ha.off_okv hv k x h
    · omega
theorem Ha.off_all {ps gs os : List Int} (hl : os.length = ps.length) (hpos : ∀ i, i < gs.length → 0 ≤ gs.getD i 0) (hat : ∀ j : Nat, j < ps.length → os.getD j 0 = if (j : Int) ∈ gs then 0 else ps.getD j 0) : Ha.off ps gs gs.length = os := by
  have h1 := Ha.off_len ps gs gs.length
  apply List.ext_getElem (by omega)
  intro j hj hj2
  have hjp : j < ps.length := by omega
  have e1 := Ha.off_at ps gs hjp gs.length
  have e2 := hat j hjp
  rw [List.getD_eq_getElem?_getD, List.getElem?_eq_getElem hj] at e1
  rw [List.getD_eq_getElem?_getD, List.getElem?_eq_getElem hj2] at e2
  simp only [Option.getD_some] at e1 e2
  rw [e1, e2]
  have hiff : (∃ i, i < gs.length ∧ (gs.getD i 0).toNat = j) ↔ (j : Int) ∈ gs := by
    constructor
    · rintro ⟨i, hi, e⟩
      have := hpos i hi
      have e3 : gs.getD i 0 = (j : Int) := by omega
      rw [← e3, List.getD_eq_getElem?_getD, List.getElem?_eq_getElem hi]
      exact List.getElem_mem _
    · intro hm
      obtain ⟨i, hi, e⟩ := List.mem_iff_getElem.1 hm
      refine ⟨i, hi, ?_⟩
      rw [List.getD_eq_getElem?_getD, List.getElem?_eq_getElem hi]
      simp only [Option.getD_some]
      omega
  by_cases h : (j : Int) ∈ gs
  · rw [if_pos h, if_pos (hiff.2 h)]
  · rw [if_neg h, if_neg (fun h2 => h (hiff.1 h2))]
end Go.Proofs.YteldfjibmaigiaaDoor

namespace Go.Proofs.YteldfjibmaigiaaDoor
set_option maxRecDepth 100000
open Go.RowKit

def eyB (s : Int) (cs : List Int) (p x : Int) : Bool := Bd.okB s cs && (Pt.okP s p && ((decide (1 ≤ x) && decide (x ≤ 2)) && eyeS s cs p x))

theorem s_vpt (s p : Int) (w : World) : Calls Tryd.prog 38 #[.int .i64 s, .int .i64 p] w fun e w' => e = .returned (.bool (decide (0 ≤ p) && decide (p ≤ wrap64 (wrap64 (s * s) - 1)))) ∧ w = w' := by
  go_enter Tryd.func38, Tryd.ntmps38
  go_wp2_with fail
  refine (s_range _ _ _ _).mono ?_
  rintro e w' ⟨rfl, rfl⟩
  go_wp2_with fail
  go_ret
  exact ⟨rfl, rfl⟩
theorem s_vptB (s p : Int) (w : World) (h1 : 1 ≤ s) (h2 : s ≤ 7) : Calls Tryd.prog 38 #[.int .i64 s, .int .i64 p] w fun e w' => e = .returned (.bool (Pt.okP s p)) ∧ w = w' := by
  have hsq := Pt.sq_bd s h1 h2
  have e1 : wrap64 (s * s) = s * s := by unfold wrap64; omega
  have e2 : wrap64 (s * s - 1) = s * s - 1 := by unfold wrap64; omega
  have e : (decide (0 ≤ p) && decide (p ≤ wrap64 (wrap64 (s * s) - 1))) = Pt.okP s p := by
    rw [e1, e2, Bool.eq_iff_iff, Pt.okP_iff, Bool.and_eq_true, decide_eq_true_eq, decide_eq_true_eq]
    omega
  rw [← e]
  exact s_vpt s p w
theorem i_eyeStone (x : Int) (w : World) : Calls Tryd.prog 30 #[.int .i64 x] w fun e w' => e = .returned (.bool (decide (1 ≤ x) && decide (x ≤ 2))) ∧ w = w' := by
  refine (i_isStone x w).mono ?_
  rintro e w' ⟨rfl, rfl⟩
  refine ⟨ret_bool ?_, rfl⟩
  rw [Bool.eq_iff_iff]
  simp
  omega

theorem bit_ne (m p : Nat) (hm : m < 18446744073709551616) (hp : p < 64) : (bits .and .u64 (m : Int) ((2 ^ p : Nat) : Int) != 0) = m.testBit p := by
  have hpp : 2 ^ p < 18446744073709551616 := Nat.pow_lt_pow_right (n := 64) (by decide) hp
  rw [u64_and_nat _ _ hm hpp]
  have hb : (m &&& 2 ^ p).testBit p = m.testBit p := by rw [Nat.testBit_and, Nat.testBit_two_pow_self, Bool.and_true]
  cases e : m.testBit p
  · have : m &&& 2 ^ p = 0 := Nat.eq_of_testBit_eq fun j => by
      rw [Nat.testBit_and, Nat.testBit_two_pow, Nat.zero_testBit]
      by_cases hj : p = j
      · subst hj; rw [e]; rfl
      · rw [decide_eq_false hj, Bool.and_false]
    rw [this]; rfl
  · have : m &&& 2 ^ p ≠ 0 := fun h0 => by rw [h0, Nat.zero_testBit, e] at hb; cases hb
    rw [bne_iff_ne]
    omega

section
variable (s p x : Int) (w : World) (B : Nat) (A : Option Addr) (n c : Nat) (cs : List Int) (h : Ints w B A n cs) (hB : B ≤ w.heap.size) (hn : n ≤ 1000000000)
include h hB hn

end
end Go.Proofs.YteldfjibmaigiaaDoor

namespace Go.Proofs.YteldfjibmaigiaaDoor
set_option maxRecDepth 100000
open Go.RowKit

theorem bit_eq (m p : Nat) (hm : m < 18446744073709551616) (hp : p < 64) : (bits .and .u64 (m : Int) ((2 ^ p : Nat) : Int) == 0) = !m.testBit p := by
  have := bit_ne m p hm hp
  rw [← this]; simp [bne]

theorem RI.make {s x : Int} {n : Nat} {cs : List Int} (hl : cs.length = n) : ∀ j, j ≤ n → ∃ S os, RI s n cs x j S os
  | 0, _ => ⟨_, _, RI.start x hl⟩
  | j + 1, h => by
    obtain ⟨S, os, hr⟩ := RI.make hl j (by omega)
    by_cases hx : cs.getD j 0 = x ∧ NoLib s n cs (j : Nat)
    · exact ⟨_, _, hr.take (by omega) hx⟩
    · exact ⟨_, _, hr.no hx⟩
theorem RI.one {s x : Int} {n : Nat} {cs : List Int} {S S' : List Bool} {os os' : List Int} (h : RI s n cs x n S os) (h' : RI s n cs x n S' os') : S = S' ∧ os = os' := by
  have e : ∀ i, i < n → S.getD i false = S'.getD i false := fun i hi => by
    have := (h.yes i hi).trans (h'.yes i hi).symm
    rcases h3 : S.getD i false with _ | _ <;> rcases h4 : S'.getD i false with _ | _ <;> simp_all
  refine ⟨List.ext_getElem (by rw [h.len, h'.len]) fun i h1 h2 => ?_, List.ext_getElem (by rw [h.olen, h'.olen]) fun i h1 h2 => ?_⟩
  · have := e i (by rw [← h.len]; exact h1)
    rwa [List.getD_eq_getElem?_getD, List.getD_eq_getElem?_getD, List.getElem?_eq_getElem h1, List.getElem?_eq_getElem h2] at this
  · have hi : i < n := by rw [← h.olen]; exact h1
    have := (h.out i hi).trans ((by rw [e i hi]) : _ = (if S'.getD i false then 0 else cs.getD i 0)) |>.trans (h'.out i hi).symm
    rwa [List.getD_eq_getElem?_getD, List.getD_eq_getElem?_getD, List.getElem?_eq_getElem h1, List.getElem?_eq_getElem h2] at this

theorem so_one {xs ys zs : List Int} {k : Nat} (h : So.SO xs ys k) (h' : So.SO xs zs k) (hk : xs.length = k) : ys = zs :=
  Gw.asc_one (h.perm.trans h'.perm.symm) (Gw.pair_of fun a b hab hb => h.pair a b hab (by rw [h.len, hk] at hb; exact hb)) (Gw.pair_of fun a b hab hb => h'.pair a b hab (by rw [h'.len, hk] at hb; exact hb))

theorem Plays.one {s x : Int} {n p : Nat} {cs : List Int} {su : Bool} {R R' : Option (List Int × List Int)} (h : Plays s n cs x p su R) (h' : Plays s n cs x p su R') : R = R' := by
  cases h with
  | taken h0 =>
    cases h' with
    | taken _ => rfl
    | lives _ _ h1 => exact absurd h1 h0
    | lost _ _ h1 => rfl
    | both _ _ _ _ _ _ h1 => exact absurd h1 h0
  | lives S os h0 hr hn =>
    cases h' with
    | taken h1 => exact absurd h0 h1
    | lives S' os' _ hr' _ => obtain ⟨rfl, rfl⟩ := hr.one hr'; rfl
    | lost S' os' _ hr' hn' => obtain ⟨rfl, rfl⟩ := hr.one hr'; exact absurd hn' hn
    | both S' os' _ _ _ _ _ hr' hn' => obtain ⟨rfl, rfl⟩ := hr.one hr'; exact absurd hn' hn
  | lost S os h0 hr hn hs =>
    cases h' with
    | taken h1 => rfl
    | lives S' os' _ hr' hn' => obtain ⟨rfl, rfl⟩ := hr.one hr'; exact absurd hn hn'
    | lost _ _ _ _ _ => rfl
    | both _ _ _ _ _ _ _ _ _ hs' => rw [hs] at hs'; cases hs'
  | both S os S2 os2 gs k h0 hr hn hs hr2 hso hk =>
    cases h' with
    | taken h1 => exact absurd h0 h1
    | lives S' os' _ hr' hn' => obtain ⟨rfl, rfl⟩ := hr.one hr'; exact absurd hn hn'
    | lost _ _ _ _ _ hs' => rw [hs] at hs'; cases hs'
    | both S' os' S2' os2' gs' k' _ hr' _ _ hr2' hso' hk' =>
      obtain ⟨rfl, rfl⟩ := hr.one hr'
      obtain ⟨rfl, rfl⟩ := hr2.one hr2'
      obtain rfl : k = k' := by rw [← hk, ← hk']
      rw [so_one hso hso' hk]

/-- A set with the points that are marked. -/
theorem nl_make {s n : Nat} {cs : List Int} {x : Int} {S : List Bool} {os : List Int} (hr : RI (s : Int) n cs x n S os) : ∃ m, Gw.Nl s n cs x m := by
  refine ⟨Bt.msk (S.map fun b => if b then (1 : Int) else 0) 1 n, fun q => ?_⟩
  rw [Bt.msk_bit, Bool.and_eq_true, decide_eq_true_eq, decide_eq_true_eq]
  have e : q < n → ((S.map fun b => if b then (1 : Int) else 0).getD q 0 = 1 ↔ S.getD q false = true) := fun hq => by
    have hq' : q < S.length := by rw [hr.len]; exact hq
    rw [List.getD_eq_getElem?_getD, List.getD_eq_getElem?_getD, List.getElem?_map, List.getElem?_eq_getElem hq']
    rcases S[q] with _ | _ <;> simp
  constructor
  · rintro ⟨a, b⟩
    have := (hr.yes q a).1 ((e a).1 b)
    exact ⟨a, this.2⟩
  · rintro ⟨a, b⟩
    exact ⟨a, (e a).2 ((hr.yes q a).2 ⟨a, b⟩)⟩

theorem so_pts {m m' n k : Nat} (hd : ∀ q, q < n → m.testBit q = true → m'.testBit q = true → False) (hk : (Bt.pts m n ++ Bt.pts m' n).length = k) : So.SO (Bt.pts m n ++ Bt.pts m' n) (Bt.pts (m ||| m') n) k := by
  have hp : (Bt.pts (m ||| m') n).Perm (Bt.pts m n ++ Bt.pts m' n) := by
    have n1 : (Bt.pts m n ++ Bt.pts m' n).Pairwise (· ≠ ·) := by
      rw [List.pairwise_append]
      refine ⟨(Gw.pts_pair _ _).imp fun h => by omega, (Gw.pts_pair _ _).imp fun h => by omega, ?_⟩
      rintro a ha b hb rfl
      obtain ⟨q, rfl, hq, hqm⟩ := Bt.pts_mem.1 ha
      obtain ⟨q', hq', _, hqm'⟩ := Bt.pts_mem.1 hb
      obtain rfl : q = q' := by omega
      exact hd q hq hqm hqm'
    have n2 : (Bt.pts (m ||| m') n).Pairwise (· ≠ ·) := (Gw.pts_pair _ _).imp fun h => by omega
    refine Gw.perm_of n2 n1 fun x => ?_
    rw [List.mem_append, Bt.pts_mem, Bt.pts_mem, Bt.pts_mem]
    constructor
    · rintro ⟨q, a, b, c⟩
      rw [Nat.testBit_or, Bool.or_eq_true] at c
      rcases c with c | c
      · exact .inl ⟨q, a, b, c⟩
      · exact .inr ⟨q, a, b, c⟩
    · rintro (⟨q, a, b, c⟩ | ⟨q, a, b, c⟩)
      · exact ⟨q, a, b, by rw [Nat.testBit_or, c]; rfl⟩
      · exact ⟨q, a, b, by rw [Nat.testBit_or, c, Bool.or_true]⟩
  refine ⟨hp.length_eq, hp, fun a b hab hb => ?_⟩
  have hb' : b < (Bt.pts (m ||| m') n).length := by rw [hp.length_eq, hk]; exact hb
  have := (List.pairwise_iff_getElem.1 (Gw.pts_pair (m ||| m') n)) a b (by omega) hb' hab
  rw [List.getD_eq_getElem?_getD, List.getD_eq_getElem?_getD, List.getElem?_eq_getElem (show a < (Bt.pts (m ||| m') n).length by omega), List.getElem?_eq_getElem hb']
  exact Int.le_of_lt this

theorem own_at {s x o : Int} {n p : Nat} {cs os : List Int} {S : List Bool} (hl : cs.length = n) (h : RI s n (cs.set p x) o n S os) (hp : p < n) (hx : x ≠ o) : os.getD p 0 = x := by
  have ec : (cs.set p x).getD p 0 = x := by simp [List.getD_eq_getElem?_getD, hl, hp]
  have hS : S.getD p false = false := by
    rcases Bool.eq_false_or_eq_true (S.getD p false) with e | e
    · have := ((h.yes p hp).1 e).2.1
      rw [ec] at this
      exact absurd this hx
    · exact e
  rw [h.out p hp, hS, ec]; rfl

/-- What the program's 'play' answers. -/
def PlI (k n : Nat) (v0 v1 : Value) : Option (List Int × List Int) → Ending → Prop
  | none, e => ∃ v, (v = v0 ∨ v = v1) ∧ e = .returned (.tuple #[.agg #[.int .i64 0, .int .u64 0, .int .u64 0, .int .u64 0], .int .u64 0, v])
  | some (os, gs), e => ∃ m : Nat, m < 2 ^ n ∧ Bt.pts m n = gs ∧ e = .returned (.tuple #[.agg #[.int .i64 (k : Nat), .int .u64 (Bt.msk os 0 n : Nat), .int .u64 (Bt.msk os 1 n : Nat), .int .u64 (Bt.msk os 2 n : Nat)], .int .u64 (m : Nat), .nilIface])

section
variable (k n : Nat) (cs : List Int) (m : Nat) (w : World) (h1 : 1 ≤ k) (h2 : k ≤ 7) (hn : n = k * k) (hl : cs.length = n)
include h1 h2 hn hl
theorem i_wo1 (hm : Gw.Nl k n cs 1 m) : Calls Tryd.prog 57 #[.agg #[.int .i64 (k : Nat), .int .u64 (Bt.msk cs 0 n : Nat), .int .u64 (Bt.msk cs 1 n : Nat), .int .u64 (Bt.msk cs 2 n : Nat)], .int .i64 1] w fun e w' => e = .returned (.int .u64 (m : Nat)) ∧ Below w.heap.size w w' := by
  have l0 := Bt.msk_lt cs 0 n
  have l1 := Bt.msk_lt cs 1 n
  have h7 := (Bt.masks k h1 h2).2.2.2.2.2.2
  refine (i_without1 k _ _ _ w h1 h2 (by rw [← hn]; exact l0) (by rw [← hn]; exact l1) _ (Gw.same_msk hl 1)).mono ?_
  rintro e w' ⟨g, rfl, hgl, hg, hb⟩
  exact ⟨by rw [(Gw.nl_of h1 h2 hn hl hg (by omega)).one hm], hb⟩
theorem i_wo2 (hm : Gw.Nl k n cs 2 m) : Calls Tryd.prog 57 #[.agg #[.int .i64 (k : Nat), .int .u64 (Bt.msk cs 0 n : Nat), .int .u64 (Bt.msk cs 1 n : Nat), .int .u64 (Bt.msk cs 2 n : Nat)], .int .i64 2] w fun e w' => e = .returned (.int .u64 (m : Nat)) ∧ Below w.heap.size w w' := by
  have l0 := Bt.msk_lt cs 0 n
  have l2 := Bt.msk_lt cs 2 n
  have h7 := (Bt.masks k h1 h2).2.2.2.2.2.2
  refine (i_without2 k _ _ _ w h1 h2 (by rw [← hn]; exact l0) (by rw [← hn]; exact l2) _ (Gw.same_msk hl 2)).mono ?_
  rintro e w' ⟨g, rfl, hgl, hg, hb⟩
  exact ⟨by rw [(Gw.nl_of h1 h2 hn hl hg (by omega)).one hm], hb⟩
end

section
variable (k n p : Nat) (cs : List Int) (su : Bool) (v0 v1 : Value)

theorem i_pl1 (hv : Bd.okB (k : Int) cs = true) (hl : cs.length = n) (hp : p < n) :
    ∃ R, Plays (k : Int) n cs 1 p su R ∧ ∀ w, Errs w v0 v1 → Calls Tryd.prog 33 #[.agg #[.int .i64 (k : Nat), .int .u64 (Bt.msk cs 0 n : Nat), .int .u64 (Bt.msk cs 1 n : Nat), .int .u64 (Bt.msk cs 2 n : Nat)], .int .i64 1, .int .i64 (p : Nat), .bool su] w fun e w' => PlI k n v0 v1 R e ∧ Below w.heap.size w w' := by
  obtain ⟨q1, q2, q3, q4⟩ := (Bd.okB_iff (k : Int) cs).1 hv
  have k1 : 1 ≤ k := by omega
  have k2 : k ≤ 7 := by omega
  have hn : n = k * k := by
    have : (n : Int) = ((k * k : Nat) : Int) := by rw [← hl]; push_cast; exact q3
    exact_mod_cast this
  have h7 := (Bt.masks k k1 k2).2.2.2.2.2.2
  have hsq := (Bt.sq_nat k k1 k2).2.1
  have hn49 : n ≤ 49 := by omega
  have lt64 : ∀ (l : List Int) (z : Int), Bt.msk l z n < 18446744073709551616 := fun l z => by
    have := Bt.msk_lt l z n
    rw [hn] at this ⊢; omega
  have hP64 : 2 ^ p < 18446744073709551616 := by
    have : 2 ^ p < 2 ^ 64 := Nat.pow_lt_pow_right (by decide) (by omega)
    omega
  have CO : Hid (∀ w, Calls Tryd.prog 54 #[.int .i64 (p : Nat)] w fun e w' => e = .returned (.int .u64 ((2 ^ p : Nat) : Nat)) ∧ w = w') := Lib.hid fun w => i_only p w (by omega)
  have T1 := bit_eq (Bt.msk cs 0 n) p (lt64 cs 0) (by omega)
  by_cases h0 : cs.getD p 0 = 0
  · have hl1 : (cs.set p 1).length = n := by rw [List.length_set]; exact hl
    obtain ⟨S, os, hr⟩ := RI.make (s := (k : Int)) (x := oth 1) hl1 n (Nat.le_refl _)
    have hx1 : oth 1 = 2 := by decide
    rw [hx1] at hr
    obtain ⟨m1, hm1⟩ := nl_make hr
    obtain ⟨S2, os2, hr2⟩ := RI.make (s := (k : Int)) (x := 1) hr.olen n (Nat.le_refl _)
    obtain ⟨m2, hm2⟩ := nl_make hr2
    have hm1l : m1 < 18446744073709551616 := by have := hm1.lt; rw [hn] at this; omega
    have hm2l : m2 < 18446744073709551616 := by have := hm2.lt; rw [hn] at this; omega
    have eP : (Bt.msk cs 0 n).testBit p = true := by rw [Bt.msk_bit]; simp only [Bool.and_eq_true, decide_eq_true_eq]; exact ⟨hp, h0⟩
    have eE1 := Gw.set_gone hl hp (x := 1) (z := 0) (by decide) (lt64 cs 0) (by omega)
    have eM1 := Gw.set_same hl hp (x := 1)
    have eO1 := Gw.set_other hl hp (x := 1) (z := 2) (by decide) (by rw [h0]; decide)
    have eE2 := hm1.empty hr
    have eO2 := hm1.own hr (by decide) (lt64 _ _) hm1l
    have eM2 := hm1.other hr (y := 1) (by decide) (by decide)
    have eE3 := hm2.empty hr2
    have eM3 := hm2.own hr2 (by decide) (lt64 _ _) hm2l
    have eO3 := hm2.other hr2 (y := 2) (by decide) (by decide)
    have CR1 : Hid (false = false → ∀ w, Calls Tryd.prog 56 #[.agg #[.int .i64 (k : Nat), .int .u64 (Bt.msk cs 0 n : Nat), .int .u64 (Bt.msk cs 1 n : Nat), .int .u64 (Bt.msk cs 2 n : Nat)], .int .u64 ((2 ^ p : Nat) : Nat), .int .i64 0, .int .i64 1] w fun e w' => e = .returned (.agg #[.int .i64 (k : Nat), .int .u64 (Bt.msk (cs.set p 1) 0 n : Nat), .int .u64 (Bt.msk (cs.set p 1) 1 n : Nat), .int .u64 (Bt.msk (cs.set p 1) 2 n : Nat)]) ∧ Below w.heap.size w w') := Lib.hid fun _ w => by
      rw [eE1, eM1, eO1]
      exact i_rec01 k _ _ _ _ w (lt64 _ _) (lt64 _ _) hP64
    have CW1 : Hid (false = false → ∀ w, Calls Tryd.prog 57 #[.agg #[.int .i64 (k : Nat), .int .u64 (Bt.msk (cs.set p 1) 0 n : Nat), .int .u64 (Bt.msk (cs.set p 1) 1 n : Nat), .int .u64 (Bt.msk (cs.set p 1) 2 n : Nat)], .int .i64 2] w fun e w' => e = .returned (.int .u64 (m1 : Nat)) ∧ Below w.heap.size w w') := Lib.hid fun _ w => i_wo2 k n (cs.set p 1) m1 w k1 k2 hn hl1 hm1
    have CR2 : Hid (false = false → ∀ w, Calls Tryd.prog 56 #[.agg #[.int .i64 (k : Nat), .int .u64 (Bt.msk (cs.set p 1) 0 n : Nat), .int .u64 (Bt.msk (cs.set p 1) 1 n : Nat), .int .u64 (Bt.msk (cs.set p 1) 2 n : Nat)], .int .u64 (m1 : Nat), .int .i64 2, .int .i64 0] w fun e w' => e = .returned (.agg #[.int .i64 (k : Nat), .int .u64 (Bt.msk os 0 n : Nat), .int .u64 (Bt.msk os 1 n : Nat), .int .u64 (Bt.msk os 2 n : Nat)]) ∧ Below w.heap.size w w') := Lib.hid fun _ w => by
      rw [eE2, eO2, eM2]
      exact i_rec20 k _ _ _ _ w (lt64 _ _) (lt64 _ _) hm1l
    have CW2 : Hid (false = false → ∀ w, Calls Tryd.prog 57 #[.agg #[.int .i64 (k : Nat), .int .u64 (Bt.msk os 0 n : Nat), .int .u64 (Bt.msk os 1 n : Nat), .int .u64 (Bt.msk os 2 n : Nat)], .int .i64 1] w fun e w' => e = .returned (.int .u64 (m2 : Nat)) ∧ Below w.heap.size w w') := Lib.hid fun _ w => i_wo1 k n os m2 w k1 k2 hn hr.olen hm2
    have CR3 : Hid (false = false → ∀ w, Calls Tryd.prog 56 #[.agg #[.int .i64 (k : Nat), .int .u64 (Bt.msk os 0 n : Nat), .int .u64 (Bt.msk os 1 n : Nat), .int .u64 (Bt.msk os 2 n : Nat)], .int .u64 (m2 : Nat), .int .i64 1, .int .i64 0] w fun e w' => e = .returned (.agg #[.int .i64 (k : Nat), .int .u64 (Bt.msk os2 0 n : Nat), .int .u64 (Bt.msk os2 1 n : Nat), .int .u64 (Bt.msk os2 2 n : Nat)]) ∧ Below w.heap.size w w') := Lib.hid fun _ w => by
      rw [eE3, eO3, eM3]
      exact i_rec10 k _ _ _ _ w (lt64 _ _) (lt64 _ _) hm2l
    have T2 := bit_eq m2 p hm2l (by omega)
    rw [eP] at T1
    have T3 : Hid (bits .or .u64 (m1 : Int) (m2 : Int) = ((m1 ||| m2 : Nat) : Int)) := Lib.hid (u64_or_nat _ _ hm1l hm2l)
    rw [eO1] at CR1 CW1 CR2
    rw [eM2] at CR2 CW2 CR3
    rw [eO3] at CR3
    have key := fun w hg => i_playA1 k p (2 ^ p) (Bt.msk cs 0 n) (Bt.msk cs 1 n) (Bt.msk cs 2 n) (Bt.msk (cs.set p 1) 0 n) (Bt.msk (cs.set p 1) 1 n) m1 (Bt.msk os 0 n) (Bt.msk os 2 n) m2 (Bt.msk os2 0 n) (Bt.msk os2 1 n) (m1 ||| m2) su w v0 v1 false (!m2.testBit p) CO CR1 CW1 CR2 CW2 CR3 (Lib.hid T1) (Lib.hid T2) T3 hg
    have eo : os.getD p 0 = 1 := own_at hl hr hp (by decide)
    by_cases hno : NoLib (k : Int) n os p
    · have hb : m2.testBit p = true := (hm2 p).2 ⟨hp, eo, hno⟩
      rw [hb] at key
      cases su
      · refine ⟨none, .lost S os h0 (by rw [hx1]; exact hr) hno rfl, fun w hg => (key w hg).mono ?_⟩
        rintro e w' ⟨rfl, hb⟩
        exact ⟨⟨v1, .inr rfl, rfl⟩, hb⟩
      · have hd : ∀ q, q < n → m1.testBit q = true → m2.testBit q = true → False := fun q hq a b => by
          have e1 := hr.out q hq
          rw [← hm1.marks hr q hq, a, if_pos rfl] at e1
          have e2 := ((hm2 q).1 b).2.1
          rw [e1] at e2
          exact absurd e2 (by decide)
        refine ⟨some (os2, Bt.pts (m1 ||| m2) n), .both S os S2 os2 _ _ h0 (by rw [hx1]; exact hr) hno rfl hr2 (by rw [← hm1.pts hr, ← hm2.pts hr2]; exact so_pts hd rfl) (by rw [← hm1.pts hr, ← hm2.pts hr2]), fun w hg => (key w hg).mono ?_⟩
        rintro e w' ⟨rfl, hb⟩
        exact ⟨⟨m1 ||| m2, Bt.or_lt hm1.lt hm2.lt, rfl, by rw [eO3]; rfl⟩, hb⟩
    · have hb : m2.testBit p = false := by
        rcases e : m2.testBit p with _ | _
        · rfl
        · exact absurd ((hm2 p).1 e).2.2 hno
      rw [hb] at key
      refine ⟨some (os, Fl.pts S n), .lives S os h0 (by rw [hx1]; exact hr) hno, fun w hg => (key w hg).mono ?_⟩
      rintro e w' ⟨rfl, hb⟩
      exact ⟨⟨m1, hm1.lt, hm1.pts hr, by rw [eM2]; rfl⟩, hb⟩
  · have eP : (Bt.msk cs 0 n).testBit p = false := by rw [Bt.msk_bit, decide_eq_false h0, Bool.and_false]
    rw [eP] at T1
    refine ⟨none, .taken h0, fun w hg => ?_⟩
    refine (i_playA1 k p (2 ^ p) (Bt.msk cs 0 n) (Bt.msk cs 1 n) (Bt.msk cs 2 n) 0 0 0 0 0 0 0 0 0 su w v0 v1 true true CO (Lib.hid fun e => by cases e) (Lib.hid fun e => by cases e) (Lib.hid fun e => by cases e) (Lib.hid fun e => by cases e) (Lib.hid fun e => by cases e) (Lib.hid T1) (Lib.hid (by rw [show bits .and .u64 ((0 : Nat) : Int) ((2 ^ p : Nat) : Int) = 0 by rw [u64_and_nat _ _ (by omega) hP64]; simp]; rfl)) (Lib.hid (by rfl)) hg).mono ?_
    rintro e w' ⟨rfl, hb⟩
    exact ⟨⟨v0, .inl rfl, rfl⟩, hb⟩

theorem i_pl2 (hv : Bd.okB (k : Int) cs = true) (hl : cs.length = n) (hp : p < n) :
    ∃ R, Plays (k : Int) n cs 2 p su R ∧ ∀ w, Errs w v0 v1 → Calls Tryd.prog 33 #[.agg #[.int .i64 (k : Nat), .int .u64 (Bt.msk cs 0 n : Nat), .int .u64 (Bt.msk cs 1 n : Nat), .int .u64 (Bt.msk cs 2 n : Nat)], .int .i64 2, .int .i64 (p : Nat), .bool su] w fun e w' => PlI k n v0 v1 R e ∧ Below w.heap.size w w' := by
  obtain ⟨q1, q2, q3, q4⟩ := (Bd.okB_iff (k : Int) cs).1 hv
  have k1 : 1 ≤ k := by omega
  have k2 : k ≤ 7 := by omega
  have hn : n = k * k := by
    have : (n : Int) = ((k * k : Nat) : Int) := by rw [← hl]; push_cast; exact q3
    exact_mod_cast this
  have h7 := (Bt.masks k k1 k2).2.2.2.2.2.2
  have hsq := (Bt.sq_nat k k1 k2).2.1
  have hn49 : n ≤ 49 := by omega
  have lt64 : ∀ (l : List Int) (z : Int), Bt.msk l z n < 18446744073709551616 := fun l z => by
    have := Bt.msk_lt l z n
    rw [hn] at this ⊢; omega
  have hP64 : 2 ^ p < 18446744073709551616 := by
    have : 2 ^ p < 2 ^ 64 := Nat.pow_lt_pow_right (by decide) (by omega)
    omega
  have CO : Hid (∀ w, Calls Tryd.prog 54 #[.int .i64 (p : Nat)] w fun e w' => e = .returned (.int .u64 ((2 ^ p : Nat) : Nat)) ∧ w = w') := Lib.hid fun w => i_only p w (by omega)
  have T1 := bit_eq (Bt.msk cs 0 n) p (lt64 cs 0) (by omega)
  by_cases h0 : cs.getD p 0 = 0
  · have hl1 : (cs.set p 2).length = n := by rw [List.length_set]; exact hl
    obtain ⟨S, os, hr⟩ := RI.make (s := (k : Int)) (x := oth 2) hl1 n (Nat.le_refl _)
    have hx1 : oth 2 = 1 := by decide
    rw [hx1] at hr
    obtain ⟨m1, hm1⟩ := nl_make hr
    obtain ⟨S2, os2, hr2⟩ := RI.make (s := (k : Int)) (x := 2) hr.olen n (Nat.le_refl _)
    obtain ⟨m2, hm2⟩ := nl_make hr2
    have hm1l : m1 < 18446744073709551616 := by have := hm1.lt; rw [hn] at this; omega
    have hm2l : m2 < 18446744073709551616 := by have := hm2.lt; rw [hn] at this; omega
    have eP : (Bt.msk cs 0 n).testBit p = true := by rw [Bt.msk_bit]; simp only [Bool.and_eq_true, decide_eq_true_eq]; exact ⟨hp, h0⟩
    have eE1 := Gw.set_gone hl hp (x := 2) (z := 0) (by decide) (lt64 cs 0) (by omega)
    have eM1 := Gw.set_same hl hp (x := 2)
    have eO1 := Gw.set_other hl hp (x := 2) (z := 1) (by decide) (by rw [h0]; decide)
    have eE2 := hm1.empty hr
    have eO2 := hm1.own hr (by decide) (lt64 _ _) hm1l
    have eM2 := hm1.other hr (y := 2) (by decide) (by decide)
    have eE3 := hm2.empty hr2
    have eM3 := hm2.own hr2 (by decide) (lt64 _ _) hm2l
    have eO3 := hm2.other hr2 (y := 1) (by decide) (by decide)
    have CR1 : Hid (false = false → ∀ w, Calls Tryd.prog 56 #[.agg #[.int .i64 (k : Nat), .int .u64 (Bt.msk cs 0 n : Nat), .int .u64 (Bt.msk cs 1 n : Nat), .int .u64 (Bt.msk cs 2 n : Nat)], .int .u64 ((2 ^ p : Nat) : Nat), .int .i64 0, .int .i64 2] w fun e w' => e = .returned (.agg #[.int .i64 (k : Nat), .int .u64 (Bt.msk (cs.set p 2) 0 n : Nat), .int .u64 (Bt.msk (cs.set p 2) 1 n : Nat), .int .u64 (Bt.msk (cs.set p 2) 2 n : Nat)]) ∧ Below w.heap.size w w') := Lib.hid fun _ w => by
      rw [eE1, eM1, eO1]
      exact i_rec02 k _ _ _ _ w (lt64 _ _) (lt64 _ _) hP64
    have CW1 : Hid (false = false → ∀ w, Calls Tryd.prog 57 #[.agg #[.int .i64 (k : Nat), .int .u64 (Bt.msk (cs.set p 2) 0 n : Nat), .int .u64 (Bt.msk (cs.set p 2) 1 n : Nat), .int .u64 (Bt.msk (cs.set p 2) 2 n : Nat)], .int .i64 1] w fun e w' => e = .returned (.int .u64 (m1 : Nat)) ∧ Below w.heap.size w w') := Lib.hid fun _ w => i_wo1 k n (cs.set p 2) m1 w k1 k2 hn hl1 hm1
    have CR2 : Hid (false = false → ∀ w, Calls Tryd.prog 56 #[.agg #[.int .i64 (k : Nat), .int .u64 (Bt.msk (cs.set p 2) 0 n : Nat), .int .u64 (Bt.msk (cs.set p 2) 1 n : Nat), .int .u64 (Bt.msk (cs.set p 2) 2 n : Nat)], .int .u64 (m1 : Nat), .int .i64 1, .int .i64 0] w fun e w' => e = .returned (.agg #[.int .i64 (k : Nat), .int .u64 (Bt.msk os 0 n : Nat), .int .u64 (Bt.msk os 1 n : Nat), .int .u64 (Bt.msk os 2 n : Nat)]) ∧ Below w.heap.size w w') := Lib.hid fun _ w => by
      rw [eE2, eO2, eM2]
      exact i_rec10 k _ _ _ _ w (lt64 _ _) (lt64 _ _) hm1l
    have CW2 : Hid (false = false → ∀ w, Calls Tryd.prog 57 #[.agg #[.int .i64 (k : Nat), .int .u64 (Bt.msk os 0 n : Nat), .int .u64 (Bt.msk os 1 n : Nat), .int .u64 (Bt.msk os 2 n : Nat)], .int .i64 2] w fun e w' => e = .returned (.int .u64 (m2 : Nat)) ∧ Below w.heap.size w w') := Lib.hid fun _ w => i_wo2 k n os m2 w k1 k2 hn hr.olen hm2
    have CR3 : Hid (false = false → ∀ w, Calls Tryd.prog 56 #[.agg #[.int .i64 (k : Nat), .int .u64 (Bt.msk os 0 n : Nat), .int .u64 (Bt.msk os 1 n : Nat), .int .u64 (Bt.msk os 2 n : Nat)], .int .u64 (m2 : Nat), .int .i64 2, .int .i64 0] w fun e w' => e = .returned (.agg #[.int .i64 (k : Nat), .int .u64 (Bt.msk os2 0 n : Nat), .int .u64 (Bt.msk os2 1 n : Nat), .int .u64 (Bt.msk os2 2 n : Nat)]) ∧ Below w.heap.size w w') := Lib.hid fun _ w => by
      rw [eE3, eO3, eM3]
      exact i_rec20 k _ _ _ _ w (lt64 _ _) (lt64 _ _) hm2l
    have T2 := bit_eq m2 p hm2l (by omega)
    rw [eP] at T1
    have T3 : Hid (bits .or .u64 (m1 : Int) (m2 : Int) = ((m1 ||| m2 : Nat) : Int)) := Lib.hid (u64_or_nat _ _ hm1l hm2l)
    rw [eO1] at CR1 CW1 CR2
    rw [eM2] at CR2 CW2 CR3
    rw [eO3] at CR3
    have key := fun w hg => i_playA2 k p (2 ^ p) (Bt.msk cs 0 n) (Bt.msk cs 2 n) (Bt.msk cs 1 n) (Bt.msk (cs.set p 2) 0 n) (Bt.msk (cs.set p 2) 2 n) m1 (Bt.msk os 0 n) (Bt.msk os 1 n) m2 (Bt.msk os2 0 n) (Bt.msk os2 2 n) (m1 ||| m2) su w v0 v1 false (!m2.testBit p) CO CR1 CW1 CR2 CW2 CR3 (Lib.hid T1) (Lib.hid T2) T3 hg
    have eo : os.getD p 0 = 2 := own_at hl hr hp (by decide)
    by_cases hno : NoLib (k : Int) n os p
    · have hb : m2.testBit p = true := (hm2 p).2 ⟨hp, eo, hno⟩
      rw [hb] at key
      cases su
      · refine ⟨none, .lost S os h0 (by rw [hx1]; exact hr) hno rfl, fun w hg => (key w hg).mono ?_⟩
        rintro e w' ⟨rfl, hb⟩
        exact ⟨⟨v1, .inr rfl, rfl⟩, hb⟩
      · have hd : ∀ q, q < n → m1.testBit q = true → m2.testBit q = true → False := fun q hq a b => by
          have e1 := hr.out q hq
          rw [← hm1.marks hr q hq, a, if_pos rfl] at e1
          have e2 := ((hm2 q).1 b).2.1
          rw [e1] at e2
          exact absurd e2 (by decide)
        refine ⟨some (os2, Bt.pts (m1 ||| m2) n), .both S os S2 os2 _ _ h0 (by rw [hx1]; exact hr) hno rfl hr2 (by rw [← hm1.pts hr, ← hm2.pts hr2]; exact so_pts hd rfl) (by rw [← hm1.pts hr, ← hm2.pts hr2]), fun w hg => (key w hg).mono ?_⟩
        rintro e w' ⟨rfl, hb⟩
        exact ⟨⟨m1 ||| m2, Bt.or_lt hm1.lt hm2.lt, rfl, by rw [eO3]; rfl⟩, hb⟩
    · have hb : m2.testBit p = false := by
        rcases e : m2.testBit p with _ | _
        · rfl
        · exact absurd ((hm2 p).1 e).2.2 hno
      rw [hb] at key
      refine ⟨some (os, Fl.pts S n), .lives S os h0 (by rw [hx1]; exact hr) hno, fun w hg => (key w hg).mono ?_⟩
      rintro e w' ⟨rfl, hb⟩
      exact ⟨⟨m1, hm1.lt, hm1.pts hr, by rw [eM2]; rfl⟩, hb⟩
  · have eP : (Bt.msk cs 0 n).testBit p = false := by rw [Bt.msk_bit, decide_eq_false h0, Bool.and_false]
    rw [eP] at T1
    refine ⟨none, .taken h0, fun w hg => ?_⟩
    refine (i_playA2 k p (2 ^ p) (Bt.msk cs 0 n) (Bt.msk cs 2 n) (Bt.msk cs 1 n) 0 0 0 0 0 0 0 0 0 su w v0 v1 true true CO (Lib.hid fun e => by cases e) (Lib.hid fun e => by cases e) (Lib.hid fun e => by cases e) (Lib.hid fun e => by cases e) (Lib.hid fun e => by cases e) (Lib.hid T1) (Lib.hid (by rw [show bits .and .u64 ((0 : Nat) : Int) ((2 ^ p : Nat) : Int) = 0 by rw [u64_and_nat _ _ (by omega) hP64]; simp]; rfl)) (Lib.hid (by rfl)) hg).mono ?_
    rintro e w' ⟨rfl, hb⟩
    exact ⟨⟨v0, .inl rfl, rfl⟩, hb⟩
end
end Go.Proofs.YteldfjibmaigiaaDoor

namespace Go.Proofs.YteldfjibmaigiaaDoor
set_option maxRecDepth 100000
open Go.RowKit

theorem own_cellD {w : World} {B g n c : Nat} {xs : List Int} (h : Own w B (some ⟨g, 0, none⟩) n c xs) (j : Nat) (hj : j < n) : w.cell? ⟨g, j, none⟩ = some (.int .i64 (xs.getD j 0)) := by
  rw [World.ownsRow.cellAt h.2 j (by omega)]
  simp [List.getD_eq_getElem?_getD, List.getElem?_eq_getElem (show j < xs.length by rw [h.1]; exact hj)]

namespace Bf
/-- The board where the colors below c and the points of l with the color c stand. -/
def fill (os : List Int) (c : Int) (l : List Int) : List Int := (List.range os.length).map fun q => if os.getD q 0 < c ∨ (os.getD q 0 = c ∧ (q : Int) ∈ l) then os.getD q 0 else 0
theorem len (os : List Int) (c : Int) (l : List Int) : (fill os c l).length = os.length := by simp [fill]
theorem at_ {os : List Int} {c : Int} {l : List Int} {q : Nat} (h : q < os.length) : (fill os c l).getD q 0 = if os.getD q 0 < c ∨ (os.getD q 0 = c ∧ (q : Int) ∈ l) then os.getD q 0 else 0 := by
  simp only [fill, List.getD_eq_getElem?_getD, List.getElem?_map, List.getElem?_range h, Option.map_some, Option.getD_some]
theorem ext {a b : List Int} (hl : a.length = b.length) (h : ∀ q, q < a.length → a.getD q 0 = b.getD q 0) : a = b := by
  refine List.ext_getElem hl fun i h1 h2 => ?_
  have := h i h1
  rwa [List.getD_eq_getElem?_getD, List.getD_eq_getElem?_getD, List.getElem?_eq_getElem h1, List.getElem?_eq_getElem h2] at this
theorem zero {os : List Int} (hok : ∀ c ∈ os, 0 ≤ c ∧ c ≤ 2) : fill os 0 [] = List.replicate os.length 0 := by
  refine ext (by rw [len, List.length_replicate]) fun q hq => ?_
  rw [len] at hq
  rw [at_ hq, List.getD_eq_getElem?_getD (l := List.replicate _ _), List.getElem?_replicate, if_pos hq]
  have := hok _ (List.getElem_mem hq)
  have e : os.getD q 0 = os[q] := by rw [List.getD_eq_getElem?_getD, List.getElem?_eq_getElem hq]; rfl
  rw [e, if_neg (by rintro (h | ⟨_, h⟩) <;> first | omega | cases h)]
  rfl
theorem all {os : List Int} (hok : ∀ c ∈ os, 0 ≤ c ∧ c ≤ 2) : fill os 3 [] = os := by
  refine ext (len _ _ _) fun q hq => ?_
  rw [len] at hq
  have := hok _ (List.getElem_mem hq)
  have e : os.getD q 0 = os[q] := by rw [List.getD_eq_getElem?_getD, List.getElem?_eq_getElem hq]; rfl
  rw [at_ hq, if_pos (.inl (by rw [e]; omega))]
theorem step {os L : List Int} {c : Int} {j q : Nat} (hq : q < os.length) (hc : os.getD q 0 = c) (hj : j < L.length) (he : L.getD j 0 = (q : Int)) : (fill os c (L.take j)).set q c = fill os c (L.take (j + 1)) := by
  refine ext (by rw [List.length_set, len, len]) fun p hp => ?_
  rw [List.length_set, len] at hp
  have e : L.take (j + 1) = L.take j ++ [(q : Int)] := by
    rw [List.take_succ_eq_append_getElem hj]
    rw [List.getD_eq_getElem?_getD, List.getElem?_eq_getElem hj] at he
    rw [show L[j] = (q : Int) from he]
  rw [Un.getD_set _ _ _ _ (by rw [len]; exact hq), at_ hp, at_ hp, e]
  by_cases epq : p = q
  · subst epq
    rw [if_pos rfl, if_pos (.inr ⟨hc, by simp⟩), hc]
  · have : ¬ (p : Int) = q := by omega
    rw [if_neg epq]
    simp [this]
theorem next {os L : List Int} {c : Int} (h : ∀ q, q < os.length → os.getD q 0 = c → (q : Int) ∈ L) : fill os c L = fill os (c + 1) [] := by
  refine ext (by rw [len, len]) fun p hp => ?_
  rw [len] at hp
  rw [at_ hp, at_ hp]
  by_cases e : os.getD p 0 < c + 1
  · by_cases e2 : os.getD p 0 < c
    · exact (if_pos (.inl e2)).trans (if_pos (.inl e)).symm
    · have e3 : os.getD p 0 = c := by omega
      exact (if_pos (.inr ⟨e3, h p hp e3⟩)).trans (if_pos (.inl e)).symm
  · exact (if_neg (by rintro (h | ⟨h, _⟩) <;> omega)).trans (if_neg (by rintro (h | ⟨_, h⟩) <;> first | omega | cases h)).symm
end Bf

/-- The points of a color, as the list of a set. -/
theorem col_list {os : List Int} {n : Nat} (hl : os.length = n) (hn : n ≤ 49) (c : Int) : (Bt.pts (Bt.msk os c n) 64).length ≤ 64 ∧ (∀ j, j < (Bt.pts (Bt.msk os c n) 64).length → ∃ q : Nat, (Bt.pts (Bt.msk os c n) 64).getD j 0 = (q : Int) ∧ q < n ∧ os.getD q 0 = c) ∧ ∀ q, q < os.length → os.getD q 0 = c → (q : Int) ∈ Bt.pts (Bt.msk os c n) 64 := by
  refine ⟨Bt.pts_len _ _, fun j hj => ?_, fun q hq hc => Bt.pts_mem.2 ⟨q, rfl, by omega, by rw [Bt.msk_bit, decide_eq_true (by omega : q < n), decide_eq_true hc]; rfl⟩⟩
  have hm : (Bt.pts (Bt.msk os c n) 64).getD j 0 ∈ Bt.pts (Bt.msk os c n) 64 := by rw [List.getD_eq_getElem?_getD, List.getElem?_eq_getElem hj]; exact List.getElem_mem _
  obtain ⟨q, e1, _, e3⟩ := Bt.pts_mem.1 hm
  rw [Bt.msk_bit, Bool.and_eq_true, decide_eq_true_eq, decide_eq_true_eq] at e3
  exact ⟨q, e1, e3.1, e3.2⟩

set_option maxRecDepth 100000 in
set_option maxHeartbeats 8000000 in
theorem i_board (k n : Nat) (os : List Int) (w : World) (ht : Tab w) (k1 : 1 ≤ k) (k2 : k ≤ 7) (hn : n = k * k) (hl : os.length = n) (hok : ∀ c ∈ os, 0 ≤ c ∧ c ≤ 2) :
    Calls Tryd.prog 34 #[.agg #[.int .i64 (k : Nat), .int .u64 (Bt.msk os 0 n : Nat), .int .u64 (Bt.msk os 1 n : Nat), .int .u64 (Bt.msk os 2 n : Nat)]] w fun e w' => ∃ A c, e = .returned (.agg #[.int .i64 (k : Nat), .slice A n c]) ∧ Own w' w.heap.size A n c os ∧ Below w.heap.size w w' := by
  have h7 := (Bt.masks k k1 k2).2.2.2.2.2.2
  have hsq := (Bt.sq_nat k k1 k2).2.1
  have hsq1 := (Bt.sq_nat k k1 k2).1
  have hn49 : n ≤ 49 := by omega
  have hn1 : 1 ≤ n := by omega
  have lt64 : ∀ (z : Int), Bt.msk os z n < 18446744073709551616 := fun z => by
    have := Bt.msk_lt os z n
    rw [hn] at this ⊢; omega
  obtain ⟨E0, hE0⟩ : ∃ E, Bt.msk os 0 n = E := ⟨_, rfl⟩
  obtain ⟨L0, hL0⟩ : ∃ L, Bt.pts E0 64 = L := ⟨_, rfl⟩
  have cl0 := col_list hl hn49 0
  rw [hE0, hL0] at cl0
  have C0 : Hid (∀ w, Tab w → Calls Tryd.prog 35 #[.int .u64 (E0 : Nat)] w fun e w' => ∃ A n c, e = .returned (.slice A n c) ∧ Own w' w.heap.size A n c L0 ∧ Below w.heap.size w w') := Lib.hid fun w ht => by rw [← hL0]; exact i_list E0 w ht (by rw [← hE0]; exact lt64 0)
  have Ln0 := Lib.hid cl0.1
  have Lp0 := Lib.hid cl0.2.1
  have Lf0 := Lib.hid cl0.2.2
  rw [hE0]
  clear cl0 hL0 hE0
  obtain ⟨E1, hE1⟩ : ∃ E, Bt.msk os 1 n = E := ⟨_, rfl⟩
  obtain ⟨L1, hL1⟩ : ∃ L, Bt.pts E1 64 = L := ⟨_, rfl⟩
  have cl1 := col_list hl hn49 1
  rw [hE1, hL1] at cl1
  have C1 : Hid (∀ w, Tab w → Calls Tryd.prog 35 #[.int .u64 (E1 : Nat)] w fun e w' => ∃ A n c, e = .returned (.slice A n c) ∧ Own w' w.heap.size A n c L1 ∧ Below w.heap.size w w') := Lib.hid fun w ht => by rw [← hL1]; exact i_list E1 w ht (by rw [← hE1]; exact lt64 1)
  have Ln1 := Lib.hid cl1.1
  have Lp1 := Lib.hid cl1.2.1
  have Lf1 := Lib.hid cl1.2.2
  rw [hE1]
  clear cl1 hL1 hE1
  obtain ⟨E2, hE2⟩ : ∃ E, Bt.msk os 2 n = E := ⟨_, rfl⟩
  obtain ⟨L2, hL2⟩ : ∃ L, Bt.pts E2 64 = L := ⟨_, rfl⟩
  have cl2 := col_list hl hn49 2
  rw [hE2, hL2] at cl2
  have C2 : Hid (∀ w, Tab w → Calls Tryd.prog 35 #[.int .u64 (E2 : Nat)] w fun e w' => ∃ A n c, e = .returned (.slice A n c) ∧ Own w' w.heap.size A n c L2 ∧ Below w.heap.size w w') := Lib.hid fun w ht => by rw [← hL2]; exact i_list E2 w ht (by rw [← hE2]; exact lt64 2)
  have Ln2 := Lib.hid cl2.1
  have Lp2 := Lib.hid cl2.2.1
  have Lf2 := Lib.hid cl2.2.2
  rw [hE2]
  clear cl2 hL2 hE2
  have hnew : newS (k : Int) = (k : Int) ∧ newCs (k : Int) = Bf.fill os 0 [] := by
    have : Pt.okS (k : Int) = true := (Pt.okS_iff _).2 ⟨by omega, by omega⟩
    refine ⟨by rw [newS, if_pos this], ?_⟩
    rw [newCs, if_pos this, Bf.zero hok, hl, hn]
    congr 1
  have CN : Hid (∀ w, Calls Tryd.prog 58 #[.int .i64 (k : Nat)] w fun e w' => Made (k : Int) (Bf.fill os 0 []) w e w') := Lib.hid fun w => by
    have := i_new (k : Int) w
    rw [hnew.1, hnew.2] at this
    exact this
  have HA := Lib.hid (Bf.all hok)
  have HF := Lib.hid (Bf.len os 0 [])
  have Hl := Lib.hid hl
  have HT := Lib.hid ht
  have e1 : (w.alloc (.cells #[.int .i64 (k : Nat), .int .u64 (E0 : Nat), .int .u64 (E1 : Nat), .int .u64 (E2 : Nat)] 58)).heap.size = w.heap.size + 1 := by simp
  have p0 := (Px.new w (k : Nat) E0 E1 E2).step ((Below.refl (w.alloc (.cells #[.int .i64 (k : Nat), .int .u64 (E0 : Nat), .int .u64 (E1 : Nat), .int .u64 (E2 : Nat)] 58)).heap.size (w.alloc (.cells #[.int .i64 (k : Nat), .int .u64 (E0 : Nat), .int .u64 (E1 : Nat), .int .u64 (E2 : Nat)] 58))).alloc (Nat.le_refl _) (.cells #[.int .i64 0, .slice none 0 0] 25))
  have p1 := Bx.new 25 (w.alloc (.cells #[.int .i64 (k : Nat), .int .u64 (E0 : Nat), .int .u64 (E1 : Nat), .int .u64 (E2 : Nat)] 58)) 0 (.slice none 0 0)
  have hb2 : Below w.heap.size w ((w.alloc (.cells #[.int .i64 (k : Nat), .int .u64 (E0 : Nat), .int .u64 (E1 : Nat), .int .u64 (E2 : Nat)] 58)).alloc (.cells #[.int .i64 0, .slice none 0 0] 25)) := ((Below.refl _ _).alloc (Nat.le_refl _) _).alloc (by simp) _
  rw [e1] at p1
  obtain ⟨y, hy⟩ : ∃ y, y = (w.alloc (.cells #[.int .i64 (k : Nat), .int .u64 (E0 : Nat), .int .u64 (E1 : Nat), .int .u64 (E2 : Nat)] 58)).alloc (.cells #[.int .i64 0, .slice none 0 0] 25) := ⟨_, rfl⟩
  have P0 : Hid (Px y w.heap.size (k : Nat) E0 E1 E2) := Lib.hid (by rw [hy]; exact p0)
  have X1 : Hid (Bx 25 y (w.heap.size + 1) 0 (.slice none 0 0)) := Lib.hid (by rw [hy]; exact p1)
  have Hb : Hid (Below w.heap.size w y) := Lib.hid (by rw [hy]; exact hb2)
  have Hyz : Hid (w.heap.size + 1 < y.heap.size) := Lib.hid X1.out.lt
  clear e1 p0 p1 hb2 ht hok hnew lt64 h7 hn hl hsq hsq1
  go_enter Tryd.func34, Tryd.ntmps34
  go_upto_region 1 with (fail)
  rw [← hy]
  clear hy
  have c0 := P0.out.c0
  have hz := P0.out.lt
  go_wp2_with fail
  refine (CN.out _).mono ?_
  rintro e y2 ⟨A, n', cap, rfl, ho, hb⟩
  have hn' : n = n' := by have := ho.1; have := HF.out; have := Hl.out; omega
  cases hn'
  obtain ⟨g, cap', hv, hg, hlt⟩ := World.ownsRow.form ho.2 (by omega)
  obtain rfl : A = some ⟨g, 0, none⟩ := by injection hv
  have P0 := Lib.hid (P0.out.step hb)
  have X1 := Lib.hid (X1.out.below hb X1.out.lt)
  have Hb := Lib.hid (Hb.out.trans (hb.mono Hb.out.size))
  have Hg0 := Lib.hid (ho.ge rfl).1
  have Hg1 := Lib.hid (ho.ge rfl).2
  have Ho := Lib.hid ho
  clear hb ho c0 hz hv hg hlt
  go_upto_region 2 with (fail)
  obtain ⟨y3, hy3, hb3, z3, z4⟩ := new_box y2 (.cells #[.int .i64 (k : Nat), .slice (some ⟨g, 0, none⟩) n cap] 25)
  have X3 : Hid (Bx 25 y3 y2.heap.size (k : Nat) (.slice (some ⟨g, 0, none⟩) n cap)) := Lib.hid (by rw [hy3]; exact Bx.new _ _ _ _)
  rw [← hy3]
  clear hy3
  have P0 := Lib.hid (P0.out.step hb3)
  have X1 := Lib.hid (X1.out.below hb3 X1.out.lt)
  have Hb := Lib.hid (Hb.out.trans (hb3.mono Hb.out.size))
  have Ho := Lib.hid (Ho.out.below hb3)
  clear hb3
  have c1 := P0.out.c1
  have c2 := P0.out.c2
  have c3 := P0.out.c3
  have hz := P0.out.lt
  go_wp2_with fail
  clear c1 c2 c3 hz P0
  go_loopw [13] (fun v wr => ∃ c : Nat, c ≤ 3 ∧ v = .int .i64 (c : Nat) ∧ Own wr y.heap.size (some ⟨g, 0, none⟩) n cap (Bf.fill os c []) ∧ Bx 25 wr y2.heap.size (k : Nat) (.slice (some ⟨g, 0, none⟩) n cap) ∧ Bx 25 wr (w.heap.size + 1) 0 (.slice none 0 0) ∧ Below w.heap.size w wr) (fun v _ => 3 - (intOf v).toNat)
  case atStart => exact ⟨0, by omega, rfl, Ho.out, X3.out, X1.out, Hb.out⟩
  case round =>
    clear Ho X3 X1 Hb
    obtain ⟨c, hc, rfl, ho, x3, x1, hb⟩ := hrel
    have Ho := Lib.hid ho
    have Ho0g : g < wr.heap.size := (ho.ge rfl).2
    have X3 := Lib.hid x3
    have X1 := Lib.hid x1
    have Hb := Lib.hid hb
    have HTr := Lib.hid (HT.out.below hb)
    clear ho x3 x1 hb
    have hc4 : c = 0 ∨ c = 1 ∨ c = 2 ∨ c = 3 := by omega
    have i0 : ∀ w, (Instr.index 56 (.agg #[.int .u64 (E0 : Nat), .int .u64 (E1 : Nat), .int .u64 (E2 : Nat)]) (.int .i64 0)).run Tryd.prog w = .ok (.int .u64 (E0 : Nat)) w := fun _ => by first | rfl | kernel_rfl
    have i1 : ∀ w, (Instr.index 56 (.agg #[.int .u64 (E0 : Nat), .int .u64 (E1 : Nat), .int .u64 (E2 : Nat)]) (.int .i64 1)).run Tryd.prog w = .ok (.int .u64 (E1 : Nat)) w := fun _ => by first | rfl | kernel_rfl
    have i2 : ∀ w, (Instr.index 56 (.agg #[.int .u64 (E0 : Nat), .int .u64 (E1 : Nat), .int .u64 (E2 : Nat)]) (.int .i64 2)).run Tryd.prog w = .ok (.int .u64 (E2 : Nat)) w := fun _ => by first | rfl | kernel_rfl
    rcases hc4 with rfl | rfl | rfl | rfl
    · go_wp2_with fail
      refine (C0.out _ HTr.out).mono ?_
      rintro e y4 ⟨A2, m, c2, rfl, ho2, hb⟩
      have Ho := Lib.hid (Ho.out.below hb)
      have X3 := Lib.hid (X3.out.below hb X3.out.lt)
      have X1 := Lib.hid (X1.out.below hb X1.out.lt)
      have Hb := Lib.hid (Hb.out.trans (hb.mono Hb.out.size))
      have Hg2 := Lib.hid (fun g' (e : A2 = some ⟨g', 0, none⟩) => (ho2.ge e).1)
      have Hgr := Lib.hid (Ho0g)
      have hm := ho2.1
      have Hm := Lib.hid hm
      have hm64 : m ≤ 64 := by have := Ln0.out; omega
      have Ho2 := Lib.hid ho2
      clear hb ho2 hm
      go_wp2_with fail
      go_loopw [20] (fun i wz => ∃ j : Nat, j ≤ m ∧ i = .int .i64 (j : Nat) ∧ Own wz y.heap.size (some ⟨g, 0, none⟩) n cap (Bf.fill os 0 (L0.take j)) ∧ Own wz wr.heap.size A2 m c2 L0 ∧ Bx 25 wz y2.heap.size (k : Nat) (.slice (some ⟨g, 0, none⟩) n cap) ∧ Bx 25 wz (w.heap.size + 1) 0 (.slice none 0 0) ∧ Below w.heap.size w wz) (fun i _ => m - (intOf i).toNat)
      case atStart => exact ⟨0, by omega, rfl, by rw [List.take_zero]; exact Ho.out, Ho2.out, X3.out, X1.out, Hb.out⟩
      case round =>
        clear Ho Ho2 X3 X1 Hb
        obtain ⟨j, hj, rfl, ho, ho2, x3, x1, hb⟩ := hrel
        have Ho := Lib.hid ho
        have Ho2 := Lib.hid ho2
        have X3 := Lib.hid x3
        have X1 := Lib.hid x1
        have Hb := Lib.hid hb
        have a0 := x3.cell0
        have a1 := x3.cell1
        have a2 := x3.lt
        clear ho ho2 x3 x1 hb
        by_cases hjm : j < m
        · have hjI : (j : Int) < m := by omega
          obtain ⟨q, hq, hqn, hqc⟩ := Lp0.out j (by rw [Hm.out]; exact hjm)
          obtain ⟨g2, cap2, hv2, hg2, hlt2⟩ := World.ownsRow.form Ho2.out.2 (by omega)
          obtain rfl : A2 = some ⟨g2, 0, none⟩ := by injection hv2
          have ck := own_cellD Ho2.out j hjm
          rw [hq] at ck
          have hne2 : g2 ≠ g := by have := Hg2.out g2 rfl; have := Hgr.out; omega
          have hqI : (q : Int) < n := by omega
          have dk := own_cellD Ho.out q hqn
          have fk := World.ownsRow.frozenAt Ho.out.2 q
          have hst := Ho.out.stored q 0
          have hf : (Bf.fill os 0 (L0.take j)).set q 0 = Bf.fill os 0 (L0.take (j + 1)) := Bf.step (by rw [Hl.out]; exact hqn) hqc (by rw [Hm.out]; exact hjm) hq
          rw [hf] at hst
          have Hs := Lib.hid hst.1
          have Ho2' := Lib.hid (Ho2.out.far ⟨g, q, none⟩ (fun g' e => by obtain rfl : g2 = g' := by injection (Option.some.inj e); ; exact hne2) (.int .i64 0))
          have X3' := Lib.hid (X3.out.far (p := ⟨g, q, none⟩) (by show y2.heap.size ≠ g; have := Hg1.out; omega) (.int .i64 0))
          have X1' := Lib.hid (X1.out.far (p := ⟨g, q, none⟩) (by show w.heap.size + 1 ≠ g; have := Hg0.out; have := Hyz.out; omega) (.int .i64 0))
          have Hb' := Lib.hid (Hb.out.setCell (p := ⟨g, q, none⟩) (by show w.heap.size ≤ g; have := Hg0.out; have := Hyz.out; omega) (.int .i64 0))
          clear hst hf hq hqc hv2 hg2 hlt2
          go_wp2_with fail
          go_roundw
          case rel => exact ⟨j + 1, by omega, by go_num, Hs.out, Ho2'.out, X3'.out, X1'.out, Hb'.out⟩
          case measure => simp [intOf]; omega
        · have hjm' : j = m := by omega
          have hfull : L0.take j = L0 := List.take_of_length_le (by rw [Hm.out]; omega)
          have Hn := Lib.hid (show Own wr y.heap.size (some ⟨g, 0, none⟩) n cap (Bf.fill os (0 + 1) []) by rw [← Bf.next Lf0.out, ← hfull]; exact Ho.out)
          clear hfull hjm'
          go_wp2_with fail
          go_roundw
          case rel => exact ⟨0 + 1, by omega, by go_num, Hn.out, X3.out, X1.out, Hb.out⟩
          case measure => simp [intOf]
    · go_wp2_with fail
      refine (C1.out _ HTr.out).mono ?_
      rintro e y4 ⟨A2, m, c2, rfl, ho2, hb⟩
      have Ho := Lib.hid (Ho.out.below hb)
      have X3 := Lib.hid (X3.out.below hb X3.out.lt)
      have X1 := Lib.hid (X1.out.below hb X1.out.lt)
      have Hb := Lib.hid (Hb.out.trans (hb.mono Hb.out.size))
      have Hg2 := Lib.hid (fun g' (e : A2 = some ⟨g', 0, none⟩) => (ho2.ge e).1)
      have Hgr := Lib.hid (Ho0g)
      have hm := ho2.1
      have Hm := Lib.hid hm
      have hm64 : m ≤ 64 := by have := Ln1.out; omega
      have Ho2 := Lib.hid ho2
      clear hb ho2 hm
      go_wp2_with fail
      go_loopw [20] (fun i wz => ∃ j : Nat, j ≤ m ∧ i = .int .i64 (j : Nat) ∧ Own wz y.heap.size (some ⟨g, 0, none⟩) n cap (Bf.fill os 1 (L1.take j)) ∧ Own wz wr.heap.size A2 m c2 L1 ∧ Bx 25 wz y2.heap.size (k : Nat) (.slice (some ⟨g, 0, none⟩) n cap) ∧ Bx 25 wz (w.heap.size + 1) 0 (.slice none 0 0) ∧ Below w.heap.size w wz) (fun i _ => m - (intOf i).toNat)
      case atStart => exact ⟨0, by omega, rfl, by rw [List.take_zero]; exact Ho.out, Ho2.out, X3.out, X1.out, Hb.out⟩
      case round =>
        clear Ho Ho2 X3 X1 Hb
        obtain ⟨j, hj, rfl, ho, ho2, x3, x1, hb⟩ := hrel
        have Ho := Lib.hid ho
        have Ho2 := Lib.hid ho2
        have X3 := Lib.hid x3
        have X1 := Lib.hid x1
        have Hb := Lib.hid hb
        have a0 := x3.cell0
        have a1 := x3.cell1
        have a2 := x3.lt
        clear ho ho2 x3 x1 hb
        by_cases hjm : j < m
        · have hjI : (j : Int) < m := by omega
          obtain ⟨q, hq, hqn, hqc⟩ := Lp1.out j (by rw [Hm.out]; exact hjm)
          obtain ⟨g2, cap2, hv2, hg2, hlt2⟩ := World.ownsRow.form Ho2.out.2 (by omega)
          obtain rfl : A2 = some ⟨g2, 0, none⟩ := by injection hv2
          have ck := own_cellD Ho2.out j hjm
          rw [hq] at ck
          have hne2 : g2 ≠ g := by have := Hg2.out g2 rfl; have := Hgr.out; omega
          have hqI : (q : Int) < n := by omega
          have dk := own_cellD Ho.out q hqn
          have fk := World.ownsRow.frozenAt Ho.out.2 q
          have hst := Ho.out.stored q 1
          have hf : (Bf.fill os 1 (L1.take j)).set q 1 = Bf.fill os 1 (L1.take (j + 1)) := Bf.step (by rw [Hl.out]; exact hqn) hqc (by rw [Hm.out]; exact hjm) hq
          rw [hf] at hst
          have Hs := Lib.hid hst.1
          have Ho2' := Lib.hid (Ho2.out.far ⟨g, q, none⟩ (fun g' e => by obtain rfl : g2 = g' := by injection (Option.some.inj e); ; exact hne2) (.int .i64 1))
          have X3' := Lib.hid (X3.out.far (p := ⟨g, q, none⟩) (by show y2.heap.size ≠ g; have := Hg1.out; omega) (.int .i64 1))
          have X1' := Lib.hid (X1.out.far (p := ⟨g, q, none⟩) (by show w.heap.size + 1 ≠ g; have := Hg0.out; have := Hyz.out; omega) (.int .i64 1))
          have Hb' := Lib.hid (Hb.out.setCell (p := ⟨g, q, none⟩) (by show w.heap.size ≤ g; have := Hg0.out; have := Hyz.out; omega) (.int .i64 1))
          clear hst hf hq hqc hv2 hg2 hlt2
          go_wp2_with fail
          go_roundw
          case rel => exact ⟨j + 1, by omega, by go_num, Hs.out, Ho2'.out, X3'.out, X1'.out, Hb'.out⟩
          case measure => simp [intOf]; omega
        · have hjm' : j = m := by omega
          have hfull : L1.take j = L1 := List.take_of_length_le (by rw [Hm.out]; omega)
          have Hn := Lib.hid (show Own wr y.heap.size (some ⟨g, 0, none⟩) n cap (Bf.fill os (1 + 1) []) by rw [← Bf.next Lf1.out, ← hfull]; exact Ho.out)
          clear hfull hjm'
          go_wp2_with fail
          go_roundw
          case rel => exact ⟨1 + 1, by omega, by go_num, Hn.out, X3.out, X1.out, Hb.out⟩
          case measure => simp [intOf]
    · go_wp2_with fail
      refine (C2.out _ HTr.out).mono ?_
      rintro e y4 ⟨A2, m, c2, rfl, ho2, hb⟩
      have Ho := Lib.hid (Ho.out.below hb)
      have X3 := Lib.hid (X3.out.below hb X3.out.lt)
      have X1 := Lib.hid (X1.out.below hb X1.out.lt)
      have Hb := Lib.hid (Hb.out.trans (hb.mono Hb.out.size))
      have Hg2 := Lib.hid (fun g' (e : A2 = some ⟨g', 0, none⟩) => (ho2.ge e).1)
      have Hgr := Lib.hid (Ho0g)
      have hm := ho2.1
      have Hm := Lib.hid hm
      have hm64 : m ≤ 64 := by have := Ln2.out; omega
      have Ho2 := Lib.hid ho2
      clear hb ho2 hm
      go_wp2_with fail
      go_loopw [20] (fun i wz => ∃ j : Nat, j ≤ m ∧ i = .int .i64 (j : Nat) ∧ Own wz y.heap.size (some ⟨g, 0, none⟩) n cap (Bf.fill os 2 (L2.take j)) ∧ Own wz wr.heap.size A2 m c2 L2 ∧ Bx 25 wz y2.heap.size (k : Nat) (.slice (some ⟨g, 0, none⟩) n cap) ∧ Bx 25 wz (w.heap.size + 1) 0 (.slice none 0 0) ∧ Below w.heap.size w wz) (fun i _ => m - (intOf i).toNat)
      case atStart => exact ⟨0, by omega, rfl, by rw [List.take_zero]; exact Ho.out, Ho2.out, X3.out, X1.out, Hb.out⟩
      case round =>
        clear Ho Ho2 X3 X1 Hb
        obtain ⟨j, hj, rfl, ho, ho2, x3, x1, hb⟩ := hrel
        have Ho := Lib.hid ho
        have Ho2 := Lib.hid ho2
        have X3 := Lib.hid x3
        have X1 := Lib.hid x1
        have Hb := Lib.hid hb
        have a0 := x3.cell0
        have a1 := x3.cell1
        have a2 := x3.lt
        clear ho ho2 x3 x1 hb
        by_cases hjm : j < m
        · have hjI : (j : Int) < m := by omega
          obtain ⟨q, hq, hqn, hqc⟩ := Lp2.out j (by rw [Hm.out]; exact hjm)
          obtain ⟨g2, cap2, hv2, hg2, hlt2⟩ := World.ownsRow.form Ho2.out.2 (by omega)
          obtain rfl : A2 = some ⟨g2, 0, none⟩ := by injection hv2
          have ck := own_cellD Ho2.out j hjm
          rw [hq] at ck
          have hne2 : g2 ≠ g := by have := Hg2.out g2 rfl; have := Hgr.out; omega
          have hqI : (q : Int) < n := by omega
          have dk := own_cellD Ho.out q hqn
          have fk := World.ownsRow.frozenAt Ho.out.2 q
          have hst := Ho.out.stored q 2
          have hf : (Bf.fill os 2 (L2.take j)).set q 2 = Bf.fill os 2 (L2.take (j + 1)) := Bf.step (by rw [Hl.out]; exact hqn) hqc (by rw [Hm.out]; exact hjm) hq
          rw [hf] at hst
          have Hs := Lib.hid hst.1
          have Ho2' := Lib.hid (Ho2.out.far ⟨g, q, none⟩ (fun g' e => by obtain rfl : g2 = g' := by injection (Option.some.inj e); ; exact hne2) (.int .i64 2))
          have X3' := Lib.hid (X3.out.far (p := ⟨g, q, none⟩) (by show y2.heap.size ≠ g; have := Hg1.out; omega) (.int .i64 2))
          have X1' := Lib.hid (X1.out.far (p := ⟨g, q, none⟩) (by show w.heap.size + 1 ≠ g; have := Hg0.out; have := Hyz.out; omega) (.int .i64 2))
          have Hb' := Lib.hid (Hb.out.setCell (p := ⟨g, q, none⟩) (by show w.heap.size ≤ g; have := Hg0.out; have := Hyz.out; omega) (.int .i64 2))
          clear hst hf hq hqc hv2 hg2 hlt2
          go_wp2_with fail
          go_roundw
          case rel => exact ⟨j + 1, by omega, by go_num, Hs.out, Ho2'.out, X3'.out, X1'.out, Hb'.out⟩
          case measure => simp [intOf]; omega
        · have hjm' : j = m := by omega
          have hfull : L2.take j = L2 := List.take_of_length_le (by rw [Hm.out]; omega)
          have Hn := Lib.hid (show Own wr y.heap.size (some ⟨g, 0, none⟩) n cap (Bf.fill os (2 + 1) []) by rw [← Bf.next Lf2.out, ← hfull]; exact Ho.out)
          clear hfull hjm'
          go_wp2_with fail
          go_roundw
          case rel => exact ⟨2 + 1, by omega, by go_num, Hn.out, X3.out, X1.out, Hb.out⟩
          case measure => simp [intOf]
    · have Hf : Hid (Own wr y.heap.size (some ⟨g, 0, none⟩) n cap os) := Lib.hid (by have := Ho.out; rw [show ((3 : Nat) : Int) = 3 from rfl, HA.out] at this; exact this)
      have a0 := X3.out.cell0
      have a1 := X3.out.cell1
      have a2 := X3.out.lt
      have r0 := X1.out.cell0
      have r1 := X1.out.cell1
      have r2 := X1.out.frozen 0
      have r3 := X1.out.frozen 1
      have r4 := X1.out.lt
      have K0 := Lib.hid ((X1.out.set0 (k : Nat)).cell0)
      have K1 := Lib.hid (((X1.out.set0 (k : Nat)).set1 (.slice (some ⟨g, 0, none⟩) n cap)).cell1)
      have Hf2 := Lib.hid ((Hf.out.far ⟨w.heap.size + 1, 0, none⟩ (fun g' e => by have := (Hf.out.ge e).1; have := Hyz.out; show g' ≠ w.heap.size + 1; omega) (.int .i64 (k : Nat))).far ⟨w.heap.size + 1, 1, none⟩ (fun g' e => by have := (Hf.out.ge e).1; have := Hyz.out; show g' ≠ w.heap.size + 1; omega) (.slice (some ⟨g, 0, none⟩) n cap))
      have Hb3 := Lib.hid ((Hb.out.setCell (p := ⟨w.heap.size + 1, 0, none⟩) (by show w.heap.size ≤ w.heap.size + 1; omega) (.int .i64 (k : Nat))).setCell (p := ⟨w.heap.size + 1, 1, none⟩) (by show w.heap.size ≤ w.heap.size + 1; omega) (.slice (some ⟨g, 0, none⟩) n cap))
      go_wp2_with fail
      have k0 := K0.out
      have k1' := K1.out
      refine bodyPost_ret (v := .agg #[.int .i64 (k : Nat), .slice (some ⟨g, 0, none⟩) n cap]) (by simp [results, Tryd.results34, go_sem, k0, k1']) rfl ?_
      exact ⟨_, _, rfl, Hf2.out.weaken (by have := Hyz.out; omega), Hb3.out⟩
end Go.Proofs.YteldfjibmaigiaaDoor

namespace Go.Proofs.YteldfjibmaigiaaDoor
set_option maxRecDepth 100000
open Go.RowKit

/-- What a placed stone leads to, at every argument. -/
def PlB (s : Int) (n : Nat) (cs : List Int) (x p : Int) (su : Bool) (R : Option (List Int × List Int)) : Prop :=
  if Bd.okB s cs = true ∧ (1 ≤ x ∧ x ≤ 2) ∧ Pt.okP s p = true then Plays s n cs x p.toNat su R else R = none
def ErrW (w : World) : Prop := ∃ a0 a1 : Addr, Errs w (.iface 109 (.pointer (some a0))) (.iface 109 (.pointer (some a1)))
theorem ErrW.below {w w' : World} (h : ErrW w) (hb : Below w.heap.size w w') : ErrW w' := by
  obtain ⟨a0, a1, h⟩ := h
  exact ⟨a0, a1, h.below hb⟩
/-- The answer in memory; the list lies behind the board's row. -/
def Answ (s : Int) (n : Nat) (R : Option (List Int × List Int)) (w : World) (e : Ending) (w' : World) : Prop :=
  (R = none ∧ e = .returned (.tuple #[.agg #[.int .i64 0, .slice none 0 0], .slice none 0 0, .bool false]) ∧ Below w.heap.size w w') ∨
  ∃ os gs A1 c1 A2 n2 c2 mid, R = some (os, gs) ∧ e = .returned (.tuple #[.agg #[.int .i64 s, .slice A1 n c1], .slice A2 n2 c2, .bool true]) ∧ Own w' w.heap.size A1 n c1 os ∧ (∀ g, A1 = some ⟨g, 0, none⟩ → g < mid) ∧ Own w' mid A2 n2 c2 gs ∧ w.heap.size ≤ mid ∧ mid ≤ w'.heap.size ∧ Below w.heap.size w w'

theorem PlB.make (s : Int) (n : Nat) (cs : List Int) (x p : Int) (su : Bool) (hl : cs.length = n) : ∃ R, PlB s n cs x p su R := by
  unfold PlB
  split
  · rename_i h
    obtain ⟨h1, ⟨x1, x2⟩, h2⟩ := h
    obtain ⟨q1, q2, q3, q4⟩ := (Bd.okB_iff s cs).1 h1
    obtain ⟨_, _, p0, pn⟩ := (Pt.okP_iff s p).1 h2
    obtain ⟨k, rfl⟩ := Int.eq_ofNat_of_zero_le (show 0 ≤ s by omega)
    have hp : p.toNat < n := by omega
    have hx : x = 1 ∨ x = 2 := by omega
    rcases hx with rfl | rfl
    · obtain ⟨R, hR, _⟩ := i_pl1 k n p.toNat cs su .nilIface .nilIface h1 hl hp
      exact ⟨R, hR⟩
    · obtain ⟨R, hR, _⟩ := i_pl2 k n p.toNat cs su .nilIface .nilIface h1 hl hp
      exact ⟨R, hR⟩
  · exact ⟨none, rfl⟩

/-- The program's 'play', told by what the model's makes of it. -/
theorem i_plR (k n p : Nat) (cs : List Int) (x : Int) (su : Bool) (R : Option (List Int × List Int)) (hv : Bd.okB (k : Int) cs = true) (hl : cs.length = n) (hp : p < n) (x1 : 1 ≤ x) (x2 : x ≤ 2) (hR : Plays (k : Int) n cs x p su R) (w : World) (v0 v1 : Value) (hg : Errs w v0 v1) :
    Calls Tryd.prog 33 #[.agg #[.int .i64 (k : Nat), .int .u64 (Bt.msk cs 0 n : Nat), .int .u64 (Bt.msk cs 1 n : Nat), .int .u64 (Bt.msk cs 2 n : Nat)], .int .i64 x, .int .i64 (p : Nat), .bool su] w fun e w' => PlI k n v0 v1 R e ∧ Below w.heap.size w w' := by
  have hx : x = 1 ∨ x = 2 := by omega
  rcases hx with rfl | rfl
  · obtain ⟨R', hR', h⟩ := i_pl1 k n p cs su v0 v1 hv hl hp
    rw [hR.one hR']
    exact h w hg
  · obtain ⟨R', hR', h⟩ := i_pl2 k n p cs su v0 v1 hv hl hp
    rw [hR.one hR']
    exact h w hg

theorem msk_lt64 (cs : List Int) (z : Int) (k n : Nat) (k1 : 1 ≤ k) (k2 : k ≤ 7) (hn : n = k * k) : Bt.msk cs z n < 18446744073709551616 := by
  have := Bt.msk_lt cs z n
  have h7 := (Bt.masks k k1 k2).2.2.2.2.2.2
  rw [hn] at this ⊢; omega

section
variable (s x p : Int) (su : Bool) (w : World) (B : Nat) (A : Option Addr) (n c : Nat) (cs : List Int) (R : Option (List Int × List Int)) (h : Ints w B A n cs) (hB : B ≤ w.heap.size) (hn : n ≤ 1000000000) (ht : Tab w) (he : ErrW w) (hR : PlB s n cs x p su R)
include h hB hn ht he hR

set_option maxRecDepth 100000 in
set_option maxHeartbeats 8000000 in
theorem i_PlayB : Calls Tryd.prog 7 #[.agg #[.int .i64 s, .slice A n c], .int .i64 x, .int .i64 p, .bool su] w (Answ s n R w) := by
  have hl := h.1
  have e1 : (w.alloc (.cells #[.int .i64 s, .slice A n c] 25)).heap.size = w.heap.size + 1 := by simp
  have x0 := (Bx.new 25 w s (.slice A n c)).alloc (.cells #[.int .i64 0, .slice none 0 0] 25)
  have xx := Bx.new 25 (w.alloc (.cells #[.int .i64 s, .slice A n c] 25)) 0 (.slice none 0 0)
  rw [e1] at xx
  have hb2 : Below w.heap.size w ((w.alloc (.cells #[.int .i64 s, .slice A n c] 25)).alloc (.cells #[.int .i64 0, .slice none 0 0] 25)) := ((Below.refl _ _).alloc (Nat.le_refl _) _).alloc (by simp) _
  have H := Lib.hid (h.below hb2 hB)
  have X0 := Lib.hid x0
  have X1 := Lib.hid xx
  have Hb := Lib.hid hb2
  have HT := Lib.hid ht
  have HE := Lib.hid he
  clear e1 x0 xx hb2 h ht he
  obtain ⟨b1, r1⟩ : ∃ b, Bd.okB s cs = b := ⟨_, rfl⟩
  obtain ⟨b2, r2⟩ : ∃ b, (decide (1 ≤ x) && decide (x ≤ 2)) = b := ⟨_, rfl⟩
  obtain ⟨b3, r3⟩ : ∃ b, Pt.okP s p = b := ⟨_, rfl⟩
  have He1 := Lib.hid r1
  have He2 := Lib.hid r2
  have He3 := Lib.hid r3
  cases b1
  · have HR : Hid (R = none) := Lib.hid (by unfold PlB at hR; rw [if_neg (by rintro ⟨h, _⟩; rw [r1] at h; cases h)] at hR; exact hR)
    clear hR r1 r2 r3 hl
    go_enter Tryd.func7, Tryd.ntmps7
    go_wp2_with fail
    refine (i_validBoard _ _ _ _ _ _ _ H.out (by simp; omega) hn).mono ?_
    rintro e y ⟨rfl, hb⟩
    have X0 := Lib.hid (X0.out.below hb X0.out.lt)
    have X1 := Lib.hid (X1.out.below hb X1.out.lt)
    have H := Lib.hid (H.out.below hb (by simp; omega))
    have Hb := Lib.hid (Hb.out.trans (hb.mono (by simp; omega)))
    clear hb
    rw [He1.out]
    have c0 := X1.out.cell0
    have c1 := X1.out.cell1
    have f0 := X1.out.frozen 0
    have f1 := X1.out.frozen 1
    have l1 := X1.out.lt
    have K0 := Lib.hid ((X1.out.set0 0).cell0)
    have K1 := Lib.hid (((X1.out.set0 0).set1 (.slice none 0 0)).cell1)
    have Hb3 := Lib.hid ((Hb.out.setCell (p := ⟨w.heap.size + 1, 0, none⟩) (by show w.heap.size ≤ w.heap.size + 1; omega) (.int .i64 0)).setCell (p := ⟨w.heap.size + 1, 1, none⟩) (by show w.heap.size ≤ w.heap.size + 1; omega) (.slice none 0 0))
    clear X1
    go_wp2_with fail
    have k0 := K0.out
    have k1 := K1.out
    refine bodyPost_ret (v := .tuple #[.agg #[.int .i64 0, .slice none 0 0], .slice none 0 0, .bool false]) (by simp [results, Tryd.results7, go_sem, k0, k1]) rfl ?_
    exact .inl ⟨by first | exact HR.out | rfl, rfl, Hb3.out⟩
  · cases b2
    · have HR : Hid (R = none) := Lib.hid (by unfold PlB at hR; rw [if_neg (by rintro ⟨_, ⟨h1, h2⟩, _⟩; rw [decide_eq_true h1, decide_eq_true h2] at r2; cases r2)] at hR; exact hR)
      clear hR r1 r2 r3 hl
      go_enter Tryd.func7, Tryd.ntmps7
      go_wp2_with fail
      refine (i_validBoard _ _ _ _ _ _ _ H.out (by simp; omega) hn).mono ?_
      rintro e y ⟨rfl, hb⟩
      have X0 := Lib.hid (X0.out.below hb X0.out.lt)
      have X1 := Lib.hid (X1.out.below hb X1.out.lt)
      have H := Lib.hid (H.out.below hb (by simp; omega))
      have Hb := Lib.hid (Hb.out.trans (hb.mono (by simp; omega)))
      clear hb
      rw [He1.out]
      have v0 := X0.out.cell0
      have v1 := X0.out.cell1
      have v2 := X0.out.lt
      go_wp2_with fail
      refine (i_eyeStone _ _).mono ?_
      rintro e w' ⟨rfl, rfl⟩
      rw [He2.out]
      clear v0 v1 v2
      have c0 := X1.out.cell0
      have c1 := X1.out.cell1
      have f0 := X1.out.frozen 0
      have f1 := X1.out.frozen 1
      have l1 := X1.out.lt
      have K0 := Lib.hid ((X1.out.set0 0).cell0)
      have K1 := Lib.hid (((X1.out.set0 0).set1 (.slice none 0 0)).cell1)
      have Hb3 := Lib.hid ((Hb.out.setCell (p := ⟨w.heap.size + 1, 0, none⟩) (by show w.heap.size ≤ w.heap.size + 1; omega) (.int .i64 0)).setCell (p := ⟨w.heap.size + 1, 1, none⟩) (by show w.heap.size ≤ w.heap.size + 1; omega) (.slice none 0 0))
      clear X1
      go_wp2_with fail
      have k0 := K0.out
      have k1 := K1.out
      refine bodyPost_ret (v := .tuple #[.agg #[.int .i64 0, .slice none 0 0], .slice none 0 0, .bool false]) (by simp [results, Tryd.results7, go_sem, k0, k1]) rfl ?_
      exact .inl ⟨by first | exact HR.out | rfl, rfl, Hb3.out⟩
    · cases b3
      · have HR : Hid (R = none) := Lib.hid (by unfold PlB at hR; rw [if_neg (by rintro ⟨_, _, h⟩; rw [r3] at h; cases h)] at hR; exact hR)
        clear hR r1 r2 r3 hl
        go_enter Tryd.func7, Tryd.ntmps7
        go_wp2_with fail
        refine (i_validBoard _ _ _ _ _ _ _ H.out (by simp; omega) hn).mono ?_
        rintro e y ⟨rfl, hb⟩
        have X0 := Lib.hid (X0.out.below hb X0.out.lt)
        have X1 := Lib.hid (X1.out.below hb X1.out.lt)
        have H := Lib.hid (H.out.below hb (by simp; omega))
        have Hb := Lib.hid (Hb.out.trans (hb.mono (by simp; omega)))
        clear hb
        rw [He1.out]
        have v0 := X0.out.cell0
        have v1 := X0.out.cell1
        have v2 := X0.out.lt
        go_wp2_with fail
        refine (i_eyeStone _ _).mono ?_
        rintro e w' ⟨rfl, rfl⟩
        rw [He2.out]
        go_wp2_with fail
        refine (i_point _ _ _).mono ?_
        rintro e w' ⟨rfl, rfl⟩
        rw [He3.out]
        clear v0 v1 v2
        have c0 := X1.out.cell0
        have c1 := X1.out.cell1
        have f0 := X1.out.frozen 0
        have f1 := X1.out.frozen 1
        have l1 := X1.out.lt
        have K0 := Lib.hid ((X1.out.set0 0).cell0)
        have K1 := Lib.hid (((X1.out.set0 0).set1 (.slice none 0 0)).cell1)
        have Hb3 := Lib.hid ((Hb.out.setCell (p := ⟨w.heap.size + 1, 0, none⟩) (by show w.heap.size ≤ w.heap.size + 1; omega) (.int .i64 0)).setCell (p := ⟨w.heap.size + 1, 1, none⟩) (by show w.heap.size ≤ w.heap.size + 1; omega) (.slice none 0 0))
        clear X1
        go_wp2_with fail
        have k0 := K0.out
        have k1 := K1.out
        refine bodyPost_ret (v := .tuple #[.agg #[.int .i64 0, .slice none 0 0], .slice none 0 0, .bool false]) (by simp [results, Tryd.results7, go_sem, k0, k1]) rfl ?_
        exact .inl ⟨by first | exact HR.out | rfl, rfl, Hb3.out⟩
      · rw [Bool.and_eq_true, decide_eq_true_eq, decide_eq_true_eq] at r2
        obtain ⟨x1, x2⟩ := r2
        obtain ⟨q1, q2, q3, q4⟩ := (Bd.okB_iff s cs).1 r1
        obtain ⟨_, _, p0, pn⟩ := (Pt.okP_iff s p).1 r3
        obtain ⟨k, rfl⟩ := Int.eq_ofNat_of_zero_le (show 0 ≤ s by omega)
        obtain ⟨q, rfl⟩ := Int.eq_ofNat_of_zero_le (show 0 ≤ p by omega)
        have hnn : n = k * k := by
          have : (n : Int) = ((k * k : Nat) : Int) := by rw [← hl]; push_cast; exact q3
          exact_mod_cast this
        have hpl : Plays (k : Int) n cs x q su R := by
          unfold PlB at hR
          rw [if_pos ⟨r1, ⟨x1, x2⟩, r3⟩] at hR
          exact hR
        have hqn : q < n := by omega
        have k1 : 1 ≤ k := by omega
        have k2 : k ≤ 7 := by omega
        have CP : Hid (∀ w, Ints w B A n cs → B ≤ w.heap.size → Calls Tryd.prog 32 #[.agg #[.int .i64 (k : Nat), .slice A n c]] w fun e w' => e = .returned (.agg #[.int .i64 (k : Nat), .int .u64 (Bt.msk cs 0 n : Nat), .int .u64 (Bt.msk cs 1 n : Nat), .int .u64 (Bt.msk cs 2 n : Nat)]) ∧ Below w.heap.size w w') := Lib.hid fun w h hB => i_positionOf k w B A n c cs h hB r1
        have CQ : Hid (∀ w v0 v1, Errs w v0 v1 → Calls Tryd.prog 33 #[.agg #[.int .i64 (k : Nat), .int .u64 (Bt.msk cs 0 n : Nat), .int .u64 (Bt.msk cs 1 n : Nat), .int .u64 (Bt.msk cs 2 n : Nat)], .int .i64 x, .int .i64 (q : Nat), .bool su] w fun e w' => PlI k n v0 v1 R e ∧ Below w.heap.size w w') := Lib.hid fun w v0 v1 hg => i_plR k n q cs x su R r1 hl hqn x1 x2 hpl w v0 v1 hg
        have HO : Hid (∀ os gs, R = some (os, gs) → os.length = n ∧ OkL os) := Lib.hid fun os gs e => by
          rw [e] at hpl
          have := hpl.ok hl (okL_mem.2 q4) x1 x2
          exact ⟨this.1, this.2.1⟩
        have CB : Hid (∀ w os gs, R = some (os, gs) → Tab w → Calls Tryd.prog 34 #[.agg #[.int .i64 (k : Nat), .int .u64 (Bt.msk os 0 n : Nat), .int .u64 (Bt.msk os 1 n : Nat), .int .u64 (Bt.msk os 2 n : Nat)]] w fun e w' => ∃ A c, e = .returned (.agg #[.int .i64 (k : Nat), .slice A n c]) ∧ Own w' w.heap.size A n c os ∧ Below w.heap.size w w') := Lib.hid fun w os gs e ht => i_board k n os w ht k1 k2 hnn (HO.out os gs e).1 (okL_mem.1 (HO.out os gs e).2)
        have Hn49 := Lib.hid (show n ≤ 49 by have := (Bt.sq_nat k k1 k2).2.1; omega)
        obtain ⟨E0, h0⟩ : ∃ E, Bt.msk cs 0 n = E := ⟨_, rfl⟩
        obtain ⟨E1, h1⟩ : ∃ E, Bt.msk cs 1 n = E := ⟨_, rfl⟩
        obtain ⟨E2, h2⟩ : ∃ E, Bt.msk cs 2 n = E := ⟨_, rfl⟩
        rw [h0, h1, h2] at CP CQ
        clear hR r1 r3 hl x1 x2 q1 q2 q3 q4 p0 pn hnn hpl hqn k1 k2 h0 h1 h2
        go_enter Tryd.func7, Tryd.ntmps7
        go_wp2_with fail
        refine (i_validBoard _ _ _ _ _ _ _ H.out (by simp; omega) hn).mono ?_
        rintro e y ⟨rfl, hb⟩
        have X0 := Lib.hid (X0.out.below hb X0.out.lt)
        have X1 := Lib.hid (X1.out.below hb X1.out.lt)
        have H := Lib.hid (H.out.below hb (by simp; omega))
        have Hb := Lib.hid (Hb.out.trans (hb.mono (by simp; omega)))
        clear hb
        rw [He1.out]
        have v0 := X0.out.cell0
        have v1 := X0.out.cell1
        have v2 := X0.out.lt
        go_wp2_with fail
        refine (i_eyeStone _ _).mono ?_
        rintro e w' ⟨rfl, rfl⟩
        rw [He2.out]
        go_wp2_with fail
        refine (i_point _ _ _).mono ?_
        rintro e w' ⟨rfl, rfl⟩
        rw [He3.out]
        clear v0 v1 v2
        have v0 := X0.out.cell0
        have v1 := X0.out.cell1
        have v2 := X0.out.lt
        go_wp2_with fail
        refine (CP.out _ H.out (by have := Hb.out.size; omega)).mono ?_
        rintro e y2 ⟨rfl, hb⟩
        have X1 := Lib.hid (X1.out.below hb X1.out.lt)
        have Hb := Lib.hid (Hb.out.trans (hb.mono Hb.out.size))
        clear hb v0 v1 v2 X0 H
        obtain ⟨a0, a1, hee⟩ := HE.out.below Hb.out
        go_wp2_with fail
        refine (CQ.out _ _ _ hee).mono ?_
        rintro e y3 ⟨hpi, hb⟩
        have X1 := Lib.hid (X1.out.below hb X1.out.lt)
        have Hb := Lib.hid (Hb.out.trans (hb.mono Hb.out.size))
        have HT := Lib.hid (HT.out.below Hb.out)
        clear hb hee HE
        cases R with
        | none =>
          have HR : Hid ((none : Option (List Int × List Int)) = none) := Lib.hid rfl
          obtain ⟨v, hv, rfl⟩ := hpi
          have X1 := Lib.hid (X1.out.alloc (.cells #[.int .i64 0, .int .u64 0, .int .u64 0, .int .u64 0] 58))
          have Hb := Lib.hid (Hb.out.alloc Hb.out.size (.cells #[.int .i64 0, .int .u64 0, .int .u64 0, .int .u64 0] 58))
          rcases hv with rfl | rfl
          · have c0 := X1.out.cell0
            have c1 := X1.out.cell1
            have f0 := X1.out.frozen 0
            have f1 := X1.out.frozen 1
            have l1 := X1.out.lt
            have K0 := Lib.hid ((X1.out.set0 0).cell0)
            have K1 := Lib.hid (((X1.out.set0 0).set1 (.slice none 0 0)).cell1)
            have Hb3 := Lib.hid ((Hb.out.setCell (p := ⟨w.heap.size + 1, 0, none⟩) (by show w.heap.size ≤ w.heap.size + 1; omega) (.int .i64 0)).setCell (p := ⟨w.heap.size + 1, 1, none⟩) (by show w.heap.size ≤ w.heap.size + 1; omega) (.slice none 0 0))
            clear X1
            go_wp2_with fail
            have k0 := K0.out
            have k1 := K1.out
            refine bodyPost_ret (v := .tuple #[.agg #[.int .i64 0, .slice none 0 0], .slice none 0 0, .bool false]) (by simp [results, Tryd.results7, go_sem, k0, k1]) rfl ?_
            exact .inl ⟨by first | exact HR.out | rfl, rfl, Hb3.out⟩
          · have c0 := X1.out.cell0
            have c1 := X1.out.cell1
            have f0 := X1.out.frozen 0
            have f1 := X1.out.frozen 1
            have l1 := X1.out.lt
            have K0 := Lib.hid ((X1.out.set0 0).cell0)
            have K1 := Lib.hid (((X1.out.set0 0).set1 (.slice none 0 0)).cell1)
            have Hb3 := Lib.hid ((Hb.out.setCell (p := ⟨w.heap.size + 1, 0, none⟩) (by show w.heap.size ≤ w.heap.size + 1; omega) (.int .i64 0)).setCell (p := ⟨w.heap.size + 1, 1, none⟩) (by show w.heap.size ≤ w.heap.size + 1; omega) (.slice none 0 0))
            clear X1
            go_wp2_with fail
            have k0 := K0.out
            have k1 := K1.out
            refine bodyPost_ret (v := .tuple #[.agg #[.int .i64 0, .slice none 0 0], .slice none 0 0, .bool false]) (by simp [results, Tryd.results7, go_sem, k0, k1]) rfl ?_
            exact .inl ⟨by first | exact HR.out | rfl, rfl, Hb3.out⟩
        | some r =>
          obtain ⟨os, gs⟩ := r
          obtain ⟨m, hm, hgs, rfl⟩ := hpi
          have hmp : Bt.pts m 64 = gs := by rw [Bt.pts_more hm (by have := Hn49.out; omega), hgs]
          have hm64 : m < 18446744073709551616 := by
            have : 2 ^ n ≤ 2 ^ 49 := Nat.pow_le_pow_right (by decide) Hn49.out
            omega
          have CL : Hid (∀ w, Tab w → Calls Tryd.prog 35 #[.int .u64 (m : Nat)] w fun e w' => ∃ A n c, e = .returned (.slice A n c) ∧ Own w' w.heap.size A n c gs ∧ Below w.heap.size w w') := Lib.hid fun w ht => by rw [← hmp]; exact i_list m w ht hm64
          have CB' : Hid (∀ w, Tab w → Calls Tryd.prog 34 #[.agg #[.int .i64 (k : Nat), .int .u64 (Bt.msk os 0 n : Nat), .int .u64 (Bt.msk os 1 n : Nat), .int .u64 (Bt.msk os 2 n : Nat)]] w fun e w' => ∃ A c, e = .returned (.agg #[.int .i64 (k : Nat), .slice A n c]) ∧ Own w' w.heap.size A n c os ∧ Below w.heap.size w w') := Lib.hid fun w ht => CB.out w os gs rfl ht
          obtain ⟨F0, g0⟩ : ∃ E, Bt.msk os 0 n = E := ⟨_, rfl⟩
          obtain ⟨F1, g1⟩ : ∃ E, Bt.msk os 1 n = E := ⟨_, rfl⟩
          obtain ⟨F2, g2⟩ : ∃ E, Bt.msk os 2 n = E := ⟨_, rfl⟩
          rw [g0, g1, g2] at CB' ⊢
          clear hm hgs hmp hm64 g0 g1 g2 CB HO
          go_upto_region 4 with (fail)
          obtain ⟨y4, hy4⟩ : ∃ y4, y4 = y3.alloc (.cells #[.int .i64 (k : Nat), .int .u64 (F0 : Nat), .int .u64 (F1 : Nat), .int .u64 (F2 : Nat)] 58) := ⟨_, rfl⟩
          have P2 : Hid (Px y4 y3.heap.size (k : Nat) F0 F1 F2) := Lib.hid (by rw [hy4]; exact Px.new _ _ _ _ _)
          have hb4 : Below y3.heap.size y3 y4 := by rw [hy4]; exact (Below.refl _ _).alloc (Nat.le_refl _) _
          have X1 := Lib.hid (X1.out.below hb4 X1.out.lt)
          have Hb := Lib.hid (Hb.out.trans (hb4.mono Hb.out.size))
          have HT := Lib.hid (HT.out.below hb4)
          have Hx4q := Lib.hid X1.out.lt
          rw [← hy4]
          clear hy4 hb4
          have c0 := P2.out.c0
          have c1 := P2.out.c1
          have c2 := P2.out.c2
          have c3 := P2.out.c3
          have hz2 := P2.out.lt
          go_wp2_with fail
          refine (CB'.out _ HT.out).mono ?_
          rintro e y5 ⟨A1, d1, rfl, ho, hb⟩
          have X1 := Lib.hid (X1.out.below hb X1.out.lt)
          have HT := Lib.hid (HT.out.below hb)
          have Hz4 := Lib.hid Hb.out.size
          have Hx4 : Hid (w.heap.size + 1 < y4.heap.size) := Lib.hid Hx4q.out
          have Hx5 : Hid (w.heap.size + 1 < y5.heap.size) := Lib.hid X1.out.lt
          have Hb := Lib.hid (Hb.out.trans (hb.mono Hb.out.size))
          have Ho := Lib.hid ho
          clear hb ho c0 c1 c2 c3 hz2 P2
          go_wp2_with fail
          refine (CL.out _ HT.out).mono ?_
          rintro e y6 ⟨A2, n2, d2, rfl, ho2, hb⟩
          have X1 := Lib.hid (X1.out.below hb X1.out.lt)
          have Hz5 := Lib.hid Hb.out.size
          have Hz6 := Lib.hid hb.size
          have Hb := Lib.hid (Hb.out.trans (hb.mono Hb.out.size))
          have Hlt := Lib.hid (fun g (e : A1 = some ⟨g, 0, none⟩) => (Ho.out.ge e).2)
          have Hx := Lib.hid (show w.heap.size + 1 < y4.heap.size from Hx4.out)
          have ho1 := Ho.out.below hb
          have Ho1 := Lib.hid ((ho1.far ⟨w.heap.size + 1, 0, none⟩ (fun g hA => by have := (ho1.ge hA).1; have := Hx.out; show g ≠ w.heap.size + 1; omega) (.int .i64 (k : Nat))).far ⟨w.heap.size + 1, 1, none⟩ (fun g hA => by have := (ho1.ge hA).1; have := Hx.out; show g ≠ w.heap.size + 1; omega) (.slice A1 n d1))
          have Ho2 := Lib.hid ((ho2.far ⟨w.heap.size + 1, 0, none⟩ (fun g hA => by have := (ho2.ge hA).1; have := Hx5.out; show g ≠ w.heap.size + 1; omega) (.int .i64 (k : Nat))).far ⟨w.heap.size + 1, 1, none⟩ (fun g hA => by have := (ho2.ge hA).1; have := Hx5.out; show g ≠ w.heap.size + 1; omega) (.slice A1 n d1))
          clear hb ho2 ho1
          have c0 := X1.out.cell0
          have c1 := X1.out.cell1
          have f0 := X1.out.frozen 0
          have f1 := X1.out.frozen 1
          have l1 := X1.out.lt
          have K0 := Lib.hid ((X1.out.set0 (k : Nat)).cell0)
          have K1 := Lib.hid (((X1.out.set0 (k : Nat)).set1 (.slice A1 n d1)).cell1)
          have Hb3 := Lib.hid ((Hb.out.setCell (p := ⟨w.heap.size + 1, 0, none⟩) (by show w.heap.size ≤ w.heap.size + 1; omega) (.int .i64 (k : Nat))).setCell (p := ⟨w.heap.size + 1, 1, none⟩) (by show w.heap.size ≤ w.heap.size + 1; omega) (.slice A1 n d1))
          clear X1
          go_wp2_with fail
          have k0 := K0.out
          have k1 := K1.out
          refine bodyPost_ret (v := .tuple #[.agg #[.int .i64 (k : Nat), .slice A1 n d1], .slice A2 n2 d2, .bool true]) (by simp [results, Tryd.results7, go_sem, k0, k1]) rfl ?_
          exact .inr ⟨_, _, _, _, _, _, _, y5.heap.size, rfl, rfl, Ho1.out.weaken Hz4.out, Hlt.out, Ho2.out, Hz5.out, by have := Hz6.out; simpa using this, Hb3.out⟩

end
end Go.Proofs.YteldfjibmaigiaaDoor

namespace Go.Proofs.YteldfjibmaigiaaDoor
set_option maxRecDepth 100000
open Go.RowKit

def invS (s : Int) (cs : List Int) : Int := if Bd.okB s cs then s else 0
def invCs (s : Int) (cs : List Int) : List Int := if Bd.okB s cs then othCs cs else []

end Go.Proofs.YteldfjibmaigiaaDoor

namespace Go.Proofs.YteldfjibmaigiaaDoor
set_option maxRecDepth 100000
open Go.RowKit

theorem oth_zero : oth 0 = 0 := rfl
theorem mix_keep {cs : List Int} {k : Nat} (hk : k < cs.length) (h0 : cs.getD k 0 = 0) : (othCs cs).take k ++ cs.drop k = (othCs cs).take (k + 1) ++ cs.drop (k + 1) := by
  have e : cs.getD k 0 = cs[k] := by simp [List.getD_eq_getElem?_getD, List.getElem?_eq_getElem hk]
  have hk' : k < (othCs cs).length := by rw [othCs_len]; exact hk
  have e2 : (othCs cs)[k] = oth cs[k] := by simp [othCs]
  rw [List.take_succ_eq_append_getElem hk', List.drop_eq_getElem_cons hk, e2, ← e, h0, List.append_assoc]
  rfl
theorem mix_set {cs : List Int} {k : Nat} (hk : k < cs.length) : ((othCs cs).take k ++ cs.drop k).set k (oth (cs.getD k 0)) = (othCs cs).take (k + 1) ++ cs.drop (k + 1) := by
  have e : cs.getD k 0 = cs[k] := by simp [List.getD_eq_getElem?_getD, List.getElem?_eq_getElem hk]
  have hk' : k < (othCs cs).length := by rw [othCs_len]; exact hk
  have e2 : (othCs cs)[k] = oth cs[k] := by simp [othCs]
  have hl : ((othCs cs).take k).length = k := by rw [List.length_take]; omega
  rw [List.set_append_right _ _ (by omega), hl, Nat.sub_self, List.drop_eq_getElem_cons hk, List.set_cons_zero, List.take_succ_eq_append_getElem hk', e2, e, List.append_assoc]
  rfl

set_option maxHeartbeats 1000000 in
theorem s_invertBoard (s : Int) (w : World) (B : Nat) (A : Option Addr) (n c : Nat) (cs : List Int) (h : Ints w B A n cs) (hB : B ≤ w.heap.size) (hn : n ≤ 1000000) (hv : ∀ x ∈ cs, 0 ≤ x ∧ x ≤ 2) :
    Calls Tryd.prog 78 #[.agg #[.int .i64 s, .slice A n c]] w fun e w' => Made s (othCs cs) w e w' := by
  have e1 : (w.alloc (.cells #[.int .i64 s, .slice A n c] 25)).heap.size = w.heap.size + 1 := by simp
  have x0 := (Bx.new 25 w s (.slice A n c)).alloc (.cells #[.int .i64 0, .slice none 0 0] 25)
  have x1 := Bx.new 25 (w.alloc (.cells #[.int .i64 s, .slice A n c] 25)) 0 (.slice none 0 0)
  rw [e1] at x1
  have hb2 : Below w.heap.size w ((w.alloc (.cells #[.int .i64 s, .slice A n c] 25)).alloc (.cells #[.int .i64 0, .slice none 0 0] 25)) := ((Below.refl _ _).alloc (Nat.le_refl _) _).alloc (by simp) _
  have hl := h.1
  have H := Lib.hid (h.below hb2 hB)
  have X0 := Lib.hid x0
  have X1 := Lib.hid x1
  have Hb := Lib.hid hb2
  have Hl := Lib.hid hl
  have hv2 : ∀ k, k < cs.length → 0 ≤ cs.getD k 0 ∧ cs.getD k 0 ≤ 2 := fun k hk => hv _ (by rw [List.getD_eq_getElem?_getD, List.getElem?_eq_getElem hk]; exact List.getElem_mem _)
  have Hv := Lib.hid hv2
  clear e1 x0 x1 hb2 h hl hv hv2
  go_enter Tryd.func78, Tryd.ntmps78
  go_wp2_with fail
  refine (s_copyBoard _ _ _ _ _ _ _ H.out (by simp; omega) (by omega)).mono ?_
  rintro e y ⟨A1, c1, rfl, ho, hb⟩
  have X0 := Lib.hid (X0.out.below hb X0.out.lt)
  have X1 := Lib.hid (X1.out.below hb X1.out.lt)
  have H := Lib.hid (H.out.below hb (by simp; omega))
  have Hb := Lib.hid (Hb.out.trans (hb.mono (by simp; omega)))
  have Ho := Lib.hid (ho.weaken (B' := w.heap.size + 1 + 1) (by simp))
  have Hr := Lib.hid (fun g (hA : A1 = some ⟨g, 0, none⟩) => (ho.ge hA).2)
  clear hb ho
  have z1 := X1.out.lt
  have u00 := X0.out.cell0
  have u01 := X0.out.cell1
  have u02 := X0.out.lt
  go_wp2_with fail
  obtain ⟨y3, hy3, hb3, z3, z4⟩ := new_box y (.cells #[.int .i64 s, .slice A1 n c1] 25)
  have X3 : Hid (Bx 25 y3 y.heap.size s (.slice A1 n c1)) := Lib.hid (by rw [hy3]; exact Bx.new _ _ _ _)
  rw [← hy3]
  clear hy3 u00 u01
  have X0 := Lib.hid (X0.out.below hb3 X0.out.lt)
  have X1 := Lib.hid (X1.out.below hb3 X1.out.lt)
  have H := Lib.hid (H.out.below hb3 (by omega))
  have Ho := Lib.hid (Ho.out.below hb3)
  have Hb := Lib.hid (Hb.out.trans (hb3.mono (by omega)))
  clear hb3
  go_loopw [4] (fun i wr => ∃ k : Nat, k ≤ n ∧ i = .int .i64 k ∧ Own wr (w.heap.size + 1 + 1) A1 n c1 ((othCs cs).take k ++ cs.drop k) ∧ Bx 25 wr y.heap.size s (.slice A1 n c1) ∧ Below (w.heap.size + 1 + 1) y3 wr) (fun i _ => n - (intOf i).toNat)
  case atStart => exact ⟨0, by omega, rfl, by simpa using Ho.out, X3.out, Below.refl _ _⟩
  case round =>
    clear X3 Ho
    obtain ⟨k, hk, rfl, ho, hx3, hbr⟩ := hrel
    have X0r := Lib.hid (X0.out.below hbr (by omega))
    have X1r := Lib.hid (X1.out.below hbr (by omega))
    have Hir := Lib.hid (H.out.below hbr (by omega))
    have Hbw := Lib.hid (Hb.out.trans (hbr.mono (by omega)))
    have Ho := Lib.hid ho
    have X3 := Lib.hid hx3
    have Hbr := Lib.hid hbr
    clear ho hx3 hbr
    have v00 := X0r.out.cell0
    have v01 := X0r.out.cell1
    have v02 := X0r.out.lt
    have v30 := X3.out.cell0
    have v31 := X3.out.cell1
    have v32 := X3.out.lt
    by_cases hkn : k < n
    · rcases Hir.out.2 with h0 | ⟨b, o, rfl, hbB, hc⟩
      · omega
      · have hck := hc k hkn
        have hkl : k < cs.length := by rw [Hl.out]; exact hkn
        obtain ⟨q1, q2⟩ := Hv.out k hkl
        have Mk := Lib.hid (mix_keep hkl)
        have Ms := Lib.hid (mix_set hkl)
        obtain ⟨x, hx⟩ : ∃ x, cs.getD k 0 = x := ⟨_, rfl⟩
        rw [hx] at hck q1 q2 Mk Ms
        clear hx hc
        by_cases hx0 : x = 0
        · have hbx : (x != 0) = false := by simpa using hx0
          have Mk2 := Lib.hid (Mk.out hx0)
          clear hx0 Mk
          go_wp2_with fail
          go_roundw
          case rel => exact ⟨k + 1, by omega, by go_num, by rw [← Mk2.out]; exact Ho.out, X3.out, Hbr.out⟩
          case measure => simp [intOf]; omega
        · have hbx : (x != 0) = true := by simpa using hx0
          have hx1 : 1 ≤ x := by omega
          clear hx0 Mk
          have hA1 : ∃ g, A1 = some ⟨g, 0, none⟩ := by
            obtain ⟨g, cap, hv, _⟩ := World.ownsRow.form Ho.out.2 (by omega)
            exact ⟨g, by injection hv⟩
          obtain ⟨g, rfl⟩ := hA1
          have hg1 := (Ho.out.ge rfl).1
          have hg2 := Hr.out g rfl
          have hcell : ∃ u, wr.cell? ⟨g, k, none⟩ = some u := by
            have := World.ownsRow.cellAt Ho.out.2 k (by omega)
            rw [this]
            exact ⟨_, List.getElem?_eq_getElem (by rw [List.length_map, Ho.out.1]; exact hkn)⟩
          obtain ⟨u, hu⟩ := hcell
          have hf := World.ownsRow.frozenAt Ho.out.2 k
          have Hst := Lib.hid (Ho.out.stored k (oth x))
          have hkk : (k : Int) < n := by omega
          go_wp2_with fail
          go_region_with (go_at_call 65; refine (s_opp _ _ hx1 q2).mono ?_; rintro e w9 ⟨rfl, rfl⟩)
          all_goals go_wp2_with fail
          all_goals go_roundw
          all_goals try (simp [intOf]; omega)
          all_goals exact ⟨k + 1, by omega, by go_num, by rw [← Ms.out]; exact Own.drew Hst.out.1, X3.out.far (p := ⟨g, k, none⟩) (by show y.heap.size ≠ g; omega) (.int .i64 (oth x)), Below.drew (Hbr.out.setCell hg1 _)⟩
    · obtain rfl : k = n := by omega
      have hfin : Own wr (w.heap.size + 1 + 1) A1 k c1 (othCs cs) := by
        have := Ho.out
        rw [List.take_of_length_le (by rw [othCs_len, Hl.out]; exact Nat.le_refl _), List.drop_of_length_le (by rw [Hl.out]; exact Nat.le_refl _), List.append_nil] at this
        exact this
      have ho2 := (hfin.far ⟨w.heap.size + 1, 0, none⟩ (fun g hA => by have := (hfin.ge hA).1; show g ≠ w.heap.size + 1; omega) (.int .i64 s)).far ⟨w.heap.size + 1, 1, none⟩ (fun g hA => by have := (hfin.ge hA).1; show g ≠ w.heap.size + 1; omega) (.slice A1 k c1)
      have hb3 := (Hbw.out.setCell (p := ⟨w.heap.size + 1, 0, none⟩) (by show w.heap.size ≤ w.heap.size + 1; omega) (.int .i64 s)).setCell (p := ⟨w.heap.size + 1, 1, none⟩) (by show w.heap.size ≤ w.heap.size + 1; omega) (.slice A1 k c1)
      have Ho2 := Lib.hid ho2
      have Hb3 := Lib.hid hb3
      have K0 := Lib.hid ((X1r.out.set0 s).cell0)
      have K1 := Lib.hid (((X1r.out.set0 s).set1 (.slice A1 k c1)).cell1)
      have v10 := X1r.out.cell0
      have v11 := X1r.out.cell1
      have v12 := X1r.out.frozen 0
      have v13 := X1r.out.frozen 1
      have v14 := X1r.out.lt
      clear hfin ho2 hb3
      go_wp2_with fail
      have k0 := K0.out
      have k1 := K1.out
      refine bodyPost_ret (v := .agg #[.int .i64 s, .slice A1 k c1]) (by simp [results, Tryd.results78, go_sem, k0, k1]) rfl ?_
      exact ⟨_, _, _, rfl, Ho2.out.weaken (by omega), Hb3.out⟩

end Go.Proofs.YteldfjibmaigiaaDoor

namespace Go.Proofs.YteldfjibmaigiaaDoor
set_option maxRecDepth 100000
open Go.RowKit

set_option maxRecDepth 100000 in
set_option maxHeartbeats 4000000 in
theorem s_removed (s x : Int) (w : World) (B : Nat) (A : Option Addr) (n c : Nat) (cs : List Int) (h : Ints w B A n cs) (hB : B ≤ w.heap.size) (h1 : 1 ≤ s) (h2 : s ≤ 7) (hn : (n : Int) = s * s) :
    Calls Tryd.prog 64 #[.agg #[.int .i64 s, .slice A n c], .int .i64 x] w fun e w' => ∃ A1 c1 A2 n2 c2 S os, e = .returned (.tuple #[.agg #[.int .i64 s, .slice A1 n c1], .slice A2 n2 c2]) ∧
      Own w' w.heap.size A1 n c1 os ∧ Own w' w.heap.size A2 n2 c2 (Fl.pts S n) ∧ RI s n cs x n S os ∧ Below w.heap.size w w' := by
  have hsq := Pt.sq_bd s h1 h2
  have hn49 : n ≤ 49 := by omega
  have e1 : (w.alloc (.cells #[.int .i64 s, .slice A n c] 25)).heap.size = w.heap.size + 1 := by simp
  have x0 := (Bx.new 25 w s (.slice A n c)).alloc (.cells #[.int .i64 0, .slice none 0 0] 25)
  have x1 := Bx.new 25 (w.alloc (.cells #[.int .i64 s, .slice A n c] 25)) 0 (.slice none 0 0)
  rw [e1] at x1
  have hb2 : Below w.heap.size w ((w.alloc (.cells #[.int .i64 s, .slice A n c] 25)).alloc (.cells #[.int .i64 0, .slice none 0 0] 25)) := ((Below.refl _ _).alloc (Nat.le_refl _) _).alloc (by simp) _
  have Hst := Lib.hid (RI.start (s := s) (n := n) (cs := cs) x h.1)
  have H := Lib.hid (h.below hb2 hB)
  have X0 := Lib.hid x0
  have X1 := Lib.hid x1
  have Hb := Lib.hid hb2
  have Hn := Lib.hid hn
  clear e1 x0 x1 hb2 h hn
  go_enter Tryd.func64, Tryd.ntmps64
  go_wp2_with fail
  refine (s_copyBoard _ _ _ _ _ _ _ H.out (by simp; omega) (by omega)).mono ?_
  rintro e y ⟨A1, c1, rfl, ho, hb⟩
  have X0 := Lib.hid (X0.out.below hb X0.out.lt)
  have X1 := Lib.hid (X1.out.below hb X1.out.lt)
  have H := Lib.hid (H.out.below hb (by simp; omega))
  have Hb := Lib.hid (Hb.out.trans (hb.mono (by simp; omega)))
  have Ho := Lib.hid (ho.weaken (B' := w.heap.size + 1 + 1) (by simp))
  have Hr := Lib.hid (fun g (hA : A1 = some ⟨g, 0, none⟩) => (ho.ge hA).2)
  clear hb ho
  have z1 := X1.out.lt
  have u00 := X0.out.cell0
  have u01 := X0.out.cell1
  have u02 := X0.out.lt
  go_upto_region 2 with (fail)
  obtain ⟨y3, hy3, hb3, z3, z4⟩ := new_box y (.cells #[.int .i64 s, .slice A1 n c1] 25)
  have X3 : Hid (Bx 25 y3 y.heap.size s (.slice A1 n c1)) := Lib.hid (by rw [hy3]; exact Bx.new _ _ _ _)
  rw [← hy3]
  clear hy3 u00 u01
  have X0 := Lib.hid (X0.out.below hb3 X0.out.lt)
  have X1 := Lib.hid (X1.out.below hb3 X1.out.lt)
  have H := Lib.hid (H.out.below hb3 (by omega))
  have Ho := Lib.hid (Ho.out.below hb3)
  have Hb := Lib.hid (Hb.out.trans (hb3.mono (by omega)))
  clear hb3
  go_upto_region 3 with (fail)
  have Hog := Lib.hid (Own.bare y3 y3.heap.size (Nat.le_refl _))
  have Hbg := Lib.hid ((Below.refl y3.heap.size y3).alloc (Nat.le_refl _) (.cells #[] 3))
  have Ho := Lib.hid (Ho.out.below Hbg.out)
  have X3 := Lib.hid (X3.out.below Hbg.out X3.out.lt)
  go_wp2_with fail
  go_loopw [7, 8] (fun v i wr => ∃ k S os A4 n4 c4, k ≤ n ∧ i = .int .i64 (k : Nat) ∧ v = .slice A4 n4 c4 ∧ Own wr (w.heap.size + 1 + 1) A1 n c1 os ∧ Own wr y3.heap.size A4 n4 c4 (Fl.pts S k) ∧ RI s n cs x k S os ∧ Bx 25 wr y.heap.size s (.slice A1 n c1) ∧ Below (w.heap.size + 1 + 1) y3 wr) (fun _ i _ => n - (intOf i).toNat)
  case atStart => exact ⟨0, _, _, _, _, _, by omega, rfl, rfl, Ho.out, by exact Hog.out, Hst.out, X3.out, Hbg.out.mono (by omega)⟩
  case round =>
    clear X3 Ho Hog Hbg Hst
    obtain ⟨k, S, os, A4, n4, c4, hk, rfl, rfl, ho, hg, hri, hx3, hbr⟩ := hrel
    have hzr := hbr.size
    have hn4 : n4 ≤ 49 := by have := hg.1; have := Fl.pts_len S k; omega
    have X0r := Lib.hid (X0.out.below hbr (by omega))
    have X1r := Lib.hid (X1.out.below hbr (by omega))
    have Hir := Lib.hid (H.out.below hbr (by omega))
    have Ho := Lib.hid ho
    have Hg := Lib.hid hg
    have Hri := Lib.hid hri
    have X3 := Lib.hid hx3
    have Hbr := Lib.hid hbr
    clear ho hg hri hx3 hbr
    have v00 := X0r.out.cell0
    have v01 := X0r.out.cell1
    have v02 := X0r.out.lt
    by_cases hkn : k < n
    · obtain ⟨b, o, rfl, hbB, hc⟩ : ∃ b o, A = some ⟨b, o, none⟩ ∧ b < B ∧ ∀ j, j < n → wr.cell? ⟨b, o + j, none⟩ = some (.int .i64 (cs.getD j 0)) := by
        rcases Hir.out.2 with h0 | ⟨b, o, hA, hbB, hc⟩
        · omega
        · exact ⟨b, o, hA, hbB, hc⟩
      have hck := hc k hkn
      have hkk : (k : Int) < n := by omega
      clear hc
      obtain ⟨u, hx⟩ : ∃ u, cs.getD k 0 = u := ⟨_, rfl⟩
      have Hx := Lib.hid hx
      rw [hx] at hck
      clear hx
      by_cases hux : u = x
      · have hbx : (u == x) = true := by simpa using hux
        have Hux := Lib.hid hux
        clear hux
        go_wp2_with fail
        refine (s_liberties s k _ B _ n _ cs Hir.out (by omega) h1 h2 Hn.out hkn).mono ?_
        rintro e yl ⟨A5, m5, c5, l5, S5, rfl, hol, hrl, hbl, hbb⟩
        have hm5 : m5 ≤ 49 := by have := hol.1; have := Fl.pts_len S5 n; omega
        have Hiff := Lib.hid (noLib_iff hrl hbl)
        have Hm5 := Lib.hid hol.1
        have hzl := hbb.size
        have z7 := X3.out.lt
        have X3l := Lib.hid (X3.out.below hbb X3.out.lt)
        have Hol := Lib.hid (Ho.out.below hbb)
        have Hgl := Lib.hid (Hg.out.below hbb)
        have Hbrl := Lib.hid (Hbr.out.trans (hbb.mono (by omega)))
        clear hol hrl hbl hbb v00 v01 hck
        by_cases hm0 : m5 = 0
        · have hyes : cs.getD k 0 = x ∧ NoLib s n cs (k : Nat) := ⟨by rw [Hx.out]; exact Hux.out, Hiff.out.1 (by rw [Hm5.out]; exact hm0)⟩
          have Hri2 := Lib.hid (Hri.out.take hkn hyes)
          have Hpt := Lib.hid (show Fl.pts (S.set k true) (k + 1) = Fl.pts S k ++ [(k : Int)] by
            rw [Fl.pts_yes (by have hl : k < S.length := by { rw [Hri.out.len]; exact hkn }
                               simp [List.getD_eq_getElem?_getD, hl]), pts_set])
          clear hyes
          subst hm0
          obtain ⟨g, hA1⟩ : ∃ g, A1 = some ⟨g, 0, none⟩ := by
            obtain ⟨g, cap, hv, _⟩ := World.ownsRow.form Hol.out.2 (by omega)
            exact ⟨g, by injection hv⟩
          subst hA1
          have hg1 := (Hol.out.ge rfl).1
          have hg2 := Hr.out g rfl
          obtain ⟨u9, hu9⟩ : ∃ u, yl.cell? ⟨g, k, none⟩ = some u := by
            have := World.ownsRow.cellAt Hol.out.2 k (by omega)
            rw [this]
            exact ⟨_, List.getElem?_eq_getElem (by rw [List.length_map, Hol.out.1]; exact hkn)⟩
          have hf9 := World.ownsRow.frozenAt Hol.out.2 k
          have w30 := X3l.out.cell0
          have w31 := X3l.out.cell1
          have w32 := X3l.out.lt
          have HoS := Lib.hid (Hol.out.stored k 0).1
          have HgS := Lib.hid (Hgl.out.far ⟨g, k, none⟩ (fun g2 hA => by have := (Hgl.out.ge hA).1; show g2 ≠ g; omega) (.int .i64 0))
          have Hes := Lib.hid (show (yl.setCell ⟨g, k, none⟩ (.int .i64 0)).heap.size = yl.heap.size by simp [World.setCell])
          go_wp2_with (at_builtin; refine app1at rfl _ _ rfl (yl.setCell ⟨g, k, none⟩ (.int .i64 0)) _ _ _ _ _ _ _ rfl rfl Hes.out HgS.out (by rw [Hes.out]; omega) (by omega) ?_; intro A' c' w9 hown' hlt' hgrow hloc')
          rw [Hes.out] at hlt'
          have hfa : ∀ q, (Value.slice A4 n4 c4).ownBlock = some q → y3.heap.size ≤ q := fun q e2 => (HgS.out.ge (own_block HgS.out e2)).1
          have ho9 : Own w9 (w.heap.size + 1 + 1) (some ⟨g, 0, none⟩) n c1 (os.set k 0) := HoS.out.kept hgrow (fun q e e2 => by injection e with e; injection e with e; have := hfa q e2; omega)
          have hx9 := (X3l.out.far (p := ⟨g, k, none⟩) (by show y.heap.size ≠ g; omega) (.int .i64 0)).grown hgrow (fun e => by have := hfa _ e.symm; omega)
          have hbr9 := (Hbrl.out.setCell (p := ⟨g, k, none⟩) hg1 (.int .i64 0)).grown hgrow (by rw [Hes.out]; omega) (fun q hq => by have := hfa q hq; omega)
          have Ho9 := Lib.hid ho9
          have Hx9 := Lib.hid hx9
          have Hbr9 := Lib.hid hbr9
          have Hg9 := Lib.hid hown'
          clear hown' hgrow hloc' hfa ho9 hx9 hbr9 hu9 hf9
          go_roundw
          case rel => exact ⟨k + 1, _, _, _, _, _, by omega, by go_num, rfl, Ho9.out, by rw [Hpt.out]; exact Hg9.out, Hri2.out, Hx9.out, Hbr9.out⟩
          case measure => simp [intOf]; omega
        · have Hri2 := Lib.hid (Hri.out.no (fun h => hm0 (by rw [← Hm5.out]; exact Hiff.out.2 h.2)))
          have Hpt := Lib.hid (show Fl.pts S (k + 1) = Fl.pts S k from Fl.pts_no (by
            rcases Bool.eq_false_or_eq_true (S.getD k false) with h | h
            · have := ((Hri.out.yes k hkn).1 h).1; omega
            · exact h))
          go_wp2_with fail
          go_roundw
          case rel => exact ⟨k + 1, _, _, _, _, _, by omega, by go_num, rfl, Hol.out, by rw [Hpt.out]; exact Hgl.out, Hri2.out, X3l.out, Hbrl.out⟩
          case measure => simp [intOf]; omega
      · have hbx : (u == x) = false := by simpa using hux
        have Hri2 := Lib.hid (Hri.out.no (fun h => hux (by rw [← Hx.out]; exact h.1)))
        have Hpt := Lib.hid (show Fl.pts S (k + 1) = Fl.pts S k from Fl.pts_no (by
            rcases Bool.eq_false_or_eq_true (S.getD k false) with h | h
            · have := ((Hri.out.yes k hkn).1 h).1; omega
            · exact h))
        clear hux
        go_wp2_with fail
        go_roundw
        case rel => exact ⟨k + 1, _, _, _, _, _, by omega, by go_num, rfl, Ho.out, by rw [Hpt.out]; exact Hg.out, Hri2.out, X3.out, Hbr.out⟩
        case measure => simp [intOf]; omega
    · have hbw : Below w.heap.size w wr := Hb.out.trans (Hbr.out.mono (by omega))
      obtain rfl : k = n := by omega
      have ho2 := (Ho.out.far ⟨w.heap.size + 1, 0, none⟩ (fun g hA => by have := (Ho.out.ge hA).1; show g ≠ w.heap.size + 1; omega) (.int .i64 s)).far ⟨w.heap.size + 1, 1, none⟩ (fun g hA => by have := (Ho.out.ge hA).1; show g ≠ w.heap.size + 1; omega) (.slice A1 k c1)
      have hg2 := (Hg.out.far ⟨w.heap.size + 1, 0, none⟩ (fun g hA => by have := (Hg.out.ge hA).1; show g ≠ w.heap.size + 1; omega) (.int .i64 s)).far ⟨w.heap.size + 1, 1, none⟩ (fun g hA => by have := (Hg.out.ge hA).1; show g ≠ w.heap.size + 1; omega) (.slice A1 k c1)
      have hb3 := (hbw.setCell (p := ⟨w.heap.size + 1, 0, none⟩) (by show w.heap.size ≤ w.heap.size + 1; omega) (.int .i64 s)).setCell (p := ⟨w.heap.size + 1, 1, none⟩) (by show w.heap.size ≤ w.heap.size + 1; omega) (.slice A1 k c1)
      have Ho2 := Lib.hid ho2
      have Hg2 := Lib.hid hg2
      have Hb3 := Lib.hid hb3
      have K0 := Lib.hid ((X1r.out.set0 s).cell0)
      have K1 := Lib.hid (((X1r.out.set0 s).set1 (.slice A1 k c1)).cell1)
      have v30 := X3.out.cell0
      have v31 := X3.out.cell1
      have v32 := X3.out.lt
      have v10 := X1r.out.cell0
      have v11 := X1r.out.cell1
      have v12 := X1r.out.frozen 0
      have v13 := X1r.out.frozen 1
      have v14 := X1r.out.lt
      clear ho2 hg2 hb3 hbw
      go_wp2_with fail
      have k0 := K0.out
      have k1 := K1.out
      refine bodyPost_ret (v := .tuple #[.agg #[.int .i64 s, .slice A1 k c1], .slice A4 n4 c4]) (by simp [results, Tryd.results64, go_sem, k0, k1]) rfl ?_
      exact ⟨_, _, _, _, _, S, os, rfl, Ho2.out.weaken (by omega), Hg2.out.weaken (by omega), Hri.out, Hb3.out⟩
end Go.Proofs.YteldfjibmaigiaaDoor

namespace Go.Proofs.YteldfjibmaigiaaDoor
set_option maxRecDepth 100000
open Go.RowKit

set_option maxRecDepth 100000 in
set_option maxHeartbeats 4000000 in
theorem s_sorted (w : World) (B : Nat) (A : Option Addr) (n c : Nat) (xs : List Int) (h : Ints w B A n xs) (hB : B ≤ w.heap.size) (hn : n ≤ 1000000) :
    Calls Tryd.prog 67 #[.slice A n c] w fun e w' => ∃ A' c' ys, e = .returned (.slice A' n c') ∧ Own w' w.heap.size A' n c' ys ∧ So.SO xs ys n ∧ Below w.heap.size w w' := by
  have H := Lib.hid h
  have hl := h.1
  clear h
  go_enter Tryd.func67, Tryd.ntmps67
  go_wp2_with fail
  refine (s_copyInts _ _ _ _ _ _ H.out hB hn).mono ?_
  rintro e y ⟨A1, c1, rfl, ho, hb⟩
  have Ho := Lib.hid ho
  have Hb := Lib.hid hb
  have hzy := hb.size
  clear ho hb
  go_wp2_with fail
  go_loopw [4] (fun i wr => ∃ k ys, 1 ≤ k ∧ (k ≤ n ∨ k = 1) ∧ i = .int .i64 (k : Nat) ∧ Own wr w.heap.size A1 n c1 ys ∧ So.SO xs ys k ∧ Below w.heap.size w wr) (fun i _ => n - (intOf i).toNat)
  case atStart => exact ⟨1, _, by omega, by omega, rfl, Ho.out, So.SO.start xs, Hb.out⟩
  case round =>
    clear Ho Hb
    obtain ⟨k, ys, hk1, hk2, rfl, ho, hso, hbr⟩ := hrel
    obtain ⟨wo, rfl⟩ : ∃ wo : World, wo = wr := ⟨_, rfl⟩
    have Ho := Lib.hid ho
    have Hso := Lib.hid hso
    have Hbr := Lib.hid hbr
    clear ho hso hbr
    by_cases hkn : k < n
    · obtain ⟨g, hA1⟩ : ∃ g, A1 = some ⟨g, 0, none⟩ := by
        obtain ⟨g, cap, hv, _⟩ := World.ownsRow.form Ho.out.2 (by omega)
        exact ⟨g, by injection hv⟩
      subst hA1
      have hkk : (k : Int) < n := by omega
      go_wp2_with fail
      go_loopw [5] (fun i wr => ∃ j zs, j ≤ k ∧ i = .int .i64 (j : Nat) ∧ Own wr w.heap.size (some ⟨g, 0, none⟩) n c1 zs ∧ So.SI xs zs k j ∧ Below w.heap.size w wr) (fun i _ => (intOf i).toNat)
      case atStart => exact ⟨k, _, by omega, rfl, Ho.out, Hso.out.go, Hbr.out⟩
      case round =>
        clear Ho Hso Hbr
        obtain ⟨j, zs, hj, rfl, ho, hsi, hbr⟩ := hrel
        have hzl := ho.1
        have hgg := (ho.ge rfl).1
        have Ho := Lib.hid ho
        have Hsi := Lib.hid hsi
        have Hbr := Lib.hid hbr
        clear ho hsi hbr
        by_cases hj0 : j = 0
        · subst hj0
          have Hst := Lib.hid (Hsi.out.stop hj (.inl rfl))
          go_wp2_with fail
          go_quiet (fail)
          go_wp2_with fail
          go_roundw
          case rel => exact ⟨k + 1, _, by omega, by omega, by go_num, Own.drewN Ho.out _, Hst.out, ⟨Hbr.out.os, Hbr.out.tape, Hbr.out.output, Hbr.out.size, Hbr.out.block⟩⟩
          case measure => simp [intOf]; omega
        · obtain ⟨i, rfl⟩ : ∃ i, j = i + 1 := ⟨j - 1, by omega⟩
          have c1' : wr.cell? ⟨g, i + 1, none⟩ = some (.int .i64 (zs.getD (i + 1) 0)) := by
            rw [World.ownsRow.cellAt Ho.out.2 (i + 1) (by omega)]
            simp [List.getD_eq_getElem?_getD, List.getElem?_eq_getElem (show i + 1 < zs.length by omega)]
          have c0' : wr.cell? ⟨g, i, none⟩ = some (.int .i64 (zs.getD i 0)) := by
            rw [World.ownsRow.cellAt Ho.out.2 i (by omega)]
            simp [List.getD_eq_getElem?_getD, List.getElem?_eq_getElem (show i < zs.length by omega)]
          have f1 := World.ownsRow.frozenAt Ho.out.2 (i + 1)
          have f0 := World.ownsRow.frozenAt Ho.out.2 i
          by_cases hlt : zs.getD (i + 1) 0 < zs.getD i 0
          · have Hsw := Lib.hid (Hsi.out.swap (by omega) hj (by omega) hlt)
            obtain ⟨u1, hu1⟩ : ∃ u, zs.getD (i + 1) 0 = u := ⟨_, rfl⟩
            obtain ⟨u0, hu0⟩ : ∃ u, zs.getD i 0 = u := ⟨_, rfl⟩
            have Hu1 := Lib.hid hu1
            have Hu0 := Lib.hid hu0
            rw [hu1] at c1' hlt
            rw [hu0] at c0' hlt
            clear hu1 hu0
            go_wp2_with fail
            go_quiet (fail)
            go_wp2_with fail
            go_roundw
            case rel =>
              have hst := ((Ho.out.drewN nq).stored (i + 1) u0).1
              refine ⟨i, _, by omega, by go_num, Own.stored hst i u1 |>.1, by have := Hsw.out; rw [show i + 1 - 1 = i from rfl, Hu1.out, Hu0.out] at this; exact this, ?_⟩
              have hbd : Below w.heap.size w (wr.drewN nq) := ⟨Hbr.out.os, Hbr.out.tape, Hbr.out.output, Hbr.out.size, Hbr.out.block⟩
              exact (hbd.setCell (p := ⟨g, i + 1, none⟩) hgg (.int .i64 u0)).setCell (p := ⟨g, i, none⟩) hgg (.int .i64 u1)
            case measure => simp [intOf]
          · have Hst := Lib.hid (Hsi.out.stop hj (.inr (by show zs.getD i 0 ≤ zs.getD (i + 1) 0; omega)))
            obtain ⟨u1, hu1⟩ : ∃ u, zs.getD (i + 1) 0 = u := ⟨_, rfl⟩
            obtain ⟨u0, hu0⟩ : ∃ u, zs.getD i 0 = u := ⟨_, rfl⟩
            rw [hu1] at c1' hlt
            rw [hu0] at c0' hlt
            clear hu1 hu0
            go_wp2_with fail
            go_quiet (fail)
            go_wp2_with fail
            go_roundw
            case rel => exact ⟨k + 1, _, by omega, by omega, by go_num, Own.drewN Ho.out _, Hst.out, ⟨Hbr.out.os, Hbr.out.tape, Hbr.out.output, Hbr.out.size, Hbr.out.block⟩⟩
            case measure => simp [intOf]; omega
    · have hfin : So.SO xs ys n := by
        rcases hk2 with h | h
        · obtain rfl : k = n := by omega
          exact Hso.out
        · exact ⟨Hso.out.len, Hso.out.perm, fun a b h1 h2 => Hso.out.pair a b h1 (by omega)⟩
      have Hfin := Lib.hid hfin
      clear hfin
      go_wp2_with fail
      go_ret
      exact ⟨_, _, _, rfl, Ho.out, Hfin.out, Hbr.out⟩
end Go.Proofs.YteldfjibmaigiaaDoor

namespace Go.Proofs.YteldfjibmaigiaaDoor
set_option maxRecDepth 100000
open Go.RowKit

theorem stepAppAll {ops : Array Oper} {o : Oper} {a : Act} {K : Act → World → Prop} {Q : Exit → Act → World → Prop} {E : Prop} (hgd : o.guard = none) (s x : Operand)
    (ho : o.op = .call { callee := .builtin .append, args := #[s, x], argTypes := #[23, 23] })
    (w : World) (B : Nat) (As : Option Addr) (m cs0 : Nat) (ys : List Int) (B' : Nat) (A : Option Addr) (n c : Nat) (xs : List Int) (hs : a.eval s = .slice As m cs0) (hx : a.eval x = .slice A n c)
    (hown : Own w B As m cs0 ys) (hin : Ints w B' A n xs) (hB : B ≤ w.heap.size) (hn : m + n ≤ 1000000000) (hpos : 0 < n)
    (h : ∀ A' c' w', Own w' B A' (m + n) c' (ys ++ xs) → Below B w w' → w.grownBy w' (Value.slice As m cs0).ownBlock → K (a.put o.dst (.slice A' (m + n) c')) w') :
    if Region.wanted o (yielded ops a.tmps) = true then Oper.wp Tryd.prog o a w K Q else E := by
  obtain ⟨i0, hi, hz0, hz1, hz2⟩ := info_parts info_int
  have hl := hin.1
  rcases hin.2 with h0 | ⟨b, o', rfl, _, hc⟩
  · omega
  · refine step_append_lies w hgd s x 23 ho B 3 i0 (.int .i64 0) 1 8 Tryd.underlying23 hi hz0 hz1 hz2 rfl (by decide) _ m _ hs hown.2 _ n c (xs.map (Value.int .i64)) hx (by rw [List.length_map, hl]; omega) ?_ (ints_oneCell _ _) hpos (by unfold maxLen; omega) (by omega) hB _ rfl ?_
    · intro j u hj
      have hj' : j < xs.length := by
        rcases Nat.lt_or_ge j xs.length with h | h
        · exact h
        · rw [List.getElem?_eq_none (by rw [List.length_map]; exact h)] at hj; cases hj
      have e : (⟨b, o', none⟩ : Addr).add j = ⟨b, o' + j, none⟩ := by by_cases hj0 : j = 0 <;> simp [Addr.add, hj0]
      rw [e, hc j (by omega)]
      rw [← hj]
      simp [List.getElem?_eq_getElem hj', List.getD_eq_getElem?_getD]
    · intro g cap w' hown' hgr _ _
      exact h _ _ _ ⟨by rw [List.length_append, hown.1, hl], by simpa using hown'⟩ (below_g hgr hB (fun k hk => (World.ownsRow.lt hown.2 k hk).1)) hgr
/-- A call of a Go function, as a step of a region that draws its order. -/
theorem stepCall {P : Program} {ops : Array Oper} {o : Oper} {a : Act} {K : Act → World → Prop} {Q : Exit → Act → World → Prop} {E : Prop} (hgd : o.guard = none) (w : World) (f : FuncId) (args : Array Operand) (tys : Array TypeId)
    (ho : o.op = .call { callee := .value (.func f), args := args, argTypes := tys }) (hf : (P.funcs[f]?).map (fun fn => (fn.name == "runtime.NumGoroutine", fn.body.isNone)) = some (false, false)) (vs : Array Value) (hvs : args.map a.eval = vs) (R : Ending → World → Prop) (hc : Calls P f vs w R)
    (h : ∀ e w', R e w' → ∃ v, e = .returned v ∧ K (a.put o.dst v) w') :
    if Region.wanted o (yielded ops a.tmps) = true then Oper.wp P o a w K Q else E := by
  have hw : Region.wanted o (yielded ops a.tmps) = true := by simp [Region.wanted, hgd]
  rw [if_pos hw]
  have hrun : (execOp a.eval o).run P w = .ok (.enter f vs) w := by
    subst hvs
    obtain ⟨fn, hfn, he⟩ := Option.map_eq_some_iff.1 hf
    obtain ⟨e1, e2⟩ := Prod.mk.inj he
    simp [execOp, ho, resolve, invoke, Act.eval, Result.andThen, Deferred.ofValue, callFunc, Sem.run_bind, hfn]
    rw [if_neg (by simpa using e1), if_neg (by intro h; rw [h] at e2; cases e2)]
  unfold Oper.wp
  rw [hrun, Oper.upon_enter]
  refine hc.mono ?_
  intro e w' hr
  obtain ⟨v, rfl, hk⟩ := h e w' hr
  exact hk
end Go.Proofs.YteldfjibmaigiaaDoor

namespace Go.Proofs.YteldfjibmaigiaaDoor
set_option maxRecDepth 100000
open Go.RowKit

/-- What a placed stone leads to, in memory. -/
def PlayedP (s : Int) (n : Nat) (R : Option (List Int × List Int) → Prop) (w : World) (e : Ending) (w' : World) : Prop :=
  (R none ∧ e = .returned (.tuple #[.agg #[.int .i64 0, .slice none 0 0], .slice none 0 0, .bool false]) ∧ Below w.heap.size w w') ∨
  ∃ os gs A1 c1 A2 n2 c2, R (some (os, gs)) ∧ e = .returned (.tuple #[.agg #[.int .i64 s, .slice A1 n c1], .slice A2 n2 c2, .bool true]) ∧ Own w' w.heap.size A1 n c1 os ∧ Own w' w.heap.size A2 n2 c2 gs ∧ Below w.heap.size w w'

def RemRel (w y4 : World) (gb : Nat) (s : Int) (n : Nat) (cs : List Int) (x : Int) (A : Option Addr) (c : Nat) (v : Value) (wx : World) : Prop :=
  ∃ A1 c1 A2 n2 c2 S os, v = .slice A2 n2 c2 ∧ Bx 25 wx gb s (.slice A1 n c1) ∧ Own wx y4.heap.size A1 n c1 os ∧ Own wx y4.heap.size A2 n2 c2 (Fl.pts S n) ∧ RI s n cs x n S os ∧
    Bx 25 wx w.heap.size s (.slice A n c) ∧ Bx 25 wx (w.heap.size + 1) 0 (.slice none 0 0) ∧ Below w.heap.size w wx ∧ y4.heap.size ≤ wx.heap.size

set_option maxRecDepth 100000 in
set_option maxHeartbeats 8000000 in
theorem s_play (s x : Int) (p : Nat) (su : Bool) (w : World) (B : Nat) (A : Option Addr) (n c : Nat) (cs : List Int) (h : Ints w B A n cs) (hB : B ≤ w.heap.size) (h1 : 1 ≤ s) (h2 : s ≤ 7) (hn : (n : Int) = s * s) (hp : p < n) (x1 : 1 ≤ x) (x2 : x ≤ 2) :
    Calls Tryd.prog 39 #[.agg #[.int .i64 s, .slice A n c], .int .i64 x, .int .i64 p, .bool su] w fun e w' => PlayedP s n (Plays s n cs x p su) w e w' := by
  have hsq := Pt.sq_bd s h1 h2
  have hn49 : n ≤ 49 := by omega
  have e1 : (w.alloc (.cells #[.int .i64 s, .slice A n c] 25)).heap.size = w.heap.size + 1 := by simp
  have x0 := (Bx.new 25 w s (.slice A n c)).alloc (.cells #[.int .i64 0, .slice none 0 0] 25)
  have xx := Bx.new 25 (w.alloc (.cells #[.int .i64 s, .slice A n c] 25)) 0 (.slice none 0 0)
  rw [e1] at xx
  have hb2 : Below w.heap.size w ((w.alloc (.cells #[.int .i64 s, .slice A n c] 25)).alloc (.cells #[.int .i64 0, .slice none 0 0] 25)) := ((Below.refl _ _).alloc (Nat.le_refl _) _).alloc (by simp) _
  have Hl := Lib.hid h.1
  have H := Lib.hid (h.below hb2 hB)
  have X0 := Lib.hid x0
  have X1 := Lib.hid xx
  have Hb := Lib.hid hb2
  have Hn := Lib.hid hn
  have hpn : (p : Int) < n := by omega
  obtain ⟨b, o, hA, hbB, hc⟩ : ∃ b o, A = some ⟨b, o, none⟩ ∧ b < B ∧ ∀ j, j < n → ((w.alloc (.cells #[.int .i64 s, .slice A n c] 25)).alloc (.cells #[.int .i64 0, .slice none 0 0] 25)).cell? ⟨b, o + j, none⟩ = some (.int .i64 (cs.getD j 0)) := by
    rcases (h.below hb2 hB).2 with h0 | ⟨b, o, hA, hbB, hc⟩
    · omega
    · exact ⟨b, o, hA, hbB, hc⟩
  subst hA
  have ck := hc p hp
  obtain ⟨u, hu⟩ : ∃ u, cs.getD p 0 = u := ⟨_, rfl⟩
  have Hu := Lib.hid hu
  rw [hu] at ck
  clear e1 x0 xx hb2 h hn hc hu
  by_cases hu0 : u = 0
  · have hbx : (u != 0) = false := by simpa using hu0
    have Hu0 : Hid (cs.getD p 0 = 0) := Lib.hid (by rw [Hu.out, hu0])
    clear hu0
    go_enter Tryd.func39, Tryd.ntmps39
    go_wp2_with fail
    refine (s_copyBoard _ _ _ _ _ _ _ H.out (by simp; omega) (by omega)).mono ?_
    rintro e y ⟨A1, c1, rfl, ho, hb⟩
    have X0 := Lib.hid (X0.out.below hb X0.out.lt)
    have X1 := Lib.hid (X1.out.below hb X1.out.lt)
    have Hb := Lib.hid (Hb.out.trans (hb.mono (by simp; omega)))
    have Ho := Lib.hid (ho.weaken (B' := w.heap.size + 1 + 1) (by simp))
    obtain ⟨g, hA1⟩ : ∃ g, A1 = some ⟨g, 0, none⟩ := by
      obtain ⟨g, cap, hv, _⟩ := World.ownsRow.form ho.2 (by omega)
      exact ⟨g, by injection hv⟩
    subst hA1
    have hg1 := (Ho.out.ge rfl).1
    have hg2 := (Ho.out.ge rfl).2
    clear hb ho ck
    go_upto_region 4 with (fail)
    obtain ⟨y3, hy3, hb3, z3, z4⟩ := new_box y (.cells #[.int .i64 s, .slice (some ⟨g, 0, none⟩) n c1] 25)
    have X3 : Hid (Bx 25 y3 y.heap.size s (.slice (some ⟨g, 0, none⟩) n c1)) := Lib.hid (by rw [hy3]; exact Bx.new _ _ _ _)
    rw [← hy3]
    clear hy3
    have X0 := Lib.hid (X0.out.below hb3 X0.out.lt)
    have X1 := Lib.hid (X1.out.below hb3 X1.out.lt)
    have Ho := Lib.hid (Ho.out.below hb3)
    have z1 : w.heap.size + 1 < y.heap.size := by have := X1.out.lt; omega
    have Hb := Lib.hid (Hb.out.trans (hb3.mono (by omega)))
    clear hb3
    obtain ⟨v, hv⟩ : ∃ v, y3.cell? ⟨g, p, none⟩ = some v := by
      have := World.ownsRow.cellAt Ho.out.2 p (by omega)
      rw [this]
      exact ⟨_, List.getElem?_eq_getElem (by rw [List.length_map, Ho.out.1]; exact hp)⟩
    have hf := World.ownsRow.frozenAt Ho.out.2 p
    have t0 := X3.out.cell0
    have t1 := X3.out.cell1
    have t2 := X3.out.lt
    go_upto_region 5 with (fail)
    obtain ⟨y4, hy4⟩ : ∃ y4, y4 = y3.setCell ⟨g, p, none⟩ (.int .i64 x) := ⟨_, rfl⟩
    have es : y4.heap.size = y3.heap.size := by rw [hy4]; simp [World.setCell]
    have X0 : Hid (Bx 25 y4 w.heap.size s (.slice (some ⟨b, o, none⟩) n c)) := Lib.hid (by rw [hy4]; exact X0.out.far (by show w.heap.size ≠ g; omega) _)
    have X1 : Hid (Bx 25 y4 (w.heap.size + 1) 0 (.slice none 0 0)) := Lib.hid (by rw [hy4]; exact X1.out.far (by show w.heap.size + 1 ≠ g; omega) _)
    have X3 : Hid (Bx 25 y4 y.heap.size s (.slice (some ⟨g, 0, none⟩) n c1)) := Lib.hid (by rw [hy4]; exact X3.out.far (by show y.heap.size ≠ g; omega) _)
    have Ho : Hid (Own y4 (w.heap.size + 1 + 1) (some ⟨g, 0, none⟩) n c1 (cs.set p x)) := Lib.hid (by rw [hy4]; exact (Ho.out.stored p x).1)
    have Hb : Hid (Below w.heap.size w y4) := Lib.hid (by rw [hy4]; exact Hb.out.setCell (by show w.heap.size ≤ g; omega) _)
    rw [← hy4]
    clear hy4 hv hf t0 t1 t2
    have t0 := X3.out.cell0
    have t1 := X3.out.cell1
    have t2 := X3.out.lt
    have t3 := X3.out.frozen 0
    have t4 := X3.out.frozen 1
    go_cut [12] (fun v wx => RemRel w y4 y.heap.size s n (cs.set p x) (oth x) (some ⟨b, o, none⟩) c v wx)
    case first =>
      go_region_with (first | (go_at_call 65; refine (s_opp _ _ x1 x2).mono ?_; rintro e w9 ⟨rfl, rfl⟩) | (go_at_call 64; refine (s_removed s (oth x) _ y4.heap.size _ n _ (cs.set p x) (by exact Ho.out.ints) ?_ h1 h2 Hn.out).mono ?_; (show y4.heap.size ≤ y4.heap.size; omega); rintro e ya ⟨Aa, ca, Ab, nb, cb, S, os, rfl, hoa, hob, hri, hba⟩; have hbw : Below y4.heap.size y4 ya := ⟨hba.os, hba.tape, hba.output, hba.size, hba.block⟩; have za := hbw.size; have v0 := (X3.out.below hbw t2).cell0; have v1 := (X3.out.below hbw t2).cell1; have v2 := (X3.out.below hbw t2).frozen 0; have v3 := (X3.out.below hbw t2).frozen 1; have v4 := (X3.out.below hbw t2).lt; have HX3 := Lib.hid (X3.out.below hbw t2); have Hoa : Hid (Own ya y4.heap.size Aa n ca os) := Lib.hid hoa; have Hob : Hid (Own ya y4.heap.size Ab nb cb (Fl.pts S n)) := Lib.hid hob; have Hri := Lib.hid hri; have Hba := Lib.hid hbw; clear hoa hob hri hba hbw))
      all_goals go_wp2_with fail
      all_goals go_meet
      all_goals
        have hX3 := (HX3.out.set0 s).set1 (.slice Aa n ca)
        have ho9 := (Hoa.out.far ⟨y.heap.size, 0, none⟩ (fun g hA => by have := (Hoa.out.ge hA).1; show g ≠ y.heap.size; omega) (.int .i64 s)).far ⟨y.heap.size, 1, none⟩ (fun g hA => by have := (Hoa.out.ge hA).1; show g ≠ y.heap.size; omega) (.slice Aa n ca)
        have hg9 := (Hob.out.far ⟨y.heap.size, 0, none⟩ (fun g hA => by have := (Hob.out.ge hA).1; show g ≠ y.heap.size; omega) (.int .i64 s)).far ⟨y.heap.size, 1, none⟩ (fun g hA => by have := (Hob.out.ge hA).1; show g ≠ y.heap.size; omega) (.slice Aa n ca)
        have hx0 := ((X0.out.below Hba.out X0.out.lt).far (p := ⟨y.heap.size, 0, none⟩) (by show w.heap.size ≠ y.heap.size; omega) (.int .i64 s)).far (p := ⟨y.heap.size, 1, none⟩) (by show w.heap.size ≠ y.heap.size; omega) (.slice Aa n ca)
        have hx1 := ((X1.out.below Hba.out X1.out.lt).far (p := ⟨y.heap.size, 0, none⟩) (by show w.heap.size + 1 ≠ y.heap.size; omega) (.int .i64 s)).far (p := ⟨y.heap.size, 1, none⟩) (by show w.heap.size + 1 ≠ y.heap.size; omega) (.slice Aa n ca)
        have hbb := ((Hb.out.trans (Hba.out.mono (by omega))).setCell (p := ⟨y.heap.size, 0, none⟩) (by show w.heap.size ≤ y.heap.size; omega) (.int .i64 s)).setCell (p := ⟨y.heap.size, 1, none⟩) (by show w.heap.size ≤ y.heap.size; omega) (.slice Aa n ca)
        exact ⟨_, _, _, _, _, _, _, rfl, hX3, ho9, hg9, Hri.out, hx0, hx1, hbb, by simp [World.setCell]; omega⟩
    case rest =>
      clear X0 X1 X3 Ho Hb t0 t1 t2 t3 t4
      obtain ⟨A1, c1, A2, n2, c2, S, os, rfl, hx3, ho, hg, hri, hx0, hx1, hb, hz9⟩ := hcut
      have X0 := Lib.hid hx0
      have X1 := Lib.hid hx1
      have X3 := Lib.hid hx3
      have Ho := Lib.hid ho
      have Hg := Lib.hid hg
      have Hri := Lib.hid hri
      have Hb := Lib.hid hb
      clear hx0 hx1 hx3 ho hg hri hb
      have t0 := X3.out.cell0
      have t1 := X3.out.cell1
      have t2 := X3.out.lt
      go_wp2_with fail
      refine (s_liberties s p _ _ _ n _ os Ho.out.ints (Nat.le_refl _) h1 h2 Hn.out hp).mono ?_
      rintro e yl ⟨A5, m5, c5, l5, S5, rfl, hol, hrl, hbl, hbb⟩
      have hm5 : m5 ≤ 49 := by have := hol.1; have := Fl.pts_len S5 n; omega
      have Hiff := Lib.hid (noLib_iff hrl hbl)
      have Hm5 := Lib.hid hol.1
      have zl := hbb.size
      have X0 := Lib.hid (X0.out.below hbb X0.out.lt)
      have X1 := Lib.hid (X1.out.below hbb X1.out.lt)
      have X3 := Lib.hid (X3.out.below hbb X3.out.lt)
      have Ho := Lib.hid (Ho.out.below hbb)
      have Hg := Lib.hid (Hg.out.below hbb)
      have Hb := Lib.hid (Hb.out.trans (hbb.mono (by omega)))
      clear hol hrl hbl hbb t0 t1 t2
      have t0 := X3.out.cell0
      have t1 := X3.out.cell1
      have t2 := X3.out.lt
      have r0 := X1.out.cell0
      have r1 := X1.out.cell1
      have r2 := X1.out.frozen 0
      have r3 := X1.out.frozen 1
      have r4 := X1.out.lt
      by_cases hm0 : m5 = 0
      · have Hno : Hid (NoLib s n os p) := Lib.hid (Hiff.out.1 (by rw [Hm5.out]; exact hm0))
        subst hm0
        cases su with
        | false =>
          have K0 := Lib.hid ((X1.out.set0 0).cell0)
          have K1 := Lib.hid (((X1.out.set0 0).set1 (.slice none 0 0)).cell1)
          have Hb3 := Lib.hid ((Hb.out.setCell (p := ⟨w.heap.size + 1, 0, none⟩) (by show w.heap.size ≤ w.heap.size + 1; omega) (.int .i64 0)).setCell (p := ⟨w.heap.size + 1, 1, none⟩) (by show w.heap.size ≤ w.heap.size + 1; omega) (.slice none 0 0))
          go_wp2_with fail
          have k0 := K0.out
          have k1 := K1.out
          refine bodyPost_ret (v := .tuple #[.agg #[.int .i64 0, .slice none 0 0], .slice none 0 0, .bool false]) (by simp [results, Tryd.results39, go_sem, k0, k1]) rfl ?_
          exact .inl ⟨.lost S os Hu0.out Hri.out Hno.out rfl, rfl, Hb3.out⟩
        | true =>
          go_wp2_with fail
          refine (s_removed s x _ _ _ n _ os Ho.out.ints (Nat.le_refl _) h1 h2 Hn.out).mono ?_
          rintro e yr ⟨Aa, ca, Ab, nb, cb, S2, os2, rfl, hoa, hob, hri2, hba⟩
          have zr := hba.size
          have Hr2 := Lib.hid (fun g (hA : A2 = some ⟨g, 0, none⟩) => (Hg.out.ge hA).2)
          have Hra := Lib.hid (fun g (hA : Aa = some ⟨g, 0, none⟩) => (hoa.ge hA).1)
          have hn2 : n2 ≤ 49 := by have := Hg.out.1; have := Fl.pts_len S n; omega
          have hnb : nb ≤ 49 := by have := hob.1; have := Fl.pts_len S2 n; omega
          have hnb0 : 0 < nb := by have := hob.1; have := pts_own Hl.out Hri.out hri2 Hno.out hp x1 x2; omega
          have Hlen := Lib.hid (show (Fl.pts S n ++ Fl.pts S2 n).length = n2 + nb by rw [List.length_append, Hg.out.1, hob.1])
          have Hne := Lib.hid (pts_own Hl.out Hri.out hri2 Hno.out hp x1 x2)
          have X1 := Lib.hid (X1.out.below hba X1.out.lt)
          have X3 := Lib.hid (X3.out.below hba X3.out.lt)
          have Hg := Lib.hid (Hg.out.below hba)
          have Hb := Lib.hid (Hb.out.trans (hba.mono (by omega)))
          have Hoa := Lib.hid hoa
          have Hob := Lib.hid hob
          have Hri2 := Lib.hid hri2
          clear hoa hob hri2 hba t0 t1 t2 r0 r1 r2 r3 r4
          have t0 := X3.out.cell0
          have t1 := X3.out.cell1
          have t2 := X3.out.lt
          have t3 := X3.out.frozen 0
          have t4 := X3.out.frozen 1
          go_upto_region 11 with (fail)
          obtain ⟨y6, hy6⟩ : ∃ y6, y6 = (yr.setCell ⟨y.heap.size, 0, none⟩ (.int .i64 s)).setCell ⟨y.heap.size, 1, none⟩ (.slice Aa n ca) := ⟨_, rfl⟩
          have es : y6.heap.size = yr.heap.size := by rw [hy6]; simp [World.setCell]
          have Hoa : Hid (Own y6 (w.heap.size + 1 + 1) Aa n ca os2) := Lib.hid (by rw [hy6]; exact ((Hoa.out.far ⟨y.heap.size, 0, none⟩ (fun g hA => by have := (Hoa.out.ge hA).1; show g ≠ y.heap.size; omega) (.int .i64 s)).far ⟨y.heap.size, 1, none⟩ (fun g hA => by have := (Hoa.out.ge hA).1; show g ≠ y.heap.size; omega) (.slice Aa n ca)).weaken (by omega))
          have Hob : Hid (Own y6 yl.heap.size Ab nb cb (Fl.pts S2 n)) := Lib.hid (by rw [hy6]; exact ((Hob.out.far ⟨y.heap.size, 0, none⟩ (fun g hA => by have := (Hob.out.ge hA).1; show g ≠ y.heap.size; omega) (.int .i64 s)).far ⟨y.heap.size, 1, none⟩ (fun g hA => by have := (Hob.out.ge hA).1; show g ≠ y.heap.size; omega) (.slice Aa n ca)))
          have Hg : Hid (Own y6 y4.heap.size A2 n2 c2 (Fl.pts S n)) := Lib.hid (by rw [hy6]; exact ((Hg.out.far ⟨y.heap.size, 0, none⟩ (fun g hA => by have := (Hg.out.ge hA).1; show g ≠ y.heap.size; omega) (.int .i64 s)).far ⟨y.heap.size, 1, none⟩ (fun g hA => by have := (Hg.out.ge hA).1; show g ≠ y.heap.size; omega) (.slice Aa n ca)))
          have X3 : Hid (Bx 25 y6 y.heap.size s (.slice Aa n ca)) := Lib.hid (by rw [hy6]; exact (X3.out.set0 s).set1 (.slice Aa n ca))
          have X1 : Hid (Bx 25 y6 (w.heap.size + 1) 0 (.slice none 0 0)) := Lib.hid (by rw [hy6]; exact (X1.out.far (p := ⟨y.heap.size, 0, none⟩) (by show w.heap.size + 1 ≠ y.heap.size; omega) (.int .i64 s)).far (p := ⟨y.heap.size, 1, none⟩) (by show w.heap.size + 1 ≠ y.heap.size; omega) (.slice Aa n ca))
          have Hb : Hid (Below w.heap.size w y6) := Lib.hid (by rw [hy6]; exact ((Hb.out.setCell (p := ⟨y.heap.size, 0, none⟩) (by show w.heap.size ≤ y.heap.size; omega) (.int .i64 s)).setCell (p := ⟨y.heap.size, 1, none⟩) (by show w.heap.size ≤ y.heap.size; omega) (.slice Aa n ca)))
          rw [← hy6]
          clear hy6 t0 t1 t2 t3 t4
          have t0 := X3.out.cell0
          have t1 := X3.out.cell1
          have t2 := X3.out.lt
          go_region_law (first | (refine stepAppAll rfl _ _ rfl _ y4.heap.size _ _ _ (Fl.pts S n) _ _ _ _ (Fl.pts S2 n) rfl rfl (by exact Hg.out) (by exact Hob.out.ints) (by show y4.heap.size ≤ y6.heap.size; omega) (by omega) (by omega) ?_; intro A9 c9 w9 hown hb9 hgr; have hb9w : Below y4.heap.size y6 w9 := ⟨hb9.os, hb9.tape, hb9.output, hb9.size, hb9.block⟩; have hgrw : y6.grownBy w9 (Value.slice A2 n2 c2).ownBlock := ⟨hgr.os, hgr.tape, hgr.output, hgr.size, hgr.block⟩; have z9 := hb9w.size; have HX1 := Lib.hid (X1.out.below hb9w (by omega)); have HX3 := Lib.hid (X3.out.below hb9w (by omega)); have Hob9 := Lib.hid (Own.kept Hoa.out hgrw (fun g hA e => by have h1 := Hra.out g hA; have h2 := Hr2.out g (own_block Hg.out e |> fun e2 => by rw [e2]); omega)); have Hown : Hid (Own w9 y4.heap.size A9 (n2 + nb) c9 (Fl.pts S n ++ Fl.pts S2 n)) := Lib.hid hown; have Hb9 := Lib.hid (Hb.out.trans (hb9w.mono (by omega))); have s0 := HX3.out.cell0; have s1 := HX3.out.cell1; clear hown hb9 hgr hb9w hgrw) | (refine stepCall rfl _ 67 _ _ rfl (by kernel_rfl) #[.slice A9 (n2 + nb) c9] (by simp [Act.eval]) _ (s_sorted _ w9.heap.size _ _ _ (Fl.pts S n ++ Fl.pts S2 n) (by exact Hown.out.ints) (by show w9.heap.size ≤ w9.heap.size; omega) (by omega)) ?_; rintro e w10 ⟨A10, c10, ys, rfl, hoy, hso, hb10⟩; refine ⟨_, rfl, ?_⟩; have hb10w : Below w9.heap.size w9 w10 := ⟨hb10.os, hb10.tape, hb10.output, hb10.size, hb10.block⟩; have z10 := hb10w.size; have HX1' := Lib.hid (HX1.out.below hb10w HX1.out.lt); have r0 := HX1'.out.cell0; have r1 := HX1'.out.cell1; have r2 := HX1'.out.frozen 0; have r3 := HX1'.out.frozen 1; have r4 := HX1'.out.lt; have s2 := (HX3.out.below hb10w HX3.out.lt).cell0; have s3 := (HX3.out.below hb10w HX3.out.lt).cell1; have Hoa' := Lib.hid (Hob9.out.below hb10w); have Hoy : Hid (Own w10 w9.heap.size A10 (n2 + nb) c10 ys) := Lib.hid hoy; have Hso := Lib.hid hso; have Hb10 := Lib.hid (Hb9.out.trans (hb10w.mono (by have := Hb9.out.size; omega))); clear hoy hso hb10 hb10w))
          all_goals go_wp2_with fail
          all_goals
            have k0 := (HX1'.out.set0 s).cell0
            have k1 := ((HX1'.out.set0 s).set1 (.slice Aa n ca)).cell1
            refine bodyPost_ret (v := .tuple #[.agg #[.int .i64 s, .slice Aa n ca], .slice A10 (n2 + nb) c10, .bool true]) (by simp [results, Tryd.results39, go_sem, k0, k1]) rfl ?_
            have ho3 := (Hoa'.out.far ⟨w.heap.size + 1, 0, none⟩ (fun g hA => by have := (Hoa'.out.ge hA).1; show g ≠ w.heap.size + 1; omega) (.int .i64 s)).far ⟨w.heap.size + 1, 1, none⟩ (fun g hA => by have := (Hoa'.out.ge hA).1; show g ≠ w.heap.size + 1; omega) (.slice Aa n ca)
            have hg3 := (Hoy.out.far ⟨w.heap.size + 1, 0, none⟩ (fun g hA => by have := (Hoy.out.ge hA).1; have := Hb9.out.size; show g ≠ w.heap.size + 1; omega) (.int .i64 s)).far ⟨w.heap.size + 1, 1, none⟩ (fun g hA => by have := (Hoy.out.ge hA).1; have := Hb9.out.size; show g ≠ w.heap.size + 1; omega) (.slice Aa n ca)
            have hb3 := (Hb10.out.setCell (p := ⟨w.heap.size + 1, 0, none⟩) (by show w.heap.size ≤ w.heap.size + 1; omega) (.int .i64 s)).setCell (p := ⟨w.heap.size + 1, 1, none⟩) (by show w.heap.size ≤ w.heap.size + 1; omega) (.slice Aa n ca)
            exact .inr ⟨_, _, _, _, _, _, _, .both S os S2 os2 ys (n2 + nb) Hu0.out Hri.out Hno.out rfl Hri2.out Hso.out Hlen.out, rfl, ho3.weaken (by omega), hg3.weaken (by have := Hb9.out.size; omega), hb3⟩
      · have Hno : Hid (¬ NoLib s n os p) := Lib.hid (fun h => hm0 (by rw [← Hm5.out]; exact Hiff.out.2 h))
        have K0 := Lib.hid ((X1.out.set0 s).cell0)
        have K1 := Lib.hid (((X1.out.set0 s).set1 (.slice A1 n c1)).cell1)
        have Hb3 := Lib.hid ((Hb.out.setCell (p := ⟨w.heap.size + 1, 0, none⟩) (by show w.heap.size ≤ w.heap.size + 1; omega) (.int .i64 s)).setCell (p := ⟨w.heap.size + 1, 1, none⟩) (by show w.heap.size ≤ w.heap.size + 1; omega) (.slice A1 n c1))
        have Ho3 := Lib.hid ((Ho.out.far ⟨w.heap.size + 1, 0, none⟩ (fun g hA => by have := (Ho.out.ge hA).1; show g ≠ w.heap.size + 1; omega) (.int .i64 s)).far ⟨w.heap.size + 1, 1, none⟩ (fun g hA => by have := (Ho.out.ge hA).1; show g ≠ w.heap.size + 1; omega) (.slice A1 n c1))
        have Hg3 := Lib.hid ((Hg.out.far ⟨w.heap.size + 1, 0, none⟩ (fun g hA => by have := (Hg.out.ge hA).1; show g ≠ w.heap.size + 1; omega) (.int .i64 s)).far ⟨w.heap.size + 1, 1, none⟩ (fun g hA => by have := (Hg.out.ge hA).1; show g ≠ w.heap.size + 1; omega) (.slice A1 n c1))
        go_wp2_with fail
        have k0 := K0.out
        have k1 := K1.out
        refine bodyPost_ret (v := .tuple #[.agg #[.int .i64 s, .slice A1 n c1], .slice A2 n2 c2, .bool true]) (by simp [results, Tryd.results39, go_sem, k0, k1]) rfl ?_
        exact .inr ⟨_, _, _, _, _, _, _, .lives S os Hu0.out Hri.out Hno.out, rfl, Ho3.out.weaken (by omega), Hg3.out.weaken (by omega), Hb3.out⟩
  · have hbx : (u != 0) = true := by simpa using hu0
    have Hu0 : Hid (cs.getD p 0 ≠ 0) := Lib.hid (by rw [Hu.out]; exact hu0)
    clear hu0
    go_enter Tryd.func39, Tryd.ntmps39
    go_wp2_with fail
    have k0 := X1.out.cell0
    have k1 := X1.out.cell1
    refine bodyPost_ret (v := .tuple #[.agg #[.int .i64 0, .slice none 0 0], .slice none 0 0, .bool false]) (by simp [results, Tryd.results39, go_sem]) rfl ?_
    exact .inl ⟨.taken Hu0.out, rfl, Hb.out⟩
end Go.Proofs.YteldfjibmaigiaaDoor

namespace Go.Proofs.YteldfjibmaigiaaDoor
set_option maxRecDepth 100000
open Go.RowKit

theorem s_vcolor (x : Int) (w : World) : Calls Tryd.prog 37 #[.int .i64 x] w fun e w' => e = .returned (.bool (decide (1 ≤ x) && decide (x ≤ 2))) ∧ w = w' := by
  go_enter Tryd.func37, Tryd.ntmps37
  go_wp2_with fail
  refine (s_range _ _ _ _).mono ?_
  rintro e w' ⟨rfl, rfl⟩
  go_wp2_with fail
  go_ret
  exact ⟨rfl, rfl⟩

set_option maxRecDepth 100000 in
set_option maxHeartbeats 4000000 in
theorem s_PlayStone (s x : Int) (p : Nat) (su : Bool) (w : World) (B : Nat) (A : Option Addr) (n c : Nat) (cs : List Int) (h : Ints w B A n cs) (hB : B ≤ w.heap.size) (hv : Bd.okB s cs = true) (hp : p < n) (x1 : 1 ≤ x) (x2 : x ≤ 2) :
    Calls Tryd.prog 8 #[.agg #[.int .i64 s, .slice A n c], .int .i64 x, .int .i64 p, .bool su] w fun e w' => PlayedP s n (Plays s n cs x p su) w e w' := by
  obtain ⟨q1, q2, q3, _⟩ := (Bd.okB_iff s cs).1 hv
  have q4 := Pt.sq_bd s q1 q2
  have hl := h.1
  have hn : (n : Int) = s * s := by omega
  have hn49 : n ≤ 49 := by omega
  have e1 : (w.alloc (.cells #[.int .i64 s, .slice A n c] 25)).heap.size = w.heap.size + 1 := by simp
  have x0 := (Bx.new 25 w s (.slice A n c)).alloc (.cells #[.int .i64 0, .slice none 0 0] 25)
  have xx := Bx.new 25 (w.alloc (.cells #[.int .i64 s, .slice A n c] 25)) 0 (.slice none 0 0)
  rw [e1] at xx
  have hb2 : Below w.heap.size w ((w.alloc (.cells #[.int .i64 s, .slice A n c] 25)).alloc (.cells #[.int .i64 0, .slice none 0 0] 25)) := ((Below.refl _ _).alloc (Nat.le_refl _) _).alloc (by simp) _
  have H := Lib.hid (h.below hb2 hB)
  have X0 := Lib.hid x0
  have X1 := Lib.hid xx
  have Hb := Lib.hid hb2
  have Hn := Lib.hid hn
  have hpp : (decide (0 ≤ (p : Int)) && decide ((p : Int) < s * s)) = true := by simp; omega
  have hxx : (decide (1 ≤ x) && decide (x ≤ 2)) = true := by simp; omega
  clear e1 x0 xx hb2 h hn hl q3
  go_enter Tryd.func8, Tryd.ntmps8
  go_wp2_with fail
  refine (s_validBoard _ _ _ _ _ _ _ H.out (by simp; omega) (by omega)).mono ?_
  rintro e y2 ⟨rfl, hb⟩
  rw [hv]
  have X0 := Lib.hid (X0.out.below hb X0.out.lt)
  have X1 := Lib.hid (X1.out.below hb X1.out.lt)
  have H := Lib.hid (H.out.below hb (by simp; omega))
  have Hb := Lib.hid (Hb.out.trans (hb.mono (by simp; omega)))
  clear hb hv
  have z2 := X1.out.lt
  have u00 := X0.out.cell0
  have u01 := X0.out.cell1
  have u02 := X0.out.lt
  go_wp2_with fail
  refine (s_vcolor _ _).mono ?_
  rintro e w' ⟨rfl, rfl⟩
  rw [hxx]
  go_wp2_with fail
  refine (s_vpoint _ _ _ q1 q2).mono ?_
  rintro e w' ⟨rfl, rfl⟩
  rw [hpp]
  clear hpp hxx
  go_wp2_with fail
  refine (s_play s x p su _ B _ n _ cs H.out (by omega) q1 q2 Hn.out hp x1 x2).mono ?_
  rintro e y (⟨h0, rfl, hb⟩ | ⟨os, gs, A1, c1, A2, n2, c2, hR, rfl, ho, hg, hb⟩)
  · have X1 := X1.out.below hb X1.out.lt
    have Hb := Lib.hid (Hb.out.trans (hb.mono (by omega)))
    have H0 := Lib.hid h0
    clear hb u00 u01 h0
    have c0 := X1.cell0
    have c1 := X1.cell1
    have f0 := X1.frozen 0
    have f1 := X1.frozen 1
    have l1 := X1.lt
    have K0 := Lib.hid ((X1.set0 0).cell0)
    have K1 := Lib.hid (((X1.set0 0).set1 (.slice none 0 0)).cell1)
    have Hb3 := Lib.hid ((Hb.out.setCell (p := ⟨w.heap.size + 1, 0, none⟩) (by show w.heap.size ≤ w.heap.size + 1; omega) (.int .i64 0)).setCell (p := ⟨w.heap.size + 1, 1, none⟩) (by show w.heap.size ≤ w.heap.size + 1; omega) (.slice none 0 0))
    clear X1
    go_wp2_with fail
    have k0 := K0.out
    have k1 := K1.out
    refine bodyPost_ret (v := .tuple #[.agg #[.int .i64 0, .slice none 0 0], .slice none 0 0, .bool false]) (by simp [results, Tryd.results8, go_sem, k0, k1]) rfl ?_
    exact .inl ⟨H0.out, rfl, Hb3.out⟩
  · have X1 := X1.out.below hb X1.out.lt
    have Hb := Lib.hid (Hb.out.trans (hb.mono (by omega)))
    have Hr := Lib.hid hR
    have Ho2 := Lib.hid ((ho.far ⟨w.heap.size + 1, 0, none⟩ (fun g hA => by have := (ho.ge hA).1; show g ≠ w.heap.size + 1; omega) (.int .i64 s)).far ⟨w.heap.size + 1, 1, none⟩ (fun g hA => by have := (ho.ge hA).1; show g ≠ w.heap.size + 1; omega) (.slice A1 n c1))
    have Hg2 := Lib.hid ((hg.far ⟨w.heap.size + 1, 0, none⟩ (fun g hA => by have := (hg.ge hA).1; show g ≠ w.heap.size + 1; omega) (.int .i64 s)).far ⟨w.heap.size + 1, 1, none⟩ (fun g hA => by have := (hg.ge hA).1; show g ≠ w.heap.size + 1; omega) (.slice A1 n c1))
    clear hb u00 u01 hR ho hg
    have c0 := X1.cell0
    have c1' := X1.cell1
    have f0 := X1.frozen 0
    have f1 := X1.frozen 1
    have l1 := X1.lt
    have K0 := Lib.hid ((X1.set0 s).cell0)
    have K1 := Lib.hid (((X1.set0 s).set1 (.slice A1 n c1)).cell1)
    have Hb3 := Lib.hid ((Hb.out.setCell (p := ⟨w.heap.size + 1, 0, none⟩) (by show w.heap.size ≤ w.heap.size + 1; omega) (.int .i64 s)).setCell (p := ⟨w.heap.size + 1, 1, none⟩) (by show w.heap.size ≤ w.heap.size + 1; omega) (.slice A1 n c1))
    clear X1
    go_wp2_with fail
    have k0 := K0.out
    have k1 := K1.out
    refine bodyPost_ret (v := .tuple #[.agg #[.int .i64 s, .slice A1 n c1], .slice A2 n2 c2, .bool true]) (by simp [results, Tryd.results8, go_sem, k0, k1]) rfl ?_
    exact .inr ⟨_, _, _, _, _, _, _, Hr.out, rfl, Ho2.out.weaken (by omega), Hg2.out.weaken (by omega), Hb3.out⟩

/-- The same in one form: what a drawn board wants of it. -/
theorem s_PlayStone1 (s x : Int) (p : Nat) (su : Bool) (w : World) (B : Nat) (A : Option Addr) (n c : Nat) (cs : List Int) (h : Ints w B A n cs) (hB : B ≤ w.heap.size) (hv : Bd.okB s cs = true) (hp : p < n) (x1 : 1 ≤ x) (x2 : x ≤ 2) :
    Calls Tryd.prog 8 #[.agg #[.int .i64 s, .slice A n c], .int .i64 x, .int .i64 p, .bool su] w fun e w' => ∃ (s' : Int) (A' : Option Addr) (n' c' : Nat) (A2 : Option Addr) (n2 c2 : Nat) (cs' : List Int) (ok : Bool), e = .returned (.tuple #[.agg #[.int .i64 s', .slice A' n' c'], .slice A2 n2 c2, .bool ok]) ∧
      (ok = true → s' = s ∧ n' = n ∧ Own w' w.heap.size A' n' c' cs' ∧ OkL cs') ∧ Below w.heap.size w w' := by
  have hl := h.1
  have hok : OkL cs := okL_mem.2 ((Bd.okB_iff s cs).1 hv).2.2.2
  refine (s_PlayStone s x p su w B A n c cs h hB hv hp x1 x2).mono ?_
  rintro e y (⟨h0, rfl, hb⟩ | ⟨os, gs, A1, c1, A2, n2, c2, hR, rfl, ho, hg, hb⟩)
  · exact ⟨_, _, _, _, _, _, _, [], _, rfl, fun h => (by cases h), hb⟩
  · exact ⟨_, _, _, _, _, _, _, os, _, rfl, fun _ => ⟨rfl, rfl, ho, (hR.ok hl hok x1 x2).2.1⟩, hb⟩
end Go.Proofs.YteldfjibmaigiaaDoor

namespace Go.Proofs.YteldfjibmaigiaaDoor
set_option maxRecDepth 100000
open Go.RowKit

/-- The model's answer in memory. -/
def AnswS (s : Int) (n : Nat) (R : Option (List Int × List Int)) (w : World) (e : Ending) (w' : World) : Prop :=
  (R = none ∧ e = .returned (.tuple #[.agg #[.int .i64 0, .slice none 0 0], .slice none 0 0, .bool false]) ∧ Below w.heap.size w w') ∨
  ∃ os gs A1 c1 A2 n2 c2, R = some (os, gs) ∧ e = .returned (.tuple #[.agg #[.int .i64 s, .slice A1 n c1], .slice A2 n2 c2, .bool true]) ∧ Own w' w.heap.size A1 n c1 os ∧ Own w' w.heap.size A2 n2 c2 gs ∧ Below w.heap.size w w'

section
variable (s x p : Int) (su : Bool) (w : World) (B : Nat) (A : Option Addr) (n c : Nat) (cs : List Int) (R : Option (List Int × List Int)) (h : Ints w B A n cs) (hB : B ≤ w.heap.size) (hn : n ≤ 1000000000) (hR : PlB s n cs x p su R)
include h hB hn hR

set_option maxRecDepth 100000 in
set_option maxHeartbeats 8000000 in
theorem s_PlayB : Calls Tryd.prog 8 #[.agg #[.int .i64 s, .slice A n c], .int .i64 x, .int .i64 p, .bool su] w (AnswS s n R w) := by
  have hl := h.1
  obtain ⟨b1, r1⟩ : ∃ b, Bd.okB s cs = b := ⟨_, rfl⟩
  obtain ⟨b2, r2⟩ : ∃ b, (decide (1 ≤ x) && decide (x ≤ 2)) = b := ⟨_, rfl⟩
  obtain ⟨b3, r3⟩ : ∃ b, Pt.okP s p = b := ⟨_, rfl⟩
  have He1 := Lib.hid r1
  have He2 := Lib.hid r2
  have He3 := Lib.hid r3
  have e1 : (w.alloc (.cells #[.int .i64 s, .slice A n c] 25)).heap.size = w.heap.size + 1 := by simp
  have x0 := (Bx.new 25 w s (.slice A n c)).alloc (.cells #[.int .i64 0, .slice none 0 0] 25)
  have xx := Bx.new 25 (w.alloc (.cells #[.int .i64 s, .slice A n c] 25)) 0 (.slice none 0 0)
  rw [e1] at xx
  have hb2 : Below w.heap.size w ((w.alloc (.cells #[.int .i64 s, .slice A n c] 25)).alloc (.cells #[.int .i64 0, .slice none 0 0] 25)) := ((Below.refl _ _).alloc (Nat.le_refl _) _).alloc (by simp) _
  have H := Lib.hid (h.below hb2 hB)
  have X0 := Lib.hid x0
  have X1 := Lib.hid xx
  have Hb := Lib.hid hb2
  clear e1 x0 xx hb2
  cases b1
  · have HR : Hid (R = none) := Lib.hid (by unfold PlB at hR; rw [if_neg (by rintro ⟨h, _⟩; rw [r1] at h; cases h)] at hR; exact hR)
    clear hR r1 r2 r3 hl h
    go_enter Tryd.func8, Tryd.ntmps8
    go_wp2_with fail
    refine (s_validBoard _ _ _ _ _ _ _ H.out (by simp; omega) hn).mono ?_
    rintro e y ⟨rfl, hb⟩
    have X0 := Lib.hid (X0.out.below hb X0.out.lt)
    have X1 := Lib.hid (X1.out.below hb X1.out.lt)
    have H := Lib.hid (H.out.below hb (by simp; omega))
    have Hb := Lib.hid (Hb.out.trans (hb.mono (by simp; omega)))
    clear hb
    rw [He1.out]
    have c0 := X1.out.cell0
    have c1 := X1.out.cell1
    have f0 := X1.out.frozen 0
    have f1 := X1.out.frozen 1
    have l1 := X1.out.lt
    have K0 := Lib.hid ((X1.out.set0 0).cell0)
    have K1 := Lib.hid (((X1.out.set0 0).set1 (.slice none 0 0)).cell1)
    have Hb3 := Lib.hid ((Hb.out.setCell (p := ⟨w.heap.size + 1, 0, none⟩) (by show w.heap.size ≤ w.heap.size + 1; omega) (.int .i64 0)).setCell (p := ⟨w.heap.size + 1, 1, none⟩) (by show w.heap.size ≤ w.heap.size + 1; omega) (.slice none 0 0))
    clear X1
    go_wp2_with fail
    have k0 := K0.out
    have k1 := K1.out
    refine bodyPost_ret (v := .tuple #[.agg #[.int .i64 0, .slice none 0 0], .slice none 0 0, .bool false]) (by simp [results, Tryd.results8, go_sem, k0, k1]) rfl ?_
    exact .inl ⟨by first | exact HR.out | rfl, rfl, Hb3.out⟩
  · cases b2
    · have HR : Hid (R = none) := Lib.hid (by unfold PlB at hR; rw [if_neg (by rintro ⟨_, ⟨h1, h2⟩, _⟩; rw [decide_eq_true h1, decide_eq_true h2] at r2; cases r2)] at hR; exact hR)
      clear hR r1 r2 r3 hl h
      go_enter Tryd.func8, Tryd.ntmps8
      go_wp2_with fail
      refine (s_validBoard _ _ _ _ _ _ _ H.out (by simp; omega) hn).mono ?_
      rintro e y ⟨rfl, hb⟩
      have X0 := Lib.hid (X0.out.below hb X0.out.lt)
      have X1 := Lib.hid (X1.out.below hb X1.out.lt)
      have H := Lib.hid (H.out.below hb (by simp; omega))
      have Hb := Lib.hid (Hb.out.trans (hb.mono (by simp; omega)))
      clear hb
      rw [He1.out]
      have v0 := X0.out.cell0
      have v1 := X0.out.cell1
      have v2 := X0.out.lt
      go_wp2_with fail
      refine (s_vcolor _ _).mono ?_
      rintro e w' ⟨rfl, rfl⟩
      rw [He2.out]
      clear v0 v1 v2
      have c0 := X1.out.cell0
      have c1 := X1.out.cell1
      have f0 := X1.out.frozen 0
      have f1 := X1.out.frozen 1
      have l1 := X1.out.lt
      have K0 := Lib.hid ((X1.out.set0 0).cell0)
      have K1 := Lib.hid (((X1.out.set0 0).set1 (.slice none 0 0)).cell1)
      have Hb3 := Lib.hid ((Hb.out.setCell (p := ⟨w.heap.size + 1, 0, none⟩) (by show w.heap.size ≤ w.heap.size + 1; omega) (.int .i64 0)).setCell (p := ⟨w.heap.size + 1, 1, none⟩) (by show w.heap.size ≤ w.heap.size + 1; omega) (.slice none 0 0))
      clear X1
      go_wp2_with fail
      have k0 := K0.out
      have k1 := K1.out
      refine bodyPost_ret (v := .tuple #[.agg #[.int .i64 0, .slice none 0 0], .slice none 0 0, .bool false]) (by simp [results, Tryd.results8, go_sem, k0, k1]) rfl ?_
      exact .inl ⟨by first | exact HR.out | rfl, rfl, Hb3.out⟩
    · cases b3
      · have HR : Hid (R = none) := Lib.hid (by unfold PlB at hR; rw [if_neg (by rintro ⟨_, _, h⟩; rw [r3] at h; cases h)] at hR; exact hR)
        obtain ⟨q1, q2, _, _⟩ := (Bd.okB_iff s cs).1 r1
        clear hR r1 r2 r3 hl h
        go_enter Tryd.func8, Tryd.ntmps8
        go_wp2_with fail
        refine (s_validBoard _ _ _ _ _ _ _ H.out (by simp; omega) hn).mono ?_
        rintro e y ⟨rfl, hb⟩
        have X0 := Lib.hid (X0.out.below hb X0.out.lt)
        have X1 := Lib.hid (X1.out.below hb X1.out.lt)
        have H := Lib.hid (H.out.below hb (by simp; omega))
        have Hb := Lib.hid (Hb.out.trans (hb.mono (by simp; omega)))
        clear hb
        rw [He1.out]
        have v0 := X0.out.cell0
        have v1 := X0.out.cell1
        have v2 := X0.out.lt
        go_wp2_with fail
        refine (s_vcolor _ _).mono ?_
        rintro e w' ⟨rfl, rfl⟩
        rw [He2.out]
        go_wp2_with fail
        refine (s_vptB _ _ _ q1 q2).mono ?_
        rintro e w' ⟨rfl, rfl⟩
        rw [He3.out]
        clear v0 v1 v2
        have c0 := X1.out.cell0
        have c1 := X1.out.cell1
        have f0 := X1.out.frozen 0
        have f1 := X1.out.frozen 1
        have l1 := X1.out.lt
        have K0 := Lib.hid ((X1.out.set0 0).cell0)
        have K1 := Lib.hid (((X1.out.set0 0).set1 (.slice none 0 0)).cell1)
        have Hb3 := Lib.hid ((Hb.out.setCell (p := ⟨w.heap.size + 1, 0, none⟩) (by show w.heap.size ≤ w.heap.size + 1; omega) (.int .i64 0)).setCell (p := ⟨w.heap.size + 1, 1, none⟩) (by show w.heap.size ≤ w.heap.size + 1; omega) (.slice none 0 0))
        clear X1
        go_wp2_with fail
        have k0 := K0.out
        have k1 := K1.out
        refine bodyPost_ret (v := .tuple #[.agg #[.int .i64 0, .slice none 0 0], .slice none 0 0, .bool false]) (by simp [results, Tryd.results8, go_sem, k0, k1]) rfl ?_
        exact .inl ⟨by first | exact HR.out | rfl, rfl, Hb3.out⟩
      · clear H X0 X1 Hb
        rw [Bool.and_eq_true, decide_eq_true_eq, decide_eq_true_eq] at r2
        obtain ⟨x1, x2⟩ := r2
        obtain ⟨q1, q2, q3, q4⟩ := (Bd.okB_iff s cs).1 r1
        obtain ⟨_, _, p0, pn⟩ := (Pt.okP_iff s p).1 r3
        obtain ⟨q, rfl⟩ := Int.eq_ofNat_of_zero_le (show 0 ≤ p by omega)
        have hpl : Plays s n cs x q su R := by
          unfold PlB at hR
          rw [if_pos ⟨r1, ⟨x1, x2⟩, r3⟩] at hR
          exact hR
        have hqn : q < n := by omega
        refine (s_PlayStone s x q su w B A n c cs h hB r1 hqn x1 x2).mono ?_
        rintro e w' (⟨h0, rfl, hb⟩ | ⟨os, gs, A1, c1, A2, n2, c2, hR', rfl, ho, hg, hb⟩)
        · exact .inl ⟨hpl.one h0, rfl, hb⟩
        · exact .inr ⟨os, gs, A1, c1, A2, n2, c2, hpl.one hR', rfl, ho, hg, hb⟩
end
end Go.Proofs.YteldfjibmaigiaaDoor

namespace Go.Proofs.YteldfjibmaigiaaDoor
set_option maxRecDepth 100000
open Go.RowKit

def vS (s : Int) (R : Option (List Int × List Int)) : Int := if R.isSome then s else 0
def vC (R : Option (List Int × List Int)) : List Int := (R.map (·.1)).getD []
def vG (R : Option (List Int × List Int)) : List Int := (R.map (·.2)).getD []

/-- The parts of an answer. -/
structure View (s : Int) (R : Option (List Int × List Int)) (rs : Int) (rc rg : List Int) (ok : Bool) : Prop where
  s : vS s R = rs
  c : vC R = rc
  g : vG R = rg
  o : R.isSome = ok

section
variable (s x p : Int) (su : Bool) (w : World) (B : Nat) (A : Option Addr) (n c : Nat) (cs : List Int) (R : Option (List Int × List Int)) (rs : Int) (rc rg : List Int) (ok : Bool) (h : Ints w B A n cs) (hB : B ≤ w.heap.size) (hn : n ≤ 1000000000) (hR : Hid (PlB s n cs x p su R)) (hV : Hid (View s R rs rc rg ok))
include h hB hn hR hV

theorem s_PlV : Calls Tryd.prog 8 #[.agg #[.int .i64 s, .slice A n c], .int .i64 x, .int .i64 p, .bool su] w fun e w' => ∃ A1 n1 c1 A2 n2 c2, e = .returned (.tuple #[.agg #[.int .i64 rs, .slice A1 n1 c1], .slice A2 n2 c2, .bool ok]) ∧ (Own w' w.heap.size A1 n1 c1 rc ∧ Own w' w.heap.size A2 n2 c2 rg) ∧ Below w.heap.size w w' := by
  obtain ⟨rfl, rfl, rfl, rfl⟩ := hV.out
  refine (s_PlayB s x p su w B A n c cs R h hB hn hR.out).mono ?_
  rintro e w' (⟨rfl, rfl, hb⟩ | ⟨os, gs, A1, c1, A2, n2, c2, rfl, rfl, ho, hg, hb⟩)
  · exact ⟨none, 0, 0, none, 0, 0, rfl, ⟨Own.nil _ _, Own.nil _ _⟩, hb⟩
  · exact ⟨_, _, _, _, _, _, rfl, ⟨ho, hg⟩, hb⟩
theorem i_PlV (ht : Tab w) (he : ErrW w) : Calls Tryd.prog 7 #[.agg #[.int .i64 s, .slice A n c], .int .i64 x, .int .i64 p, .bool su] w fun e w' => ∃ A1 n1 c1 A2 n2 c2 mid, e = .returned (.tuple #[.agg #[.int .i64 rs, .slice A1 n1 c1], .slice A2 n2 c2, .bool ok]) ∧ Own w' w.heap.size A1 n1 c1 rc ∧ (∀ g, A1 = some ⟨g, 0, none⟩ → g < mid) ∧ Own w' mid A2 n2 c2 rg ∧ w.heap.size ≤ mid ∧ mid ≤ w'.heap.size ∧ Below w.heap.size w w' := by
  obtain ⟨rfl, rfl, rfl, rfl⟩ := hV.out
  refine (i_PlayB s x p su w B A n c cs R h hB hn ht he hR.out).mono ?_
  rintro e w' (⟨rfl, rfl, hb⟩ | ⟨os, gs, A1, c1, A2, n2, c2, mid, rfl, rfl, ho, hlt, hg, h1, h2, hb⟩)
  · exact ⟨none, 0, 0, none, 0, 0, w.heap.size, rfl, Own.nil _ _, (fun g e => by cases e), Own.nil _ _, Nat.le_refl _, hb.size, hb⟩
  · exact ⟨_, _, _, _, _, _, mid, rfl, ho, hlt, hg, h1, h2, hb⟩
end

theorem Plays.len {s x : Int} {n p : Nat} {cs : List Int} {su : Bool} {os gs : List Int} (h : Plays s n cs x p su (some (os, gs))) : os.length = n ∧ gs.length ≤ n + n := by
  have pl : ∀ S : List Bool, (Fl.pts S n).length ≤ n := fun S => by
    unfold Fl.pts
    rw [List.length_map]
    exact Nat.le_trans (List.length_filter_le _ _) (by simp)
  cases h with
  | lives S _ _ hr _ => exact ⟨hr.olen, by have := pl S; omega⟩
  | both S os1 S2 _ _ k _ hr _ _ hr2 hso hk =>
    refine ⟨hr2.olen, ?_⟩
    have := hso.len
    rw [List.length_append] at this
    have := pl S
    have := pl S2
    omega
theorem PlB.len {s x p : Int} {n : Nat} {cs : List Int} {su : Bool} {R : Option (List Int × List Int)} (h : PlB s n cs x p su R) (hn : n ≤ 1048576) : (vC R).length ≤ 1048576 ∧ (vG R).length ≤ 2097152 := by
  cases R with
  | none => exact ⟨by simp [vC], by simp [vG]⟩
  | some r =>
    obtain ⟨os, gs⟩ := r
    unfold PlB at h
    split at h
    · have := h.len
      exact ⟨by show os.length ≤ _; omega, by show gs.length ≤ _; omega⟩
    · cases h
end Go.Proofs.YteldfjibmaigiaaDoor

namespace Go.Proofs.YteldfjibmaigiaaDoor
set_option maxRecDepth 100000
open Go.RowKit

theorem Hb.pin {S : List Bool} {n q : Nat} (hq : q < n) : (q : Int) ∈ Fl.pts S n ↔ S.getD q false = true := by
  rw [pts_mem]
  unfold Fl.at_
  constructor
  · rintro ⟨_, _, h⟩; simpa using h
  · intro h; exact ⟨by omega, by omega, by simpa using h⟩
theorem Hb.sat {cs : List Int} {n p q : Nat} {x : Int} (hl : cs.length = n) (hp : p < n) : (cs.set p x).getD q 0 = if q = p then x else cs.getD q 0 := Un.getD_set _ _ _ _ (by omega)
theorem Hb.out {s x : Int} {n p : Nat} {cs : List Int} {su : Bool} {os gs : List Int} (h : Plays s n cs x p su (some (os, gs))) {q : Nat} (hq : q < n) :
    os.getD q 0 = if (q : Int) ∈ gs then 0 else (cs.set p x).getD q 0 := by
  cases h with
  | lives S _ h0 hr _ =>
    rw [hr.out q hq]
    by_cases e : S.getD q false = true
    · rw [if_pos e, if_pos ((Hb.pin hq).2 e)]
    · rw [if_neg e, if_neg fun h => e ((Hb.pin hq).1 h)]
  | both S os1 S2 _ _ j h0 hr _ hs hr2 hso hk =>
    have hm : (q : Int) ∈ gs ↔ S.getD q false = true ∨ S2.getD q false = true := by
      rw [hso.perm.mem_iff, List.mem_append, Hb.pin hq, Hb.pin hq]
    rw [hr2.out q hq, hr.out q hq]
    by_cases e2 : S2.getD q false = true
    · rw [if_pos e2, if_pos (hm.2 (.inr e2))]
    · rw [if_neg e2]
      by_cases e : S.getD q false = true
      · rw [if_pos e, if_pos (hm.2 (.inl e))]
      · rw [if_neg e, if_neg fun h => (hm.1 h).elim e e2]
/-- Only stones are removed. -/
theorem Hb.on {s x : Int} {n p : Nat} {cs : List Int} {su : Bool} {os gs : List Int} (h : Plays s n cs x p su (some (os, gs))) (x1 : 1 ≤ x) (x2 : x ≤ 2) {y : Int} (hy : y ∈ gs) : ∃ q : Nat, y = q ∧ q < n ∧ (cs.set p x).getD q 0 ≠ 0 := by
  have ho : oth x ≠ 0 := by
    have : x = 1 ∨ x = 2 := by omega
    rcases this with rfl | rfl <;> decide
  have nat : ∀ S : List Bool, y ∈ Fl.pts S n → ∃ q : Nat, y = q ∧ q < n ∧ S.getD q false = true := fun S h => by
    have h' := h
    rw [pts_mem] at h
    obtain ⟨h1, h2, _⟩ := h
    obtain ⟨q, rfl⟩ := Int.eq_ofNat_of_zero_le h1
    exact ⟨q, rfl, by omega, (Hb.pin (by omega)).1 h'⟩
  cases h with
  | lives S _ h0 hr _ =>
    obtain ⟨q, rfl, hq, hS⟩ := nat S hy
    have := ((hr.yes q hq).1 hS).2.1
    exact ⟨q, rfl, hq, by rw [this]; exact ho⟩
  | both S os1 S2 _ _ j h0 hr _ hs hr2 hso hk =>
    rw [hso.perm.mem_iff, List.mem_append] at hy
    rcases hy with hy | hy
    · obtain ⟨q, rfl, hq, hS⟩ := nat S hy
      have := ((hr.yes q hq).1 hS).2.1
      exact ⟨q, rfl, hq, by rw [this]; exact ho⟩
    · obtain ⟨q, rfl, hq, hS⟩ := nat S2 hy
      have e1 := ((hr2.yes q hq).1 hS).2.1
      have e2 := hr.out q hq
      refine ⟨q, rfl, hq, ?_⟩
      split at e2
      · omega
      · omega
/-- What is removed is a set. -/
theorem Hb.set {k n p : Nat} {x : Int} {cs : List Int} {su : Bool} {os gs : List Int} (h : Plays (k : Int) n cs x p su (some (os, gs))) (x1 : 1 ≤ x) (x2 : x ≤ 2) : ∃ m, gs = Bt.pts m n := by
  have ho : oth x ≠ 0 := by
    have : x = 1 ∨ x = 2 := by omega
    rcases this with rfl | rfl <;> decide
  have hxo := oth_ne x1 x2
  cases h with
  | lives S _ h0 hr _ =>
    obtain ⟨m, hm⟩ := nl_make hr
    exact ⟨m, (hm.pts hr).symm⟩
  | both S os1 S2 _ _ j h0 hr _ hs hr2 hso hk =>
    obtain ⟨m, hm⟩ := nl_make hr
    obtain ⟨m2, hm2⟩ := nl_make hr2
    rw [← hm.pts hr, ← hm2.pts hr2] at hso hk
    refine ⟨m ||| m2, Gw.both (fun q hq a b => ?_) hso hk⟩
    have e1 := hr.out q hq
    rw [← hm.marks hr q hq, a, if_pos rfl] at e1
    have e2 := ((hm2 q).1 b).2.1
    rw [e1] at e2
    omega
theorem Hb.once {k n p : Nat} {x : Int} {cs : List Int} {su : Bool} {os gs : List Int} (h : Plays (k : Int) n cs x p su (some (os, gs))) (x1 : 1 ≤ x) (x2 : x ≤ 2) : ∀ i j, i < j → j < gs.length → gs.getD i 0 ≠ gs.getD j 0 := by
  obtain ⟨m, rfl⟩ := Hb.set h x1 x2
  intro i j hij hj
  have := List.pairwise_iff_getElem.1 (Gw.pts_pair m n) i j (by omega) hj hij
  rw [List.getD_eq_getElem?_getD, List.getD_eq_getElem?_getD, List.getElem?_eq_getElem hj, List.getElem?_eq_getElem (show i < (Bt.pts m n).length by omega)]
  simp only [Option.getD_some]
  omega
theorem Hb.olen {s x : Int} {n p : Nat} {cs : List Int} {su : Bool} {os gs : List Int} (h : Plays s n cs x p su (some (os, gs))) : os.length = n := by
  cases h with
  | lives S _ h0 hr _ => exact hr.olen
  | both S os1 S2 _ _ j h0 hr _ hs hr2 hso hk => exact hr2.olen
theorem Hb.free {s x : Int} {n p : Nat} {cs : List Int} {su : Bool} {r : List Int × List Int} (h : Plays s n cs x p su (some r)) : cs.getD p 0 = 0 := by
  cases h with
  | lives S _ h0 hr _ => exact h0
  | both S os1 S2 _ _ j h0 hr _ hs hr2 hso hk => exact h0
theorem Hb.glen {k n p : Nat} {x : Int} {cs : List Int} {su : Bool} {os gs : List Int} (h : Plays (k : Int) n cs x p su (some (os, gs))) (x1 : 1 ≤ x) (x2 : x ≤ 2) : gs.length ≤ n := by
  obtain ⟨m, rfl⟩ := Hb.set h x1 x2
  unfold Bt.pts
  rw [List.length_map]
  exact Nat.le_trans (List.length_filter_le _ _) (by simp)
theorem Hb.at_ {s x : Int} {n p : Nat} {cs : List Int} {su : Bool} {os gs : List Int} (h : Plays s n cs x p su (some (os, gs))) (x1 : 1 ≤ x) (x2 : x ≤ 2) {i : Nat} (hi : i < gs.length) : 0 ≤ gs.getD i 0 ∧ gs.getD i 0 < n ∧ (cs.set p x).getD (gs.getD i 0).toNat 0 ≠ 0 := by
  have hm : gs.getD i 0 ∈ gs := by
    rw [List.getD_eq_getElem?_getD, List.getElem?_eq_getElem hi]
    exact List.getElem_mem _
  obtain ⟨q, e, hq, h0⟩ := Hb.on h x1 x2 hm
  rw [e]
  exact ⟨by omega, by omega, by rw [Int.toNat_natCast]; exact h0⟩
theorem Hb.hash {k n p : Nat} {x : Int} {cs : List Int} {su : Bool} {os gs : List Int} (h : Plays (k : Int) n cs x p su (some (os, gs))) (hl : cs.length = n) (hn : n ≤ 49) (hv : ∀ c ∈ cs, 0 ≤ c ∧ c ≤ 2) (hp : p < n) (x1 : 1 ≤ x) (x2 : x ≤ 2) :
    Ha.rm (cs.set p x) gs (Ha.xr (Ha.upto cs n) (Ky.key (p : Int) x)) gs.length = Ha.upto os n := by
  have hv2 : ∀ c ∈ cs.set p x, 0 ≤ c ∧ c ≤ 2 := by
    intro c hc
    rcases List.mem_or_eq_of_mem_set hc with h | rfl
    · exact hv c h
    · omega
  have hsl : (cs.set p x).length = n := by rw [List.length_set]; exact hl
  have e1 := Ha.off_all (ps := cs.set p x) (gs := gs) (os := os) (by rw [hsl]; exact Hb.olen h) (fun i hi => (Hb.at_ h x1 x2 hi).1) (fun j hj => Hb.out h (by omega))
  have e2 := Ha.taken (n := n) hsl hn hv2 (fun i hi => Hb.at_ h x1 x2 hi) (Hb.once h x1 x2) gs.length (Nat.le_refl _)
  rw [e1] at e2
  rw [e2, (Ha.more (cs := cs) (p := p) (c := x) (by omega) (Hb.free h) (by omega) n).2 hp]
/-- Every hash on the way is in range. -/
theorem Hb.bd {ps gs : List Int} (hv : ∀ c ∈ ps, 0 ≤ c ∧ c ≤ 2) {n : Nat} (hn : n ≤ 49) {h : Int} (h0 : 0 ≤ h) (h1 : h ≤ 1048575) (hin : ∀ i, i < gs.length → 0 ≤ gs.getD i 0 ∧ gs.getD i 0 < n ∧ ps.getD (gs.getD i 0).toNat 0 ≠ 0) : ∀ k, k ≤ gs.length → 0 ≤ Ha.rm ps gs h k ∧ Ha.rm ps gs h k ≤ 1048575
  | 0, _ => ⟨h0, h1⟩
  | k + 1, hk => by
    obtain ⟨i0, i1⟩ := Hb.bd hv hn h0 h1 hin k (by omega)
    obtain ⟨g0, g1, g2⟩ := hin k (by omega)
    have hm : ps.getD (gs.getD k 0).toNat 0 = 0 ∨ ps.getD (gs.getD k 0).toNat 0 ∈ ps := by
      by_cases hl : (gs.getD k 0).toNat < ps.length
      · right
        rw [List.getD_eq_getElem?_getD, List.getElem?_eq_getElem hl]
        exact List.getElem_mem _
      · left
        rw [List.getD_eq_getElem?_getD, List.getElem?_eq_none (by omega)]
        rfl
    have hm := hv _ (hm.resolve_left g2)
    obtain ⟨k0, k1⟩ := Ky.key_bd (p := gs.getD k 0) (c := ps.getD (gs.getD k 0).toNat 0) (Ky.ok_iff.2 (by omega))
    exact Ha.xr_bd i0 i1 k0 k1
/-- The answer. -/
def Hb.ans (n : Nat) (R : Option (List Int × List Int)) : Int := if R.isSome then Ha.upto (vC R) n else -1
end Go.Proofs.YteldfjibmaigiaaDoor

namespace Go.Proofs.YteldfjibmaigiaaDoor
set_option maxRecDepth 100000
open Go.RowKit

theorem bits_xr {a b : Int} (a0 : 0 ≤ a) (a1 : a ≤ 1048575) (b0 : 0 ≤ b) (b1 : b ≤ 1048575) : bits .xor .i64 a b = Ha.xr a b := Ha.xor_val a0 a1 b0 b1
set_option maxHeartbeats 4000000 in
theorem i_hash (s : Int) (w : World) (B : Nat) (A : Option Addr) (n c : Nat) (cs : List Int) (h : Ints w B A n cs) (hB : B ≤ w.heap.size) (hn : n ≤ 1000000000) : Calls Tryd.prog 20 #[.agg #[.int .i64 s, .slice A n c]] w fun e w' => e = .returned (.int .i64 (Ha.ans s cs)) ∧ Below w.heap.size w w' := by
  have hcl := h.1
  obtain ⟨y1, hy1, hb1, z1, z2⟩ := new_box w (.cells #[.int .i64 s, .slice A n c] 25)
  have X1 := Lib.hid (show Bx 25 y1 w.heap.size s (.slice A n c) by rw [hy1]; exact Bx.new _ _ _ _)
  have I1 := Lib.hid (h.below hb1 hB)
  have HB := Lib.hid hb1
  clear h hb1
  go_enter Tryd.func20, Tryd.ntmps20
  go_upto_region 1 with (fail)
  rw [← hy1]
  clear hy1
  have u0 := X1.out.cell0
  have u1 := X1.out.cell1
  have ul := X1.out.lt
  go_wp2_with fail
  refine (i_validBoard s _ B A n c cs I1.out (by omega) hn).mono ?_
  rintro e y2 ⟨rfl, hb2⟩
  have X1 := Lib.hid (X1.out.below hb2 ul)
  have I1 := Lib.hid (I1.out.below hb2 (by omega))
  have HB := Lib.hid (HB.out.trans (hb2.mono HB.out.size))
  have zhb2 := hb2.size
  clear hb2 u0 u1 ul
  have u0 := X1.out.cell0
  have u1 := X1.out.cell1
  have ul := X1.out.lt
  by_cases hv : Bd.okB s cs = true
  · rw [hv]
    have hf : Ha.ans s cs = Ha.upto cs n := by unfold Ha.ans; rw [if_pos hv, hcl]
    have HF := Lib.hid hf
    obtain ⟨hv1, hv2, hv3, hv4⟩ := (Bd.okB_iff s cs).1 hv
    have hsq := Pt.sq_bd s hv1 hv2
    have hn49 : n ≤ 49 := by omega
    clear hv hf hv3
    go_wp2_with fail
    obtain ⟨Y, hY⟩ : ∃ Y : World, Y = y2 := ⟨_, rfl⟩
    rw [← hY] at X1 I1 HB u0 u1 ul ⊢
    clear hY
    go_loopg [3, 12] (n + 1) (fun q va vb wr => ∃ k : Nat, k + q = n + 1 ∧ k ≤ n ∧ va = .int .i64 (Ha.upto cs k) ∧ vb = .int .i64 (k : Nat) ∧ wr = Y)
    case atStart => exact ⟨0, by omega, by omega, rfl, rfl, rfl⟩
    case round =>
      obtain ⟨k, hk, hkn, rfl, rfl, rfl⟩ := hrel
      obtain ⟨t0, t1⟩ := Ha.bd hv4 k (by omega) (by omega)
      by_cases hkk : k = n
      · subst hkk
        have hlt : ¬ ((k : Nat) : Int) < (k : Nat) := by omega
        go_wp2_with fail
        go_ret
        exact ⟨ret_int HF.out.symm, HB.out⟩
      · have hlt : ((k : Nat) : Int) < n := by omega
        have hk0 : (0 : Int) ≤ (k : Nat) := by omega
        obtain ⟨b, o, rfl, hbB, hc⟩ := I1.out.2.resolve_left (by omega)
        have ck := hc k (by omega)
        have hmem : cs.getD k 0 ∈ cs := by
          rw [List.getD_eq_getElem?_getD, List.getElem?_eq_getElem (show k < cs.length by omega)]
          exact List.getElem_mem _
        obtain ⟨x0, x2⟩ := hv4 _ hmem
        have hnx := Ha.next cs k
        obtain ⟨x, hx⟩ : ∃ x, cs.getD k 0 = x := ⟨_, rfl⟩
        obtain ⟨H, hH⟩ : ∃ H, Ha.upto cs k = H := ⟨_, rfl⟩
        rw [hx] at ck x0 x2 hnx
        rw [hH] at t0 t1 hnx ⊢
        clear hc hmem hx hH
        by_cases h0 : x = 0
        · rw [if_pos h0] at hnx
          have Hn := Lib.hid hnx
          have q0 : (x != 0) = false := by simpa using h0
          clear hnx h0
          go_wp2_with fail
          go_roundg (n - k)
          case measure => omega
          case rel => exact ⟨k + 1, by omega, by omega, by rw [Hn.out], by go_num, rfl⟩
        · rw [if_neg h0] at hnx
          have x1 : 1 ≤ x := by omega
          have hok : Ky.ok (k : Int) x = true := Ky.ok_iff.2 (by omega)
          obtain ⟨y0, y1'⟩ := Ky.key_bd hok
          have hkey : Ky.key (k : Int) x = Ky.it 4 (2 * (k : Int) + x) := by unfold Ky.key; rw [if_pos hok]
          have hxr := Ha.xr_bd t0 t1 y0 y1'
          have hval := bits_xr t0 t1 y0 y1'
          clear hkey; have hkey : True := trivial
          obtain ⟨K, hK⟩ : ∃ K, Ky.key (k : Int) x = K := ⟨_, rfl⟩
          rw [hK] at y0 y1' hxr hval hnx
          obtain ⟨V, hV⟩ : ∃ V, Ha.xr H K = V := ⟨_, rfl⟩
          rw [hV] at hxr hval hnx
          obtain ⟨v0, v1⟩ := hxr
          have Hn := Lib.hid hnx
          have HK := Lib.hid hK
          have q0 : (x != 0) = true := by simpa using h0
          clear hnx h0 hok hkey hV hK
          go_wp2_with fail
          refine (i_key (k : Nat) x _).mono ?_
          rintro e y ⟨rfl, rfl⟩
          rw [HK.out]
          go_wp2_with fail
          go_roundg (n - k)
          case measure => omega
          case rel => exact ⟨k + 1, by omega, by omega, by rw [Hn.out], by go_num, rfl⟩
  · have hv' : Bd.okB s cs = false := by simpa using hv
    have hf : Ha.ans s cs = -1 := by unfold Ha.ans; rw [if_neg hv]
    have HF := Lib.hid hf
    rw [hv']
    clear hv hv' hf
    go_wp2_with fail
    go_ret
    exact ⟨ret_int HF.out.symm, HB.out⟩
set_option maxHeartbeats 4000000 in
theorem s_hash0 (s : Int) (w : World) (B : Nat) (A : Option Addr) (n c : Nat) (cs : List Int) (h : Ints w B A n cs) (hB : B ≤ w.heap.size) (hv : Bd.okB s cs = true) : Calls Tryd.prog 46 #[.agg #[.int .i64 s, .slice A n c]] w fun e w' => e = .returned (.int .i64 (Ha.ans s cs)) ∧ Below w.heap.size w w' := by
  have hcl := h.1
  have hf : Ha.ans s cs = Ha.upto cs n := by unfold Ha.ans; rw [if_pos hv, hcl]
  have HF := Lib.hid hf
  obtain ⟨hv1, hv2, hv3, hv4⟩ := (Bd.okB_iff s cs).1 hv
  have hsq := Pt.sq_bd s hv1 hv2
  have hn49 : n ≤ 49 := by omega
  clear hv hf hv3
  obtain ⟨y1, hy1, hb1, z1, z2⟩ := new_box w (.cells #[.int .i64 s, .slice A n c] 25)
  have X1 := Lib.hid (show Bx 25 y1 w.heap.size s (.slice A n c) by rw [hy1]; exact Bx.new _ _ _ _)
  have I1 := Lib.hid (h.below hb1 hB)
  have HB := Lib.hid hb1
  clear h hb1
  go_enter Tryd.func46, Tryd.ntmps46
  go_upto_region 1 with (fail)
  rw [← hy1]
  clear hy1
  have u0 := X1.out.cell0
  have u1 := X1.out.cell1
  have ul := X1.out.lt
  go_wp2_with fail
  obtain ⟨Y, hY⟩ : ∃ Y : World, Y = y1 := ⟨_, rfl⟩
  rw [← hY] at X1 I1 HB u0 u1 ul ⊢
  clear hY
  go_loopg [3, 4] (n + 1) (fun q va vb wr => ∃ k : Nat, k + q = n + 1 ∧ k ≤ n ∧ va = .int .i64 (Ha.upto cs k) ∧ vb = .int .i64 (k : Nat) ∧ wr = Y)
  case atStart => exact ⟨0, by omega, by omega, rfl, rfl, rfl⟩
  case round =>
    obtain ⟨k, hk, hkn, rfl, rfl, rfl⟩ := hrel
    obtain ⟨t0, t1⟩ := Ha.bd hv4 k (by omega) (by omega)
    by_cases hkk : k = n
    · subst hkk
      have hlt : ¬ ((k : Nat) : Int) < (k : Nat) := by omega
      go_wp2_with fail
      go_ret
      exact ⟨ret_int HF.out.symm, HB.out⟩
    · have hlt : ((k : Nat) : Int) < n := by omega
      have hk0 : (0 : Int) ≤ (k : Nat) := by omega
      obtain ⟨b, o, rfl, hbB, hc⟩ := I1.out.2.resolve_left (by omega)
      have ck := hc k (by omega)
      have hmem : cs.getD k 0 ∈ cs := by
        rw [List.getD_eq_getElem?_getD, List.getElem?_eq_getElem (show k < cs.length by omega)]
        exact List.getElem_mem _
      obtain ⟨x0, x2⟩ := hv4 _ hmem
      have hnx := Ha.next cs k
      obtain ⟨x, hx⟩ : ∃ x, cs.getD k 0 = x := ⟨_, rfl⟩
      obtain ⟨H, hH⟩ : ∃ H, Ha.upto cs k = H := ⟨_, rfl⟩
      rw [hx] at ck x0 x2 hnx
      rw [hH] at t0 t1 hnx ⊢
      clear hc hmem hx hH
      by_cases h0 : x = 0
      · rw [if_pos h0] at hnx
        have Hn := Lib.hid hnx
        have q0 : (x != 0) = false := by simpa using h0
        clear hnx h0
        go_wp2_with fail
        go_roundg (n - k)
        case measure => omega
        case rel => exact ⟨k + 1, by omega, by omega, by rw [Hn.out], by go_num, rfl⟩
      · rw [if_neg h0] at hnx
        have x1 : 1 ≤ x := by omega
        have hok : Ky.ok (k : Int) x = true := Ky.ok_iff.2 (by omega)
        obtain ⟨y0, y1'⟩ := Ky.key_bd hok
        have hkey : Ky.key (k : Int) x = Ky.it 4 (2 * (k : Int) + x) := by unfold Ky.key; rw [if_pos hok]
        have hxr := Ha.xr_bd t0 t1 y0 y1'
        have hval := bits_xr t0 t1 y0 y1'
        rw [hkey] at y0 y1' hxr hval hnx
        obtain ⟨K, hK⟩ : ∃ K, Ky.it 4 (2 * (k : Int) + x) = K := ⟨_, rfl⟩
        rw [hK] at y0 y1' hxr hval hnx
        obtain ⟨V, hV⟩ : ∃ V, Ha.xr H K = V := ⟨_, rfl⟩
        rw [hV] at hxr hval hnx
        obtain ⟨v0, v1⟩ := hxr
        have Hn := Lib.hid hnx
        have HK := Lib.hid hK
        have q0 : (x != 0) = true := by simpa using h0
        clear hnx h0 hok hkey hV hK
        go_wp2_with fail
        refine (s_key0 (k : Nat) x _ (by omega) (by omega) (by omega) (by omega)).mono ?_
        rintro e y ⟨rfl, rfl⟩
        rw [HK.out]
        go_wp2_with fail
        go_roundg (n - k)
        case measure => omega
        case rel => exact ⟨k + 1, by omega, by omega, by rw [Hn.out], by go_num, rfl⟩
end Go.Proofs.YteldfjibmaigiaaDoor

namespace Go.Proofs.YteldfjibmaigiaaDoor
set_option maxRecDepth 100000
open Go.RowKit

def setB (s : Int) (cs : List Int) (p x : Int) : Bool := Bd.okB s cs && Pt.okP s p && Bd.okC x
def setS (s : Int) (cs : List Int) (p x : Int) : Int := if setB s cs p x then s else 0
def setCs (s : Int) (cs : List Int) (p x : Int) : List Int := if setB s cs p x then cs.set p.toNat x else []
/-- A board that the call made, and a bool. -/
def MadeB (s' : Int) (cs' : List Int) (b : Bool) (w : World) (e : Ending) (w' : World) : Prop :=
  ∃ A n c, e = .returned (.tuple #[.agg #[.int .i64 s', .slice A n c], .bool b]) ∧ Own w' w.heap.size A n c cs' ∧ Below w.heap.size w w'

end Go.Proofs.YteldfjibmaigiaaDoor

namespace Go.Proofs.YteldfjibmaigiaaDoor
set_option maxRecDepth 100000
open Go.RowKit

theorem size_int : (Tryd.prog.info? 3).map (·.size) = some 1 := by kernel_rfl

theorem copyFull {ops : Array Oper} {rest : List Oper} {o : Oper} {a : Act} {Q : Exit → Act → World → Prop} (hgd : o.guard = none) (d s : Operand)
    (ho : o.op = .call { callee := .builtin .copy, args := #[d, s], argTypes := #[23, 23] })
    (w : World) (B g n c : Nat) (ys : List Int) (B' : Nat) (A : Option Addr) (c' : Nat) (xs : List Int) (hd : a.eval d = .slice (some ⟨g, 0, none⟩) n c) (hs : a.eval s = .slice A n c')
    (hown : Own w B (some ⟨g, 0, none⟩) n c ys) (hin : Ints w B' A n xs) (hpos : 0 < n)
    (h : ∀ w', Own w' B (some ⟨g, 0, none⟩) n c xs → w.grownBy w' (some g) → wpList Tryd.prog ops Q rest (a.put o.dst (goInt n)) w') :
    wpList Tryd.prog ops Q (o :: rest) a w := by
  have hl := hin.1
  rcases hin.2 with h0 | ⟨b, off, rfl, hbB, hc⟩
  · omega
  rcases hown.2.2 with ⟨e, _⟩ | ⟨g', cap, cur, e, hb, hh, hnc, hcm, hcs, htake⟩
  · cases e
  · obtain ⟨rfl, rfl⟩ : g = g' ∧ c = cap := by
      injection e with e1 e2 e3
      injection e1 with e1
      injection e1 with e1
      exact ⟨e1, e3⟩
    have hlen : (xs.map (Value.int .i64)).length = n := by rw [List.length_map, hl]
    refine wpList_copy_own hgd d s 23 23 ho 3 Tryd.underlying23 size_int g 0 n c ⟨b, off, none⟩ n c' hd hs cur 3 hh (xs.map (Value.int .i64)) (by rw [hlen]; simp) ?_ (by rw [hlen, hcs]; omega) (ints_oneCell _ _) ?_
    · intro j u hj
      have hj' : j < xs.length := by
        rcases Nat.lt_or_ge j xs.length with h | h
        · exact h
        · rw [List.getElem?_eq_none (by rw [List.length_map]; exact h)] at hj; cases hj
      have e : (⟨b, off, none⟩ : Addr).add j = ⟨b, off + j, none⟩ := by by_cases hj0 : j = 0 <;> simp [Addr.add, hj0]
      rw [e, hc j (by omega), ← hj]
      simp [List.getElem?_eq_getElem hj', List.getD_eq_getElem?_getD]
    · rw [hlen]
      refine h _ ⟨hl, by rw [List.length_map, hl]; omega, .inr ⟨g, c, _, rfl, hb, setRow_heap w g _ _ _ _ hh, hnc, hcm, ?_, ?_⟩⟩ ⟨rfl, rfl, rfl, by simp [World.setRow], fun k _ hk => setRow_other w g k _ (fun e => hk (by rw [e]))⟩
      · simp [hl, hcs]; omega
      · simp [hl]
end Go.Proofs.YteldfjibmaigiaaDoor

namespace Go.Proofs.YteldfjibmaigiaaDoor
set_option maxRecDepth 100000
open Go.RowKit

set_option maxRecDepth 100000 in
set_option maxHeartbeats 1000000 in
theorem i_set (s p x : Int) (w : World) (B : Nat) (A : Option Addr) (n c : Nat) (cs : List Int) (h : Ints w B A n cs) (hB : B ≤ w.heap.size) (hn : n ≤ 1000000000) :
    Calls Tryd.prog 48 #[.agg #[.int .i64 s, .slice A n c], .int .i64 p, .int .i64 x] w fun e w' => MadeB (setS s cs p x) (setCs s cs p x) (setB s cs p x) w e w' := by
  have e1 : (w.alloc (.cells #[.int .i64 s, .slice A n c] 25)).heap.size = w.heap.size + 1 := by simp
  have x0 := (Bx.new 25 w s (.slice A n c)).alloc (.cells #[.int .i64 0, .slice none 0 0] 25)
  have x1 := Bx.new 25 (w.alloc (.cells #[.int .i64 s, .slice A n c] 25)) 0 (.slice none 0 0)
  rw [e1] at x1
  have hb2 : Below w.heap.size w ((w.alloc (.cells #[.int .i64 s, .slice A n c] 25)).alloc (.cells #[.int .i64 0, .slice none 0 0] 25)) := ((Below.refl _ _).alloc (Nat.le_refl _) _).alloc (by simp) _
  have hl := h.1
  have H := Lib.hid (h.below hb2 hB)
  have X0 := Lib.hid x0
  have X1 := Lib.hid x1
  have Hb := Lib.hid hb2
  clear e1 x0 x1 hb2 h
  by_cases hv : Bd.okB s cs = true
  · obtain ⟨q1, q2, q3, _⟩ := (Bd.okB_iff s cs).1 hv
    have q4 := Pt.sq_bd s q1 q2
    have hn49 : n ≤ 49 := by omega
    by_cases hp : Pt.okP s p = true
    · by_cases hx : Bd.okC x = true
      · have hall : setB s cs p x = true := by rw [setB, hv, hp, hx]; rfl
        have Hs := Lib.hid (show setS s cs p x = s by rw [setS, hall]; rfl)
        have Hc := Lib.hid (show setCs s cs p x = cs.set p.toNat x by rw [setCs, hall]; rfl)
        have Hb9 := Lib.hid hall
        clear hall
        obtain ⟨_, _, p1, p2⟩ := (Pt.okP_iff s p).1 hp
        have hpp : (decide (0 ≤ p) && decide (p < s * s)) = true := by simp [p1, p2]
        have hxx : (decide (0 ≤ x) && decide (x ≤ 2)) = true := hx
        go_enter Tryd.func48, Tryd.ntmps48
        go_wp2_with fail
        refine (i_validBoard _ _ _ _ _ _ _ H.out (by simp; omega) (by omega)).mono ?_
        rintro e y2 ⟨rfl, hb⟩
        rw [hv]
        have X0 := Lib.hid (X0.out.below hb X0.out.lt)
        have X1 := Lib.hid (X1.out.below hb X1.out.lt)
        have H := Lib.hid (H.out.below hb (by simp; omega))
        have Hb := Lib.hid (Hb.out.trans (hb.mono (by simp; omega)))
        clear hb hv
        have z2 := X1.out.lt
        have u00 := X0.out.cell0
        have u01 := X0.out.cell1
        have u02 := X0.out.lt
        go_wp2_with fail
        refine (i_point _ _ _).mono ?_
        rintro e w' ⟨rfl, rfl⟩
        rw [hp]
        go_wp2_with fail
        refine (i_validColor _ _).mono ?_
        rintro e w' ⟨rfl, rfl⟩
        rw [hx]
        clear hp hx hpp hxx
        go_wp2_with fail
        refine (i_new _ _).mono ?_
        rintro e y ⟨A1, n1, c1, rfl, ho, hb⟩
        have hs0 : Pt.okS s = true := (Pt.okS_iff s).2 ⟨q1, q2⟩
        have hn1 : n1 = n := by
          have := ho.1
          rw [newCs, if_pos hs0, List.length_replicate] at this
          omega
        rw [show newS s = s by rw [newS, if_pos hs0]]
        rw [hn1] at ho ⊢
        clear hn1 hs0
        have X0 := Lib.hid (X0.out.below hb X0.out.lt)
        have X1 := Lib.hid (X1.out.below hb X1.out.lt)
        have H := Lib.hid (H.out.below hb (by omega))
        have Hb := Lib.hid (Hb.out.trans (hb.mono (by omega)))
        have Ho := Lib.hid (ho.weaken (B' := w.heap.size + 1 + 1) (by omega))
        have hA1 : ∃ g, A1 = some ⟨g, 0, none⟩ := by
          obtain ⟨g, cap, hv, _⟩ := World.ownsRow.form ho.2 (by omega)
          exact ⟨g, by injection hv⟩
        have hy := hb.size
        clear hb u00 u01
        obtain ⟨g, hA1⟩ := hA1
        have hg1 := (ho.ge hA1).1
        have hg2 := (ho.ge hA1).2
        rw [hA1] at Ho ⊢
        clear ho hA1
        obtain ⟨q, rfl⟩ := Int.eq_ofNat_of_zero_le p1
        have hqn : q < n := by omega
        go_upto_region 4 with (fail)
        obtain ⟨y4, hy4, hb4, z4, z4'⟩ := new_box y (.cells #[.int .i64 s, .slice (some ⟨g, 0, none⟩) n c1] 25)
        have X3 : Hid (Bx 25 y4 y.heap.size s (.slice (some ⟨g, 0, none⟩) n c1)) := Lib.hid (by rw [hy4]; exact Bx.new _ _ _ _)
        rw [← hy4]
        clear hy4
        have X0 := Lib.hid (X0.out.below hb4 X0.out.lt)
        have X1 := Lib.hid (X1.out.below hb4 X1.out.lt)
        have H := Lib.hid (H.out.below hb4 (by omega))
        have Hb := Lib.hid (Hb.out.trans (hb4.mono (by omega)))
        have Ho := Lib.hid (Ho.out.below hb4)
        clear hb4
        have v00 := X0.out.cell0
        have v01 := X0.out.cell1
        have v30 := X3.out.cell0
        have v31 := X3.out.cell1
        go_upto_region 6 with ((with_reducible show wpList _ _ _ _ _ _); refine copyFull rfl (.tmp 29) (.tmp 31) rfl y4 (w.heap.size + 1 + 1) g n c1 _ B A c cs rfl rfl Ho.out H.out (by omega) ?_; intro y6 ho6 hg6; have X3b := Lib.hid (X3.out.grown hg6 (by simp; omega)); have X1b := Lib.hid (X1.out.grown hg6 (by simp; omega)); have Hb6 := Lib.hid (Hb.out.grown hg6 (by omega) (fun k e => by injection e; omega)); have w30 := X3b.out.cell0; have w31 := X3b.out.cell1; have w32 := X3b.out.lt; obtain ⟨u, hu⟩ : ∃ u, y6.cell? ⟨g, q, none⟩ = some u := ⟨_, (World.ownsRow.cellAt ho6.2 q (by omega)).trans (List.getElem?_eq_getElem (by rw [List.length_map, ho6.1]; exact hqn))⟩; have hf := World.ownsRow.frozenAt ho6.2 q; have Ho6 := Lib.hid (ho6.stored q x).1; clear ho6 hg6 v00 v01 v30 v31)
        obtain ⟨y5, hy5⟩ : ∃ y5, y5 = y6.setCell ⟨g, q, none⟩ (.int .i64 x) := ⟨_, rfl⟩
        have X3 : Hid (Bx 25 y5 y.heap.size s (.slice (some ⟨g, 0, none⟩) n c1)) := Lib.hid (by rw [hy5]; exact X3b.out.far (p := ⟨g, q, none⟩) (by show y.heap.size ≠ g; omega) (.int .i64 x))
        have Ho3 : Hid (Own y5 (w.heap.size + 1 + 1) (some ⟨g, 0, none⟩) n c1 (cs.set q x)) := Lib.hid (by rw [hy5]; exact Ho6.out)
        have X1 : Hid (Bx 25 y5 (w.heap.size + 1) 0 (.slice none 0 0)) := Lib.hid (by rw [hy5]; exact X1b.out.far (p := ⟨g, q, none⟩) (by show w.heap.size + 1 ≠ g; omega) (.int .i64 x))
        have Hb : Hid (Below w.heap.size w y5) := Lib.hid (by rw [hy5]; exact Hb6.out.setCell (p := ⟨g, q, none⟩) (by show w.heap.size ≤ g; omega) (.int .i64 x))
        rw [← hy5]
        clear hy5 hu hf w30 w31
        have v30 := X3.out.cell0
        have v31 := X3.out.cell1
        have v32 := X3.out.lt
        have v10 := X1.out.cell0
        have v11 := X1.out.cell1
        have v12 := X1.out.frozen 0
        have v13 := X1.out.frozen 1
        have v14 := X1.out.lt
        have K0 := Lib.hid ((X1.out.set0 s).cell0)
        have K1 := Lib.hid (((X1.out.set0 s).set1 (.slice (some ⟨g, 0, none⟩) n c1)).cell1)
        have Hb3 := Lib.hid ((Hb.out.setCell (p := ⟨w.heap.size + 1, 0, none⟩) (by show w.heap.size ≤ w.heap.size + 1; omega) (.int .i64 s)).setCell (p := ⟨w.heap.size + 1, 1, none⟩) (by show w.heap.size ≤ w.heap.size + 1; omega) (.slice (some ⟨g, 0, none⟩) n c1))
        have Ho2 := Lib.hid ((Ho3.out.far ⟨w.heap.size + 1, 0, none⟩ (fun g hA => by have := (Ho3.out.ge hA).1; show g ≠ w.heap.size + 1; omega) (.int .i64 s)).far ⟨w.heap.size + 1, 1, none⟩ (fun g hA => by have := (Ho3.out.ge hA).1; show g ≠ w.heap.size + 1; omega) (.slice (some ⟨g, 0, none⟩) n c1))
        go_wp2_with fail
        have k0 := K0.out
        have k1 := K1.out
        refine bodyPost_ret (v := .tuple #[.agg #[.int .i64 s, .slice (some ⟨g, 0, none⟩) n c1], .bool true]) (by simp [results, Tryd.results48, go_sem, k0, k1]) rfl ?_
        exact ⟨_, _, _, by rw [Hs.out, Hb9.out], by rw [Hc.out]; exact Ho2.out.weaken (by omega), Hb3.out⟩
      · have hx0 : Bd.okC x = false := by simpa using hx
        have hall : setB s cs p x = false := by rw [setB, hv, hp, hx0]; rfl
        have Hs := Lib.hid (show setS s cs p x = 0 by rw [setS, hall]; rfl)
        have Hc := Lib.hid (show setCs s cs p x = [] by rw [setCs, hall]; rfl)
        have Hb9 := Lib.hid hall
        clear hall
        obtain ⟨_, _, p1, p2⟩ := (Pt.okP_iff s p).1 hp
        have hpp : (decide (0 ≤ p) && decide (p < s * s)) = true := by simp [p1, p2]
        have hxx : (decide (0 ≤ x) && decide (x ≤ 2)) = false := hx0
        clear hx
        go_enter Tryd.func48, Tryd.ntmps48
        go_wp2_with fail
        refine (i_validBoard _ _ _ _ _ _ _ H.out (by simp; omega) (by omega)).mono ?_
        rintro e y2 ⟨rfl, hb⟩
        rw [hv]
        have X0 := Lib.hid (X0.out.below hb X0.out.lt)
        have X1 := Lib.hid (X1.out.below hb X1.out.lt)
        have H := Lib.hid (H.out.below hb (by simp; omega))
        have Hb := Lib.hid (Hb.out.trans (hb.mono (by simp; omega)))
        clear hb hv
        have z2 := X1.out.lt
        have u00 := X0.out.cell0
        have u01 := X0.out.cell1
        have u02 := X0.out.lt
        go_wp2_with fail
        refine (i_point _ _ _).mono ?_
        rintro e w' ⟨rfl, rfl⟩
        rw [hp]
        go_wp2_with fail
        refine (i_validColor _ _).mono ?_
        rintro e w' ⟨rfl, rfl⟩
        rw [hx0]
        clear hp hx0 hpp hxx
        have v10 := X1.out.cell0
        have v11 := X1.out.cell1
        have v12 := X1.out.frozen 0
        have v13 := X1.out.frozen 1
        have v14 := X1.out.lt
        have K0 := Lib.hid ((X1.out.set0 0).cell0)
        have K1 := Lib.hid (((X1.out.set0 0).set1 (.slice none 0 0)).cell1)
        have Hb3 := Lib.hid ((Hb.out.setCell (p := ⟨w.heap.size + 1, 0, none⟩) (by show w.heap.size ≤ w.heap.size + 1; omega) (.int .i64 0)).setCell (p := ⟨w.heap.size + 1, 1, none⟩) (by show w.heap.size ≤ w.heap.size + 1; omega) (.slice none 0 0))
        clear u00 u01
        go_wp2_with fail
        have k0 := K0.out
        have k1 := K1.out
        refine bodyPost_ret (v := .tuple #[.agg #[.int .i64 0, .slice none 0 0], .bool false]) (by simp [results, Tryd.results48, go_sem, k0, k1]) rfl ?_
        exact ⟨_, _, _, by rw [Hs.out, Hb9.out], by rw [Hc.out]; exact Own.nil _ _, Hb3.out⟩
    · have hp0 : Pt.okP s p = false := by simpa using hp
      have hall : setB s cs p x = false := by rw [setB, hv, hp0]; rfl
      have Hs := Lib.hid (show setS s cs p x = 0 by rw [setS, hall]; rfl)
      have Hc := Lib.hid (show setCs s cs p x = [] by rw [setCs, hall]; rfl)
      have Hb9 := Lib.hid hall
      clear hall
      have hs0 : Pt.okS s = true := (Pt.okS_iff s).2 ⟨q1, q2⟩
      have hpp : (decide (0 ≤ p) && decide (p < s * s)) = false := by rw [Pt.okP, hs0] at hp0; exact hp0
      clear hp hs0
      go_enter Tryd.func48, Tryd.ntmps48
      go_wp2_with fail
      refine (i_validBoard _ _ _ _ _ _ _ H.out (by simp; omega) (by omega)).mono ?_
      rintro e y2 ⟨rfl, hb⟩
      rw [hv]
      have X0 := Lib.hid (X0.out.below hb X0.out.lt)
      have X1 := Lib.hid (X1.out.below hb X1.out.lt)
      have H := Lib.hid (H.out.below hb (by simp; omega))
      have Hb := Lib.hid (Hb.out.trans (hb.mono (by simp; omega)))
      clear hb hv
      have z2 := X1.out.lt
      have u00 := X0.out.cell0
      have u01 := X0.out.cell1
      have u02 := X0.out.lt
      go_wp2_with fail
      refine (i_point _ _ _).mono ?_
      rintro e w' ⟨rfl, rfl⟩
      rw [hp0]
      clear hp0 hpp
      have v10 := X1.out.cell0
      have v11 := X1.out.cell1
      have v12 := X1.out.frozen 0
      have v13 := X1.out.frozen 1
      have v14 := X1.out.lt
      have K0 := Lib.hid ((X1.out.set0 0).cell0)
      have K1 := Lib.hid (((X1.out.set0 0).set1 (.slice none 0 0)).cell1)
      have Hb3 := Lib.hid ((Hb.out.setCell (p := ⟨w.heap.size + 1, 0, none⟩) (by show w.heap.size ≤ w.heap.size + 1; omega) (.int .i64 0)).setCell (p := ⟨w.heap.size + 1, 1, none⟩) (by show w.heap.size ≤ w.heap.size + 1; omega) (.slice none 0 0))
      clear u00 u01
      go_wp2_with fail
      have k0 := K0.out
      have k1 := K1.out
      refine bodyPost_ret (v := .tuple #[.agg #[.int .i64 0, .slice none 0 0], .bool false]) (by simp [results, Tryd.results48, go_sem, k0, k1]) rfl ?_
      exact ⟨_, _, _, by rw [Hs.out, Hb9.out], by rw [Hc.out]; exact Own.nil _ _, Hb3.out⟩
  · have hv0 : Bd.okB s cs = false := by simpa using hv
    have hall : setB s cs p x = false := by rw [setB, hv0]; rfl
    have Hs := Lib.hid (show setS s cs p x = 0 by rw [setS, hall]; rfl)
    have Hc := Lib.hid (show setCs s cs p x = [] by rw [setCs, hall]; rfl)
    have Hb9 := Lib.hid hall
    clear hall
    clear hv
    go_enter Tryd.func48, Tryd.ntmps48
    go_wp2_with fail
    refine (i_validBoard _ _ _ _ _ _ _ H.out (by simp; omega) (by omega)).mono ?_
    rintro e y2 ⟨rfl, hb⟩
    rw [hv0]
    have X0 := Lib.hid (X0.out.below hb X0.out.lt)
    have X1 := Lib.hid (X1.out.below hb X1.out.lt)
    have H := Lib.hid (H.out.below hb (by simp; omega))
    have Hb := Lib.hid (Hb.out.trans (hb.mono (by simp; omega)))
    clear hb hv0
    have z2 := X1.out.lt
    have u00 := X0.out.cell0
    have u01 := X0.out.cell1
    have u02 := X0.out.lt
    have v10 := X1.out.cell0
    have v11 := X1.out.cell1
    have v12 := X1.out.frozen 0
    have v13 := X1.out.frozen 1
    have v14 := X1.out.lt
    have K0 := Lib.hid ((X1.out.set0 0).cell0)
    have K1 := Lib.hid (((X1.out.set0 0).set1 (.slice none 0 0)).cell1)
    have Hb3 := Lib.hid ((Hb.out.setCell (p := ⟨w.heap.size + 1, 0, none⟩) (by show w.heap.size ≤ w.heap.size + 1; omega) (.int .i64 0)).setCell (p := ⟨w.heap.size + 1, 1, none⟩) (by show w.heap.size ≤ w.heap.size + 1; omega) (.slice none 0 0))
    clear u00 u01
    go_wp2_with fail
    have k0 := K0.out
    have k1 := K1.out
    refine bodyPost_ret (v := .tuple #[.agg #[.int .i64 0, .slice none 0 0], .bool false]) (by simp [results, Tryd.results48, go_sem, k0, k1]) rfl ?_
    exact ⟨_, _, _, by rw [Hs.out, Hb9.out], by rw [Hc.out]; exact Own.nil _ _, Hb3.out⟩
end Go.Proofs.YteldfjibmaigiaaDoor

namespace Go.Proofs.YteldfjibmaigiaaDoor
set_option maxRecDepth 100000
open Go.RowKit

theorem Ints.stepH {w w' : World} {n : Nat} {A : Option Addr} {xs : List Int} (h : Ints w w.heap.size A n xs) (hb : Below w.heap.size w w') : Ints w' w'.heap.size A n xs := (h.below hb (Nat.le_refl _)).more hb.size
theorem Bx.stepH {t : TypeId} {w w' : World} {g : Nat} {s : Int} {v : Value} (h : Bx t w g s v) (hb : Below w.heap.size w w') : Bx t w' g s v := h.below hb h.lt
theorem bstepH {a w w' : World} (h : Below a.heap.size a w) (hb : Below w.heap.size w w') : Below a.heap.size a w' := h.trans (hb.mono h.size)
theorem i_setH (s p x : Int) (w : World) (A : Option Addr) (n c : Nat) (cs ds : List Int) (h : Ints w w.heap.size A n cs) (hn : n ≤ 49) (hb : setB s cs p x = true) (hd : cs.set p.toNat x = ds) :
    Calls Tryd.prog 48 #[.agg #[.int .i64 s, .slice A n c], .int .i64 p, .int .i64 x] w fun e w' => ∃ A1 c1, e = .returned (.tuple #[.agg #[.int .i64 s, .slice A1 n c1], .bool true]) ∧ Own w' w.heap.size A1 n c1 ds ∧ Below w.heap.size w w' := by
  have hl := h.1
  refine (i_set s p x w w.heap.size A n c cs h (Nat.le_refl _) (by omega)).mono ?_
  rintro e w' ⟨A1, n1, c1, rfl, ho, hb1⟩
  rw [setCs, hb, if_pos rfl, hd] at ho
  have e1 := ho.1
  rw [← hd, List.length_set] at e1
  obtain rfl : n1 = n := by omega
  exact ⟨_, _, by rw [setS, hb]; rfl, ho, hb1⟩
theorem i_plG (s x p : Int) (su : Bool) (w : World) (A : Option Addr) (n c : Nat) (cs : List Int) (R : Option (List Int × List Int)) (rs : Int) (rc rg : List Int) (ok : Bool) (h : Ints w w.heap.size A n cs) (hn : n ≤ 1000000000) (hR : Hid (PlB s n cs x p su R)) (hV : Hid (View s R rs rc rg ok)) (ht : Tab w) (he : ErrW w) : Calls Tryd.prog 7 #[.agg #[.int .i64 s, .slice A n c], .int .i64 x, .int .i64 p, .bool su] w fun e w' => ∃ A1 n1 c1 A2 n2 c2, e = .returned (.tuple #[.agg #[.int .i64 rs, .slice A1 n1 c1], .slice A2 n2 c2, .bool ok]) ∧ Own w' w.heap.size A2 n2 c2 rg ∧ Below w.heap.size w w' := by
  refine (i_PlV s x p su w _ A n c cs R rs rc rg ok h (Nat.le_refl _) hn hR hV ht he).mono ?_
  rintro e w' ⟨A1, n1, c1, A2, n2, c2, mid, rfl, h1, h2, h3, h4, h5, h6⟩
  exact ⟨A1, n1, c1, A2, n2, c2, rfl, h3.weaken h4, h6⟩
theorem s_plC (s x p : Int) (su : Bool) (w : World) (A : Option Addr) (n c : Nat) (cs : List Int) (R : Option (List Int × List Int)) (rs : Int) (rc rg : List Int) (ok : Bool) (h : Ints w w.heap.size A n cs) (hn : n ≤ 1000000000) (hR : Hid (PlB s n cs x p su R)) (hV : Hid (View s R rs rc rg ok)) : Calls Tryd.prog 8 #[.agg #[.int .i64 s, .slice A n c], .int .i64 x, .int .i64 p, .bool su] w fun e w' => ∃ A1 n1 c1 A2 n2 c2, e = .returned (.tuple #[.agg #[.int .i64 rs, .slice A1 n1 c1], .slice A2 n2 c2, .bool ok]) ∧ Own w' w.heap.size A1 n1 c1 rc ∧ Below w.heap.size w w' := by
  refine (s_PlV s x p su w _ A n c cs R rs rc rg ok h (Nat.le_refl _) hn hR hV).mono ?_
  rintro e w' ⟨A1, n1, c1, A2, n2, c2, rfl, ⟨h1, h2⟩, h6⟩
  exact ⟨A1, n1, c1, A2, n2, c2, rfl, h1, h6⟩
theorem Hb.get {s x p : Int} {n : Nat} {cs : List Int} {su : Bool} {r : List Int × List Int} (h : PlB s n cs x p su (some r)) (hl : cs.length = n) : ∃ k q : Nat, s = (k : Int) ∧ p = (q : Int) ∧ q < n ∧ Bd.okB s cs = true ∧ 1 ≤ x ∧ x ≤ 2 ∧ 1 ≤ s ∧ s ≤ 7 ∧ n ≤ 49 ∧ (n : Int) = s * s ∧ (∀ c ∈ cs, 0 ≤ c ∧ c ≤ 2) ∧ Pt.okP s p = true ∧ Plays (k : Int) n cs x q su (some r) := by
  unfold PlB at h
  split at h
  · rename_i hh
    obtain ⟨h1, ⟨x1, x2⟩, h2⟩ := hh
    obtain ⟨q1, q2, q3, q4⟩ := (Bd.okB_iff s cs).1 h1
    obtain ⟨_, _, p0, pn⟩ := (Pt.okP_iff s p).1 h2
    have hsq := Pt.sq_bd s q1 q2
    obtain ⟨q, rfl⟩ := Int.eq_ofNat_of_zero_le p0
    obtain ⟨k, rfl⟩ := Int.eq_ofNat_of_zero_le (show 0 ≤ s by omega)
    exact ⟨k, q, rfl, rfl, by omega, h1, x1, x2, q1, q2, by omega, by omega, q4, h2, h⟩
  · cases h
theorem Hb.ans_oth {s x p : Int} {n : Nat} {cs : List Int} {su : Bool} {os gs : List Int} (h : PlB s n cs x p su (some (os, gs))) (hl : cs.length = n) : Bd.okB s os = true := by
  obtain ⟨k, q, rfl, rfl, hq, hB, x1, x2, s1, s2, h49, hsq, hv, hP, hp⟩ := Hb.get h hl
  have hol := Hb.olen hp
  refine (Bd.okB_iff _ _).2 ⟨s1, s2, by omega, fun c hc => ?_⟩
  obtain ⟨j, hj, rfl⟩ := List.getElem_of_mem hc
  have e := Hb.out hp (q := j) (by omega)
  rw [List.getD_eq_getElem?_getD, List.getElem?_eq_getElem hj] at e
  simp only [Option.getD_some] at e
  rw [e]
  split
  · omega
  · rw [Hb.sat hl hq]
    split
    · omega
    · have hm : cs.getD j 0 ∈ cs := by
        rw [List.getD_eq_getElem?_getD, List.getElem?_eq_getElem (show j < cs.length by omega)]
        exact List.getElem_mem _
      exact hv _ hm
set_option maxRecDepth 100000 in
set_option maxHeartbeats 4000000 in
theorem s_hashAfter (s x p : Int) (su : Bool) (w : World) (A : Option Addr) (n c : Nat) (cs : List Int) (R : Option (List Int × List Int)) (V : Int) (h : Ints w w.heap.size A n cs) (hn : n ≤ 1000000000) (hR : Hid (PlB s n cs x p su R)) (hA : Hid (Hb.ans n R = V)) : Calls Tryd.prog 15 #[.agg #[.int .i64 s, .slice A n c], .int .i64 x, .int .i64 p, .bool su] w fun e w' => e = .returned (.int .i64 V) ∧ Below w.heap.size w w' := by
  have HB := Lib.hid (Below.refl w.heap.size w)
  have hcl := h.1
  have I0 := Lib.hid h
  clear h
  rcases R with _ | ⟨os, gs⟩
  · obtain rfl : (-1 : Int) = V := hA.out
    have HV : Hid (View s (none : Option (List Int × List Int)) 0 [] [] false) := Lib.hid ⟨rfl, rfl, rfl, rfl⟩
    go_enter Tryd.func15, Tryd.ntmps15
    go_wp2_with fail
    obtain ⟨x101, hy103, hb102, z104, z105⟩ := new_box w (.cells #[.int .i64 s, .slice A n c] 25)
    have X0 : Hid (Bx 25 x101 w.heap.size s (.slice A n c)) := Lib.hid (by rw [hy103]; exact Bx.new _ _ _ _)
    rw [← hy103]
    clear hy103
    have I0 := Lib.hid (I0.out.stepH hb102)
    have HB := Lib.hid (bstepH HB.out hb102)
    clear hb102
    have X0_0 := X0.out.cell0
    have X0_1 := X0.out.cell1
    have X0_l := X0.out.lt
    go_wp2_with fail
    refine (s_plC s x p su _ A n c cs none 0 [] [] false I0.out hn hR HV).mono ?_
    rintro e x106 ⟨A1, n1, c1, A2, n2, c2, rfl, ho108, hb107⟩
    clear X0_0 X0_1 X0_l
    have X0 := Lib.hid (X0.out.stepH hb107)
    have I0 := Lib.hid (I0.out.stepH hb107)
    have HB := Lib.hid (bstepH HB.out hb107)
    have G1 := Lib.hid ho108.ints
    have lenG1 := ho108.1
    clear hb107 ho108
    have X0_0 := X0.out.cell0
    have X0_1 := X0.out.cell1
    have X0_l := X0.out.lt
    go_wp2_with fail
    obtain ⟨x109, hy111, hb110, z112, z113⟩ := new_box x106 (.cells #[.int .i64 0, .slice A1 n1 c1] 25)
    have X1 : Hid (Bx 25 x109 x106.heap.size 0 (.slice A1 n1 c1)) := Lib.hid (by rw [hy111]; exact Bx.new _ _ _ _)
    rw [← hy111]
    clear hy111
    clear X0_0 X0_1 X0_l
    have X0 := Lib.hid (X0.out.stepH hb110)
    have I0 := Lib.hid (I0.out.stepH hb110)
    have G1 := Lib.hid (G1.out.stepH hb110)
    have HB := Lib.hid (bstepH HB.out hb110)
    clear hb110
    have X0_0 := X0.out.cell0
    have X0_1 := X0.out.cell1
    have X0_l := X0.out.lt
    have X1_0 := X1.out.cell0
    have X1_1 := X1.out.cell1
    have X1_l := X1.out.lt
    go_wp2_with fail
    go_ret
    exact ⟨rfl, HB.out⟩
  · have HV : Hid (View s (some (os, gs)) s os gs true) := Lib.hid ⟨rfl, rfl, rfl, rfl⟩
    have hob := Hb.ans_oth hR.out hcl
    have hol : os.length = n := by
      obtain ⟨k, q, rfl, rfl, hq, hB, x1, x2, s1, s2, h49, hsq, hv, hP, hp⟩ := Hb.get hR.out hcl
      exact Hb.olen hp
    have hf : Ha.ans s os = V := by unfold Ha.ans; rw [if_pos hob, hol]; exact hA.out
    have Hf := Lib.hid hf
    have Hob := Lib.hid hob
    clear hf hob hA
    go_enter Tryd.func15, Tryd.ntmps15
    go_wp2_with fail
    obtain ⟨x201, hy203, hb202, z204, z205⟩ := new_box w (.cells #[.int .i64 s, .slice A n c] 25)
    have X0 : Hid (Bx 25 x201 w.heap.size s (.slice A n c)) := Lib.hid (by rw [hy203]; exact Bx.new _ _ _ _)
    rw [← hy203]
    clear hy203
    have I0 := Lib.hid (I0.out.stepH hb202)
    have HB := Lib.hid (bstepH HB.out hb202)
    clear hb202
    have X0_0 := X0.out.cell0
    have X0_1 := X0.out.cell1
    have X0_l := X0.out.lt
    go_wp2_with fail
    refine (s_plC s x p su _ A n c cs _ s os gs true I0.out hn hR HV).mono ?_
    rintro e x206 ⟨A1, n1, c1, A2, n2, c2, rfl, ho208, hb207⟩
    clear X0_0 X0_1 X0_l
    have X0 := Lib.hid (X0.out.stepH hb207)
    have I0 := Lib.hid (I0.out.stepH hb207)
    have HB := Lib.hid (bstepH HB.out hb207)
    have G1 := Lib.hid ho208.ints
    have lenG1 := ho208.1
    clear hb207 ho208
    have X0_0 := X0.out.cell0
    have X0_1 := X0.out.cell1
    have X0_l := X0.out.lt
    go_wp2_with fail
    obtain ⟨x209, hy211, hb210, z212, z213⟩ := new_box x206 (.cells #[.int .i64 s, .slice A1 n1 c1] 25)
    have X1 : Hid (Bx 25 x209 x206.heap.size s (.slice A1 n1 c1)) := Lib.hid (by rw [hy211]; exact Bx.new _ _ _ _)
    rw [← hy211]
    clear hy211
    clear X0_0 X0_1 X0_l
    have X0 := Lib.hid (X0.out.stepH hb210)
    have I0 := Lib.hid (I0.out.stepH hb210)
    have G1 := Lib.hid (G1.out.stepH hb210)
    have HB := Lib.hid (bstepH HB.out hb210)
    clear hb210
    have X0_0 := X0.out.cell0
    have X0_1 := X0.out.cell1
    have X0_l := X0.out.lt
    have X1_0 := X1.out.cell0
    have X1_1 := X1.out.cell1
    have X1_l := X1.out.lt
    go_wp2_with fail
    refine (s_hash0 s _ _ A1 n1 c1 os G1.out (Nat.le_refl _) Hob.out).mono ?_
    rintro e x214 ⟨rfl, hb215⟩
    clear X0_0 X0_1 X0_l X1_0 X1_1 X1_l
    have X0 := Lib.hid (X0.out.stepH hb215)
    have X1 := Lib.hid (X1.out.stepH hb215)
    have I0 := Lib.hid (I0.out.stepH hb215)
    have G1 := Lib.hid (G1.out.stepH hb215)
    have HB := Lib.hid (bstepH HB.out hb215)
    clear hb215
    have X0_0 := X0.out.cell0
    have X0_1 := X0.out.cell1
    have X0_l := X0.out.lt
    have X1_0 := X1.out.cell0
    have X1_1 := X1.out.cell1
    have X1_l := X1.out.lt
    rw [Hf.out]
    go_wp2_with fail
    go_ret
    exact ⟨rfl, HB.out⟩
set_option maxRecDepth 100000 in
set_option maxHeartbeats 4000000 in
theorem i_hashAfter (s x p : Int) (su : Bool) (w : World) (A : Option Addr) (n c : Nat) (cs : List Int) (R : Option (List Int × List Int)) (V : Int) (h : Ints w w.heap.size A n cs) (hn : n ≤ 1000000000) (hR : Hid (PlB s n cs x p su R)) (hA : Hid (Hb.ans n R = V)) (ht : Tab w) (he : ErrW w) : Calls Tryd.prog 17 #[.agg #[.int .i64 s, .slice A n c], .int .i64 x, .int .i64 p, .bool su] w fun e w' => e = .returned (.int .i64 V) ∧ Below w.heap.size w w' := by
  have HB := Lib.hid (Below.refl w.heap.size w)
  have hcl := h.1
  have I0 := Lib.hid h
  have HT := Lib.hid ht
  have HE := Lib.hid he
  clear h ht he
  rcases R with _ | ⟨os, gs⟩
  · obtain rfl : (-1 : Int) = V := hA.out
    have HV : Hid (View s (none : Option (List Int × List Int)) 0 [] [] false) := Lib.hid ⟨rfl, rfl, rfl, rfl⟩
    go_enter Tryd.func17, Tryd.ntmps17
    go_wp2_with fail
    obtain ⟨x101, hy103, hb102, z104, z105⟩ := new_box w (.cells #[.int .i64 s, .slice A n c] 25)
    have X0 : Hid (Bx 25 x101 w.heap.size s (.slice A n c)) := Lib.hid (by rw [hy103]; exact Bx.new _ _ _ _)
    rw [← hy103]
    clear hy103
    have I0 := Lib.hid (I0.out.stepH hb102)
    have HB := Lib.hid (bstepH HB.out hb102)
    clear hb102
    have X0_0 := X0.out.cell0
    have X0_1 := X0.out.cell1
    have X0_l := X0.out.lt
    go_wp2_with fail
    refine (i_plG s x p su _ A n c cs none 0 [] [] false I0.out hn hR HV (HT.out.below HB.out) (HE.out.below HB.out)).mono ?_
    rintro e x106 ⟨A1, n1, c1, A2, n2, c2, rfl, ho108, hb107⟩
    clear X0_0 X0_1 X0_l
    have X0 := Lib.hid (X0.out.stepH hb107)
    have I0 := Lib.hid (I0.out.stepH hb107)
    have HB := Lib.hid (bstepH HB.out hb107)
    have G2 := Lib.hid ho108.ints
    have lenG2 := ho108.1
    clear hb107 ho108
    have X0_0 := X0.out.cell0
    have X0_1 := X0.out.cell1
    have X0_l := X0.out.lt
    go_wp2_with fail
    obtain ⟨x109, hy111, hb110, z112, z113⟩ := new_box x106 (.cells #[.int .i64 0, .slice A1 n1 c1] 25)
    have X1 : Hid (Bx 25 x109 x106.heap.size 0 (.slice A1 n1 c1)) := Lib.hid (by rw [hy111]; exact Bx.new _ _ _ _)
    rw [← hy111]
    clear hy111
    clear X0_0 X0_1 X0_l
    have X0 := Lib.hid (X0.out.stepH hb110)
    have I0 := Lib.hid (I0.out.stepH hb110)
    have G2 := Lib.hid (G2.out.stepH hb110)
    have HB := Lib.hid (bstepH HB.out hb110)
    clear hb110
    have X0_0 := X0.out.cell0
    have X0_1 := X0.out.cell1
    have X0_l := X0.out.lt
    have X1_0 := X1.out.cell0
    have X1_1 := X1.out.cell1
    have X1_l := X1.out.lt
    go_wp2_with fail
    go_ret
    exact ⟨rfl, HB.out⟩
  · obtain ⟨k, q, rfl, rfl, hq, hB, x1, x2, s1, s2, h49, hsq, hv, hP, hp⟩ := Hb.get hR.out hcl
    have HV : Hid (View (k : Int) (some (os, gs)) k os gs true) := Lib.hid ⟨rfl, rfl, rfl, rfl⟩
    have hgl := Hb.glen hp x1 x2
    have hans : Ha.rm (cs.set q x) gs (Ha.xr (Ha.upto cs n) (Ky.key (q : Int) x)) gs.length = V := (Hb.hash hp hcl h49 hv hq x1 x2).trans hA.out
    have hin := fun i (hi : i < gs.length) => Hb.at_ hp x1 x2 hi
    have hok : Ky.ok (q : Int) x = true := Ky.ok_iff.2 (by omega)
    obtain ⟨y0, y1'⟩ := Ky.key_bd hok
    obtain ⟨t0, t1⟩ := Ha.bd hv n h49 (by omega)
    have hxr := Ha.xr_bd t0 t1 y0 y1'
    have hval := bits_xr t0 t1 y0 y1'
    have hf : Ha.ans (k : Int) cs = Ha.upto cs n := by unfold Ha.ans; rw [if_pos hB, hcl]
    obtain ⟨H, hH⟩ : ∃ H, Ha.upto cs n = H := ⟨_, rfl⟩
    rw [hH] at t0 t1 hxr hval hf hans
    obtain ⟨K, hK⟩ : ∃ K, Ky.key (q : Int) x = K := ⟨_, rfl⟩
    rw [hK] at y0 y1' hxr hval hans
    obtain ⟨h0, hh0⟩ : ∃ h0, Ha.xr H K = h0 := ⟨_, rfl⟩
    rw [hh0] at hxr hval hans
    have hv2 : ∀ c ∈ cs.set q x, 0 ≤ c ∧ c ≤ 2 := by
      intro c hc
      rcases List.mem_or_eq_of_mem_set hc with h | rfl
      · exact hv c h
      · omega
    obtain ⟨ds, hds⟩ : ∃ ds, cs.set q x = ds := ⟨_, rfl⟩
    rw [hds] at hv2 hin hans
    have hsb : setB (k : Int) cs (q : Int) x = true := by
      unfold setB
      rw [hB, hP]
      unfold Bd.okC
      simp; omega
    obtain ⟨v0, v1⟩ := hxr
    have Hf := Lib.hid hf
    have HK := Lib.hid hK
    have HA := Lib.hid hans
    have Hin := Lib.hid hin
    have Hv2 := Lib.hid hv2
    have Hds := Lib.hid hds
    have Hsb := Lib.hid hsb
    have Hbd := Lib.hid (fun j hj => Hb.bd hv2 h49 v0 v1 hin j hj)
    clear hf hK hans hin hv2 hds hsb hH hh0 hp hv hB hP hok hA
    go_enter Tryd.func17, Tryd.ntmps17
    go_wp2_with fail
    obtain ⟨x201, hy203, hb202, z204, z205⟩ := new_box w (.cells #[.int .i64 k, .slice A n c] 25)
    have X0 : Hid (Bx 25 x201 w.heap.size k (.slice A n c)) := Lib.hid (by rw [hy203]; exact Bx.new _ _ _ _)
    rw [← hy203]
    clear hy203
    have I0 := Lib.hid (I0.out.stepH hb202)
    have HB := Lib.hid (bstepH HB.out hb202)
    clear hb202
    have X0_0 := X0.out.cell0
    have X0_1 := X0.out.cell1
    have X0_l := X0.out.lt
    go_wp2_with fail
    refine (i_plG k x q su _ A n c cs _ k os gs true I0.out hn hR HV (HT.out.below HB.out) (HE.out.below HB.out)).mono ?_
    rintro e x206 ⟨A1, n1, c1, A2, n2, c2, rfl, ho208, hb207⟩
    clear X0_0 X0_1 X0_l
    have X0 := Lib.hid (X0.out.stepH hb207)
    have I0 := Lib.hid (I0.out.stepH hb207)
    have HB := Lib.hid (bstepH HB.out hb207)
    have G2 := Lib.hid ho208.ints
    have lenG2 := ho208.1
    clear hb207 ho208
    have X0_0 := X0.out.cell0
    have X0_1 := X0.out.cell1
    have X0_l := X0.out.lt
    go_wp2_with fail
    obtain ⟨x209, hy211, hb210, z212, z213⟩ := new_box x206 (.cells #[.int .i64 k, .slice A1 n1 c1] 25)
    have X1 : Hid (Bx 25 x209 x206.heap.size k (.slice A1 n1 c1)) := Lib.hid (by rw [hy211]; exact Bx.new _ _ _ _)
    rw [← hy211]
    clear hy211
    clear X0_0 X0_1 X0_l
    have X0 := Lib.hid (X0.out.stepH hb210)
    have I0 := Lib.hid (I0.out.stepH hb210)
    have G2 := Lib.hid (G2.out.stepH hb210)
    have HB := Lib.hid (bstepH HB.out hb210)
    clear hb210
    have X0_0 := X0.out.cell0
    have X0_1 := X0.out.cell1
    have X0_l := X0.out.lt
    have X1_0 := X1.out.cell0
    have X1_1 := X1.out.cell1
    have X1_l := X1.out.lt
    go_wp2_with fail
    refine (i_hash k _ _ A n c cs I0.out (Nat.le_refl _) hn).mono ?_
    rintro e x214 ⟨rfl, hb215⟩
    clear X0_0 X0_1 X0_l X1_0 X1_1 X1_l
    have X0 := Lib.hid (X0.out.stepH hb215)
    have X1 := Lib.hid (X1.out.stepH hb215)
    have I0 := Lib.hid (I0.out.stepH hb215)
    have G2 := Lib.hid (G2.out.stepH hb215)
    have HB := Lib.hid (bstepH HB.out hb215)
    clear hb215
    have X0_0 := X0.out.cell0
    have X0_1 := X0.out.cell1
    have X0_l := X0.out.lt
    have X1_0 := X1.out.cell0
    have X1_1 := X1.out.cell1
    have X1_l := X1.out.lt
    rw [Hf.out]
    go_wp2_with fail
    refine (i_key (q : Nat) x _).mono ?_
    rintro e y ⟨rfl, rfl⟩
    rw [HK.out]
    go_wp2_with fail
    refine (i_setH k q x _ A n c cs ds I0.out h49 Hsb.out Hds.out).mono ?_
    rintro e x217 ⟨A3, c3, rfl, ho219, hb218⟩
    clear X0_0 X0_1 X0_l X1_0 X1_1 X1_l
    have X0 := Lib.hid (X0.out.stepH hb218)
    have X1 := Lib.hid (X1.out.stepH hb218)
    have I0 := Lib.hid (I0.out.stepH hb218)
    have G2 := Lib.hid (G2.out.stepH hb218)
    have HB := Lib.hid (bstepH HB.out hb218)
    have P3 := Lib.hid ho219.ints
    have lenP3 := ho219.1
    clear hb218 ho219
    have X0_0 := X0.out.cell0
    have X0_1 := X0.out.cell1
    have X0_l := X0.out.lt
    have X1_0 := X1.out.cell0
    have X1_1 := X1.out.cell1
    have X1_l := X1.out.lt
    go_wp2_with fail
    obtain ⟨x220, hy222, hb221, z223, z224⟩ := new_box x217 (.cells #[.int .i64 k, .slice A3 n c3] 25)
    have X3 : Hid (Bx 25 x220 x217.heap.size k (.slice A3 n c3)) := Lib.hid (by rw [hy222]; exact Bx.new _ _ _ _)
    rw [← hy222]
    clear hy222
    clear X0_0 X0_1 X0_l X1_0 X1_1 X1_l
    have X0 := Lib.hid (X0.out.stepH hb221)
    have X1 := Lib.hid (X1.out.stepH hb221)
    have I0 := Lib.hid (I0.out.stepH hb221)
    have G2 := Lib.hid (G2.out.stepH hb221)
    have P3 := Lib.hid (P3.out.stepH hb221)
    have HB := Lib.hid (bstepH HB.out hb221)
    clear hb221
    have X0_0 := X0.out.cell0
    have X0_1 := X0.out.cell1
    have X0_l := X0.out.lt
    have X1_0 := X1.out.cell0
    have X1_1 := X1.out.cell1
    have X1_l := X1.out.lt
    have X3_0 := X3.out.cell0
    have X3_1 := X3.out.cell1
    have X3_l := X3.out.lt
    go_wp2_with fail
    obtain ⟨Y, hY⟩ : ∃ Y : World, Y = x220 := ⟨_, rfl⟩
    rw [← hY] at X0 X1 X3 I0 G2 P3 HB X0_0 X0_1 X0_l X1_0 X1_1 X1_l X3_0 X3_1 X3_l ⊢
    clear hY
    go_loopg [12, 43] (n2 + 1) (fun m va vb wr => ∃ j : Nat, j + m = n2 + 1 ∧ j ≤ n2 ∧ va = .int .i64 (Ha.rm ds gs h0 j) ∧ vb = .int .i64 (j : Nat) ∧ wr = Y)
    case atStart => exact ⟨0, by omega, by omega, rfl, rfl, rfl⟩
    case round =>
      obtain ⟨j, hj, hjn, rfl, rfl, rfl⟩ := hrel
      obtain ⟨r0, r1⟩ := Hbd.out j (by omega)
      by_cases hjj : j = n2
      · subst hjj
        have hlt : ¬ ((j : Nat) : Int) < (j : Nat) := by omega
        obtain rfl : Ha.rm ds gs h0 j = V := by rw [← HA.out, lenG2]
        go_wp2_with fail
        go_ret
        exact ⟨rfl, HB.out⟩
      · have hlt : ((j : Nat) : Int) < n2 := by omega
        have hj0 : (0 : Int) ≤ (j : Nat) := by omega
        obtain ⟨g0, g1, g2⟩ := Hin.out j (by omega)
        obtain ⟨b2, o2, rfl, hb2B, hc2⟩ := G2.out.2.resolve_left (by omega)
        have ck := hc2 j (by omega)
        obtain ⟨i, hi⟩ := Int.eq_ofNat_of_zero_le g0
        have hrm : Ha.rm ds gs h0 (j + 1) = Ha.xr (Ha.rm ds gs h0 j) (Ky.key (gs.getD j 0) (ds.getD (gs.getD j 0).toNat 0)) := rfl
        rw [hi] at ck g0 g1 g2 hrm
        rw [Int.toNat_natCast] at g2 hrm
        obtain ⟨b3, o3, rfl, hb3B, hc3⟩ := P3.out.2.resolve_left (by omega)
        have ci := hc3 i (by omega)
        have hmem : ds.getD i 0 ∈ ds := by
          rw [List.getD_eq_getElem?_getD, List.getElem?_eq_getElem (show i < ds.length by have := P3.out.1; omega)]
          exact List.getElem_mem _
        obtain ⟨d0, d2⟩ := Hv2.out _ hmem
        obtain ⟨d, hd⟩ : ∃ d, ds.getD i 0 = d := ⟨_, rfl⟩
        rw [hd] at ci g2 hrm d0 d2
        obtain ⟨F, hF⟩ : ∃ F, Ha.rm ds gs h0 j = F := ⟨_, rfl⟩
        rw [hF] at r0 r1 hrm ⊢
        have hok : Ky.ok (i : Int) d = true := Ky.ok_iff.2 (by omega)
        obtain ⟨k0, k1⟩ := Ky.key_bd hok
        have hxr := Ha.xr_bd r0 r1 k0 k1
        have hval := bits_xr r0 r1 k0 k1
        obtain ⟨Q, hQ⟩ : ∃ Q, Ky.key (i : Int) d = Q := ⟨_, rfl⟩
        rw [hQ] at k0 k1 hxr hval hrm
        obtain ⟨Z, hZ⟩ : ∃ Z, Ha.xr F Q = Z := ⟨_, rfl⟩
        rw [hZ] at hxr hval hrm
        obtain ⟨z0, z1⟩ := hxr
        have Hrm := Lib.hid hrm
        have HQ := Lib.hid hQ
        clear hc2 hc3 hmem hd hF hZ hrm hQ hok hi
        go_wp2_with fail
        refine (i_key (i : Nat) d _).mono ?_
        rintro e y ⟨rfl, rfl⟩
        rw [HQ.out]
        go_wp2_with fail
        go_roundg (n2 - j)
        case measure => omega
        case rel => exact ⟨j + 1, by omega, by omega, by rw [Hrm.out], by go_num, rfl⟩
end Go.Proofs.YteldfjibmaigiaaDoor

