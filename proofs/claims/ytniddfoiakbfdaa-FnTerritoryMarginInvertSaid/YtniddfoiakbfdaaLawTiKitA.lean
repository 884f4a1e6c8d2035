/-
  Texts that a law stands on: Reader, Draw, DrawSm, Played, WordsU, FmtP, FmtS, ParseS, Undone, PureMv, MvI, TrI, SpecC, TrS, Rand, Any, Step.
-/
import Derived.Test.YtniddfoiakbfdaaBase
import Derived.IntWalk
import Derived.Test.YtniddfoiakbfdaaWords
import Derived.RegionTactic
import Derived.OpenShut
import Derived.Test.YtniddfoiakbfdaaPlayS
import Derived.Laws.BytesString
import Derived.Test.YtniddfoiakbfdaaPureBd
import Derived.Test.YtniddfoiakbfdaaFactPt
import Derived.Test.YtniddfoiakbfdaaRows2
import Derived.Test.YtniddfoiakbfdaaPlayP
import Derived.Laws.BytesArg
import Derived.Test.YtniddfoiakbfdaaBoard
import Derived.Deep.QuietTactic
import Derived.BigQuiet
import Derived.Test.YtniddfoiakbfdaaImplPtB
import Derived.Test.YtniddfoiakbfdaaInvS
import Derived.Test.YtniddfoiakbfdaaSpecA
import Derived.Test.YtniddfoiakbfdaaLists
namespace Go.Proofs.Ytniddfoiakbfdaa
set_option maxRecDepth 100000
open Go.RowKit

/-- The bytes that the reader reads lie below block B. -/
def Code (w : World) (B : Nat) (S : Option Addr) (n : Nat) : Prop :=
  n = 0 ∨ ∃ b o, S = some ⟨b, o, none⟩ ∧ b < B ∧ n ≤ 2000 ∧ ∀ j, j < n → ∃ x : Int, 0 ≤ x ∧ x ≤ 255 ∧ w.cell? ⟨b, o + j, none⟩ = some (.int .u8 x)

/-- Block g is a reader over such bytes, at position q. -/
def Rdr (w : World) (B g q : Nat) : Prop :=
  B ≤ g ∧ ∃ S n c, w.heap[g]? = some (.cells #[.slice S n c, .int .i64 q] 56 (0, 0)) ∧ Code w B S n

theorem Rdr.lt {w : World} {B g q : Nat} (h : Rdr w B g q) : g < w.heap.size := by
  obtain ⟨_, S, n, c, h, _⟩ := h
  rcases Nat.lt_or_ge g w.heap.size with hlt | hge
  · exact hlt
  · rw [Array.getElem?_eq_none hge] at h; cases h
theorem Code.keep {w w' : World} {B n : Nat} {S : Option Addr} (h : Code w B S n) (hk : ∀ k, k < B → w'.heap[k]? = w.heap[k]?) : Code w' B S n := by
  rcases h with h | ⟨b, o, hS, hb, hn, hc⟩
  · exact .inl h
  · refine .inr ⟨b, o, hS, hb, hn, fun j hj => ?_⟩
    obtain ⟨x, x1, x2, hx⟩ := hc j hj
    exact ⟨x, x1, x2, (World.cell?_of_block (w := w) (hk b hb)).trans hx⟩
theorem Rdr.below {w w' : World} {B g q : Nat} (h : Rdr w B g q) {B' : Nat} (hb : Below B' w w') (hg : g < B') : Rdr w' B g q := by
  obtain ⟨hB, S, n, c, hh, hc⟩ := h
  exact ⟨hB, S, n, c, (hb.block g hg).trans hh, hc.keep fun k hk => hb.block k (by omega)⟩
theorem Rdr.grown {w w' : World} {B g q : Nat} (h : Rdr w B g q) {row : Option Nat} (hw : w.grownBy w' row) (hr : ∀ k, row = some k → B ≤ k ∧ k ≠ g) : Rdr w' B g q := by
  have hlt := h.lt
  obtain ⟨hB, S, n, c, hh, hc⟩ := h
  refine ⟨hB, S, n, c, (hw.block g hlt fun e => (hr g e.symm).2 rfl).trans hh, hc.keep fun k hk => hw.block k (by omega) fun e => ?_⟩
  have := (hr k e.symm).1
  omega

theorem xor_bd (a b : Nat) (ha : a < 2 ^ 62) (hb : b < 2 ^ 62) : 0 ≤ bits .xor .i64 (a : Int) (b : Int) := by
  have hx : a ^^^ b < 2 ^ 62 := Nat.xor_lt_two_pow ha hb
  have h1 : (BitVec.ofInt 64 (a : Int)).toNat = a := by
    rw [BitVec.ofInt_natCast, BitVec.toNat_ofNat]; exact Nat.mod_eq_of_lt (by omega)
  have h2 : (BitVec.ofInt 64 (b : Int)).toNat = b := by
    rw [BitVec.ofInt_natCast, BitVec.toNat_ofNat]; exact Nat.mod_eq_of_lt (by omega)
  show 0 ≤ IntKind.i64.wrap ((BitVec.ofInt 64 (a : Int) ^^^ BitVec.ofInt 64 (b : Int)).toNat : Int)
  rw [BitVec.toNat_xor, h1, h2, IntKind.wrap_i64]
  omega

theorem xor_mod (X m : Int) (h0 : 0 ≤ X) (h1 : X ≤ 1000000000000000) (hm : 1 ≤ m) : 0 ≤ (bits .xor .i64 X (X / 64)).tmod m ∧ (bits .xor .i64 X (X / 64)).tmod m < m := by
  obtain ⟨a, rfl⟩ := Int.eq_ofNat_of_zero_le h0
  obtain ⟨b, hb⟩ := Int.eq_ofNat_of_zero_le (show 0 ≤ (a : Int) / 64 by omega)
  rw [hb]
  have := xor_bd a b (by omega) (by omega)
  exact ⟨Int.tmod_nonneg _ this, Int.tmod_lt_of_pos _ (by omega)⟩

def Picked (w : World) (B g q : Nat) (m : Int) (e : Ending) (w' : World) : Prop :=
  ∃ x : Int, e = .returned (.int .i64 x) ∧ 0 ≤ x ∧ x < max m 1 ∧ Rdr w' B g (q + 1) ∧ w.grownBy w' (some g)

theorem picked_of {w w' : World} {B g q k : Nat} {m : Int} {e : Ending} {S : Option Addr} {n c : Nat} {x : Int} (hB : B ≤ g) (hh : w.heap[g]? = some (.cells #[.slice S n c, .int .i64 q] 56 (0, 0))) (hc : Code w B S n)
    (he : e = .returned (.int .i64 x)) (x1 : 0 ≤ x) (x2 : x < max m 1) (hw : (w.setCell ⟨g, 1, none⟩ (.int .i64 (q + 1))).drewN k = w') : Picked w B g q m e w' := by
  subst hw
  have hg : w.grownBy ((w.setCell ⟨g, 1, none⟩ (.int .i64 (q + 1))).drewN k) (some g) :=
    ⟨rfl, rfl, rfl, by simp [World.setCell], fun j hj hne => Below.heap_setCell _ _ _ _ (fun e => hne (by subst e; rfl))⟩
  refine ⟨x, he, x1, x2, ⟨hB, S, n, c, ?_, hc.keep fun j hj => Below.heap_setCell _ _ _ _ (fun e => by subst e; exact absurd hj (by simp; omega))⟩, hg⟩
  show ((w.setCell ⟨g, 1, none⟩ (.int .i64 (q + 1)))).heap[g]? = _
  simp [World.setCell, Array.getElem?_modify, hh]

set_option maxRecDepth 100000 in
set_option maxHeartbeats 800000 in
theorem r_pick (B g q : Nat) (m : Int) (w : World) (h : Rdr w B g q) (hq : q ≤ 1000000000000) :
    Calls Try.prog 37 #[.pointer (some ⟨g, 0, none⟩), .int .i64 m] w fun e w' => Picked w B g q m e w' := by
  obtain ⟨hB, S, n, c, hh, hc⟩ := h
  have c0 : w.cell? ⟨g, 0, none⟩ = some (.slice S n c) := by simp [World.cell?, hh]
  have c1 : w.cell? ⟨g, 1, none⟩ = some (.int .i64 q) := by simp [World.cell?, hh]
  have f1 : w.frozen? ⟨g, 1, none⟩ = false := by simp [World.frozen?, hh]
  have hlt : g < w.heap.size := Rdr.lt ⟨hB, S, n, c, hh, hc⟩
  have fin := fun e w' x k => picked_of (w' := w') (k := k) (m := m) (e := e) (x := x) hB hh hc
  have Fin := Lib.hid fin
  clear fin
  have Hh := Lib.hid hh
  clear hh
  by_cases hm : m < 1
  · have hc' := Lib.hid hc
    clear hc
    go_enter Try.func37, Try.ntmps37
    go_wp2
    go_ret
    exact Fin.out _ _ 0 0 rfl (by omega) (by omega) rfl
  · rcases hc with rfl | ⟨b, o, rfl, hb, hn, hcell⟩
    · go_enter Try.func37, Try.ntmps37
      go_wp2
      go_ret
      exact Fin.out _ _ 0 0 rfl (by omega) (by omega) rfl
    · by_cases hn0 : n = 0
      · subst hn0
        go_enter Try.func37, Try.ntmps37
        go_wp2
        go_ret
        exact Fin.out _ _ 0 0 rfl (by omega) (by omega) rfl
      · by_cases hqn : q < n
        · obtain ⟨x, x1, x2, hx⟩ := hcell q hqn
          clear hcell
          have hm0 : 0 ≤ x % m := Int.emod_nonneg _ (by omega)
          have hm1 : x % m < m := Int.emod_lt_of_pos _ (by omega)
          have hlt' : b < g := by omega
          go_enter Try.func37, Try.ntmps37
          go_wp2
          go_ret
          exact Fin.out _ _ _ 0 rfl hm0 (by omega) rfl
        · have hpos : 0 < n := by omega
          have r1 := Nat.mod_lt q hpos
          have r2 := Nat.mod_lt (q * 7 + 3) hpos
          obtain ⟨j1, hj1⟩ : ∃ j, q % n = j := ⟨_, rfl⟩
          obtain ⟨j2, hj2⟩ : ∃ j, (q * 7 + 3) % n = j := ⟨_, rfl⟩
          obtain ⟨d, hd⟩ : ∃ d, q / n = d := ⟨_, rfl⟩
          have hdq : d ≤ q := by rw [← hd]; exact Nat.div_le_self q n
          rw [hj1] at r1
          rw [hj2] at r2
          obtain ⟨x, x1, x2, hx⟩ := hcell j1 r1
          obtain ⟨y, y1, y2, hy⟩ := hcell j2 r2
          clear hcell
          have t1 : (q : Int).tmod (n : Int) = (j1 : Int) := by rw [Int.tmod_eq_emod_of_nonneg (by omega), ← hj1]; rfl
          have t2 : ((q : Int) * 7 + 3).tmod (n : Int) = (j2 : Int) := by rw [Int.tmod_eq_emod_of_nonneg (by omega), ← hj2]; rfl
          have t1' : (q : Int) % (n : Int) = (j1 : Int) := by rw [← hj1]; rfl
          have t2' : ((q : Int) * 7 + 3) % (n : Int) = (j2 : Int) := by rw [← hj2]; rfl
          have t3 : (q : Int).tdiv (n : Int) = (d : Int) := by rw [Int.tdiv_eq_ediv_of_nonneg (by omega), ← hd]; rfl
          have t3' : (q : Int) / (n : Int) = (d : Int) := by rw [← hd]; rfl
          have l1 : (j1 : Int) < n := by omega
          have l2 : (j2 : Int) < n := by omega
          have k1 : IntKind.i64.wrap ((q : Int) * 7) = (q : Int) * 7 := IntWalk.i64_in _ (by omega)
          have k2 : IntKind.i64.wrap ((q : Int) * 7 + 3) = (q : Int) * 7 + 3 := IntWalk.i64_in _ (by omega)
          have k3 : IntKind.i64.wrap ((q : Int) * 29) = (q : Int) * 29 := IntWalk.i64_in _ (by omega)
          have k4 : IntKind.i64.wrap ((d : Int) * 53) = (d : Int) * 53 := IntWalk.i64_in _ (by omega)
          have k5 : IntKind.i64.wrap (x * 131) = x * 131 := IntWalk.i64_in _ (by omega)
          have k6 : IntKind.i64.wrap (y * 1117) = y * 1117 := IntWalk.i64_in _ (by omega)
          have k7 : IntKind.i64.wrap (x * 131 + y * 1117) = x * 131 + y * 1117 := IntWalk.i64_in _ (by omega)
          have k8 : IntKind.i64.wrap (x * 131 + y * 1117 + (q : Int) * 29) = x * 131 + y * 1117 + (q : Int) * 29 := IntWalk.i64_in _ (by omega)
          have k9 : IntKind.i64.wrap (x * 131 + y * 1117 + (q : Int) * 29 + (d : Int) * 53) = x * 131 + y * 1117 + (q : Int) * 29 + (d : Int) * 53 := IntWalk.i64_in _ (by omega)
          have hlt' : b < g := by omega
          go_enter Try.func37, Try.ntmps37
          go_wp2
          go_quiet (fail)
          have X1 : 0 ≤ x * 131 + y * 1117 + (q : Int) * 29 + (d : Int) * 53 := by omega
          have X2 : x * 131 + y * 1117 + (q : Int) * 29 + (d : Int) * 53 ≤ 1000000000000000 := by omega
          clear t1 t2 t1' t2' t3 t3' l1 l2 k1 k2 k3 k4 k5 k6 k7 k8 k9 hj1 hj2 hd
          generalize x * 131 + y * 1117 + (q : Int) * 29 + (d : Int) * 53 = X at *
          go_wp2
          go_ret
          have hm' := xor_mod X m X1 X2 (by omega)
          exact Fin.out _ _ _ _ rfl hm'.1 (by omega) rfl
end Go.Proofs.Ytniddfoiakbfdaa

namespace Go.Proofs.Ytniddfoiakbfdaa
set_option maxRecDepth 100000
open Go.RowKit

def Got (P : Int → Prop) (w : World) (B g q : Nat) (e : Ending) (w' : World) : Prop :=
  ∃ x : Int, e = .returned (.int .i64 x) ∧ P x ∧ Rdr w' B g q ∧ w.grownBy w' (some g)

theorem r_one (B g q : Nat) (A : Option Addr) (c : Nat) (xs : List Int) (B' : Nat) (w : World) (h : Rdr w B g q) (hq : q ≤ 1000000000000) (hx : Ints w B' A xs.length xs) (hB : B' ≤ w.heap.size) (hpos : 0 < xs.length) (hl : xs.length ≤ 1000000)
    (hg : ∀ b o, A = some ⟨b, o, none⟩ → b ≠ g) :
    Calls Try.prog 17 #[.pointer (some ⟨g, 0, none⟩), .slice A xs.length c] w fun e w' => Got (· ∈ xs) w B g (q + 1) e w' := by
  rcases hx.2 with h0 | ⟨b, o, rfl, hb, hc⟩
  · omega
  · have hbg := hg b o rfl
    clear hg
    go_enter Try.func17, Try.ntmps17
    go_wp2_with fail
    refine (r_pick B g q _ _ h hq).mono ?_
    rintro e w1 ⟨x, rfl, x1, x2, hr, hw⟩
    obtain ⟨n, rfl⟩ := Int.eq_ofNat_of_zero_le x1
    have hn : n < xs.length := by omega
    have hcell := (World.cell?_of_block (w' := w1) (w := w) (a := ⟨b, o + n, none⟩) (hw.block b (by omega) (by simpa using hbg))).trans (hc n hn)
    clear hc
    have hlt : (n : Int) < xs.length := by omega
    have Hr := Lib.hid hr
    have Hw := Lib.hid hw
    clear hr hw
    go_wp2_with fail
    go_ret
    exact ⟨_, rfl, by simp, Hr.out, Hw.out⟩

theorem sq8 (s : Int) (h1 : 0 ≤ s) (h2 : s ≤ 8) : 0 ≤ s * s ∧ s * s ≤ 64 := by
  have : s = 0 ∨ s = 1 ∨ s = 2 ∨ s = 3 ∨ s = 4 ∨ s = 5 ∨ s = 6 ∨ s = 7 ∨ s = 8 := by omega
  rcases this with rfl | rfl | rfl | rfl | rfl | rfl | rfl | rfl | rfl <;> decide

/-- What a law is told of the code that came in: nil, or a row of bytes. -/
def IsRow (k : IntKind) (w : World) (a : Option Addr) (len cap : Nat) (zs : List Int) : Prop :=
  (a = none ∧ len = 0 ∧ cap = 0 ∧ zs = []) ∨
  ∃ x, a = some x ∧ len ≤ cap ∧ cap ≤ maxLen ∧ zs.length = cap ∧ (∀ i, i < zs.length → w.cell? (x.add i) = some (.int k (zs.getD i 0))) ∧ ∀ n ∈ zs, (Lit.int k n).wf = true

theorem code_of {w : World} {a : Option Addr} {len cap : Nat} {zs : List Int} (h : IsRow .u8 w a len cap zs) (n : Nat) (hn : n ≤ len) (h2 : n ≤ 2000) : Code w w.heap.size a n := by
  by_cases h0 : n = 0
  · exact .inl h0
  · rcases h with ⟨_, h, _⟩ | ⟨x, rfl, hl, _, hz, hcell, hwz⟩
    · omega
    · obtain ⟨b, off, spot⟩ := x
      have hc := hcell 0 (by omega)
      have hspot : spot = none := by simpa [Addr.add] using World.cell?_spot hc
      subst hspot
      refine .inr ⟨b, off, rfl, ?_, h2, fun j hj => ?_⟩
      · exact World.block_lt_of_cell? w _ hc
      · have hj' := hcell j (by omega)
        have e : (⟨b, off, none⟩ : Addr).add j = ⟨b, off + j, none⟩ := by by_cases hj0 : j = 0 <;> simp [Addr.add, hj0]
        rw [e] at hj'
        refine ⟨_, ?_, ?_, hj'⟩
        all_goals
          have hlt : j < zs.length := by omega
          have hm : zs.getD j 0 ∈ zs := by
            rw [List.getD_eq_getElem?_getD, List.getElem?_eq_getElem hlt]; exact List.getElem_mem _
          have := bounds_u8 (hwz _ hm)
          omega

theorem r_new (w : World) (a : Option Addr) (len cap : Nat) (zs : List Int) (h : IsRow .u8 w a len cap zs) :
    Calls Try.prog 14 #[.slice a len cap] w fun e w' => ∃ g, e = .returned (.pointer (some ⟨g, 0, none⟩)) ∧ Rdr w' w.heap.size g 0 ∧ Below w.heap.size w w' := by
  have hcode := code_of h (min len 2000) (by omega) (by omega)
  have hcap : 2000 < len → 2000 ≤ cap := fun hl => by rcases h with ⟨_, h, _⟩ | ⟨x, _, h, _⟩ <;> omega
  have hlen : len ≤ 9223372036854775807 := by
    rcases h with ⟨_, h, _⟩ | ⟨x, _, h, h', _⟩
    · omega
    · unfold maxLen at h'; omega
  have Hc := Lib.hid hcode
  have hn : 2000 < len → a ≠ none := fun hl e => by subst e; rcases h with ⟨_, h, _⟩ | ⟨x, h, _⟩ <;> simp_all
  clear hcode
  by_cases hl : 2000 < len
  · have hcap' := hcap hl
    have hn' := hn hl
    clear hcap hn
    obtain ⟨x, rfl⟩ := Option.ne_none_iff_exists'.1 hn'
    clear hn'
    go_enter Try.func14, Try.ntmps14
    go_wp2
    go_ret
    have hb : Below w.heap.size w (w.alloc (.cells #[.slice (some x) 2000 cap, .int .i64 0] 56)) := (Below.refl _ _).alloc (Nat.le_refl _) _
    refine ⟨_, rfl, ⟨Nat.le_refl _, _, _, _, heap_alloc_new w _, ?_⟩, hb⟩
    have := Hc.out
    rw [Nat.min_eq_right (by omega)] at this
    exact this.keep fun k hk => hb.block k hk
  · clear hcap hn
    go_enter Try.func14, Try.ntmps14
    go_wp2
    go_ret
    have hb : Below w.heap.size w (w.alloc (.cells #[.slice a len cap, .int .i64 0] 56)) := (Below.refl _ _).alloc (Nat.le_refl _) _
    refine ⟨_, rfl, ⟨Nat.le_refl _, _, _, _, heap_alloc_new w _, ?_⟩, hb⟩
    have := Hc.out
    rw [Nat.min_eq_left (by omega)] at this
    exact this.keep fun k hk => hb.block k hk
end Go.Proofs.Ytniddfoiakbfdaa

namespace Go.Proofs.Ytniddfoiakbfdaa
set_option maxRecDepth 100000
open Go.RowKit

theorem r_smallSize (B g q : Nat) (w : World) (h : Rdr w B g q) (hq : q ≤ 1000000000000) :
    Calls Try.prog 59 #[.pointer (some ⟨g, 0, none⟩)] w fun e w' => Got (fun x => 1 ≤ x ∧ x ≤ 7) w B g (q + 1) e w' := by
  have hlt := h.lt
  go_enter Try.func59, Try.ntmps59
  go_wp2_with fail
  have hl := Ints.lit w 3 [3, 4, 5, 3, 2, 4, 6, 7, 1]
  refine (r_one B g q _ _ [3, 4, 5, 3, 2, 4, 6, 7, 1] _ _ (h.below ((Below.refl _ _).alloc (Nat.le_refl _) _) hlt) hq hl (by simp) (by simp) (by simp) (by rintro b o e; injection e with e; injection e; omega)).mono ?_
  rintro e w1 ⟨x, rfl, hx, hr, hw⟩
  have Hr := Lib.hid hr
  have Hw := Lib.hid (gtrans (World.grownBy_alloc w _ (some g)) hw)
  have Hx := Lib.hid hx
  clear hr hw hl hx
  go_wp2_with fail
  go_ret
  refine ⟨_, rfl, ?_, Hr.out, Hw.out⟩
  have := Hx.out
  simp at this
  omega
end Go.Proofs.Ytniddfoiakbfdaa

namespace Go.Proofs.Ytniddfoiakbfdaa
set_option maxRecDepth 100000
open Go.RowKit

/-- A valid board of the call's own that a draw made. -/
def DrawnB (w : World) (B g m : Nat) (q : Nat) (e : Ending) (w' : World) : Prop :=
  ∃ (s : Int) (A : Option Addr) (n c : Nat) (cs : List Int) (q' : Nat), e = .returned (.agg #[.int .i64 s, .slice A n c]) ∧ Own w' m A n c cs ∧ Bd.okB s cs = true ∧ Rdr w' B g q' ∧ q' ≤ q ∧ w.grownBy w' (some g)

theorem Rdr.far {w : World} {B g q : Nat} (h : Rdr w B g q) (p : Addr) (hp : g ≠ p.block) (hB : B ≤ p.block) (u : Value) : Rdr (w.setCell p u) B g q := by
  obtain ⟨hB', S, n, c, hh, hc⟩ := h
  exact ⟨hB', S, n, c, (Below.heap_setCell w p u g hp).trans hh, hc.keep fun j hj => Below.heap_setCell w p u j (by omega)⟩
theorem gset {w w' : World} {row : Option Nat} (h : w.grownBy w' row) (p : Addr) (hp : w.heap.size ≤ p.block) (u : Value) : w.grownBy (w'.setCell p u) row :=
  ⟨h.os, h.tape, h.output, by have := h.size; simpa [World.setCell] using this, fun k hk hne => (Below.heap_setCell w' p u k (by omega)).trans (h.block k hk hne)⟩
theorem okB_mk {s : Int} {cs : List Int} (h1 : 1 ≤ s) (h2 : s ≤ 7) (h3 : (cs.length : Int) = s * s) (h4 : OkL cs) : Bd.okB s cs = true := (Bd.okB_iff s cs).2 ⟨h1, h2, h3, okL_mem.1 h4⟩
theorem okL_zero (n : Nat) : OkL (List.replicate n 0) := okL_mem.2 fun c hc => by rw [List.eq_of_mem_replicate hc]; omega

theorem oth_bd {x : Int} (h1 : 1 ≤ x) (h2 : x ≤ 2) : 1 ≤ oth x ∧ oth x ≤ 2 := by
  have : x = 1 ∨ x = 2 := by omega
  rcases this with rfl | rfl <;> decide

/-- Behind one round's draw. -/
def RoundRel (y : World) (B g q : Nat) (s : Int) (n : Nat) (v8 v10 : Value) (wx : World) : Prop :=
  ∃ g8 ok s' A' n' c' cs', v8 = .pointer (some ⟨g8, 0, none⟩) ∧ v10 = .bool ok ∧ y.heap.size ≤ g8 ∧ Bx 25 wx g8 s' (.slice A' n' c') ∧ (ok = true → s' = s ∧ n' = n ∧ Own wx y.heap.size A' n' c' cs' ∧ OkL cs') ∧
    Rdr wx B g (q + 1) ∧ y.grownBy wx (some g)

set_option maxRecDepth 100000 in
set_option maxHeartbeats 4000000 in
theorem r_played (s : Int) (B g q : Nat) (w : World) (h : Rdr w B g q) (hq : q ≤ 100000000000) (h1 : 1 ≤ s) (h2 : s ≤ 7) :
    Calls Try.prog 64 #[.pointer (some ⟨g, 0, none⟩), .int .i64 s] w fun e w' => DrawnB w B g w.heap.size (q + 100) e w' := by
  have hlt := h.lt
  have hsq := Pt.sq_bd s h1 h2
  obtain ⟨n, hn⟩ : ∃ n : Nat, s * s = n := ⟨(s * s).toNat, by omega⟩
  have hn49 : n ≤ 49 := by omega
  have hn1 : 1 ≤ n := by omega
  have X4 := Lib.hid (Bx.new 25 w 0 (.slice none 0 0))
  have hb1 : Below w.heap.size w (w.alloc (.cells #[.int .i64 0, .slice none 0 0] 25)) := (Below.refl _ _).alloc (Nat.le_refl _) _
  have Hr := Lib.hid (h.below hb1 hlt)
  have Hb := Lib.hid hb1
  have Hn := Lib.hid hn
  have hsz : (w.alloc (.cells #[.int .i64 0, .slice none 0 0] 25)).heap.size = w.heap.size + 1 := by simp
  have Hsz := Lib.hid hsz
  clear h hb1 hn hsz
  go_enter Try.func64, Try.ntmps64
  go_wp2_with fail
  refine (s_new s _).mono ?_
  rintro e y ⟨A1, n1, c1, rfl, ho, hb⟩
  have hs1 : newS s = s := by rw [newS, if_pos ((Pt.okS_iff s).2 ⟨h1, h2⟩)]
  have hc1 : newCs s = List.replicate n 0 := by rw [newCs, if_pos ((Pt.okS_iff s).2 ⟨h1, h2⟩), Hn.out]; simp
  rw [hc1] at ho
  rw [hs1]
  obtain rfl : n1 = n := by have := ho.1; simpa using this.symm
  rw [Hsz.out] at ho
  have Ho := Lib.hid ho
  have X4 := Lib.hid (X4.out.below hb X4.out.lt)
  have Hr := Lib.hid (Hr.out.below hb Hr.out.lt)
  have Hb := Lib.hid (Hb.out.trans (hb.mono (by rw [Hsz.out]; omega)))
  have hzy := hb.size
  have Hne := Lib.hid (fun g' (hA : A1 = some ⟨g', 0, none⟩) => (ho.ge hA).2)
  rw [Hsz.out] at hzy
  clear ho hb hs1 hc1 Hsz
  go_upto_region 2 with (fail)
  obtain ⟨y3, hy3, hb3, z3, z4⟩ := new_box y (.cells #[.int .i64 s, .slice A1 n1 c1] 25)
  have X5 : Hid (Bx 25 y3 y.heap.size s (.slice A1 n1 c1)) := Lib.hid (by rw [hy3]; exact Bx.new _ _ _ _)
  rw [← hy3]
  clear hy3
  have X4 := Lib.hid (X4.out.below hb3 X4.out.lt)
  have Ho := Lib.hid (Ho.out.below hb3)
  have Hr := Lib.hid (Hr.out.below hb3 Hr.out.lt)
  have Hb := Lib.hid (Hb.out.trans (hb3.mono (by omega)))
  clear hb3
  go_wp2_with fail
  refine (r_pick B g q _ _ Hr.out (by omega)).mono ?_
  rintro e y4 ⟨k0, rfl, k1, k2, hr, hg⟩
  have X4 := Lib.hid (X4.out.grown hg (fun e => by have := Option.some.inj e; omega))
  have X5 := Lib.hid (X5.out.grown hg (fun e => by have := Option.some.inj e; omega))
  have Ho := Lib.hid (Ho.out.kept hg (fun g' hA e => by have := (Ho.out.ge hA).1; have := Option.some.inj e; omega))
  have Hg := Lib.hid (gtrans (gbelow (some g) Hb.out (Nat.le_refl _)) hg)
  have Hr := Lib.hid hr
  have z5 := X5.out.lt
  have hk0 : k0 ≤ 98 := by omega
  obtain ⟨k, rfl⟩ := Int.eq_ofNat_of_zero_le k1
  clear hr hg k2
  go_wp2_with fail
  go_loopw [6, 7] (fun v6 v7 wr => ∃ (x : Int) (k q1 : Nat) (A : Option Addr) (c : Nat) (cs : List Int), v6 = .int .i64 x ∧ 1 ≤ x ∧ x ≤ 2 ∧ v7 = .int .i64 (k : Nat) ∧ k + q1 ≤ q + 100 ∧ Bx 25 wr w.heap.size 0 (.slice none 0 0) ∧ Bx 25 wr y.heap.size s (.slice A n1 c) ∧
    Own wr (w.heap.size + 1) A n1 c cs ∧ (∀ g', A = some ⟨g', 0, none⟩ → g' ≠ y.heap.size) ∧ OkL cs ∧ Rdr wr B g q1 ∧ w.grownBy wr (some g)) (fun _ v _ => (intOf v).toNat)
  case atStart => exact ⟨1, k, q + 1, A1, c1, _, rfl, by omega, by omega, rfl, by omega, X4.out, X5.out, Ho.out, fun g' hA => by have := Hne.out g' hA; omega, okL_zero n1, Hr.out, Hg.out⟩
  case round =>
    clear X4 X5 Ho Hr Hg Hb Hne z5 hk0
    obtain ⟨x, r, q1, A, c, cs, rfl, x1, x2, rfl, hkq, hx4, hx5, ho, hne, hok, hr, hg⟩ := hrel
    have X4 := Lib.hid hx4
    have X5 := Lib.hid hx5
    have Hv := Lib.hid (okB_mk h1 h2 (by rw [ho.1]; exact Hn.out.symm) hok)
    have Ho := Lib.hid ho
    have Hne := Lib.hid hne
    have Hok := Lib.hid hok
    have Hr := Lib.hid hr
    have Hg := Lib.hid hg
    have z5 := X5.out.lt
    have zw := hg.size
    clear hx4 hx5 ho hne hok hr hg
    by_cases hk0 : r = 0
    · subst hk0
      have t0 := X5.out.cell0
      have t1 := X5.out.cell1
      have t2 := X4.out.cell0
      have t3 := X4.out.cell1
      have t4 := X4.out.frozen 0
      have t5 := X4.out.frozen 1
      have t6 := X4.out.lt
      go_wp2_with fail
      have k0 := (X4.out.set0 s).cell0
      have k1 := ((X4.out.set0 s).set1 (.slice A n1 c)).cell1
      refine bodyPost_ret (v := .agg #[.int .i64 s, .slice A n1 c]) (by simp [results, Try.results64, go_sem, k0, k1]) rfl ?_
      have ho2 := (Ho.out.far ⟨w.heap.size, 0, none⟩ (fun g' hA => by have := (Ho.out.ge hA).1; show g' ≠ w.heap.size; omega) (.int .i64 s)).far ⟨w.heap.size, 1, none⟩ (fun g' hA => by have := (Ho.out.ge hA).1; show g' ≠ w.heap.size; omega) (.slice A n1 c)
      have hB := Hr.out.1
      have hr2 := (Hr.out.far ⟨w.heap.size, 0, none⟩ (by show g ≠ w.heap.size; omega) (by show B ≤ w.heap.size; omega) (.int .i64 s)).far ⟨w.heap.size, 1, none⟩ (by show g ≠ w.heap.size; omega) (by show B ≤ w.heap.size; omega) (.slice A n1 c)
      have hg2 := gset (gset Hg.out ⟨w.heap.size, 0, none⟩ (Nat.le_refl _) (.int .i64 s)) ⟨w.heap.size, 1, none⟩ (Nat.le_refl _) (.slice A n1 c)
      exact ⟨_, _, _, _, _, q1, rfl, ho2.weaken (by omega), Hv.out, hr2, by omega, hg2⟩
    · obtain ⟨j, rfl⟩ : ∃ j, r = j + 1 := ⟨r - 1, by omega⟩
      have Kw := Lib.hid (show IntKind.i64.wrap (s * s) = s * s from IntWalk.i64_in _ (by omega))
      have t0 := X5.out.cell0
      have t1 := X5.out.cell1
      have t2 := X5.out.lt
      go_upto_region 6 with (fail)
      go_cut [8, 10] (fun v8 v10 wx => RoundRel wr B g q1 s n1 v8 v10 wx)
      case first =>
        go_region_with (first | (go_at_call 37; refine (r_pick B g q1 _ _ (by exact Hr.out) (by omega)).mono ?_; rintro e yp ⟨p0, rfl, p1, p2, hr, hg⟩; have hgw : wr.grownBy yp (some g) := ⟨hg.os, hg.tape, hg.output, hg.size, hg.block⟩; rw [Kw.out, Hn.out] at p2; obtain ⟨p, rfl⟩ := Int.eq_ofNat_of_zero_le p1; have zp := hgw.size; have s0 := (X5.out.grown hgw (fun e => by have := Option.some.inj e; omega)).cell0; have s1 := (X5.out.grown hgw (fun e => by have := Option.some.inj e; omega)).cell1; have s2 := (X5.out.grown hgw (fun e => by have := Option.some.inj e; omega)).lt; have Hop := Lib.hid (Ho.out.kept hgw (fun g' hA e => by have := (Ho.out.ge hA).1; have := Option.some.inj e; omega)); have hpn : p < n1 := (by omega); have Hrp := Lib.hid hr; have Hgp := Lib.hid hgw; clear hr hg hgw p2) | (go_at_call 37; refine (r_pick B g q1 _ _ (by exact (show Rdr (wr.alloc (.cells #[.int .i64 0, .slice none 0 0] 25)) B g q1 from Hr.out.below ((Below.refl wr.heap.size wr).alloc (Nat.le_refl _) _) Hr.out.lt)) (by omega)).mono ?_; rintro e yp ⟨p0, rfl, p1, p2, hr, hg⟩; have hg1 : (wr.alloc (.cells #[.int .i64 0, .slice none 0 0] 25)).grownBy yp (some g) := ⟨hg.os, hg.tape, hg.output, hg.size, hg.block⟩; have hgw : wr.grownBy yp (some g) := gtrans (World.grownBy_alloc wr (.cells #[.int .i64 0, .slice none 0 0] 25) (some g)) hg1; have H8p : Hid (Bx 25 yp wr.heap.size 0 (.slice none 0 0)) := Lib.hid ((Bx.new 25 wr 0 (.slice none 0 0)).grown hg1 (fun e => by have h1 := Option.some.inj e; have h2 := Hr.out.lt; omega)); rw [Kw.out, Hn.out] at p2; obtain ⟨p, rfl⟩ := Int.eq_ofNat_of_zero_le p1; have zp := hgw.size; have s0 := (X5.out.grown hgw (fun e => by have := Option.some.inj e; omega)).cell0; have s1 := (X5.out.grown hgw (fun e => by have := Option.some.inj e; omega)).cell1; have s2 := (X5.out.grown hgw (fun e => by have := Option.some.inj e; omega)).lt; have Hop := Lib.hid (Ho.out.kept hgw (fun g' hA e => by have := (Ho.out.ge hA).1; have := Option.some.inj e; omega)); have hpn : p < n1 := (by omega); have Hrp := Lib.hid hr; have Hgp := Lib.hid hgw; clear hr hg hgw p2) | (go_at_call 78; have H8q := Lib.hid H8p.out; have z8 := H8q.out.lt; refine (s_PlayStone1 s x p false _ yp.heap.size _ _ _ cs (by exact Hop.out.ints) ?_ Hv.out hpn x1 x2).mono ?_; (show yp.heap.size ≤ yp.heap.size; omega); rintro e yq ⟨s', A', n', c', A2, n2, c2, cs', ok, rfl, hwhat, hb⟩; have hbw : Below yp.heap.size yp yq := ⟨hb.os, hb.tape, hb.output, hb.size, hb.block⟩; have H8 := Lib.hid (H8q.out.below hbw H8q.out.lt); have k8a := H8.out.cell0; have k8b := H8.out.cell1; have k8c := H8.out.frozen 0; have k8d := H8.out.frozen 1; have k8e := H8.out.lt; have zq := hbw.size; have s3 := ((X5.out.grown Hgp.out (fun e => by have := Option.some.inj e; omega)).below hbw s2).cell0; have s4 := ((X5.out.grown Hgp.out (fun e => by have := Option.some.inj e; omega)).below hbw s2).cell1; have Hwhat := Lib.hid hwhat; have Hrq := Lib.hid (Hrp.out.below hbw Hrp.out.lt); have Hgq := Lib.hid (gtrans Hgp.out (gbelow (some g) hbw (Nat.le_refl _))); clear hwhat hb hbw) | (go_at_call 78; refine (s_PlayStone1 s x p false _ yp.heap.size _ _ _ cs (by exact Hop.out.ints) ?_ Hv.out hpn x1 x2).mono ?_; (show yp.heap.size ≤ yp.heap.size; omega); rintro e yq ⟨s', A', n', c', A2, n2, c2, cs', ok, rfl, hwhat, hb⟩; have hbw : Below yp.heap.size yp yq := ⟨hb.os, hb.tape, hb.output, hb.size, hb.block⟩; have zq := hbw.size; have s3 := ((X5.out.grown Hgp.out (fun e => by have := Option.some.inj e; omega)).below hbw s2).cell0; have s4 := ((X5.out.grown Hgp.out (fun e => by have := Option.some.inj e; omega)).below hbw s2).cell1; have Hwhat := Lib.hid hwhat; have Hrq := Lib.hid (Hrp.out.below hbw Hrp.out.lt); have Hgq := Lib.hid (gtrans Hgp.out (gbelow (some g) hbw (Nat.le_refl _))); clear hwhat hb hbw) | (go_at_call 78; refine (s_PlayStone1 s x p false (yp.alloc (.cells #[.int .i64 0, .slice none 0 0] 25)) yp.heap.size _ _ _ cs (by exact Hop.out.ints.below ((Below.refl yp.heap.size yp).alloc (Nat.le_refl _) _) (Nat.le_refl _)) ?_ Hv.out hpn x1 x2).mono ?_; (show yp.heap.size ≤ _; simp); rintro e yq ⟨s', A', n', c', A2, n2, c2, cs', ok, rfl, hwhat, hb⟩; have hbw : Below yp.heap.size yp yq := ((Below.refl yp.heap.size yp).alloc (Nat.le_refl _) (.cells #[.int .i64 0, .slice none 0 0] 25)).trans (hb.mono (by simp)); have H8 := Lib.hid ((Bx.new 25 yp 0 (.slice none 0 0)).below hb (by simp)); have Hwk : (yp.alloc (.cells #[.int .i64 0, .slice none 0 0] 25)).heap.size = yp.heap.size + 1 := (by simp); rw [Hwk] at hwhat; have k8a := H8.out.cell0; have k8b := H8.out.cell1; have k8c := H8.out.frozen 0; have k8d := H8.out.frozen 1; have k8e := H8.out.lt; have zq := hbw.size; have s3 := ((X5.out.grown Hgp.out (fun e => by have := Option.some.inj e; omega)).below hbw s2).cell0; have s4 := ((X5.out.grown Hgp.out (fun e => by have := Option.some.inj e; omega)).below hbw s2).cell1; have Hwhat := Lib.hid hwhat; have Hrq := Lib.hid (Hrp.out.below hbw Hrp.out.lt); have Hgq := Lib.hid (gtrans Hgp.out (gbelow (some g) hbw (Nat.le_refl _))); clear hwhat hb hbw))
        all_goals go_wp2_with fail
        all_goals go_meet
        all_goals first | exact ⟨yq.heap.size, ok, s', A', n', c', cs', rfl, rfl, by omega, Bx.new _ _ _ _, fun h => ⟨(Hwhat.out h).1, (Hwhat.out h).2.1, ((Hwhat.out h).2.2.1.weaken (by omega)).alloc _, (Hwhat.out h).2.2.2⟩, Hrq.out.below ((Below.refl _ _).alloc (Nat.le_refl _) _) Hrq.out.lt, gtrans Hgq.out (World.grownBy_alloc yq _ (some g))⟩ | exact ⟨wr.heap.size, ok, s', A', n', c', cs', rfl, rfl, by omega, (H8.out.set0 s').set1 _, fun h => ⟨(Hwhat.out h).1, (Hwhat.out h).2.1, Own.weaken ((((Hwhat.out h).2.2.1).far ⟨wr.heap.size, 0, none⟩ (fun g' hA => by have := ((Hwhat.out h).2.2.1.ge hA).1; show g' ≠ wr.heap.size; omega) (.int .i64 s')).far ⟨wr.heap.size, 1, none⟩ (fun g' hA => by have := ((Hwhat.out h).2.2.1.ge hA).1; show g' ≠ wr.heap.size; omega) (.slice A' n' c')) (by omega), (Hwhat.out h).2.2.2⟩, (Hrq.out.far ⟨wr.heap.size, 0, none⟩ (by have := Hr.out.lt; show g ≠ wr.heap.size; omega) (by have := Hr.out.lt; have := Hr.out.1; show B ≤ wr.heap.size; omega) (.int .i64 s')).far ⟨wr.heap.size, 1, none⟩ (by have := Hr.out.lt; show g ≠ wr.heap.size; omega) (by have := Hr.out.lt; have := Hr.out.1; show B ≤ wr.heap.size; omega) (.slice A' n' c'), gset (gset Hgq.out ⟨wr.heap.size, 0, none⟩ (by show wr.heap.size ≤ wr.heap.size; omega) (.int .i64 s')) ⟨wr.heap.size, 1, none⟩ (by show wr.heap.size ≤ wr.heap.size; omega) (.slice A' n' c')⟩ | exact ⟨yp.heap.size, ok, s', A', n', c', cs', rfl, rfl, by omega, (H8.out.set0 s').set1 _, fun h => ⟨(Hwhat.out h).1, (Hwhat.out h).2.1, Own.weaken ((((Hwhat.out h).2.2.1).far ⟨yp.heap.size, 0, none⟩ (fun g' hA => by have := ((Hwhat.out h).2.2.1.ge hA).1; show g' ≠ yp.heap.size; omega) (.int .i64 s')).far ⟨yp.heap.size, 1, none⟩ (fun g' hA => by have := ((Hwhat.out h).2.2.1.ge hA).1; show g' ≠ yp.heap.size; omega) (.slice A' n' c')) (by omega), (Hwhat.out h).2.2.2⟩, (Hrq.out.far ⟨yp.heap.size, 0, none⟩ (by have := Hr.out.lt; show g ≠ yp.heap.size; omega) (by have := Hr.out.lt; have := Hr.out.1; show B ≤ yp.heap.size; omega) (.int .i64 s')).far ⟨yp.heap.size, 1, none⟩ (by have := Hr.out.lt; show g ≠ yp.heap.size; omega) (by have := Hr.out.lt; have := Hr.out.1; show B ≤ yp.heap.size; omega) (.slice A' n' c'), gset (gset Hgq.out ⟨yp.heap.size, 0, none⟩ (by show wr.heap.size ≤ yp.heap.size; omega) (.int .i64 s')) ⟨yp.heap.size, 1, none⟩ (by show wr.heap.size ≤ yp.heap.size; omega) (.slice A' n' c')⟩
      case rest =>
        obtain ⟨g8, ok, s', A', n', c', cs', rfl, rfl, hg8, hx8, hwhat, hr, hg9⟩ := hcut
        have hBg := hr.1
        have Hr := Lib.hid hr
        have Hg9 := Lib.hid (gtrans Hg.out hg9)
        have X4 := Lib.hid (X4.out.grown hg9 (fun e => by have := Option.some.inj e; omega))
        have X5 := Lib.hid (X5.out.grown hg9 (fun e => by have := Option.some.inj e; omega))
        have X8 := Lib.hid hx8
        have Ho := Lib.hid (Ho.out.kept hg9 (fun g' hA e => by have := (Ho.out.ge hA).1; have := Option.some.inj e; omega))
        clear hx8 hr hg9 t0 t1 t2
        cases ok with
        | false =>
          clear hwhat
          go_wp2_with fail
          go_roundw
          case rel => exact ⟨x, j, q1 + 1, A, c, cs, rfl, x1, x2, by go_num, by omega, X4.out, X5.out, Ho.out, Hne.out, Hok.out, Hr.out, Hg9.out⟩
          case measure => simp [intOf]
        | true =>
          obtain ⟨rfl, rfl, ho', hok'⟩ := hwhat rfl
          have Ho' := Lib.hid ho'
          have Hok' := Lib.hid hok'
          clear hwhat ho' hok'
          have t0 := X8.out.cell0
          have t1 := X8.out.cell1
          have t2 := X8.out.lt
          have t3 := X5.out.cell0
          have t4 := X5.out.cell1
          have t5 := X5.out.frozen 0
          have t6 := X5.out.frozen 1
          have t7 := X5.out.lt
          go_wp2_with fail
          refine (s_opp _ _ x1 x2).mono ?_
          rintro e w9 ⟨rfl, rfl⟩
          go_wp2_with fail
          go_roundw
          case rel =>
            have hr3 := (Hr.out.far ⟨y.heap.size, 0, none⟩ (by show g ≠ y.heap.size; omega) (by show B ≤ y.heap.size; omega) (.int .i64 s')).far ⟨y.heap.size, 1, none⟩ (by show g ≠ y.heap.size; omega) (by show B ≤ y.heap.size; omega) (.slice A' n' c')
            have hg3 := gset (gset Hg9.out ⟨y.heap.size, 0, none⟩ (by show w.heap.size ≤ y.heap.size; omega) (.int .i64 s')) ⟨y.heap.size, 1, none⟩ (by show w.heap.size ≤ y.heap.size; omega) (.slice A' n' c')
            have ho3 := (Ho'.out.far ⟨y.heap.size, 0, none⟩ (fun g' hA => by have := (Ho'.out.ge hA).1; show g' ≠ y.heap.size; omega) (.int .i64 s')).far ⟨y.heap.size, 1, none⟩ (fun g' hA => by have := (Ho'.out.ge hA).1; show g' ≠ y.heap.size; omega) (.slice A' n' c')
            have hx4 := (X4.out.far (p := ⟨y.heap.size, 0, none⟩) (by show w.heap.size ≠ y.heap.size; omega) (.int .i64 s')).far (p := ⟨y.heap.size, 1, none⟩) (by show w.heap.size ≠ y.heap.size; omega) (.slice A' n' c')
            exact ⟨oth x, j, q1 + 1, A', c', cs', rfl, (oth_bd x1 x2).1, (oth_bd x1 x2).2, by go_num, by omega, hx4, (X5.out.set0 s').set1 _, ho3.weaken (by omega), fun g' hA => (by have := (Ho'.out.ge hA).1; omega), Hok'.out, hr3, hg3⟩
          case measure => simp [intOf]
end Go.Proofs.Ytniddfoiakbfdaa

namespace Go.Proofs.Ytniddfoiakbfdaa
set_option maxRecDepth 100000
open Go.RowKit

/-- The call owns the row of n ints xs (in blocks from B on). -/
def OwU (w : World) (B : Nat) (A : Option Addr) (n c : Nat) (xs : List Int) : Prop :=
  xs.length = n ∧ w.ownsRow B 5 1 (.slice A n c) n (xs.map (Value.int .u8))

theorem OwU.nil (w : World) (B : Nat) : OwU w B none 0 0 [] := ⟨rfl, World.ownsRow_nil _ _ _ _⟩
theorem OwU.alloc {w : World} {B n c : Nat} {A : Option Addr} {xs : List Int} (h : OwU w B A n c xs) (o : Obj) : OwU (w.alloc o) B A n c xs := ⟨h.1, h.2.alloc o⟩
theorem OwU.drew {w : World} {B n c : Nat} {A : Option Addr} {xs : List Int} (h : OwU w B A n c xs) : OwU w.drew B A n c xs := h
theorem OwU.drewN {w : World} {B n c : Nat} {A : Option Addr} {xs : List Int} (h : OwU w B A n c xs) (k : Nat) : OwU (w.drewN k) B A n c xs := h
theorem OwU.kept {w w' : World} {B n c : Nat} {A : Option Addr} {xs : List Int} (h : OwU w B A n c xs) {row : Option Nat} (hg : w.grownBy w' row) (hne : ∀ g, A = some ⟨g, 0, none⟩ → row ≠ some g) : OwU w' B A n c xs := by
  refine ⟨h.1, h.2.kept hg ?_⟩
  rcases h.2.2 with ⟨hv, _⟩ | ⟨g, cap, cur, hv, _⟩
  · exact .inl (by rw [hv]; rfl)
  · refine .inr fun e => ?_
    have hA : A = some ⟨g, 0, none⟩ := by injection hv
    subst hA
    exact hne g rfl e.symm
theorem OwU.below {w w' : World} {B n c : Nat} {A : Option Addr} {xs : List Int} (h : OwU w B A n c xs) (hb : Below w.heap.size w w') : OwU w' B A n c xs :=
  h.kept (gbelow none hb (Nat.le_refl _)) (fun g _ => by simp)
/-- A new empty slice that is not nil. -/
theorem OwU.bare (w : World) (B : Nat) (hB : B ≤ w.heap.size) : OwU (w.alloc (.cells #[] 5)) B (some ⟨w.heap.size, 0, none⟩) 0 0 [] :=
  ⟨rfl, World.ownsRow_made w #[] 0 hB (by simp) rfl⟩

theorem info_u8 : (Try.prog.info? 5).map (fun i => (i.zero, i.size, i.bytes)) = some (some (.int .u8 0), 1, 1) := by kernel_rfl

/-- 'append(xs, y)' of one int: the row grows by it, in the same block or in a new one. -/
theorem appU1 {ops : Array Oper} {rest : List Oper} {o : Oper} {a : Act} {Q : Exit → Act → World → Prop} (hgd : o.guard = none) (s x : Operand)
    (ho : o.op = .call { callee := .builtin .append, args := #[s, x], argTypes := #[22, 22] })
    (w : World) (B : Nat) (A : Option Addr) (n c : Nat) (xs : List Int) (y : Int) (G : Nat) (hs : a.eval s = .slice A n c) (hx : a.eval x = .slice (some ⟨G, 0, none⟩) 1 1) (hG : w.heap.size = G)
    (hown : OwU w B A n c xs) (hB : B ≤ w.heap.size) (hn : n ≤ 1000000000)
    (h : ∀ A' c' w', OwU w' B A' (n + 1) c' (xs ++ [y]) → Below B w w' → w.heap.size < w'.heap.size → w.grownBy w' (Value.slice A n c).ownBlock → wpList Try.prog ops Q rest (a.put o.dst (.slice A' (n + 1) c')) w') :
    wpList Try.prog ops Q (o :: rest) a (w.alloc (.cells #[.int .u8 y] 5)) := by
  subst hG
  obtain ⟨i0, hi, hz0, hz1, hz2⟩ := info_parts info_u8
  refine wpList_append_own _ hgd s x 22 ho B 5 i0 (.int .u8 0) 1 1 Try.underlying22 hi hz0 hz1 hz2 rfl (by decide) _ n _ hs (hown.2.alloc _) ⟨w.heap.size, 0, none⟩ 1 1 [.int .u8 y] hx rfl ?_ ?_ ?_ ?_ ?_ ?_
  · intro j u hj
    match j, hj with
    | 0, hj => simp at hj; subst hj; simp [Addr.add]
  · intro u hu; simp at hu; subst hu; rfl
  · unfold maxLen; omega
  · omega
  · simp; omega
  · intro v' w' hown' hgrow hnil
    have hne : v' ≠ .slice none 0 0 := fun e => by have := (hnil.1 e).2; omega
    rcases hown'.2 with ⟨hv, _⟩ | ⟨g, cap, cur, hv, hr⟩
    · exact absurd hv hne
    · subst hv
      have hgr : w.grownBy w' (Value.slice A n c).ownBlock := gtrans (World.grownBy_alloc w _ _) hgrow
      refine h _ _ _ ⟨by simp [hown.1], by simpa using hown'⟩ (below_g hgr hB ?_) ?_ hgr
      · intro k hk
        exact (World.ownsRow.lt hown.2 k hk).1
      · have := hgrow.size; simp at this; omega

theorem OwU.far {w : World} {B n c : Nat} {A : Option Addr} {xs : List Int} (h : OwU w B A n c xs) (p : Addr) (hne : ∀ g, A = some ⟨g, 0, none⟩ → g ≠ p.block) (u : Value) : OwU (w.setCell p u) B A n c xs :=
  h.kept (row := some p.block) ⟨rfl, rfl, rfl, by simp [World.setCell], fun k _ hk => Below.heap_setCell w p u k (fun e => hk (by rw [e]))⟩ (fun g hA e => hne g hA (by injection e with e; exact e.symm))
/-- A row of the call's own that lies from B on is none of the blocks below B. -/
theorem OwU.ge {w : World} {B n c g : Nat} {A : Option Addr} {xs : List Int} (h : OwU w B A n c xs) (hA : A = some ⟨g, 0, none⟩) : B ≤ g ∧ g < w.heap.size := by
  subst hA
  exact World.ownsRow.lt h.2 g rfl
theorem OwU.weaken {w : World} {B B' n c : Nat} {A : Option Addr} {xs : List Int} (h : OwU w B A n c xs) (hB : B' ≤ B) : OwU w B' A n c xs := by
  refine ⟨h.1, h.2.1, ?_⟩
  rcases h.2.2 with h2 | ⟨g, cap, cur, hv, hg, r⟩
  · exact .inl h2
  · exact .inr ⟨g, cap, cur, hv, by omega, r⟩
end Go.Proofs.Ytniddfoiakbfdaa

namespace Go.Proofs.Ytniddfoiakbfdaa.Fm
set_option maxRecDepth 100000

def let_ (c : Int) : Int := if c = 1 then 88 else if c = 2 then 79 else 46
def col (b : Int) : Int := if b = 88 then 1 else if b = 79 then 2 else 0
/-- The byte at place i of the text of a board. -/
def at_ (s : Nat) (cs : List Int) (i : Nat) : Int := if i % (s + 1) = s then 47 else let_ (cs.getD ((s - 1 - i / (s + 1)) * s + i % (s + 1)) 0)
def fmt (s : Nat) (cs : List Int) : List Int := (List.range (s * (s + 1))).map (at_ s cs)

theorem fmt_len (s : Nat) (cs : List Int) : (fmt s cs).length = s * (s + 1) := by simp [fmt]
theorem fmt_take {s : Nat} {cs : List Int} {i : Nat} (h : i < s * (s + 1)) : (fmt s cs).take (i + 1) = (fmt s cs).take i ++ [at_ s cs i] := by
  rw [List.take_succ_eq_append_getElem (by rw [fmt_len]; exact h)]
  simp [fmt]
theorem let_bd (c : Int) : 46 ≤ let_ c ∧ let_ c ≤ 88 ∧ let_ c ≠ 47 := by unfold let_; split <;> (try split) <;> decide
theorem at_bd (s : Nat) (cs : List Int) (i : Nat) : 46 ≤ at_ s cs i ∧ at_ s cs i ≤ 88 := by
  unfold at_; split
  · decide
  · have := let_bd (cs.getD ((s - 1 - i / (s + 1)) * s + i % (s + 1)) 0); omega
theorem at_rc {s k c : Nat} (cs : List Int) (hc : c < s) : at_ s cs (k * (s + 1) + c) = let_ (cs.getD ((s - 1 - k) * s + c) 0) := by
  have e1 : (k * (s + 1) + c) % (s + 1) = c := by rw [Nat.mul_comm, Nat.mul_add_mod]; exact Nat.mod_eq_of_lt (by omega)
  have e2 : (k * (s + 1) + c) / (s + 1) = k := by rw [Nat.mul_comm, Nat.mul_add_div (by omega), Nat.div_eq_of_lt (by omega), Nat.add_zero]
  rw [at_, e1, e2, if_neg (by omega)]
theorem at_end {s k : Nat} (cs : List Int) : at_ s cs (k * (s + 1) + s) = 47 := by
  have e1 : (k * (s + 1) + s) % (s + 1) = s := by rw [Nat.mul_comm, Nat.mul_add_mod]; exact Nat.mod_eq_of_lt (by omega)
  rw [at_, if_pos e1]
theorem col_let {c : Int} (h : 0 ≤ c) (h2 : c ≤ 2) : col (let_ c) = c := by
  have : c = 0 ∨ c = 1 ∨ c = 2 := by omega
  rcases this with rfl | rfl | rfl <;> decide
theorem let_eq {c : Int} (h : 0 ≤ c) (h2 : c ≤ 2) : let_ c = if c = 0 then 46 else if c = 1 then 88 else 79 := by
  have : c = 0 ∨ c = 1 ∨ c = 2 := by omega
  rcases this with rfl | rfl | rfl <;> decide
end Go.Proofs.Ytniddfoiakbfdaa.Fm

namespace Go.Proofs.Ytniddfoiakbfdaa
set_option maxRecDepth 100000
open Go.RowKit

theorem OwU.head {w : World} {B n c : Nat} {A : Option Addr} {xs : List Int} (h : OwU w B A n c xs) (hn : 0 < n) : ∃ g, A = some ⟨g, 0, none⟩ ∧ B ≤ g ∧ ∀ j, j < n → w.cell? ⟨g, 0 + j, none⟩ = some (.int .u8 (xs.getD j 0)) := by
  obtain ⟨g, cap, hv, hg, hlt⟩ := World.ownsRow.form h.2 hn
  have hA : A = some ⟨g, 0, none⟩ := by injection hv
  subst hA
  refine ⟨g, rfl, hg, fun j hj => ?_⟩
  have hj' : j < xs.length := by have := h.1; omega
  have := World.ownsRow.cells h.2 (g := g) rfl j (.int .u8 (xs.getD j 0)) (by simp [List.getElem?_eq_getElem hj', List.getD_eq_getElem?_getD])
  have e : (⟨g, 0, none⟩ : Addr).add j = ⟨g, 0 + j, none⟩ := by by_cases hj0 : j = 0 <;> simp [Addr.add, hj0]
  rw [e] at this
  exact this

theorem let_of {c : Int} (h0 : 0 ≤ c) (h2 : c ≤ 2) : (c = 0 ∧ Fm.let_ c = 46) ∨ (c = 1 ∧ Fm.let_ c = 88) ∨ (c = 2 ∧ Fm.let_ c = 79) := by
  have : c = 0 ∨ c = 1 ∨ c = 2 := by omega
  rcases this with rfl | rfl | rfl <;> decide

set_option maxRecDepth 100000 in
set_option maxHeartbeats 4000000 in
theorem s_formatBoard (s : Nat) (w : World) (B : Nat) (A : Option Addr) (n c : Nat) (cs : List Int) (h : Ints w B A n cs) (hB : B ≤ w.heap.size) (h1 : 1 ≤ s) (h2 : s ≤ 7) (hn : n = s * s) (hok : OkL cs) :
    Calls Try.prog 75 #[.agg #[.int .i64 (s : Nat), .slice A n c]] w fun e w' => e = .returned (.string (strOfNums (Fm.fmt s cs))) ∧ Below w.heap.size w w' := by
  have hb1 : Below w.heap.size w (w.alloc (.cells #[.int .i64 (s : Nat), .slice A n c] 25)) := (Below.refl _ _).alloc (Nat.le_refl _) _
  have x0 := Bx.new 25 w (s : Nat) (.slice A n c)
  have hi := h.below hb1 hB
  have Hl := Lib.hid h.1
  have Hn := Lib.hid hn
  have Hok := Lib.hid hok
  clear h hn hok
  go_enter Try.func75, Try.ntmps75
  go_upto_region 1 with (fail)
  obtain ⟨y, hy⟩ : ∃ y, y = w.alloc (.cells #[.int .i64 (s : Nat), .slice A n c] 25) := ⟨_, rfl⟩
  have hyz : y.heap.size = w.heap.size + 1 := by rw [hy]; simp
  rw [← hy] at x0 hi hb1 ⊢
  have X0 := Lib.hid x0
  have Hi := Lib.hid hi
  have Hb := Lib.hid hb1
  have Hyz := Lib.hid hyz
  clear hy x0 hi hb1 hyz
  have t0 := X0.out.cell0
  have t1 := X0.out.cell1
  have t2 := X0.out.lt
  go_wp2_with fail
  have Ho := Lib.hid (OwU.bare y (w.heap.size + 1) (by rw [Hyz.out]; exact Nat.le_refl _))
  have Hb2 := Lib.hid ((Below.refl (w.heap.size + 1) y).alloc (by rw [Hyz.out]; exact Nat.le_refl _) (.cells #[] 5))
  go_loopw [3, 4] (fun v3 v4 wr => ∃ k A1 n1 c1, k ≤ s ∧ v3 = .slice A1 n1 c1 ∧ v4 = .int .i64 ((s : Int) - 1 - (k : Nat)) ∧ OwU wr (w.heap.size + 1) A1 n1 c1 ((Fm.fmt s cs).take (k * (s + 1))) ∧ Below (w.heap.size + 1) y wr) (fun _ v _ => (intOf v + 1).toNat)
  case atStart => exact ⟨0, _, _, _, by omega, rfl, by simp, by simpa using Ho.out, Hb2.out⟩
  case round =>
    clear Ho Hb2 t0 t1 t2
    obtain ⟨k, A1, n1, c1, hk, rfl, rfl, ho, hb⟩ := hrel
    have X0r := Lib.hid (X0.out.below hb (by omega))
    have Hir := Lib.hid (Hi.out.below hb (by omega))
    have Ho := Lib.hid ho
    have Hbr := Lib.hid hb
    have hzr := hb.size
    clear ho hb
    have t0 := X0r.out.cell0
    have t1 := X0r.out.cell1
    have t2 := X0r.out.lt
    by_cases hks : k < s
    · obtain ⟨r, hr⟩ : ∃ r : Nat, (s : Int) - 1 - (k : Nat) = (r : Nat) := ⟨s - 1 - k, by omega⟩
      have hrs : r < s := by omega
      have hrk : r = s - 1 - k := by omega
      have hrow : r * s + s ≤ s * s := by
        have := Nat.mul_le_mul_right s (show r + 1 ≤ s by omega)
        rw [Nat.add_mul, Nat.one_mul] at this
        exact this
      have hss : s * s ≤ 49 := Nat.le_trans (Nat.mul_le_mul h2 h2) (by decide)
      have hkk : k * (s + 1) + (s + 1) ≤ s * (s + 1) := by
        have := Nat.mul_le_mul_right (s + 1) (show k + 1 ≤ s by omega)
        rw [Nat.add_mul, Nat.one_mul] at this
        exact this
      have hb56 : s * (s + 1) ≤ 56 := Nat.le_trans (Nat.mul_le_mul h2 (show s + 1 ≤ 8 by omega)) (by decide)
      obtain ⟨m, hm⟩ : ∃ m : Nat, r * s = m := ⟨_, rfl⟩
      have hmi : ((r : Nat) : Int) * ((s : Nat) : Int) = (m : Nat) := by rw [← hm]; simp
      have Hm := Lib.hid hm
      have Hrk := Lib.hid hrk
      have hms : m + s ≤ n := by rw [← hm, Hn.out]; exact hrow
      have hm49 : n ≤ 49 := by rw [Hn.out]; exact hss
      obtain ⟨q, hq⟩ : ∃ q : Nat, k * (s + 1) = q := ⟨_, rfl⟩
      obtain ⟨L, hL⟩ : ∃ L : Nat, s * (s + 1) = L := ⟨_, rfl⟩
      rw [hq, hL] at hkk
      rw [hL] at hb56
      have Hq := Lib.hid hq
      have HL := Lib.hid hL
      rw [hr]
      have Hr := Lib.hid hr
      clear hr hm hrk hrow hss hq hL
      go_wp2_with fail
      go_loopw [3, 5] (fun v3 v5 wq => ∃ i A2 n2 c2, i ≤ s ∧ v5 = .int .i64 (i : Nat) ∧ v3 = .slice A2 n2 c2 ∧ OwU wq (w.heap.size + 1) A2 n2 c2 ((Fm.fmt s cs).take (q + i)) ∧ Below (w.heap.size + 1) y wq) (fun _ v _ => s - (intOf v).toNat)
      case atStart => exact ⟨0, _, _, _, by omega, rfl, rfl, by rw [← Hq.out]; exact Ho.out, Hbr.out⟩
      case round =>
        clear Ho Hbr X0r Hir t0 t1 t2 hzr
        obtain ⟨i, A2, n2, c2, hi, rfl, rfl, ho, hb⟩ := hrel
        have X0q := Lib.hid (X0.out.below hb (by omega))
        have Hiq := Lib.hid (Hi.out.below hb (by omega))
        have Ho := Lib.hid ho
        have Hbq := Lib.hid hb
        have hzq := hb.size
        have hn2 : n2 ≤ 56 := by have := ho.1; rw [List.length_take, Fm.fmt_len, HL.out] at this; omega
        have hzy : w.heap.size + 1 ≤ wr.heap.size := by have := Hyz.out; omega
        clear ho hb
        have t0 := X0q.out.cell0
        have t1 := X0q.out.cell1
        have t2 := X0q.out.lt
        by_cases his : i < s
        · obtain ⟨b, o, rfl, hbB, hc⟩ : ∃ b o, A = some ⟨b, o, none⟩ ∧ b < B ∧ ∀ j, j < n → wr.cell? ⟨b, o + j, none⟩ = some (.int .i64 (cs.getD j 0)) := by
            rcases Hiq.out.2 with h0 | ⟨b, o, hA, hbB, hc⟩
            · omega
            · exact ⟨b, o, hA, hbB, hc⟩
          have hck := hc (m + i) (by omega)
          have hx02 := Hok.out (m + i) (by rw [Hl.out]; omega)
          have hta : Fm.at_ s cs (q + i) = Fm.let_ (cs.getD (m + i) 0) := by rw [← Hq.out, Fm.at_rc cs his, ← Hrk.out, Hm.out]
          obtain ⟨x, hx⟩ : ∃ x, cs.getD (m + i) 0 = x := ⟨_, rfl⟩
          rw [hx] at hck hx02 hta
          have hmi2 : (m : Int) + (i : Nat) < n := by omega
          have htk := Fm.fmt_take (cs := cs) (show q + i < s * (s + 1) by rw [HL.out]; omega)
          rw [hta] at htk
          have Htk := Lib.hid htk
          clear hx hc hta htk
          rcases let_of hx02.1 hx02.2 with ⟨rfl, hl⟩ | ⟨rfl, hl⟩ | ⟨rfl, hl⟩
          all_goals
            rw [hl] at Htk
            clear hl hx02
            go_wp2_with (at_builtin; refine appU1 rfl _ _ rfl _ _ _ _ _ _ _ _ rfl rfl rfl Ho.out hzy (by omega) ?_; intro A' c' w9 hown' hb' hlt' hgrow')
            have Ho9 := Lib.hid hown'
            have Hb9 := Lib.hid (Hbq.out.trans hb')
            clear hown' hb' hlt' hgrow'
            go_roundw
            case rel => exact ⟨i + 1, _, _, _, by omega, by go_num, rfl, by rw [← Nat.add_assoc, Htk.out]; exact Ho9.out, Hb9.out⟩
            case measure => simp [intOf]; omega
        · obtain rfl : i = s := by omega
          have hta : Fm.at_ i cs (q + i) = 47 := by rw [← Hq.out]; exact Fm.at_end cs
          have htk := Fm.fmt_take (cs := cs) (show q + i < i * (i + 1) by rw [HL.out]; omega)
          rw [hta] at htk
          have Htk := Lib.hid htk
          clear hta htk
          go_wp2_with (at_builtin; refine appU1 rfl _ _ rfl _ _ _ _ _ _ _ _ rfl rfl rfl Ho.out hzy (by omega) ?_; intro A' c' w9 hown' hb' hlt' hgrow')
          have Ho9 := Lib.hid hown'
          have Hb9 := Lib.hid (Hbq.out.trans hb')
          have He : Hid ((r : Int) - 1 = (i : Int) - 1 - ((k + 1 : Nat) : Int)) := Lib.hid (by have := Hr.out; omega)
          clear hown' hb' hlt' hgrow'
          go_roundw
          case rel => exact ⟨k + 1, _, _, _, by omega, rfl, by rw [He.out], by rw [Nat.add_mul, Nat.one_mul, Hq.out, ← Nat.add_assoc, Htk.out]; exact Ho9.out, Hb9.out⟩
          case measure => simp [intOf]
    · obtain rfl : k = s := by omega
      have hfull : (Fm.fmt k cs).take (k * (k + 1)) = Fm.fmt k cs := List.take_of_length_le (by rw [Fm.fmt_len]; exact Nat.le_refl _)
      have ho := Ho.out
      rw [hfull] at ho
      have hlen := ho.1
      rw [Fm.fmt_len] at hlen
      have hpos : 0 < n1 := by rw [← hlen]; exact Nat.mul_pos (by omega) (by omega)
      obtain ⟨g, rfl, _, hcell⟩ := ho.head hpos
      have hconv := run_convert_bytes_arg (P := Try.prog) wr 22 5 Try.underlying22 Try.underlying5 g 0 n1 c1 (Fm.fmt k cs) ho.1 hcell 9 Try.underlying9
      have he : (k : Int) - 1 - (k : Nat) = -1 := by omega
      have Hfin := Lib.hid ((Hb.out.trans (Hbr.out.mono (by omega))))
      rw [he]
      clear ho hlen hcell hfull he
      go_wp2_with fail
      go_ret
      exact ⟨rfl, Hfin.out⟩
end Go.Proofs.Ytniddfoiakbfdaa

namespace Go.Proofs.Ytniddfoiakbfdaa
set_option maxRecDepth 100000
open Go.RowKit

/-- What a text leads to: where the answer is yes, a valid board of the call's own. -/
def ParsedB (S : ByteArray) (w : World) (e : Ending) (w' : World) : Prop :=
  ∃ (s' : Int) (A : Option Addr) (n c : Nat) (cs : List Int) (ok : Bool), e = .returned (.tuple #[.agg #[.int .i64 s', .slice A n c], .bool ok]) ∧
    (ok = true → Own w' w.heap.size A n c cs ∧ Bd.okB s' cs = true ∧ (strOfNums (Fm.fmt s'.toNat cs)).toList = S.toList) ∧ Below w.heap.size w w'

theorem quo_rem {s p : Nat} (h1 : 1 ≤ s) (hp : p < s * s) : p / s < s ∧ p % s < s := ⟨Nat.div_lt_of_lt_mul hp, Nat.mod_lt _ (by omega)⟩
theorem okL_zero' (n : Nat) : OkL (List.replicate n 0) := okL_mem.2 fun c hc => by rw [List.eq_of_mem_replicate hc]; omega

set_option maxRecDepth 100000 in
set_option maxHeartbeats 4000000 in
theorem s_ParseBoard (S : ByteArray) (w : World) (hS : S.size ≤ 1000000) :
    Calls Try.prog 61 #[.string S] w fun e w' => ParsedB S w e w' := by
  have hb1 : Below w.heap.size w (w.alloc (.cells #[.int .i64 0, .slice none 0 0] 25)) := (Below.refl _ _).alloc (Nat.le_refl _) _
  have x0 := Bx.new 25 w 0 (.slice none 0 0)
  go_enter Try.func61, Try.ntmps61
  go_upto_region 1 with (fail)
  obtain ⟨y, hy⟩ : ∃ y, y = w.alloc (.cells #[.int .i64 0, .slice none 0 0] 25) := ⟨_, rfl⟩
  have hyz : y.heap.size = w.heap.size + 1 := by rw [hy]; simp
  rw [← hy] at x0 hb1 ⊢
  have X0 := Lib.hid x0
  have Hb := Lib.hid hb1
  have Hyz := Lib.hid hyz
  clear hy x0 hb1 hyz
  have t0 := X0.out.cell0
  have t1 := X0.out.cell1
  have t2 := X0.out.frozen 0
  have t3 := X0.out.frozen 1
  have t4 := X0.out.lt
  go_wp2_with fail
  go_loop [4] (fun v => ∃ k : Nat, k ≤ 8 ∧ k ≤ S.size ∧ v = .int .i64 (k : Nat)) (fun v => 8 - (intOf v).toNat)
  case atStart => exact ⟨0, by omega, by omega, rfl⟩
  case round =>
    obtain ⟨k, hk, hkS, rfl⟩ := hrel
    have hround : ∀ P : Prop, (k < S.size ∧ k ≤ 7 ∧ ∃ h : k < S.size, (S[k].toNat : Int) ≠ 47) ∨ ¬ (k < S.size ∧ k ≤ 7 ∧ ∃ h : k < S.size, (S[k].toNat : Int) ≠ 47) := fun _ => Classical.em _
    rcases hround True with ⟨hlt, h7, _, hch⟩ | hno
    · have hb : ((S[k].toNat : Int) != 47) = true := by simpa using hch
      clear hround hch
      go_wp2_with fail
      go_round
      case rel => exact ⟨k + 1, by omega, by omega, by go_num⟩
      case measure => simp [intOf]; omega
    · have hno3 : (¬ k < S.size) ∨ (k < S.size ∧ 7 < k) ∨ (k < S.size ∧ k ≤ 7 ∧ ∃ h : k < S.size, (S[k].toNat : Int) = 47) := by
        by_cases h1 : k < S.size
        · by_cases h2 : k ≤ 7
          · refine .inr (.inr ⟨h1, h2, h1, ?_⟩)
            exact Classical.byContradiction fun h3 => hno ⟨h1, h2, h1, h3⟩
          · exact .inr (.inl ⟨h1, by omega⟩)
        · exact .inl h1
      clear hno hround
      obtain ⟨n, hkk⟩ : ∃ n : Nat, ((k : Nat) : Int) * ((k : Nat) : Int) = (n : Nat) := ⟨k * k, by simp⟩
      obtain ⟨L, hkL⟩ : ∃ L : Nat, ((k : Nat) : Int) * (((k : Nat) : Int) + 1) = (L : Nat) := ⟨k * (k + 1), by simp⟩
      have hnk : n = k * k := by have : ((n : Nat) : Int) = ((k * k : Nat) : Int) := by rw [← hkk]; simp
                                 omega
      have hLk : L = k * (k + 1) := by have : ((L : Nat) : Int) = ((k * (k + 1) : Nat) : Int) := by rw [← hkL]; simp
                                       omega
      have hn64 : n ≤ 64 := by rw [hnk]; exact Nat.le_trans (Nat.mul_le_mul hk hk) (by decide)
      have hL72 : L ≤ 72 := by rw [hLk]; exact Nat.le_trans (Nat.mul_le_mul hk (show k + 1 ≤ 9 by omega)) (by decide)
      have Hnk := Lib.hid hnk
      have HLk := Lib.hid hLk
      clear hnk hLk
      by_cases hv : 1 ≤ k ∧ k ≤ 7
      · have hno2 : (¬ k < S.size) ∨ (k < S.size ∧ ∃ h : k < S.size, (S[k].toNat : Int) = 47) := by
          rcases hno3 with h | ⟨_, h⟩ | ⟨h, _, h'⟩
          · exact .inl h
          · omega
          · exact .inr ⟨h, h'⟩
        clear hno3
        rcases hno2 with hlt | ⟨hlt, _, hch⟩
        all_goals try (have hb : ((S[k].toNat : Int) != 47) = false := by simpa using hch)
        all_goals try clear hch
        all_goals
          have hok : Pt.okS (k : Nat) = true := (Pt.okS_iff _).2 (by omega)
          by_cases hSL : S.size = L
          · have hd : decide ((S.size : Int) = (L : Int)) = true := by rw [hSL]; simp
            have hSn : ((S.size : Int) != (L : Int)) = false := by rw [hSL]; simp
            have hSL1 : S.size ≤ L ∧ L ≤ S.size := by omega
            clear hSL
            go_wp2_with fail
            refine (s_size _ _).mono ?_
            rintro e w' ⟨rfl, rfl⟩
            rw [hok]
            clear hok
            go_wp2_with (at_make; refine make0 rfl _ rfl _ (w.heap.size + 1) _ n rfl rfl (by omega) (by rw [Hyz.out]; exact Nat.le_refl _) ?_; intro w1 hown hbm hltm)
            have Ho := Lib.hid hown
            have zm := hbm.size
            have hyw : w.heap.size + 1 ≤ y.heap.size ∧ y.heap.size ≤ w.heap.size + 1 := by have := Hyz.out; omega
            have X0 := Lib.hid (X0.out.below hbm X0.out.lt)
            have Hb := Lib.hid (Hb.out.trans (hbm.mono (by omega)))
            have Hokz := Lib.hid (okL_zero' n)
            clear hown hbm t0 t1 t2 t3 t4 hSn hd
            obtain ⟨y3, hy3, hb3, z3, z4⟩ := new_box w1 (.cells #[.int .i64 (k : Nat), .slice (some ⟨y.heap.size, 0, none⟩) n n] 25)
            have X5 : Hid (Bx 25 y3 w1.heap.size (k : Nat) (.slice (some ⟨y.heap.size, 0, none⟩) n n)) := Lib.hid (by rw [hy3]; exact Bx.new _ _ _ _)
            rw [← hy3]
            clear hy3
            have X0 := Lib.hid (X0.out.below hb3 X0.out.lt)
            have Ho := Lib.hid (Ho.out.below hb3)
            have Hb := Lib.hid (Hb.out.trans (hb3.mono (by omega)))
            clear hb3
            go_loopw [6] (fun v wr => ∃ (p : Nat) (cs : List Int), p ≤ n ∧ v = .int .i64 (p : Nat) ∧ Own wr (w.heap.size + 1) (some ⟨y.heap.size, 0, none⟩) n n cs ∧ OkL cs ∧ Bx 25 wr w1.heap.size (k : Nat) (.slice (some ⟨y.heap.size, 0, none⟩) n n) ∧ Below (w.heap.size + 1) y3 wr) (fun v _ => n - (intOf v).toNat)
            case atStart => exact ⟨0, _, by omega, rfl, Ho.out, Hokz.out, X5.out, Below.refl _ _⟩
            case round =>
              clear Ho Hokz X5
              obtain ⟨p, cs, hp, rfl, ho, hok, hx5, hbr⟩ := hrel
              have X0 := Lib.hid (X0.out.below hbr (by omega))
              have X5 := Lib.hid hx5
              have Ho := Lib.hid ho
              have Hok := Lib.hid hok
              have Hbr := Lib.hid hbr
              have zr := hbr.size
              clear ho hok hx5 hbr
              have t0 := X5.out.cell0
              have t1 := X5.out.cell1
              have t2 := X5.out.lt
              by_cases hpn : p < n
              · obtain ⟨q, hq⟩ : ∃ q, p / k = q := ⟨_, rfl⟩
                obtain ⟨r, hr⟩ : ∃ r, p % k = r := ⟨_, rfl⟩
                obtain ⟨hq1, hr1⟩ := quo_rem (s := k) (p := p) (by omega) (by rw [← Hnk.out]; exact hpn)
                rw [hq] at hq1
                rw [hr] at hr1
                obtain ⟨j, hj⟩ : ∃ j, (k - 1 - q) * (k + 1) + r = j := ⟨_, rfl⟩
                have hjL : j < L := by
                  have h3 := Nat.mul_le_mul_right (k + 1) (show k - 1 - q + 1 ≤ k by omega)
                  rw [Nat.add_mul, Nat.one_mul] at h3
                  rw [HLk.out, ← hj]
                  omega
                have hjS : j < S.size := by omega
                have e1 : ((p : Nat) : Int).tdiv ((k : Nat) : Int) = (q : Nat) := by rw [Int.tdiv_eq_ediv_of_nonneg (by omega), ← hq]; rfl
                have e1' : ((p : Nat) : Int) / ((k : Nat) : Int) = (q : Nat) := by rw [← hq]; rfl
                have e2 : ((p : Nat) : Int).tmod ((k : Nat) : Int) = (r : Nat) := by rw [Int.tmod_eq_emod_of_nonneg (by omega), ← hr]; rfl
                have e2' : ((p : Nat) : Int) % ((k : Nat) : Int) = (r : Nat) := by rw [← hr]; rfl
                have e3 : IntKind.i64.wrap ((k : Nat) - 1 : Int) = (k : Nat) - 1 := IntWalk.i64_in _ (by omega)
                have e6 : IntKind.i64.wrap (((k : Nat) : Int) + 1) = (k : Nat) + 1 := IntWalk.i64_in _ (by omega)
                have hjc : (j : Int) < S.size := by omega
                obtain ⟨a, ha⟩ : ∃ a, k - 1 - q = a := ⟨_, rfl⟩
                obtain ⟨M, hM⟩ : ∃ M, a * (k + 1) = M := ⟨_, rfl⟩
                have hMj : M + r = j := by rw [← hj, ← hM, ← ha]
                have hMi : ((a : Nat) : Int) * (((k : Nat) : Int) + 1) = (M : Nat) := by rw [← hM]; simp
                have e4 : IntKind.i64.wrap ((k : Nat) - 1 - (q : Nat) : Int) = (a : Nat) := by
                  rw [show ((k : Nat) - 1 - (q : Nat) : Int) = (a : Nat) by omega]
                  exact IntWalk.i64_in _ (by omega)
                have e7 : IntKind.i64.wrap (((a : Nat) : Int) * (((k : Nat) : Int) + 1)) = (M : Nat) := by
                  rw [hMi]
                  exact IntWalk.i64_in _ (by omega)
                have e8 : IntKind.i64.wrap (((M : Nat) : Int) + (r : Nat)) = (j : Nat) := by
                  rw [show ((M : Nat) : Int) + (r : Nat) = (j : Nat) by omega]
                  exact IntWalk.i64_in _ (by omega)
                obtain ⟨v, hv0⟩ : ∃ v, wr.cell? ⟨y.heap.size, p, none⟩ = some v := by
                  have := World.ownsRow.cellAt Ho.out.2 p (by omega)
                  rw [this]
                  exact ⟨_, List.getElem?_eq_getElem (by rw [List.length_map, Ho.out.1]; exact hpn)⟩
                have hf := World.ownsRow.frozenAt Ho.out.2 p
                clear hq hr hj ha hM hMj hMi
                have Hbd : Hid (Below w.heap.size w wr) := Lib.hid (Hb.out.trans (Hbr.out.mono (by omega)))
                by_cases h88 : (S[j].toNat : Int) = 88
                · have hb88 : ((S[j].toNat : Int) == 88) = true := by simpa using h88
                  clear h88
                  go_wp2_with fail
                  go_quiet (fail)
                  clear e1 e1' e2 e2' e3 e4 e6 e7 e8
                  go_wp2_with fail
                  go_roundw
                  case rel => exact ⟨p + 1, _, by omega, by go_num, (Own.stored (Ho.out.drewN nq) p 1).1, Hok.out.set p (by omega) (by omega), (X5.out.drewN nq).far (p := ⟨y.heap.size, p, none⟩) (by show w1.heap.size ≠ y.heap.size; omega) _, (drew_below Hbr.out nq).setCell (by show w.heap.size + 1 ≤ y.heap.size; omega) _⟩
                  case measure => simp [intOf]; omega
                · have hb88 : ((S[j].toNat : Int) == 88) = false := by simpa using h88
                  clear h88
                  by_cases h79 : (S[j].toNat : Int) = 79
                  · have hb79 : ((S[j].toNat : Int) == 79) = true := by simpa using h79
                    clear h79
                    go_wp2_with fail
                    go_quiet (fail)
                    clear e1 e1' e2 e2' e3 e4 e6 e7 e8
                    go_wp2_with fail
                    go_roundw
                    case rel => exact ⟨p + 1, _, by omega, by go_num, (Own.stored (Ho.out.drewN nq) p 2).1, Hok.out.set p (by omega) (by omega), (X5.out.drewN nq).far (p := ⟨y.heap.size, p, none⟩) (by show w1.heap.size ≠ y.heap.size; omega) _, (drew_below Hbr.out nq).setCell (by show w.heap.size + 1 ≤ y.heap.size; omega) _⟩
                    case measure => simp [intOf]; omega
                  · have hb79 : ((S[j].toNat : Int) == 79) = false := by simpa using h79
                    clear h79
                    go_wp2_with fail
                    go_quiet (fail)
                    clear e1 e1' e2 e2' e3 e4 e6 e7 e8
                    go_wp2_with fail
                    go_roundw
                    case rel => exact ⟨p + 1, cs, by omega, by go_num, Ho.out.drewN nq, Hok.out, X5.out.drewN nq, drew_below Hbr.out nq⟩
                    case measure => simp [intOf]; omega
              · obtain rfl : p = n := by omega
                have Hv := Lib.hid ((Bd.okB_iff (k : Nat) cs).2 ⟨by omega, by omega, by rw [Ho.out.1, Hnk.out]; simp, okL_mem.1 Hok.out⟩)
                go_wp2_with fail
                refine (s_formatBoard k _ _ _ p p cs Ho.out.ints (Nat.le_refl _) hv.1 hv.2 Hnk.out Hok.out).mono ?_
                rintro e yf ⟨rfl, hbf⟩
                have X0 := Lib.hid (X0.out.below hbf X0.out.lt)
                have X5 := Lib.hid (X5.out.below hbf X5.out.lt)
                have Ho := Lib.hid (Ho.out.below hbf)
                have Hb := Lib.hid (Hb.out.trans ((Hbr.out.trans (hbf.mono (by omega))).mono (by omega)))
                clear hbf t0 t1 t2
                have t0 := X5.out.cell0
                have t1 := X5.out.cell1
                have t2 := X5.out.lt
                have r0 := X0.out.cell0
                have r1 := X0.out.cell1
                have r2 := X0.out.frozen 0
                have r3 := X0.out.frozen 1
                have r4 := X0.out.lt
                by_cases heq : ((strOfNums (Fm.fmt k cs)).toList == S.toList) = true
                · have hbe : (!(strOfNums (Fm.fmt k cs)).toList == S.toList) = false := by rw [heq]; rfl
                  have Heq := Lib.hid (eq_of_beq heq)
                  have K0 := Lib.hid ((X0.out.set0 (k : Nat)).cell0)
                  have K1 := Lib.hid (((X0.out.set0 (k : Nat)).set1 (.slice (some ⟨y.heap.size, 0, none⟩) p p)).cell1)
                  have Hb3 := Lib.hid ((Hb.out.setCell (p := ⟨w.heap.size, 0, none⟩) (Nat.le_refl _) (.int .i64 (k : Nat))).setCell (p := ⟨w.heap.size, 1, none⟩) (Nat.le_refl _) (.slice (some ⟨y.heap.size, 0, none⟩) p p))
                  have Ho3 := Lib.hid ((Ho.out.far ⟨w.heap.size, 0, none⟩ (fun g hA => by have := (Ho.out.ge hA).1; show g ≠ w.heap.size; omega) (.int .i64 (k : Nat))).far ⟨w.heap.size, 1, none⟩ (fun g hA => by have := (Ho.out.ge hA).1; show g ≠ w.heap.size; omega) (.slice (some ⟨y.heap.size, 0, none⟩) p p))
                  clear heq
                  go_wp2_with fail
                  have k0 := K0.out
                  have k1 := K1.out
                  refine bodyPost_ret (v := .tuple #[.agg #[.int .i64 (k : Nat), .slice (some ⟨y.heap.size, 0, none⟩) p p], .bool true]) (by simp [results, Try.results61, go_sem, k0, k1]) rfl ?_
                  exact ⟨_, _, _, _, cs, _, rfl, fun _ => ⟨Ho3.out.weaken (by omega), Hv.out, Heq.out⟩, Hb3.out⟩
                · have hbe : (!(strOfNums (Fm.fmt k cs)).toList == S.toList) = true := by rw [Bool.eq_false_iff.2 heq]; rfl
                  clear heq
                  have K0 := Lib.hid ((X0.out.set0 0).cell0)
                  have K1 := Lib.hid (((X0.out.set0 0).set1 (.slice none 0 0)).cell1)
                  have Hb3 := Lib.hid ((Hb.out.setCell (p := ⟨w.heap.size, 0, none⟩) (Nat.le_refl _) (.int .i64 0)).setCell (p := ⟨w.heap.size, 1, none⟩) (Nat.le_refl _) (.slice none 0 0))
                  go_wp2_with fail
                  have k0 := K0.out
                  have k1 := K1.out
                  refine bodyPost_ret (v := .tuple #[.agg #[.int .i64 0, .slice none 0 0], .bool false]) (by simp [results, Try.results61, go_sem, k0, k1]) rfl ?_
                  exact ⟨_, _, _, _, [], _, rfl, fun h => (by cases h), Hb3.out⟩
          · have hSn : ((S.size : Int) != (L : Int)) = true := by simp; omega
            go_wp2_with fail
            refine (s_size _ _).mono ?_
            rintro e w' ⟨rfl, rfl⟩
            rw [hok]
            clear hok
            have K0 := Lib.hid ((X0.out.set0 0).cell0)
            have K1 := Lib.hid (((X0.out.set0 0).set1 (.slice none 0 0)).cell1)
            have Hb3 := Lib.hid ((Hb.out.setCell (p := ⟨w.heap.size, 0, none⟩) (Nat.le_refl _) (.int .i64 0)).setCell (p := ⟨w.heap.size, 1, none⟩) (Nat.le_refl _) (.slice none 0 0))
            go_wp2_with fail
            have k0 := K0.out
            have k1 := K1.out
            refine bodyPost_ret (v := .tuple #[.agg #[.int .i64 0, .slice none 0 0], .bool false]) (by simp [results, Try.results61, go_sem, k0, k1]) rfl ?_
            exact ⟨_, _, _, _, [], _, rfl, fun h => (by cases h), Hb3.out⟩
      · rcases hno3 with hlt | ⟨hlt, h7⟩ | ⟨hlt, h7, _, hch⟩
        all_goals try (have hb : ((S[k].toNat : Int) != 47) = false := by simpa using hch)
        all_goals try clear hch
        all_goals
          have hok : Pt.okS (k : Nat) = false := by
            rcases Bool.eq_false_or_eq_true (Pt.okS (k : Nat)) with h | h
            · have := (Pt.okS_iff _).1 h; omega
            · exact h
          go_wp2_with fail
          refine (s_size _ _).mono ?_
          rintro e w' ⟨rfl, rfl⟩
          rw [hok]
          clear hok
          have K0 := Lib.hid ((X0.out.set0 0).cell0)
          have K1 := Lib.hid (((X0.out.set0 0).set1 (.slice none 0 0)).cell1)
          have Hb3 := Lib.hid ((Hb.out.setCell (p := ⟨w.heap.size, 0, none⟩) (Nat.le_refl _) (.int .i64 0)).setCell (p := ⟨w.heap.size, 1, none⟩) (Nat.le_refl _) (.slice none 0 0))
          go_wp2_with fail
          have k0 := K0.out
          have k1 := K1.out
          refine bodyPost_ret (v := .tuple #[.agg #[.int .i64 0, .slice none 0 0], .bool false]) (by simp [results, Try.results61, go_sem, k0, k1]) rfl ?_
          exact ⟨_, _, _, _, [], _, rfl, fun h => (by cases h), Hb3.out⟩
end Go.Proofs.Ytniddfoiakbfdaa

namespace Go.Proofs.Ytniddfoiakbfdaa.Pt
set_option maxRecDepth 100000

def rep (s p : Int) : Nat → Int
  | 0 => p
  | n + 1 => tr s 1 (rep s p n)

theorem tr_in (s k p : Int) (h1 : 1 ≤ s) (h2 : s ≤ 7) (h3 : 0 ≤ p) (h4 : p < s * s) (k1 : 0 ≤ k) (k2 : k < 8) : tr s k p = img s k p := by
  rw [tr, (okP_iff s p).2 ⟨h1, h2, h3, h4⟩, (okK_iff k).2 ⟨k1, k2⟩]; rfl

theorem undone_parts (s k p : Int) (h1 : 1 ≤ s) (h2 : s ≤ 7) (h3 : 0 ≤ p) (h4 : p < s * s) (k1 : 0 ≤ k) (k2 : k < 8) :
    (rep s p 4 == p) = true ∧ (4 ≤ k → (tr s k (tr s k p) == p) = true) ∧ (k < 4 → (tr s (-k % 4) (tr s k p) == p) = true) ∧ (((p + 1) % (s * s) == p) = false → (tr s k ((p + 1) % (s * s)) != tr s k p) = true) := by
  have h := undone_all s k p h1 h2 h3 h4 k1 k2
  rw [tr_in s k p h1 h2 h3 h4 k1 k2]
  simp only [undone, Bool.and_eq_true, Bool.or_eq_true] at h
  refine ⟨h.1.1, fun h4 => ?_, fun h4 => ?_, fun hf => ?_⟩
  · have := h.1.2; rw [if_pos h4] at this; exact this
  · have := h.1.2; rw [if_neg (by omega), show (4 - k) % 4 = -k % 4 by omega] at this; exact this
  · rcases h.2 with h | h
    · rw [h] at hf; cases hf
    · exact h
end Go.Proofs.Ytniddfoiakbfdaa.Pt

namespace Go.Proofs.Ytniddfoiakbfdaa.Bd
set_option maxRecDepth 100000
open Pt

def steps (f : Nat → Nat) (cs : List Int) : Nat → List Int → List Int
  | 0, l => l
  | j + 1, l => (steps f cs j l).set (f j) (cs.getD j 0)

theorem steps_len (f : Nat → Nat) (cs : List Int) (j : Nat) (l : List Int) : (steps f cs j l).length = l.length := by
  induction j with
  | zero => rfl
  | succ j ih => rw [steps, List.length_set, ih]

theorem steps_at {f : Nat → Nat} {cs l : List Int} {j : Nat} (hinj : ∀ a b, a < j → b < j → f a = f b → a = b) (hr : ∀ a, a < j → f a < l.length) {p : Nat} (hp : p < j) : (steps f cs j l)[f p]? = some (cs.getD p 0) := by
  induction j with
  | zero => omega
  | succ j ih =>
    rw [steps, List.getElem?_set]
    by_cases h : f j = f p
    · have hjp : j = p := hinj j p (by omega) hp h
      subst hjp
      rw [if_pos rfl, if_pos (by rw [steps_len]; exact hr j (by omega))]
    · rw [if_neg h]
      exact ih (fun a b ha hb => hinj a b (by omega) (by omega)) (fun a ha => hr a (by omega)) (by
        rcases Nat.lt_or_ge p j with h1 | h1
        · exact h1
        · exact absurd (by rw [show p = j by omega]) h)

theorem steps_one {f : Nat → Nat} {cs l l' : List Int} {n : Nat} (hl : l.length = n) (hl' : l'.length = n) (hinj : ∀ a b, a < n → b < n → f a = f b → a = b) (hr : ∀ a, a < n → f a < n) (hsur : ∀ q, q < n → ∃ p, p < n ∧ f p = q) :
    steps f cs n l = steps f cs n l' := by
  apply List.ext_getElem?
  intro q
  rcases Nat.lt_or_ge q n with hq | hq
  · obtain ⟨p, hp, rfl⟩ := hsur q hq
    rw [steps_at hinj (by rw [hl]; exact hr) hp, steps_at hinj (by rw [hl']; exact hr) hp]
  · rw [List.getElem?_eq_none (by rw [steps_len]; omega), List.getElem?_eq_none (by rw [steps_len]; omega)]

/-- The image of a point, as a natural number. -/
def imgN (s k : Int) (p : Nat) : Nat := (img s k p).toNat

theorem imgN_lt (s k : Int) (n p : Nat) (h1 : 1 ≤ s) (h2 : s ≤ 7) (hn : (n : Int) = s * s) (hp : p < n) : imgN s k p < n ∧ ((imgN s k p : Nat) : Int) = img s k p := by
  have := img_bd s k p h1 h2 (by omega) (by omega)
  unfold imgN
  omega

theorem back (s k p : Int) (h1 : 1 ≤ s) (h2 : s ≤ 7) (h3 : 0 ≤ p) (h4 : p < s * s) (k1 : 0 ≤ k) (k2 : k < 8) :
    img s (if 4 ≤ k then k else -k % 4) (img s k p) = p := by
  have hi := img_bd s k p h1 h2 h3 h4
  obtain ⟨_, u2, u3, _⟩ := undone_parts s k p h1 h2 h3 h4 k1 k2
  by_cases h : 4 ≤ k
  · have := u2 h
    rw [tr_in s k p h1 h2 h3 h4 k1 k2, tr_in s k _ h1 h2 hi.1 hi.2 k1 k2] at this
    rw [if_pos h]; simpa using this
  · have := u3 (by omega)
    rw [tr_in s k p h1 h2 h3 h4 k1 k2, tr_in s _ _ h1 h2 hi.1 hi.2 (by omega) (by omega)] at this
    rw [if_neg h]; simpa using this

theorem imgN_inj (s k : Int) (n : Nat) (h1 : 1 ≤ s) (h2 : s ≤ 7) (hn : (n : Int) = s * s) (k1 : 0 ≤ k) (k2 : k < 8) (a b : Nat) (ha : a < n) (hb : b < n) (h : imgN s k a = imgN s k b) : a = b := by
  have e1 := (imgN_lt s k n a h1 h2 hn ha).2
  have e2 := (imgN_lt s k n b h1 h2 hn hb).2
  have b1 := back s k a h1 h2 (by omega) (by omega) k1 k2
  have b2 := back s k b h1 h2 (by omega) (by omega) k1 k2
  rw [← e1, h, e2, b2] at b1
  omega

theorem imgN_sur (s k : Int) (n : Nat) (h1 : 1 ≤ s) (h2 : s ≤ 7) (hn : (n : Int) = s * s) (k1 : 0 ≤ k) (k2 : k < 8) (q : Nat) (hq : q < n) : ∃ p, p < n ∧ imgN s k p = q := by
  obtain ⟨k', hk', c1, c2, hkk⟩ : ∃ k' : Int, (if 4 ≤ k' then k' else -k' % 4) = k ∧ 0 ≤ k' ∧ k' < 8 ∧ True := by
    by_cases h : 4 ≤ k
    · exact ⟨k, if_pos h, k1, k2, trivial⟩
    · exact ⟨-k % 4, by rw [if_neg (by omega)]; omega, by omega, by omega, trivial⟩
  have hb := back s k' q h1 h2 (by omega) (by omega) c1 c2
  rw [hk'] at hb
  obtain ⟨e1, e2⟩ := imgN_lt s k' n q h1 h2 hn hq
  refine ⟨imgN s k' q, e1, ?_⟩
  unfold imgN at e2 ⊢
  rw [e2, hb]
  rfl

/-- The cells behind a symmetry. -/
def mv (s k : Int) (cs : List Int) : List Int := steps (imgN s k) cs cs.length cs
theorem mv_len (s k : Int) (cs : List Int) : (mv s k cs).length = cs.length := steps_len _ _ _ _
theorem mv_any (s k : Int) (cs l : List Int) (h1 : 1 ≤ s) (h2 : s ≤ 7) (hn : (cs.length : Int) = s * s) (k1 : 0 ≤ k) (k2 : k < 8) (hl : l.length = cs.length) : steps (imgN s k) cs cs.length l = mv s k cs :=
  steps_one hl rfl (fun a b ha hb => imgN_inj s k _ h1 h2 hn k1 k2 a b ha hb) (fun a ha => (imgN_lt s k _ a h1 h2 hn ha).1) (fun q hq => imgN_sur s k _ h1 h2 hn k1 k2 q hq)
end Go.Proofs.Ytniddfoiakbfdaa.Bd

namespace Go.Proofs.Ytniddfoiakbfdaa
set_option maxRecDepth 100000
open Go.RowKit

def imgs (s k : Int) (n : Nat) : List Int := (List.range n).map fun (p : Nat) => Pt.img s k p
theorem imgs_len (s k : Int) (n : Nat) : (imgs s k n).length = n := by simp [imgs]
theorem imgs_at (s k : Int) (n j : Nat) (h : j < n) : (imgs s k n).getD j 0 = Pt.img s k j := by
  simp [imgs, List.getD_eq_getElem?_getD, h]

end Go.Proofs.Ytniddfoiakbfdaa

namespace Go.Proofs.Ytniddfoiakbfdaa
set_option maxRecDepth 100000
open Go.RowKit

def trOk (s : Int) (cs : List Int) (k : Int) : Bool := Bd.okB s cs && Pt.okK k
def trS (s : Int) (cs : List Int) (k : Int) : Int := if trOk s cs k then s else 0
def trCs (s : Int) (cs : List Int) (k : Int) : List Int := if trOk s cs k then Bd.mv s k cs else []

end Go.Proofs.Ytniddfoiakbfdaa

namespace Go.Proofs.Ytniddfoiakbfdaa
set_option maxRecDepth 100000
open Go.RowKit

set_option maxHeartbeats 400000 in
theorem s_transform (s k p : Int) (w : World) (h1 : 1 ≤ s) (h2 : s ≤ 7) (h3 : 0 ≤ p) (h4 : p < s * s) (k1 : 0 ≤ k) (k2 : k < 8) :
    Calls Try.prog 77 #[.int .i64 s, .int .i64 k, .int .i64 p] w fun e w' => e = .returned (.int .i64 (Pt.img s k p)) ∧ w = w' := by
  have hb := Pt.sq_bd s h1 h2
  obtain ⟨d1, d2, d3, d4, d5⟩ := Pt.dm s p h1 h2 h3 h4
  clear d5
  by_cases h4k : 4 ≤ k
  all_goals
    go_enter Try.func77, Try.ntmps77
    go_wp2
    go_loop [7, 8, 9] (fun r c i => ∃ n : Nat, n ≤ (k % 4).toNat ∧ i = .int .i64 n ∧ r = .int .i64 (Pt.rot s n (Pt.beg s k p)).1 ∧ c = .int .i64 (Pt.rot s n (Pt.beg s k p)).2) (fun _ _ i => (k % 4).toNat - (intOf i).toNat)
    case atStart => exact ⟨0, Nat.zero_le _, rfl, rfl, by simp only [Pt.rot, Pt.beg]; split <;> first | rfl | omega⟩
    case round =>
      obtain ⟨n, hn, rfl, rfl, rfl⟩ := hrel
      have hr := Pt.rot_bd s n _ (Pt.beg_bd s k p h1 h2 h3 h4)
      have hl := Pt.lin_bd s _ _ h1 h2 hr.1 hr.2.1 hr.2.2.1 hr.2.2.2
      obtain ⟨r1, r2, r3, r4⟩ := hr
      obtain ⟨l1, l2, l3, l4⟩ := hl
      by_cases hlt : (n : Int) < k % 4
      · go_wp2
        go_round
        case rel => exact ⟨n + 1, by omega, by go_num, rfl, rfl⟩
        case measure => simp [intOf]; omega
      · have hm : (k % 4).toNat = n := by omega
        have H := Lib.hid hm
        clear hm
        go_wp2
        go_ret
        exact ⟨ret_int (by rw [Pt.img, H.out]), rfl⟩
end Go.Proofs.Ytniddfoiakbfdaa

namespace Go.Proofs.Ytniddfoiakbfdaa
set_option maxRecDepth 100000
open Go.RowKit

theorem s_rangeK7 (k : Int) (w : World) : Calls Try.prog 22 #[.int .i64 k, .int .i64 0, .int .i64 7] w fun e w' => e = .returned (.bool (Pt.okK k)) ∧ w = w' :=
  (s_range k 0 7 w).mono fun e w' h => ⟨by rw [h.1]; exact ret_bool (by unfold Pt.okK; congr 1; exact decide_eq_decide.2 (by omega)), h.2⟩

set_option maxHeartbeats 1600000 in
theorem s_transformBoard (s k : Int) (w : World) (B : Nat) (A : Option Addr) (n c : Nat) (cs : List Int) (h : Ints w B A n cs) (hB : B ≤ w.heap.size) (h1 : 1 ≤ s) (h2 : s ≤ 7) (hns : (n : Int) = s * s) (k1 : 0 ≤ k) (k2 : k < 8) :
    Calls Try.prog 63 #[.agg #[.int .i64 s, .slice A n c], .int .i64 k] w fun e w' => Made s (Bd.mv s k cs) w e w' := by
  have e1 : (w.alloc (.cells #[.int .i64 s, .slice A n c] 25)).heap.size = w.heap.size + 1 := by simp
  have x0 := (Bx.new 25 w s (.slice A n c)).alloc (.cells #[.int .i64 0, .slice none 0 0] 25)
  have x1 := Bx.new 25 (w.alloc (.cells #[.int .i64 s, .slice A n c] 25)) 0 (.slice none 0 0)
  rw [e1] at x1
  have hb2 : Below w.heap.size w ((w.alloc (.cells #[.int .i64 s, .slice A n c] 25)).alloc (.cells #[.int .i64 0, .slice none 0 0] 25)) := ((Below.refl _ _).alloc (Nat.le_refl _) _).alloc (by simp) _
  have hl := h.1
  have H := Lib.hid (h.below hb2 hB)
  have X0 := Lib.hid x0
  have X1 := Lib.hid x1
  have Hb := Lib.hid hb2
  clear e1 x0 x1 hb2 h
  have hsq := Pt.sq_bd s h1 h2
  have hn49 : n ≤ 49 := by omega
  have hn1 : 0 < n := by omega
  have hle : (n : Int) ≤ s * s := by omega
  have Hns := Lib.hid hns
  have Hl := Lib.hid hl
  clear hns hl
  go_enter Try.func63, Try.ntmps63
  go_wp2_with fail
  refine (s_copyBoard _ _ _ _ _ _ _ H.out (by simp; omega) (by omega)).mono ?_
  rintro e y ⟨A1, c1, rfl, ho, hb⟩
  have X0 := Lib.hid (X0.out.below hb X0.out.lt)
  have X1 := Lib.hid (X1.out.below hb X1.out.lt)
  have H := Lib.hid (H.out.below hb (by simp; omega))
  have Hb := Lib.hid (Hb.out.trans (hb.mono (by simp; omega)))
  have Ho := Lib.hid (ho.weaken (B' := w.heap.size + 1 + 1) (by simp))
  have hA1 : ∃ g, A1 = some ⟨g, 0, none⟩ := by
    obtain ⟨g, cap, hv, _⟩ := World.ownsRow.form ho.2 (by omega)
    exact ⟨g, by injection hv⟩
  obtain ⟨g, hA1⟩ := hA1
  have hg1 := (Ho.out.ge hA1).1
  have hg2 := (ho.ge hA1).2
  rw [hA1] at Ho ⊢
  clear hb ho hA1
  have z1 := X1.out.lt
  have u00 := X0.out.cell0
  have u01 := X0.out.cell1
  have u02 := X0.out.lt
  go_wp2_with fail
  obtain ⟨y3, hy3, hb3, z3, z4⟩ := new_box y (.cells #[.int .i64 s, .slice (some ⟨g, 0, none⟩) n c1] 25)
  have X3 : Hid (Bx 25 y3 y.heap.size s (.slice (some ⟨g, 0, none⟩) n c1)) := Lib.hid (by rw [hy3]; exact Bx.new _ _ _ _)
  rw [← hy3]
  clear hy3 u00 u01
  have X0 := Lib.hid (X0.out.below hb3 X0.out.lt)
  have X1 := Lib.hid (X1.out.below hb3 X1.out.lt)
  have H := Lib.hid (H.out.below hb3 (by omega))
  have Ho := Lib.hid (Ho.out.below hb3)
  have Hb := Lib.hid (Hb.out.trans (hb3.mono (by omega)))
  clear hb3
  go_loopw [6] (fun i wr => ∃ j : Nat, j ≤ n ∧ i = .int .i64 j ∧ Own wr (w.heap.size + 1 + 1) (some ⟨g, 0, none⟩) n c1 (Bd.steps (Bd.imgN s k) cs j cs) ∧ Bx 25 wr y.heap.size s (.slice (some ⟨g, 0, none⟩) n c1) ∧ Below (w.heap.size + 1 + 1) y3 wr) (fun i _ => n - (intOf i).toNat)
  case atStart => exact ⟨0, by omega, rfl, Ho.out, X3.out, Below.refl _ _⟩
  case round =>
    clear X3 Ho
    obtain ⟨j, hj, rfl, ho, hx3, hbr⟩ := hrel
    have X0r := Lib.hid (X0.out.below hbr (by omega))
    have X1r := Lib.hid (X1.out.below hbr (by omega))
    have Hir := Lib.hid (H.out.below hbr (by omega))
    have Hbw := Lib.hid (Hb.out.trans (hbr.mono (by omega)))
    have Ho := Lib.hid ho
    have X3 := Lib.hid hx3
    have Hbr := Lib.hid hbr
    clear ho hx3 hbr
    have v00 := X0r.out.cell0
    have v01 := X0r.out.cell1
    have v02 := X0r.out.lt
    have v30 := X3.out.cell0
    have v31 := X3.out.cell1
    have v32 := X3.out.lt
    by_cases hjn : j < n
    · have hA : ∃ b o, A = some ⟨b, o, none⟩ ∧ b < B ∧ wr.cell? ⟨b, o + j, none⟩ = some (.int .i64 (cs.getD j 0)) := by
        rcases Hir.out.2 with h0 | ⟨b, o, hA, hbB, hc⟩
        · omega
        · exact ⟨b, o, hA, hbB, hc j hjn⟩
      obtain ⟨b, o, hA, hbB, hck⟩ := hA
      have HA := Lib.hid hA
      rw [hA] at v01
      clear hA
      obtain ⟨m1, m2⟩ := Bd.imgN_lt s k n j h1 h2 Hns.out hjn
      have hjs : (j : Int) < s * s := by omega
      have hcell : ∃ u, wr.cell? ⟨g, Bd.imgN s k j, none⟩ = some u := by
        have := World.ownsRow.cellAt Ho.out.2 (Bd.imgN s k j) (by omega)
        rw [this]
        exact ⟨_, List.getElem?_eq_getElem (by rw [List.length_map, Ho.out.1]; exact m1)⟩
      obtain ⟨u, hu⟩ := hcell
      have hf := World.ownsRow.frozenAt Ho.out.2 (Bd.imgN s k j)
      have hst : Own (wr.setCell ⟨g, Bd.imgN s k j, none⟩ (.int .i64 (cs.getD j 0))) (w.heap.size + 1 + 1) (some ⟨g, 0, none⟩) n c1 (Bd.steps (Bd.imgN s k) cs (j + 1) cs) := (Ho.out.stored (Bd.imgN s k j) (cs.getD j 0)).1
      obtain ⟨x, hx⟩ : ∃ x, cs.getD j 0 = x := ⟨_, rfl⟩
      obtain ⟨q, hq⟩ : ∃ q, Bd.imgN s k j = q := ⟨_, rfl⟩
      rw [hx] at hst hck
      rw [hq] at hst hu hf m1 m2
      have hqn : (q : Int) < n := by omega
      have hjn' : (j : Int) < n := by omega
      have Hst := Lib.hid hst
      have M2 := Lib.hid m2
      clear hx hq m2 hst
      go_wp2_with fail
      go_region_with (go_at_call 77; refine (s_transform s k j _ h1 h2 (by omega) hjs k1 k2).mono ?_; rintro e w9 ⟨rfl, rfl⟩; rw [← M2.out])
      all_goals go_wp2_with fail
      all_goals go_roundw
      all_goals try (simp [intOf]; omega)
      all_goals exact ⟨j + 1, by omega, by go_num, Own.drew Hst.out, X3.out.far (p := ⟨g, q, none⟩) (by show y.heap.size ≠ g; omega) (.int .i64 x), Below.drew (Hbr.out.setCell hg1 _)⟩
    · have hjn2 : j = n := by omega
      have hfin : Own wr (w.heap.size + 1 + 1) (some ⟨g, 0, none⟩) n c1 (Bd.mv s k cs) := by
        have := Ho.out
        rw [hjn2, ← Hl.out] at this
        rw [← Hl.out]
        exact this
      clear hjn2
      have ho2 := (hfin.far ⟨w.heap.size + 1, 0, none⟩ (fun g hA => by have := (hfin.ge hA).1; show g ≠ w.heap.size + 1; omega) (.int .i64 s)).far ⟨w.heap.size + 1, 1, none⟩ (fun g hA => by have := (hfin.ge hA).1; show g ≠ w.heap.size + 1; omega) (.slice (some ⟨g, 0, none⟩) n c1)
      have hb3 := (Hbw.out.setCell (p := ⟨w.heap.size + 1, 0, none⟩) (by show w.heap.size ≤ w.heap.size + 1; omega) (.int .i64 s)).setCell (p := ⟨w.heap.size + 1, 1, none⟩) (by show w.heap.size ≤ w.heap.size + 1; omega) (.slice (some ⟨g, 0, none⟩) n c1)
      have Ho2 := Lib.hid ho2
      have Hb3 := Lib.hid hb3
      have K0 := Lib.hid ((X1r.out.set0 s).cell0)
      have K1 := Lib.hid (((X1r.out.set0 s).set1 (.slice (some ⟨g, 0, none⟩) n c1)).cell1)
      have v10 := X1r.out.cell0
      have v11 := X1r.out.cell1
      have v12 := X1r.out.frozen 0
      have v13 := X1r.out.frozen 1
      have v14 := X1r.out.lt
      clear hfin ho2 hb3
      go_wp2_with fail
      have k0 := K0.out
      have k1 := K1.out
      refine bodyPost_ret (v := .agg #[.int .i64 s, .slice (some ⟨g, 0, none⟩) n c1]) (by simp [results, Try.results63, go_sem, k0, k1]) rfl ?_
      exact ⟨_, _, _, rfl, Ho2.out.weaken (by omega), Hb3.out⟩

end Go.Proofs.Ytniddfoiakbfdaa

namespace Go.Proofs.Ytniddfoiakbfdaa
set_option maxRecDepth 100000
open Go.RowKit

theorem okL_steps {f : Nat → Nat} {cs l : List Int} (hc : OkL cs) (hl : OkL l) (j : Nat) (hj : j ≤ cs.length) : OkL (Bd.steps f cs j l) := by
  induction j with
  | zero => exact hl
  | succ j ih =>
    have h1 := hc j (by omega)
    exact (ih (by omega)).set _ h1.1 h1.2
theorem okL_mv {s k : Int} {cs : List Int} (hc : OkL cs) : OkL (Bd.mv s k cs) := okL_steps hc hc _ (Nat.le_refl _)
theorem okL_oth {cs : List Int} (hc : OkL cs) : OkL (othCs cs) := by
  rw [okL_mem] at hc ⊢
  intro c hm
  unfold othCs at hm
  obtain ⟨x, hx, rfl⟩ := List.mem_map.1 hm
  have := hc x hx
  have h3 : x = 0 ∨ x = 1 ∨ x = 2 := by omega
  rcases h3 with rfl | rfl | rfl <;> decide
theorem okB_oth {s : Int} {cs : List Int} (h : Bd.okB s cs = true) : Bd.okB s (othCs cs) = true := by
  obtain ⟨a, b, c, d⟩ := (Bd.okB_iff s cs).1 h
  exact (Bd.okB_iff s _).2 ⟨a, b, by rw [othCs_len]; exact c, okL_mem.1 (okL_oth (okL_mem.2 d))⟩
theorem okB_mv {s k : Int} {cs : List Int} (h : Bd.okB s cs = true) : Bd.okB s (Bd.mv s k cs) = true := by
  obtain ⟨a, b, c, d⟩ := (Bd.okB_iff s cs).1 h
  exact (Bd.okB_iff s _).2 ⟨a, b, by rw [Bd.mv_len]; exact c, okL_mem.1 (okL_mv (okL_mem.2 d))⟩
theorem okB_new {s : Int} (h1 : 1 ≤ s) (h2 : s ≤ 7) : Bd.okB s (List.replicate (s * s).toNat 0) = true := by
  have := Pt.sq_bd s h1 h2
  exact (Bd.okB_iff s _).2 ⟨h1, h2, by rw [List.length_replicate]; omega, okL_mem.1 (okL_zero _)⟩

/-- The texts of the corners. -/
def Nine (w : World) (g : Nat) : Prop := ∀ j, j < 9 → ∃ S : ByteArray, w.cell? ⟨g, j, none⟩ = some (.string S) ∧ S.size ≤ 100

theorem r_corners (w : World) : Calls Try.prog 60 #[] w fun e w' => e = .returned (.slice (some ⟨w.heap.size, 0, none⟩) 9 9) ∧ Nine w' w.heap.size ∧ Below w.heap.size w w' := by
  go_enter Try.func60, Try.ntmps60
  go_wp2_with fail
  go_ret
  refine ⟨rfl, fun j hj => ?_, (Below.refl _ _).alloc (Nat.le_refl _) _⟩
  rw [World.cell?_alloc_at _ _ _ _ rfl]
  match j, hj with
  | 0, _ => exact ⟨_, rfl, by decide⟩
  | 1, _ => exact ⟨_, rfl, by decide⟩
  | 2, _ => exact ⟨_, rfl, by decide⟩
  | 3, _ => exact ⟨_, rfl, by decide⟩
  | 4, _ => exact ⟨_, rfl, by decide⟩
  | 5, _ => exact ⟨_, rfl, by decide⟩
  | 6, _ => exact ⟨_, rfl, by decide⟩
  | 7, _ => exact ⟨_, rfl, by decide⟩
  | 8, _ => exact ⟨_, rfl, by decide⟩

set_option maxRecDepth 100000 in
set_option maxHeartbeats 8000000 in
theorem r_random (B g q : Nat) (w : World) (h : Rdr w B g q) (hq : q ≤ 10000000000) :
    Calls Try.prog 36 #[.pointer (some ⟨g, 0, none⟩)] w fun e w' => DrawnB w B g w.heap.size (q + 200) e w' := by
  have hlt := h.lt
  have hb1 : Below w.heap.size w (w.alloc (.cells #[.int .i64 0, .slice none 0 0] 25)) := (Below.refl _ _).alloc (Nat.le_refl _) _
  have X2 := Lib.hid (Bx.new 25 w 0 (.slice none 0 0))
  have Hr := Lib.hid (h.below hb1 hlt)
  have Hb := Lib.hid hb1
  clear h hb1
  go_enter Try.func36, Try.ntmps36
  go_wp2_with fail
  refine (r_pick B g q _ _ Hr.out (by omega)).mono ?_
  rintro e y ⟨x0, rfl, k1, k2, hr, hg⟩
  have X2 := Lib.hid (X2.out.grown hg (fun e => by have := Option.some.inj e; omega))
  have Hg := Lib.hid (gtrans (gbelow (some g) Hb.out (Nat.le_refl _)) hg)
  have Hr := Lib.hid hr
  have z2 := X2.out.lt
  clear hr hg Hb
  by_cases h0 : x0 = 0
  · subst h0
    clear k1 k2
    go_wp2_with fail
    refine (r_smallSize B g (q + 1) _ Hr.out (by omega)).mono ?_
    rintro e y2 ⟨s, rfl, ⟨s1, s2⟩, hr, hg⟩
    have X2 := Lib.hid (X2.out.grown hg (fun e => by have := Option.some.inj e; omega))
    have Hg := Lib.hid (gtrans Hg.out hg)
    have Hr := Lib.hid hr
    have z3 := X2.out.lt
    have hsq := Pt.sq_bd s s1 s2
    clear hr hg
    go_wp2_with fail
    refine (s_new s _).mono ?_
    rintro e y3 ⟨A1, n, c1, rfl, ho, hb⟩
    have hs1 : newS s = s := by rw [newS, if_pos ((Pt.okS_iff s).2 ⟨s1, s2⟩)]
    have hc1 : newCs s = List.replicate (s * s).toNat 0 := by rw [newCs, if_pos ((Pt.okS_iff s).2 ⟨s1, s2⟩)]
    rw [hc1] at ho
    rw [hs1]
    have hn : (s * s).toNat = n := by have := ho.1; simpa using this
    rw [hn] at ho
    have Hn : Hid (((n : Nat) : Int) = s * s) := Lib.hid (by omega)
    have hn49 : n ≤ 49 := by omega
    have zz := hb.size
    have X2 := Lib.hid (X2.out.below hb X2.out.lt)
    have Ho := Lib.hid ho
    have Hr := Lib.hid (Hr.out.below hb Hr.out.lt)
    have Hg := Lib.hid (gtrans Hg.out (gbelow (some g) hb (Nat.le_refl _)))
    clear hb hs1 hc1 ho hn
    go_upto_region 4 with (fail)
    obtain ⟨y4, hy4, hb4, z4, z5⟩ := new_box y3 (.cells #[.int .i64 s, .slice A1 n c1] 25)
    have X3 : Hid (Bx 25 y4 y3.heap.size s (.slice A1 n c1)) := Lib.hid (by rw [hy4]; exact Bx.new _ _ _ _)
    rw [← hy4]
    clear hy4
    have X2 := Lib.hid (X2.out.below hb4 X2.out.lt)
    have Hr := Lib.hid (Hr.out.below hb4 Hr.out.lt)
    have Hra := Lib.hid (fun g' (hA : A1 = some ⟨g', 0, none⟩) => (Ho.out.ge hA).2)
    have Ho := Lib.hid (Ho.out.below hb4)
    have Hg := Lib.hid (gtrans Hg.out (gbelow (some g) hb4 (Nat.le_refl _)))
    clear hb4
    go_wp2_with fail
    go_loopw [4] (fun v wr => ∃ (p q1 : Nat) (cs : List Int), p ≤ n ∧ v = .int .i64 (p : Nat) ∧ q1 = q + 2 + p ∧ Own wr y2.heap.size A1 n c1 cs ∧ OkL cs ∧ Bx 25 wr w.heap.size 0 (.slice none 0 0) ∧ Bx 25 wr y3.heap.size s (.slice A1 n c1) ∧ Rdr wr B g q1 ∧ w.grownBy wr (some g)) (fun v _ => n - (intOf v).toNat)
    case atStart => exact ⟨0, q + 2, _, by omega, rfl, rfl, Ho.out, okL_zero n, X2.out, X3.out, Hr.out, Hg.out⟩
    case round =>
      clear X2 X3 Ho Hr Hg
      obtain ⟨p, q1, cs, hp, rfl, hq1, ho, hok, hx2, hx3, hr, hg⟩ := hrel
      have X2 := Lib.hid hx2
      have X3 := Lib.hid hx3
      have Ho := Lib.hid ho
      have Hok := Lib.hid hok
      have Hr := Lib.hid hr
      have Hg := Lib.hid hg
      have hq2 : q1 ≤ q + 60 := by omega
      have Hq1 := Lib.hid hq1
      clear ho hok hx2 hx3 hr hg hq1
      have t0 := X3.out.cell0
      have t1 := X3.out.cell1
      have t2 := X3.out.lt
      by_cases hpn : p < n
      · obtain ⟨ga, hA1⟩ : ∃ ga, A1 = some ⟨ga, 0, none⟩ := by
          obtain ⟨ga, cap, hv, _⟩ := World.ownsRow.form Ho.out.2 (by omega)
          exact ⟨ga, by injection hv⟩
        subst hA1
        have hga1 := (Ho.out.ge rfl).1
        have hga2 := Hra.out ga rfl
        have hpi : (p : Int) < n := by omega
        go_wp2_with fail
        go_region_with (go_at_call 37; refine (r_pick B g q1 _ _ (by exact Hr.out) (by omega)).mono ?_; rintro e yp ⟨x, rfl, x1, x2, hr, hg⟩; have hgw : wr.grownBy yp (some g) := ⟨hg.os, hg.tape, hg.output, hg.size, hg.block⟩; have zp := hgw.size; have HX3 := Lib.hid (X3.out.grown hgw (fun e => by have := Option.some.inj e; omega)); have HX2 := Lib.hid (X2.out.grown hgw (fun e => by have := Option.some.inj e; omega)); have u0 := HX3.out.cell0; have u1 := HX3.out.cell1; have u2 := HX3.out.lt; have HO := Lib.hid (Ho.out.kept hgw (fun g' hA e => by have := (Ho.out.ge hA).1; have := Option.some.inj e; omega)); have u3 := World.ownsRow.cellAt HO.out.2 p (by omega); rw [List.getElem?_eq_getElem (by rw [List.length_map, HO.out.1]; exact hpn)] at u3; have u4 := World.ownsRow.frozenAt HO.out.2 p; have HR := Lib.hid hr; have HG := Lib.hid (gtrans Hg.out hgw); clear hr hg hgw)
        all_goals go_wp2_with fail
        all_goals go_roundw
        all_goals try (simp [intOf]; omega)
        all_goals
          have hr3 := HR.out.far ⟨ga, p, none⟩ (by show g ≠ ga; omega) (by have := HR.out.1; show B ≤ ga; omega) (.int .i64 x)
          have hg3 := gset HG.out ⟨ga, p, none⟩ (by show w.heap.size ≤ ga; omega) (.int .i64 x)
          exact ⟨p + 1, q1 + 1, _, by omega, by go_num, by have := Hq1.out; omega, (HO.out.stored p x).1, Hok.out.set p x1 (by omega), HX2.out.far (p := ⟨ga, p, none⟩) (by show w.heap.size ≠ ga; omega) _, HX3.out.far (p := ⟨ga, p, none⟩) (by show y3.heap.size ≠ ga; omega) _, hr3, hg3⟩
      · obtain rfl : p = n := by omega
        have Hv := Lib.hid (okB_mk s1 s2 (by rw [Ho.out.1]; exact Hn.out) Hok.out)
        have K0 := Lib.hid ((X2.out.set0 s).cell0)
        have K1 := Lib.hid (((X2.out.set0 s).set1 (.slice A1 p c1)).cell1)
        have r0 := X2.out.cell0
        have r1 := X2.out.cell1
        have r2 := X2.out.frozen 0
        have r3 := X2.out.frozen 1
        have r4 := X2.out.lt
        have hBg := Hr.out.1
        have Hr3 := Lib.hid ((Hr.out.far ⟨w.heap.size, 0, none⟩ (by show g ≠ w.heap.size; omega) (by show B ≤ w.heap.size; omega) (.int .i64 s)).far ⟨w.heap.size, 1, none⟩ (by show g ≠ w.heap.size; omega) (by show B ≤ w.heap.size; omega) (.slice A1 p c1))
        have Hg3 := Lib.hid (gset (gset Hg.out ⟨w.heap.size, 0, none⟩ (Nat.le_refl _) (.int .i64 s)) ⟨w.heap.size, 1, none⟩ (Nat.le_refl _) (.slice A1 p c1))
        have Ho3 := Lib.hid ((Ho.out.far ⟨w.heap.size, 0, none⟩ (fun g' hA => by have := (Ho.out.ge hA).1; show g' ≠ w.heap.size; omega) (.int .i64 s)).far ⟨w.heap.size, 1, none⟩ (fun g' hA => by have := (Ho.out.ge hA).1; show g' ≠ w.heap.size; omega) (.slice A1 p c1))
        go_wp2_with fail
        have k0 := K0.out
        have k1 := K1.out
        refine bodyPost_ret (v := .agg #[.int .i64 s, .slice A1 p c1]) (by simp [results, Try.results36, go_sem, k0, k1]) rfl ?_
        exact ⟨_, _, _, _, _, _, rfl, Ho3.out.weaken (by omega), Hv.out, Hr3.out, by omega, Hg3.out⟩
  · have e0 : (x0 == 0) = false := by simpa using h0
    by_cases h1 : x0 = 1
    · subst h1
      clear k1 k2 h0 e0
      go_wp2_with fail
      refine (r_corners _).mono ?_
      rintro e y2 ⟨rfl, hN, hb⟩
      have X2 := Lib.hid (X2.out.below hb X2.out.lt)
      have Hg := Lib.hid (gtrans Hg.out (gbelow (some g) hb (Nat.le_refl _)))
      have Hrl := Hr.out.lt
      have Hr := Lib.hid (Hr.out.below hb Hr.out.lt)
      have HN := Lib.hid hN
      have z3 := hb.size
      clear hN hb
      have zy : y.heap.size < y2.heap.size := by
        obtain ⟨S, h1, _⟩ := HN.out 0 (by omega)
        exact World.block_lt_of_cell? _ _ h1
      go_wp2_with fail
      refine (r_pick B g (q + 1) _ _ Hr.out (by omega)).mono ?_
      rintro e y3 ⟨j, rfl, j1, j2, hr, hg⟩
      obtain ⟨j, rfl⟩ := Int.eq_ofNat_of_zero_le j1
      have hj9 : j < 9 := by omega
      obtain ⟨S, hS1, hS2⟩ := HN.out j hj9
      have hc := (World.cell?_of_block (w' := y3) (w := y2) (a := ⟨y.heap.size, j, none⟩) (hg.block y.heap.size zy (by intro e; have := Option.some.inj e; omega))).trans hS1
      have X2 := Lib.hid (X2.out.grown hg (fun e => by have := Option.some.inj e; omega))
      have Hg := Lib.hid (gtrans Hg.out hg)
      have Hr := Lib.hid hr
      have z4 := hg.size
      have hj9' : (j : Int) < 9 := by omega
      clear hr hg hS1 HN j2
      go_wp2_with fail
      refine (s_ParseBoard S _ (by omega)).mono ?_
      rintro e y4 ⟨s', A, n, c, cs, ok, rfl, hwhat, hb⟩
      have X2 := Lib.hid (X2.out.below hb X2.out.lt)
      have Hg := Lib.hid (gtrans Hg.out (gbelow (some g) hb (Nat.le_refl _)))
      have Hr := Lib.hid (Hr.out.below hb Hr.out.lt)
      have Hwhat := Lib.hid hwhat
      have z5 := hb.size
      clear hwhat hb hc
      go_upto_region 13 with (fail)
      obtain ⟨y5, hy5, hb5, z6, z7⟩ := new_box y4 (.cells #[.int .i64 s', .slice A n c] 25)
      have X6 : Hid (Bx 25 y5 y4.heap.size s' (.slice A n c)) := Lib.hid (by rw [hy5]; exact Bx.new _ _ _ _)
      rw [← hy5]
      clear hy5
      have X2 := Lib.hid (X2.out.below hb5 X2.out.lt)
      have Hr := Lib.hid (Hr.out.below hb5 Hr.out.lt)
      have Hg := Lib.hid (gtrans Hg.out (gbelow (some g) hb5 (Nat.le_refl _)))
      cases ok with
      | false =>
        clear hb5 Hwhat
        go_wp2_with fail
        refine (s_new 3 _).mono ?_
        rintro e y6 ⟨A6, n6, c6, rfl, ho, hb⟩
        have hs1 : newS 3 = 3 := rfl
        have hc1 : newCs 3 = List.replicate (3 * 3 : Int).toNat 0 := rfl
        rw [hc1] at ho
        rw [hs1]
        have X2 := Lib.hid (X2.out.below hb X2.out.lt)
        have Hg := Lib.hid (gtrans Hg.out (gbelow (some g) hb (Nat.le_refl _)))
        have Hr := Lib.hid (Hr.out.below hb Hr.out.lt)
        have Ho := Lib.hid ho
        clear ho hb hs1 hc1
        have K0 := Lib.hid ((X2.out.set0 3).cell0)
        have K1 := Lib.hid (((X2.out.set0 3).set1 (.slice A6 n6 c6)).cell1)
        have r0 := X2.out.cell0
        have r1 := X2.out.cell1
        have r2 := X2.out.frozen 0
        have r3 := X2.out.frozen 1
        have r4 := X2.out.lt
        have hBg := Hr.out.1
        have Hr3 := Lib.hid ((Hr.out.far ⟨w.heap.size, 0, none⟩ (by show g ≠ w.heap.size; omega) (by show B ≤ w.heap.size; omega) (.int .i64 3)).far ⟨w.heap.size, 1, none⟩ (by show g ≠ w.heap.size; omega) (by show B ≤ w.heap.size; omega) (.slice A6 n6 c6))
        have Hg3 := Lib.hid (gset (gset Hg.out ⟨w.heap.size, 0, none⟩ (Nat.le_refl _) (.int .i64 3)) ⟨w.heap.size, 1, none⟩ (Nat.le_refl _) (.slice A6 n6 c6))
        have Ho3 := Lib.hid ((Ho.out.far ⟨w.heap.size, 0, none⟩ (fun g' hA => by have := (Ho.out.ge hA).1; show g' ≠ w.heap.size; omega) (.int .i64 3)).far ⟨w.heap.size, 1, none⟩ (fun g' hA => by have := (Ho.out.ge hA).1; show g' ≠ w.heap.size; omega) (.slice A6 n6 c6))
        go_wp2_with fail
        have k0 := K0.out
        have k1 := K1.out
        refine bodyPost_ret (v := .agg #[.int .i64 3, .slice A6 n6 c6]) (by simp [results, Try.results36, go_sem, k0, k1]) rfl ?_
        exact ⟨_, _, _, _, _, _, rfl, Ho3.out.weaken (by omega), okB_new (by omega) (by omega), Hr3.out, by omega, Hg3.out⟩
      | true =>
        obtain ⟨ho, hv, _⟩ := Hwhat.out rfl
        have Ho := Lib.hid (ho.below hb5)
        have Hv := Lib.hid hv
        have Hra := Lib.hid (fun g' (hA : A = some ⟨g', 0, none⟩) => (ho.ge hA).2)
        clear Hwhat ho hv hb5
        go_wp2_with fail
        refine (r_pick B g (q + 2) _ _ Hr.out (by omega)).mono ?_
        rintro e y7 ⟨f, rfl, f1, f2, hr, hg⟩
        have X2 := Lib.hid (X2.out.grown hg (fun e => by have := Option.some.inj e; omega))
        have X6 := Lib.hid (X6.out.grown hg (fun e => by have := Option.some.inj e; omega))
        have Ho := Lib.hid (Ho.out.kept hg (fun g' hA e => by have := (Ho.out.ge hA).1; have := Option.some.inj e; omega))
        have Hg := Lib.hid (gtrans Hg.out hg)
        have Hr := Lib.hid hr
        have z8 := hg.size
        clear hr hg f2
        by_cases hf : f = 0
        · have hbf : (f == 0) = true := by simpa using hf
          clear hf
          have t0 := X6.out.cell0
          have t1 := X6.out.cell1
          have t2 := X6.out.lt
          go_wp2_with fail
          refine (s_invertBoard s' _ _ _ n c cs Ho.out.ints (Nat.le_refl _) (by have := Ho.out.1; obtain ⟨a1, a2, a3, _⟩ := (Bd.okB_iff s' cs).1 Hv.out; have := Pt.sq_bd s' a1 a2; omega) ((Bd.okB_iff s' cs).1 Hv.out).2.2.2).mono ?_
          rintro e y8 ⟨A8, n8, c8, rfl, ho8, hb⟩
          have X2 := Lib.hid (X2.out.below hb X2.out.lt)
          have X6 := Lib.hid (X6.out.below hb X6.out.lt)
          have Hg := Lib.hid (gtrans Hg.out (gbelow (some g) hb (Nat.le_refl _)))
          have Hr := Lib.hid (Hr.out.below hb Hr.out.lt)
          have Ho8 := Lib.hid ho8
          have Hv8 := Lib.hid (okB_oth Hv.out)
          have z9 := hb.size
          clear ho8 hb t0 t1 t2
          have t0 := X6.out.cell0
          have t1 := X6.out.cell1
          have t2 := X6.out.lt
          have t3 := X6.out.frozen 0
          have t4 := X6.out.frozen 1
          go_upto_region 17 with (fail)
          obtain ⟨y9, hy9⟩ : ∃ y9, y9 = (y8.setCell ⟨y4.heap.size, 0, none⟩ (.int .i64 s')).setCell ⟨y4.heap.size, 1, none⟩ (.slice A8 n8 c8) := ⟨_, rfl⟩
          have es : y9.heap.size = y8.heap.size := by rw [hy9]; simp [World.setCell]
          have hBg := Hr.out.1
          have hgl := Hr.out.lt
          have X2 : Hid (Bx 25 y9 w.heap.size 0 (.slice none 0 0)) := Lib.hid (by rw [hy9]; exact (X2.out.far (p := ⟨y4.heap.size, 0, none⟩) (by show w.heap.size ≠ y4.heap.size; omega) (.int .i64 s')).far (p := ⟨y4.heap.size, 1, none⟩) (by show w.heap.size ≠ y4.heap.size; omega) (.slice A8 n8 c8))
          have X6 : Hid (Bx 25 y9 y4.heap.size s' (.slice A8 n8 c8)) := Lib.hid (by rw [hy9]; exact (X6.out.set0 s').set1 (.slice A8 n8 c8))
          have Ho8 : Hid (Own y9 y7.heap.size A8 n8 c8 (othCs cs)) := Lib.hid (by rw [hy9]; exact (Ho8.out.far ⟨y4.heap.size, 0, none⟩ (fun g' hA => by have := (Ho8.out.ge hA).1; show g' ≠ y4.heap.size; omega) (.int .i64 s')).far ⟨y4.heap.size, 1, none⟩ (fun g' hA => by have := (Ho8.out.ge hA).1; show g' ≠ y4.heap.size; omega) (.slice A8 n8 c8))
          have Hr : Hid (Rdr y9 B g (q + 2 + 1)) := Lib.hid (by rw [hy9]; exact (Hr.out.far ⟨y4.heap.size, 0, none⟩ (by show g ≠ y4.heap.size; omega) (by show B ≤ y4.heap.size; omega) (.int .i64 s')).far ⟨y4.heap.size, 1, none⟩ (by show g ≠ y4.heap.size; omega) (by show B ≤ y4.heap.size; omega) (.slice A8 n8 c8))
          have Hg : Hid (w.grownBy y9 (some g)) := Lib.hid (by rw [hy9]; exact gset (gset Hg.out ⟨y4.heap.size, 0, none⟩ (by show w.heap.size ≤ y4.heap.size; omega) (.int .i64 s')) ⟨y4.heap.size, 1, none⟩ (by show w.heap.size ≤ y4.heap.size; omega) (.slice A8 n8 c8))
          rw [← hy9]
          clear hy9 t0 t1 t2 t3 t4
          obtain ⟨v1, v2, v3, v4⟩ := (Bd.okB_iff s' (othCs cs)).1 Hv8.out
          have hlcs := Ho8.out.1
          have Hns : Hid (((n8 : Nat) : Int) = s' * s') := Lib.hid (by rw [← v3, hlcs])
          clear v3 v4 hlcs
          have t0 := X6.out.cell0
          have t1 := X6.out.cell1
          have t2 := X6.out.lt
          go_upto_region 17 with (fail)
          go_region_with (first | (go_at_call 37; refine (r_pick B g (q + 2 + 1) _ _ (by exact Hr.out) (by omega)).mono ?_; rintro e yp ⟨kk, rfl, kk1, kk2, hr, hg⟩; have hgw : y9.grownBy yp (some g) := ⟨hg.os, hg.tape, hg.output, hg.size, hg.block⟩; have zp := hgw.size; have HX6 := Lib.hid (X6.out.grown hgw (fun e => by have := Option.some.inj e; omega)); have HX2 := Lib.hid (X2.out.grown hgw (fun e => by have := Option.some.inj e; omega)); have u0 := HX6.out.cell0; have u1 := HX6.out.cell1; have u2 := HX6.out.lt; have HO := Lib.hid (Ho8.out.kept hgw (fun g' hA e => by have := (Ho8.out.ge hA).1; have := Option.some.inj e; omega)); have HR := Lib.hid hr; have HG := Lib.hid (gtrans Hg.out hgw); have kk3 : kk < 8 := (by omega); clear hr hg hgw kk2) | (go_at_call 63; refine (s_transformBoard s' kk _ yp.heap.size _ _ _ (othCs cs) (by exact HO.out.ints) ?_ v1 v2 Hns.out kk1 kk3).mono ?_; (show yp.heap.size ≤ yp.heap.size; omega); rintro e yt ⟨A3, n3, c3, rfl, ho, hb⟩; have hbw : Below yp.heap.size yp yt := ⟨hb.os, hb.tape, hb.output, hb.size, hb.block⟩; have HX2t := Lib.hid (HX2.out.below hbw HX2.out.lt); have u3 := (HX6.out.below hbw HX6.out.lt).cell0; have u4 := (HX6.out.below hbw HX6.out.lt).cell1; have r0 := HX2t.out.cell0; have r1 := HX2t.out.cell1; have r2 := HX2t.out.frozen 0; have r3 := HX2t.out.frozen 1; have r4 := HX2t.out.lt; have HO3 : Hid (Own yt yp.heap.size A3 n3 c3 (Bd.mv s' kk (othCs cs))) := Lib.hid ho; have HRt := Lib.hid (HR.out.below hbw HR.out.lt); have HGt := Lib.hid (gtrans HG.out (gbelow (some g) hbw (Nat.le_refl _))); clear ho hb hbw))
          all_goals go_wp2_with fail
          all_goals
            have k0 := (HX2t.out.set0 s').cell0
            have k1 := ((HX2t.out.set0 s').set1 (.slice A3 n3 c3)).cell1
            refine bodyPost_ret (v := .agg #[.int .i64 s', .slice A3 n3 c3]) (by simp [results, Try.results36, go_sem, k0, k1]) rfl ?_
            have hBg := HRt.out.1
            have hr3 := (HRt.out.far ⟨w.heap.size, 0, none⟩ (by show g ≠ w.heap.size; omega) (by show B ≤ w.heap.size; omega) (.int .i64 s')).far ⟨w.heap.size, 1, none⟩ (by show g ≠ w.heap.size; omega) (by show B ≤ w.heap.size; omega) (.slice A3 n3 c3)
            have hg3 := gset (gset HGt.out ⟨w.heap.size, 0, none⟩ (Nat.le_refl _) (.int .i64 s')) ⟨w.heap.size, 1, none⟩ (Nat.le_refl _) (.slice A3 n3 c3)
            have ho3 := (HO3.out.far ⟨w.heap.size, 0, none⟩ (fun g' hA => by have := (HO3.out.ge hA).1; show g' ≠ w.heap.size; omega) (.int .i64 s')).far ⟨w.heap.size, 1, none⟩ (fun g' hA => by have := (HO3.out.ge hA).1; show g' ≠ w.heap.size; omega) (.slice A3 n3 c3)
            exact ⟨_, _, _, _, _, _, rfl, ho3.weaken (by omega), okB_mv Hv8.out, hr3, by omega, hg3⟩
        · have hbf : (f == 0) = false := by simpa using hf
          clear hf
          obtain ⟨v1, v2, v3, v4⟩ := (Bd.okB_iff s' cs).1 Hv.out
          have hlcs := Ho.out.1
          have Hns : Hid (((n : Nat) : Int) = s' * s') := Lib.hid (by rw [← v3, hlcs])
          clear v3 v4 hlcs
          have t0 := X6.out.cell0
          have t1 := X6.out.cell1
          have t2 := X6.out.lt
          go_upto_region 17 with (fail)
          go_region_with (first | (go_at_call 37; refine (r_pick B g (q + 2 + 1) _ _ (by exact Hr.out) (by omega)).mono ?_; rintro e yp ⟨kk, rfl, kk1, kk2, hr, hg⟩; have hgw : y7.grownBy yp (some g) := ⟨hg.os, hg.tape, hg.output, hg.size, hg.block⟩; have zp := hgw.size; have HX6 := Lib.hid (X6.out.grown hgw (fun e => by have := Option.some.inj e; omega)); have HX2 := Lib.hid (X2.out.grown hgw (fun e => by have := Option.some.inj e; omega)); have u0 := HX6.out.cell0; have u1 := HX6.out.cell1; have u2 := HX6.out.lt; have HO := Lib.hid (Ho.out.kept hgw (fun g' hA e => by have := (Ho.out.ge hA).1; have := Option.some.inj e; omega)); have HR := Lib.hid hr; have HG := Lib.hid (gtrans Hg.out hgw); have kk3 : kk < 8 := (by omega); clear hr hg hgw kk2) | (go_at_call 63; refine (s_transformBoard s' kk _ yp.heap.size _ _ _ cs (by exact HO.out.ints) ?_ v1 v2 Hns.out kk1 kk3).mono ?_; (show yp.heap.size ≤ yp.heap.size; omega); rintro e yt ⟨A3, n3, c3, rfl, ho, hb⟩; have hbw : Below yp.heap.size yp yt := ⟨hb.os, hb.tape, hb.output, hb.size, hb.block⟩; have HX2t := Lib.hid (HX2.out.below hbw HX2.out.lt); have u3 := (HX6.out.below hbw HX6.out.lt).cell0; have u4 := (HX6.out.below hbw HX6.out.lt).cell1; have r0 := HX2t.out.cell0; have r1 := HX2t.out.cell1; have r2 := HX2t.out.frozen 0; have r3 := HX2t.out.frozen 1; have r4 := HX2t.out.lt; have HO3 : Hid (Own yt yp.heap.size A3 n3 c3 (Bd.mv s' kk cs)) := Lib.hid ho; have HRt := Lib.hid (HR.out.below hbw HR.out.lt); have HGt := Lib.hid (gtrans HG.out (gbelow (some g) hbw (Nat.le_refl _))); clear ho hb hbw))
          all_goals go_wp2_with fail
          all_goals
            have k0 := (HX2t.out.set0 s').cell0
            have k1 := ((HX2t.out.set0 s').set1 (.slice A3 n3 c3)).cell1
            refine bodyPost_ret (v := .agg #[.int .i64 s', .slice A3 n3 c3]) (by simp [results, Try.results36, go_sem, k0, k1]) rfl ?_
            have hBg := HRt.out.1
            have hr3 := (HRt.out.far ⟨w.heap.size, 0, none⟩ (by show g ≠ w.heap.size; omega) (by show B ≤ w.heap.size; omega) (.int .i64 s')).far ⟨w.heap.size, 1, none⟩ (by show g ≠ w.heap.size; omega) (by show B ≤ w.heap.size; omega) (.slice A3 n3 c3)
            have hg3 := gset (gset HGt.out ⟨w.heap.size, 0, none⟩ (Nat.le_refl _) (.int .i64 s')) ⟨w.heap.size, 1, none⟩ (Nat.le_refl _) (.slice A3 n3 c3)
            have ho3 := (HO3.out.far ⟨w.heap.size, 0, none⟩ (fun g' hA => by have := (HO3.out.ge hA).1; show g' ≠ w.heap.size; omega) (.int .i64 s')).far ⟨w.heap.size, 1, none⟩ (fun g' hA => by have := (HO3.out.ge hA).1; show g' ≠ w.heap.size; omega) (.slice A3 n3 c3)
            exact ⟨_, _, _, _, _, _, rfl, ho3.weaken (by omega), okB_mv Hv.out, hr3, by omega, hg3⟩
    · have e1 : (x0 == 1) = false := by simpa using h1
      by_cases h2 : x0 = 2
      · subst h2
        clear k1 k2 h0 h1 e0 e1
        go_wp2_with fail
        refine (r_corners _).mono ?_
        rintro e y2 ⟨rfl, hN, hb⟩
        have X2 := Lib.hid (X2.out.below hb X2.out.lt)
        have Hg := Lib.hid (gtrans Hg.out (gbelow (some g) hb (Nat.le_refl _)))
        have Hrl := Hr.out.lt
        have Hr := Lib.hid (Hr.out.below hb Hr.out.lt)
        have HN := Lib.hid hN
        have z3 := hb.size
        clear hN hb
        have zy : y.heap.size < y2.heap.size := by
          obtain ⟨S, h1, _⟩ := HN.out 0 (by omega)
          exact World.block_lt_of_cell? _ _ h1
        go_wp2_with fail
        refine (r_pick B g (q + 1) _ _ Hr.out (by omega)).mono ?_
        rintro e y3 ⟨j, rfl, j1, j2, hr, hg⟩
        obtain ⟨j, rfl⟩ := Int.eq_ofNat_of_zero_le j1
        have hj9 : j < 9 := by omega
        obtain ⟨S, hS1, hS2⟩ := HN.out j hj9
        have hc := (World.cell?_of_block (w' := y3) (w := y2) (a := ⟨y.heap.size, j, none⟩) (hg.block y.heap.size zy (by intro e; have := Option.some.inj e; omega))).trans hS1
        have X2 := Lib.hid (X2.out.grown hg (fun e => by have := Option.some.inj e; omega))
        have Hg := Lib.hid (gtrans Hg.out hg)
        have Hr := Lib.hid hr
        have z4 := hg.size
        have hj9' : (j : Int) < 9 := by omega
        clear hr hg hS1 HN j2
        go_wp2_with fail
        refine (s_ParseBoard S _ (by omega)).mono ?_
        rintro e y4 ⟨s', A, n, c, cs, ok, rfl, hwhat, hb⟩
        have X2 := Lib.hid (X2.out.below hb X2.out.lt)
        have Hg := Lib.hid (gtrans Hg.out (gbelow (some g) hb (Nat.le_refl _)))
        have Hr := Lib.hid (Hr.out.below hb Hr.out.lt)
        have Hwhat := Lib.hid hwhat
        have z5 := hb.size
        clear hwhat hb hc
        go_upto_region 13 with (fail)
        obtain ⟨y5, hy5, hb5, z6, z7⟩ := new_box y4 (.cells #[.int .i64 s', .slice A n c] 25)
        have X6 : Hid (Bx 25 y5 y4.heap.size s' (.slice A n c)) := Lib.hid (by rw [hy5]; exact Bx.new _ _ _ _)
        rw [← hy5]
        clear hy5
        have X2 := Lib.hid (X2.out.below hb5 X2.out.lt)
        have Hr := Lib.hid (Hr.out.below hb5 Hr.out.lt)
        have Hg := Lib.hid (gtrans Hg.out (gbelow (some g) hb5 (Nat.le_refl _)))
        cases ok with
        | false =>
          clear hb5 Hwhat
          go_wp2_with fail
          refine (s_new 3 _).mono ?_
          rintro e y6 ⟨A6, n6, c6, rfl, ho, hb⟩
          have hs1 : newS 3 = 3 := rfl
          have hc1 : newCs 3 = List.replicate (3 * 3 : Int).toNat 0 := rfl
          rw [hc1] at ho
          rw [hs1]
          have X2 := Lib.hid (X2.out.below hb X2.out.lt)
          have Hg := Lib.hid (gtrans Hg.out (gbelow (some g) hb (Nat.le_refl _)))
          have Hr := Lib.hid (Hr.out.below hb Hr.out.lt)
          have Ho := Lib.hid ho
          clear ho hb hs1 hc1
          have K0 := Lib.hid ((X2.out.set0 3).cell0)
          have K1 := Lib.hid (((X2.out.set0 3).set1 (.slice A6 n6 c6)).cell1)
          have r0 := X2.out.cell0
          have r1 := X2.out.cell1
          have r2 := X2.out.frozen 0
          have r3 := X2.out.frozen 1
          have r4 := X2.out.lt
          have hBg := Hr.out.1
          have Hr3 := Lib.hid ((Hr.out.far ⟨w.heap.size, 0, none⟩ (by show g ≠ w.heap.size; omega) (by show B ≤ w.heap.size; omega) (.int .i64 3)).far ⟨w.heap.size, 1, none⟩ (by show g ≠ w.heap.size; omega) (by show B ≤ w.heap.size; omega) (.slice A6 n6 c6))
          have Hg3 := Lib.hid (gset (gset Hg.out ⟨w.heap.size, 0, none⟩ (Nat.le_refl _) (.int .i64 3)) ⟨w.heap.size, 1, none⟩ (Nat.le_refl _) (.slice A6 n6 c6))
          have Ho3 := Lib.hid ((Ho.out.far ⟨w.heap.size, 0, none⟩ (fun g' hA => by have := (Ho.out.ge hA).1; show g' ≠ w.heap.size; omega) (.int .i64 3)).far ⟨w.heap.size, 1, none⟩ (fun g' hA => by have := (Ho.out.ge hA).1; show g' ≠ w.heap.size; omega) (.slice A6 n6 c6))
          go_wp2_with fail
          have k0 := K0.out
          have k1 := K1.out
          refine bodyPost_ret (v := .agg #[.int .i64 3, .slice A6 n6 c6]) (by simp [results, Try.results36, go_sem, k0, k1]) rfl ?_
          exact ⟨_, _, _, _, _, _, rfl, Ho3.out.weaken (by omega), okB_new (by omega) (by omega), Hr3.out, by omega, Hg3.out⟩
        | true =>
          obtain ⟨ho, hv, _⟩ := Hwhat.out rfl
          have Ho := Lib.hid (ho.below hb5)
          have Hv := Lib.hid hv
          have Hra := Lib.hid (fun g' (hA : A = some ⟨g', 0, none⟩) => (ho.ge hA).2)
          clear Hwhat ho hv hb5
          go_wp2_with fail
          refine (r_pick B g (q + 2) _ _ Hr.out (by omega)).mono ?_
          rintro e y7 ⟨f, rfl, f1, f2, hr, hg⟩
          have X2 := Lib.hid (X2.out.grown hg (fun e => by have := Option.some.inj e; omega))
          have X6 := Lib.hid (X6.out.grown hg (fun e => by have := Option.some.inj e; omega))
          have Ho := Lib.hid (Ho.out.kept hg (fun g' hA e => by have := (Ho.out.ge hA).1; have := Option.some.inj e; omega))
          have Hg := Lib.hid (gtrans Hg.out hg)
          have Hr := Lib.hid hr
          have z8 := hg.size
          clear hr hg f2
          by_cases hf : f = 0
          · have hbf : (f == 0) = true := by simpa using hf
            clear hf
            have t0 := X6.out.cell0
            have t1 := X6.out.cell1
            have t2 := X6.out.lt
            go_wp2_with fail
            refine (s_invertBoard s' _ _ _ n c cs Ho.out.ints (Nat.le_refl _) (by have := Ho.out.1; obtain ⟨a1, a2, a3, _⟩ := (Bd.okB_iff s' cs).1 Hv.out; have := Pt.sq_bd s' a1 a2; omega) ((Bd.okB_iff s' cs).1 Hv.out).2.2.2).mono ?_
            rintro e y8 ⟨A8, n8, c8, rfl, ho8, hb⟩
            have X2 := Lib.hid (X2.out.below hb X2.out.lt)
            have X6 := Lib.hid (X6.out.below hb X6.out.lt)
            have Hg := Lib.hid (gtrans Hg.out (gbelow (some g) hb (Nat.le_refl _)))
            have Hr := Lib.hid (Hr.out.below hb Hr.out.lt)
            have Ho8 := Lib.hid ho8
            have Hv8 := Lib.hid (okB_oth Hv.out)
            have z9 := hb.size
            clear ho8 hb t0 t1 t2
            have t0 := X6.out.cell0
            have t1 := X6.out.cell1
            have t2 := X6.out.lt
            have t3 := X6.out.frozen 0
            have t4 := X6.out.frozen 1
            go_upto_region 17 with (fail)
            obtain ⟨y9, hy9⟩ : ∃ y9, y9 = (y8.setCell ⟨y4.heap.size, 0, none⟩ (.int .i64 s')).setCell ⟨y4.heap.size, 1, none⟩ (.slice A8 n8 c8) := ⟨_, rfl⟩
            have es : y9.heap.size = y8.heap.size := by rw [hy9]; simp [World.setCell]
            have hBg := Hr.out.1
            have hgl := Hr.out.lt
            have X2 : Hid (Bx 25 y9 w.heap.size 0 (.slice none 0 0)) := Lib.hid (by rw [hy9]; exact (X2.out.far (p := ⟨y4.heap.size, 0, none⟩) (by show w.heap.size ≠ y4.heap.size; omega) (.int .i64 s')).far (p := ⟨y4.heap.size, 1, none⟩) (by show w.heap.size ≠ y4.heap.size; omega) (.slice A8 n8 c8))
            have X6 : Hid (Bx 25 y9 y4.heap.size s' (.slice A8 n8 c8)) := Lib.hid (by rw [hy9]; exact (X6.out.set0 s').set1 (.slice A8 n8 c8))
            have Ho8 : Hid (Own y9 y7.heap.size A8 n8 c8 (othCs cs)) := Lib.hid (by rw [hy9]; exact (Ho8.out.far ⟨y4.heap.size, 0, none⟩ (fun g' hA => by have := (Ho8.out.ge hA).1; show g' ≠ y4.heap.size; omega) (.int .i64 s')).far ⟨y4.heap.size, 1, none⟩ (fun g' hA => by have := (Ho8.out.ge hA).1; show g' ≠ y4.heap.size; omega) (.slice A8 n8 c8))
            have Hr : Hid (Rdr y9 B g (q + 2 + 1)) := Lib.hid (by rw [hy9]; exact (Hr.out.far ⟨y4.heap.size, 0, none⟩ (by show g ≠ y4.heap.size; omega) (by show B ≤ y4.heap.size; omega) (.int .i64 s')).far ⟨y4.heap.size, 1, none⟩ (by show g ≠ y4.heap.size; omega) (by show B ≤ y4.heap.size; omega) (.slice A8 n8 c8))
            have Hg : Hid (w.grownBy y9 (some g)) := Lib.hid (by rw [hy9]; exact gset (gset Hg.out ⟨y4.heap.size, 0, none⟩ (by show w.heap.size ≤ y4.heap.size; omega) (.int .i64 s')) ⟨y4.heap.size, 1, none⟩ (by show w.heap.size ≤ y4.heap.size; omega) (.slice A8 n8 c8))
            rw [← hy9]
            clear hy9 t0 t1 t2 t3 t4
            obtain ⟨v1, v2, v3, v4⟩ := (Bd.okB_iff s' (othCs cs)).1 Hv8.out
            have hlcs := Ho8.out.1
            have Hns : Hid (((n8 : Nat) : Int) = s' * s') := Lib.hid (by rw [← v3, hlcs])
            clear v3 v4 hlcs
            have t0 := X6.out.cell0
            have t1 := X6.out.cell1
            have t2 := X6.out.lt
            go_upto_region 17 with (fail)
            go_region_with (first | (go_at_call 37; refine (r_pick B g (q + 2 + 1) _ _ (by exact Hr.out) (by omega)).mono ?_; rintro e yp ⟨kk, rfl, kk1, kk2, hr, hg⟩; have hgw : y9.grownBy yp (some g) := ⟨hg.os, hg.tape, hg.output, hg.size, hg.block⟩; have zp := hgw.size; have HX6 := Lib.hid (X6.out.grown hgw (fun e => by have := Option.some.inj e; omega)); have HX2 := Lib.hid (X2.out.grown hgw (fun e => by have := Option.some.inj e; omega)); have u0 := HX6.out.cell0; have u1 := HX6.out.cell1; have u2 := HX6.out.lt; have HO := Lib.hid (Ho8.out.kept hgw (fun g' hA e => by have := (Ho8.out.ge hA).1; have := Option.some.inj e; omega)); have HR := Lib.hid hr; have HG := Lib.hid (gtrans Hg.out hgw); have kk3 : kk < 8 := (by omega); clear hr hg hgw kk2) | (go_at_call 63; refine (s_transformBoard s' kk _ yp.heap.size _ _ _ (othCs cs) (by exact HO.out.ints) ?_ v1 v2 Hns.out kk1 kk3).mono ?_; (show yp.heap.size ≤ yp.heap.size; omega); rintro e yt ⟨A3, n3, c3, rfl, ho, hb⟩; have hbw : Below yp.heap.size yp yt := ⟨hb.os, hb.tape, hb.output, hb.size, hb.block⟩; have HX2t := Lib.hid (HX2.out.below hbw HX2.out.lt); have u3 := (HX6.out.below hbw HX6.out.lt).cell0; have u4 := (HX6.out.below hbw HX6.out.lt).cell1; have r0 := HX2t.out.cell0; have r1 := HX2t.out.cell1; have r2 := HX2t.out.frozen 0; have r3 := HX2t.out.frozen 1; have r4 := HX2t.out.lt; have HO3 : Hid (Own yt yp.heap.size A3 n3 c3 (Bd.mv s' kk (othCs cs))) := Lib.hid ho; have HRt := Lib.hid (HR.out.below hbw HR.out.lt); have HGt := Lib.hid (gtrans HG.out (gbelow (some g) hbw (Nat.le_refl _))); clear ho hb hbw))
            all_goals go_wp2_with fail
            all_goals
              have k0 := (HX2t.out.set0 s').cell0
              have k1 := ((HX2t.out.set0 s').set1 (.slice A3 n3 c3)).cell1
              refine bodyPost_ret (v := .agg #[.int .i64 s', .slice A3 n3 c3]) (by simp [results, Try.results36, go_sem, k0, k1]) rfl ?_
              have hBg := HRt.out.1
              have hr3 := (HRt.out.far ⟨w.heap.size, 0, none⟩ (by show g ≠ w.heap.size; omega) (by show B ≤ w.heap.size; omega) (.int .i64 s')).far ⟨w.heap.size, 1, none⟩ (by show g ≠ w.heap.size; omega) (by show B ≤ w.heap.size; omega) (.slice A3 n3 c3)
              have hg3 := gset (gset HGt.out ⟨w.heap.size, 0, none⟩ (Nat.le_refl _) (.int .i64 s')) ⟨w.heap.size, 1, none⟩ (Nat.le_refl _) (.slice A3 n3 c3)
              have ho3 := (HO3.out.far ⟨w.heap.size, 0, none⟩ (fun g' hA => by have := (HO3.out.ge hA).1; show g' ≠ w.heap.size; omega) (.int .i64 s')).far ⟨w.heap.size, 1, none⟩ (fun g' hA => by have := (HO3.out.ge hA).1; show g' ≠ w.heap.size; omega) (.slice A3 n3 c3)
              exact ⟨_, _, _, _, _, _, rfl, ho3.weaken (by omega), okB_mv Hv8.out, hr3, by omega, hg3⟩
          · have hbf : (f == 0) = false := by simpa using hf
            clear hf
            obtain ⟨v1, v2, v3, v4⟩ := (Bd.okB_iff s' cs).1 Hv.out
            have hlcs := Ho.out.1
            have Hns : Hid (((n : Nat) : Int) = s' * s') := Lib.hid (by rw [← v3, hlcs])
            clear v3 v4 hlcs
            have t0 := X6.out.cell0
            have t1 := X6.out.cell1
            have t2 := X6.out.lt
            go_upto_region 17 with (fail)
            go_region_with (first | (go_at_call 37; refine (r_pick B g (q + 2 + 1) _ _ (by exact Hr.out) (by omega)).mono ?_; rintro e yp ⟨kk, rfl, kk1, kk2, hr, hg⟩; have hgw : y7.grownBy yp (some g) := ⟨hg.os, hg.tape, hg.output, hg.size, hg.block⟩; have zp := hgw.size; have HX6 := Lib.hid (X6.out.grown hgw (fun e => by have := Option.some.inj e; omega)); have HX2 := Lib.hid (X2.out.grown hgw (fun e => by have := Option.some.inj e; omega)); have u0 := HX6.out.cell0; have u1 := HX6.out.cell1; have u2 := HX6.out.lt; have HO := Lib.hid (Ho.out.kept hgw (fun g' hA e => by have := (Ho.out.ge hA).1; have := Option.some.inj e; omega)); have HR := Lib.hid hr; have HG := Lib.hid (gtrans Hg.out hgw); have kk3 : kk < 8 := (by omega); clear hr hg hgw kk2) | (go_at_call 63; refine (s_transformBoard s' kk _ yp.heap.size _ _ _ cs (by exact HO.out.ints) ?_ v1 v2 Hns.out kk1 kk3).mono ?_; (show yp.heap.size ≤ yp.heap.size; omega); rintro e yt ⟨A3, n3, c3, rfl, ho, hb⟩; have hbw : Below yp.heap.size yp yt := ⟨hb.os, hb.tape, hb.output, hb.size, hb.block⟩; have HX2t := Lib.hid (HX2.out.below hbw HX2.out.lt); have u3 := (HX6.out.below hbw HX6.out.lt).cell0; have u4 := (HX6.out.below hbw HX6.out.lt).cell1; have r0 := HX2t.out.cell0; have r1 := HX2t.out.cell1; have r2 := HX2t.out.frozen 0; have r3 := HX2t.out.frozen 1; have r4 := HX2t.out.lt; have HO3 : Hid (Own yt yp.heap.size A3 n3 c3 (Bd.mv s' kk cs)) := Lib.hid ho; have HRt := Lib.hid (HR.out.below hbw HR.out.lt); have HGt := Lib.hid (gtrans HG.out (gbelow (some g) hbw (Nat.le_refl _))); clear ho hb hbw))
            all_goals go_wp2_with fail
            all_goals
              have k0 := (HX2t.out.set0 s').cell0
              have k1 := ((HX2t.out.set0 s').set1 (.slice A3 n3 c3)).cell1
              refine bodyPost_ret (v := .agg #[.int .i64 s', .slice A3 n3 c3]) (by simp [results, Try.results36, go_sem, k0, k1]) rfl ?_
              have hBg := HRt.out.1
              have hr3 := (HRt.out.far ⟨w.heap.size, 0, none⟩ (by show g ≠ w.heap.size; omega) (by show B ≤ w.heap.size; omega) (.int .i64 s')).far ⟨w.heap.size, 1, none⟩ (by show g ≠ w.heap.size; omega) (by show B ≤ w.heap.size; omega) (.slice A3 n3 c3)
              have hg3 := gset (gset HGt.out ⟨w.heap.size, 0, none⟩ (Nat.le_refl _) (.int .i64 s')) ⟨w.heap.size, 1, none⟩ (Nat.le_refl _) (.slice A3 n3 c3)
              have ho3 := (HO3.out.far ⟨w.heap.size, 0, none⟩ (fun g' hA => by have := (HO3.out.ge hA).1; show g' ≠ w.heap.size; omega) (.int .i64 s')).far ⟨w.heap.size, 1, none⟩ (fun g' hA => by have := (HO3.out.ge hA).1; show g' ≠ w.heap.size; omega) (.slice A3 n3 c3)
              exact ⟨_, _, _, _, _, _, rfl, ho3.weaken (by omega), okB_mv Hv.out, hr3, by omega, hg3⟩
      · have e2 : (x0 == 2) = false := by simpa using h2
        clear h0 h1 h2
        go_wp2_with fail
        refine (r_smallSize B g (q + 1) _ Hr.out (by omega)).mono ?_
        rintro e y2 ⟨s, rfl, ⟨s1, s2⟩, hr, hg⟩
        have X2 := Lib.hid (X2.out.grown hg (fun e => by have := Option.some.inj e; omega))
        have Hg := Lib.hid (gtrans Hg.out hg)
        have Hr := Lib.hid hr
        have z3 := X2.out.lt
        clear hr hg
        go_wp2_with fail
        refine (r_played s B g (q + 1 + 1) _ Hr.out (by omega) s1 s2).mono ?_
        rintro e y3 ⟨s', A, n, c, cs, q', rfl, ho, hv, hr, hq', hg⟩
        have X2 := Lib.hid (X2.out.grown hg (fun e => by have := Option.some.inj e; omega))
        have Hg := Lib.hid (gtrans Hg.out hg)
        have Hr := Lib.hid hr
        have Ho := Lib.hid ho
        have Hv := Lib.hid hv
        have z4 := X2.out.lt
        clear hr hg ho hv
        have K0 := Lib.hid ((X2.out.set0 s').cell0)
        have K1 := Lib.hid (((X2.out.set0 s').set1 (.slice A n c)).cell1)
        have r0 := X2.out.cell0
        have r1 := X2.out.cell1
        have r2 := X2.out.frozen 0
        have r3 := X2.out.frozen 1
        have r4 := X2.out.lt
        have hBg := Hr.out.1
        have Hr3 := Lib.hid ((Hr.out.far ⟨w.heap.size, 0, none⟩ (by show g ≠ w.heap.size; omega) (by show B ≤ w.heap.size; omega) (.int .i64 s')).far ⟨w.heap.size, 1, none⟩ (by show g ≠ w.heap.size; omega) (by show B ≤ w.heap.size; omega) (.slice A n c))
        have Hg3 := Lib.hid (gset (gset Hg.out ⟨w.heap.size, 0, none⟩ (Nat.le_refl _) (.int .i64 s')) ⟨w.heap.size, 1, none⟩ (Nat.le_refl _) (.slice A n c))
        have Ho3 := Lib.hid ((Ho.out.far ⟨w.heap.size, 0, none⟩ (fun g' hA => by have := (Ho.out.ge hA).1; show g' ≠ w.heap.size; omega) (.int .i64 s')).far ⟨w.heap.size, 1, none⟩ (fun g' hA => by have := (Ho.out.ge hA).1; show g' ≠ w.heap.size; omega) (.slice A n c))
        go_wp2_with fail
        have k0 := K0.out
        have k1 := K1.out
        refine bodyPost_ret (v := .agg #[.int .i64 s', .slice A n c]) (by simp [results, Try.results36, go_sem, k0, k1]) rfl ?_
        exact ⟨_, _, _, _, _, _, rfl, Ho3.out.weaken (by omega), Hv.out, Hr3.out, by omega, Hg3.out⟩
end Go.Proofs.Ytniddfoiakbfdaa

namespace Go.Proofs.Ytniddfoiakbfdaa
set_option maxRecDepth 100000
open Go.RowKit

/-- The slice at A of n elements reads as the ints xs, and its memory lies from block lo on. -/
def IntsF (w : World) (lo : Nat) (A : Option Addr) (n : Nat) (xs : List Int) : Prop :=
  xs.length = n ∧ (n = 0 ∨ ∃ b o, A = some ⟨b, o, none⟩ ∧ lo ≤ b ∧ b < w.heap.size ∧ ∀ j, j < n → w.cell? ⟨b, o + j, none⟩ = some (.int .i64 (xs.getD j 0)))
theorem IntsF.ints {w : World} {lo n : Nat} {A : Option Addr} {xs : List Int} (h : IntsF w lo A n xs) : Ints w w.heap.size A n xs := by
  refine ⟨h.1, ?_⟩
  rcases h.2 with h | ⟨b, o, hA, _, hb, hc⟩
  · exact .inl h
  · exact .inr ⟨b, o, hA, hb, hc⟩
theorem IntsF.of {w : World} {lo n c : Nat} {A : Option Addr} {xs : List Int} (h : Own w lo A n c xs) : IntsF w lo A n xs := by
  refine ⟨h.1, ?_⟩
  rcases h.ints.2 with h0 | ⟨b, o, hA, hb, hc⟩
  · exact .inl h0
  · by_cases hn : n = 0
    · exact .inl hn
    · obtain ⟨g, cap, hv, hg, hlt⟩ := World.ownsRow.form h.2 (by omega)
      have hA2 : A = some ⟨g, 0, none⟩ := by injection hv
      have : b = g := by rw [hA] at hA2; injection hA2 with e; injection e
      exact .inr ⟨b, o, hA, by omega, hb, hc⟩
theorem IntsF.weaken {w : World} {lo lo' n : Nat} {A : Option Addr} {xs : List Int} (h : IntsF w lo A n xs) (hl : lo' ≤ lo) : IntsF w lo' A n xs := by
  refine ⟨h.1, ?_⟩
  rcases h.2 with h | ⟨b, o, hA, h1, h2, hc⟩
  · exact .inl h
  · exact .inr ⟨b, o, hA, by omega, h2, hc⟩
theorem IntsF.far {w : World} {lo n : Nat} {A : Option Addr} {xs : List Int} (h : IntsF w lo A n xs) (p : Addr) (hp : p.block < lo) (u : Value) : IntsF (w.setCell p u) lo A n xs := by
  refine ⟨h.1, ?_⟩
  rcases h.2 with h | ⟨b, o, hA, h1, h2, hc⟩
  · exact .inl h
  · exact .inr ⟨b, o, hA, h1, by simpa [World.setCell] using h2, fun j hj => (World.cell?_of_block (w' := w.setCell p u) (w := w) (a := ⟨b, o + j, none⟩) (Below.heap_setCell w p u b (by omega))).trans (hc j hj)⟩
theorem IntsF.grown {w w' : World} {lo n g : Nat} {A : Option Addr} {xs : List Int} (h : IntsF w lo A n xs) (hg : w.grownBy w' (some g)) (hl : g < lo) : IntsF w' lo A n xs := by
  refine ⟨h.1, ?_⟩
  rcases h.2 with h | ⟨b, o, hA, h1, h2, hc⟩
  · exact .inl h
  · exact .inr ⟨b, o, hA, h1, Nat.lt_of_lt_of_le h2 hg.size, fun j hj => (World.cell?_of_block (w' := w') (w := w) (a := ⟨b, o + j, none⟩) (hg.block b h2 (fun e => by have := Option.some.inj e; omega))).trans (hc j hj)⟩
theorem IntsF.below {w w' : World} {lo n : Nat} {A : Option Addr} {xs : List Int} (h : IntsF w lo A n xs) (hb : Below w.heap.size w w') : IntsF w' lo A n xs := by
  refine ⟨h.1, ?_⟩
  rcases h.2 with h | ⟨b, o, hA, h1, h2, hc⟩
  · exact .inl h
  · exact .inr ⟨b, o, hA, h1, Nat.lt_of_lt_of_le h2 hb.size, fun j hj => (World.cell?_of_block (w' := w') (w := w) (a := ⟨b, o + j, none⟩) (hb.block b h2)).trans (hc j hj)⟩
theorem IntsF.tail {w : World} {lo n b o : Nat} {xs : List Int} (h : IntsF w lo (some ⟨b, o, none⟩) (n + 1) xs) : IntsF w lo (some ⟨b, o + 1, none⟩) n xs.tail := by
  refine ⟨by rw [List.length_tail, h.1]; rfl, ?_⟩
  rcases h.2 with h0 | ⟨b', o', hA, h1, h2, hc⟩
  · omega
  · injection hA with hA
    injection hA with e1 e2
    subst e1; subst e2
    refine .inr ⟨b, o + 1, rfl, h1, h2, fun j hj => ?_⟩
    have := hc (j + 1) (by omega)
    rw [show o + 1 + j = o + (j + 1) by omega, this]
    cases xs <;> simp [List.getD_eq_getElem?_getD]

theorem Own.cap_le {w : World} {B n c : Nat} {A : Option Addr} {xs : List Int} (h : Own w B A n c xs) : n ≤ c := by
  rcases h.2.2 with ⟨e, _⟩ | ⟨g, cap, cur, e, _, _, h, _⟩
  · injection e with _ e1 e2; omega
  · injection e with _ _ e2; omega

/-- A board that a draw made: of any size from 0 to 8, any cells, at most 49. -/
def DrawnA (w : World) (B g lo q : Nat) (e : Ending) (w' : World) : Prop :=
  ∃ (s : Int) (A : Option Addr) (n c : Nat) (cs : List Int) (q' : Nat), e = .returned (.agg #[.int .i64 s, .slice A n c]) ∧ IntsF w' lo A n cs ∧ n ≤ 49 ∧ 0 ≤ s ∧ s ≤ 8 ∧ Rdr w' B g q' ∧ q' ≤ q ∧ w.grownBy w' (some g)

set_option maxRecDepth 100000 in
set_option maxHeartbeats 8000000 in
theorem r_any (B g q : Nat) (w : World) (h : Rdr w B g q) (hq : q ≤ 1000000000) :
    Calls Try.prog 15 #[.pointer (some ⟨g, 0, none⟩)] w fun e w' => DrawnA w B g w.heap.size (q + 202) e w' := by
  have hlt := h.lt
  have hb1 : Below w.heap.size w (w.alloc (.cells #[.int .i64 0, .slice none 0 0] 25)) := (Below.refl _ _).alloc (Nat.le_refl _) _
  have X2 := Lib.hid (Bx.new 25 w 0 (.slice none 0 0))
  have Hr := Lib.hid (h.below hb1 hlt)
  have Hb := Lib.hid hb1
  have hsz : (w.alloc (.cells #[.int .i64 0, .slice none 0 0] 25)).heap.size = w.heap.size + 1 := by simp
  have Hsz := Lib.hid hsz
  clear h hb1 hsz
  go_enter Try.func15, Try.ntmps15
  go_wp2_with fail
  refine (r_random B g q _ Hr.out (by omega)).mono ?_
  rintro e y ⟨s, A, n, c, cs, q1, rfl, ho, hv, hr, hq1, hg⟩
  rw [Hsz.out] at ho
  have X2 := Lib.hid (X2.out.grown hg (fun e => by have := Option.some.inj e; omega))
  have Hg := Lib.hid (gtrans (gbelow (some g) Hb.out (Nat.le_refl _)) hg)
  have Hr := Lib.hid hr
  obtain ⟨s1, s2, hsn, _⟩ := (Bd.okB_iff s cs).1 hv
  have hsq := Pt.sq_bd s s1 s2
  have hl := ho.1
  have hn49 : n ≤ 49 := by omega
  have hn1 : 1 ≤ n := by omega
  have z2 := X2.out.lt
  obtain ⟨ga, cap, hvv, _⟩ := World.ownsRow.form ho.2 (by omega)
  have hA : A = some ⟨ga, 0, none⟩ := by injection hvv
  subst hA
  have hga := ho.ge rfl
  have Ho := Lib.hid ho
  have hcap : n ≤ c := ho.cap_le
  clear hr hg hsn hl hv ho Hb hvv
  go_upto_region 2 with (fail)
  obtain ⟨y3, hy3, hb3, z3, z4⟩ := new_box y (.cells #[.int .i64 s, .slice (some ⟨ga, 0, none⟩) n c] 25)
  have X3 : Hid (Bx 25 y3 y.heap.size s (.slice (some ⟨ga, 0, none⟩) n c)) := Lib.hid (by rw [hy3]; exact Bx.new _ _ _ _)
  rw [← hy3]
  clear hy3
  have X2 := Lib.hid (X2.out.below hb3 X2.out.lt)
  have Hr := Lib.hid (Hr.out.below hb3 Hr.out.lt)
  have Ho := Lib.hid (Ho.out.below hb3)
  have Hg := Lib.hid (gtrans Hg.out (gbelow (some g) hb3 (Nat.le_refl _)))
  clear hb3
  go_wp2_with fail
  refine (r_pick B g q1 _ _ Hr.out (by omega)).mono ?_
  rintro e y4 ⟨x0, rfl, k1, k2, hr, hg⟩
  have X2 := Lib.hid (X2.out.grown hg (fun e => by have := Option.some.inj e; omega))
  have X3 := Lib.hid (X3.out.grown hg (fun e => by have := Option.some.inj e; omega))
  have Ho := Lib.hid (Ho.out.kept hg (fun g' hA e => by have := (Ho.out.ge hA).1; have := Option.some.inj e; omega))
  have Hg := Lib.hid (gtrans Hg.out hg)
  have Hr := Lib.hid hr
  have z5 := X3.out.lt
  clear hr hg
  by_cases h0 : x0 = 0
  · subst h0
    clear k1 k2
    have t0 := X3.out.cell0
    have t1 := X3.out.cell1
    have t2 := X3.out.lt
    have hlt4 := Hr.out.lt
    go_wp2_with fail
    have hl := Ints.lit y4 3 [0, 8, s + 1]
    refine (r_one B g (q1 + 1) _ _ [0, 8, s + 1] _ _ (Hr.out.below ((Below.refl _ _).alloc (Nat.le_refl _) _) Hr.out.lt) (by omega) hl (by simp) (by simp) (by simp) (by rintro b o e; injection e with e; injection e; omega)).mono ?_
    rintro e y5 ⟨x, rfl, hx, hr, hg⟩
    have hx8 : 0 ≤ x ∧ x ≤ 8 := by simp at hx; omega
    have hg5 := gtrans (World.grownBy_alloc y4 _ (some g)) hg
    have X2 := Lib.hid (X2.out.grown hg5 (fun e => by have := Option.some.inj e; omega))
    have X3 := Lib.hid (X3.out.grown hg5 (fun e => by have := Option.some.inj e; omega))
    have Ho := Lib.hid (Ho.out.kept hg5 (fun g' hA e => by have := (Ho.out.ge hA).1; have := Option.some.inj e; omega))
    have Hg := Lib.hid (gtrans Hg.out hg5)
    have Hr := Lib.hid hr
    clear hl hx hg hg5 hr t0 t1 t2
    have t0 := X3.out.cell0
    have t1 := X3.out.cell1
    have t2 := X3.out.lt
    have t3 := X3.out.frozen 0
    go_upto_region 9 with (fail)
    obtain ⟨y6, hy6⟩ : ∃ y6, y6 = y5.setCell ⟨y.heap.size, 0, none⟩ (.int .i64 x) := ⟨_, rfl⟩
    have hBg := Hr.out.1
    have X2 : Hid (Bx 25 y6 w.heap.size 0 (.slice none 0 0)) := Lib.hid (by rw [hy6]; exact X2.out.far (p := ⟨y.heap.size, 0, none⟩) (by show w.heap.size ≠ y.heap.size; omega) _)
    have X3 : Hid (Bx 25 y6 y.heap.size x (.slice (some ⟨ga, 0, none⟩) n c)) := Lib.hid (by rw [hy6]; exact X3.out.set0 x)
    have Ho : Hid (Own y6 (w.heap.size + 1) (some ⟨ga, 0, none⟩) n c cs) := Lib.hid (by rw [hy6]; exact Ho.out.far ⟨y.heap.size, 0, none⟩ (fun g' hA => by injection hA with hA; injection hA; show g' ≠ y.heap.size; omega) _)
    have Hr : Hid (Rdr y6 B g (q1 + 1 + 1)) := Lib.hid (by rw [hy6]; exact Hr.out.far ⟨y.heap.size, 0, none⟩ (by show g ≠ y.heap.size; omega) (by show B ≤ y.heap.size; omega) _)
    have Hg : Hid (w.grownBy y6 (some g)) := Lib.hid (by rw [hy6]; exact gset Hg.out ⟨y.heap.size, 0, none⟩ (by show w.heap.size ≤ y.heap.size; omega) _)
    rw [← hy6]
    clear hy6 t0 t1 t2 t3
    have Hi := Lib.hid (IntsF.of Ho.out)
    have K0 := Lib.hid ((X2.out.set0 x).cell0)
    have K1 := Lib.hid (((X2.out.set0 x).set1 (.slice (some ⟨ga, 0, none⟩) n c)).cell1)
    have t0 := X3.out.cell0
    have t1 := X3.out.cell1
    have t2 := X3.out.lt
    have r0 := X2.out.cell0
    have r1 := X2.out.cell1
    have r2 := X2.out.frozen 0
    have r3 := X2.out.frozen 1
    have r4 := X2.out.lt
    have hBg := Hr.out.1
    have Hr3 := Lib.hid ((Hr.out.far ⟨w.heap.size, 0, none⟩ (by show g ≠ w.heap.size; omega) (by show B ≤ w.heap.size; omega) (.int .i64 x)).far ⟨w.heap.size, 1, none⟩ (by show g ≠ w.heap.size; omega) (by show B ≤ w.heap.size; omega) (.slice (some ⟨ga, 0, none⟩) n c))
    have Hg3 := Lib.hid (gset (gset Hg.out ⟨w.heap.size, 0, none⟩ (Nat.le_refl _) (.int .i64 x)) ⟨w.heap.size, 1, none⟩ (Nat.le_refl _) (.slice (some ⟨ga, 0, none⟩) n c))
    have Hi3 := Lib.hid ((Hi.out.far ⟨w.heap.size, 0, none⟩ (Nat.lt_succ_self _) (.int .i64 x)).far ⟨w.heap.size, 1, none⟩ (Nat.lt_succ_self _) (.slice (some ⟨ga, 0, none⟩) n c))
    go_wp2_with fail
    have k0 := K0.out
    have k1 := K1.out
    refine bodyPost_ret (v := .agg #[.int .i64 x, .slice (some ⟨ga, 0, none⟩) n c]) (by simp [results, Try.results15, go_sem, k0, k1]) rfl ?_
    exact ⟨_, _, _, _, _, _, rfl, Hi3.out.weaken (by omega), by omega, by omega, by omega, Hr3.out, by omega, Hg3.out⟩
  · have e0 : (x0 == 0) = false := by simpa using h0
    by_cases h1 : x0 = 1
    · subst h1
      clear k1 k2 h0 e0
      obtain ⟨m, rfl⟩ : ∃ m, n = m + 1 := ⟨n - 1, by omega⟩
      obtain ⟨d, rfl⟩ : ∃ d, c = d + 1 := ⟨c - 1, by omega⟩
      have t0 := X3.out.cell0
      have t1 := X3.out.cell1
      have t2 := X3.out.lt
      have t3 := X3.out.frozen 1
      by_cases hd : d = 0
      · subst hd
        obtain rfl : m = 0 := by omega
        go_upto_region 9 with (fail)
        obtain ⟨y6, hy6⟩ : ∃ y6, y6 = y4.setCell ⟨y.heap.size, 1, none⟩ (.slice (some ⟨ga, 0, none⟩) 0 0) := ⟨_, rfl⟩
        have hBg := Hr.out.1
        have hgl := Hr.out.lt
        have X2 : Hid (Bx 25 y6 w.heap.size 0 (.slice none 0 0)) := Lib.hid (by rw [hy6]; exact X2.out.far (p := ⟨y.heap.size, 1, none⟩) (by show w.heap.size ≠ y.heap.size; omega) _)
        have X3 : Hid (Bx 25 y6 y.heap.size s (.slice (some ⟨ga, 0, none⟩) 0 0)) := Lib.hid (by rw [hy6]; exact X3.out.set1 _)
        have Ho : Hid (Own y6 (w.heap.size + 1) (some ⟨ga, 0, none⟩) (0 + 1) (0 + 1) cs) := Lib.hid (by rw [hy6]; exact Ho.out.far ⟨y.heap.size, 1, none⟩ (fun g' hA => by injection hA with hA; injection hA; show g' ≠ y.heap.size; omega) _)
        have Hr : Hid (Rdr y6 B g (q1 + 1)) := Lib.hid (by rw [hy6]; exact Hr.out.far ⟨y.heap.size, 1, none⟩ (by show g ≠ y.heap.size; omega) (by show B ≤ y.heap.size; omega) _)
        have Hg : Hid (w.grownBy y6 (some g)) := Lib.hid (by rw [hy6]; exact gset Hg.out ⟨y.heap.size, 1, none⟩ (by show w.heap.size ≤ y.heap.size; omega) _)
        rw [← hy6]
        clear hy6 t0 t1 t2 t3
        have Hi : Hid (IntsF y6 (w.heap.size + 1) (some ⟨ga, 0, none⟩) 0 []) := Lib.hid ⟨rfl, .inl rfl⟩
        have K0 := Lib.hid ((X2.out.set0 s).cell0)
        have K1 := Lib.hid (((X2.out.set0 s).set1 (.slice (some ⟨ga, 0, none⟩) 0 0)).cell1)
        have t0 := X3.out.cell0
        have t1 := X3.out.cell1
        have t2 := X3.out.lt
        have r0 := X2.out.cell0
        have r1 := X2.out.cell1
        have r2 := X2.out.frozen 0
        have r3 := X2.out.frozen 1
        have r4 := X2.out.lt
        have hBg := Hr.out.1
        have Hr3 := Lib.hid ((Hr.out.far ⟨w.heap.size, 0, none⟩ (by show g ≠ w.heap.size; omega) (by show B ≤ w.heap.size; omega) (.int .i64 s)).far ⟨w.heap.size, 1, none⟩ (by show g ≠ w.heap.size; omega) (by show B ≤ w.heap.size; omega) (.slice (some ⟨ga, 0, none⟩) 0 0))
        have Hg3 := Lib.hid (gset (gset Hg.out ⟨w.heap.size, 0, none⟩ (Nat.le_refl _) (.int .i64 s)) ⟨w.heap.size, 1, none⟩ (Nat.le_refl _) (.slice (some ⟨ga, 0, none⟩) 0 0))
        have Hi3 := Lib.hid ((Hi.out.far ⟨w.heap.size, 0, none⟩ (Nat.lt_succ_self _) (.int .i64 s)).far ⟨w.heap.size, 1, none⟩ (Nat.lt_succ_self _) (.slice (some ⟨ga, 0, none⟩) 0 0))
        go_wp2_with fail
        have k0 := K0.out
        have k1 := K1.out
        refine bodyPost_ret (v := .agg #[.int .i64 s, .slice (some ⟨ga, 0, none⟩) 0 0]) (by simp [results, Try.results15, go_sem, k0, k1]) rfl ?_
        exact ⟨_, _, _, _, _, _, rfl, Hi3.out.weaken (by omega), by omega, by omega, by omega, Hr3.out, by omega, Hg3.out⟩
      · have hd' : ¬ (d + 1 = 1) := by omega
        go_upto_region 9 with (fail)
        obtain ⟨y6, hy6⟩ : ∃ y6, y6 = y4.setCell ⟨y.heap.size, 1, none⟩ (.slice (some ⟨ga, 1, none⟩) m d) := ⟨_, rfl⟩
        have hBg := Hr.out.1
        have hgl := Hr.out.lt
        have X2 : Hid (Bx 25 y6 w.heap.size 0 (.slice none 0 0)) := Lib.hid (by rw [hy6]; exact X2.out.far (p := ⟨y.heap.size, 1, none⟩) (by show w.heap.size ≠ y.heap.size; omega) _)
        have X3 : Hid (Bx 25 y6 y.heap.size s (.slice (some ⟨ga, 1, none⟩) m d)) := Lib.hid (by rw [hy6]; exact X3.out.set1 _)
        have Ho : Hid (Own y6 (w.heap.size + 1) (some ⟨ga, 0, none⟩) (m + 1) (d + 1) cs) := Lib.hid (by rw [hy6]; exact Ho.out.far ⟨y.heap.size, 1, none⟩ (fun g' hA => by injection hA with hA; injection hA; show g' ≠ y.heap.size; omega) _)
        have Hr : Hid (Rdr y6 B g (q1 + 1)) := Lib.hid (by rw [hy6]; exact Hr.out.far ⟨y.heap.size, 1, none⟩ (by show g ≠ y.heap.size; omega) (by show B ≤ y.heap.size; omega) _)
        have Hg : Hid (w.grownBy y6 (some g)) := Lib.hid (by rw [hy6]; exact gset Hg.out ⟨y.heap.size, 1, none⟩ (by show w.heap.size ≤ y.heap.size; omega) _)
        rw [← hy6]
        clear hy6 t0 t1 t2 t3
        have Hi := Lib.hid (IntsF.tail (IntsF.of Ho.out))
        have K0 := Lib.hid ((X2.out.set0 s).cell0)
        have K1 := Lib.hid (((X2.out.set0 s).set1 (.slice (some ⟨ga, 1, none⟩) m d)).cell1)
        have t0 := X3.out.cell0
        have t1 := X3.out.cell1
        have t2 := X3.out.lt
        have r0 := X2.out.cell0
        have r1 := X2.out.cell1
        have r2 := X2.out.frozen 0
        have r3 := X2.out.frozen 1
        have r4 := X2.out.lt
        have hBg := Hr.out.1
        have Hr3 := Lib.hid ((Hr.out.far ⟨w.heap.size, 0, none⟩ (by show g ≠ w.heap.size; omega) (by show B ≤ w.heap.size; omega) (.int .i64 s)).far ⟨w.heap.size, 1, none⟩ (by show g ≠ w.heap.size; omega) (by show B ≤ w.heap.size; omega) (.slice (some ⟨ga, 1, none⟩) m d))
        have Hg3 := Lib.hid (gset (gset Hg.out ⟨w.heap.size, 0, none⟩ (Nat.le_refl _) (.int .i64 s)) ⟨w.heap.size, 1, none⟩ (Nat.le_refl _) (.slice (some ⟨ga, 1, none⟩) m d))
        have Hi3 := Lib.hid ((Hi.out.far ⟨w.heap.size, 0, none⟩ (Nat.lt_succ_self _) (.int .i64 s)).far ⟨w.heap.size, 1, none⟩ (Nat.lt_succ_self _) (.slice (some ⟨ga, 1, none⟩) m d))
        go_wp2_with fail
        have k0 := K0.out
        have k1 := K1.out
        refine bodyPost_ret (v := .agg #[.int .i64 s, .slice (some ⟨ga, 1, none⟩) m d]) (by simp [results, Try.results15, go_sem, k0, k1]) rfl ?_
        exact ⟨_, _, _, _, _, _, rfl, Hi3.out.weaken (by omega), by omega, by omega, by omega, Hr3.out, by omega, Hg3.out⟩
    · have e1 : (x0 == 1) = false := by simpa using h1
      by_cases h2 : x0 = 2
      · subst h2
        clear k1 k2 h0 h1 e0 e1
        have t0 := X3.out.cell0
        have t1 := X3.out.cell1
        have t2 := X3.out.lt
        have hlt4 := Hr.out.lt
        have hn0 : (0 : Int) < n := by omega
        go_wp2_with fail
        go_region_with (first | (go_at_call 17; refine (r_one B g (q1 + 1) _ _ [-1, 3] (y4.heap.size + 1) _ (by exact (show Rdr (y4.alloc (.cells #[.int .i64 (-1), .int .i64 3] 3)) B g (q1 + 1) from Hr.out.below ((Below.refl _ _).alloc (Nat.le_refl _) _) Hr.out.lt)) (by omega) (by exact Ints.lit y4 3 [-1, 3]) (by show y4.heap.size + 1 ≤ (y4.alloc (.cells #[.int .i64 (-1), .int .i64 3] 3)).heap.size; simp) (by simp) (by simp) (by rintro b o e; injection e with e; injection e; omega)).mono ?_; rintro e y5 ⟨x, rfl, hx, hr, hg⟩; have hg5 : y4.grownBy y5 (some g) := gtrans (World.grownBy_alloc y4 (.cells #[.int .i64 (-1), .int .i64 3] 3) (some g)) ⟨hg.os, hg.tape, hg.output, hg.size, hg.block⟩; have HX2 := Lib.hid (X2.out.grown hg5 (fun e => by have := Option.some.inj e; omega)); have HX3 := Lib.hid (X3.out.grown hg5 (fun e => by have := Option.some.inj e; omega)); have HO := Lib.hid (Ho.out.kept hg5 (fun g' hA e => by have := (Ho.out.ge hA).1; have := Option.some.inj e; omega)); have u0 := HX3.out.cell0; have u1 := HX3.out.cell1; have u2 := HX3.out.lt; have u3 := World.ownsRow.cellAt HO.out.2 0 (by omega); rw [List.getElem?_eq_getElem (by rw [List.length_map, HO.out.1]; omega)] at u3; have u4 := World.ownsRow.frozenAt HO.out.2 0; have HR := Lib.hid hr; have HG := Lib.hid (gtrans Hg.out hg5); clear hr hg hg5 hx))
        all_goals go_upto_region 9 with (fail)
        all_goals
          obtain ⟨y6, hy6⟩ : ∃ y6, y6 = y5.setCell ⟨ga, 0, none⟩ (.int .i64 x) := ⟨_, rfl⟩
          have hBg := HR.out.1
          have X2 : Hid (Bx 25 y6 w.heap.size 0 (.slice none 0 0)) := Lib.hid (by rw [hy6]; exact HX2.out.far (p := ⟨ga, 0, none⟩) (by show w.heap.size ≠ ga; omega) _)
          have X3 : Hid (Bx 25 y6 y.heap.size s (.slice (some ⟨ga, 0, none⟩) n c)) := Lib.hid (by rw [hy6]; exact HX3.out.far (p := ⟨ga, 0, none⟩) (by show y.heap.size ≠ ga; omega) _)
          have Ho : Hid (Own y6 (w.heap.size + 1) (some ⟨ga, 0, none⟩) n c (cs.set 0 x)) := Lib.hid (by rw [hy6]; exact (HO.out.stored 0 x).1)
          have Hr : Hid (Rdr y6 B g (q1 + 1 + 1)) := Lib.hid (by rw [hy6]; exact HR.out.far ⟨ga, 0, none⟩ (by show g ≠ ga; omega) (by show B ≤ ga; omega) _)
          have Hg : Hid (w.grownBy y6 (some g)) := Lib.hid (by rw [hy6]; exact gset HG.out ⟨ga, 0, none⟩ (by show w.heap.size ≤ ga; omega) _)
          rw [← hy6]
          clear hy6 u0 u1 u2 u3 u4 t0 t1 t2
          have Hi := Lib.hid (IntsF.of Ho.out)
          have K0 := Lib.hid ((X2.out.set0 s).cell0)
          have K1 := Lib.hid (((X2.out.set0 s).set1 (.slice (some ⟨ga, 0, none⟩) n c)).cell1)
          have t0 := X3.out.cell0
          have t1 := X3.out.cell1
          have t2 := X3.out.lt
          have r0 := X2.out.cell0
          have r1 := X2.out.cell1
          have r2 := X2.out.frozen 0
          have r3 := X2.out.frozen 1
          have r4 := X2.out.lt
          have hBg := Hr.out.1
          have Hr3 := Lib.hid ((Hr.out.far ⟨w.heap.size, 0, none⟩ (by show g ≠ w.heap.size; omega) (by show B ≤ w.heap.size; omega) (.int .i64 s)).far ⟨w.heap.size, 1, none⟩ (by show g ≠ w.heap.size; omega) (by show B ≤ w.heap.size; omega) (.slice (some ⟨ga, 0, none⟩) n c))
          have Hg3 := Lib.hid (gset (gset Hg.out ⟨w.heap.size, 0, none⟩ (Nat.le_refl _) (.int .i64 s)) ⟨w.heap.size, 1, none⟩ (Nat.le_refl _) (.slice (some ⟨ga, 0, none⟩) n c))
          have Hi3 := Lib.hid ((Hi.out.far ⟨w.heap.size, 0, none⟩ (Nat.lt_succ_self _) (.int .i64 s)).far ⟨w.heap.size, 1, none⟩ (Nat.lt_succ_self _) (.slice (some ⟨ga, 0, none⟩) n c))
          go_wp2_with fail
          have k0 := K0.out
          have k1 := K1.out
          refine bodyPost_ret (v := .agg #[.int .i64 s, .slice (some ⟨ga, 0, none⟩) n c]) (by simp [results, Try.results15, go_sem, k0, k1]) rfl ?_
          exact ⟨_, _, _, _, _, _, rfl, Hi3.out.weaken (by omega), by omega, by omega, by omega, Hr3.out, by omega, Hg3.out⟩
      · have e2 : (x0 == 2) = false := by simpa using h2
        clear h0 h1 h2
        have Hi := Lib.hid (IntsF.of Ho.out)
        have K0 := Lib.hid ((X2.out.set0 s).cell0)
        have K1 := Lib.hid (((X2.out.set0 s).set1 (.slice (some ⟨ga, 0, none⟩) n c)).cell1)
        have t0 := X3.out.cell0
        have t1 := X3.out.cell1
        have t2 := X3.out.lt
        have r0 := X2.out.cell0
        have r1 := X2.out.cell1
        have r2 := X2.out.frozen 0
        have r3 := X2.out.frozen 1
        have r4 := X2.out.lt
        have hBg := Hr.out.1
        have Hr3 := Lib.hid ((Hr.out.far ⟨w.heap.size, 0, none⟩ (by show g ≠ w.heap.size; omega) (by show B ≤ w.heap.size; omega) (.int .i64 s)).far ⟨w.heap.size, 1, none⟩ (by show g ≠ w.heap.size; omega) (by show B ≤ w.heap.size; omega) (.slice (some ⟨ga, 0, none⟩) n c))
        have Hg3 := Lib.hid (gset (gset Hg.out ⟨w.heap.size, 0, none⟩ (Nat.le_refl _) (.int .i64 s)) ⟨w.heap.size, 1, none⟩ (Nat.le_refl _) (.slice (some ⟨ga, 0, none⟩) n c))
        have Hi3 := Lib.hid ((Hi.out.far ⟨w.heap.size, 0, none⟩ (Nat.lt_succ_self _) (.int .i64 s)).far ⟨w.heap.size, 1, none⟩ (Nat.lt_succ_self _) (.slice (some ⟨ga, 0, none⟩) n c))
        go_wp2_with fail
        have k0 := K0.out
        have k1 := K1.out
        refine bodyPost_ret (v := .agg #[.int .i64 s, .slice (some ⟨ga, 0, none⟩) n c]) (by simp [results, Try.results15, go_sem, k0, k1]) rfl ?_
        exact ⟨_, _, _, _, _, _, rfl, Hi3.out.weaken (by omega), by omega, by omega, by omega, Hr3.out, by omega, Hg3.out⟩
end Go.Proofs.Ytniddfoiakbfdaa

namespace Go.Proofs.Ytniddfoiakbfdaa
set_option maxRecDepth 100000
open Go.RowKit

theorem undrew {a b : World} (h : Below a.drew.heap.size a.drew b) : Below a.heap.size a b := ⟨h.os, h.tape, h.output, h.size, h.block⟩
theorem Ints.step {w w' : World} {n : Nat} {A : Option Addr} {xs : List Int} (h : Ints w w.heap.size A n xs) (hb : Below w.heap.size w w') : Ints w' w'.heap.size A n xs := (h.below hb (Nat.le_refl _)).more hb.size
theorem Bx.step {t : TypeId} {w w' : World} {g : Nat} {s : Int} {v : Value} (h : Bx t w g s v) (hb : Below w.heap.size w w') : Bx t w' g s v := h.below hb h.lt
theorem bstep {a w w' : World} (h : Below a.heap.size a w) (hb : Below w.heap.size w w') : Below a.heap.size a w' := h.trans (hb.mono h.size)

theorem IsRow.below {k : IntKind} {w w' : World} {a : Option Addr} {len cap : Nat} {zs : List Int} (h : IsRow k w a len cap zs) (hb : Below w.heap.size w w') : IsRow k w' a len cap zs := by
  rcases h with h | ⟨x, hx, h1, h2, h3, h4, h5⟩
  · exact .inl h
  · refine .inr ⟨x, hx, h1, h2, h3, fun i hi => ?_, h5⟩
    have := h4 i hi
    exact (World.cell?_of_block (w := w) (a := x.add i) (hb.block _ (World.block_lt_of_cell? w _ this))).trans this

/-- What a law's draw of a board gives. -/
def DrawnL (w : World) (e : Ending) (w' : World) : Prop :=
  ∃ (s : Int) (A : Option Addr) (n c : Nat) (cs : List Int), e = .returned (.agg #[.int .i64 s, .slice A n c]) ∧ Ints w' w'.heap.size A n cs ∧ n ≤ 49 ∧ 0 ≤ s ∧ s ≤ 8 ∧ Below w.heap.size w w'
/-- The same with an int. -/
def DrawnLI (P : Int → Prop) (w : World) (e : Ending) (w' : World) : Prop :=
  ∃ (s : Int) (A : Option Addr) (n c : Nat) (cs : List Int) (x : Int), e = .returned (.tuple #[.agg #[.int .i64 s, .slice A n c], .int .i64 x]) ∧ Ints w' w'.heap.size A n cs ∧ n ≤ 49 ∧ 0 ≤ s ∧ s ≤ 8 ∧ P x ∧ Below w.heap.size w w'

end Go.Proofs.Ytniddfoiakbfdaa

