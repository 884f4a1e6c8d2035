/-
  Texts that laws over drawn boards stand on: ListsB, SSL, WordsU, FmtP, FmtS, ParseS, Undone, PureMv, MvI, TrI, SpecC, TrS, Rand, Any, Step, DrawLI, AtW, Count, Valid, CntP, LawP.
-/
import Derived.Test.YtfpibldknjcehaaLists
import Derived.Test.YtfpibldknjcehaaFactPt
import Derived.Test.YtfpibldknjcehaaSS
import Derived.Deep.RegionWith
import Derived.Deep.DeepCutAuto
import Derived.Test.YtfpibldknjcehaaWords
import Derived.Laws.BytesString
import Derived.Test.YtfpibldknjcehaaPureBd
import Derived.Test.YtfpibldknjcehaaRows2
import Derived.Test.YtfpibldknjcehaaPlayP
import Derived.Laws.BytesArg
import Derived.Test.YtfpibldknjcehaaBoard
import Derived.Deep.QuietTactic
import Derived.BigQuiet
import Derived.IntWalk
import Derived.Test.YtfpibldknjcehaaImplPtB
import Derived.Test.YtfpibldknjcehaaInvS
import Derived.Test.YtfpibldknjcehaaSpecA
import Derived.Test.YtfpibldknjcehaaPlayed
import Derived.Test.YtfpibldknjcehaaAtI
import Derived.Test.YtfpibldknjcehaaAtS
import Derived.Test.YtfpibldknjcehaaLibI
import Derived.Test.YtfpibldknjcehaaBoardI
namespace Go.Proofs.Ytfpibldknjcehaa
set_option maxRecDepth 100000
open Go.RowKit

theorem mem_at {xs : List Int} {x : Int} (h : x ∈ xs) : ∃ j, j < xs.length ∧ xs.getD j 0 = x ∧ ∀ i, i < j → xs.getD i 0 ≠ x := by
  induction xs with
  | nil => cases h
  | cons y l ih =>
    by_cases hy : y = x
    · exact ⟨0, by simp, by simpa using hy, fun i hi => by omega⟩
    · have hm : x ∈ l := by
        rcases List.mem_cons.1 h with h | h
        · exact absurd h.symm hy
        · exact h
      obtain ⟨j, hj, he, hb⟩ := ih hm
      refine ⟨j + 1, by simpa using hj, by simpa using he, fun i hi => ?_⟩
      match i with
      | 0 => simpa using hy
      | i + 1 => simpa using hb i (by omega)

theorem in_t (w : World) (B : Nat) (A : Option Addr) (n c : Nat) (xs : List Int) (x : Int) (h : Ints w B A n xs) (hn : n ≤ 1000000000) (hx : x ∈ xs) :
    Calls Try.prog 47 #[.slice A n c, .int .i64 x] w fun e w' => e = .returned (.bool true) ∧ w = w' := by
  obtain ⟨m, hm, he, hb⟩ := mem_at hx
  rw [h.1] at hm
  rcases h.2 with h0 | ⟨b, o, rfl, hlt, hc⟩
  · omega
  · have Hc := Lib.hid hc
    have Hb := Lib.hid hb
    have He := Lib.hid he
    clear hc hb he hx h
    go_enter Try.func47, Try.ntmps47
    go_wp2_with fail
    go_loop [5] (fun i => ∃ k : Nat, k ≤ m ∧ i = .int .i64 k) (fun i => n - (intOf i).toNat)
    case atStart => exact ⟨0, by omega, rfl⟩
    case round =>
      obtain ⟨k, hk, rfl⟩ := hrel
      have hck := Hc.out k (by omega)
      obtain ⟨y, hy⟩ : ∃ y, xs.getD k 0 = y := ⟨_, rfl⟩
      rw [hy] at hck
      by_cases hkm : k = m
      · have hyx : (y == x) = true := by rw [← hy, hkm, He.out]; simp
        clear hy hkm
        go_wp2_with fail
        go_ret
        exact ⟨rfl, rfl⟩
      · have hyx : (y == x) = false := by rw [← hy]; simpa using Hb.out k (by omega)
        clear hy
        go_wp2_with fail
        go_round
        case rel => exact ⟨k + 1, by omega, by go_num⟩
        case measure => simp [intOf]; omega

theorem rises_at {xs : List Int} (h : Pt.rises xs = true) (k : Nat) (hk : k + 1 < xs.length) : xs.getD k 0 < xs.getD (k + 1) 0 := by
  induction xs generalizing k with
  | nil => simp at hk
  | cons a l ih =>
    match l, k, hk, h with
    | [], k, hk, _ => simp at hk
    | b :: l, 0, _, h => simp [Pt.rises] at h; simpa using h.1
    | b :: l, k + 1, hk, h => simp [Pt.rises] at h; simpa using ih h.2 k (by simpa using hk)

theorem asc_t (w : World) (B : Nat) (A : Option Addr) (n c : Nat) (xs : List Int) (h : Ints w B A n xs) (hn : n ≤ 1000000000) (hx : Pt.rises xs = true) :
    Calls Try.prog 48 #[.slice A n c] w fun e w' => Drew (.bool true) w e w' := by
  have hr := rises_at hx
  rw [h.1] at hr
  have Hr := Lib.hid hr
  clear hr hx
  rcases h.2 with rfl | ⟨b, o, rfl, hlt, hc⟩
  · clear h
    go_enter Try.func48, Try.ntmps48
    go_wp2_with fail
    go_rounds 1
    go_ret
    exact ⟨0, rfl, rfl⟩
  · have Hc := Lib.hid hc
    clear hc h
    go_enter Try.func48, Try.ntmps48
    go_wp2_with fail
    go_loopw [3] (fun i wr => ∃ k : Nat, 1 ≤ k ∧ k ≤ n + 1 ∧ i = .int .i64 k ∧ ∃ d, wr = w.drewN d) (fun i _ => n + 1 - (intOf i).toNat)
    case atStart => exact ⟨1, by omega, by omega, rfl, 0, rfl⟩
    case round =>
      obtain ⟨k, hk1, hk2, rfl, d, rfl⟩ := hrel
      by_cases hlt : k < n
      · obtain ⟨j, rfl⟩ : ∃ j, k = j + 1 := ⟨k - 1, by omega⟩
        have c1 := Hc.out j (by omega)
        have c2 := Hc.out (j + 1) hlt
        have hab := Hr.out j hlt
        obtain ⟨x, hx⟩ : ∃ x, xs.getD j 0 = x := ⟨_, rfl⟩
        obtain ⟨y, hy⟩ : ∃ y, xs.getD (j + 1) 0 = y := ⟨_, rfl⟩
        rw [hx] at c1
        rw [hy] at c2
        rw [hx, hy] at hab
        clear hx hy
        have hd : decide (y ≤ x) = false := by rw [decide_eq_false_iff_not]; omega
        have e1 : IntKind.i64.wrap (((j + 1 : Nat) : Int) - 1) = (j : Int) := by rw [show (((j + 1 : Nat) : Int) - 1) = (j : Int) by omega]; exact IntWalk.i64_in _ (by omega)
        go_wp2_with fail
        go_quiet (fail)
        go_wp2_with fail
        go_roundw
        case rel => exact ⟨j + 1 + 1, by omega, by omega, by go_num, _, rfl⟩
        case measure => simp [intOf]; omega
      · go_wp2_with fail
        go_ret
        exact ⟨_, rfl, rfl⟩
end Go.Proofs.Ytfpibldknjcehaa

namespace Go.Proofs.Ytfpibldknjcehaa
set_option maxRecDepth 100000
open Go.RowKit

set_option maxRecDepth 100000 in
set_option maxHeartbeats 2000000 in
theorem eqss_b (w : World) (A A' : Option Addr) (n c c' : Nat) (xss : List (List Int)) (h : IntsS w A n xss) (h' : IntsS w A' n xss) (hn : n ≤ 1000000) (hsm : ∀ j, j < n → (xss.getD j []).length ≤ 1000000) :
    Calls Try.prog 29 #[.slice A n c, .slice A' n c'] w fun e w' => e = .returned (.bool true) ∧ Below w.heap.size w w' := by
  by_cases h0 : n = 0
  · subst h0
    clear h h' hsm
    go_enter Try.func29, Try.ntmps29
    go_wp2_with fail
    go_rounds 1
    go_ret
    exact ⟨rfl, Below.refl _ _⟩
  · obtain ⟨b, o, rfl, hlt, hc⟩ : ∃ b o, A = some ⟨b, o, none⟩ ∧ b < w.heap.size ∧ ∀ j, j < n → ∃ Aj nj cj, w.cell? ⟨b, o + j, none⟩ = some (.slice Aj nj cj) ∧ Ints w w.heap.size Aj nj (xss.getD j []) := by
      rcases h.2 with e | e
      · exact absurd e h0
      · exact e
    obtain ⟨b', o', rfl, hlt', hc'⟩ : ∃ b o, A' = some ⟨b, o, none⟩ ∧ b < w.heap.size ∧ ∀ j, j < n → ∃ Aj nj cj, w.cell? ⟨b, o + j, none⟩ = some (.slice Aj nj cj) ∧ Ints w w.heap.size Aj nj (xss.getD j []) := by
      rcases h'.2 with e | e
      · exact absurd e h0
      · exact e
    have Hc := Lib.hid hc
    have Hc' := Lib.hid hc'
    have Hsm := Lib.hid hsm
    clear h h' hc hc' hsm
    go_enter Try.func29, Try.ntmps29
    go_wp2_with fail
    go_loopw [5] (fun i wr => ∃ k : Nat, k ≤ n ∧ i = .int .i64 k ∧ Below w.heap.size w wr) (fun i _ => n - (intOf i).toNat)
    case atStart => exact ⟨0, by omega, rfl, Below.refl _ _⟩
    case round =>
      obtain ⟨k, hk, rfl, hb⟩ := hrel
      have Hb := Lib.hid hb
      have hz := hb.size
      clear hb
      obtain ⟨wo, rfl⟩ : ∃ wo : World, wo = wr := ⟨_, rfl⟩
      by_cases hkn : k < n
      · obtain ⟨A1, n1, c1, e1, i1⟩ := Hc.out k hkn
        obtain ⟨A2, n2, c2, e2, i2⟩ := Hc'.out k hkn
        have hs := Hsm.out k hkn
        have l1 := i1.1
        have l2 := i2.1
        obtain rfl : n2 = n1 := by omega
        have ck := (Hb.out.cell (p := ⟨b, o + k, none⟩) (by show b < _; omega)).trans e1
        have ck' := (Hb.out.cell (p := ⟨b', o' + k, none⟩) (by show b' < _; omega)).trans e2
        have I1 := Lib.hid (i1.below Hb.out (Nat.le_refl _))
        have I2 := Lib.hid (i2.below Hb.out (Nat.le_refl _))
        have hki : (k : Int) < n := by omega
        have hs2 : n2 ≤ 1000000000 := by omega
        clear e1 e2 i1 i2 l1 l2 hs
        go_upto_region 6 with (fail)
        go_cut [26] (fun v wx => v = .bool false ∧ Below wo.heap.size wo wx)
        case first =>
          go_region_with (go_at_call 36; refine (eqs_t _ _ _ _ _ _ _ _ _ (by exact I1.out) (by exact I2.out) hs2).mono ?_; rintro e ya ⟨d, rfl, rfl⟩)
          all_goals go_wp2_with fail
          all_goals go_meet
          all_goals exact ⟨rfl, ⟨rfl, rfl, rfl, Nat.le_refl _, fun _ _ => rfl⟩⟩
        case rest =>
          obtain ⟨rfl, hb2⟩ := hcut
          have Hb2 := Lib.hid (Hb.out.trans (hb2.mono (by omega)))
          clear hb2 ck ck'
          go_wp2_with fail
          go_roundw
          case rel => exact ⟨k + 1, by omega, by go_num, Hb2.out⟩
          case measure => simp [intOf]; omega
      · go_wp2_with fail
        go_ret
        exact ⟨rfl, Hb.out⟩

/-- How many ints the first j rows have. -/
def off (xss : List (List Int)) : Nat → Nat
  | 0 => 0
  | j + 1 => off xss j + (xss.getD j []).length
theorem off_le {xss : List (List Int)} {n M : Nat} (h : ∀ j, j < n → (xss.getD j []).length ≤ M) : ∀ j, j ≤ n → off xss j ≤ j * M := by
  intro j
  induction j with
  | zero => intro _; exact Nat.zero_le _
  | succ j ih =>
    intro hj
    have h1 := ih (by omega)
    have h2 := h j (by omega)
    show off xss j + _ ≤ _
    rw [Nat.succ_mul]
    omega

/-- The rows hold marks, each beginning where the one before ended. -/
def Mk (k : Int) (n : Nat) (xss yss : List (List Int)) : Prop := yss.length = n ∧ ∀ i, i < n → yss.getD i [] = marks (k + off xss i) (xss.getD i []).length

set_option maxRecDepth 100000 in
set_option maxHeartbeats 2000000 in
theorem markss (w : World) (B hi : Nat) (A : Option Addr) (n c : Nat) (xss : List (List Int)) (k : Int) (h : SS w B hi A n c xss) (hB : B ≤ w.heap.size) (hn : n ≤ 1000) (hsm : ∀ j, j < n → (xss.getD j []).length ≤ 1000) (k1 : 0 ≤ k) (k2 : k ≤ 1000) :
    Calls Try.prog 30 #[.slice A n c, .int .i64 k] w fun e w' => ∃ yss, e = .returned (.int .i64 (k + off xss n)) ∧ SS w' B hi A n c yss ∧ Mk k n xss yss ∧ Below B w w' := by
  have hl := h.len
  have H := Lib.hid h
  have Hoff := Lib.hid (off_le hsm)
  have Hsm := Lib.hid hsm
  clear h hsm
  go_enter Try.func30, Try.ntmps30
  go_wp2_with fail
  go_loopw [1, 5] (fun q i wr => ∃ (j : Nat) (yss : List (List Int)), j ≤ n ∧ i = .int .i64 (j : Nat) ∧ q = .int .i64 (k + (off xss j : Nat)) ∧ SS wr B hi A n c yss ∧ (∀ i, i < n → yss.getD i [] = if i < j then marks (k + (off xss i : Nat)) (xss.getD i []).length else xss.getD i []) ∧ Below B w wr) (fun _ i _ => n - (intOf i).toNat)
  case atStart => exact ⟨0, xss, by omega, rfl, by simp [off], H.out, fun i _ => by simp, Below.refl _ _⟩
  case round =>
    clear H
    obtain ⟨j, yss, hj, rfl, rfl, hss, hy, hb⟩ := hrel
    have ho := Hoff.out j hj
    have ho2 : j * 1000 ≤ 1000 * 1000 := Nat.mul_le_mul_right _ (by omega)
    have hz := hb.size
    by_cases hjn : j < n
    · obtain ⟨b, A1, n1, c1, rfl, ck, hrow, hset⟩ := hss.at_ hjn
      have e1 := hy j hjn
      rw [if_neg (Nat.lt_irrefl _)] at e1
      have hrl := hrow.1
      rw [e1] at hrl
      have hs := Hsm.out j hjn
      have Hrow := Lib.hid hrow
      have Hset := Lib.hid hset
      have Hy := Lib.hid hy
      have Hb := Lib.hid hb
      have Hyl := Lib.hid hss.len
      have hji : (j : Int) < n := by omega
      have Hrl := Lib.hid hrl
      have hn1 : n1 ≤ 1000 := by omega
      obtain ⟨f, hf⟩ : ∃ f, off xss j = f := ⟨_, rfl⟩
      have Hf := Lib.hid hf
      rw [hf] at ho ⊢
      clear hss hy hb hrow hset e1 hrl hf
      go_wp2_with fail
      refine (mark_any _ _ _ _ _ _ (k + (f : Nat)) Hrow.out (by omega) (by omega) (by omega)).mono ?_
      rintro e y ⟨rfl, hm, hg⟩
      have Hs := Lib.hid (Hset.out y _ hm hg)
      have Hb2 : Hid (Below B w y) := Lib.hid (Hb.out.grown hg (by omega) (fun q e => ((Hrow.out.ge (slice_block e (row_form Hrow.out.2))).1)))
      clear hm hg
      go_wp2_with fail
      go_roundw
      case rel =>
        refine ⟨j + 1, _, by omega, by go_num, ?_, Hs.out, fun i hi => ?_, Hb2.out⟩
        · have : off xss (j + 1) = f + n1 := by show off xss j + _ = _; rw [Hf.out, Hrl.out]
          rw [this]
          simp [Int.add_assoc]
        · by_cases e : i = j
          · subst e
            rw [if_pos (Nat.lt_succ_self _), Hrl.out, Hf.out]
            simp [List.getD_eq_getElem?_getD, Hyl.out, hjn]
          · rw [show (yss.set j (marks (k + (f : Nat)) n1)).getD i [] = yss.getD i [] by simp [List.getD_eq_getElem?_getD, Ne.symm e], Hy.out i hi]
            by_cases e2 : i < j
            · rw [if_pos e2, if_pos (by omega)]
            · rw [if_neg e2, if_neg (by omega)]
      case measure => simp [intOf]; omega
    · obtain rfl : j = n := by omega
      have Hss := Lib.hid hss
      have Hmk : Hid (Mk k j xss yss) := Lib.hid ⟨hss.len, fun i hi => by rw [hy i hi, if_pos hi]⟩
      have Hb := Lib.hid hb
      clear hss hy hb
      go_wp2_with fail
      go_ret
      exact ⟨_, rfl, Hss.out, Hmk.out, Hb.out⟩

set_option maxRecDepth 100000 in
set_option maxHeartbeats 2000000 in
theorem heldss (w : World) (A : Option Addr) (n c : Nat) (xss yss : List (List Int)) (k : Int) (h : IntsS w A n yss) (hmk : Mk k n xss yss) (hn : n ≤ 1000) (hsm : ∀ j, j < n → (xss.getD j []).length ≤ 1000) (k1 : 0 ≤ k) (k2 : k ≤ 1000) :
    Calls Try.prog 31 #[.slice A n c, .int .i64 k] w fun e w' => e = .returned (.int .i64 (k + off xss n)) ∧ Below w.heap.size w w' := by
  by_cases h0 : n = 0
  · subst h0
    clear h hmk hsm
    go_enter Try.func31, Try.ntmps31
    go_wp2_with fail
    go_rounds 1
    go_ret
    exact ⟨by simp [off], Below.refl _ _⟩
  · obtain ⟨b, o, rfl, hlt, hc⟩ : ∃ b o, A = some ⟨b, o, none⟩ ∧ b < w.heap.size ∧ ∀ j, j < n → ∃ Aj nj cj, w.cell? ⟨b, o + j, none⟩ = some (.slice Aj nj cj) ∧ Ints w w.heap.size Aj nj (yss.getD j []) := by
      rcases h.2 with e | e
      · exact absurd e h0
      · exact e
    have Hc := Lib.hid hc
    have Hmk := Lib.hid hmk
    have Hoff := Lib.hid (off_le hsm)
    have Hsm := Lib.hid hsm
    clear h hc hmk hsm
    go_enter Try.func31, Try.ntmps31
    go_wp2_with fail
    go_loopw [1, 5] (fun q i wr => ∃ j : Nat, j ≤ n ∧ i = .int .i64 (j : Nat) ∧ q = .int .i64 (k + (off xss j : Nat)) ∧ wr = w) (fun _ i _ => n - (intOf i).toNat)
    case atStart => exact ⟨0, by omega, rfl, by simp [off], rfl⟩
    case round =>
      obtain ⟨j, hj, rfl, rfl, rfl⟩ := hrel
      have ho := Hoff.out j hj
      have ho2 : j * 1000 ≤ 1000 * 1000 := Nat.mul_le_mul_right _ (by omega)
      by_cases hjn : j < n
      · obtain ⟨A1, n1, c1, e1, i1⟩ := Hc.out j hjn
        rw [Hmk.out.2 j hjn] at i1
        have hs := Hsm.out j hjn
        have hrl := i1.1
        rw [marks_len] at hrl
        have hn1 : n1 ≤ 1000 := by omega
        rw [hrl] at i1
        have Hrl := Lib.hid hrl
        obtain ⟨f, hf⟩ : ∃ f, off xss j = f := ⟨_, rfl⟩
        have Hf := Lib.hid hf
        rw [hf] at ho i1 ⊢
        have Hi := Lib.hid i1
        have hji : (j : Int) < n := by omega
        clear i1 hrl hf hs
        go_wp2_with fail
        refine (held_t _ _ _ _ _ (k + (f : Nat)) Hi.out (by omega) (by omega) (by omega)).mono ?_
        rintro e y ⟨rfl, rfl⟩
        have hpos : ¬ (k + (f : Int) + (n1 : Int) < 0) := by omega
        go_wp2_with fail
        go_roundw
        case rel =>
          refine ⟨j + 1, by omega, by go_num, ?_, by first | rfl | trivial⟩
          have : off xss (j + 1) = f + n1 := by show off xss j + _ = _; rw [Hf.out, Hrl.out]
          rw [this]
          simp [Int.add_assoc]
        case measure => simp [intOf]; omega
      · obtain rfl : j = n := by omega
        go_wp2_with fail
        go_ret
        exact ⟨rfl, Below.refl _ _⟩
end Go.Proofs.Ytfpibldknjcehaa

namespace Go.Proofs.Ytfpibldknjcehaa
set_option maxRecDepth 100000
open Go.RowKit

/-- The call owns the row of n ints xs (in blocks from B on). -/
def OwU (w : World) (B : Nat) (A : Option Addr) (n c : Nat) (xs : List Int) : Prop :=
  xs.length = n ∧ w.ownsRow B 5 1 (.slice A n c) n (xs.map (Value.int .u8))

theorem OwU.nil (w : World) (B : Nat) : OwU w B none 0 0 [] := ⟨rfl, World.ownsRow_nil _ _ _ _⟩
theorem OwU.alloc {w : World} {B n c : Nat} {A : Option Addr} {xs : List Int} (h : OwU w B A n c xs) (o : Obj) : OwU (w.alloc o) B A n c xs := ⟨h.1, h.2.alloc o⟩
theorem OwU.drew {w : World} {B n c : Nat} {A : Option Addr} {xs : List Int} (h : OwU w B A n c xs) : OwU w.drew B A n c xs := h
theorem OwU.drewN {w : World} {B n c : Nat} {A : Option Addr} {xs : List Int} (h : OwU w B A n c xs) (k : Nat) : OwU (w.drewN k) B A n c xs := h
theorem OwU.kept {w w' : World} {B n c : Nat} {A : Option Addr} {xs : List Int} (h : OwU w B A n c xs) {row : Option Nat} (hg : w.grownBy w' row) (hne : ∀ g, A = some ⟨g, 0, none⟩ → row ≠ some g) : OwU w' B A n c xs := by
  refine ⟨h.1, h.2.kept hg ?_⟩
  rcases h.2.2 with ⟨hv, _⟩ | ⟨g, cap, cur, hv, _⟩
  · exact .inl (by rw [hv]; rfl)
  · refine .inr fun e => ?_
    have hA : A = some ⟨g, 0, none⟩ := by injection hv
    subst hA
    exact hne g rfl e.symm
theorem OwU.below {w w' : World} {B n c : Nat} {A : Option Addr} {xs : List Int} (h : OwU w B A n c xs) (hb : Below w.heap.size w w') : OwU w' B A n c xs :=
  h.kept (gbelow none hb (Nat.le_refl _)) (fun g _ => by simp)
/-- A new empty slice that is not nil. -/
theorem OwU.bare (w : World) (B : Nat) (hB : B ≤ w.heap.size) : OwU (w.alloc (.cells #[] 5)) B (some ⟨w.heap.size, 0, none⟩) 0 0 [] :=
  ⟨rfl, World.ownsRow_made w #[] 0 hB (by simp) rfl⟩

theorem info_u8 : (Try.prog.info? 5).map (fun i => (i.zero, i.size, i.bytes)) = some (some (.int .u8 0), 1, 1) := by kernel_rfl

/-- 'append(xs, y)' of one int: the row grows by it, in the same block or in a new one. -/
theorem appU1 {ops : Array Oper} {rest : List Oper} {o : Oper} {a : Act} {Q : Exit → Act → World → Prop} (hgd : o.guard = none) (s x : Operand)
    (ho : o.op = .call { callee := .builtin .append, args := #[s, x], argTypes := #[22, 22] })
    (w : World) (B : Nat) (A : Option Addr) (n c : Nat) (xs : List Int) (y : Int) (G : Nat) (hs : a.eval s = .slice A n c) (hx : a.eval x = .slice (some ⟨G, 0, none⟩) 1 1) (hG : w.heap.size = G)
    (hown : OwU w B A n c xs) (hB : B ≤ w.heap.size) (hn : n ≤ 1000000000)
    (h : ∀ A' c' w', OwU w' B A' (n + 1) c' (xs ++ [y]) → Below B w w' → w.heap.size < w'.heap.size → w.grownBy w' (Value.slice A n c).ownBlock → wpList Try.prog ops Q rest (a.put o.dst (.slice A' (n + 1) c')) w') :
    wpList Try.prog ops Q (o :: rest) a (w.alloc (.cells #[.int .u8 y] 5)) := by
  subst hG
  obtain ⟨i0, hi, hz0, hz1, hz2⟩ := info_parts info_u8
  refine wpList_append_own _ hgd s x 22 ho B 5 i0 (.int .u8 0) 1 1 Try.underlying22 hi hz0 hz1 hz2 rfl (by decide) _ n _ hs (hown.2.alloc _) ⟨w.heap.size, 0, none⟩ 1 1 [.int .u8 y] hx rfl ?_ ?_ ?_ ?_ ?_ ?_
  · intro j u hj
    match j, hj with
    | 0, hj => simp at hj; subst hj; simp [Addr.add]
  · intro u hu; simp at hu; subst hu; rfl
  · unfold maxLen; omega
  · omega
  · simp; omega
  · intro v' w' hown' hgrow hnil
    have hne : v' ≠ .slice none 0 0 := fun e => by have := (hnil.1 e).2; omega
    rcases hown'.2 with ⟨hv, _⟩ | ⟨g, cap, cur, hv, hr⟩
    · exact absurd hv hne
    · subst hv
      have hgr : w.grownBy w' (Value.slice A n c).ownBlock := gtrans (World.grownBy_alloc w _ _) hgrow
      refine h _ _ _ ⟨by simp [hown.1], by simpa using hown'⟩ (below_g hgr hB ?_) ?_ hgr
      · intro k hk
        exact (World.ownsRow.lt hown.2 k hk).1
      · have := hgrow.size; simp at this; omega

theorem OwU.far {w : World} {B n c : Nat} {A : Option Addr} {xs : List Int} (h : OwU w B A n c xs) (p : Addr) (hne : ∀ g, A = some ⟨g, 0, none⟩ → g ≠ p.block) (u : Value) : OwU (w.setCell p u) B A n c xs :=
  h.kept (row := some p.block) ⟨rfl, rfl, rfl, by simp [World.setCell], fun k _ hk => Below.heap_setCell w p u k (fun e => hk (by rw [e]))⟩ (fun g hA e => hne g hA (by injection e with e; exact e.symm))
/-- A row of the call's own that lies from B on is none of the blocks below B. -/
theorem OwU.ge {w : World} {B n c g : Nat} {A : Option Addr} {xs : List Int} (h : OwU w B A n c xs) (hA : A = some ⟨g, 0, none⟩) : B ≤ g ∧ g < w.heap.size := by
  subst hA
  exact World.ownsRow.lt h.2 g rfl
theorem OwU.weaken {w : World} {B B' n c : Nat} {A : Option Addr} {xs : List Int} (h : OwU w B A n c xs) (hB : B' ≤ B) : OwU w B' A n c xs := by
  refine ⟨h.1, h.2.1, ?_⟩
  rcases h.2.2 with h2 | ⟨g, cap, cur, hv, hg, r⟩
  · exact .inl h2
  · exact .inr ⟨g, cap, cur, hv, by omega, r⟩
end Go.Proofs.Ytfpibldknjcehaa

namespace Go.Proofs.Ytfpibldknjcehaa.Fm
set_option maxRecDepth 100000

def let_ (c : Int) : Int := if c = 1 then 88 else if c = 2 then 79 else 46
def col (b : Int) : Int := if b = 88 then 1 else if b = 79 then 2 else 0
/-- The byte at place i of the text of a board. -/
def at_ (s : Nat) (cs : List Int) (i : Nat) : Int := if i % (s + 1) = s then 47 else let_ (cs.getD ((s - 1 - i / (s + 1)) * s + i % (s + 1)) 0)
def fmt (s : Nat) (cs : List Int) : List Int := (List.range (s * (s + 1))).map (at_ s cs)

theorem fmt_len (s : Nat) (cs : List Int) : (fmt s cs).length = s * (s + 1) := by simp [fmt]
theorem fmt_take {s : Nat} {cs : List Int} {i : Nat} (h : i < s * (s + 1)) : (fmt s cs).take (i + 1) = (fmt s cs).take i ++ [at_ s cs i] := by
  rw [List.take_succ_eq_append_getElem (by rw [fmt_len]; exact h)]
  simp [fmt]
theorem let_bd (c : Int) : 46 ≤ let_ c ∧ let_ c ≤ 88 ∧ let_ c ≠ 47 := by unfold let_; split <;> (try split) <;> decide
theorem at_bd (s : Nat) (cs : List Int) (i : Nat) : 46 ≤ at_ s cs i ∧ at_ s cs i ≤ 88 := by
  unfold at_; split
  · decide
  · have := let_bd (cs.getD ((s - 1 - i / (s + 1)) * s + i % (s + 1)) 0); omega
theorem at_rc {s k c : Nat} (cs : List Int) (hc : c < s) : at_ s cs (k * (s + 1) + c) = let_ (cs.getD ((s - 1 - k) * s + c) 0) := by
  have e1 : (k * (s + 1) + c) % (s + 1) = c := by rw [Nat.mul_comm, Nat.mul_add_mod]; exact Nat.mod_eq_of_lt (by omega)
  have e2 : (k * (s + 1) + c) / (s + 1) = k := by rw [Nat.mul_comm, Nat.mul_add_div (by omega), Nat.div_eq_of_lt (by omega), Nat.add_zero]
  rw [at_, e1, e2, if_neg (by omega)]
theorem at_end {s k : Nat} (cs : List Int) : at_ s cs (k * (s + 1) + s) = 47 := by
  have e1 : (k * (s + 1) + s) % (s + 1) = s := by rw [Nat.mul_comm, Nat.mul_add_mod]; exact Nat.mod_eq_of_lt (by omega)
  rw [at_, if_pos e1]
theorem col_let {c : Int} (h : 0 ≤ c) (h2 : c ≤ 2) : col (let_ c) = c := by
  have : c = 0 ∨ c = 1 ∨ c = 2 := by omega
  rcases this with rfl | rfl | rfl <;> decide
theorem let_eq {c : Int} (h : 0 ≤ c) (h2 : c ≤ 2) : let_ c = if c = 0 then 46 else if c = 1 then 88 else 79 := by
  have : c = 0 ∨ c = 1 ∨ c = 2 := by omega
  rcases this with rfl | rfl | rfl <;> decide
end Go.Proofs.Ytfpibldknjcehaa.Fm

namespace Go.Proofs.Ytfpibldknjcehaa
set_option maxRecDepth 100000
open Go.RowKit

theorem OwU.head {w : World} {B n c : Nat} {A : Option Addr} {xs : List Int} (h : OwU w B A n c xs) (hn : 0 < n) : ∃ g, A = some ⟨g, 0, none⟩ ∧ B ≤ g ∧ ∀ j, j < n → w.cell? ⟨g, 0 + j, none⟩ = some (.int .u8 (xs.getD j 0)) := by
  obtain ⟨g, cap, hv, hg, hlt⟩ := World.ownsRow.form h.2 hn
  have hA : A = some ⟨g, 0, none⟩ := by injection hv
  subst hA
  refine ⟨g, rfl, hg, fun j hj => ?_⟩
  have hj' : j < xs.length := by have := h.1; omega
  have := World.ownsRow.cells h.2 (g := g) rfl j (.int .u8 (xs.getD j 0)) (by simp [List.getElem?_eq_getElem hj', List.getD_eq_getElem?_getD])
  have e : (⟨g, 0, none⟩ : Addr).add j = ⟨g, 0 + j, none⟩ := by by_cases hj0 : j = 0 <;> simp [Addr.add, hj0]
  rw [e] at this
  exact this

theorem let_of {c : Int} (h0 : 0 ≤ c) (h2 : c ≤ 2) : (c = 0 ∧ Fm.let_ c = 46) ∨ (c = 1 ∧ Fm.let_ c = 88) ∨ (c = 2 ∧ Fm.let_ c = 79) := by
  have : c = 0 ∨ c = 1 ∨ c = 2 := by omega
  rcases this with rfl | rfl | rfl <;> decide

set_option maxRecDepth 100000 in
set_option maxHeartbeats 4000000 in
theorem s_formatBoard (s : Nat) (w : World) (B : Nat) (A : Option Addr) (n c : Nat) (cs : List Int) (h : Ints w B A n cs) (hB : B ≤ w.heap.size) (h1 : 1 ≤ s) (h2 : s ≤ 7) (hn : n = s * s) (hok : OkL cs) :
    Calls Try.prog 66 #[.agg #[.int .i64 (s : Nat), .slice A n c]] w fun e w' => e = .returned (.string (strOfNums (Fm.fmt s cs))) ∧ Below w.heap.size w w' := by
  have hb1 : Below w.heap.size w (w.alloc (.cells #[.int .i64 (s : Nat), .slice A n c] 25)) := (Below.refl _ _).alloc (Nat.le_refl _) _
  have x0 := Bx.new 25 w (s : Nat) (.slice A n c)
  have hi := h.below hb1 hB
  have Hl := Lib.hid h.1
  have Hn := Lib.hid hn
  have Hok := Lib.hid hok
  clear h hn hok
  go_enter Try.func66, Try.ntmps66
  go_upto_region 1 with (fail)
  obtain ⟨y, hy⟩ : ∃ y, y = w.alloc (.cells #[.int .i64 (s : Nat), .slice A n c] 25) := ⟨_, rfl⟩
  have hyz : y.heap.size = w.heap.size + 1 := by rw [hy]; simp
  rw [← hy] at x0 hi hb1 ⊢
  have X0 := Lib.hid x0
  have Hi := Lib.hid hi
  have Hb := Lib.hid hb1
  have Hyz := Lib.hid hyz
  clear hy x0 hi hb1 hyz
  have t0 := X0.out.cell0
  have t1 := X0.out.cell1
  have t2 := X0.out.lt
  go_wp2_with fail
  have Ho := Lib.hid (OwU.bare y (w.heap.size + 1) (by rw [Hyz.out]; exact Nat.le_refl _))
  have Hb2 := Lib.hid ((Below.refl (w.heap.size + 1) y).alloc (by rw [Hyz.out]; exact Nat.le_refl _) (.cells #[] 5))
  go_loopw [3, 4] (fun v3 v4 wr => ∃ k A1 n1 c1, k ≤ s ∧ v3 = .slice A1 n1 c1 ∧ v4 = .int .i64 ((s : Int) - 1 - (k : Nat)) ∧ OwU wr (w.heap.size + 1) A1 n1 c1 ((Fm.fmt s cs).take (k * (s + 1))) ∧ Below (w.heap.size + 1) y wr) (fun _ v _ => (intOf v + 1).toNat)
  case atStart => exact ⟨0, _, _, _, by omega, rfl, by simp, by simpa using Ho.out, Hb2.out⟩
  case round =>
    clear Ho Hb2 t0 t1 t2
    obtain ⟨k, A1, n1, c1, hk, rfl, rfl, ho, hb⟩ := hrel
    have X0r := Lib.hid (X0.out.below hb (by omega))
    have Hir := Lib.hid (Hi.out.below hb (by omega))
    have Ho := Lib.hid ho
    have Hbr := Lib.hid hb
    have hzr := hb.size
    clear ho hb
    have t0 := X0r.out.cell0
    have t1 := X0r.out.cell1
    have t2 := X0r.out.lt
    by_cases hks : k < s
    · obtain ⟨r, hr⟩ : ∃ r : Nat, (s : Int) - 1 - (k : Nat) = (r : Nat) := ⟨s - 1 - k, by omega⟩
      have hrs : r < s := by omega
      have hrk : r = s - 1 - k := by omega
      have hrow : r * s + s ≤ s * s := by
        have := Nat.mul_le_mul_right s (show r + 1 ≤ s by omega)
        rw [Nat.add_mul, Nat.one_mul] at this
        exact this
      have hss : s * s ≤ 49 := Nat.le_trans (Nat.mul_le_mul h2 h2) (by decide)
      have hkk : k * (s + 1) + (s + 1) ≤ s * (s + 1) := by
        have := Nat.mul_le_mul_right (s + 1) (show k + 1 ≤ s by omega)
        rw [Nat.add_mul, Nat.one_mul] at this
        exact this
      have hb56 : s * (s + 1) ≤ 56 := Nat.le_trans (Nat.mul_le_mul h2 (show s + 1 ≤ 8 by omega)) (by decide)
      obtain ⟨m, hm⟩ : ∃ m : Nat, r * s = m := ⟨_, rfl⟩
      have hmi : ((r : Nat) : Int) * ((s : Nat) : Int) = (m : Nat) := by rw [← hm]; simp
      have Hm := Lib.hid hm
      have Hrk := Lib.hid hrk
      have hms : m + s ≤ n := by rw [← hm, Hn.out]; exact hrow
      have hm49 : n ≤ 49 := by rw [Hn.out]; exact hss
      obtain ⟨q, hq⟩ : ∃ q : Nat, k * (s + 1) = q := ⟨_, rfl⟩
      obtain ⟨L, hL⟩ : ∃ L : Nat, s * (s + 1) = L := ⟨_, rfl⟩
      rw [hq, hL] at hkk
      rw [hL] at hb56
      have Hq := Lib.hid hq
      have HL := Lib.hid hL
      rw [hr]
      have Hr := Lib.hid hr
      clear hr hm hrk hrow hss hq hL
      go_wp2_with fail
      go_loopw [3, 5] (fun v3 v5 wq => ∃ i A2 n2 c2, i ≤ s ∧ v5 = .int .i64 (i : Nat) ∧ v3 = .slice A2 n2 c2 ∧ OwU wq (w.heap.size + 1) A2 n2 c2 ((Fm.fmt s cs).take (q + i)) ∧ Below (w.heap.size + 1) y wq) (fun _ v _ => s - (intOf v).toNat)
      case atStart => exact ⟨0, _, _, _, by omega, rfl, rfl, by rw [← Hq.out]; exact Ho.out, Hbr.out⟩
      case round =>
        clear Ho Hbr X0r Hir t0 t1 t2 hzr
        obtain ⟨i, A2, n2, c2, hi, rfl, rfl, ho, hb⟩ := hrel
        have X0q := Lib.hid (X0.out.below hb (by omega))
        have Hiq := Lib.hid (Hi.out.below hb (by omega))
        have Ho := Lib.hid ho
        have Hbq := Lib.hid hb
        have hzq := hb.size
        have hn2 : n2 ≤ 56 := by have := ho.1; rw [List.length_take, Fm.fmt_len, HL.out] at this; omega
        have hzy : w.heap.size + 1 ≤ wr.heap.size := by have := Hyz.out; omega
        clear ho hb
        have t0 := X0q.out.cell0
        have t1 := X0q.out.cell1
        have t2 := X0q.out.lt
        by_cases his : i < s
        · obtain ⟨b, o, rfl, hbB, hc⟩ : ∃ b o, A = some ⟨b, o, none⟩ ∧ b < B ∧ ∀ j, j < n → wr.cell? ⟨b, o + j, none⟩ = some (.int .i64 (cs.getD j 0)) := by
            rcases Hiq.out.2 with h0 | ⟨b, o, hA, hbB, hc⟩
            · omega
            · exact ⟨b, o, hA, hbB, hc⟩
          have hck := hc (m + i) (by omega)
          have hx02 := Hok.out (m + i) (by rw [Hl.out]; omega)
          have hta : Fm.at_ s cs (q + i) = Fm.let_ (cs.getD (m + i) 0) := by rw [← Hq.out, Fm.at_rc cs his, ← Hrk.out, Hm.out]
          obtain ⟨x, hx⟩ : ∃ x, cs.getD (m + i) 0 = x := ⟨_, rfl⟩
          rw [hx] at hck hx02 hta
          have hmi2 : (m : Int) + (i : Nat) < n := by omega
          have htk := Fm.fmt_take (cs := cs) (show q + i < s * (s + 1) by rw [HL.out]; omega)
          rw [hta] at htk
          have Htk := Lib.hid htk
          clear hx hc hta htk
          rcases let_of hx02.1 hx02.2 with ⟨rfl, hl⟩ | ⟨rfl, hl⟩ | ⟨rfl, hl⟩
          all_goals
            rw [hl] at Htk
            clear hl hx02
            go_wp2_with (at_builtin; refine appU1 rfl _ _ rfl _ _ _ _ _ _ _ _ rfl rfl rfl Ho.out hzy (by omega) ?_; intro A' c' w9 hown' hb' hlt' hgrow')
            have Ho9 := Lib.hid hown'
            have Hb9 := Lib.hid (Hbq.out.trans hb')
            clear hown' hb' hlt' hgrow'
            go_roundw
            case rel => exact ⟨i + 1, _, _, _, by omega, by go_num, rfl, by rw [← Nat.add_assoc, Htk.out]; exact Ho9.out, Hb9.out⟩
            case measure => simp [intOf]; omega
        · obtain rfl : i = s := by omega
          have hta : Fm.at_ i cs (q + i) = 47 := by rw [← Hq.out]; exact Fm.at_end cs
          have htk := Fm.fmt_take (cs := cs) (show q + i < i * (i + 1) by rw [HL.out]; omega)
          rw [hta] at htk
          have Htk := Lib.hid htk
          clear hta htk
          go_wp2_with (at_builtin; refine appU1 rfl _ _ rfl _ _ _ _ _ _ _ _ rfl rfl rfl Ho.out hzy (by omega) ?_; intro A' c' w9 hown' hb' hlt' hgrow')
          have Ho9 := Lib.hid hown'
          have Hb9 := Lib.hid (Hbq.out.trans hb')
          have He : Hid ((r : Int) - 1 = (i : Int) - 1 - ((k + 1 : Nat) : Int)) := Lib.hid (by have := Hr.out; omega)
          clear hown' hb' hlt' hgrow'
          go_roundw
          case rel => exact ⟨k + 1, _, _, _, by omega, rfl, by rw [He.out], by rw [Nat.add_mul, Nat.one_mul, Hq.out, ← Nat.add_assoc, Htk.out]; exact Ho9.out, Hb9.out⟩
          case measure => simp [intOf]
    · obtain rfl : k = s := by omega
      have hfull : (Fm.fmt k cs).take (k * (k + 1)) = Fm.fmt k cs := List.take_of_length_le (by rw [Fm.fmt_len]; exact Nat.le_refl _)
      have ho := Ho.out
      rw [hfull] at ho
      have hlen := ho.1
      rw [Fm.fmt_len] at hlen
      have hpos : 0 < n1 := by rw [← hlen]; exact Nat.mul_pos (by omega) (by omega)
      obtain ⟨g, rfl, _, hcell⟩ := ho.head hpos
      have hconv := run_convert_bytes_arg (P := Try.prog) wr 22 5 Try.underlying22 Try.underlying5 g 0 n1 c1 (Fm.fmt k cs) ho.1 hcell 9 Try.underlying9
      have he : (k : Int) - 1 - (k : Nat) = -1 := by omega
      have Hfin := Lib.hid ((Hb.out.trans (Hbr.out.mono (by omega))))
      rw [he]
      clear ho hlen hcell hfull he
      go_wp2_with fail
      go_ret
      exact ⟨rfl, Hfin.out⟩
end Go.Proofs.Ytfpibldknjcehaa

namespace Go.Proofs.Ytfpibldknjcehaa
set_option maxRecDepth 100000
open Go.RowKit

/-- What a text leads to: where the answer is yes, a valid board of the call's own. -/
def ParsedB (S : ByteArray) (w : World) (e : Ending) (w' : World) : Prop :=
  ∃ (s' : Int) (A : Option Addr) (n c : Nat) (cs : List Int) (ok : Bool), e = .returned (.tuple #[.agg #[.int .i64 s', .slice A n c], .bool ok]) ∧
    (ok = true → Own w' w.heap.size A n c cs ∧ Bd.okB s' cs = true ∧ (strOfNums (Fm.fmt s'.toNat cs)).toList = S.toList) ∧ Below w.heap.size w w'

theorem quo_rem {s p : Nat} (h1 : 1 ≤ s) (hp : p < s * s) : p / s < s ∧ p % s < s := ⟨Nat.div_lt_of_lt_mul hp, Nat.mod_lt _ (by omega)⟩
theorem okL_zero' (n : Nat) : OkL (List.replicate n 0) := okL_mem.2 fun c hc => by rw [List.eq_of_mem_replicate hc]; omega

set_option maxRecDepth 100000 in
set_option maxHeartbeats 4000000 in
theorem s_ParseBoard (S : ByteArray) (w : World) (hS : S.size ≤ 1000000) :
    Calls Try.prog 23 #[.string S] w fun e w' => ParsedB S w e w' := by
  have hb1 : Below w.heap.size w (w.alloc (.cells #[.int .i64 0, .slice none 0 0] 25)) := (Below.refl _ _).alloc (Nat.le_refl _) _
  have x0 := Bx.new 25 w 0 (.slice none 0 0)
  go_enter Try.func23, Try.ntmps23
  go_upto_region 1 with (fail)
  obtain ⟨y, hy⟩ : ∃ y, y = w.alloc (.cells #[.int .i64 0, .slice none 0 0] 25) := ⟨_, rfl⟩
  have hyz : y.heap.size = w.heap.size + 1 := by rw [hy]; simp
  rw [← hy] at x0 hb1 ⊢
  have X0 := Lib.hid x0
  have Hb := Lib.hid hb1
  have Hyz := Lib.hid hyz
  clear hy x0 hb1 hyz
  have t0 := X0.out.cell0
  have t1 := X0.out.cell1
  have t2 := X0.out.frozen 0
  have t3 := X0.out.frozen 1
  have t4 := X0.out.lt
  go_wp2_with fail
  go_loop [4] (fun v => ∃ k : Nat, k ≤ 8 ∧ k ≤ S.size ∧ v = .int .i64 (k : Nat)) (fun v => 8 - (intOf v).toNat)
  case atStart => exact ⟨0, by omega, by omega, rfl⟩
  case round =>
    obtain ⟨k, hk, hkS, rfl⟩ := hrel
    have hround : ∀ P : Prop, (k < S.size ∧ k ≤ 7 ∧ ∃ h : k < S.size, (S[k].toNat : Int) ≠ 47) ∨ ¬ (k < S.size ∧ k ≤ 7 ∧ ∃ h : k < S.size, (S[k].toNat : Int) ≠ 47) := fun _ => Classical.em _
    rcases hround True with ⟨hlt, h7, _, hch⟩ | hno
    · have hb : ((S[k].toNat : Int) != 47) = true := by simpa using hch
      clear hround hch
      go_wp2_with fail
      go_round
      case rel => exact ⟨k + 1, by omega, by omega, by go_num⟩
      case measure => simp [intOf]; omega
    · have hno3 : (¬ k < S.size) ∨ (k < S.size ∧ 7 < k) ∨ (k < S.size ∧ k ≤ 7 ∧ ∃ h : k < S.size, (S[k].toNat : Int) = 47) := by
        by_cases h1 : k < S.size
        · by_cases h2 : k ≤ 7
          · refine .inr (.inr ⟨h1, h2, h1, ?_⟩)
            exact Classical.byContradiction fun h3 => hno ⟨h1, h2, h1, h3⟩
          · exact .inr (.inl ⟨h1, by omega⟩)
        · exact .inl h1
      clear hno hround
      obtain ⟨n, hkk⟩ : ∃ n : Nat, ((k : Nat) : Int) * ((k : Nat) : Int) = (n : Nat) := ⟨k * k, by simp⟩
      obtain ⟨L, hkL⟩ : ∃ L : Nat, ((k : Nat) : Int) * (((k : Nat) : Int) + 1) = (L : Nat) := ⟨k * (k + 1), by simp⟩
      have hnk : n = k * k := by have : ((n : Nat) : Int) = ((k * k : Nat) : Int) := by rw [← hkk]; simp
                                 omega
      have hLk : L = k * (k + 1) := by have : ((L : Nat) : Int) = ((k * (k + 1) : Nat) : Int) := by rw [← hkL]; simp
                                       omega
      have hn64 : n ≤ 64 := by rw [hnk]; exact Nat.le_trans (Nat.mul_le_mul hk hk) (by decide)
      have hL72 : L ≤ 72 := by rw [hLk]; exact Nat.le_trans (Nat.mul_le_mul hk (show k + 1 ≤ 9 by omega)) (by decide)
      have Hnk := Lib.hid hnk
      have HLk := Lib.hid hLk
      clear hnk hLk
      by_cases hv : 1 ≤ k ∧ k ≤ 7
      · have hno2 : (¬ k < S.size) ∨ (k < S.size ∧ ∃ h : k < S.size, (S[k].toNat : Int) = 47) := by
          rcases hno3 with h | ⟨_, h⟩ | ⟨h, _, h'⟩
          · exact .inl h
          · omega
          · exact .inr ⟨h, h'⟩
        clear hno3
        rcases hno2 with hlt | ⟨hlt, _, hch⟩
        all_goals try (have hb : ((S[k].toNat : Int) != 47) = false := by simpa using hch)
        all_goals try clear hch
        all_goals
          have hok : Pt.okS (k : Nat) = true := (Pt.okS_iff _).2 (by omega)
          by_cases hSL : S.size = L
          · have hd : decide ((S.size : Int) = (L : Int)) = true := by rw [hSL]; simp
            have hSn : ((S.size : Int) != (L : Int)) = false := by rw [hSL]; simp
            have hSL1 : S.size ≤ L ∧ L ≤ S.size := by omega
            clear hSL
            go_wp2_with fail
            refine (s_size _ _).mono ?_
            rintro e w' ⟨rfl, rfl⟩
            rw [hok]
            clear hok
            go_wp2_with (at_make; refine make0 rfl _ rfl _ (w.heap.size + 1) _ n rfl rfl (by omega) (by rw [Hyz.out]; exact Nat.le_refl _) ?_; intro w1 hown hbm hltm)
            have Ho := Lib.hid hown
            have zm := hbm.size
            have hyw : w.heap.size + 1 ≤ y.heap.size ∧ y.heap.size ≤ w.heap.size + 1 := by have := Hyz.out; omega
            have X0 := Lib.hid (X0.out.below hbm X0.out.lt)
            have Hb := Lib.hid (Hb.out.trans (hbm.mono (by omega)))
            have Hokz := Lib.hid (okL_zero' n)
            clear hown hbm t0 t1 t2 t3 t4 hSn hd
            obtain ⟨y3, hy3, hb3, z3, z4⟩ := new_box w1 (.cells #[.int .i64 (k : Nat), .slice (some ⟨y.heap.size, 0, none⟩) n n] 25)
            have X5 : Hid (Bx 25 y3 w1.heap.size (k : Nat) (.slice (some ⟨y.heap.size, 0, none⟩) n n)) := Lib.hid (by rw [hy3]; exact Bx.new _ _ _ _)
            rw [← hy3]
            clear hy3
            have X0 := Lib.hid (X0.out.below hb3 X0.out.lt)
            have Ho := Lib.hid (Ho.out.below hb3)
            have Hb := Lib.hid (Hb.out.trans (hb3.mono (by omega)))
            clear hb3
            go_loopw [6] (fun v wr => ∃ (p : Nat) (cs : List Int), p ≤ n ∧ v = .int .i64 (p : Nat) ∧ Own wr (w.heap.size + 1) (some ⟨y.heap.size, 0, none⟩) n n cs ∧ OkL cs ∧ Bx 25 wr w1.heap.size (k : Nat) (.slice (some ⟨y.heap.size, 0, none⟩) n n) ∧ Below (w.heap.size + 1) y3 wr) (fun v _ => n - (intOf v).toNat)
            case atStart => exact ⟨0, _, by omega, rfl, Ho.out, Hokz.out, X5.out, Below.refl _ _⟩
            case round =>
              clear Ho Hokz X5
              obtain ⟨p, cs, hp, rfl, ho, hok, hx5, hbr⟩ := hrel
              have X0 := Lib.hid (X0.out.below hbr (by omega))
              have X5 := Lib.hid hx5
              have Ho := Lib.hid ho
              have Hok := Lib.hid hok
              have Hbr := Lib.hid hbr
              have zr := hbr.size
              clear ho hok hx5 hbr
              have t0 := X5.out.cell0
              have t1 := X5.out.cell1
              have t2 := X5.out.lt
              by_cases hpn : p < n
              · obtain ⟨q, hq⟩ : ∃ q, p / k = q := ⟨_, rfl⟩
                obtain ⟨r, hr⟩ : ∃ r, p % k = r := ⟨_, rfl⟩
                obtain ⟨hq1, hr1⟩ := quo_rem (s := k) (p := p) (by omega) (by rw [← Hnk.out]; exact hpn)
                rw [hq] at hq1
                rw [hr] at hr1
                obtain ⟨j, hj⟩ : ∃ j, (k - 1 - q) * (k + 1) + r = j := ⟨_, rfl⟩
                have hjL : j < L := by
                  have h3 := Nat.mul_le_mul_right (k + 1) (show k - 1 - q + 1 ≤ k by omega)
                  rw [Nat.add_mul, Nat.one_mul] at h3
                  rw [HLk.out, ← hj]
                  omega
                have hjS : j < S.size := by omega
                have e1 : ((p : Nat) : Int).tdiv ((k : Nat) : Int) = (q : Nat) := by rw [Int.tdiv_eq_ediv_of_nonneg (by omega), ← hq]; rfl
                have e1' : ((p : Nat) : Int) / ((k : Nat) : Int) = (q : Nat) := by rw [← hq]; rfl
                have e2 : ((p : Nat) : Int).tmod ((k : Nat) : Int) = (r : Nat) := by rw [Int.tmod_eq_emod_of_nonneg (by omega), ← hr]; rfl
                have e2' : ((p : Nat) : Int) % ((k : Nat) : Int) = (r : Nat) := by rw [← hr]; rfl
                have e3 : IntKind.i64.wrap ((k : Nat) - 1 : Int) = (k : Nat) - 1 := IntWalk.i64_in _ (by omega)
                have e6 : IntKind.i64.wrap (((k : Nat) : Int) + 1) = (k : Nat) + 1 := IntWalk.i64_in _ (by omega)
                have hjc : (j : Int) < S.size := by omega
                obtain ⟨a, ha⟩ : ∃ a, k - 1 - q = a := ⟨_, rfl⟩
                obtain ⟨M, hM⟩ : ∃ M, a * (k + 1) = M := ⟨_, rfl⟩
                have hMj : M + r = j := by rw [← hj, ← hM, ← ha]
                have hMi : ((a : Nat) : Int) * (((k : Nat) : Int) + 1) = (M : Nat) := by rw [← hM]; simp
                have e4 : IntKind.i64.wrap ((k : Nat) - 1 - (q : Nat) : Int) = (a : Nat) := by
                  rw [show ((k : Nat) - 1 - (q : Nat) : Int) = (a : Nat) by omega]
                  exact IntWalk.i64_in _ (by omega)
                have e7 : IntKind.i64.wrap (((a : Nat) : Int) * (((k : Nat) : Int) + 1)) = (M : Nat) := by
                  rw [hMi]
                  exact IntWalk.i64_in _ (by omega)
                have e8 : IntKind.i64.wrap (((M : Nat) : Int) + (r : Nat)) = (j : Nat) := by
                  rw [show ((M : Nat) : Int) + (r : Nat) = (j : Nat) by omega]
                  exact IntWalk.i64_in _ (by omega)
                obtain ⟨v, hv0⟩ : ∃ v, wr.cell? ⟨y.heap.size, p, none⟩ = some v := by
                  have := World.ownsRow.cellAt Ho.out.2 p (by omega)
                  rw [this]
                  exact ⟨_, List.getElem?_eq_getElem (by rw [List.length_map, Ho.out.1]; exact hpn)⟩
                have hf := World.ownsRow.frozenAt Ho.out.2 p
                clear hq hr hj ha hM hMj hMi
                have Hbd : Hid (Below w.heap.size w wr) := Lib.hid (Hb.out.trans (Hbr.out.mono (by omega)))
                by_cases h88 : (S[j].toNat : Int) = 88
                · have hb88 : ((S[j].toNat : Int) == 88) = true := by simpa using h88
                  clear h88
                  go_wp2_with fail
                  go_quiet (fail)
                  clear e1 e1' e2 e2' e3 e4 e6 e7 e8
                  go_wp2_with fail
                  go_roundw
                  case rel => exact ⟨p + 1, _, by omega, by go_num, (Own.stored (Ho.out.drewN nq) p 1).1, Hok.out.set p (by omega) (by omega), (X5.out.drewN nq).far (p := ⟨y.heap.size, p, none⟩) (by show w1.heap.size ≠ y.heap.size; omega) _, (drew_below Hbr.out nq).setCell (by show w.heap.size + 1 ≤ y.heap.size; omega) _⟩
                  case measure => simp [intOf]; omega
                · have hb88 : ((S[j].toNat : Int) == 88) = false := by simpa using h88
                  clear h88
                  by_cases h79 : (S[j].toNat : Int) = 79
                  · have hb79 : ((S[j].toNat : Int) == 79) = true := by simpa using h79
                    clear h79
                    go_wp2_with fail
                    go_quiet (fail)
                    clear e1 e1' e2 e2' e3 e4 e6 e7 e8
                    go_wp2_with fail
                    go_roundw
                    case rel => exact ⟨p + 1, _, by omega, by go_num, (Own.stored (Ho.out.drewN nq) p 2).1, Hok.out.set p (by omega) (by omega), (X5.out.drewN nq).far (p := ⟨y.heap.size, p, none⟩) (by show w1.heap.size ≠ y.heap.size; omega) _, (drew_below Hbr.out nq).setCell (by show w.heap.size + 1 ≤ y.heap.size; omega) _⟩
                    case measure => simp [intOf]; omega
                  · have hb79 : ((S[j].toNat : Int) == 79) = false := by simpa using h79
                    clear h79
                    go_wp2_with fail
                    go_quiet (fail)
                    clear e1 e1' e2 e2' e3 e4 e6 e7 e8
                    go_wp2_with fail
                    go_roundw
                    case rel => exact ⟨p + 1, cs, by omega, by go_num, Ho.out.drewN nq, Hok.out, X5.out.drewN nq, drew_below Hbr.out nq⟩
                    case measure => simp [intOf]; omega
              · obtain rfl : p = n := by omega
                have Hv := Lib.hid ((Bd.okB_iff (k : Nat) cs).2 ⟨by omega, by omega, by rw [Ho.out.1, Hnk.out]; simp, okL_mem.1 Hok.out⟩)
                go_wp2_with fail
                refine (s_formatBoard k _ _ _ p p cs Ho.out.ints (Nat.le_refl _) hv.1 hv.2 Hnk.out Hok.out).mono ?_
                rintro e yf ⟨rfl, hbf⟩
                have X0 := Lib.hid (X0.out.below hbf X0.out.lt)
                have X5 := Lib.hid (X5.out.below hbf X5.out.lt)
                have Ho := Lib.hid (Ho.out.below hbf)
                have Hb := Lib.hid (Hb.out.trans ((Hbr.out.trans (hbf.mono (by omega))).mono (by omega)))
                clear hbf t0 t1 t2
                have t0 := X5.out.cell0
                have t1 := X5.out.cell1
                have t2 := X5.out.lt
                have r0 := X0.out.cell0
                have r1 := X0.out.cell1
                have r2 := X0.out.frozen 0
                have r3 := X0.out.frozen 1
                have r4 := X0.out.lt
                by_cases heq : ((strOfNums (Fm.fmt k cs)).toList == S.toList) = true
                · have hbe : (!(strOfNums (Fm.fmt k cs)).toList == S.toList) = false := by rw [heq]; rfl
                  have Heq := Lib.hid (eq_of_beq heq)
                  have K0 := Lib.hid ((X0.out.set0 (k : Nat)).cell0)
                  have K1 := Lib.hid (((X0.out.set0 (k : Nat)).set1 (.slice (some ⟨y.heap.size, 0, none⟩) p p)).cell1)
                  have Hb3 := Lib.hid ((Hb.out.setCell (p := ⟨w.heap.size, 0, none⟩) (Nat.le_refl _) (.int .i64 (k : Nat))).setCell (p := ⟨w.heap.size, 1, none⟩) (Nat.le_refl _) (.slice (some ⟨y.heap.size, 0, none⟩) p p))
                  have Ho3 := Lib.hid ((Ho.out.far ⟨w.heap.size, 0, none⟩ (fun g hA => by have := (Ho.out.ge hA).1; show g ≠ w.heap.size; omega) (.int .i64 (k : Nat))).far ⟨w.heap.size, 1, none⟩ (fun g hA => by have := (Ho.out.ge hA).1; show g ≠ w.heap.size; omega) (.slice (some ⟨y.heap.size, 0, none⟩) p p))
                  clear heq
                  go_wp2_with fail
                  have k0 := K0.out
                  have k1 := K1.out
                  refine bodyPost_ret (v := .tuple #[.agg #[.int .i64 (k : Nat), .slice (some ⟨y.heap.size, 0, none⟩) p p], .bool true]) (by simp [results, Try.results23, go_sem, k0, k1]) rfl ?_
                  exact ⟨_, _, _, _, cs, _, rfl, fun _ => ⟨Ho3.out.weaken (by omega), Hv.out, Heq.out⟩, Hb3.out⟩
                · have hbe : (!(strOfNums (Fm.fmt k cs)).toList == S.toList) = true := by rw [Bool.eq_false_iff.2 heq]; rfl
                  clear heq
                  have K0 := Lib.hid ((X0.out.set0 0).cell0)
                  have K1 := Lib.hid (((X0.out.set0 0).set1 (.slice none 0 0)).cell1)
                  have Hb3 := Lib.hid ((Hb.out.setCell (p := ⟨w.heap.size, 0, none⟩) (Nat.le_refl _) (.int .i64 0)).setCell (p := ⟨w.heap.size, 1, none⟩) (Nat.le_refl _) (.slice none 0 0))
                  go_wp2_with fail
                  have k0 := K0.out
                  have k1 := K1.out
                  refine bodyPost_ret (v := .tuple #[.agg #[.int .i64 0, .slice none 0 0], .bool false]) (by simp [results, Try.results23, go_sem, k0, k1]) rfl ?_
                  exact ⟨_, _, _, _, [], _, rfl, fun h => (by cases h), Hb3.out⟩
          · have hSn : ((S.size : Int) != (L : Int)) = true := by simp; omega
            go_wp2_with fail
            refine (s_size _ _).mono ?_
            rintro e w' ⟨rfl, rfl⟩
            rw [hok]
            clear hok
            have K0 := Lib.hid ((X0.out.set0 0).cell0)
            have K1 := Lib.hid (((X0.out.set0 0).set1 (.slice none 0 0)).cell1)
            have Hb3 := Lib.hid ((Hb.out.setCell (p := ⟨w.heap.size, 0, none⟩) (Nat.le_refl _) (.int .i64 0)).setCell (p := ⟨w.heap.size, 1, none⟩) (Nat.le_refl _) (.slice none 0 0))
            go_wp2_with fail
            have k0 := K0.out
            have k1 := K1.out
            refine bodyPost_ret (v := .tuple #[.agg #[.int .i64 0, .slice none 0 0], .bool false]) (by simp [results, Try.results23, go_sem, k0, k1]) rfl ?_
            exact ⟨_, _, _, _, [], _, rfl, fun h => (by cases h), Hb3.out⟩
      · rcases hno3 with hlt | ⟨hlt, h7⟩ | ⟨hlt, h7, _, hch⟩
        all_goals try (have hb : ((S[k].toNat : Int) != 47) = false := by simpa using hch)
        all_goals try clear hch
        all_goals
          have hok : Pt.okS (k : Nat) = false := by
            rcases Bool.eq_false_or_eq_true (Pt.okS (k : Nat)) with h | h
            · have := (Pt.okS_iff _).1 h; omega
            · exact h
          go_wp2_with fail
          refine (s_size _ _).mono ?_
          rintro e w' ⟨rfl, rfl⟩
          rw [hok]
          clear hok
          have K0 := Lib.hid ((X0.out.set0 0).cell0)
          have K1 := Lib.hid (((X0.out.set0 0).set1 (.slice none 0 0)).cell1)
          have Hb3 := Lib.hid ((Hb.out.setCell (p := ⟨w.heap.size, 0, none⟩) (Nat.le_refl _) (.int .i64 0)).setCell (p := ⟨w.heap.size, 1, none⟩) (Nat.le_refl _) (.slice none 0 0))
          go_wp2_with fail
          have k0 := K0.out
          have k1 := K1.out
          refine bodyPost_ret (v := .tuple #[.agg #[.int .i64 0, .slice none 0 0], .bool false]) (by simp [results, Try.results23, go_sem, k0, k1]) rfl ?_
          exact ⟨_, _, _, _, [], _, rfl, fun h => (by cases h), Hb3.out⟩
end Go.Proofs.Ytfpibldknjcehaa

namespace Go.Proofs.Ytfpibldknjcehaa.Pt
set_option maxRecDepth 100000

def rep (s p : Int) : Nat → Int
  | 0 => p
  | n + 1 => tr s 1 (rep s p n)

theorem tr_in (s k p : Int) (h1 : 1 ≤ s) (h2 : s ≤ 7) (h3 : 0 ≤ p) (h4 : p < s * s) (k1 : 0 ≤ k) (k2 : k < 8) : tr s k p = img s k p := by
  rw [tr, (okP_iff s p).2 ⟨h1, h2, h3, h4⟩, (okK_iff k).2 ⟨k1, k2⟩]; rfl

theorem undone_parts (s k p : Int) (h1 : 1 ≤ s) (h2 : s ≤ 7) (h3 : 0 ≤ p) (h4 : p < s * s) (k1 : 0 ≤ k) (k2 : k < 8) :
    (rep s p 4 == p) = true ∧ (4 ≤ k → (tr s k (tr s k p) == p) = true) ∧ (k < 4 → (tr s (-k % 4) (tr s k p) == p) = true) ∧ (((p + 1) % (s * s) == p) = false → (tr s k ((p + 1) % (s * s)) != tr s k p) = true) := by
  have h := undone_all s k p h1 h2 h3 h4 k1 k2
  rw [tr_in s k p h1 h2 h3 h4 k1 k2]
  simp only [undone, Bool.and_eq_true, Bool.or_eq_true] at h
  refine ⟨h.1.1, fun h4 => ?_, fun h4 => ?_, fun hf => ?_⟩
  · have := h.1.2; rw [if_pos h4] at this; exact this
  · have := h.1.2; rw [if_neg (by omega), show (4 - k) % 4 = -k % 4 by omega] at this; exact this
  · rcases h.2 with h | h
    · rw [h] at hf; cases hf
    · exact h
end Go.Proofs.Ytfpibldknjcehaa.Pt

namespace Go.Proofs.Ytfpibldknjcehaa.Bd
set_option maxRecDepth 100000
open Pt

def steps (f : Nat → Nat) (cs : List Int) : Nat → List Int → List Int
  | 0, l => l
  | j + 1, l => (steps f cs j l).set (f j) (cs.getD j 0)

theorem steps_len (f : Nat → Nat) (cs : List Int) (j : Nat) (l : List Int) : (steps f cs j l).length = l.length := by
  induction j with
  | zero => rfl
  | succ j ih => rw [steps, List.length_set, ih]

theorem steps_at {f : Nat → Nat} {cs l : List Int} {j : Nat} (hinj : ∀ a b, a < j → b < j → f a = f b → a = b) (hr : ∀ a, a < j → f a < l.length) {p : Nat} (hp : p < j) : (steps f cs j l)[f p]? = some (cs.getD p 0) := by
  induction j with
  | zero => omega
  | succ j ih =>
    rw [steps, List.getElem?_set]
    by_cases h : f j = f p
    · have hjp : j = p := hinj j p (by omega) hp h
      subst hjp
      rw [if_pos rfl, if_pos (by rw [steps_len]; exact hr j (by omega))]
    · rw [if_neg h]
      exact ih (fun a b ha hb => hinj a b (by omega) (by omega)) (fun a ha => hr a (by omega)) (by
        rcases Nat.lt_or_ge p j with h1 | h1
        · exact h1
        · exact absurd (by rw [show p = j by omega]) h)

theorem steps_one {f : Nat → Nat} {cs l l' : List Int} {n : Nat} (hl : l.length = n) (hl' : l'.length = n) (hinj : ∀ a b, a < n → b < n → f a = f b → a = b) (hr : ∀ a, a < n → f a < n) (hsur : ∀ q, q < n → ∃ p, p < n ∧ f p = q) :
    steps f cs n l = steps f cs n l' := by
  apply List.ext_getElem?
  intro q
  rcases Nat.lt_or_ge q n with hq | hq
  · obtain ⟨p, hp, rfl⟩ := hsur q hq
    rw [steps_at hinj (by rw [hl]; exact hr) hp, steps_at hinj (by rw [hl']; exact hr) hp]
  · rw [List.getElem?_eq_none (by rw [steps_len]; omega), List.getElem?_eq_none (by rw [steps_len]; omega)]

/-- The image of a point, as a natural number. -/
def imgN (s k : Int) (p : Nat) : Nat := (img s k p).toNat

theorem imgN_lt (s k : Int) (n p : Nat) (h1 : 1 ≤ s) (h2 : s ≤ 7) (hn : (n : Int) = s * s) (hp : p < n) : imgN s k p < n ∧ ((imgN s k p : Nat) : Int) = img s k p := by
  have := img_bd s k p h1 h2 (by omega) (by omega)
  unfold imgN
  omega

theorem back (s k p : Int) (h1 : 1 ≤ s) (h2 : s ≤ 7) (h3 : 0 ≤ p) (h4 : p < s * s) (k1 : 0 ≤ k) (k2 : k < 8) :
    img s (if 4 ≤ k then k else -k % 4) (img s k p) = p := by
  have hi := img_bd s k p h1 h2 h3 h4
  obtain ⟨_, u2, u3, _⟩ := undone_parts s k p h1 h2 h3 h4 k1 k2
  by_cases h : 4 ≤ k
  · have := u2 h
    rw [tr_in s k p h1 h2 h3 h4 k1 k2, tr_in s k _ h1 h2 hi.1 hi.2 k1 k2] at this
    rw [if_pos h]; simpa using this
  · have := u3 (by omega)
    rw [tr_in s k p h1 h2 h3 h4 k1 k2, tr_in s _ _ h1 h2 hi.1 hi.2 (by omega) (by omega)] at this
    rw [if_neg h]; simpa using this

theorem imgN_inj (s k : Int) (n : Nat) (h1 : 1 ≤ s) (h2 : s ≤ 7) (hn : (n : Int) = s * s) (k1 : 0 ≤ k) (k2 : k < 8) (a b : Nat) (ha : a < n) (hb : b < n) (h : imgN s k a = imgN s k b) : a = b := by
  have e1 := (imgN_lt s k n a h1 h2 hn ha).2
  have e2 := (imgN_lt s k n b h1 h2 hn hb).2
  have b1 := back s k a h1 h2 (by omega) (by omega) k1 k2
  have b2 := back s k b h1 h2 (by omega) (by omega) k1 k2
  rw [← e1, h, e2, b2] at b1
  omega

theorem imgN_sur (s k : Int) (n : Nat) (h1 : 1 ≤ s) (h2 : s ≤ 7) (hn : (n : Int) = s * s) (k1 : 0 ≤ k) (k2 : k < 8) (q : Nat) (hq : q < n) : ∃ p, p < n ∧ imgN s k p = q := by
  obtain ⟨k', hk', c1, c2, hkk⟩ : ∃ k' : Int, (if 4 ≤ k' then k' else -k' % 4) = k ∧ 0 ≤ k' ∧ k' < 8 ∧ True := by
    by_cases h : 4 ≤ k
    · exact ⟨k, if_pos h, k1, k2, trivial⟩
    · exact ⟨-k % 4, by rw [if_neg (by omega)]; omega, by omega, by omega, trivial⟩
  have hb := back s k' q h1 h2 (by omega) (by omega) c1 c2
  rw [hk'] at hb
  obtain ⟨e1, e2⟩ := imgN_lt s k' n q h1 h2 hn hq
  refine ⟨imgN s k' q, e1, ?_⟩
  unfold imgN at e2 ⊢
  rw [e2, hb]
  rfl

/-- The cells behind a symmetry. -/
def mv (s k : Int) (cs : List Int) : List Int := steps (imgN s k) cs cs.length cs
theorem mv_len (s k : Int) (cs : List Int) : (mv s k cs).length = cs.length := steps_len _ _ _ _
theorem mv_any (s k : Int) (cs l : List Int) (h1 : 1 ≤ s) (h2 : s ≤ 7) (hn : (cs.length : Int) = s * s) (k1 : 0 ≤ k) (k2 : k < 8) (hl : l.length = cs.length) : steps (imgN s k) cs cs.length l = mv s k cs :=
  steps_one hl rfl (fun a b ha hb => imgN_inj s k _ h1 h2 hn k1 k2 a b ha hb) (fun a ha => (imgN_lt s k _ a h1 h2 hn ha).1) (fun q hq => imgN_sur s k _ h1 h2 hn k1 k2 q hq)
end Go.Proofs.Ytfpibldknjcehaa.Bd

namespace Go.Proofs.Ytfpibldknjcehaa
set_option maxRecDepth 100000
open Go.RowKit

def imgs (s k : Int) (n : Nat) : List Int := (List.range n).map fun (p : Nat) => Pt.img s k p
theorem imgs_len (s k : Int) (n : Nat) : (imgs s k n).length = n := by simp [imgs]
theorem imgs_at (s k : Int) (n j : Nat) (h : j < n) : (imgs s k n).getD j 0 = Pt.img s k j := by
  simp [imgs, List.getD_eq_getElem?_getD, h]

theorem i_imagesOf (s k : Int) (n : Nat) (w : World) (h1 : 1 ≤ s) (h2 : s ≤ 7) (hn : (n : Int) = s * s) (k1 : 0 ≤ k) (k2 : k < 8) :
    Calls Try.prog 64 #[.int .i64 s, .int .i64 k] w fun e w' => ∃ A' c', e = .returned (.slice A' n c') ∧ Own w' w.heap.size A' n c' (imgs s k n) ∧ Below w.heap.size w w' := by
  have hsq := Pt.sq_bd s h1 h2
  have hn1 : s * s ≤ n := by omega
  have hn2 : (n : Int) ≤ s * s := by omega
  have hn49 : n ≤ 49 := by omega
  have Hn := Lib.hid hn
  clear hn
  go_enter Try.func64, Try.ntmps64
  go_wp2_with (at_make; refine make0 rfl _ rfl _ w.heap.size _ n rfl (by omega) (by omega) (Nat.le_refl _) ?_; intro w1 hown hb hlt)
  have Ho := Lib.hid hown
  have Hb := Lib.hid hb
  clear hown hb
  go_loopw [13] (fun i wr => ∃ j : Nat, j ≤ n ∧ i = .int .i64 j ∧ Own wr w.heap.size (some ⟨w.heap.size, 0, none⟩) n n ((imgs s k n).take j ++ List.replicate (n - j) 0) ∧ Below w.heap.size w wr) (fun i _ => n - (intOf i).toNat)
  case atStart => exact ⟨0, by omega, rfl, by simpa using Ho.out, Hb.out⟩
  case round =>
    clear Ho Hb
    obtain ⟨j, hj, rfl, ho, hb⟩ := hrel
    by_cases hjn : j < n
    · have htr := Pt.tr_in s k j h1 h2 (by omega) (by omega) k1 k2
      have Ht := Lib.hid htr
      have Ho := Lib.hid ho
      have Hb := Lib.hid hb
      have hzr := hb.size
      clear htr ho hb
      go_wp2_with fail
      refine (i_tr _ _ _ _).mono ?_
      rintro e y ⟨rfl, hb⟩
      have ho := Ho.out.below hb
      have Hb2 := Lib.hid (Hb.out.trans (hb.mono hzr))
      have hcell : ∃ u, y.cell? ⟨w.heap.size, j, none⟩ = some u := by
        have := World.ownsRow.cellAt ho.2 j (by omega)
        rw [this]
        exact ⟨_, List.getElem?_eq_getElem (by rw [List.length_map, ho.1]; exact hjn)⟩
      obtain ⟨u, hu⟩ := hcell
      have hf := World.ownsRow.frozenAt ho.2 j
      have hst := (ho.stored j ((imgs s k n).getD j 0)).1
      rw [fill_succ (imgs_len s k n) hjn, imgs_at s k n j hjn, ← Ht.out] at hst
      have Hs := Lib.hid hst
      clear hst ho hb
      go_wp2_with fail
      go_roundw
      case rel => exact ⟨j + 1, by omega, by go_num, Hs.out, Hb2.out.setCell (Nat.le_refl _) _⟩
      case measure => simp [intOf]; omega
    · obtain rfl : j = n := by omega
      have ho2 : Own wr w.heap.size (some ⟨w.heap.size, 0, none⟩) j j (imgs s k j) := by
        have := ho
        rw [Nat.sub_self, List.take_of_length_le (by rw [imgs_len]; exact Nat.le_refl _)] at this
        simpa using this
      have Ho := Lib.hid ho2
      have Hb := Lib.hid hb
      clear ho ho2 hb
      go_wp2_with fail
      go_ret
      exact ⟨_, _, rfl, Ho.out, Hb.out⟩

theorem i_movedTo (s k : Int) (w : World) (B B' : Nat) (A A' : Option Addr) (n c c' : Nat) (cs : List Int) (h : Ints w B A n cs) (h' : Ints w B' A' n (imgs s k n)) (hB : B ≤ w.heap.size) (hB' : B' ≤ w.heap.size)
    (h1 : 1 ≤ s) (h2 : s ≤ 7) (hn : (n : Int) = s * s) (k1 : 0 ≤ k) (k2 : k < 8) :
    Calls Try.prog 63 #[.slice A n c, .slice A' n c'] w fun e w' => ∃ A1 c1, e = .returned (.slice A1 n c1) ∧ Own w' w.heap.size A1 n c1 (Bd.mv s k cs) ∧ Below w.heap.size w w' := by
  have hsq := Pt.sq_bd s h1 h2
  have hn49 : n ≤ 49 := by omega
  have hn1 : 0 < n := by omega
  have hl := h.1
  have Hfin := Lib.hid (Bd.mv_any s k cs (List.replicate n 0) h1 h2 (by rw [hl]; exact hn) k1 k2 (by rw [List.length_replicate, hl]))
  have Hl := Lib.hid hl
  have H := Lib.hid h
  have H' := Lib.hid h'
  have Hn := Lib.hid hn
  clear h h' hl hn
  go_enter Try.func63, Try.ntmps63
  go_wp2_with (at_make; refine make0t 62 Try.underlying62 rfl _ rfl _ w.heap.size _ n rfl rfl (by omega) (Nat.le_refl _) ?_; intro w1 hown hb hlt)
  have Ho := Lib.hid hown
  have Hb := Lib.hid hb
  clear hown hb
  go_loopw [13] (fun i wr => ∃ j : Nat, j ≤ n ∧ i = .int .i64 j ∧ Own wr w.heap.size (some ⟨w.heap.size, 0, none⟩) n n (Bd.steps (Bd.imgN s k) cs j (List.replicate n 0)) ∧ Below w.heap.size w wr) (fun i _ => n - (intOf i).toNat)
  case atStart => exact ⟨0, by omega, rfl, Ho.out, Hb.out⟩
  case round =>
    clear Ho Hb
    obtain ⟨j, hj, rfl, ho, hb⟩ := hrel
    by_cases hjn : j < n
    · rcases H.out.2 with h0 | ⟨b, o, rfl, hbB, hc⟩
      · omega
      rcases H'.out.2 with h0 | ⟨b', o', rfl, hbB', hc'⟩
      · omega
      have hck := (hb.cell (p := ⟨b, o + j, none⟩) (by show b < _; omega)).trans (hc j hjn)
      have hck' := (hb.cell (p := ⟨b', o' + j, none⟩) (by show b' < _; omega)).trans (hc' j hjn)
      obtain ⟨m1, m2⟩ := Bd.imgN_lt s k n j h1 h2 Hn.out hjn
      rw [imgs_at s k n j hjn, ← m2] at hck'
      have hcell : ∃ u, wr.cell? ⟨w.heap.size, Bd.imgN s k j, none⟩ = some u := by
        have := World.ownsRow.cellAt ho.2 (Bd.imgN s k j) (by omega)
        rw [this]
        exact ⟨_, List.getElem?_eq_getElem (by rw [List.length_map, ho.1]; exact m1)⟩
      obtain ⟨u, hu⟩ := hcell
      have hf := World.ownsRow.frozenAt ho.2 (Bd.imgN s k j)
      have hst : Own (wr.setCell ⟨w.heap.size, Bd.imgN s k j, none⟩ (.int .i64 (cs.getD j 0))) w.heap.size (some ⟨w.heap.size, 0, none⟩) n n (Bd.steps (Bd.imgN s k) cs (j + 1) (List.replicate n 0)) := (ho.stored (Bd.imgN s k j) (cs.getD j 0)).1
      obtain ⟨x, hx⟩ : ∃ x, cs.getD j 0 = x := ⟨_, rfl⟩
      obtain ⟨q, hq⟩ : ∃ q, Bd.imgN s k j = q := ⟨_, rfl⟩
      rw [hx] at hst hck
      rw [hq] at hst hck' hu hf m1
      have hqn : (q : Int) < n := by omega
      have Hs := Lib.hid hst
      have Hb := Lib.hid hb
      have hne : b ≠ w.heap.size := by omega
      have hne' : b' ≠ w.heap.size := by omega
      clear hx hq m2 hst ho hb hc hc'
      go_wp2_with fail
      go_roundw
      case rel => exact ⟨j + 1, by omega, by go_num, Hs.out, Hb.out.setCell (Nat.le_refl _) _⟩
      case measure => simp [intOf]; omega
    · obtain rfl : j = n := by omega
      have ho2 : Own wr w.heap.size (some ⟨w.heap.size, 0, none⟩) j j (Bd.mv s k cs) := by
        rw [← Hfin.out, Hl.out]; exact ho
      have Ho := Lib.hid ho2
      have Hb := Lib.hid hb
      clear ho ho2 hb
      go_wp2_with fail
      go_ret
      exact ⟨_, _, rfl, Ho.out, Hb.out⟩
end Go.Proofs.Ytfpibldknjcehaa

namespace Go.Proofs.Ytfpibldknjcehaa
set_option maxRecDepth 100000
open Go.RowKit

def trOk (s : Int) (cs : List Int) (k : Int) : Bool := Bd.okB s cs && Pt.okK k
def trS (s : Int) (cs : List Int) (k : Int) : Int := if trOk s cs k then s else 0
def trCs (s : Int) (cs : List Int) (k : Int) : List Int := if trOk s cs k then Bd.mv s k cs else []

set_option maxHeartbeats 4000000 in
theorem i_trB (s k : Int) (w : World) (B : Nat) (A : Option Addr) (n c : Nat) (cs : List Int) (h : Ints w B A n cs) (hB : B ≤ w.heap.size) (hn : n ≤ 1000000000) :
    Calls Try.prog 17 #[.agg #[.int .i64 s, .slice A n c], .int .i64 k] w fun e w' => Made (trS s cs k) (trCs s cs k) w e w' := by
  have e1 : (w.alloc (.cells #[.int .i64 s, .slice A n c] 25)).heap.size = w.heap.size + 1 := by simp
  have x0 := (Bx.new 25 w s (.slice A n c)).alloc (.cells #[.int .i64 0, .slice none 0 0] 25)
  have x1 := Bx.new 25 (w.alloc (.cells #[.int .i64 s, .slice A n c] 25)) 0 (.slice none 0 0)
  rw [e1] at x1
  have hb2 : Below w.heap.size w ((w.alloc (.cells #[.int .i64 s, .slice A n c] 25)).alloc (.cells #[.int .i64 0, .slice none 0 0] 25)) := ((Below.refl _ _).alloc (Nat.le_refl _) _).alloc (by simp) _
  have hl := h.1
  have H := Lib.hid (h.below hb2 hB)
  have X0 := Lib.hid x0
  have X1 := Lib.hid x1
  have Hb := Lib.hid hb2
  clear e1 x0 x1 hb2 h
  by_cases hv : Bd.okB s cs = true
  · obtain ⟨q1, q2, q3, _⟩ := (Bd.okB_iff s cs).1 hv
    have q4 := Pt.sq_bd s q1 q2
    have hn49 : n ≤ 49 := by omega
    have hns : (n : Int) = s * s := by omega
    have Hns := Lib.hid hns
    clear hns
    by_cases hk : Pt.okK k = true
    · have hall : trOk s cs k = true := by rw [trOk, hv, hk]; rfl
      have Hs := Lib.hid (show trS s cs k = s by rw [trS, hall]; rfl)
      have Hc := Lib.hid (show trCs s cs k = Bd.mv s k cs by rw [trCs, hall]; rfl)
      clear hall
      obtain ⟨k1, k2⟩ := (Pt.okK_iff k).1 hk
      go_enter Try.func17, Try.ntmps17
      go_wp2_with fail
      refine (i_validBoard _ _ _ _ _ _ _ H.out (by simp; omega) (by omega)).mono ?_
      rintro e y2 ⟨rfl, hb⟩
      rw [hv]
      have X0 := Lib.hid (X0.out.below hb X0.out.lt)
      have X1 := Lib.hid (X1.out.below hb X1.out.lt)
      have H := Lib.hid (H.out.below hb (by simp; omega))
      have Hb := Lib.hid (Hb.out.trans (hb.mono (by simp; omega)))
      clear hb hv
      have z2 := X1.out.lt
      have u00 := X0.out.cell0
      have u01 := X0.out.cell1
      have u02 := X0.out.lt
      go_wp2_with fail
      refine (i_sym _ _).mono ?_
      rintro e w' ⟨rfl, rfl⟩
      rw [hk]
      clear hk
      go_upto_region 3 with (fail)
      go_cut [] (fun wx => ∃ A' c', Bx 25 wx (w.heap.size + 1) s (.slice A' n c') ∧ Own wx y2.heap.size A' n c' (Bd.mv s k cs) ∧ Below w.heap.size w wx)
      case first =>
        go_region_with (first | (go_at_call 64; refine (i_imagesOf s k n _ q1 q2 Hns.out k1 k2).mono ?_; rintro e ya ⟨Aa, ca, rfl, hoa, hba⟩; have hbw : Below y2.heap.size y2 ya := ⟨hba.os, hba.tape, hba.output, hba.size, hba.block⟩; have za := hbw.size; have u0 := (X0.out.below hbw X0.out.lt).cell0; have u1 := (X0.out.below hbw X0.out.lt).cell1; have ul := (X0.out.below hbw X0.out.lt).lt; have Hoa := Lib.hid hoa.ints; have Ha := Lib.hid (H.out.below hbw (by omega)); have Hba := Lib.hid hbw; clear hoa hba hbw) | (go_at_call 63; refine (i_movedTo s k _ B ya.heap.size _ _ n _ _ cs (by exact Ha.out) (by exact Hoa.out) (by show B ≤ ya.heap.size; omega) (by exact Nat.le_refl _) q1 q2 Hns.out k1 k2).mono ?_; rintro e y ⟨A', c', rfl, ho, hb⟩; have hbw : Below y2.heap.size y2 y := Hba.out.trans ((show Below ya.heap.size ya y from ⟨hb.os, hb.tape, hb.output, hb.size, hb.block⟩).mono Hba.out.size); clear u0 u1; have w0 := (X0.out.below hbw X0.out.lt).cell0; have w1 := (X0.out.below hbw X0.out.lt).cell1; have v0 := (X1.out.below hbw X1.out.lt).cell0; have v1 := (X1.out.below hbw X1.out.lt).cell1; have v2 := (X1.out.below hbw X1.out.lt).frozen 0; have v3 := (X1.out.below hbw X1.out.lt).frozen 1; have v4 := (X1.out.below hbw X1.out.lt).lt; have HX1 := Lib.hid (X1.out.below hbw X1.out.lt); have Ho : Hid (Own y y2.heap.size A' n c' (Bd.mv s k cs)) := Lib.hid (Own.weaken ho za); have Hb' := Lib.hid hbw; clear ho hb hbw))
        all_goals go_wp2_with fail
        all_goals go_meet
        all_goals
          have ho2 := (Ho.out.far ⟨w.heap.size + 1, 0, none⟩ (fun g hA => by have := (Ho.out.ge hA).1; show g ≠ w.heap.size + 1; omega) (.int .i64 s)).far ⟨w.heap.size + 1, 1, none⟩ (fun g hA => by have := (Ho.out.ge hA).1; show g ≠ w.heap.size + 1; omega) (.slice A' n c')
          have hb3 := ((Hb.out.trans (Hb'.out.mono (by omega))).setCell (p := ⟨w.heap.size + 1, 0, none⟩) (by show w.heap.size ≤ w.heap.size + 1; omega) (.int .i64 s)).setCell (p := ⟨w.heap.size + 1, 1, none⟩) (by show w.heap.size ≤ w.heap.size + 1; omega) (.slice A' n c')
          exact ⟨A', c', (HX1.out.set0 s).set1 _, ho2, hb3⟩
      case rest =>
        obtain ⟨A', c', hx, ho, hb⟩ := hcut
        have Ho := Lib.hid ho
        have Hb2 := Lib.hid hb
        clear ho hb
        go_wp2_with fail
        have k0 := hx.cell0
        have k1 := hx.cell1
        refine bodyPost_ret (v := .agg #[.int .i64 s, .slice A' n c']) (by simp [results, Try.results17, go_sem, k0, k1]) rfl ?_
        exact ⟨_, _, _, by rw [Hs.out], by rw [Hc.out]; exact Ho.out.weaken (by omega), Hb2.out⟩
    · have hk0 : Pt.okK k = false := by simpa using hk
      have hall : trOk s cs k = false := by rw [trOk, hv, hk0]; rfl
      have Hs := Lib.hid (show trS s cs k = 0 by rw [trS, hall]; rfl)
      have Hc := Lib.hid (show trCs s cs k = [] by rw [trCs, hall]; rfl)
      clear hall
      clear hk
      go_enter Try.func17, Try.ntmps17
      go_wp2_with fail
      refine (i_validBoard _ _ _ _ _ _ _ H.out (by simp; omega) (by omega)).mono ?_
      rintro e y2 ⟨rfl, hb⟩
      rw [hv]
      have X0 := Lib.hid (X0.out.below hb X0.out.lt)
      have X1 := Lib.hid (X1.out.below hb X1.out.lt)
      have H := Lib.hid (H.out.below hb (by simp; omega))
      have Hb := Lib.hid (Hb.out.trans (hb.mono (by simp; omega)))
      clear hb hv
      have z2 := X1.out.lt
      have u00 := X0.out.cell0
      have u01 := X0.out.cell1
      have u02 := X0.out.lt
      go_wp2_with fail
      refine (i_sym _ _).mono ?_
      rintro e w' ⟨rfl, rfl⟩
      rw [hk0]
      clear hk0
      have v10 := X1.out.cell0
      have v11 := X1.out.cell1
      have v12 := X1.out.frozen 0
      have v13 := X1.out.frozen 1
      have v14 := X1.out.lt
      have K0 := Lib.hid ((X1.out.set0 0).cell0)
      have K1 := Lib.hid (((X1.out.set0 0).set1 (.slice none 0 0)).cell1)
      have Hb3 := Lib.hid ((Hb.out.setCell (p := ⟨w.heap.size + 1, 0, none⟩) (by show w.heap.size ≤ w.heap.size + 1; omega) (.int .i64 0)).setCell (p := ⟨w.heap.size + 1, 1, none⟩) (by show w.heap.size ≤ w.heap.size + 1; omega) (.slice none 0 0))
      clear u00 u01
      go_wp2_with fail
      have k0 := K0.out
      have k1 := K1.out
      refine bodyPost_ret (v := .agg #[.int .i64 0, .slice none 0 0]) (by simp [results, Try.results17, go_sem, k0, k1]) rfl ?_
      exact ⟨_, _, _, by rw [Hs.out], by rw [Hc.out]; exact Own.nil _ _, Hb3.out⟩
  · have hv0 : Bd.okB s cs = false := by simpa using hv
    have hall : trOk s cs k = false := by rw [trOk, hv0]; rfl
    have Hs := Lib.hid (show trS s cs k = 0 by rw [trS, hall]; rfl)
    have Hc := Lib.hid (show trCs s cs k = [] by rw [trCs, hall]; rfl)
    clear hall
    clear hv
    go_enter Try.func17, Try.ntmps17
    go_wp2_with fail
    refine (i_validBoard _ _ _ _ _ _ _ H.out (by simp; omega) (by omega)).mono ?_
    rintro e y2 ⟨rfl, hb⟩
    rw [hv0]
    have X0 := Lib.hid (X0.out.below hb X0.out.lt)
    have X1 := Lib.hid (X1.out.below hb X1.out.lt)
    have H := Lib.hid (H.out.below hb (by simp; omega))
    have Hb := Lib.hid (Hb.out.trans (hb.mono (by simp; omega)))
    clear hb hv0
    have z2 := X1.out.lt
    have u00 := X0.out.cell0
    have u01 := X0.out.cell1
    have u02 := X0.out.lt
    have v10 := X1.out.cell0
    have v11 := X1.out.cell1
    have v12 := X1.out.frozen 0
    have v13 := X1.out.frozen 1
    have v14 := X1.out.lt
    have K0 := Lib.hid ((X1.out.set0 0).cell0)
    have K1 := Lib.hid (((X1.out.set0 0).set1 (.slice none 0 0)).cell1)
    have Hb3 := Lib.hid ((Hb.out.setCell (p := ⟨w.heap.size + 1, 0, none⟩) (by show w.heap.size ≤ w.heap.size + 1; omega) (.int .i64 0)).setCell (p := ⟨w.heap.size + 1, 1, none⟩) (by show w.heap.size ≤ w.heap.size + 1; omega) (.slice none 0 0))
    clear u00 u01
    go_wp2_with fail
    have k0 := K0.out
    have k1 := K1.out
    refine bodyPost_ret (v := .agg #[.int .i64 0, .slice none 0 0]) (by simp [results, Try.results17, go_sem, k0, k1]) rfl ?_
    exact ⟨_, _, _, by rw [Hs.out], by rw [Hc.out]; exact Own.nil _ _, Hb3.out⟩
end Go.Proofs.Ytfpibldknjcehaa

namespace Go.Proofs.Ytfpibldknjcehaa
set_option maxRecDepth 100000
open Go.RowKit

set_option maxHeartbeats 400000 in
theorem s_transform (s k p : Int) (w : World) (h1 : 1 ≤ s) (h2 : s ≤ 7) (h3 : 0 ≤ p) (h4 : p < s * s) (k1 : 0 ≤ k) (k2 : k < 8) :
    Calls Try.prog 133 #[.int .i64 s, .int .i64 k, .int .i64 p] w fun e w' => e = .returned (.int .i64 (Pt.img s k p)) ∧ w = w' := by
  have hb := Pt.sq_bd s h1 h2
  obtain ⟨d1, d2, d3, d4, d5⟩ := Pt.dm s p h1 h2 h3 h4
  clear d5
  by_cases h4k : 4 ≤ k
  all_goals
    go_enter Try.func133, Try.ntmps133
    go_wp2
    go_loop [7, 8, 9] (fun r c i => ∃ n : Nat, n ≤ (k % 4).toNat ∧ i = .int .i64 n ∧ r = .int .i64 (Pt.rot s n (Pt.beg s k p)).1 ∧ c = .int .i64 (Pt.rot s n (Pt.beg s k p)).2) (fun _ _ i => (k % 4).toNat - (intOf i).toNat)
    case atStart => exact ⟨0, Nat.zero_le _, rfl, rfl, by simp only [Pt.rot, Pt.beg]; split <;> first | rfl | omega⟩
    case round =>
      obtain ⟨n, hn, rfl, rfl, rfl⟩ := hrel
      have hr := Pt.rot_bd s n _ (Pt.beg_bd s k p h1 h2 h3 h4)
      have hl := Pt.lin_bd s _ _ h1 h2 hr.1 hr.2.1 hr.2.2.1 hr.2.2.2
      obtain ⟨r1, r2, r3, r4⟩ := hr
      obtain ⟨l1, l2, l3, l4⟩ := hl
      by_cases hlt : (n : Int) < k % 4
      · go_wp2
        go_round
        case rel => exact ⟨n + 1, by omega, by go_num, rfl, rfl⟩
        case measure => simp [intOf]; omega
      · have hm : (k % 4).toNat = n := by omega
        have H := Lib.hid hm
        clear hm
        go_wp2
        go_ret
        exact ⟨ret_int (by rw [Pt.img, H.out]), rfl⟩
end Go.Proofs.Ytfpibldknjcehaa

namespace Go.Proofs.Ytfpibldknjcehaa
set_option maxRecDepth 100000
open Go.RowKit

theorem s_rangeK7 (k : Int) (w : World) : Calls Try.prog 111 #[.int .i64 k, .int .i64 0, .int .i64 7] w fun e w' => e = .returned (.bool (Pt.okK k)) ∧ w = w' :=
  (s_range k 0 7 w).mono fun e w' h => ⟨by rw [h.1]; exact ret_bool (by unfold Pt.okK; congr 1; exact decide_eq_decide.2 (by omega)), h.2⟩

set_option maxHeartbeats 1600000 in
theorem s_transformBoard (s k : Int) (w : World) (B : Nat) (A : Option Addr) (n c : Nat) (cs : List Int) (h : Ints w B A n cs) (hB : B ≤ w.heap.size) (h1 : 1 ≤ s) (h2 : s ≤ 7) (hns : (n : Int) = s * s) (k1 : 0 ≤ k) (k2 : k < 8) :
    Calls Try.prog 107 #[.agg #[.int .i64 s, .slice A n c], .int .i64 k] w fun e w' => Made s (Bd.mv s k cs) w e w' := by
  have e1 : (w.alloc (.cells #[.int .i64 s, .slice A n c] 25)).heap.size = w.heap.size + 1 := by simp
  have x0 := (Bx.new 25 w s (.slice A n c)).alloc (.cells #[.int .i64 0, .slice none 0 0] 25)
  have x1 := Bx.new 25 (w.alloc (.cells #[.int .i64 s, .slice A n c] 25)) 0 (.slice none 0 0)
  rw [e1] at x1
  have hb2 : Below w.heap.size w ((w.alloc (.cells #[.int .i64 s, .slice A n c] 25)).alloc (.cells #[.int .i64 0, .slice none 0 0] 25)) := ((Below.refl _ _).alloc (Nat.le_refl _) _).alloc (by simp) _
  have hl := h.1
  have H := Lib.hid (h.below hb2 hB)
  have X0 := Lib.hid x0
  have X1 := Lib.hid x1
  have Hb := Lib.hid hb2
  clear e1 x0 x1 hb2 h
  have hsq := Pt.sq_bd s h1 h2
  have hn49 : n ≤ 49 := by omega
  have hn1 : 0 < n := by omega
  have hle : (n : Int) ≤ s * s := by omega
  have Hns := Lib.hid hns
  have Hl := Lib.hid hl
  clear hns hl
  go_enter Try.func107, Try.ntmps107
  go_wp2_with fail
  refine (s_copyBoard _ _ _ _ _ _ _ H.out (by simp; omega) (by omega)).mono ?_
  rintro e y ⟨A1, c1, rfl, ho, hb⟩
  have X0 := Lib.hid (X0.out.below hb X0.out.lt)
  have X1 := Lib.hid (X1.out.below hb X1.out.lt)
  have H := Lib.hid (H.out.below hb (by simp; omega))
  have Hb := Lib.hid (Hb.out.trans (hb.mono (by simp; omega)))
  have Ho := Lib.hid (ho.weaken (B' := w.heap.size + 1 + 1) (by simp))
  have hA1 : ∃ g, A1 = some ⟨g, 0, none⟩ := by
    obtain ⟨g, cap, hv, _⟩ := World.ownsRow.form ho.2 (by omega)
    exact ⟨g, by injection hv⟩
  obtain ⟨g, hA1⟩ := hA1
  have hg1 := (Ho.out.ge hA1).1
  have hg2 := (ho.ge hA1).2
  rw [hA1] at Ho ⊢
  clear hb ho hA1
  have z1 := X1.out.lt
  have u00 := X0.out.cell0
  have u01 := X0.out.cell1
  have u02 := X0.out.lt
  go_wp2_with fail
  obtain ⟨y3, hy3, hb3, z3, z4⟩ := new_box y (.cells #[.int .i64 s, .slice (some ⟨g, 0, none⟩) n c1] 25)
  have X3 : Hid (Bx 25 y3 y.heap.size s (.slice (some ⟨g, 0, none⟩) n c1)) := Lib.hid (by rw [hy3]; exact Bx.new _ _ _ _)
  rw [← hy3]
  clear hy3 u00 u01
  have X0 := Lib.hid (X0.out.below hb3 X0.out.lt)
  have X1 := Lib.hid (X1.out.below hb3 X1.out.lt)
  have H := Lib.hid (H.out.below hb3 (by omega))
  have Ho := Lib.hid (Ho.out.below hb3)
  have Hb := Lib.hid (Hb.out.trans (hb3.mono (by omega)))
  clear hb3
  go_loopw [6] (fun i wr => ∃ j : Nat, j ≤ n ∧ i = .int .i64 j ∧ Own wr (w.heap.size + 1 + 1) (some ⟨g, 0, none⟩) n c1 (Bd.steps (Bd.imgN s k) cs j cs) ∧ Bx 25 wr y.heap.size s (.slice (some ⟨g, 0, none⟩) n c1) ∧ Below (w.heap.size + 1 + 1) y3 wr) (fun i _ => n - (intOf i).toNat)
  case atStart => exact ⟨0, by omega, rfl, Ho.out, X3.out, Below.refl _ _⟩
  case round =>
    clear X3 Ho
    obtain ⟨j, hj, rfl, ho, hx3, hbr⟩ := hrel
    have X0r := Lib.hid (X0.out.below hbr (by omega))
    have X1r := Lib.hid (X1.out.below hbr (by omega))
    have Hir := Lib.hid (H.out.below hbr (by omega))
    have Hbw := Lib.hid (Hb.out.trans (hbr.mono (by omega)))
    have Ho := Lib.hid ho
    have X3 := Lib.hid hx3
    have Hbr := Lib.hid hbr
    clear ho hx3 hbr
    have v00 := X0r.out.cell0
    have v01 := X0r.out.cell1
    have v02 := X0r.out.lt
    have v30 := X3.out.cell0
    have v31 := X3.out.cell1
    have v32 := X3.out.lt
    by_cases hjn : j < n
    · have hA : ∃ b o, A = some ⟨b, o, none⟩ ∧ b < B ∧ wr.cell? ⟨b, o + j, none⟩ = some (.int .i64 (cs.getD j 0)) := by
        rcases Hir.out.2 with h0 | ⟨b, o, hA, hbB, hc⟩
        · omega
        · exact ⟨b, o, hA, hbB, hc j hjn⟩
      obtain ⟨b, o, hA, hbB, hck⟩ := hA
      have HA := Lib.hid hA
      rw [hA] at v01
      clear hA
      obtain ⟨m1, m2⟩ := Bd.imgN_lt s k n j h1 h2 Hns.out hjn
      have hjs : (j : Int) < s * s := by omega
      have hcell : ∃ u, wr.cell? ⟨g, Bd.imgN s k j, none⟩ = some u := by
        have := World.ownsRow.cellAt Ho.out.2 (Bd.imgN s k j) (by omega)
        rw [this]
        exact ⟨_, List.getElem?_eq_getElem (by rw [List.length_map, Ho.out.1]; exact m1)⟩
      obtain ⟨u, hu⟩ := hcell
      have hf := World.ownsRow.frozenAt Ho.out.2 (Bd.imgN s k j)
      have hst : Own (wr.setCell ⟨g, Bd.imgN s k j, none⟩ (.int .i64 (cs.getD j 0))) (w.heap.size + 1 + 1) (some ⟨g, 0, none⟩) n c1 (Bd.steps (Bd.imgN s k) cs (j + 1) cs) := (Ho.out.stored (Bd.imgN s k j) (cs.getD j 0)).1
      obtain ⟨x, hx⟩ : ∃ x, cs.getD j 0 = x := ⟨_, rfl⟩
      obtain ⟨q, hq⟩ : ∃ q, Bd.imgN s k j = q := ⟨_, rfl⟩
      rw [hx] at hst hck
      rw [hq] at hst hu hf m1 m2
      have hqn : (q : Int) < n := by omega
      have hjn' : (j : Int) < n := by omega
      have Hst := Lib.hid hst
      have M2 := Lib.hid m2
      clear hx hq m2 hst
      go_wp2_with fail
      go_region_with (go_at_call 133; refine (s_transform s k j _ h1 h2 (by omega) hjs k1 k2).mono ?_; rintro e w9 ⟨rfl, rfl⟩; rw [← M2.out])
      all_goals go_wp2_with fail
      all_goals go_roundw
      all_goals try (simp [intOf]; omega)
      all_goals exact ⟨j + 1, by omega, by go_num, Own.drew Hst.out, X3.out.far (p := ⟨g, q, none⟩) (by show y.heap.size ≠ g; omega) (.int .i64 x), Below.drew (Hbr.out.setCell hg1 _)⟩
    · have hjn2 : j = n := by omega
      have hfin : Own wr (w.heap.size + 1 + 1) (some ⟨g, 0, none⟩) n c1 (Bd.mv s k cs) := by
        have := Ho.out
        rw [hjn2, ← Hl.out] at this
        rw [← Hl.out]
        exact this
      clear hjn2
      have ho2 := (hfin.far ⟨w.heap.size + 1, 0, none⟩ (fun g hA => by have := (hfin.ge hA).1; show g ≠ w.heap.size + 1; omega) (.int .i64 s)).far ⟨w.heap.size + 1, 1, none⟩ (fun g hA => by have := (hfin.ge hA).1; show g ≠ w.heap.size + 1; omega) (.slice (some ⟨g, 0, none⟩) n c1)
      have hb3 := (Hbw.out.setCell (p := ⟨w.heap.size + 1, 0, none⟩) (by show w.heap.size ≤ w.heap.size + 1; omega) (.int .i64 s)).setCell (p := ⟨w.heap.size + 1, 1, none⟩) (by show w.heap.size ≤ w.heap.size + 1; omega) (.slice (some ⟨g, 0, none⟩) n c1)
      have Ho2 := Lib.hid ho2
      have Hb3 := Lib.hid hb3
      have K0 := Lib.hid ((X1r.out.set0 s).cell0)
      have K1 := Lib.hid (((X1r.out.set0 s).set1 (.slice (some ⟨g, 0, none⟩) n c1)).cell1)
      have v10 := X1r.out.cell0
      have v11 := X1r.out.cell1
      have v12 := X1r.out.frozen 0
      have v13 := X1r.out.frozen 1
      have v14 := X1r.out.lt
      clear hfin ho2 hb3
      go_wp2_with fail
      have k0 := K0.out
      have k1 := K1.out
      refine bodyPost_ret (v := .agg #[.int .i64 s, .slice (some ⟨g, 0, none⟩) n c1]) (by simp [results, Try.results107, go_sem, k0, k1]) rfl ?_
      exact ⟨_, _, _, rfl, Ho2.out.weaken (by omega), Hb3.out⟩

end Go.Proofs.Ytfpibldknjcehaa

namespace Go.Proofs.Ytfpibldknjcehaa
set_option maxRecDepth 100000
open Go.RowKit

theorem okL_steps {f : Nat → Nat} {cs l : List Int} (hc : OkL cs) (hl : OkL l) (j : Nat) (hj : j ≤ cs.length) : OkL (Bd.steps f cs j l) := by
  induction j with
  | zero => exact hl
  | succ j ih =>
    have h1 := hc j (by omega)
    exact (ih (by omega)).set _ h1.1 h1.2
theorem okL_mv {s k : Int} {cs : List Int} (hc : OkL cs) : OkL (Bd.mv s k cs) := okL_steps hc hc _ (Nat.le_refl _)
theorem okL_oth {cs : List Int} (hc : OkL cs) : OkL (othCs cs) := by
  rw [okL_mem] at hc ⊢
  intro c hm
  unfold othCs at hm
  obtain ⟨x, hx, rfl⟩ := List.mem_map.1 hm
  have := hc x hx
  have h3 : x = 0 ∨ x = 1 ∨ x = 2 := by omega
  rcases h3 with rfl | rfl | rfl <;> decide
theorem okB_oth {s : Int} {cs : List Int} (h : Bd.okB s cs = true) : Bd.okB s (othCs cs) = true := by
  obtain ⟨a, b, c, d⟩ := (Bd.okB_iff s cs).1 h
  exact (Bd.okB_iff s _).2 ⟨a, b, by rw [othCs_len]; exact c, okL_mem.1 (okL_oth (okL_mem.2 d))⟩
theorem okB_mv {s k : Int} {cs : List Int} (h : Bd.okB s cs = true) : Bd.okB s (Bd.mv s k cs) = true := by
  obtain ⟨a, b, c, d⟩ := (Bd.okB_iff s cs).1 h
  exact (Bd.okB_iff s _).2 ⟨a, b, by rw [Bd.mv_len]; exact c, okL_mem.1 (okL_mv (okL_mem.2 d))⟩
theorem okB_new {s : Int} (h1 : 1 ≤ s) (h2 : s ≤ 7) : Bd.okB s (List.replicate (s * s).toNat 0) = true := by
  have := Pt.sq_bd s h1 h2
  exact (Bd.okB_iff s _).2 ⟨h1, h2, by rw [List.length_replicate]; omega, okL_mem.1 (okL_zero _)⟩

/-- The texts of the corners. -/
def Nine (w : World) (g : Nat) : Prop := ∀ j, j < 9 → ∃ S : ByteArray, w.cell? ⟨g, j, none⟩ = some (.string S) ∧ S.size ≤ 100

theorem r_corners (w : World) : Calls Try.prog 127 #[] w fun e w' => e = .returned (.slice (some ⟨w.heap.size, 0, none⟩) 9 9) ∧ Nine w' w.heap.size ∧ Below w.heap.size w w' := by
  go_enter Try.func127, Try.ntmps127
  go_wp2_with fail
  go_ret
  refine ⟨rfl, fun j hj => ?_, (Below.refl _ _).alloc (Nat.le_refl _) _⟩
  rw [World.cell?_alloc_at _ _ _ _ rfl]
  match j, hj with
  | 0, _ => exact ⟨_, rfl, by decide⟩
  | 1, _ => exact ⟨_, rfl, by decide⟩
  | 2, _ => exact ⟨_, rfl, by decide⟩
  | 3, _ => exact ⟨_, rfl, by decide⟩
  | 4, _ => exact ⟨_, rfl, by decide⟩
  | 5, _ => exact ⟨_, rfl, by decide⟩
  | 6, _ => exact ⟨_, rfl, by decide⟩
  | 7, _ => exact ⟨_, rfl, by decide⟩
  | 8, _ => exact ⟨_, rfl, by decide⟩

set_option maxRecDepth 100000 in
set_option maxHeartbeats 8000000 in
theorem r_random (B g q : Nat) (w : World) (h : Rdr w B g q) (hq : q ≤ 10000000000) :
    Calls Try.prog 100 #[.pointer (some ⟨g, 0, none⟩)] w fun e w' => DrawnB w B g w.heap.size (q + 200) e w' := by
  have hlt := h.lt
  have hb1 : Below w.heap.size w (w.alloc (.cells #[.int .i64 0, .slice none 0 0] 25)) := (Below.refl _ _).alloc (Nat.le_refl _) _
  have X2 := Lib.hid (Bx.new 25 w 0 (.slice none 0 0))
  have Hr := Lib.hid (h.below hb1 hlt)
  have Hb := Lib.hid hb1
  clear h hb1
  go_enter Try.func100, Try.ntmps100
  go_wp2_with fail
  refine (r_pick B g q _ _ Hr.out (by omega)).mono ?_
  rintro e y ⟨x0, rfl, k1, k2, hr, hg⟩
  have X2 := Lib.hid (X2.out.grown hg (fun e => by have := Option.some.inj e; omega))
  have Hg := Lib.hid (gtrans (gbelow (some g) Hb.out (Nat.le_refl _)) hg)
  have Hr := Lib.hid hr
  have z2 := X2.out.lt
  clear hr hg Hb
  by_cases h0 : x0 = 0
  · subst h0
    clear k1 k2
    go_wp2_with fail
    refine (r_smallSize B g (q + 1) _ Hr.out (by omega)).mono ?_
    rintro e y2 ⟨s, rfl, ⟨s1, s2⟩, hr, hg⟩
    have X2 := Lib.hid (X2.out.grown hg (fun e => by have := Option.some.inj e; omega))
    have Hg := Lib.hid (gtrans Hg.out hg)
    have Hr := Lib.hid hr
    have z3 := X2.out.lt
    have hsq := Pt.sq_bd s s1 s2
    clear hr hg
    go_wp2_with fail
    refine (s_new s _).mono ?_
    rintro e y3 ⟨A1, n, c1, rfl, ho, hb⟩
    have hs1 : newS s = s := by rw [newS, if_pos ((Pt.okS_iff s).2 ⟨s1, s2⟩)]
    have hc1 : newCs s = List.replicate (s * s).toNat 0 := by rw [newCs, if_pos ((Pt.okS_iff s).2 ⟨s1, s2⟩)]
    rw [hc1] at ho
    rw [hs1]
    have hn : (s * s).toNat = n := by have := ho.1; simpa using this
    rw [hn] at ho
    have Hn : Hid (((n : Nat) : Int) = s * s) := Lib.hid (by omega)
    have hn49 : n ≤ 49 := by omega
    have zz := hb.size
    have X2 := Lib.hid (X2.out.below hb X2.out.lt)
    have Ho := Lib.hid ho
    have Hr := Lib.hid (Hr.out.below hb Hr.out.lt)
    have Hg := Lib.hid (gtrans Hg.out (gbelow (some g) hb (Nat.le_refl _)))
    clear hb hs1 hc1 ho hn
    go_upto_region 4 with (fail)
    obtain ⟨y4, hy4, hb4, z4, z5⟩ := new_box y3 (.cells #[.int .i64 s, .slice A1 n c1] 25)
    have X3 : Hid (Bx 25 y4 y3.heap.size s (.slice A1 n c1)) := Lib.hid (by rw [hy4]; exact Bx.new _ _ _ _)
    rw [← hy4]
    clear hy4
    have X2 := Lib.hid (X2.out.below hb4 X2.out.lt)
    have Hr := Lib.hid (Hr.out.below hb4 Hr.out.lt)
    have Hra := Lib.hid (fun g' (hA : A1 = some ⟨g', 0, none⟩) => (Ho.out.ge hA).2)
    have Ho := Lib.hid (Ho.out.below hb4)
    have Hg := Lib.hid (gtrans Hg.out (gbelow (some g) hb4 (Nat.le_refl _)))
    clear hb4
    go_wp2_with fail
    go_loopw [4] (fun v wr => ∃ (p q1 : Nat) (cs : List Int), p ≤ n ∧ v = .int .i64 (p : Nat) ∧ q1 = q + 2 + p ∧ Own wr y2.heap.size A1 n c1 cs ∧ OkL cs ∧ Bx 25 wr w.heap.size 0 (.slice none 0 0) ∧ Bx 25 wr y3.heap.size s (.slice A1 n c1) ∧ Rdr wr B g q1 ∧ w.grownBy wr (some g)) (fun v _ => n - (intOf v).toNat)
    case atStart => exact ⟨0, q + 2, _, by omega, rfl, rfl, Ho.out, okL_zero n, X2.out, X3.out, Hr.out, Hg.out⟩
    case round =>
      clear X2 X3 Ho Hr Hg
      obtain ⟨p, q1, cs, hp, rfl, hq1, ho, hok, hx2, hx3, hr, hg⟩ := hrel
      have X2 := Lib.hid hx2
      have X3 := Lib.hid hx3
      have Ho := Lib.hid ho
      have Hok := Lib.hid hok
      have Hr := Lib.hid hr
      have Hg := Lib.hid hg
      have hq2 : q1 ≤ q + 60 := by omega
      have Hq1 := Lib.hid hq1
      clear ho hok hx2 hx3 hr hg hq1
      have t0 := X3.out.cell0
      have t1 := X3.out.cell1
      have t2 := X3.out.lt
      by_cases hpn : p < n
      · obtain ⟨ga, hA1⟩ : ∃ ga, A1 = some ⟨ga, 0, none⟩ := by
          obtain ⟨ga, cap, hv, _⟩ := World.ownsRow.form Ho.out.2 (by omega)
          exact ⟨ga, by injection hv⟩
        subst hA1
        have hga1 := (Ho.out.ge rfl).1
        have hga2 := Hra.out ga rfl
        have hpi : (p : Int) < n := by omega
        go_wp2_with fail
        go_region_with (go_at_call 101; refine (r_pick B g q1 _ _ (by exact Hr.out) (by omega)).mono ?_; rintro e yp ⟨x, rfl, x1, x2, hr, hg⟩; have hgw : wr.grownBy yp (some g) := ⟨hg.os, hg.tape, hg.output, hg.size, hg.block⟩; have zp := hgw.size; have HX3 := Lib.hid (X3.out.grown hgw (fun e => by have := Option.some.inj e; omega)); have HX2 := Lib.hid (X2.out.grown hgw (fun e => by have := Option.some.inj e; omega)); have u0 := HX3.out.cell0; have u1 := HX3.out.cell1; have u2 := HX3.out.lt; have HO := Lib.hid (Ho.out.kept hgw (fun g' hA e => by have := (Ho.out.ge hA).1; have := Option.some.inj e; omega)); have u3 := World.ownsRow.cellAt HO.out.2 p (by omega); rw [List.getElem?_eq_getElem (by rw [List.length_map, HO.out.1]; exact hpn)] at u3; have u4 := World.ownsRow.frozenAt HO.out.2 p; have HR := Lib.hid hr; have HG := Lib.hid (gtrans Hg.out hgw); clear hr hg hgw)
        all_goals go_wp2_with fail
        all_goals go_roundw
        all_goals try (simp [intOf]; omega)
        all_goals
          have hr3 := HR.out.far ⟨ga, p, none⟩ (by show g ≠ ga; omega) (by have := HR.out.1; show B ≤ ga; omega) (.int .i64 x)
          have hg3 := gset HG.out ⟨ga, p, none⟩ (by show w.heap.size ≤ ga; omega) (.int .i64 x)
          exact ⟨p + 1, q1 + 1, _, by omega, by go_num, by have := Hq1.out; omega, (HO.out.stored p x).1, Hok.out.set p x1 (by omega), HX2.out.far (p := ⟨ga, p, none⟩) (by show w.heap.size ≠ ga; omega) _, HX3.out.far (p := ⟨ga, p, none⟩) (by show y3.heap.size ≠ ga; omega) _, hr3, hg3⟩
      · obtain rfl : p = n := by omega
        have Hv := Lib.hid (okB_mk s1 s2 (by rw [Ho.out.1]; exact Hn.out) Hok.out)
        have K0 := Lib.hid ((X2.out.set0 s).cell0)
        have K1 := Lib.hid (((X2.out.set0 s).set1 (.slice A1 p c1)).cell1)
        have r0 := X2.out.cell0
        have r1 := X2.out.cell1
        have r2 := X2.out.frozen 0
        have r3 := X2.out.frozen 1
        have r4 := X2.out.lt
        have hBg := Hr.out.1
        have Hr3 := Lib.hid ((Hr.out.far ⟨w.heap.size, 0, none⟩ (by show g ≠ w.heap.size; omega) (by show B ≤ w.heap.size; omega) (.int .i64 s)).far ⟨w.heap.size, 1, none⟩ (by show g ≠ w.heap.size; omega) (by show B ≤ w.heap.size; omega) (.slice A1 p c1))
        have Hg3 := Lib.hid (gset (gset Hg.out ⟨w.heap.size, 0, none⟩ (Nat.le_refl _) (.int .i64 s)) ⟨w.heap.size, 1, none⟩ (Nat.le_refl _) (.slice A1 p c1))
        have Ho3 := Lib.hid ((Ho.out.far ⟨w.heap.size, 0, none⟩ (fun g' hA => by have := (Ho.out.ge hA).1; show g' ≠ w.heap.size; omega) (.int .i64 s)).far ⟨w.heap.size, 1, none⟩ (fun g' hA => by have := (Ho.out.ge hA).1; show g' ≠ w.heap.size; omega) (.slice A1 p c1))
        go_wp2_with fail
        have k0 := K0.out
        have k1 := K1.out
        refine bodyPost_ret (v := .agg #[.int .i64 s, .slice A1 p c1]) (by simp [results, Try.results100, go_sem, k0, k1]) rfl ?_
        exact ⟨_, _, _, _, _, _, rfl, Ho3.out.weaken (by omega), Hv.out, Hr3.out, by omega, Hg3.out⟩
  · have e0 : (x0 == 0) = false := by simpa using h0
    by_cases h1 : x0 = 1
    · subst h1
      clear k1 k2 h0 e0
      go_wp2_with fail
      refine (r_corners _).mono ?_
      rintro e y2 ⟨rfl, hN, hb⟩
      have X2 := Lib.hid (X2.out.below hb X2.out.lt)
      have Hg := Lib.hid (gtrans Hg.out (gbelow (some g) hb (Nat.le_refl _)))
      have Hrl := Hr.out.lt
      have Hr := Lib.hid (Hr.out.below hb Hr.out.lt)
      have HN := Lib.hid hN
      have z3 := hb.size
      clear hN hb
      have zy : y.heap.size < y2.heap.size := by
        obtain ⟨S, h1, _⟩ := HN.out 0 (by omega)
        exact World.block_lt_of_cell? _ _ h1
      go_wp2_with fail
      refine (r_pick B g (q + 1) _ _ Hr.out (by omega)).mono ?_
      rintro e y3 ⟨j, rfl, j1, j2, hr, hg⟩
      obtain ⟨j, rfl⟩ := Int.eq_ofNat_of_zero_le j1
      have hj9 : j < 9 := by omega
      obtain ⟨S, hS1, hS2⟩ := HN.out j hj9
      have hc := (World.cell?_of_block (w' := y3) (w := y2) (a := ⟨y.heap.size, j, none⟩) (hg.block y.heap.size zy (by intro e; have := Option.some.inj e; omega))).trans hS1
      have X2 := Lib.hid (X2.out.grown hg (fun e => by have := Option.some.inj e; omega))
      have Hg := Lib.hid (gtrans Hg.out hg)
      have Hr := Lib.hid hr
      have z4 := hg.size
      have hj9' : (j : Int) < 9 := by omega
      clear hr hg hS1 HN j2
      go_wp2_with fail
      refine (s_ParseBoard S _ (by omega)).mono ?_
      rintro e y4 ⟨s', A, n, c, cs, ok, rfl, hwhat, hb⟩
      have X2 := Lib.hid (X2.out.below hb X2.out.lt)
      have Hg := Lib.hid (gtrans Hg.out (gbelow (some g) hb (Nat.le_refl _)))
      have Hr := Lib.hid (Hr.out.below hb Hr.out.lt)
      have Hwhat := Lib.hid hwhat
      have z5 := hb.size
      clear hwhat hb hc
      go_upto_region 13 with (fail)
      obtain ⟨y5, hy5, hb5, z6, z7⟩ := new_box y4 (.cells #[.int .i64 s', .slice A n c] 25)
      have X6 : Hid (Bx 25 y5 y4.heap.size s' (.slice A n c)) := Lib.hid (by rw [hy5]; exact Bx.new _ _ _ _)
      rw [← hy5]
      clear hy5
      have X2 := Lib.hid (X2.out.below hb5 X2.out.lt)
      have Hr := Lib.hid (Hr.out.below hb5 Hr.out.lt)
      have Hg := Lib.hid (gtrans Hg.out (gbelow (some g) hb5 (Nat.le_refl _)))
      cases ok with
      | false =>
        clear hb5 Hwhat
        go_wp2_with fail
        refine (s_new 3 _).mono ?_
        rintro e y6 ⟨A6, n6, c6, rfl, ho, hb⟩
        have hs1 : newS 3 = 3 := rfl
        have hc1 : newCs 3 = List.replicate (3 * 3 : Int).toNat 0 := rfl
        rw [hc1] at ho
        rw [hs1]
        have X2 := Lib.hid (X2.out.below hb X2.out.lt)
        have Hg := Lib.hid (gtrans Hg.out (gbelow (some g) hb (Nat.le_refl _)))
        have Hr := Lib.hid (Hr.out.below hb Hr.out.lt)
        have Ho := Lib.hid ho
        clear ho hb hs1 hc1
        have K0 := Lib.hid ((X2.out.set0 3).cell0)
        have K1 := Lib.hid (((X2.out.set0 3).set1 (.slice A6 n6 c6)).cell1)
        have r0 := X2.out.cell0
        have r1 := X2.out.cell1
        have r2 := X2.out.frozen 0
        have r3 := X2.out.frozen 1
        have r4 := X2.out.lt
        have hBg := Hr.out.1
        have Hr3 := Lib.hid ((Hr.out.far ⟨w.heap.size, 0, none⟩ (by show g ≠ w.heap.size; omega) (by show B ≤ w.heap.size; omega) (.int .i64 3)).far ⟨w.heap.size, 1, none⟩ (by show g ≠ w.heap.size; omega) (by show B ≤ w.heap.size; omega) (.slice A6 n6 c6))
        have Hg3 := Lib.hid (gset (gset Hg.out ⟨w.heap.size, 0, none⟩ (Nat.le_refl _) (.int .i64 3)) ⟨w.heap.size, 1, none⟩ (Nat.le_refl _) (.slice A6 n6 c6))
        have Ho3 := Lib.hid ((Ho.out.far ⟨w.heap.size, 0, none⟩ (fun g' hA => by have := (Ho.out.ge hA).1; show g' ≠ w.heap.size; omega) (.int .i64 3)).far ⟨w.heap.size, 1, none⟩ (fun g' hA => by have := (Ho.out.ge hA).1; show g' ≠ w.heap.size; omega) (.slice A6 n6 c6))
        go_wp2_with fail
        have k0 := K0.out
        have k1 := K1.out
        refine bodyPost_ret (v := .agg #[.int .i64 3, .slice A6 n6 c6]) (by simp [results, Try.results100, go_sem, k0, k1]) rfl ?_
        exact ⟨_, _, _, _, _, _, rfl, Ho3.out.weaken (by omega), okB_new (by omega) (by omega), Hr3.out, by omega, Hg3.out⟩
      | true =>
        obtain ⟨ho, hv, _⟩ := Hwhat.out rfl
        have Ho := Lib.hid (ho.below hb5)
        have Hv := Lib.hid hv
        have Hra := Lib.hid (fun g' (hA : A = some ⟨g', 0, none⟩) => (ho.ge hA).2)
        clear Hwhat ho hv hb5
        go_wp2_with fail
        refine (r_pick B g (q + 2) _ _ Hr.out (by omega)).mono ?_
        rintro e y7 ⟨f, rfl, f1, f2, hr, hg⟩
        have X2 := Lib.hid (X2.out.grown hg (fun e => by have := Option.some.inj e; omega))
        have X6 := Lib.hid (X6.out.grown hg (fun e => by have := Option.some.inj e; omega))
        have Ho := Lib.hid (Ho.out.kept hg (fun g' hA e => by have := (Ho.out.ge hA).1; have := Option.some.inj e; omega))
        have Hg := Lib.hid (gtrans Hg.out hg)
        have Hr := Lib.hid hr
        have z8 := hg.size
        clear hr hg f2
        by_cases hf : f = 0
        · have hbf : (f == 0) = true := by simpa using hf
          clear hf
          have t0 := X6.out.cell0
          have t1 := X6.out.cell1
          have t2 := X6.out.lt
          go_wp2_with fail
          refine (s_invertBoard s' _ _ _ n c cs Ho.out.ints (Nat.le_refl _) (by have := Ho.out.1; obtain ⟨a1, a2, a3, _⟩ := (Bd.okB_iff s' cs).1 Hv.out; have := Pt.sq_bd s' a1 a2; omega) ((Bd.okB_iff s' cs).1 Hv.out).2.2.2).mono ?_
          rintro e y8 ⟨A8, n8, c8, rfl, ho8, hb⟩
          have X2 := Lib.hid (X2.out.below hb X2.out.lt)
          have X6 := Lib.hid (X6.out.below hb X6.out.lt)
          have Hg := Lib.hid (gtrans Hg.out (gbelow (some g) hb (Nat.le_refl _)))
          have Hr := Lib.hid (Hr.out.below hb Hr.out.lt)
          have Ho8 := Lib.hid ho8
          have Hv8 := Lib.hid (okB_oth Hv.out)
          have z9 := hb.size
          clear ho8 hb t0 t1 t2
          have t0 := X6.out.cell0
          have t1 := X6.out.cell1
          have t2 := X6.out.lt
          have t3 := X6.out.frozen 0
          have t4 := X6.out.frozen 1
          go_upto_region 17 with (fail)
          obtain ⟨y9, hy9⟩ : ∃ y9, y9 = (y8.setCell ⟨y4.heap.size, 0, none⟩ (.int .i64 s')).setCell ⟨y4.heap.size, 1, none⟩ (.slice A8 n8 c8) := ⟨_, rfl⟩
          have es : y9.heap.size = y8.heap.size := by rw [hy9]; simp [World.setCell]
          have hBg := Hr.out.1
          have hgl := Hr.out.lt
          have X2 : Hid (Bx 25 y9 w.heap.size 0 (.slice none 0 0)) := Lib.hid (by rw [hy9]; exact (X2.out.far (p := ⟨y4.heap.size, 0, none⟩) (by show w.heap.size ≠ y4.heap.size; omega) (.int .i64 s')).far (p := ⟨y4.heap.size, 1, none⟩) (by show w.heap.size ≠ y4.heap.size; omega) (.slice A8 n8 c8))
          have X6 : Hid (Bx 25 y9 y4.heap.size s' (.slice A8 n8 c8)) := Lib.hid (by rw [hy9]; exact (X6.out.set0 s').set1 (.slice A8 n8 c8))
          have Ho8 : Hid (Own y9 y7.heap.size A8 n8 c8 (othCs cs)) := Lib.hid (by rw [hy9]; exact (Ho8.out.far ⟨y4.heap.size, 0, none⟩ (fun g' hA => by have := (Ho8.out.ge hA).1; show g' ≠ y4.heap.size; omega) (.int .i64 s')).far ⟨y4.heap.size, 1, none⟩ (fun g' hA => by have := (Ho8.out.ge hA).1; show g' ≠ y4.heap.size; omega) (.slice A8 n8 c8))
          have Hr : Hid (Rdr y9 B g (q + 2 + 1)) := Lib.hid (by rw [hy9]; exact (Hr.out.far ⟨y4.heap.size, 0, none⟩ (by show g ≠ y4.heap.size; omega) (by show B ≤ y4.heap.size; omega) (.int .i64 s')).far ⟨y4.heap.size, 1, none⟩ (by show g ≠ y4.heap.size; omega) (by show B ≤ y4.heap.size; omega) (.slice A8 n8 c8))
          have Hg : Hid (w.grownBy y9 (some g)) := Lib.hid (by rw [hy9]; exact gset (gset Hg.out ⟨y4.heap.size, 0, none⟩ (by show w.heap.size ≤ y4.heap.size; omega) (.int .i64 s')) ⟨y4.heap.size, 1, none⟩ (by show w.heap.size ≤ y4.heap.size; omega) (.slice A8 n8 c8))
          rw [← hy9]
          clear hy9 t0 t1 t2 t3 t4
          obtain ⟨v1, v2, v3, v4⟩ := (Bd.okB_iff s' (othCs cs)).1 Hv8.out
          have hlcs := Ho8.out.1
          have Hns : Hid (((n8 : Nat) : Int) = s' * s') := Lib.hid (by rw [← v3, hlcs])
          clear v3 v4 hlcs
          have t0 := X6.out.cell0
          have t1 := X6.out.cell1
          have t2 := X6.out.lt
          go_upto_region 17 with (fail)
          go_region_with (first | (go_at_call 101; refine (r_pick B g (q + 2 + 1) _ _ (by exact Hr.out) (by omega)).mono ?_; rintro e yp ⟨kk, rfl, kk1, kk2, hr, hg⟩; have hgw : y9.grownBy yp (some g) := ⟨hg.os, hg.tape, hg.output, hg.size, hg.block⟩; have zp := hgw.size; have HX6 := Lib.hid (X6.out.grown hgw (fun e => by have := Option.some.inj e; omega)); have HX2 := Lib.hid (X2.out.grown hgw (fun e => by have := Option.some.inj e; omega)); have u0 := HX6.out.cell0; have u1 := HX6.out.cell1; have u2 := HX6.out.lt; have HO := Lib.hid (Ho8.out.kept hgw (fun g' hA e => by have := (Ho8.out.ge hA).1; have := Option.some.inj e; omega)); have HR := Lib.hid hr; have HG := Lib.hid (gtrans Hg.out hgw); have kk3 : kk < 8 := (by omega); clear hr hg hgw kk2) | (go_at_call 107; refine (s_transformBoard s' kk _ yp.heap.size _ _ _ (othCs cs) (by exact HO.out.ints) ?_ v1 v2 Hns.out kk1 kk3).mono ?_; (show yp.heap.size ≤ yp.heap.size; omega); rintro e yt ⟨A3, n3, c3, rfl, ho, hb⟩; have hbw : Below yp.heap.size yp yt := ⟨hb.os, hb.tape, hb.output, hb.size, hb.block⟩; have HX2t := Lib.hid (HX2.out.below hbw HX2.out.lt); have u3 := (HX6.out.below hbw HX6.out.lt).cell0; have u4 := (HX6.out.below hbw HX6.out.lt).cell1; have r0 := HX2t.out.cell0; have r1 := HX2t.out.cell1; have r2 := HX2t.out.frozen 0; have r3 := HX2t.out.frozen 1; have r4 := HX2t.out.lt; have HO3 : Hid (Own yt yp.heap.size A3 n3 c3 (Bd.mv s' kk (othCs cs))) := Lib.hid ho; have HRt := Lib.hid (HR.out.below hbw HR.out.lt); have HGt := Lib.hid (gtrans HG.out (gbelow (some g) hbw (Nat.le_refl _))); clear ho hb hbw))
          all_goals go_wp2_with fail
          all_goals
            have k0 := (HX2t.out.set0 s').cell0
            have k1 := ((HX2t.out.set0 s').set1 (.slice A3 n3 c3)).cell1
            refine bodyPost_ret (v := .agg #[.int .i64 s', .slice A3 n3 c3]) (by simp [results, Try.results100, go_sem, k0, k1]) rfl ?_
            have hBg := HRt.out.1
            have hr3 := (HRt.out.far ⟨w.heap.size, 0, none⟩ (by show g ≠ w.heap.size; omega) (by show B ≤ w.heap.size; omega) (.int .i64 s')).far ⟨w.heap.size, 1, none⟩ (by show g ≠ w.heap.size; omega) (by show B ≤ w.heap.size; omega) (.slice A3 n3 c3)
            have hg3 := gset (gset HGt.out ⟨w.heap.size, 0, none⟩ (Nat.le_refl _) (.int .i64 s')) ⟨w.heap.size, 1, none⟩ (Nat.le_refl _) (.slice A3 n3 c3)
            have ho3 := (HO3.out.far ⟨w.heap.size, 0, none⟩ (fun g' hA => by have := (HO3.out.ge hA).1; show g' ≠ w.heap.size; omega) (.int .i64 s')).far ⟨w.heap.size, 1, none⟩ (fun g' hA => by have := (HO3.out.ge hA).1; show g' ≠ w.heap.size; omega) (.slice A3 n3 c3)
            exact ⟨_, _, _, _, _, _, rfl, ho3.weaken (by omega), okB_mv Hv8.out, hr3, by omega, hg3⟩
        · have hbf : (f == 0) = false := by simpa using hf
          clear hf
          obtain ⟨v1, v2, v3, v4⟩ := (Bd.okB_iff s' cs).1 Hv.out
          have hlcs := Ho.out.1
          have Hns : Hid (((n : Nat) : Int) = s' * s') := Lib.hid (by rw [← v3, hlcs])
          clear v3 v4 hlcs
          have t0 := X6.out.cell0
          have t1 := X6.out.cell1
          have t2 := X6.out.lt
          go_upto_region 17 with (fail)
          go_region_with (first | (go_at_call 101; refine (r_pick B g (q + 2 + 1) _ _ (by exact Hr.out) (by omega)).mono ?_; rintro e yp ⟨kk, rfl, kk1, kk2, hr, hg⟩; have hgw : y7.grownBy yp (some g) := ⟨hg.os, hg.tape, hg.output, hg.size, hg.block⟩; have zp := hgw.size; have HX6 := Lib.hid (X6.out.grown hgw (fun e => by have := Option.some.inj e; omega)); have HX2 := Lib.hid (X2.out.grown hgw (fun e => by have := Option.some.inj e; omega)); have u0 := HX6.out.cell0; have u1 := HX6.out.cell1; have u2 := HX6.out.lt; have HO := Lib.hid (Ho.out.kept hgw (fun g' hA e => by have := (Ho.out.ge hA).1; have := Option.some.inj e; omega)); have HR := Lib.hid hr; have HG := Lib.hid (gtrans Hg.out hgw); have kk3 : kk < 8 := (by omega); clear hr hg hgw kk2) | (go_at_call 107; refine (s_transformBoard s' kk _ yp.heap.size _ _ _ cs (by exact HO.out.ints) ?_ v1 v2 Hns.out kk1 kk3).mono ?_; (show yp.heap.size ≤ yp.heap.size; omega); rintro e yt ⟨A3, n3, c3, rfl, ho, hb⟩; have hbw : Below yp.heap.size yp yt := ⟨hb.os, hb.tape, hb.output, hb.size, hb.block⟩; have HX2t := Lib.hid (HX2.out.below hbw HX2.out.lt); have u3 := (HX6.out.below hbw HX6.out.lt).cell0; have u4 := (HX6.out.below hbw HX6.out.lt).cell1; have r0 := HX2t.out.cell0; have r1 := HX2t.out.cell1; have r2 := HX2t.out.frozen 0; have r3 := HX2t.out.frozen 1; have r4 := HX2t.out.lt; have HO3 : Hid (Own yt yp.heap.size A3 n3 c3 (Bd.mv s' kk cs)) := Lib.hid ho; have HRt := Lib.hid (HR.out.below hbw HR.out.lt); have HGt := Lib.hid (gtrans HG.out (gbelow (some g) hbw (Nat.le_refl _))); clear ho hb hbw))
          all_goals go_wp2_with fail
          all_goals
            have k0 := (HX2t.out.set0 s').cell0
            have k1 := ((HX2t.out.set0 s').set1 (.slice A3 n3 c3)).cell1
            refine bodyPost_ret (v := .agg #[.int .i64 s', .slice A3 n3 c3]) (by simp [results, Try.results100, go_sem, k0, k1]) rfl ?_
            have hBg := HRt.out.1
            have hr3 := (HRt.out.far ⟨w.heap.size, 0, none⟩ (by show g ≠ w.heap.size; omega) (by show B ≤ w.heap.size; omega) (.int .i64 s')).far ⟨w.heap.size, 1, none⟩ (by show g ≠ w.heap.size; omega) (by show B ≤ w.heap.size; omega) (.slice A3 n3 c3)
            have hg3 := gset (gset HGt.out ⟨w.heap.size, 0, none⟩ (Nat.le_refl _) (.int .i64 s')) ⟨w.heap.size, 1, none⟩ (Nat.le_refl _) (.slice A3 n3 c3)
            have ho3 := (HO3.out.far ⟨w.heap.size, 0, none⟩ (fun g' hA => by have := (HO3.out.ge hA).1; show g' ≠ w.heap.size; omega) (.int .i64 s')).far ⟨w.heap.size, 1, none⟩ (fun g' hA => by have := (HO3.out.ge hA).1; show g' ≠ w.heap.size; omega) (.slice A3 n3 c3)
            exact ⟨_, _, _, _, _, _, rfl, ho3.weaken (by omega), okB_mv Hv.out, hr3, by omega, hg3⟩
    · have e1 : (x0 == 1) = false := by simpa using h1
      by_cases h2 : x0 = 2
      · subst h2
        clear k1 k2 h0 h1 e0 e1
        go_wp2_with fail
        refine (r_corners _).mono ?_
        rintro e y2 ⟨rfl, hN, hb⟩
        have X2 := Lib.hid (X2.out.below hb X2.out.lt)
        have Hg := Lib.hid (gtrans Hg.out (gbelow (some g) hb (Nat.le_refl _)))
        have Hrl := Hr.out.lt
        have Hr := Lib.hid (Hr.out.below hb Hr.out.lt)
        have HN := Lib.hid hN
        have z3 := hb.size
        clear hN hb
        have zy : y.heap.size < y2.heap.size := by
          obtain ⟨S, h1, _⟩ := HN.out 0 (by omega)
          exact World.block_lt_of_cell? _ _ h1
        go_wp2_with fail
        refine (r_pick B g (q + 1) _ _ Hr.out (by omega)).mono ?_
        rintro e y3 ⟨j, rfl, j1, j2, hr, hg⟩
        obtain ⟨j, rfl⟩ := Int.eq_ofNat_of_zero_le j1
        have hj9 : j < 9 := by omega
        obtain ⟨S, hS1, hS2⟩ := HN.out j hj9
        have hc := (World.cell?_of_block (w' := y3) (w := y2) (a := ⟨y.heap.size, j, none⟩) (hg.block y.heap.size zy (by intro e; have := Option.some.inj e; omega))).trans hS1
        have X2 := Lib.hid (X2.out.grown hg (fun e => by have := Option.some.inj e; omega))
        have Hg := Lib.hid (gtrans Hg.out hg)
        have Hr := Lib.hid hr
        have z4 := hg.size
        have hj9' : (j : Int) < 9 := by omega
        clear hr hg hS1 HN j2
        go_wp2_with fail
        refine (s_ParseBoard S _ (by omega)).mono ?_
        rintro e y4 ⟨s', A, n, c, cs, ok, rfl, hwhat, hb⟩
        have X2 := Lib.hid (X2.out.below hb X2.out.lt)
        have Hg := Lib.hid (gtrans Hg.out (gbelow (some g) hb (Nat.le_refl _)))
        have Hr := Lib.hid (Hr.out.below hb Hr.out.lt)
        have Hwhat := Lib.hid hwhat
        have z5 := hb.size
        clear hwhat hb hc
        go_upto_region 13 with (fail)
        obtain ⟨y5, hy5, hb5, z6, z7⟩ := new_box y4 (.cells #[.int .i64 s', .slice A n c] 25)
        have X6 : Hid (Bx 25 y5 y4.heap.size s' (.slice A n c)) := Lib.hid (by rw [hy5]; exact Bx.new _ _ _ _)
        rw [← hy5]
        clear hy5
        have X2 := Lib.hid (X2.out.below hb5 X2.out.lt)
        have Hr := Lib.hid (Hr.out.below hb5 Hr.out.lt)
        have Hg := Lib.hid (gtrans Hg.out (gbelow (some g) hb5 (Nat.le_refl _)))
        cases ok with
        | false =>
          clear hb5 Hwhat
          go_wp2_with fail
          refine (s_new 3 _).mono ?_
          rintro e y6 ⟨A6, n6, c6, rfl, ho, hb⟩
          have hs1 : newS 3 = 3 := rfl
          have hc1 : newCs 3 = List.replicate (3 * 3 : Int).toNat 0 := rfl
          rw [hc1] at ho
          rw [hs1]
          have X2 := Lib.hid (X2.out.below hb X2.out.lt)
          have Hg := Lib.hid (gtrans Hg.out (gbelow (some g) hb (Nat.le_refl _)))
          have Hr := Lib.hid (Hr.out.below hb Hr.out.lt)
          have Ho := Lib.hid ho
          clear ho hb hs1 hc1
          have K0 := Lib.hid ((X2.out.set0 3).cell0)
          have K1 := Lib.hid (((X2.out.set0 3).set1 (.slice A6 n6 c6)).cell1)
          have r0 := X2.out.cell0
          have r1 := X2.out.cell1
          have r2 := X2.out.frozen 0
          have r3 := X2.out.frozen 1
          have r4 := X2.out.lt
          have hBg := Hr.out.1
          have Hr3 := Lib.hid ((Hr.out.far ⟨w.heap.size, 0, none⟩ (by show g ≠ w.heap.size; omega) (by show B ≤ w.heap.size; omega) (.int .i64 3)).far ⟨w.heap.size, 1, none⟩ (by show g ≠ w.heap.size; omega) (by show B ≤ w.heap.size; omega) (.slice A6 n6 c6))
          have Hg3 := Lib.hid (gset (gset Hg.out ⟨w.heap.size, 0, none⟩ (Nat.le_refl _) (.int .i64 3)) ⟨w.heap.size, 1, none⟩ (Nat.le_refl _) (.slice A6 n6 c6))
          have Ho3 := Lib.hid ((Ho.out.far ⟨w.heap.size, 0, none⟩ (fun g' hA => by have := (Ho.out.ge hA).1; show g' ≠ w.heap.size; omega) (.int .i64 3)).far ⟨w.heap.size, 1, none⟩ (fun g' hA => by have := (Ho.out.ge hA).1; show g' ≠ w.heap.size; omega) (.slice A6 n6 c6))
          go_wp2_with fail
          have k0 := K0.out
          have k1 := K1.out
          refine bodyPost_ret (v := .agg #[.int .i64 3, .slice A6 n6 c6]) (by simp [results, Try.results100, go_sem, k0, k1]) rfl ?_
          exact ⟨_, _, _, _, _, _, rfl, Ho3.out.weaken (by omega), okB_new (by omega) (by omega), Hr3.out, by omega, Hg3.out⟩
        | true =>
          obtain ⟨ho, hv, _⟩ := Hwhat.out rfl
          have Ho := Lib.hid (ho.below hb5)
          have Hv := Lib.hid hv
          have Hra := Lib.hid (fun g' (hA : A = some ⟨g', 0, none⟩) => (ho.ge hA).2)
          clear Hwhat ho hv hb5
          go_wp2_with fail
          refine (r_pick B g (q + 2) _ _ Hr.out (by omega)).mono ?_
          rintro e y7 ⟨f, rfl, f1, f2, hr, hg⟩
          have X2 := Lib.hid (X2.out.grown hg (fun e => by have := Option.some.inj e; omega))
          have X6 := Lib.hid (X6.out.grown hg (fun e => by have := Option.some.inj e; omega))
          have Ho := Lib.hid (Ho.out.kept hg (fun g' hA e => by have := (Ho.out.ge hA).1; have := Option.some.inj e; omega))
          have Hg := Lib.hid (gtrans Hg.out hg)
          have Hr := Lib.hid hr
          have z8 := hg.size
          clear hr hg f2
          by_cases hf : f = 0
          · have hbf : (f == 0) = true := by simpa using hf
            clear hf
            have t0 := X6.out.cell0
            have t1 := X6.out.cell1
            have t2 := X6.out.lt
            go_wp2_with fail
            refine (s_invertBoard s' _ _ _ n c cs Ho.out.ints (Nat.le_refl _) (by have := Ho.out.1; obtain ⟨a1, a2, a3, _⟩ := (Bd.okB_iff s' cs).1 Hv.out; have := Pt.sq_bd s' a1 a2; omega) ((Bd.okB_iff s' cs).1 Hv.out).2.2.2).mono ?_
            rintro e y8 ⟨A8, n8, c8, rfl, ho8, hb⟩
            have X2 := Lib.hid (X2.out.below hb X2.out.lt)
            have X6 := Lib.hid (X6.out.below hb X6.out.lt)
            have Hg := Lib.hid (gtrans Hg.out (gbelow (some g) hb (Nat.le_refl _)))
            have Hr := Lib.hid (Hr.out.below hb Hr.out.lt)
            have Ho8 := Lib.hid ho8
            have Hv8 := Lib.hid (okB_oth Hv.out)
            have z9 := hb.size
            clear ho8 hb t0 t1 t2
            have t0 := X6.out.cell0
            have t1 := X6.out.cell1
            have t2 := X6.out.lt
            have t3 := X6.out.frozen 0
            have t4 := X6.out.frozen 1
            go_upto_region 17 with (fail)
            obtain ⟨y9, hy9⟩ : ∃ y9, y9 = (y8.setCell ⟨y4.heap.size, 0, none⟩ (.int .i64 s')).setCell ⟨y4.heap.size, 1, none⟩ (.slice A8 n8 c8) := ⟨_, rfl⟩
            have es : y9.heap.size = y8.heap.size := by rw [hy9]; simp [World.setCell]
            have hBg := Hr.out.1
            have hgl := Hr.out.lt
            have X2 : Hid (Bx 25 y9 w.heap.size 0 (.slice none 0 0)) := Lib.hid (by rw [hy9]; exact (X2.out.far (p := ⟨y4.heap.size, 0, none⟩) (by show w.heap.size ≠ y4.heap.size; omega) (.int .i64 s')).far (p := ⟨y4.heap.size, 1, none⟩) (by show w.heap.size ≠ y4.heap.size; omega) (.slice A8 n8 c8))
            have X6 : Hid (Bx 25 y9 y4.heap.size s' (.slice A8 n8 c8)) := Lib.hid (by rw [hy9]; exact (X6.out.set0 s').set1 (.slice A8 n8 c8))
            have Ho8 : Hid (Own y9 y7.heap.size A8 n8 c8 (othCs cs)) := Lib.hid (by rw [hy9]; exact (Ho8.out.far ⟨y4.heap.size, 0, none⟩ (fun g' hA => by have := (Ho8.out.ge hA).1; show g' ≠ y4.heap.size; omega) (.int .i64 s')).far ⟨y4.heap.size, 1, none⟩ (fun g' hA => by have := (Ho8.out.ge hA).1; show g' ≠ y4.heap.size; omega) (.slice A8 n8 c8))
            have Hr : Hid (Rdr y9 B g (q + 2 + 1)) := Lib.hid (by rw [hy9]; exact (Hr.out.far ⟨y4.heap.size, 0, none⟩ (by show g ≠ y4.heap.size; omega) (by show B ≤ y4.heap.size; omega) (.int .i64 s')).far ⟨y4.heap.size, 1, none⟩ (by show g ≠ y4.heap.size; omega) (by show B ≤ y4.heap.size; omega) (.slice A8 n8 c8))
            have Hg : Hid (w.grownBy y9 (some g)) := Lib.hid (by rw [hy9]; exact gset (gset Hg.out ⟨y4.heap.size, 0, none⟩ (by show w.heap.size ≤ y4.heap.size; omega) (.int .i64 s')) ⟨y4.heap.size, 1, none⟩ (by show w.heap.size ≤ y4.heap.size; omega) (.slice A8 n8 c8))
            rw [← hy9]
            clear hy9 t0 t1 t2 t3 t4
            obtain ⟨v1, v2, v3, v4⟩ := (Bd.okB_iff s' (othCs cs)).1 Hv8.out
            have hlcs := Ho8.out.1
            have Hns : Hid (((n8 : Nat) : Int) = s' * s') := Lib.hid (by rw [← v3, hlcs])
            clear v3 v4 hlcs
            have t0 := X6.out.cell0
            have t1 := X6.out.cell1
            have t2 := X6.out.lt
            go_upto_region 17 with (fail)
            go_region_with (first | (go_at_call 101; refine (r_pick B g (q + 2 + 1) _ _ (by exact Hr.out) (by omega)).mono ?_; rintro e yp ⟨kk, rfl, kk1, kk2, hr, hg⟩; have hgw : y9.grownBy yp (some g) := ⟨hg.os, hg.tape, hg.output, hg.size, hg.block⟩; have zp := hgw.size; have HX6 := Lib.hid (X6.out.grown hgw (fun e => by have := Option.some.inj e; omega)); have HX2 := Lib.hid (X2.out.grown hgw (fun e => by have := Option.some.inj e; omega)); have u0 := HX6.out.cell0; have u1 := HX6.out.cell1; have u2 := HX6.out.lt; have HO := Lib.hid (Ho8.out.kept hgw (fun g' hA e => by have := (Ho8.out.ge hA).1; have := Option.some.inj e; omega)); have HR := Lib.hid hr; have HG := Lib.hid (gtrans Hg.out hgw); have kk3 : kk < 8 := (by omega); clear hr hg hgw kk2) | (go_at_call 107; refine (s_transformBoard s' kk _ yp.heap.size _ _ _ (othCs cs) (by exact HO.out.ints) ?_ v1 v2 Hns.out kk1 kk3).mono ?_; (show yp.heap.size ≤ yp.heap.size; omega); rintro e yt ⟨A3, n3, c3, rfl, ho, hb⟩; have hbw : Below yp.heap.size yp yt := ⟨hb.os, hb.tape, hb.output, hb.size, hb.block⟩; have HX2t := Lib.hid (HX2.out.below hbw HX2.out.lt); have u3 := (HX6.out.below hbw HX6.out.lt).cell0; have u4 := (HX6.out.below hbw HX6.out.lt).cell1; have r0 := HX2t.out.cell0; have r1 := HX2t.out.cell1; have r2 := HX2t.out.frozen 0; have r3 := HX2t.out.frozen 1; have r4 := HX2t.out.lt; have HO3 : Hid (Own yt yp.heap.size A3 n3 c3 (Bd.mv s' kk (othCs cs))) := Lib.hid ho; have HRt := Lib.hid (HR.out.below hbw HR.out.lt); have HGt := Lib.hid (gtrans HG.out (gbelow (some g) hbw (Nat.le_refl _))); clear ho hb hbw))
            all_goals go_wp2_with fail
            all_goals
              have k0 := (HX2t.out.set0 s').cell0
              have k1 := ((HX2t.out.set0 s').set1 (.slice A3 n3 c3)).cell1
              refine bodyPost_ret (v := .agg #[.int .i64 s', .slice A3 n3 c3]) (by simp [results, Try.results100, go_sem, k0, k1]) rfl ?_
              have hBg := HRt.out.1
              have hr3 := (HRt.out.far ⟨w.heap.size, 0, none⟩ (by show g ≠ w.heap.size; omega) (by show B ≤ w.heap.size; omega) (.int .i64 s')).far ⟨w.heap.size, 1, none⟩ (by show g ≠ w.heap.size; omega) (by show B ≤ w.heap.size; omega) (.slice A3 n3 c3)
              have hg3 := gset (gset HGt.out ⟨w.heap.size, 0, none⟩ (Nat.le_refl _) (.int .i64 s')) ⟨w.heap.size, 1, none⟩ (Nat.le_refl _) (.slice A3 n3 c3)
              have ho3 := (HO3.out.far ⟨w.heap.size, 0, none⟩ (fun g' hA => by have := (HO3.out.ge hA).1; show g' ≠ w.heap.size; omega) (.int .i64 s')).far ⟨w.heap.size, 1, none⟩ (fun g' hA => by have := (HO3.out.ge hA).1; show g' ≠ w.heap.size; omega) (.slice A3 n3 c3)
              exact ⟨_, _, _, _, _, _, rfl, ho3.weaken (by omega), okB_mv Hv8.out, hr3, by omega, hg3⟩
          · have hbf : (f == 0) = false := by simpa using hf
            clear hf
            obtain ⟨v1, v2, v3, v4⟩ := (Bd.okB_iff s' cs).1 Hv.out
            have hlcs := Ho.out.1
            have Hns : Hid (((n : Nat) : Int) = s' * s') := Lib.hid (by rw [← v3, hlcs])
            clear v3 v4 hlcs
            have t0 := X6.out.cell0
            have t1 := X6.out.cell1
            have t2 := X6.out.lt
            go_upto_region 17 with (fail)
            go_region_with (first | (go_at_call 101; refine (r_pick B g (q + 2 + 1) _ _ (by exact Hr.out) (by omega)).mono ?_; rintro e yp ⟨kk, rfl, kk1, kk2, hr, hg⟩; have hgw : y7.grownBy yp (some g) := ⟨hg.os, hg.tape, hg.output, hg.size, hg.block⟩; have zp := hgw.size; have HX6 := Lib.hid (X6.out.grown hgw (fun e => by have := Option.some.inj e; omega)); have HX2 := Lib.hid (X2.out.grown hgw (fun e => by have := Option.some.inj e; omega)); have u0 := HX6.out.cell0; have u1 := HX6.out.cell1; have u2 := HX6.out.lt; have HO := Lib.hid (Ho.out.kept hgw (fun g' hA e => by have := (Ho.out.ge hA).1; have := Option.some.inj e; omega)); have HR := Lib.hid hr; have HG := Lib.hid (gtrans Hg.out hgw); have kk3 : kk < 8 := (by omega); clear hr hg hgw kk2) | (go_at_call 107; refine (s_transformBoard s' kk _ yp.heap.size _ _ _ cs (by exact HO.out.ints) ?_ v1 v2 Hns.out kk1 kk3).mono ?_; (show yp.heap.size ≤ yp.heap.size; omega); rintro e yt ⟨A3, n3, c3, rfl, ho, hb⟩; have hbw : Below yp.heap.size yp yt := ⟨hb.os, hb.tape, hb.output, hb.size, hb.block⟩; have HX2t := Lib.hid (HX2.out.below hbw HX2.out.lt); have u3 := (HX6.out.below hbw HX6.out.lt).cell0; have u4 := (HX6.out.below hbw HX6.out.lt).cell1; have r0 := HX2t.out.cell0; have r1 := HX2t.out.cell1; have r2 := HX2t.out.frozen 0; have r3 := HX2t.out.frozen 1; have r4 := HX2t.out.lt; have HO3 : Hid (Own yt yp.heap.size A3 n3 c3 (Bd.mv s' kk cs)) := Lib.hid ho; have HRt := Lib.hid (HR.out.below hbw HR.out.lt); have HGt := Lib.hid (gtrans HG.out (gbelow (some g) hbw (Nat.le_refl _))); clear ho hb hbw))
            all_goals go_wp2_with fail
            all_goals
              have k0 := (HX2t.out.set0 s').cell0
              have k1 := ((HX2t.out.set0 s').set1 (.slice A3 n3 c3)).cell1
              refine bodyPost_ret (v := .agg #[.int .i64 s', .slice A3 n3 c3]) (by simp [results, Try.results100, go_sem, k0, k1]) rfl ?_
              have hBg := HRt.out.1
              have hr3 := (HRt.out.far ⟨w.heap.size, 0, none⟩ (by show g ≠ w.heap.size; omega) (by show B ≤ w.heap.size; omega) (.int .i64 s')).far ⟨w.heap.size, 1, none⟩ (by show g ≠ w.heap.size; omega) (by show B ≤ w.heap.size; omega) (.slice A3 n3 c3)
              have hg3 := gset (gset HGt.out ⟨w.heap.size, 0, none⟩ (Nat.le_refl _) (.int .i64 s')) ⟨w.heap.size, 1, none⟩ (Nat.le_refl _) (.slice A3 n3 c3)
              have ho3 := (HO3.out.far ⟨w.heap.size, 0, none⟩ (fun g' hA => by have := (HO3.out.ge hA).1; show g' ≠ w.heap.size; omega) (.int .i64 s')).far ⟨w.heap.size, 1, none⟩ (fun g' hA => by have := (HO3.out.ge hA).1; show g' ≠ w.heap.size; omega) (.slice A3 n3 c3)
              exact ⟨_, _, _, _, _, _, rfl, ho3.weaken (by omega), okB_mv Hv.out, hr3, by omega, hg3⟩
      · have e2 : (x0 == 2) = false := by simpa using h2
        clear h0 h1 h2
        go_wp2_with fail
        refine (r_smallSize B g (q + 1) _ Hr.out (by omega)).mono ?_
        rintro e y2 ⟨s, rfl, ⟨s1, s2⟩, hr, hg⟩
        have X2 := Lib.hid (X2.out.grown hg (fun e => by have := Option.some.inj e; omega))
        have Hg := Lib.hid (gtrans Hg.out hg)
        have Hr := Lib.hid hr
        have z3 := X2.out.lt
        clear hr hg
        go_wp2_with fail
        refine (r_played s B g (q + 1 + 1) _ Hr.out (by omega) s1 s2).mono ?_
        rintro e y3 ⟨s', A, n, c, cs, q', rfl, ho, hv, hr, hq', hg⟩
        have X2 := Lib.hid (X2.out.grown hg (fun e => by have := Option.some.inj e; omega))
        have Hg := Lib.hid (gtrans Hg.out hg)
        have Hr := Lib.hid hr
        have Ho := Lib.hid ho
        have Hv := Lib.hid hv
        have z4 := X2.out.lt
        clear hr hg ho hv
        have K0 := Lib.hid ((X2.out.set0 s').cell0)
        have K1 := Lib.hid (((X2.out.set0 s').set1 (.slice A n c)).cell1)
        have r0 := X2.out.cell0
        have r1 := X2.out.cell1
        have r2 := X2.out.frozen 0
        have r3 := X2.out.frozen 1
        have r4 := X2.out.lt
        have hBg := Hr.out.1
        have Hr3 := Lib.hid ((Hr.out.far ⟨w.heap.size, 0, none⟩ (by show g ≠ w.heap.size; omega) (by show B ≤ w.heap.size; omega) (.int .i64 s')).far ⟨w.heap.size, 1, none⟩ (by show g ≠ w.heap.size; omega) (by show B ≤ w.heap.size; omega) (.slice A n c))
        have Hg3 := Lib.hid (gset (gset Hg.out ⟨w.heap.size, 0, none⟩ (Nat.le_refl _) (.int .i64 s')) ⟨w.heap.size, 1, none⟩ (Nat.le_refl _) (.slice A n c))
        have Ho3 := Lib.hid ((Ho.out.far ⟨w.heap.size, 0, none⟩ (fun g' hA => by have := (Ho.out.ge hA).1; show g' ≠ w.heap.size; omega) (.int .i64 s')).far ⟨w.heap.size, 1, none⟩ (fun g' hA => by have := (Ho.out.ge hA).1; show g' ≠ w.heap.size; omega) (.slice A n c))
        go_wp2_with fail
        have k0 := K0.out
        have k1 := K1.out
        refine bodyPost_ret (v := .agg #[.int .i64 s', .slice A n c]) (by simp [results, Try.results100, go_sem, k0, k1]) rfl ?_
        exact ⟨_, _, _, _, _, _, rfl, Ho3.out.weaken (by omega), Hv.out, Hr3.out, by omega, Hg3.out⟩
end Go.Proofs.Ytfpibldknjcehaa

namespace Go.Proofs.Ytfpibldknjcehaa
set_option maxRecDepth 100000
open Go.RowKit

/-- The slice at A of n elements reads as the ints xs, and its memory lies from block lo on. -/
def IntsF (w : World) (lo : Nat) (A : Option Addr) (n : Nat) (xs : List Int) : Prop :=
  xs.length = n ∧ (n = 0 ∨ ∃ b o, A = some ⟨b, o, none⟩ ∧ lo ≤ b ∧ b < w.heap.size ∧ ∀ j, j < n → w.cell? ⟨b, o + j, none⟩ = some (.int .i64 (xs.getD j 0)))
theorem IntsF.ints {w : World} {lo n : Nat} {A : Option Addr} {xs : List Int} (h : IntsF w lo A n xs) : Ints w w.heap.size A n xs := by
  refine ⟨h.1, ?_⟩
  rcases h.2 with h | ⟨b, o, hA, _, hb, hc⟩
  · exact .inl h
  · exact .inr ⟨b, o, hA, hb, hc⟩
theorem IntsF.of {w : World} {lo n c : Nat} {A : Option Addr} {xs : List Int} (h : Own w lo A n c xs) : IntsF w lo A n xs := by
  refine ⟨h.1, ?_⟩
  rcases h.ints.2 with h0 | ⟨b, o, hA, hb, hc⟩
  · exact .inl h0
  · by_cases hn : n = 0
    · exact .inl hn
    · obtain ⟨g, cap, hv, hg, hlt⟩ := World.ownsRow.form h.2 (by omega)
      have hA2 : A = some ⟨g, 0, none⟩ := by injection hv
      have : b = g := by rw [hA] at hA2; injection hA2 with e; injection e
      exact .inr ⟨b, o, hA, by omega, hb, hc⟩
theorem IntsF.weaken {w : World} {lo lo' n : Nat} {A : Option Addr} {xs : List Int} (h : IntsF w lo A n xs) (hl : lo' ≤ lo) : IntsF w lo' A n xs := by
  refine ⟨h.1, ?_⟩
  rcases h.2 with h | ⟨b, o, hA, h1, h2, hc⟩
  · exact .inl h
  · exact .inr ⟨b, o, hA, by omega, h2, hc⟩
theorem IntsF.far {w : World} {lo n : Nat} {A : Option Addr} {xs : List Int} (h : IntsF w lo A n xs) (p : Addr) (hp : p.block < lo) (u : Value) : IntsF (w.setCell p u) lo A n xs := by
  refine ⟨h.1, ?_⟩
  rcases h.2 with h | ⟨b, o, hA, h1, h2, hc⟩
  · exact .inl h
  · exact .inr ⟨b, o, hA, h1, by simpa [World.setCell] using h2, fun j hj => (World.cell?_of_block (w' := w.setCell p u) (w := w) (a := ⟨b, o + j, none⟩) (Below.heap_setCell w p u b (by omega))).trans (hc j hj)⟩
theorem IntsF.grown {w w' : World} {lo n g : Nat} {A : Option Addr} {xs : List Int} (h : IntsF w lo A n xs) (hg : w.grownBy w' (some g)) (hl : g < lo) : IntsF w' lo A n xs := by
  refine ⟨h.1, ?_⟩
  rcases h.2 with h | ⟨b, o, hA, h1, h2, hc⟩
  · exact .inl h
  · exact .inr ⟨b, o, hA, h1, Nat.lt_of_lt_of_le h2 hg.size, fun j hj => (World.cell?_of_block (w' := w') (w := w) (a := ⟨b, o + j, none⟩) (hg.block b h2 (fun e => by have := Option.some.inj e; omega))).trans (hc j hj)⟩
theorem IntsF.below {w w' : World} {lo n : Nat} {A : Option Addr} {xs : List Int} (h : IntsF w lo A n xs) (hb : Below w.heap.size w w') : IntsF w' lo A n xs := by
  refine ⟨h.1, ?_⟩
  rcases h.2 with h | ⟨b, o, hA, h1, h2, hc⟩
  · exact .inl h
  · exact .inr ⟨b, o, hA, h1, Nat.lt_of_lt_of_le h2 hb.size, fun j hj => (World.cell?_of_block (w' := w') (w := w) (a := ⟨b, o + j, none⟩) (hb.block b h2)).trans (hc j hj)⟩
theorem IntsF.tail {w : World} {lo n b o : Nat} {xs : List Int} (h : IntsF w lo (some ⟨b, o, none⟩) (n + 1) xs) : IntsF w lo (some ⟨b, o + 1, none⟩) n xs.tail := by
  refine ⟨by rw [List.length_tail, h.1]; rfl, ?_⟩
  rcases h.2 with h0 | ⟨b', o', hA, h1, h2, hc⟩
  · omega
  · injection hA with hA
    injection hA with e1 e2
    subst e1; subst e2
    refine .inr ⟨b, o + 1, rfl, h1, h2, fun j hj => ?_⟩
    have := hc (j + 1) (by omega)
    rw [show o + 1 + j = o + (j + 1) by omega, this]
    cases xs <;> simp [List.getD_eq_getElem?_getD]

theorem Own.cap_le {w : World} {B n c : Nat} {A : Option Addr} {xs : List Int} (h : Own w B A n c xs) : n ≤ c := by
  rcases h.2.2 with ⟨e, _⟩ | ⟨g, cap, cur, e, _, _, h, _⟩
  · injection e with _ e1 e2; omega
  · injection e with _ _ e2; omega

/-- A board that a draw made: of any size from 0 to 8, any cells, at most 49. -/
def DrawnA (w : World) (B g lo q : Nat) (e : Ending) (w' : World) : Prop :=
  ∃ (s : Int) (A : Option Addr) (n c : Nat) (cs : List Int) (q' : Nat), e = .returned (.agg #[.int .i64 s, .slice A n c]) ∧ IntsF w' lo A n cs ∧ n ≤ 49 ∧ 0 ≤ s ∧ s ≤ 8 ∧ Rdr w' B g q' ∧ q' ≤ q ∧ w.grownBy w' (some g)

set_option maxRecDepth 100000 in
set_option maxHeartbeats 8000000 in
theorem r_any (B g q : Nat) (w : World) (h : Rdr w B g q) (hq : q ≤ 1000000000) :
    Calls Try.prog 56 #[.pointer (some ⟨g, 0, none⟩)] w fun e w' => DrawnA w B g w.heap.size (q + 202) e w' := by
  have hlt := h.lt
  have hb1 : Below w.heap.size w (w.alloc (.cells #[.int .i64 0, .slice none 0 0] 25)) := (Below.refl _ _).alloc (Nat.le_refl _) _
  have X2 := Lib.hid (Bx.new 25 w 0 (.slice none 0 0))
  have Hr := Lib.hid (h.below hb1 hlt)
  have Hb := Lib.hid hb1
  have hsz : (w.alloc (.cells #[.int .i64 0, .slice none 0 0] 25)).heap.size = w.heap.size + 1 := by simp
  have Hsz := Lib.hid hsz
  clear h hb1 hsz
  go_enter Try.func56, Try.ntmps56
  go_wp2_with fail
  refine (r_random B g q _ Hr.out (by omega)).mono ?_
  rintro e y ⟨s, A, n, c, cs, q1, rfl, ho, hv, hr, hq1, hg⟩
  rw [Hsz.out] at ho
  have X2 := Lib.hid (X2.out.grown hg (fun e => by have := Option.some.inj e; omega))
  have Hg := Lib.hid (gtrans (gbelow (some g) Hb.out (Nat.le_refl _)) hg)
  have Hr := Lib.hid hr
  obtain ⟨s1, s2, hsn, _⟩ := (Bd.okB_iff s cs).1 hv
  have hsq := Pt.sq_bd s s1 s2
  have hl := ho.1
  have hn49 : n ≤ 49 := by omega
  have hn1 : 1 ≤ n := by omega
  have z2 := X2.out.lt
  obtain ⟨ga, cap, hvv, _⟩ := World.ownsRow.form ho.2 (by omega)
  have hA : A = some ⟨ga, 0, none⟩ := by injection hvv
  subst hA
  have hga := ho.ge rfl
  have Ho := Lib.hid ho
  have hcap : n ≤ c := ho.cap_le
  clear hr hg hsn hl hv ho Hb hvv
  go_upto_region 2 with (fail)
  obtain ⟨y3, hy3, hb3, z3, z4⟩ := new_box y (.cells #[.int .i64 s, .slice (some ⟨ga, 0, none⟩) n c] 25)
  have X3 : Hid (Bx 25 y3 y.heap.size s (.slice (some ⟨ga, 0, none⟩) n c)) := Lib.hid (by rw [hy3]; exact Bx.new _ _ _ _)
  rw [← hy3]
  clear hy3
  have X2 := Lib.hid (X2.out.below hb3 X2.out.lt)
  have Hr := Lib.hid (Hr.out.below hb3 Hr.out.lt)
  have Ho := Lib.hid (Ho.out.below hb3)
  have Hg := Lib.hid (gtrans Hg.out (gbelow (some g) hb3 (Nat.le_refl _)))
  clear hb3
  go_wp2_with fail
  refine (r_pick B g q1 _ _ Hr.out (by omega)).mono ?_
  rintro e y4 ⟨x0, rfl, k1, k2, hr, hg⟩
  have X2 := Lib.hid (X2.out.grown hg (fun e => by have := Option.some.inj e; omega))
  have X3 := Lib.hid (X3.out.grown hg (fun e => by have := Option.some.inj e; omega))
  have Ho := Lib.hid (Ho.out.kept hg (fun g' hA e => by have := (Ho.out.ge hA).1; have := Option.some.inj e; omega))
  have Hg := Lib.hid (gtrans Hg.out hg)
  have Hr := Lib.hid hr
  have z5 := X3.out.lt
  clear hr hg
  by_cases h0 : x0 = 0
  · subst h0
    clear k1 k2
    have t0 := X3.out.cell0
    have t1 := X3.out.cell1
    have t2 := X3.out.lt
    have hlt4 := Hr.out.lt
    go_wp2_with fail
    have hl := Ints.lit y4 3 [0, 8, s + 1]
    refine (r_one B g (q1 + 1) _ _ [0, 8, s + 1] _ _ (Hr.out.below ((Below.refl _ _).alloc (Nat.le_refl _) _) Hr.out.lt) (by omega) hl (by simp) (by simp) (by simp) (by rintro b o e; injection e with e; injection e; omega)).mono ?_
    rintro e y5 ⟨x, rfl, hx, hr, hg⟩
    have hx8 : 0 ≤ x ∧ x ≤ 8 := by simp at hx; omega
    have hg5 := gtrans (World.grownBy_alloc y4 _ (some g)) hg
    have X2 := Lib.hid (X2.out.grown hg5 (fun e => by have := Option.some.inj e; omega))
    have X3 := Lib.hid (X3.out.grown hg5 (fun e => by have := Option.some.inj e; omega))
    have Ho := Lib.hid (Ho.out.kept hg5 (fun g' hA e => by have := (Ho.out.ge hA).1; have := Option.some.inj e; omega))
    have Hg := Lib.hid (gtrans Hg.out hg5)
    have Hr := Lib.hid hr
    clear hl hx hg hg5 hr t0 t1 t2
    have t0 := X3.out.cell0
    have t1 := X3.out.cell1
    have t2 := X3.out.lt
    have t3 := X3.out.frozen 0
    go_upto_region 9 with (fail)
    obtain ⟨y6, hy6⟩ : ∃ y6, y6 = y5.setCell ⟨y.heap.size, 0, none⟩ (.int .i64 x) := ⟨_, rfl⟩
    have hBg := Hr.out.1
    have X2 : Hid (Bx 25 y6 w.heap.size 0 (.slice none 0 0)) := Lib.hid (by rw [hy6]; exact X2.out.far (p := ⟨y.heap.size, 0, none⟩) (by show w.heap.size ≠ y.heap.size; omega) _)
    have X3 : Hid (Bx 25 y6 y.heap.size x (.slice (some ⟨ga, 0, none⟩) n c)) := Lib.hid (by rw [hy6]; exact X3.out.set0 x)
    have Ho : Hid (Own y6 (w.heap.size + 1) (some ⟨ga, 0, none⟩) n c cs) := Lib.hid (by rw [hy6]; exact Ho.out.far ⟨y.heap.size, 0, none⟩ (fun g' hA => by injection hA with hA; injection hA; show g' ≠ y.heap.size; omega) _)
    have Hr : Hid (Rdr y6 B g (q1 + 1 + 1)) := Lib.hid (by rw [hy6]; exact Hr.out.far ⟨y.heap.size, 0, none⟩ (by show g ≠ y.heap.size; omega) (by show B ≤ y.heap.size; omega) _)
    have Hg : Hid (w.grownBy y6 (some g)) := Lib.hid (by rw [hy6]; exact gset Hg.out ⟨y.heap.size, 0, none⟩ (by show w.heap.size ≤ y.heap.size; omega) _)
    rw [← hy6]
    clear hy6 t0 t1 t2 t3
    have Hi := Lib.hid (IntsF.of Ho.out)
    have K0 := Lib.hid ((X2.out.set0 x).cell0)
    have K1 := Lib.hid (((X2.out.set0 x).set1 (.slice (some ⟨ga, 0, none⟩) n c)).cell1)
    have t0 := X3.out.cell0
    have t1 := X3.out.cell1
    have t2 := X3.out.lt
    have r0 := X2.out.cell0
    have r1 := X2.out.cell1
    have r2 := X2.out.frozen 0
    have r3 := X2.out.frozen 1
    have r4 := X2.out.lt
    have hBg := Hr.out.1
    have Hr3 := Lib.hid ((Hr.out.far ⟨w.heap.size, 0, none⟩ (by show g ≠ w.heap.size; omega) (by show B ≤ w.heap.size; omega) (.int .i64 x)).far ⟨w.heap.size, 1, none⟩ (by show g ≠ w.heap.size; omega) (by show B ≤ w.heap.size; omega) (.slice (some ⟨ga, 0, none⟩) n c))
    have Hg3 := Lib.hid (gset (gset Hg.out ⟨w.heap.size, 0, none⟩ (Nat.le_refl _) (.int .i64 x)) ⟨w.heap.size, 1, none⟩ (Nat.le_refl _) (.slice (some ⟨ga, 0, none⟩) n c))
    have Hi3 := Lib.hid ((Hi.out.far ⟨w.heap.size, 0, none⟩ (Nat.lt_succ_self _) (.int .i64 x)).far ⟨w.heap.size, 1, none⟩ (Nat.lt_succ_self _) (.slice (some ⟨ga, 0, none⟩) n c))
    go_wp2_with fail
    have k0 := K0.out
    have k1 := K1.out
    refine bodyPost_ret (v := .agg #[.int .i64 x, .slice (some ⟨ga, 0, none⟩) n c]) (by simp [results, Try.results56, go_sem, k0, k1]) rfl ?_
    exact ⟨_, _, _, _, _, _, rfl, Hi3.out.weaken (by omega), by omega, by omega, by omega, Hr3.out, by omega, Hg3.out⟩
  · have e0 : (x0 == 0) = false := by simpa using h0
    by_cases h1 : x0 = 1
    · subst h1
      clear k1 k2 h0 e0
      obtain ⟨m, rfl⟩ : ∃ m, n = m + 1 := ⟨n - 1, by omega⟩
      obtain ⟨d, rfl⟩ : ∃ d, c = d + 1 := ⟨c - 1, by omega⟩
      have t0 := X3.out.cell0
      have t1 := X3.out.cell1
      have t2 := X3.out.lt
      have t3 := X3.out.frozen 1
      by_cases hd : d = 0
      · subst hd
        obtain rfl : m = 0 := by omega
        go_upto_region 9 with (fail)
        obtain ⟨y6, hy6⟩ : ∃ y6, y6 = y4.setCell ⟨y.heap.size, 1, none⟩ (.slice (some ⟨ga, 0, none⟩) 0 0) := ⟨_, rfl⟩
        have hBg := Hr.out.1
        have hgl := Hr.out.lt
        have X2 : Hid (Bx 25 y6 w.heap.size 0 (.slice none 0 0)) := Lib.hid (by rw [hy6]; exact X2.out.far (p := ⟨y.heap.size, 1, none⟩) (by show w.heap.size ≠ y.heap.size; omega) _)
        have X3 : Hid (Bx 25 y6 y.heap.size s (.slice (some ⟨ga, 0, none⟩) 0 0)) := Lib.hid (by rw [hy6]; exact X3.out.set1 _)
        have Ho : Hid (Own y6 (w.heap.size + 1) (some ⟨ga, 0, none⟩) (0 + 1) (0 + 1) cs) := Lib.hid (by rw [hy6]; exact Ho.out.far ⟨y.heap.size, 1, none⟩ (fun g' hA => by injection hA with hA; injection hA; show g' ≠ y.heap.size; omega) _)
        have Hr : Hid (Rdr y6 B g (q1 + 1)) := Lib.hid (by rw [hy6]; exact Hr.out.far ⟨y.heap.size, 1, none⟩ (by show g ≠ y.heap.size; omega) (by show B ≤ y.heap.size; omega) _)
        have Hg : Hid (w.grownBy y6 (some g)) := Lib.hid (by rw [hy6]; exact gset Hg.out ⟨y.heap.size, 1, none⟩ (by show w.heap.size ≤ y.heap.size; omega) _)
        rw [← hy6]
        clear hy6 t0 t1 t2 t3
        have Hi : Hid (IntsF y6 (w.heap.size + 1) (some ⟨ga, 0, none⟩) 0 []) := Lib.hid ⟨rfl, .inl rfl⟩
        have K0 := Lib.hid ((X2.out.set0 s).cell0)
        have K1 := Lib.hid (((X2.out.set0 s).set1 (.slice (some ⟨ga, 0, none⟩) 0 0)).cell1)
        have t0 := X3.out.cell0
        have t1 := X3.out.cell1
        have t2 := X3.out.lt
        have r0 := X2.out.cell0
        have r1 := X2.out.cell1
        have r2 := X2.out.frozen 0
        have r3 := X2.out.frozen 1
        have r4 := X2.out.lt
        have hBg := Hr.out.1
        have Hr3 := Lib.hid ((Hr.out.far ⟨w.heap.size, 0, none⟩ (by show g ≠ w.heap.size; omega) (by show B ≤ w.heap.size; omega) (.int .i64 s)).far ⟨w.heap.size, 1, none⟩ (by show g ≠ w.heap.size; omega) (by show B ≤ w.heap.size; omega) (.slice (some ⟨ga, 0, none⟩) 0 0))
        have Hg3 := Lib.hid (gset (gset Hg.out ⟨w.heap.size, 0, none⟩ (Nat.le_refl _) (.int .i64 s)) ⟨w.heap.size, 1, none⟩ (Nat.le_refl _) (.slice (some ⟨ga, 0, none⟩) 0 0))
        have Hi3 := Lib.hid ((Hi.out.far ⟨w.heap.size, 0, none⟩ (Nat.lt_succ_self _) (.int .i64 s)).far ⟨w.heap.size, 1, none⟩ (Nat.lt_succ_self _) (.slice (some ⟨ga, 0, none⟩) 0 0))
        go_wp2_with fail
        have k0 := K0.out
        have k1 := K1.out
        refine bodyPost_ret (v := .agg #[.int .i64 s, .slice (some ⟨ga, 0, none⟩) 0 0]) (by simp [results, Try.results56, go_sem, k0, k1]) rfl ?_
        exact ⟨_, _, _, _, _, _, rfl, Hi3.out.weaken (by omega), by omega, by omega, by omega, Hr3.out, by omega, Hg3.out⟩
      · have hd' : ¬ (d + 1 = 1) := by omega
        go_upto_region 9 with (fail)
        obtain ⟨y6, hy6⟩ : ∃ y6, y6 = y4.setCell ⟨y.heap.size, 1, none⟩ (.slice (some ⟨ga, 1, none⟩) m d) := ⟨_, rfl⟩
        have hBg := Hr.out.1
        have hgl := Hr.out.lt
        have X2 : Hid (Bx 25 y6 w.heap.size 0 (.slice none 0 0)) := Lib.hid (by rw [hy6]; exact X2.out.far (p := ⟨y.heap.size, 1, none⟩) (by show w.heap.size ≠ y.heap.size; omega) _)
        have X3 : Hid (Bx 25 y6 y.heap.size s (.slice (some ⟨ga, 1, none⟩) m d)) := Lib.hid (by rw [hy6]; exact X3.out.set1 _)
        have Ho : Hid (Own y6 (w.heap.size + 1) (some ⟨ga, 0, none⟩) (m + 1) (d + 1) cs) := Lib.hid (by rw [hy6]; exact Ho.out.far ⟨y.heap.size, 1, none⟩ (fun g' hA => by injection hA with hA; injection hA; show g' ≠ y.heap.size; omega) _)
        have Hr : Hid (Rdr y6 B g (q1 + 1)) := Lib.hid (by rw [hy6]; exact Hr.out.far ⟨y.heap.size, 1, none⟩ (by show g ≠ y.heap.size; omega) (by show B ≤ y.heap.size; omega) _)
        have Hg : Hid (w.grownBy y6 (some g)) := Lib.hid (by rw [hy6]; exact gset Hg.out ⟨y.heap.size, 1, none⟩ (by show w.heap.size ≤ y.heap.size; omega) _)
        rw [← hy6]
        clear hy6 t0 t1 t2 t3
        have Hi := Lib.hid (IntsF.tail (IntsF.of Ho.out))
        have K0 := Lib.hid ((X2.out.set0 s).cell0)
        have K1 := Lib.hid (((X2.out.set0 s).set1 (.slice (some ⟨ga, 1, none⟩) m d)).cell1)
        have t0 := X3.out.cell0
        have t1 := X3.out.cell1
        have t2 := X3.out.lt
        have r0 := X2.out.cell0
        have r1 := X2.out.cell1
        have r2 := X2.out.frozen 0
        have r3 := X2.out.frozen 1
        have r4 := X2.out.lt
        have hBg := Hr.out.1
        have Hr3 := Lib.hid ((Hr.out.far ⟨w.heap.size, 0, none⟩ (by show g ≠ w.heap.size; omega) (by show B ≤ w.heap.size; omega) (.int .i64 s)).far ⟨w.heap.size, 1, none⟩ (by show g ≠ w.heap.size; omega) (by show B ≤ w.heap.size; omega) (.slice (some ⟨ga, 1, none⟩) m d))
        have Hg3 := Lib.hid (gset (gset Hg.out ⟨w.heap.size, 0, none⟩ (Nat.le_refl _) (.int .i64 s)) ⟨w.heap.size, 1, none⟩ (Nat.le_refl _) (.slice (some ⟨ga, 1, none⟩) m d))
        have Hi3 := Lib.hid ((Hi.out.far ⟨w.heap.size, 0, none⟩ (Nat.lt_succ_self _) (.int .i64 s)).far ⟨w.heap.size, 1, none⟩ (Nat.lt_succ_self _) (.slice (some ⟨ga, 1, none⟩) m d))
        go_wp2_with fail
        have k0 := K0.out
        have k1 := K1.out
        refine bodyPost_ret (v := .agg #[.int .i64 s, .slice (some ⟨ga, 1, none⟩) m d]) (by simp [results, Try.results56, go_sem, k0, k1]) rfl ?_
        exact ⟨_, _, _, _, _, _, rfl, Hi3.out.weaken (by omega), by omega, by omega, by omega, Hr3.out, by omega, Hg3.out⟩
    · have e1 : (x0 == 1) = false := by simpa using h1
      by_cases h2 : x0 = 2
      · subst h2
        clear k1 k2 h0 h1 e0 e1
        have t0 := X3.out.cell0
        have t1 := X3.out.cell1
        have t2 := X3.out.lt
        have hlt4 := Hr.out.lt
        have hn0 : (0 : Int) < n := by omega
        go_wp2_with fail
        go_region_with (first | (go_at_call 102; refine (r_one B g (q1 + 1) _ _ [-1, 3] (y4.heap.size + 1) _ (by exact (show Rdr (y4.alloc (.cells #[.int .i64 (-1), .int .i64 3] 3)) B g (q1 + 1) from Hr.out.below ((Below.refl _ _).alloc (Nat.le_refl _) _) Hr.out.lt)) (by omega) (by exact Ints.lit y4 3 [-1, 3]) (by show y4.heap.size + 1 ≤ (y4.alloc (.cells #[.int .i64 (-1), .int .i64 3] 3)).heap.size; simp) (by simp) (by simp) (by rintro b o e; injection e with e; injection e; omega)).mono ?_; rintro e y5 ⟨x, rfl, hx, hr, hg⟩; have hg5 : y4.grownBy y5 (some g) := gtrans (World.grownBy_alloc y4 (.cells #[.int .i64 (-1), .int .i64 3] 3) (some g)) ⟨hg.os, hg.tape, hg.output, hg.size, hg.block⟩; have HX2 := Lib.hid (X2.out.grown hg5 (fun e => by have := Option.some.inj e; omega)); have HX3 := Lib.hid (X3.out.grown hg5 (fun e => by have := Option.some.inj e; omega)); have HO := Lib.hid (Ho.out.kept hg5 (fun g' hA e => by have := (Ho.out.ge hA).1; have := Option.some.inj e; omega)); have u0 := HX3.out.cell0; have u1 := HX3.out.cell1; have u2 := HX3.out.lt; have u3 := World.ownsRow.cellAt HO.out.2 0 (by omega); rw [List.getElem?_eq_getElem (by rw [List.length_map, HO.out.1]; omega)] at u3; have u4 := World.ownsRow.frozenAt HO.out.2 0; have HR := Lib.hid hr; have HG := Lib.hid (gtrans Hg.out hg5); clear hr hg hg5 hx))
        all_goals go_upto_region 9 with (fail)
        all_goals
          obtain ⟨y6, hy6⟩ : ∃ y6, y6 = y5.setCell ⟨ga, 0, none⟩ (.int .i64 x) := ⟨_, rfl⟩
          have hBg := HR.out.1
          have X2 : Hid (Bx 25 y6 w.heap.size 0 (.slice none 0 0)) := Lib.hid (by rw [hy6]; exact HX2.out.far (p := ⟨ga, 0, none⟩) (by show w.heap.size ≠ ga; omega) _)
          have X3 : Hid (Bx 25 y6 y.heap.size s (.slice (some ⟨ga, 0, none⟩) n c)) := Lib.hid (by rw [hy6]; exact HX3.out.far (p := ⟨ga, 0, none⟩) (by show y.heap.size ≠ ga; omega) _)
          have Ho : Hid (Own y6 (w.heap.size + 1) (some ⟨ga, 0, none⟩) n c (cs.set 0 x)) := Lib.hid (by rw [hy6]; exact (HO.out.stored 0 x).1)
          have Hr : Hid (Rdr y6 B g (q1 + 1 + 1)) := Lib.hid (by rw [hy6]; exact HR.out.far ⟨ga, 0, none⟩ (by show g ≠ ga; omega) (by show B ≤ ga; omega) _)
          have Hg : Hid (w.grownBy y6 (some g)) := Lib.hid (by rw [hy6]; exact gset HG.out ⟨ga, 0, none⟩ (by show w.heap.size ≤ ga; omega) _)
          rw [← hy6]
          clear hy6 u0 u1 u2 u3 u4 t0 t1 t2
          have Hi := Lib.hid (IntsF.of Ho.out)
          have K0 := Lib.hid ((X2.out.set0 s).cell0)
          have K1 := Lib.hid (((X2.out.set0 s).set1 (.slice (some ⟨ga, 0, none⟩) n c)).cell1)
          have t0 := X3.out.cell0
          have t1 := X3.out.cell1
          have t2 := X3.out.lt
          have r0 := X2.out.cell0
          have r1 := X2.out.cell1
          have r2 := X2.out.frozen 0
          have r3 := X2.out.frozen 1
          have r4 := X2.out.lt
          have hBg := Hr.out.1
          have Hr3 := Lib.hid ((Hr.out.far ⟨w.heap.size, 0, none⟩ (by show g ≠ w.heap.size; omega) (by show B ≤ w.heap.size; omega) (.int .i64 s)).far ⟨w.heap.size, 1, none⟩ (by show g ≠ w.heap.size; omega) (by show B ≤ w.heap.size; omega) (.slice (some ⟨ga, 0, none⟩) n c))
          have Hg3 := Lib.hid (gset (gset Hg.out ⟨w.heap.size, 0, none⟩ (Nat.le_refl _) (.int .i64 s)) ⟨w.heap.size, 1, none⟩ (Nat.le_refl _) (.slice (some ⟨ga, 0, none⟩) n c))
          have Hi3 := Lib.hid ((Hi.out.far ⟨w.heap.size, 0, none⟩ (Nat.lt_succ_self _) (.int .i64 s)).far ⟨w.heap.size, 1, none⟩ (Nat.lt_succ_self _) (.slice (some ⟨ga, 0, none⟩) n c))
          go_wp2_with fail
          have k0 := K0.out
          have k1 := K1.out
          refine bodyPost_ret (v := .agg #[.int .i64 s, .slice (some ⟨ga, 0, none⟩) n c]) (by simp [results, Try.results56, go_sem, k0, k1]) rfl ?_
          exact ⟨_, _, _, _, _, _, rfl, Hi3.out.weaken (by omega), by omega, by omega, by omega, Hr3.out, by omega, Hg3.out⟩
      · have e2 : (x0 == 2) = false := by simpa using h2
        clear h0 h1 h2
        have Hi := Lib.hid (IntsF.of Ho.out)
        have K0 := Lib.hid ((X2.out.set0 s).cell0)
        have K1 := Lib.hid (((X2.out.set0 s).set1 (.slice (some ⟨ga, 0, none⟩) n c)).cell1)
        have t0 := X3.out.cell0
        have t1 := X3.out.cell1
        have t2 := X3.out.lt
        have r0 := X2.out.cell0
        have r1 := X2.out.cell1
        have r2 := X2.out.frozen 0
        have r3 := X2.out.frozen 1
        have r4 := X2.out.lt
        have hBg := Hr.out.1
        have Hr3 := Lib.hid ((Hr.out.far ⟨w.heap.size, 0, none⟩ (by show g ≠ w.heap.size; omega) (by show B ≤ w.heap.size; omega) (.int .i64 s)).far ⟨w.heap.size, 1, none⟩ (by show g ≠ w.heap.size; omega) (by show B ≤ w.heap.size; omega) (.slice (some ⟨ga, 0, none⟩) n c))
        have Hg3 := Lib.hid (gset (gset Hg.out ⟨w.heap.size, 0, none⟩ (Nat.le_refl _) (.int .i64 s)) ⟨w.heap.size, 1, none⟩ (Nat.le_refl _) (.slice (some ⟨ga, 0, none⟩) n c))
        have Hi3 := Lib.hid ((Hi.out.far ⟨w.heap.size, 0, none⟩ (Nat.lt_succ_self _) (.int .i64 s)).far ⟨w.heap.size, 1, none⟩ (Nat.lt_succ_self _) (.slice (some ⟨ga, 0, none⟩) n c))
        go_wp2_with fail
        have k0 := K0.out
        have k1 := K1.out
        refine bodyPost_ret (v := .agg #[.int .i64 s, .slice (some ⟨ga, 0, none⟩) n c]) (by simp [results, Try.results56, go_sem, k0, k1]) rfl ?_
        exact ⟨_, _, _, _, _, _, rfl, Hi3.out.weaken (by omega), by omega, by omega, by omega, Hr3.out, by omega, Hg3.out⟩
end Go.Proofs.Ytfpibldknjcehaa

namespace Go.Proofs.Ytfpibldknjcehaa
set_option maxRecDepth 100000
open Go.RowKit

theorem undrew {a b : World} (h : Below a.drew.heap.size a.drew b) : Below a.heap.size a b := ⟨h.os, h.tape, h.output, h.size, h.block⟩
theorem Ints.step {w w' : World} {n : Nat} {A : Option Addr} {xs : List Int} (h : Ints w w.heap.size A n xs) (hb : Below w.heap.size w w') : Ints w' w'.heap.size A n xs := (h.below hb (Nat.le_refl _)).more hb.size
theorem Bx.step {t : TypeId} {w w' : World} {g : Nat} {s : Int} {v : Value} (h : Bx t w g s v) (hb : Below w.heap.size w w') : Bx t w' g s v := h.below hb h.lt
theorem bstep {a w w' : World} (h : Below a.heap.size a w) (hb : Below w.heap.size w w') : Below a.heap.size a w' := h.trans (hb.mono h.size)

theorem l_eqB (s : Int) (w : World) (A A' : Option Addr) (n c c' : Nat) (xs : List Int) (h : Ints w w.heap.size A n xs) (h' : Ints w w.heap.size A' n xs) (hn : n ≤ 1000000) :
    Calls Try.prog 16 #[.agg #[.int .i64 s, .slice A n c], .agg #[.int .i64 s, .slice A' n c']] w fun e w' => e = .returned (.bool true) ∧ Below w.heap.size w w' := by
  have hb2 : Below w.heap.size w ((w.alloc (.cells #[.int .i64 s, .slice A n c] 25)).alloc (.cells #[.int .i64 s, .slice A' n c'] 25)) := ((Below.refl _ _).alloc (Nat.le_refl _) _).alloc (by simp) _
  have H := Lib.hid (h.below hb2 (Nat.le_refl _))
  have H' := Lib.hid (h'.below hb2 (Nat.le_refl _))
  have Hb := Lib.hid hb2
  clear h h' hb2
  go_enter Try.func16, Try.ntmps16
  go_wp2_with fail
  refine (eqi_t _ _ _ _ _ n _ _ xs H.out H'.out (by omega)).mono ?_
  rintro e w' ⟨k, rfl, rfl⟩
  go_wp2_with fail
  go_ret
  exact ⟨rfl, drew_below Hb.out k⟩

theorem IsRow.below {k : IntKind} {w w' : World} {a : Option Addr} {len cap : Nat} {zs : List Int} (h : IsRow k w a len cap zs) (hb : Below w.heap.size w w') : IsRow k w' a len cap zs := by
  rcases h with h | ⟨x, hx, h1, h2, h3, h4, h5⟩
  · exact .inl h
  · refine .inr ⟨x, hx, h1, h2, h3, fun i hi => ?_, h5⟩
    have := h4 i hi
    exact (World.cell?_of_block (w := w) (a := x.add i) (hb.block _ (World.block_lt_of_cell? w _ this))).trans this

/-- What a law's draw of a board gives. -/
def DrawnL (w : World) (e : Ending) (w' : World) : Prop :=
  ∃ (s : Int) (A : Option Addr) (n c : Nat) (cs : List Int), e = .returned (.agg #[.int .i64 s, .slice A n c]) ∧ Ints w' w'.heap.size A n cs ∧ n ≤ 49 ∧ 0 ≤ s ∧ s ≤ 8 ∧ Below w.heap.size w w'
/-- The same with an int. -/
def DrawnLI (P : Int → Prop) (w : World) (e : Ending) (w' : World) : Prop :=
  ∃ (s : Int) (A : Option Addr) (n c : Nat) (cs : List Int) (x : Int), e = .returned (.tuple #[.agg #[.int .i64 s, .slice A n c], .int .i64 x]) ∧ Ints w' w'.heap.size A n cs ∧ n ≤ 49 ∧ 0 ≤ s ∧ s ≤ 8 ∧ P x ∧ Below w.heap.size w w'

end Go.Proofs.Ytfpibldknjcehaa

namespace Go.Proofs.Ytfpibldknjcehaa
set_option maxRecDepth 100000
open Go.RowKit

theorem r_anyColor (B g q : Nat) (w : World) (h : Rdr w B g q) (hq : q ≤ 1000000000000) :
    Calls Try.prog 123 #[.pointer (some ⟨g, 0, none⟩)] w fun e w' => Got (fun x => -1 ≤ x ∧ x ≤ 3) w B g (q + 1) e w' := by
  have hlt := h.lt
  go_enter Try.func123, Try.ntmps123
  go_wp2_with fail
  have hl := Ints.lit w 3 [1, 2, 1, 2, 1, 2, 1, 2, 1, 2, 0, 3, -1]
  refine (r_one B g q _ _ [1, 2, 1, 2, 1, 2, 1, 2, 1, 2, 0, 3, -1] _ _ (h.below ((Below.refl _ _).alloc (Nat.le_refl _) _) hlt) hq hl (by simp) (by simp) (by simp) (by rintro b o e; injection e with e; injection e; omega)).mono ?_
  rintro e w1 ⟨x, rfl, hx, hr, hw⟩
  have Hr := Lib.hid hr
  have Hw := Lib.hid (gtrans (World.grownBy_alloc w _ (some g)) hw)
  have Hx := Lib.hid hx
  clear hr hw hl hx
  go_wp2_with fail
  go_ret
  refine ⟨_, rfl, ?_, Hr.out, Hw.out⟩
  have := Hx.out
  simp at this
  omega

set_option maxRecDepth 100000 in
set_option maxHeartbeats 2000000 in
theorem d_cnt (w : World) (a : Option Addr) (len cap : Nat) (zs : List Int) (h : IsRow .u8 w a len cap zs) :
    Calls Try.prog 96 #[.slice a len cap] w fun e w' => DrawnLI (fun x => -1 ≤ x ∧ x ≤ 8) w e w' := by
  have hb1 : Below w.heap.size w (w.alloc (.cells #[.int .i64 0, .slice none 0 0] 25)) := (Below.refl _ _).alloc (Nat.le_refl _) _
  have X2 := Lib.hid (Bx.new 25 w 0 (.slice none 0 0))
  have Hb := Lib.hid hb1
  have hsz : (w.alloc (.cells #[.int .i64 0, .slice none 0 0] 25)).heap.size = w.heap.size + 1 := by simp
  have Hsz := Lib.hid hsz
  have H := Lib.hid (h.below hb1)
  clear h hb1 hsz
  go_enter Try.func96, Try.ntmps96
  go_wp2_with fail
  refine (r_new _ _ _ _ zs H.out).mono ?_
  rintro e y ⟨g, rfl, hr, hb⟩
  have Hg := Lib.hid hr.1
  rw [Hsz.out] at Hg
  have hg1 := Hg.out
  have X2 := Lib.hid (X2.out.below hb X2.out.lt)
  have Hb := Lib.hid (Hb.out.trans (hb.mono (by rw [Hsz.out]; omega)))
  have zy := X2.out.lt
  obtain ⟨Bq, Hr⟩ : ∃ Bq, Hid (Rdr y Bq g 0) := ⟨_, Lib.hid hr⟩
  clear hr hb
  go_wp2_with fail
  have hgy := Hr.out.lt
  refine (r_any Bq g 0 _ Hr.out (by omega)).mono ?_
  rintro e y2 ⟨s, A, n, c, cs, q', rfl, hi, hn, s0, s8, hr, hq, hg⟩
  have X2 := Lib.hid (X2.out.grown hg (fun e => by have := Option.some.inj e; omega))
  have Hb := Lib.hid (Hb.out.trans (below_g hg (by omega) (fun k hk => by have := Option.some.inj hk; omega)))
  have Hi := Lib.hid hi
  have Hr := Lib.hid hr
  have hgl := hr.lt
  have zz := hg.size
  clear hi hr hg
  go_upto_region 3 with (fail)
  obtain ⟨y3, hy3, hb3, z3, z4⟩ := new_box y2 (.cells #[.int .i64 s, .slice A n c] 25)
  have X5 : Hid (Bx 25 y3 y2.heap.size s (.slice A n c)) := Lib.hid (by rw [hy3]; exact Bx.new _ _ _ _)
  rw [← hy3]
  clear hy3
  have X2 := Lib.hid (X2.out.below hb3 X2.out.lt)
  have Hr := Lib.hid (Hr.out.below hb3 Hr.out.lt)
  have Hi := Lib.hid (Hi.out.below hb3)
  have Hb := Lib.hid (Hb.out.trans (hb3.mono (by omega)))
  clear hb3
  have t0 := X5.out.cell0
  have t1 := X5.out.cell1
  have t2 := X5.out.lt
  go_region_with (first | (go_at_call 123; refine (r_anyColor Bq g q' _ (by exact Hr.out) (by omega)).mono ?_; rintro e y5 ⟨x, rfl, hx, hr, hg⟩; have hg5 : y3.grownBy y5 (some g) := ⟨hg.os, hg.tape, hg.output, hg.size, hg.block⟩; have hx8 : -1 ≤ x ∧ x ≤ 8 := (by omega); have HX2 := Lib.hid (X2.out.grown hg5 (fun e => by have := Option.some.inj e; omega)); have HX5 := Lib.hid (X5.out.grown hg5 (fun e => by have := Option.some.inj e; omega)); have HI := Lib.hid (Hi.out.grown hg5 (by omega)); have HB := Lib.hid (Hb.out.trans (below_g hg5 (by omega) (fun k hk => by have := Option.some.inj hk; omega))); have u0 := HX5.out.cell0; have u1 := HX5.out.cell1; have u2 := HX5.out.lt; have r0 := HX2.out.cell0; have r1 := HX2.out.cell1; have r2 := HX2.out.frozen 0; have r3 := HX2.out.frozen 1; have r4 := HX2.out.lt; clear hr hg hg5))
  all_goals go_wp2_with fail
  all_goals
    have k0 := (HX2.out.set0 s).cell0
    have k1 := ((HX2.out.set0 s).set1 (.slice A n c)).cell1
    refine bodyPost_ret (v := .tuple #[.agg #[.int .i64 s, .slice A n c], .int .i64 x]) (by simp [results, Try.results96, go_sem, k0, k1]) rfl ?_
    have hi3 := ((HI.out.far ⟨w.heap.size, 0, none⟩ (by show w.heap.size < y.heap.size; omega) (.int .i64 s)).far ⟨w.heap.size, 1, none⟩ (by show w.heap.size < y.heap.size; omega) (.slice A n c)).ints
    have hb3 := (HB.out.setCell (p := ⟨w.heap.size, 0, none⟩) (Nat.le_refl _) (.int .i64 s)).setCell (p := ⟨w.heap.size, 1, none⟩) (Nat.le_refl _) (.slice A n c)
    exact ⟨_, _, _, _, _, _, rfl, hi3, hn, s0, s8, hx8, hb3⟩

end Go.Proofs.Ytfpibldknjcehaa

namespace Go.Proofs.Ytfpibldknjcehaa
set_option maxRecDepth 100000
open Go.RowKit

theorem GL.rowC {s x : Int} {n : Nat} {cs : List Int} : ∀ {k : Nat} {ls : List (List Int)}, k ≤ n → GL s n cs x k ls → ∀ g ∈ ls, ∃ q : Nat, q < n ∧ 0 < g.length ∧ g.getD 0 0 = (q : Int) ∧ cs.getD q 0 = x ∧ Reached s n (hasCol (cs.getD q 0) cs) (q : Int) g := by
  intro k
  induction k with
  | zero => intro ls _ h; cases (show ls = [] from h); exact fun g hg => by cases hg
  | succ k ih =>
    intro ls hk h
    obtain ⟨l0, h0, h⟩ := h
    rcases h with ⟨e, g, hg, rfl⟩ | ⟨_, rfl⟩
    · intro q hq
      rw [List.mem_append, List.mem_singleton] at hq
      rcases hq with hq | rfl
      · exact ih (by omega) h0 q hq
      · obtain ⟨f1, f2⟩ := hg.first (by omega)
        exact ⟨k, by omega, f1, f2.2 e.2, e.1, hg⟩
    · exact ih (by omega) h0

theorem at_lib {s : Int} {n q : Nat} {cs g l : List Int} (hst : hst s cs (q : Int) = true) (hg : Reached s n (hasCol (cs.getD q 0) cs) (q : Int) g) (h : LibIs s n cs (q : Int) l) : AT s n cs g ↔ l.length = 1 := by
  obtain ⟨g', S, h1, h2, rfl⟩ := h
  have e := (h1.1 hst).one (by rw [Int.toNat_natCast]; exact hg)
  subst e
  exact AT.iff h2

theorem i_LibM (s p : Int) (w : World) (A : Option Addr) (n c : Nat) (cs : List Int) (h : Ints w w.heap.size A n cs) (hn : n ≤ 49) (l : List Int) (Hl : Hid (LibIs s n cs p l)) (M : Nat) (HM : Hid (l.length = M)) :
    Calls Try.prog 54 #[.agg #[.int .i64 s, .slice A n c], .int .i64 p] w fun e w' => ∃ A' c', e = .returned (.slice A' M c') ∧ Below w.heap.size w w' := by
  refine (i_LibertiesOf s p w _ A n c cs h (Nat.le_refl _) (by omega) l Hl).mono ?_
  rintro e w' ⟨A', m', c', rfl, ho, hb⟩
  have e1 := ho.1
  obtain rfl : m' = M := by have := HM.out; omega
  exact ⟨_, _, rfl, hb⟩

theorem IntsS.step {w w' : World} {A : Option Addr} {n : Nat} {xss : List (List Int)} (h : IntsS w A n xss) (hb : Below w.heap.size w w') : IntsS w' A n xss := h.below hb

/-- The same, and the row lies in new memory. -/
def DrawnLF (P : Int → Prop) (w : World) (e : Ending) (w' : World) : Prop :=
  ∃ (s : Int) (A : Option Addr) (n c : Nat) (cs : List Int) (x : Int) (lo : Nat), e = .returned (.tuple #[.agg #[.int .i64 s, .slice A n c], .int .i64 x]) ∧ w.heap.size ≤ lo ∧ IntsF w' lo A n cs ∧ n ≤ 49 ∧ 0 ≤ s ∧ s ≤ 8 ∧ P x ∧ Below w.heap.size w w'

set_option maxRecDepth 100000 in
set_option maxHeartbeats 2000000 in
theorem d_cntF (w : World) (a : Option Addr) (len cap : Nat) (zs : List Int) (h : IsRow .u8 w a len cap zs) :
    Calls Try.prog 96 #[.slice a len cap] w fun e w' => DrawnLF (fun x => -1 ≤ x ∧ x ≤ 8) w e w' := by
  have hb1 : Below w.heap.size w (w.alloc (.cells #[.int .i64 0, .slice none 0 0] 25)) := (Below.refl _ _).alloc (Nat.le_refl _) _
  have X2 := Lib.hid (Bx.new 25 w 0 (.slice none 0 0))
  have Hb := Lib.hid hb1
  have hsz : (w.alloc (.cells #[.int .i64 0, .slice none 0 0] 25)).heap.size = w.heap.size + 1 := by simp
  have Hsz := Lib.hid hsz
  have H := Lib.hid (h.below hb1)
  clear h hb1 hsz
  go_enter Try.func96, Try.ntmps96
  go_wp2_with fail
  refine (r_new _ _ _ _ zs H.out).mono ?_
  rintro e y ⟨g, rfl, hr, hb⟩
  have Hg := Lib.hid hr.1
  rw [Hsz.out] at Hg
  have hg1 := Hg.out
  have X2 := Lib.hid (X2.out.below hb X2.out.lt)
  have Hb := Lib.hid (Hb.out.trans (hb.mono (by rw [Hsz.out]; omega)))
  have zy := X2.out.lt
  obtain ⟨Bq, Hr⟩ : ∃ Bq, Hid (Rdr y Bq g 0) := ⟨_, Lib.hid hr⟩
  clear hr hb
  go_wp2_with fail
  have hgy := Hr.out.lt
  refine (r_any Bq g 0 _ Hr.out (by omega)).mono ?_
  rintro e y2 ⟨s, A, n, c, cs, q', rfl, hi, hn, s0, s8, hr, hq, hg⟩
  have X2 := Lib.hid (X2.out.grown hg (fun e => by have := Option.some.inj e; omega))
  have Hb := Lib.hid (Hb.out.trans (below_g hg (by omega) (fun k hk => by have := Option.some.inj hk; omega)))
  have Hi := Lib.hid hi
  have Hr := Lib.hid hr
  have hgl := hr.lt
  have zz := hg.size
  clear hi hr hg
  go_upto_region 3 with (fail)
  obtain ⟨y3, hy3, hb3, z3, z4⟩ := new_box y2 (.cells #[.int .i64 s, .slice A n c] 25)
  have X5 : Hid (Bx 25 y3 y2.heap.size s (.slice A n c)) := Lib.hid (by rw [hy3]; exact Bx.new _ _ _ _)
  rw [← hy3]
  clear hy3
  have X2 := Lib.hid (X2.out.below hb3 X2.out.lt)
  have Hr := Lib.hid (Hr.out.below hb3 Hr.out.lt)
  have Hi := Lib.hid (Hi.out.below hb3)
  have Hb := Lib.hid (Hb.out.trans (hb3.mono (by omega)))
  clear hb3
  have t0 := X5.out.cell0
  have t1 := X5.out.cell1
  have t2 := X5.out.lt
  go_region_with (first | (go_at_call 123; refine (r_anyColor Bq g q' _ (by exact Hr.out) (by omega)).mono ?_; rintro e y5 ⟨x, rfl, hx, hr, hg⟩; have hg5 : y3.grownBy y5 (some g) := ⟨hg.os, hg.tape, hg.output, hg.size, hg.block⟩; have hx8 : -1 ≤ x ∧ x ≤ 8 := (by omega); have HX2 := Lib.hid (X2.out.grown hg5 (fun e => by have := Option.some.inj e; omega)); have HX5 := Lib.hid (X5.out.grown hg5 (fun e => by have := Option.some.inj e; omega)); have HI := Lib.hid (Hi.out.grown hg5 (by omega)); have HB := Lib.hid (Hb.out.trans (below_g hg5 (by omega) (fun k hk => by have := Option.some.inj hk; omega))); have u0 := HX5.out.cell0; have u1 := HX5.out.cell1; have u2 := HX5.out.lt; have r0 := HX2.out.cell0; have r1 := HX2.out.cell1; have r2 := HX2.out.frozen 0; have r3 := HX2.out.frozen 1; have r4 := HX2.out.lt; clear hr hg hg5))
  all_goals go_wp2_with fail
  all_goals
    have k0 := (HX2.out.set0 s).cell0
    have k1 := ((HX2.out.set0 s).set1 (.slice A n c)).cell1
    refine bodyPost_ret (v := .tuple #[.agg #[.int .i64 s, .slice A n c], .int .i64 x]) (by simp [results, Try.results96, go_sem, k0, k1]) rfl ?_
    have hi3 := ((HI.out.far ⟨w.heap.size, 0, none⟩ (by show w.heap.size < y.heap.size; omega) (.int .i64 s)).far ⟨w.heap.size, 1, none⟩ (by show w.heap.size < y.heap.size; omega) (.slice A n c))
    have hb3 := (HB.out.setCell (p := ⟨w.heap.size, 0, none⟩) (Nat.le_refl _) (.int .i64 s)).setCell (p := ⟨w.heap.size, 1, none⟩) (Nat.le_refl _) (.slice A n c)
    exact ⟨_, _, _, _, _, _, _, rfl, (by omega), hi3, hn, s0, s8, hx8, hb3⟩

set_option maxHeartbeats 2000000 in
theorem d_ati (w : World) (a : Option Addr) (len cap : Nat) (zs : List Int) (h : IsRow .u8 w a len cap zs) :
    Calls Try.prog 49 #[.slice a len cap] w fun e w' => DrawnLI (fun x => -1 ≤ x ∧ x ≤ 8) w e w' := by
  have hb1 : Below w.heap.size w (w.alloc (.cells #[.int .i64 0, .slice none 0 0] 25)) := (Below.refl _ _).alloc (Nat.le_refl _) _
  have X2 := Lib.hid (Bx.new 25 w 0 (.slice none 0 0))
  have Hb := Lib.hid hb1
  have H := Lib.hid (h.below hb1)
  clear h hb1
  go_enter Try.func49, Try.ntmps49
  go_wp2_with fail
  refine (d_cntF _ _ _ _ zs H.out).mono ?_
  rintro e y2 ⟨s, A, n, c, cs, x, lo, rfl, hlo, hi, hn, s0, s8, hx, hb⟩
  have hlo2 : w.heap.size < lo := by simp at hlo; omega
  have X2 := Lib.hid (X2.out.below hb X2.out.lt)
  have Hb := Lib.hid (Hb.out.trans (hb.mono (by simp)))
  have Hi := Lib.hid hi
  have Hx := Lib.hid hx
  clear hi hb hx
  have r0 := X2.out.cell0
  have r1 := X2.out.cell1
  have r2 := X2.out.frozen 0
  have r3 := X2.out.frozen 1
  have r4 := X2.out.lt
  have K0 := Lib.hid ((X2.out.set0 s).cell0)
  have K1 := Lib.hid (((X2.out.set0 s).set1 (.slice A n c)).cell1)
  have Hb3 := Lib.hid ((Hb.out.setCell (p := ⟨w.heap.size, 0, none⟩) (Nat.le_refl _) (.int .i64 s)).setCell (p := ⟨w.heap.size, 1, none⟩) (Nat.le_refl _) (.slice A n c))
  go_wp2_with fail
  have k0 := K0.out
  have k1 := K1.out
  refine bodyPost_ret (v := .tuple #[.agg #[.int .i64 s, .slice A n c], .int .i64 x]) (by simp [results, Try.results49, go_sem, k0, k1]) rfl ?_
  have hi3 := ((Hi.out.far ⟨w.heap.size, 0, none⟩ hlo2 (.int .i64 s)).far ⟨w.heap.size, 1, none⟩ hlo2 (.slice A n c)).ints
  exact ⟨_, _, _, _, _, _, rfl, hi3, hn, s0, s8, Hx.out, Hb3.out⟩

set_option maxRecDepth 100000 in
set_option maxHeartbeats 2000000 in
theorem eqg_b (w : World) (A A' : Option Addr) (n c c' : Nat) (xss : List (List Int)) (h : IntsS w A n xss) (h' : IntsS w A' n xss) (hn : n ≤ 1000000) (hsm : ∀ j, j < n → (xss.getD j []).length ≤ 1000000) :
    Calls Try.prog 51 #[.slice A n c, .slice A' n c'] w fun e w' => e = .returned (.bool true) ∧ Below w.heap.size w w' := by
  by_cases h0 : n = 0
  · subst h0
    clear h h' hsm
    go_enter Try.func51, Try.ntmps51
    go_wp2_with fail
    go_rounds 1
    go_ret
    exact ⟨rfl, Below.refl _ _⟩
  · obtain ⟨b, o, rfl, hlt, hc⟩ : ∃ b o, A = some ⟨b, o, none⟩ ∧ b < w.heap.size ∧ ∀ j, j < n → ∃ Aj nj cj, w.cell? ⟨b, o + j, none⟩ = some (.slice Aj nj cj) ∧ Ints w w.heap.size Aj nj (xss.getD j []) := by
      rcases h.2 with e | e
      · exact absurd e h0
      · exact e
    obtain ⟨b', o', rfl, hlt', hc'⟩ : ∃ b o, A' = some ⟨b, o, none⟩ ∧ b < w.heap.size ∧ ∀ j, j < n → ∃ Aj nj cj, w.cell? ⟨b, o + j, none⟩ = some (.slice Aj nj cj) ∧ Ints w w.heap.size Aj nj (xss.getD j []) := by
      rcases h'.2 with e | e
      · exact absurd e h0
      · exact e
    have Hc := Lib.hid hc
    have Hc' := Lib.hid hc'
    have Hsm := Lib.hid hsm
    clear h h' hc hc' hsm
    go_enter Try.func51, Try.ntmps51
    go_wp2_with fail
    go_loopw [5] (fun i wr => ∃ k : Nat, k ≤ n ∧ i = .int .i64 k ∧ Below w.heap.size w wr) (fun i _ => n - (intOf i).toNat)
    case atStart => exact ⟨0, by omega, rfl, Below.refl _ _⟩
    case round =>
      obtain ⟨k, hk, rfl, hb⟩ := hrel
      have Hb := Lib.hid hb
      have hz := hb.size
      clear hb
      obtain ⟨wo, rfl⟩ : ∃ wo : World, wo = wr := ⟨_, rfl⟩
      by_cases hkn : k < n
      · obtain ⟨A1, n1, c1, e1, i1⟩ := Hc.out k hkn
        obtain ⟨A2, n2, c2, e2, i2⟩ := Hc'.out k hkn
        have hs := Hsm.out k hkn
        have l1 := i1.1
        have l2 := i2.1
        obtain rfl : n2 = n1 := by omega
        have ck := (Hb.out.cell (p := ⟨b, o + k, none⟩) (by show b < _; omega)).trans e1
        have ck' := (Hb.out.cell (p := ⟨b', o' + k, none⟩) (by show b' < _; omega)).trans e2
        have I1 := Lib.hid (i1.below Hb.out (Nat.le_refl _))
        have I2 := Lib.hid (i2.below Hb.out (Nat.le_refl _))
        have hki : (k : Int) < n := by omega
        have hs2 : n2 ≤ 1000000000 := by omega
        clear e1 e2 i1 i2 l1 l2 hs
        go_upto_region 6 with (fail)
        go_cut [26] (fun v wx => v = .bool false ∧ Below wo.heap.size wo wx)
        case first =>
          go_region_with (go_at_call 43; refine (eqi_t _ _ _ _ _ _ _ _ _ (by exact I1.out) (by exact I2.out) hs2).mono ?_; rintro e ya ⟨d, rfl, rfl⟩)
          all_goals go_wp2_with fail
          all_goals go_meet
          all_goals exact ⟨rfl, ⟨rfl, rfl, rfl, Nat.le_refl _, fun _ _ => rfl⟩⟩
        case rest =>
          obtain ⟨rfl, hb2⟩ := hcut
          have Hb2 := Lib.hid (Hb.out.trans (hb2.mono (by omega)))
          clear hb2 ck ck'
          go_wp2_with fail
          go_roundw
          case rel => exact ⟨k + 1, by omega, by go_num, Hb2.out⟩
          case measure => simp [intOf]; omega
      · go_wp2_with fail
        go_ret
        exact ⟨rfl, Hb.out⟩
end Go.Proofs.Ytfpibldknjcehaa

namespace Go.Proofs.Ytfpibldknjcehaa
set_option maxRecDepth 100000
open Go.RowKit

def cnt (x : Int) (cs : List Int) : Int := ((cs.filter fun c => c == x).length : Nat)
theorem cnt_bd (x : Int) (cs : List Int) : 0 ≤ cnt x cs ∧ cnt x cs ≤ cs.length := by
  unfold cnt
  have := List.length_filter_le (fun c => c == x) cs
  omega
theorem cnt_yes {x : Int} {cs : List Int} {k : Nat} (h : k < cs.length) (hx : (cs.getD k 0 == x) = true) : cnt x (cs.take (k + 1)) = cnt x (cs.take k) + 1 := by
  have e : cs.getD k 0 = cs[k] := by simp [List.getD_eq_getElem?_getD, List.getElem?_eq_getElem h]
  rw [e] at hx
  unfold cnt
  rw [List.take_succ_eq_append_getElem h, List.filter_append, List.length_append, List.filter_cons, hx]
  simp
theorem cnt_no {x : Int} {cs : List Int} {k : Nat} (h : k < cs.length) (hx : (cs.getD k 0 == x) = false) : cnt x (cs.take (k + 1)) = cnt x (cs.take k) := by
  have e : cs.getD k 0 = cs[k] := by simp [List.getD_eq_getElem?_getD, List.getElem?_eq_getElem h]
  rw [e] at hx
  unfold cnt
  rw [List.take_succ_eq_append_getElem h, List.filter_append, List.length_append, List.filter_cons, hx]
  simp

theorem i_cnt (w : World) (B : Nat) (A : Option Addr) (n c : Nat) (cs : List Int) (x : Int) (h : Ints w B A n cs) (hn : n ≤ 1000000000) :
    Calls Try.prog 152 #[.slice A n c, .int .i64 x] w fun e w' => e = .returned (.int .i64 (cnt x cs)) ∧ w = w' := by
  have hl := h.1
  rcases h.2 with rfl | ⟨b, o, rfl, hlt, hc⟩
  · have hx : cs = [] := List.eq_nil_of_length_eq_zero hl
    subst hx
    clear h hl
    go_enter Try.func152, Try.ntmps152
    go_wp2_with fail
    go_rounds 1
    go_ret
    exact ⟨rfl, rfl⟩
  · have Hc := Lib.hid hc
    have Hl := Lib.hid hl
    clear hc h hl
    go_enter Try.func152, Try.ntmps152
    go_wp2_with fail
    go_loop [5, 10] (fun m i => ∃ k : Nat, k ≤ n ∧ i = .int .i64 k ∧ m = .int .i64 (cnt x (cs.take k))) (fun _ i => n - (intOf i).toNat)
    case atStart => exact ⟨0, by omega, rfl, rfl⟩
    case round =>
      obtain ⟨k, hk, rfl, rfl⟩ := hrel
      obtain ⟨b1, b2⟩ := cnt_bd x (cs.take k)
      have b3 : ((cs.take k).length : Int) ≤ k := by rw [List.length_take]; omega
      by_cases hlt : k < n
      · have c1 := Hc.out k hlt
        have hy := Lib.hid (cnt_yes (x := x) (cs := cs) (k := k) (by rw [Hl.out]; exact hlt))
        have hno := Lib.hid (cnt_no (x := x) (cs := cs) (k := k) (by rw [Hl.out]; exact hlt))
        obtain ⟨y, hyy⟩ : ∃ y, cs.getD k 0 = y := ⟨_, rfl⟩
        rw [hyy] at c1 hy hno
        clear hyy
        rcases Bool.eq_false_or_eq_true (y == x) with ht | ht
        · have Hy := Lib.hid (hy.out ht)
          clear hy hno
          go_wp2_with fail
          go_round
          case rel => exact ⟨k + 1, by omega, by go_num, by rw [Hy.out]⟩
          case measure => simp [intOf]; omega
        · have Hy := Lib.hid (hno.out ht)
          clear hy hno
          go_wp2_with fail
          go_round
          case rel => exact ⟨k + 1, by omega, by go_num, by rw [Hy.out]⟩
          case measure => simp [intOf]; omega
      · have hf : cnt x (cs.take k) = cnt x cs := by rw [List.take_of_length_le (by rw [Hl.out]; omega)]
        have Hf := Lib.hid hf
        clear hf
        go_wp2_with fail
        go_ret
        exact ⟨ret_int Hf.out, rfl⟩

theorem s_cnt (s : Int) (w : World) (B : Nat) (A : Option Addr) (n c : Nat) (cs : List Int) (x : Int) (h : Ints w B A n cs) (hB : B ≤ w.heap.size) (hn : n ≤ 1000000000) :
    Calls Try.prog 86 #[.agg #[.int .i64 s, .slice A n c], .int .i64 x] w fun e w' => e = .returned (.int .i64 (cnt x cs)) ∧ Below w.heap.size w w' := by
  have hb1 : Below w.heap.size w (w.alloc (.cells #[.int .i64 s, .slice A n c] 25)) := (Below.refl _ _).alloc (Nat.le_refl _) _
  have h1 := h.below hb1 hB
  have Hb := Lib.hid hb1
  have hl := h.1
  clear hb1
  rcases h1.2 with h0 | ⟨b, o, hA, hlt, hc⟩
  · subst h0
    have hx : cs = [] := List.eq_nil_of_length_eq_zero hl
    subst hx
    clear h hl h1
    go_enter Try.func86, Try.ntmps86
    go_wp2_with fail
    go_rounds 1
    go_ret
    exact ⟨rfl, Hb.out⟩
  · have HA := Lib.hid hA
    subst hA
    have Hc := Lib.hid hc
    have Hl := Lib.hid hl
    have Bxx := Lib.hid (Bx.new 25 w s (.slice (some ⟨b, o, none⟩) n c))
    clear hc h hl h1 HA
    go_enter Try.func86, Try.ntmps86
    go_wp2_with fail
    have v1 := Bxx.out.cell1
    go_loop [5, 6] (fun m i => ∃ k : Nat, k ≤ n ∧ i = .int .i64 k ∧ m = .int .i64 (cnt x (cs.take k))) (fun _ i => n - (intOf i).toNat)
    case atStart => exact ⟨0, by omega, rfl, rfl⟩
    case round =>
      obtain ⟨k, hk, rfl, rfl⟩ := hrel
      obtain ⟨b1, b2⟩ := cnt_bd x (cs.take k)
      have b3 : ((cs.take k).length : Int) ≤ k := by rw [List.length_take]; omega
      by_cases hlt : k < n
      · have c1 := Hc.out k hlt
        have hy := Lib.hid (cnt_yes (x := x) (cs := cs) (k := k) (by rw [Hl.out]; exact hlt))
        have hno := Lib.hid (cnt_no (x := x) (cs := cs) (k := k) (by rw [Hl.out]; exact hlt))
        obtain ⟨y, hyy⟩ : ∃ y, cs.getD k 0 = y := ⟨_, rfl⟩
        rw [hyy] at c1 hy hno
        clear hyy
        rcases Bool.eq_false_or_eq_true (y == x) with ht | ht
        · have Hy := Lib.hid (hy.out ht)
          clear hy hno
          go_wp2_with fail
          go_round
          case rel => exact ⟨k + 1, by omega, by go_num, by rw [Hy.out]⟩
          case measure => simp [intOf]; omega
        · have Hy := Lib.hid (hno.out ht)
          clear hy hno
          go_wp2_with fail
          go_round
          case rel => exact ⟨k + 1, by omega, by go_num, by rw [Hy.out]⟩
          case measure => simp [intOf]; omega
      · have hf : cnt x (cs.take k) = cnt x cs := by rw [List.take_of_length_le (by rw [Hl.out]; omega)]
        have Hf := Lib.hid hf
        clear hf
        go_wp2_with fail
        go_ret
        exact ⟨ret_int Hf.out, Hb.out⟩

def cntB (s : Int) (cs : List Int) (x : Int) : Int := if Bd.okB s cs then cnt x cs else -1

theorem i_count (s : Int) (w : World) (B : Nat) (A : Option Addr) (n c : Nat) (cs : List Int) (x : Int) (h : Ints w B A n cs) (hB : B ≤ w.heap.size) (hn : n ≤ 1000000000) :
    Calls Try.prog 119 #[.agg #[.int .i64 s, .slice A n c], .int .i64 x] w fun e w' => e = .returned (.int .i64 (cntB s cs x)) ∧ Below w.heap.size w w' := by
  have hb1 : Below w.heap.size w (w.alloc (.cells #[.int .i64 s, .slice A n c] 25)) := (Below.refl _ _).alloc (Nat.le_refl _) _
  have H := Lib.hid (h.below hb1 hB)
  have Hb := Lib.hid hb1
  have Bxx := Lib.hid (Bx.new 25 w s (.slice A n c))
  clear hb1 h
  by_cases hv : Bd.okB s cs = true
  · have Hf := Lib.hid (show cntB s cs x = cnt x cs by rw [cntB, if_pos hv])
    go_enter Try.func119, Try.ntmps119
    go_wp2_with fail
    refine (i_validBoard _ _ _ _ _ _ _ H.out (by simp; omega) hn).mono ?_
    rintro e y ⟨rfl, hb⟩
    have v0 := (Bxx.out.below hb (by simp)).cell0
    have v1 := (Bxx.out.below hb (by simp)).cell1
    have H2 := Lib.hid (H.out.below hb (by simp; omega))
    have Hb2 := Lib.hid (Hb.out.trans (hb.mono (by simp)))
    clear hb
    rw [hv]
    go_wp2_with fail
    refine (i_cnt _ _ _ _ _ _ _ H2.out hn).mono ?_
    rintro e y2 ⟨rfl, rfl⟩
    go_wp2_with fail
    go_ret
    exact ⟨ret_int Hf.out.symm, Hb2.out⟩
  · have hv' : Bd.okB s cs = false := by simpa using hv
    have Hf := Lib.hid (show cntB s cs x = -1 by rw [cntB, if_neg hv])
    go_enter Try.func119, Try.ntmps119
    go_wp2_with fail
    refine (i_validBoard _ _ _ _ _ _ _ H.out (by simp; omega) hn).mono ?_
    rintro e y ⟨rfl, hb⟩
    have Hb2 := Lib.hid (Hb.out.trans (hb.mono (by simp)))
    clear hb hv
    rw [hv']
    go_wp2_with fail
    go_ret
    exact ⟨ret_int Hf.out.symm, Hb2.out⟩
end Go.Proofs.Ytfpibldknjcehaa

namespace Go.Proofs.Ytfpibldknjcehaa
set_option maxRecDepth 100000
open Go.RowKit

section
variable (s : Int) (w : World) (A : Option Addr) (n c : Nat) (cs : List Int)
variable (k : Int)
theorem i_trV (h : Ints w w.heap.size A n cs) (hn : n ≤ 49) (hv : Bd.okB s cs = true) (hk : Pt.okK k = true) : Calls Try.prog 17 #[.agg #[.int .i64 s, .slice A n c], .int .i64 k] w fun e w' => Made s (Bd.mv s k cs) w e w' := by
  have := i_trB s k w w.heap.size A n c cs h (Nat.le_refl _) (by omega)
  rwa [trS, trCs, show trOk s cs k = true by rw [trOk, hv, hk]; rfl, if_pos rfl, if_pos rfl] at this
theorem i_trN (h : Ints w w.heap.size A n cs) (hn : n ≤ 49) (hv : trOk s cs k = false) : Calls Try.prog 17 #[.agg #[.int .i64 s, .slice A n c], .int .i64 k] w fun e w' => Made 0 [] w e w' := by
  have := i_trB s k w w.heap.size A n c cs h (Nat.le_refl _) (by omega)
  rwa [trS, trCs, hv, if_neg (by decide), if_neg (by decide)] at this
end

theorem len_of {cs : List Int} {n m : Nat} (h : (othCs cs).length = m) (h0 : cs.length = n) : n = m := by rw [othCs_len] at h; omega
theorem len_mv {s k : Int} {cs : List Int} {n m : Nat} (h : (Bd.mv s k cs).length = m) (h0 : cs.length = n) : n = m := by rw [Bd.mv_len] at h; omega
theorem oth_oth {x : Int} (h0 : 0 ≤ x) (h2 : x ≤ 2) : oth (oth x) = x := by
  have h3 : x = 0 ∨ x = 1 ∨ x = 2 := by omega
  rcases h3 with rfl | rfl | rfl <;> decide
theorem othCs_twice {cs : List Int} (h : OkL cs) : othCs (othCs cs) = cs := by
  rw [okL_mem] at h
  unfold othCs
  rw [List.map_map]
  conv => rhs; rw [← List.map_id cs]
  exact List.map_congr_left fun x hx => oth_oth (h x hx).1 (h x hx).2
theorem othCs_set (l : List Int) (p : Nat) (x : Int) : othCs (l.set p x) = (othCs l).set p (oth x) := by
  unfold othCs; rw [List.map_set]
theorem othCs_getD (cs : List Int) (j : Nat) : oth (cs.getD j 0) = (othCs cs).getD j 0 := by
  unfold othCs
  rw [List.getD_eq_getElem?_getD, List.getD_eq_getElem?_getD, List.getElem?_map]
  cases cs[j]? <;> rfl
theorem steps_oth (f : Nat → Nat) (cs : List Int) (j : Nat) (l : List Int) : othCs (Bd.steps f cs j l) = Bd.steps f (othCs cs) j (othCs l) := by
  induction j with
  | zero => rfl
  | succ j ih => rw [Bd.steps, Bd.steps, othCs_set, ih, othCs_getD]
theorem mv_oth (s k : Int) (cs : List Int) : Bd.mv s k (othCs cs) = othCs (Bd.mv s k cs) := by
  unfold Bd.mv
  rw [steps_oth, othCs_len]
end Go.Proofs.Ytfpibldknjcehaa

namespace Go.Proofs.Ytfpibldknjcehaa
set_option maxRecDepth 100000

theorem perm_of_sub {l r : List Nat} (hn : l.Nodup) (hs : ∀ x ∈ l, x ∈ r) (hl : r.length ≤ l.length) : List.Perm l r := by
  induction l generalizing r with
  | nil =>
    have e : r = [] := List.eq_nil_of_length_eq_zero (by simpa using hl)
    subst e
    exact .refl _
  | cons x l ih =>
    have hx : x ∈ r := hs x (by simp)
    obtain ⟨hxl, hnl⟩ := List.nodup_cons.1 hn
    refine List.Perm.trans ?_ (List.perm_cons_erase hx).symm
    refine List.Perm.cons x (ih hnl (fun y hy => ?_) ?_)
    · have hne : y ≠ x := fun e => hxl (e ▸ hy)
      exact (List.mem_erase_of_ne hne).2 (hs y (by simp [hy]))
    · rw [List.length_erase_of_mem hx]
      simp at hl
      omega

theorem nodup_map {f : Nat → Nat} {l : List Nat} (hn : l.Nodup) (hf : ∀ a ∈ l, ∀ b ∈ l, f a = f b → a = b) : (l.map f).Nodup := by
  induction l with
  | nil => simp
  | cons x l ih =>
    obtain ⟨hx, hl⟩ := List.nodup_cons.1 hn
    rw [List.map_cons, List.nodup_cons]
    refine ⟨fun hm => ?_, ih hl fun a ha b hb => hf a (by simp [ha]) b (by simp [hb])⟩
    obtain ⟨y, hy, he⟩ := List.mem_map.1 hm
    have := hf y (by simp [hy]) x (by simp) he
    exact hx (this ▸ hy)

theorem list_as_map (cs : List Int) : cs = (List.range cs.length).map fun p => cs.getD p 0 := by
  apply List.ext_getElem
  · simp
  · intro i h1 h2
    simp [List.getD_eq_getElem?_getD, List.getElem?_eq_getElem h1]

theorem mv_perm {s k : Int} {cs : List Int} (h1 : 1 ≤ s) (h2 : s ≤ 7) (hn : (cs.length : Int) = s * s) (k1 : 0 ≤ k) (k2 : k < 8) : List.Perm (Bd.mv s k cs) cs := by
  have hp : List.Perm ((List.range cs.length).map (Bd.imgN s k)) (List.range cs.length) := by
    refine perm_of_sub (nodup_map List.nodup_range fun a ha b hb he => ?_) (fun x hx => ?_) (by simp)
    · exact Bd.imgN_inj s k cs.length h1 h2 hn k1 k2 a b (List.mem_range.1 ha) (List.mem_range.1 hb) he
    · obtain ⟨p, hp, rfl⟩ := List.mem_map.1 hx
      exact List.mem_range.2 (Bd.imgN_lt s k cs.length p h1 h2 hn (List.mem_range.1 hp)).1
  have e1 := list_as_map (Bd.mv s k cs)
  rw [Bd.mv_len] at e1
  rw [e1]
  refine ((hp.map fun q => (Bd.mv s k cs).getD q 0).symm).trans ?_
  rw [List.map_map]
  conv => rhs; rw [list_as_map cs]
  have : (List.range cs.length).map ((fun q => (Bd.mv s k cs).getD q 0) ∘ Bd.imgN s k) = (List.range cs.length).map fun p => cs.getD p 0 := by
    apply List.map_congr_left
    intro p hp
    have hp' := List.mem_range.1 hp
    have := Bd.steps_at (f := Bd.imgN s k) (cs := cs) (l := cs) (j := cs.length) (fun a b ha hb he => Bd.imgN_inj s k cs.length h1 h2 hn k1 k2 a b ha hb he) (fun a ha => (Bd.imgN_lt s k cs.length a h1 h2 hn ha).1) hp'
    show (Bd.mv s k cs).getD (Bd.imgN s k p) 0 = _
    unfold Bd.mv
    rw [List.getD_eq_getElem?_getD, this]
    rfl
  rw [this]

theorem cnt_perm {a b : List Int} (h : List.Perm a b) (x : Int) : cnt x a = cnt x b := by
  unfold cnt
  rw [(h.filter _).length_eq]
theorem cnt_mv {s k : Int} {cs : List Int} (hv : Bd.okB s cs = true) (hk : Pt.okK k = true) (x : Int) : cnt x (Bd.mv s k cs) = cnt x cs := by
  obtain ⟨a, b, c, _⟩ := (Bd.okB_iff s cs).1 hv
  obtain ⟨k1, k2⟩ := (Pt.okK_iff k).1 hk
  exact cnt_perm (mv_perm a b c k1 k2) x
theorem cnt_oth {cs : List Int} (h : OkL cs) {x : Int} (x1 : 1 ≤ x) (x2 : x ≤ 2) : cnt (3 - x) (othCs cs) = cnt x cs := by
  rw [okL_mem] at h
  unfold cnt othCs
  rw [List.filter_map, List.length_map]
  congr 2
  apply List.filter_congr
  intro c hc
  have h3 : c = 0 ∨ c = 1 ∨ c = 2 := by have := h c hc; omega
  have h4 : x = 1 ∨ x = 2 := by omega
  rcases h3 with rfl | rfl | rfl <;> rcases h4 with rfl | rfl <;> rfl
theorem cnt_nonneg (x : Int) (cs : List Int) : 0 ≤ cnt x cs := by unfold cnt; omega
end Go.Proofs.Ytfpibldknjcehaa

namespace Go.Proofs.Ytfpibldknjcehaa
set_option maxRecDepth 100000
open Go.RowKit

theorem i_cntV (s : Int) (w : World) (A : Option Addr) (n c : Nat) (cs : List Int) (x N : Int) (h : Ints w w.heap.size A n cs) (hn : n ≤ 49) (hN : cntB s cs x = N) :
    Calls Try.prog 119 #[.agg #[.int .i64 s, .slice A n c], .int .i64 x] w fun e w' => e = .returned (.int .i64 N) ∧ Below w.heap.size w w' := by
  have := i_count s w w.heap.size A n c cs x h (Nat.le_refl _) (by omega)
  rwa [hN] at this
theorem cntB_mv {s k x N : Int} {cs : List Int} (hv : Bd.okB s cs = true) (hk : Pt.okK k = true) (hN : cntB s cs x = N) : cntB s (Bd.mv s k cs) x = N := by
  rw [← hN, cntB, cntB, if_pos hv, if_pos (okB_mv hv), cnt_mv hv hk]
theorem cntB_oth {s x N : Int} {cs : List Int} (hv : Bd.okB s cs = true) (x1 : 1 ≤ x) (x2 : x ≤ 2) (hN : cntB s cs x = N) : cntB s (othCs cs) (3 - x) = N := by
  rw [← hN, cntB, cntB, if_pos hv, if_pos (okB_oth hv), cnt_oth (okL_mem.2 ((Bd.okB_iff s cs).1 hv).2.2.2) x1 x2]
theorem cntB_ok {s x N : Int} {cs : List Int} (hN : cntB s cs x = N) (h0 : 0 ≤ N) : Bd.okB s cs = true := by
  rcases Bool.eq_false_or_eq_true (Bd.okB s cs) with h | h
  · exact h
  · rw [cntB, h] at hN
    have : (-1 : Int) = N := hN
    omega

theorem mv_at {s k : Int} {cs : List Int} (h1 : 1 ≤ s) (h2 : s ≤ 7) (hn : (cs.length : Int) = s * s) (k1 : 0 ≤ k) (k2 : k < 8) {p : Nat} (hp : p < cs.length) : (Bd.mv s k cs)[Bd.imgN s k p]? = some (cs.getD p 0) :=
  Bd.steps_at (f := Bd.imgN s k) (cs := cs) (l := cs) (j := cs.length) (fun a b ha hb he => Bd.imgN_inj s k cs.length h1 h2 hn k1 k2 a b ha hb he) (fun a ha => (Bd.imgN_lt s k cs.length a h1 h2 hn ha).1) hp
theorem imgN_comp {s a b : Int} {n p : Nat} (h1 : 1 ≤ s) (h2 : s ≤ 7) (hn : (n : Int) = s * s) (a1 : 0 ≤ a) (a2 : a < 8) (b1 : 0 ≤ b) (b2 : b < 8) (hp : p < n) : Bd.imgN s (Pt.comp a b) p = Bd.imgN s b (Bd.imgN s a p) := by
  obtain ⟨c1, c2⟩ := Pt.comp_bd a b a1 a2 b1 b2
  obtain ⟨l1, e1⟩ := Bd.imgN_lt s a n p h1 h2 hn hp
  have hc := Pt.comp_tr a b s p a1 a2 b1 b2 h1 h2 (by omega) (by omega)
  rw [Pt.tr_in s a p h1 h2 (by omega) (by omega) a1 a2, ← e1, Pt.tr_in s b _ h1 h2 (by omega) (by omega) b1 b2, Pt.tr_in s (Pt.comp a b) p h1 h2 (by omega) (by omega) c1 c2] at hc
  unfold Bd.imgN at hc ⊢
  rw [hc]
theorem mv_mv {s a b : Int} {cs : List Int} (h1 : 1 ≤ s) (h2 : s ≤ 7) (hn : (cs.length : Int) = s * s) (a1 : 0 ≤ a) (a2 : a < 8) (b1 : 0 ≤ b) (b2 : b < 8) : Bd.mv s b (Bd.mv s a cs) = Bd.mv s (Pt.comp a b) cs := by
  obtain ⟨c1, c2⟩ := Pt.comp_bd a b a1 a2 b1 b2
  have hl : (Bd.mv s a cs).length = cs.length := Bd.mv_len _ _ _
  apply List.ext_getElem?
  intro q
  by_cases hq : q < cs.length
  · obtain ⟨p, hp, rfl⟩ := Bd.imgN_sur s (Pt.comp a b) cs.length h1 h2 hn c1 c2 q hq
    obtain ⟨l1, _⟩ := Bd.imgN_lt s a cs.length p h1 h2 hn hp
    rw [mv_at h1 h2 hn c1 c2 hp, imgN_comp h1 h2 hn a1 a2 b1 b2 hp, mv_at h1 h2 (by rw [hl]; exact hn) b1 b2 (by rw [hl]; exact l1), List.getD_eq_getElem?_getD, mv_at h1 h2 hn a1 a2 hp]
    rfl
  · rw [List.getElem?_eq_none (by rw [Bd.mv_len, hl]; omega), List.getElem?_eq_none (by rw [Bd.mv_len]; omega)]

theorem Ints.dr {w : World} {n : Nat} {A : Option Addr} {xs : List Int} (h : Ints w w.heap.size A n xs) : Ints w.drew w.drew.heap.size A n xs := h
/-- An image whose size and cells have names. -/
theorem i_trW (s k : Int) (w : World) (A : Option Addr) (n c : Nat) (cs ds : List Int) (h : Ints w w.heap.size A n cs) (hn : n ≤ 49) (hv : Bd.okB s cs = true) (hk : Pt.okK k = true) (hd : Bd.mv s k cs = ds) :
    Calls Try.prog 17 #[.agg #[.int .i64 s, .slice A n c], .int .i64 k] w fun e w' => ∃ A1 c1, e = .returned (.agg #[.int .i64 s, .slice A1 n c1]) ∧ Own w' w.heap.size A1 n c1 ds ∧ Below w.heap.size w w' := by
  have hl := h.1
  refine (i_trV s w A n c cs k h hn hv hk).mono ?_
  rintro e w' ⟨A1, n1, c1, rfl, ho, hb⟩
  rw [hd] at ho
  have e1 := ho.1
  rw [← hd, Bd.mv_len] at e1
  obtain rfl : n1 = n := by omega
  exact ⟨_, _, rfl, ho, hb⟩
theorem len_comp {s k : Int} {cs : List Int} {n m : Nat} (h : (Bd.mv s k cs).length = m) (h0 : cs.length = n) : n = m := len_mv h h0
end Go.Proofs.Ytfpibldknjcehaa

