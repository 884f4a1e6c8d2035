/-
  Lists of lists: comparing, marking, and finding the marks.
-/
import Derived.Test.YtkjlcokbgpnejaaSS
import Derived.Test.YtkjlcokbgpnejaaListsB
import Derived.Deep.RegionWith
import Derived.Deep.DeepCutAuto
namespace Go.Proofs.Ytkjlcokbgpnejaa
set_option maxRecDepth 100000
open Go.RowKit

set_option maxRecDepth 100000 in
set_option maxHeartbeats 2000000 in
theorem eqss_b (w : World) (A A' : Option Addr) (n c c' : Nat) (xss : List (List Int)) (h : IntsS w A n xss) (h' : IntsS w A' n xss) (hn : n ≤ 1000000) (hsm : ∀ j, j < n → (xss.getD j []).length ≤ 1000000) :
    Calls Try.prog 15 #[.slice A n c, .slice A' n c'] w fun e w' => e = .returned (.bool true) ∧ Below w.heap.size w w' := by
  by_cases h0 : n = 0
  · subst h0
    clear h h' hsm
    go_enter Try.func15, Try.ntmps15
    go_wp2_with fail
    go_rounds 1
    go_ret
    exact ⟨rfl, Below.refl _ _⟩
  · obtain ⟨b, o, rfl, hlt, hc⟩ : ∃ b o, A = some ⟨b, o, none⟩ ∧ b < w.heap.size ∧ ∀ j, j < n → ∃ Aj nj cj, w.cell? ⟨b, o + j, none⟩ = some (.slice Aj nj cj) ∧ Ints w w.heap.size Aj nj (xss.getD j []) := by
      rcases h.2 with e | e
      · exact absurd e h0
      · exact e
    obtain ⟨b', o', rfl, hlt', hc'⟩ : ∃ b o, A' = some ⟨b, o, none⟩ ∧ b < w.heap.size ∧ ∀ j, j < n → ∃ Aj nj cj, w.cell? ⟨b, o + j, none⟩ = some (.slice Aj nj cj) ∧ Ints w w.heap.size Aj nj (xss.getD j []) := by
      rcases h'.2 with e | e
      · exact absurd e h0
      · exact e
    have Hc := Lib.hid hc
    have Hc' := Lib.hid hc'
    have Hsm := Lib.hid hsm
    clear h h' hc hc' hsm
    go_enter Try.func15, Try.ntmps15
    go_wp2_with fail
    go_loopw [5] (fun i wr => ∃ k : Nat, k ≤ n ∧ i = .int .i64 k ∧ Below w.heap.size w wr) (fun i _ => n - (intOf i).toNat)
    case atStart => exact ⟨0, by omega, rfl, Below.refl _ _⟩
    case round =>
      obtain ⟨k, hk, rfl, hb⟩ := hrel
      have Hb := Lib.hid hb
      have hz := hb.size
      clear hb
      obtain ⟨wo, rfl⟩ : ∃ wo : World, wo = wr := ⟨_, rfl⟩
      by_cases hkn : k < n
      · obtain ⟨A1, n1, c1, e1, i1⟩ := Hc.out k hkn
        obtain ⟨A2, n2, c2, e2, i2⟩ := Hc'.out k hkn
        have hs := Hsm.out k hkn
        have l1 := i1.1
        have l2 := i2.1
        obtain rfl : n2 = n1 := by omega
        have ck := (Hb.out.cell (p := ⟨b, o + k, none⟩) (by show b < _; omega)).trans e1
        have ck' := (Hb.out.cell (p := ⟨b', o' + k, none⟩) (by show b' < _; omega)).trans e2
        have I1 := Lib.hid (i1.below Hb.out (Nat.le_refl _))
        have I2 := Lib.hid (i2.below Hb.out (Nat.le_refl _))
        have hki : (k : Int) < n := by omega
        have hs2 : n2 ≤ 1000000000 := by omega
        clear e1 e2 i1 i2 l1 l2 hs
        go_upto_region 6 with (fail)
        go_cut [26] (fun v wx => v = .bool false ∧ Below wo.heap.size wo wx)
        case first =>
          go_region_with (go_at_call 22; refine (eqs_t _ _ _ _ _ _ _ _ _ (by exact I1.out) (by exact I2.out) hs2).mono ?_; rintro e ya ⟨d, rfl, rfl⟩)
          all_goals go_wp2_with fail
          all_goals go_meet
          all_goals exact ⟨rfl, ⟨rfl, rfl, rfl, Nat.le_refl _, fun _ _ => rfl⟩⟩
        case rest =>
          obtain ⟨rfl, hb2⟩ := hcut
          have Hb2 := Lib.hid (Hb.out.trans (hb2.mono (by omega)))
          clear hb2 ck ck'
          go_wp2_with fail
          go_roundw
          case rel => exact ⟨k + 1, by omega, by go_num, Hb2.out⟩
          case measure => simp [intOf]; omega
      · go_wp2_with fail
        go_ret
        exact ⟨rfl, Hb.out⟩

/-- How many ints the first j rows have. -/
def off (xss : List (List Int)) : Nat → Nat
  | 0 => 0
  | j + 1 => off xss j + (xss.getD j []).length
theorem off_le {xss : List (List Int)} {n M : Nat} (h : ∀ j, j < n → (xss.getD j []).length ≤ M) : ∀ j, j ≤ n → off xss j ≤ j * M := by
  intro j
  induction j with
  | zero => intro _; exact Nat.zero_le _
  | succ j ih =>
    intro hj
    have h1 := ih (by omega)
    have h2 := h j (by omega)
    show off xss j + _ ≤ _
    rw [Nat.succ_mul]
    omega

/-- The rows hold marks, each beginning where the one before ended. -/
def Mk (k : Int) (n : Nat) (xss yss : List (List Int)) : Prop := yss.length = n ∧ ∀ i, i < n → yss.getD i [] = marks (k + off xss i) (xss.getD i []).length

set_option maxRecDepth 100000 in
set_option maxHeartbeats 2000000 in
theorem markss (w : World) (B hi : Nat) (A : Option Addr) (n c : Nat) (xss : List (List Int)) (k : Int) (h : SS w B hi A n c xss) (hB : B ≤ w.heap.size) (hn : n ≤ 1000) (hsm : ∀ j, j < n → (xss.getD j []).length ≤ 1000) (k1 : 0 ≤ k) (k2 : k ≤ 1000) :
    Calls Try.prog 18 #[.slice A n c, .int .i64 k] w fun e w' => ∃ yss, e = .returned (.int .i64 (k + off xss n)) ∧ SS w' B hi A n c yss ∧ Mk k n xss yss ∧ Below B w w' := by
  have hl := h.len
  have H := Lib.hid h
  have Hoff := Lib.hid (off_le hsm)
  have Hsm := Lib.hid hsm
  clear h hsm
  go_enter Try.func18, Try.ntmps18
  go_wp2_with fail
  go_loopw [1, 5] (fun q i wr => ∃ (j : Nat) (yss : List (List Int)), j ≤ n ∧ i = .int .i64 (j : Nat) ∧ q = .int .i64 (k + (off xss j : Nat)) ∧ SS wr B hi A n c yss ∧ (∀ i, i < n → yss.getD i [] = if i < j then marks (k + (off xss i : Nat)) (xss.getD i []).length else xss.getD i []) ∧ Below B w wr) (fun _ i _ => n - (intOf i).toNat)
  case atStart => exact ⟨0, xss, by omega, rfl, by simp [off], H.out, fun i _ => by simp, Below.refl _ _⟩
  case round =>
    clear H
    obtain ⟨j, yss, hj, rfl, rfl, hss, hy, hb⟩ := hrel
    have ho := Hoff.out j hj
    have ho2 : j * 1000 ≤ 1000 * 1000 := Nat.mul_le_mul_right _ (by omega)
    have hz := hb.size
    by_cases hjn : j < n
    · obtain ⟨b, A1, n1, c1, rfl, ck, hrow, hset⟩ := hss.at_ hjn
      have e1 := hy j hjn
      rw [if_neg (Nat.lt_irrefl _)] at e1
      have hrl := hrow.1
      rw [e1] at hrl
      have hs := Hsm.out j hjn
      have Hrow := Lib.hid hrow
      have Hset := Lib.hid hset
      have Hy := Lib.hid hy
      have Hb := Lib.hid hb
      have Hyl := Lib.hid hss.len
      have hji : (j : Int) < n := by omega
      have Hrl := Lib.hid hrl
      have hn1 : n1 ≤ 1000 := by omega
      obtain ⟨f, hf⟩ : ∃ f, off xss j = f := ⟨_, rfl⟩
      have Hf := Lib.hid hf
      rw [hf] at ho ⊢
      clear hss hy hb hrow hset e1 hrl hf
      go_wp2_with fail
      refine (mark_any _ _ _ _ _ _ (k + (f : Nat)) Hrow.out (by omega) (by omega) (by omega)).mono ?_
      rintro e y ⟨rfl, hm, hg⟩
      have Hs := Lib.hid (Hset.out y _ hm hg)
      have Hb2 : Hid (Below B w y) := Lib.hid (Hb.out.grown hg (by omega) (fun q e => ((Hrow.out.ge (slice_block e (row_form Hrow.out.2))).1)))
      clear hm hg
      go_wp2_with fail
      go_roundw
      case rel =>
        refine ⟨j + 1, _, by omega, by go_num, ?_, Hs.out, fun i hi => ?_, Hb2.out⟩
        · have : off xss (j + 1) = f + n1 := by show off xss j + _ = _; rw [Hf.out, Hrl.out]
          rw [this]
          simp [Int.add_assoc]
        · by_cases e : i = j
          · subst e
            rw [if_pos (Nat.lt_succ_self _), Hrl.out, Hf.out]
            simp [List.getD_eq_getElem?_getD, Hyl.out, hjn]
          · rw [show (yss.set j (marks (k + (f : Nat)) n1)).getD i [] = yss.getD i [] by simp [List.getD_eq_getElem?_getD, Ne.symm e], Hy.out i hi]
            by_cases e2 : i < j
            · rw [if_pos e2, if_pos (by omega)]
            · rw [if_neg e2, if_neg (by omega)]
      case measure => simp [intOf]; omega
    · obtain rfl : j = n := by omega
      have Hss := Lib.hid hss
      have Hmk : Hid (Mk k j xss yss) := Lib.hid ⟨hss.len, fun i hi => by rw [hy i hi, if_pos hi]⟩
      have Hb := Lib.hid hb
      clear hss hy hb
      go_wp2_with fail
      go_ret
      exact ⟨_, rfl, Hss.out, Hmk.out, Hb.out⟩

set_option maxRecDepth 100000 in
set_option maxHeartbeats 2000000 in
theorem heldss (w : World) (A : Option Addr) (n c : Nat) (xss yss : List (List Int)) (k : Int) (h : IntsS w A n yss) (hmk : Mk k n xss yss) (hn : n ≤ 1000) (hsm : ∀ j, j < n → (xss.getD j []).length ≤ 1000) (k1 : 0 ≤ k) (k2 : k ≤ 1000) :
    Calls Try.prog 19 #[.slice A n c, .int .i64 k] w fun e w' => e = .returned (.int .i64 (k + off xss n)) ∧ Below w.heap.size w w' := by
  by_cases h0 : n = 0
  · subst h0
    clear h hmk hsm
    go_enter Try.func19, Try.ntmps19
    go_wp2_with fail
    go_rounds 1
    go_ret
    exact ⟨by simp [off], Below.refl _ _⟩
  · obtain ⟨b, o, rfl, hlt, hc⟩ : ∃ b o, A = some ⟨b, o, none⟩ ∧ b < w.heap.size ∧ ∀ j, j < n → ∃ Aj nj cj, w.cell? ⟨b, o + j, none⟩ = some (.slice Aj nj cj) ∧ Ints w w.heap.size Aj nj (yss.getD j []) := by
      rcases h.2 with e | e
      · exact absurd e h0
      · exact e
    have Hc := Lib.hid hc
    have Hmk := Lib.hid hmk
    have Hoff := Lib.hid (off_le hsm)
    have Hsm := Lib.hid hsm
    clear h hc hmk hsm
    go_enter Try.func19, Try.ntmps19
    go_wp2_with fail
    go_loopw [1, 5] (fun q i wr => ∃ j : Nat, j ≤ n ∧ i = .int .i64 (j : Nat) ∧ q = .int .i64 (k + (off xss j : Nat)) ∧ wr = w) (fun _ i _ => n - (intOf i).toNat)
    case atStart => exact ⟨0, by omega, rfl, by simp [off], rfl⟩
    case round =>
      obtain ⟨j, hj, rfl, rfl, rfl⟩ := hrel
      have ho := Hoff.out j hj
      have ho2 : j * 1000 ≤ 1000 * 1000 := Nat.mul_le_mul_right _ (by omega)
      by_cases hjn : j < n
      · obtain ⟨A1, n1, c1, e1, i1⟩ := Hc.out j hjn
        rw [Hmk.out.2 j hjn] at i1
        have hs := Hsm.out j hjn
        have hrl := i1.1
        rw [marks_len] at hrl
        have hn1 : n1 ≤ 1000 := by omega
        rw [hrl] at i1
        have Hrl := Lib.hid hrl
        obtain ⟨f, hf⟩ : ∃ f, off xss j = f := ⟨_, rfl⟩
        have Hf := Lib.hid hf
        rw [hf] at ho i1 ⊢
        have Hi := Lib.hid i1
        have hji : (j : Int) < n := by omega
        clear i1 hrl hf hs
        go_wp2_with fail
        refine (held_t _ _ _ _ _ (k + (f : Nat)) Hi.out (by omega) (by omega) (by omega)).mono ?_
        rintro e y ⟨rfl, rfl⟩
        have hpos : ¬ (k + (f : Int) + (n1 : Int) < 0) := by omega
        go_wp2_with fail
        go_roundw
        case rel =>
          refine ⟨j + 1, by omega, by go_num, ?_, by first | rfl | trivial⟩
          have : off xss (j + 1) = f + n1 := by show off xss j + _ = _; rw [Hf.out, Hrl.out]
          rw [this]
          simp [Int.add_assoc]
        case measure => simp [intOf]; omega
      · obtain rfl : j = n := by omega
        go_wp2_with fail
        go_ret
        exact ⟨rfl, Below.refl _ _⟩
end Go.Proofs.Ytkjlcokbgpnejaa
