/-
  Switches: validity and heat; lists of switches in memory; the library's Compare of two ints.
-/
import Derived.Test.YtjolappndbmmaaaWords
import Derived.Deep.LoopGhost
import Derived.BigQuiet
import Derived.Deep.RegionHeld3
import Derived.Deep.DeepCutAuto
import Derived.RegionTactic
import Derived.IntWalk
namespace Go.Proofs.Ytjolappndbmmaaa.Sw
set_option maxRecDepth 100000
def ok (l r : Int) : Bool := decide (-99 ≤ r) && decide (r ≤ l) && decide (l ≤ 99)
theorem ok_iff {l r : Int} : ok l r = true ↔ -99 ≤ r ∧ r ≤ l ∧ l ≤ 99 := by simp [ok, and_assoc]
theorem ok_false {l r : Int} (h : ¬(-99 ≤ r ∧ r ≤ l ∧ l ≤ 99)) : ok l r = false := by rw [← Bool.not_eq_true, ok_iff]; exact h
def heat (l r : Int) : Int := if ok l r = true then l - r else -1
end Go.Proofs.Ytjolappndbmmaaa.Sw
namespace Go.Proofs.Ytjolappndbmmaaa
open Go.RowKit

theorem i_isnan (x : Int) (w : World) : Calls Try.prog 77 #[.int .i64 x] w fun r w' => r = .returned (.bool false) ∧ w = w' := by
  go_enter Try.func77, Try.ntmps77
  go_wp2
  go_ret
  exact ⟨ret_bool (by simp), rfl⟩
theorem i_cmpI (x y : Int) (w : World) : Calls Try.prog 59 #[.int .i64 x, .int .i64 y] w fun r w' => r = .returned (.int .i64 (if x < y then -1 else if y < x then 1 else 0)) ∧ w = w' := by
  by_cases h1 : x < y
  · go_enter Try.func59, Try.ntmps59
    go_wp2_with (go_at_call 77; refine (i_isnan _ _).mono ?_; rintro e w' ⟨rfl, rfl⟩)
    go_ret
    exact ⟨ret_int rfl, rfl⟩
  · by_cases h2 : y < x
    · go_enter Try.func59, Try.ntmps59
      go_wp2_with (go_at_call 77; refine (i_isnan _ _).mono ?_; rintro e w' ⟨rfl, rfl⟩)
      go_ret
      exact ⟨ret_int rfl, rfl⟩
    · go_enter Try.func59, Try.ntmps59
      go_wp2_with (go_at_call 77; refine (i_isnan _ _).mono ?_; rintro e w' ⟨rfl, rfl⟩)
      go_ret
      exact ⟨ret_int rfl, rfl⟩
theorem s_inR (x lo hi : Int) (w : World) : Calls Try.prog 43 #[.int .i64 x, .int .i64 lo, .int .i64 hi] w fun r w' => r = .returned (.bool (decide (lo ≤ x) && decide (x ≤ hi))) ∧ w = w' := by
  by_cases h1 : lo ≤ x
  · go_enter Try.func43, Try.ntmps43
    go_wp2
    go_ret
    exact ⟨ret_bool (by simp [h1]), rfl⟩
  · have hd : decide (lo ≤ x) = false := by simpa using h1
    go_enter Try.func43, Try.ntmps43
    go_wp2
    go_ret
    exact ⟨rfl, rfl⟩
theorem inR_t {x lo hi : Int} (h1 : lo ≤ x) (h2 : x ≤ hi) : (decide (lo ≤ x) && decide (x ≤ hi)) = true := by simp [h1, h2]
theorem inR_f {x lo hi : Int} (h : ¬(lo ≤ x ∧ x ≤ hi)) : (decide (lo ≤ x) && decide (x ≤ hi)) = false := by
  rw [← Bool.not_eq_true, Bool.and_eq_true, decide_eq_true_eq, decide_eq_true_eq]; exact h
theorem s_inRv (x lo hi : Int) (b : Bool) (w : World) (h : Hid ((decide (lo ≤ x) && decide (x ≤ hi)) = b)) : Calls Try.prog 43 #[.int .i64 x, .int .i64 lo, .int .i64 hi] w fun r w' => r = .returned (.bool b) ∧ w = w' := by
  rw [← h.out]; exact s_inR x lo hi w
theorem s_inRq (x lo hi : Int) (b : Bool) (w : World) (h : Hid ((decide (lo ≤ x) && decide (x ≤ hi)) = b)) : Calls Try.prog 43 #[.int .i64 x, .int .i64 lo, .int .i64 hi] w fun r w' => r = .returned (.bool b) ∧ w' = w :=
  (s_inRv x lo hi b w h).mono fun _ _ h => ⟨h.1, h.2.symm⟩
theorem i_swok (l r : Int) (w : World) : Calls Try.prog 63 #[.agg #[.int .i64 l, .int .i64 r]] w fun e w' => e = .returned (.bool (Sw.ok l r)) ∧ Below w.heap.size w w' := by
  by_cases h1 : -99 ≤ r
  · by_cases h2 : r ≤ l
    · by_cases h3 : l ≤ 99
      · have hf := Lib.hid (Sw.ok_iff.2 ⟨h1, h2, h3⟩)
        go_enter Try.func63, Try.ntmps63
        go_wp2
        go_ret
        exact ⟨by rw [hf.out]; first | rfl | simp [h3], (Below.refl _ _).alloc (Nat.le_refl _) _⟩
      · have hf := Lib.hid (Sw.ok_false (l := l) (r := r) (by omega))
        have hd : decide (l ≤ 99) = false := by simpa using h3
        go_enter Try.func63, Try.ntmps63
        go_wp2
        go_ret
        exact ⟨by rw [hf.out]; first | rfl | (rw [← hd]; rfl), (Below.refl _ _).alloc (Nat.le_refl _) _⟩
    · have hf := Lib.hid (Sw.ok_false (l := l) (r := r) (by omega))
      go_enter Try.func63, Try.ntmps63
      go_wp2
      go_ret
      exact ⟨by rw [hf.out]; rfl, (Below.refl _ _).alloc (Nat.le_refl _) _⟩
  · have hf := Lib.hid (Sw.ok_false (l := l) (r := r) (by omega))
    go_enter Try.func63, Try.ntmps63
    go_wp2
    go_ret
    exact ⟨by rw [hf.out]; rfl, (Below.refl _ _).alloc (Nat.le_refl _) _⟩
theorem i_swheat (l r : Int) (w : World) (h : Sw.ok l r = true) : Calls Try.prog 60 #[.agg #[.int .i64 l, .int .i64 r]] w fun e w' => e = .returned (.int .i64 (l - r)) ∧ Below w.heap.size w w' := by
  obtain ⟨h1, h2, h3⟩ := Sw.ok_iff.1 h
  clear h
  go_enter Try.func60, Try.ntmps60
  go_wp2
  go_ret
  exact ⟨rfl, (Below.refl _ _).alloc (Nat.le_refl _) _⟩

/-- The slice at A of n switches reads as the pairs ls, and its memory lies below block B. -/
def Sws (w : World) (B : Nat) (A : Option Addr) (n : Nat) (ls : List (Int × Int)) : Prop :=
  ls.length = n ∧ (n = 0 ∨ ∃ b o, A = some ⟨b, o, none⟩ ∧ b < B ∧ ∀ j, j < n → w.cell? ⟨b, o + j * 2, none⟩ = some (.int .i64 (ls.getD j (0, 0)).1) ∧ w.cell? ⟨b, o + j * 2 + 1, none⟩ = some (.int .i64 (ls.getD j (0, 0)).2))
def Sw.all (ls : List (Int × Int)) : Bool := ls.all fun x => Sw.ok x.1 x.2
theorem Sw.all_iff {ls : List (Int × Int)} : Sw.all ls = true ↔ ∀ k, k < ls.length → Sw.ok (ls.getD k (0, 0)).1 (ls.getD k (0, 0)).2 = true := by
  unfold Sw.all
  rw [List.all_eq_true]
  constructor
  · intro h k hk
    rw [List.getD_eq_getElem?_getD, List.getElem?_eq_getElem hk]
    exact h _ (List.getElem_mem _)
  · intro h x hx
    obtain ⟨k, hk, rfl⟩ := List.mem_iff_getElem.1 hx
    have := h k hk
    rw [List.getD_eq_getElem?_getD, List.getElem?_eq_getElem hk] at this
    exact this
theorem Sw.all_next {ls : List (Int × Int)} {k : Nat} {l r : Int} (hk : k < ls.length) (h : Sw.all (ls.take k) = true) (hlr : ls.getD k (0, 0) = (l, r)) (ho : Sw.ok l r = true) : Sw.all (ls.take (k + 1)) = true := by
  have hg : ls[k] = (l, r) := by rw [List.getD_eq_getElem?_getD, List.getElem?_eq_getElem hk] at hlr; exact hlr
  rw [List.take_add_one, List.getElem?_eq_getElem hk, hg]
  unfold Sw.all at h ⊢
  rw [List.all_append, h]
  simp [ho]
theorem Sw.all_bad {ls : List (Int × Int)} {k : Nat} {l r : Int} (hk : k < ls.length) (hlr : ls.getD k (0, 0) = (l, r)) (ho : Sw.ok l r = false) : Sw.all ls = false := by
  rw [← Bool.not_eq_true, Sw.all_iff]
  intro h
  have := h k hk
  rw [hlr, ho] at this
  exact absurd this (by decide)

set_option maxRecDepth 100000 in
set_option maxHeartbeats 1000000 in
theorem s_vsw (w : World) (B : Nat) (A : Option Addr) (n c : Nat) (ls : List (Int × Int)) (h : Sws w B A n ls) (hn : n ≤ 1048576) : Calls Try.prog 61 #[.slice A n c] w fun e w' => e = .returned (.bool (Sw.all ls && decide (n ≤ 6))) ∧ Below w.heap.size w w' := by
  obtain ⟨hl, h⟩ := h
  have Hl := Lib.hid hl
  have H := Lib.hid h
  clear h hl
  go_enter Try.func61, Try.ntmps61
  go_wp2_with fail
  go_loopg [3] (n + 1) (fun q v wr => ∃ k : Nat, k + q = n + 1 ∧ k ≤ n ∧ v = .int .i64 (k : Nat) ∧ Sw.all (ls.take k) = true ∧ (∀ a, wr.cell? a = w.cell? a) ∧ Below w.heap.size w wr)
  case atStart => exact ⟨0, by omega, by omega, rfl, rfl, fun _ => rfl, Below.refl _ _⟩
  case round =>
    obtain ⟨k, hk, hkn, rfl, hal, hcl, hbw⟩ := hrel
    have Hcl := Lib.hid hcl
    have Hb := Lib.hid hbw
    clear hcl hbw
    have Hal := Lib.hid hal
    clear hal
    by_cases hk2 : k = n
    · have hlt : ¬ ((k : Nat) : Int) < n := by omega
      have hf : Sw.all ls = true := by have := Hal.out; rw [hk2, ← Hl.out, List.take_length] at this; exact this
      have Hf := Lib.hid hf
      clear hf hk2
      go_wp2_with fail
      go_ret
      exact ⟨by rw [Hf.out, Bool.true_and]; first | rfl | (congr 2; simp; omega), Hb.out⟩
    · have hlt : ((k : Nat) : Int) < n := by omega
      have hk0 : (0 : Int) ≤ (k : Nat) := by omega
      rcases H.out with h0 | ⟨b, o, rfl, hb, hc⟩
      · omega
      · obtain ⟨c0, c1⟩ := hc k (by omega)
        obtain ⟨⟨l, r⟩, hlr⟩ : ∃ x, ls.getD k (0, 0) = x := ⟨_, rfl⟩
        rw [hlr] at c0 c1
        simp only at c0 c1
        have hkl : k < ls.length := by rw [Hl.out]; omega
        have c0 : wr.cell? ⟨b, o + k * 2, none⟩ = some (.int .i64 l) := (Hcl.out _).trans c0
        have c1 : wr.cell? ⟨b, o + k * 2 + 1, none⟩ = some (.int .i64 r) := (Hcl.out _).trans c1
        clear hc
        by_cases h1 : -99 ≤ l ∧ l ≤ 99
        · have H1 := Lib.hid (inR_t h1.1 h1.2)
          by_cases h2 : -99 ≤ r ∧ r ≤ l
          · have H2 := Lib.hid (inR_t h2.1 h2.2)
            have Hn := Lib.hid (Sw.all_next hkl Hal.out hlr (Sw.ok_iff.2 ⟨h2.1, h2.2, h1.2⟩))
            clear h1 h2 hlr hkl
            go_wp2_with fail
            go_region_held3 (fun w' => w'.cell? ⟨b, o + k * 2, none⟩ = some (.int .i64 l) ∧ w'.cell? ⟨b, o + k * 2 + 1, none⟩ = some (.int .i64 r)) (first | exact ⟨c0, c1⟩ | go_keep) (first | (go_at_call 43; (with_reducible show Calls _ _ #[.int .i64 l, _, _] _ _); refine (s_inRv l (-99) 99 true _ H1).mono ?_; rintro e w' ⟨rfl, rfl⟩) | (go_at_call 43; (with_reducible show Calls _ _ #[.int .i64 r, _, _] _ _); refine (s_inRv r (-99) l true _ H2).mono ?_; rintro e w' ⟨rfl, rfl⟩))
            all_goals go_wp2_with fail
            all_goals (go_roundg (n - k); (case measure => omega); (case rel => exact ⟨k + 1, by omega, by omega, rfl, Hn.out, Hcl.out, Hb.out.os, Hb.out.tape, Hb.out.output, Hb.out.size, Hb.out.block⟩))
          · have H2 := Lib.hid (inR_f h2)
            have Hn := Lib.hid (Sw.all_bad hkl hlr (Sw.ok_false (fun h => h2 ⟨h.1, h.2.1⟩)))
            clear h1 h2 hlr hkl
            go_wp2_with fail
            go_region_held3 (fun w' => w'.cell? ⟨b, o + k * 2, none⟩ = some (.int .i64 l) ∧ w'.cell? ⟨b, o + k * 2 + 1, none⟩ = some (.int .i64 r)) (first | exact ⟨c0, c1⟩ | go_keep) (first | (go_at_call 43; (with_reducible show Calls _ _ #[.int .i64 l, _, _] _ _); refine (s_inRv l (-99) 99 true _ H1).mono ?_; rintro e w' ⟨rfl, rfl⟩) | (go_at_call 43; (with_reducible show Calls _ _ #[.int .i64 r, _, _] _ _); refine (s_inRv r (-99) l false _ H2).mono ?_; rintro e w' ⟨rfl, rfl⟩))
            all_goals go_wp2_with fail
            all_goals go_ret
            all_goals exact ⟨by rw [Hn.out]; rfl, Hb.out.os, Hb.out.tape, Hb.out.output, Hb.out.size, Hb.out.block⟩
        · have H1 := Lib.hid (inR_f h1)
          have Hn := Lib.hid (Sw.all_bad hkl hlr (Sw.ok_false (fun h => h1 ⟨Int.le_trans h.1 h.2.1, h.2.2⟩)))
          clear h1 hlr hkl
          go_wp2_with fail
          go_quiet ((go_at_call 43; exact Calls.quiet_of_same (s_inRq l (-99) 99 false _ H1)))
          all_goals go_wp2_with fail
          all_goals go_ret
          all_goals exact ⟨by rw [Hn.out]; rfl, Hb.out.os, Hb.out.tape, Hb.out.output, Hb.out.size, Hb.out.block⟩
end Go.Proofs.Ytjolappndbmmaaa
