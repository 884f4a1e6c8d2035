/-
  The library's stable sort of at most six indices; valid switches of the program.
-/
import Derived.Test.YtjolappndbmmaaaHoS
namespace Go.Proofs.Ytjolappndbmmaaa
set_option maxRecDepth 100000
open Go.RowKit

theorem i_stable (w : World) (Bq g n c gb b o cl : Nat) (H : Int → Int) (hn1 : 1 ≤ n) (hn : n ≤ 6) (ho : Own w Bq (some ⟨g, 0, none⟩) n c (Ho.rng n)) (hcl : Clo w gb b o n cl H) (hgb : gb < Bq) (hbb : b < Bq) :
    Calls Try.prog 76 #[.slice (some ⟨g, 0, none⟩) n c, .int .i64 n, .func (.func 58) #[] #[.pointer (some ⟨gb, 0, none⟩)]] w fun e w' => e = .returned (.tuple #[]) ∧ ∃ d, Ho.Ord H n d ∧ Own w' Bq (some ⟨g, 0, none⟩) n c d ∧ Below Bq w w' := by
  have HO := Lib.hid ho
  have HC := Lib.hid hcl
  have h20 : ¬ (20 : Int) ≤ n := by omega
  have h21 : ¬ (20 : Int) < n := by omega
  clear ho hcl
  go_enter Try.func76, Try.ntmps76
  go_wp2_with fail
  refine wp_loop_rounds 1 ?_
  rw [rounds_succ]
  go_wp2_with fail
  refine (i_ins w Bq g n c gb b o cl H hn1 (by omega) HO.out HC.out hgb hbb).mono ?_
  rintro e w1 ⟨rfl, hx⟩
  have HX := Lib.hid hx
  clear hx
  go_wp2_with fail
  refine wp_loop_rounds 1 ?_
  rw [rounds_succ]
  go_wp2_with fail
  go_end0
  exact ⟨rfl, HX.out⟩
theorem i_sortStable (w : World) (Bq g n c gb b o cl : Nat) (H : Int → Int) (hn1 : 1 ≤ n) (hn : n ≤ 6) (ho : Own w Bq (some ⟨g, 0, none⟩) n c (Ho.rng n)) (hcl : Clo w gb b o n cl H) (hgb : gb < Bq) (hbb : b < Bq) :
    Calls Try.prog 57 #[.slice (some ⟨g, 0, none⟩) n c, .func (.func 58) #[] #[.pointer (some ⟨gb, 0, none⟩)]] w fun e w' => e = .returned (.tuple #[]) ∧ ∃ d, Ho.Ord H n d ∧ Own w' Bq (some ⟨g, 0, none⟩) n c d ∧ Below Bq w w' := by
  have HO := Lib.hid ho
  have HC := Lib.hid hcl
  clear ho hcl
  go_enter Try.func57, Try.ntmps57
  go_wp2_with fail
  refine (i_stable w Bq g n c gb b o cl H hn1 hn HO.out HC.out hgb hbb).mono ?_
  rintro e w1 ⟨rfl, hx⟩
  have HX := Lib.hid hx
  clear hx
  go_wp2_with fail
  go_end0
  exact ⟨rfl, HX.out⟩
/-- Nothing to sort. -/
theorem i_insN (w : World) (c : Nat) (f : Value) :
    Calls Try.prog 90 #[.slice none 0 c, .int .i64 0, .int .i64 0, f] w fun e w' => e = .returned (.tuple #[]) ∧ w' = w := by
  go_enter Try.func90, Try.ntmps90
  go_wp2_with fail
  refine wp_loop_rounds 1 ?_
  rw [rounds_succ]
  go_wp2_with fail
  go_end0
  exact ⟨rfl, rfl⟩
theorem i_stableN (w : World) (c : Nat) (f : Value) :
    Calls Try.prog 76 #[.slice none 0 c, .int .i64 0, f] w fun e w' => e = .returned (.tuple #[]) ∧ w' = w := by
  go_enter Try.func76, Try.ntmps76
  go_wp2_with fail
  refine wp_loop_rounds 1 ?_
  rw [rounds_succ]
  go_wp2_with fail
  refine (i_insN w c f).mono ?_
  rintro e w1 ⟨rfl, rfl⟩
  go_wp2_with fail
  refine wp_loop_rounds 1 ?_
  rw [rounds_succ]
  go_wp2_with fail
  go_end0
  exact ⟨rfl, rfl⟩
theorem i_sortStableN (w : World) (c : Nat) (f : Value) :
    Calls Try.prog 57 #[.slice none 0 c, f] w fun e w' => e = .returned (.tuple #[]) ∧ w' = w := by
  go_enter Try.func57, Try.ntmps57
  go_wp2_with fail
  refine (i_stableN w c f).mono ?_
  rintro e w1 ⟨rfl, rfl⟩
  go_wp2_with fail
  go_end0
  exact ⟨rfl, rfl⟩

theorem Sws.below {w w' : World} {B n : Nat} {A : Option Addr} {ls : List (Int × Int)} (h : Sws w B A n ls) (hb : Below w.heap.size w w') : Sws w' B A n ls := by
  refine ⟨h.1, ?_⟩
  rcases h.2 with h0 | ⟨b, o, hA, hbB, hc⟩
  · exact .inl h0
  · exact .inr ⟨b, o, hA, hbB, fun j hj => ⟨cell_below (hc j hj).1 hb, cell_below (hc j hj).2 hb⟩⟩

set_option maxRecDepth 100000 in
set_option maxHeartbeats 4000000 in
theorem i_vsw (w : World) (B : Nat) (A : Option Addr) (n c : Nat) (ls : List (Int × Int)) (h : Sws w B A n ls) (hn : n ≤ 1048576) : Calls Try.prog 56 #[.slice A n c] w fun e w' => e = .returned (.bool (decide (n ≤ 6) && Sw.all ls)) ∧ Below w.heap.size w w' := by
  have Hl := Lib.hid h.1
  have H := Lib.hid h
  clear h
  by_cases h6 : n ≤ 6
  · have h6i : ¬ (6 : Int) < n := by omega
    have hd := Lib.hid (decide_eq_true h6)
    go_enter Try.func56, Try.ntmps56
    go_wp2_with fail
    go_loopg [10] (n + 1) (fun q v wr => ∃ k : Nat, k + q = n + 1 ∧ k ≤ n ∧ v = .int .i64 (k : Nat) ∧ Sw.all (ls.take k) = true ∧ Below w.heap.size w wr)
    case atStart => exact ⟨0, by omega, by omega, rfl, rfl, Below.refl _ _⟩
    case round =>
      obtain ⟨k, hk, hkn, rfl, hal, hb⟩ := hrel
      obtain ⟨wi, rfl⟩ : ∃ wi : World, wi = wr := ⟨_, rfl⟩
      have Hal := Lib.hid hal
      have Hb := Lib.hid hb
      have Hsw := Lib.hid (H.out.below hb)
      clear hal hb
      by_cases hk2 : k = n
      · have hlt : ¬ ((k : Nat) : Int) < n := by omega
        have hf : Sw.all ls = true := by have := Hal.out; rw [hk2, ← Hl.out, List.take_length] at this; exact this
        have Hf := Lib.hid hf
        clear hf hk2
        go_wp2_with fail
        go_ret
        exact ⟨by first | (rw [Hf.out, hd.out]; rfl) | (rw [Hf.out]; rfl) | rfl, Hb.out⟩
      · have hlt : ((k : Nat) : Int) < n := by omega
        have hk0 : (0 : Int) ≤ (k : Nat) := by omega
        rcases Hsw.out.2 with h0 | ⟨b, o, rfl, hbB, hc⟩
        · omega
        · obtain ⟨c0, c1⟩ := hc k (by omega)
          obtain ⟨⟨l, r⟩, hlr⟩ : ∃ x, ls.getD k (0, 0) = x := ⟨_, rfl⟩
          rw [hlr] at c0 c1
          simp only at c0 c1
          have hkl : k < ls.length := by rw [Hl.out]; omega
          clear hc
          go_wp2_with fail
          obtain ⟨w2, hw2, hb2⟩ : ∃ w2, w2 = wi.alloc (.cells #[.int .i64 l, .int .i64 r] 39) ∧ Below wi.heap.size wi w2 := ⟨_, rfl, (Below.refl _ _).alloc (Nat.le_refl _) _⟩
          rw [← hw2]
          have Hb2 := Lib.hid (bstep Hb.out hb2)
          clear hw2 hb2
          refine (i_swok l r _).mono ?_
          rintro e w3 ⟨rfl, hb3⟩
          have Hb3 := Lib.hid (bstep Hb2.out hb3)
          clear hb3
          by_cases hok : Sw.ok l r = true
          · have Hn := Lib.hid (Sw.all_next hkl Hal.out hlr hok)
            rw [hok]
            clear hok hlr hkl
            go_wp2_with fail
            go_roundg (n - k)
            case measure => omega
            case rel => exact ⟨k + 1, by omega, by omega, by go_num, Hn.out, Hb3.out⟩
          · have hok' : Sw.ok l r = false := by simpa using hok
            have Hn := Lib.hid (Sw.all_bad hkl hlr hok')
            rw [hok']
            clear hok hok' hlr hkl
            go_wp2_with fail
            go_ret
            exact ⟨by first | (rw [Hn.out, hd.out]; rfl) | (rw [Hn.out]; rfl) | rfl, Hb3.out⟩
  · have h6i : (6 : Int) < n := by omega
    have hd := Lib.hid (decide_eq_false h6)
    go_enter Try.func56, Try.ntmps56
    go_wp2_with fail
    go_ret
    exact ⟨by first | (rw [hd.out]; rfl) | rfl, Below.refl _ _⟩
end Go.Proofs.Ytjolappndbmmaaa
