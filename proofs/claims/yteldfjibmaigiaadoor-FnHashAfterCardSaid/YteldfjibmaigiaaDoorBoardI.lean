/-
  The program's tests of boards; new boards of both packages.
-/
import Derived.Test.YteldfjibmaigiaaDoorBoard
namespace Go.Proofs.YteldfjibmaigiaaDoor
set_option maxRecDepth 100000
open Go.RowKit

theorem i_isStone (c : Int) (w : World) : Calls Tryd.prog 30 #[.int .i64 c] w fun e w' => e = .returned (.bool (c == 1 || c == 2)) ∧ w = w' := by
  rcases Bool.eq_false_or_eq_true (c == 1) with h | h
  all_goals
    go_enter Tryd.func30, Tryd.ntmps30
    go_wp2_with fail
    go_ret
    exact ⟨ret_bool (by rw [h]; rfl), rfl⟩

theorem okC_or (c : Int) : Bd.okC c = (c == 0 || (c == 1 || c == 2)) := by
  rw [Bool.eq_iff_iff, Bd.okC_iff]
  simp only [Bool.or_eq_true, beq_iff_eq]
  omega

theorem i_validColor (c : Int) (w : World) : Calls Tryd.prog 73 #[.int .i64 c] w fun e w' => e = .returned (.bool (Bd.okC c)) ∧ w = w' := by
  have H := Lib.hid (okC_or c)
  rcases Bool.eq_false_or_eq_true (c == 0) with h | h
  · have Hf := Lib.hid (show Bd.okC c = true by rw [H.out, h]; rfl)
    go_enter Tryd.func73, Tryd.ntmps73
    go_wp2_with fail
    go_ret
    exact ⟨ret_bool Hf.out.symm, rfl⟩
  · have Hf := Lib.hid (show Bd.okC c = (c == 1 || c == 2) by rw [H.out, h]; rfl)
    go_enter Tryd.func73, Tryd.ntmps73
    go_wp2_with fail
    refine (i_isStone _ _).mono ?_
    rintro e w' ⟨rfl, rfl⟩
    go_wp2_with fail
    go_ret
    exact ⟨ret_bool Hf.out.symm, rfl⟩

theorem i_allColors (w : World) (B : Nat) (A : Option Addr) (n c : Nat) (cs : List Int) (h : Ints w B A n cs) (hn : n ≤ 1000000000) :
    Calls Tryd.prog 53 #[.slice A n c] w fun e w' => e = .returned (.bool (Bd.okCs cs)) ∧ w = w' := by
  have hl := h.1
  rcases h.2 with rfl | ⟨b, o, rfl, hlt, hc⟩
  · have hx : cs = [] := List.eq_nil_of_length_eq_zero hl
    subst hx
    clear h hl
    go_enter Tryd.func53, Tryd.ntmps53
    go_wp2_with fail
    go_rounds 1
    go_ret
    exact ⟨rfl, rfl⟩
  · have Hc := Lib.hid hc
    have Hl := Lib.hid hl
    clear hc h hl
    go_enter Tryd.func53, Tryd.ntmps53
    go_wp2_with fail
    go_loop [7] (fun i => ∃ k : Nat, k ≤ n ∧ i = .int .i64 k ∧ Hid (Bd.okCs (cs.take k) = true)) (fun i => n - (intOf i).toNat)
    case atStart => exact ⟨0, by omega, rfl, Lib.hid rfl⟩
    case round =>
      obtain ⟨k, hk, rfl, hok⟩ := hrel
      by_cases hlt : k < n
      · have c1 := Hc.out k hlt
        have hstep := Lib.hid (Bd.okCs_take_succ (cs := cs) (k := k) (by rw [Hl.out]; exact hlt))
        have hbad := Lib.hid (Bd.okCs_false (cs := cs) (k := k) (by rw [Hl.out]; exact hlt))
        obtain ⟨x, hx⟩ : ∃ x, cs.getD k 0 = x := ⟨_, rfl⟩
        rw [hx] at c1 hstep hbad
        clear hx
        by_cases hxc : Bd.okC x = true
        · go_wp2_with fail
          refine (i_validColor _ _).mono ?_
          rintro e w' ⟨rfl, rfl⟩
          rw [hxc]
          have Hx := Lib.hid hxc
          clear hxc
          go_wp2_with fail
          go_round
          case rel => exact ⟨k + 1, by omega, by go_num, Lib.hid (by rw [hstep.out, hok.out, Hx.out]; rfl)⟩
          case measure => simp [intOf]; omega
        · have hxc' : Bd.okC x = false := by simpa using hxc
          have Hx := Lib.hid (hbad.out hxc')
          clear hxc
          go_wp2_with fail
          refine (i_validColor _ _).mono ?_
          rintro e w' ⟨rfl, rfl⟩
          rw [hxc']
          clear hxc'
          go_wp2_with fail
          go_ret
          exact ⟨ret_bool Hx.out.symm, rfl⟩
      · have hfull : Bd.okCs cs = true := by
          have := hok.out
          rwa [List.take_of_length_le (by rw [Hl.out]; omega)] at this
        have Hf := Lib.hid hfull
        clear hfull
        go_wp2_with fail
        go_ret
        exact ⟨ret_bool Hf.out.symm, rfl⟩

theorem i_validBoard (s : Int) (w : World) (B : Nat) (A : Option Addr) (n c : Nat) (cs : List Int) (h : Ints w B A n cs) (hB : B ≤ w.heap.size) (hn : n ≤ 1000000000) :
    Calls Tryd.prog 29 #[.agg #[.int .i64 s, .slice A n c]] w fun e w' => e = .returned (.bool (Bd.okB s cs)) ∧ Below w.heap.size w w' := by
  have hl := h.1
  have hb1 : Below w.heap.size w (w.alloc (.cells #[.int .i64 s, .slice A n c] 25)) := (Below.refl _ _).alloc (Nat.le_refl _) _
  have Hi := Lib.hid (h.below hb1 hB)
  have Hb := Lib.hid hb1
  clear h hb1
  by_cases h1 : Pt.okS s = true
  · obtain ⟨s1, s2⟩ := (Pt.okS_iff s).1 h1
    have hsq := Pt.sq_bd s s1 s2
    by_cases h2 : ((n : Int) == s * s) = true
    · have Hf := Lib.hid (show Bd.okB s cs = Bd.okCs cs by rw [Bd.okB, h1, hl, h2]; rfl)
      clear hl
      go_enter Tryd.func29, Tryd.ntmps29
      go_wp2_with fail
      refine (i_size _ _).mono ?_
      rintro e w' ⟨rfl, rfl⟩
      go_wp2_with fail
      refine (i_allColors _ _ _ _ _ _ Hi.out hn).mono ?_
      rintro e w' ⟨rfl, rfl⟩
      go_wp2_with fail
      go_ret
      exact ⟨ret_bool Hf.out.symm, Hb.out⟩
    · have h2' : ((n : Int) == s * s) = false := by simpa using h2
      have Hf := Lib.hid (show Bd.okB s cs = false by rw [Bd.okB, h1, hl, h2']; rfl)
      clear hl h2
      go_enter Tryd.func29, Tryd.ntmps29
      go_wp2_with fail
      refine (i_size _ _).mono ?_
      rintro e w' ⟨rfl, rfl⟩
      go_wp2_with fail
      go_ret
      exact ⟨ret_bool Hf.out.symm, Hb.out⟩
  · have h1' : Pt.okS s = false := by simpa using h1
    have Hf := Lib.hid (show Bd.okB s cs = false by rw [Bd.okB, h1']; rfl)
    clear hl h1
    go_enter Tryd.func29, Tryd.ntmps29
    go_wp2_with fail
    refine (i_size _ _).mono ?_
    rintro e w' ⟨rfl, rfl⟩
    go_wp2_with fail
    go_ret
    exact ⟨ret_bool Hf.out.symm, Hb.out⟩

/-- A board that the call made: size s', cells cs'. -/
def Made (s' : Int) (cs' : List Int) (w : World) (e : Ending) (w' : World) : Prop :=
  ∃ A n c, e = .returned (.agg #[.int .i64 s', .slice A n c]) ∧ Own w' w.heap.size A n c cs' ∧ Below w.heap.size w w'

def newS (s : Int) : Int := if Pt.okS s then s else 0
def newCs (s : Int) : List Int := if Pt.okS s then List.replicate (s * s).toNat 0 else []

theorem i_new (s : Int) (w : World) : Calls Tryd.prog 58 #[.int .i64 s] w fun e w' => Made (newS s) (newCs s) w e w' := by
  by_cases h : Pt.okS s = true
  · obtain ⟨s1, s2⟩ := (Pt.okS_iff s).1 h
    have hsq := Pt.sq_bd s s1 s2
    have Hs := Lib.hid (show newS s = s by rw [newS, if_pos h])
    have Hc := Lib.hid (show newCs s = List.replicate (s * s).toNat 0 by rw [newCs, if_pos h])
    go_enter Tryd.func58, Tryd.ntmps58
    go_wp2_with fail
    refine (i_size _ _).mono ?_
    rintro e w' ⟨rfl, rfl⟩
    have Hbw := Lib.hid ((Below.refl w.heap.size w).alloc (Nat.le_refl _) (.cells #[.int .i64 0, .slice none 0 0] 25))
    have Hx := Lib.hid (Bx.new 25 w 0 (.slice none 0 0))
    go_wp2_with (at_make; refine make0 rfl _ rfl _ (w.heap.size + 1) _ (s * s).toNat rfl (by omega) (by omega) (by simp) ?_; intro w1 hown hb hlt; have hbx := Hx.out.below hb (by simp); have c0 := hbx.cell0; have c1 := hbx.cell1; have f0 := hbx.frozen 0; have f1 := hbx.frozen 1; have hl0 := hbx.lt)
    have k0 := (hbx.set0 s).cell0
    have k1 := ((hbx.set0 s).set1 (.slice (some ⟨w.heap.size + 1, 0, none⟩) (s * s).toNat (s * s).toNat)).cell1
    refine bodyPost_ret (v := .agg #[.int .i64 s, .slice (some ⟨w.heap.size + 1, 0, none⟩) (s * s).toNat (s * s).toNat]) (by simp [results, Tryd.results58, go_sem, k0, k1]) rfl ?_
    have e0 : (w.alloc (.cells #[.int .i64 0, .slice none 0 0] 25)).heap.size = w.heap.size + 1 := by simp
    rw [e0] at hown
    have ho2 := ((hown.far ⟨w.heap.size, 0, none⟩ (fun g hA => by have := (hown.ge hA).1; show g ≠ w.heap.size; omega) (.int .i64 s)).far ⟨w.heap.size, 1, none⟩ (fun g hA => by have := (hown.ge hA).1; show g ≠ w.heap.size; omega) (.slice (some ⟨w.heap.size + 1, 0, none⟩) (s * s).toNat (s * s).toNat)).weaken (B' := w.heap.size) (by omega)
    exact ⟨_, _, _, by rw [Hs.out], by rw [Hc.out]; exact ho2, ((Hbw.out.trans (hb.mono (by omega))).setCell (Nat.le_refl _) _).setCell (Nat.le_refl _) _⟩
  · have h' : Pt.okS s = false := by simpa using h
    have Hs := Lib.hid (show newS s = 0 by rw [newS, if_neg h])
    have Hc := Lib.hid (show newCs s = [] by rw [newCs, if_neg h])
    clear h
    go_enter Tryd.func58, Tryd.ntmps58
    go_wp2_with fail
    refine (i_size _ _).mono ?_
    rintro e w' ⟨rfl, rfl⟩
    go_wp2_with fail
    go_returns
    exact ⟨_, _, _, by rw [Hs.out], by rw [Hc.out]; exact Own.nil _ _, (Below.refl w.heap.size w).alloc (Nat.le_refl _) _⟩

theorem s_new (s : Int) (w : World) : Calls Tryd.prog 74 #[.int .i64 s] w fun e w' => Made (newS s) (newCs s) w e w' := by
  by_cases h : Pt.okS s = true
  · obtain ⟨s1, s2⟩ := (Pt.okS_iff s).1 h
    have hsq := Pt.sq_bd s s1 s2
    have Hs := Lib.hid (show newS s = s by rw [newS, if_pos h])
    have Hc := Lib.hid (show newCs s = List.replicate (s * s).toNat 0 by rw [newCs, if_pos h])
    go_enter Tryd.func74, Tryd.ntmps74
    go_wp2_with fail
    refine (s_size _ _).mono ?_
    rintro e w' ⟨rfl, rfl⟩
    have Hbw := Lib.hid ((Below.refl w.heap.size w).alloc (Nat.le_refl _) (.cells #[.int .i64 0, .slice none 0 0] 25))
    have Hx := Lib.hid (Bx.new 25 w 0 (.slice none 0 0))
    go_wp2_with (at_make; refine make0 rfl _ rfl _ (w.heap.size + 1) _ (s * s).toNat rfl (by omega) (by omega) (by simp) ?_; intro w1 hown hb hlt; have hbx := Hx.out.below hb (by simp); have c0 := hbx.cell0; have c1 := hbx.cell1; have f0 := hbx.frozen 0; have f1 := hbx.frozen 1; have hl0 := hbx.lt)
    have k0 := (hbx.set0 s).cell0
    have k1 := ((hbx.set0 s).set1 (.slice (some ⟨w.heap.size + 1, 0, none⟩) (s * s).toNat (s * s).toNat)).cell1
    refine bodyPost_ret (v := .agg #[.int .i64 s, .slice (some ⟨w.heap.size + 1, 0, none⟩) (s * s).toNat (s * s).toNat]) (by simp [results, Tryd.results74, go_sem, k0, k1]) rfl ?_
    have e0 : (w.alloc (.cells #[.int .i64 0, .slice none 0 0] 25)).heap.size = w.heap.size + 1 := by simp
    rw [e0] at hown
    have ho2 := ((hown.far ⟨w.heap.size, 0, none⟩ (fun g hA => by have := (hown.ge hA).1; show g ≠ w.heap.size; omega) (.int .i64 s)).far ⟨w.heap.size, 1, none⟩ (fun g hA => by have := (hown.ge hA).1; show g ≠ w.heap.size; omega) (.slice (some ⟨w.heap.size + 1, 0, none⟩) (s * s).toNat (s * s).toNat)).weaken (B' := w.heap.size) (by omega)
    exact ⟨_, _, _, by rw [Hs.out], by rw [Hc.out]; exact ho2, ((Hbw.out.trans (hb.mono (by omega))).setCell (Nat.le_refl _) _).setCell (Nat.le_refl _) _⟩
  · have h' : Pt.okS s = false := by simpa using h
    have Hs := Lib.hid (show newS s = 0 by rw [newS, if_neg h])
    have Hc := Lib.hid (show newCs s = [] by rw [newCs, if_neg h])
    clear h
    go_enter Tryd.func74, Tryd.ntmps74
    go_wp2_with fail
    refine (s_size _ _).mono ?_
    rintro e w' ⟨rfl, rfl⟩
    go_wp2_with fail
    go_returns
    exact ⟨_, _, _, by rw [Hs.out], by rw [Hc.out]; exact Own.nil _ _, (Below.refl w.heap.size w).alloc (Nat.le_refl _) _⟩

end Go.Proofs.YteldfjibmaigiaaDoor
