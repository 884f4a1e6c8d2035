/-
  The draw of a board and a point.
-/
import Derived.Test.YtpopbcmfbcmojaaStep
namespace Go.Proofs.Ytpopbcmfbcmojaa
set_option maxRecDepth 100000
open Go.RowKit

theorem r_anyPtB (B g q : Nat) (s : Int) (w : World) (h : Rdr w B g q) (hq : q ≤ 100000000000) (s1 : 0 ≤ s) (s2 : s ≤ 8) :
    Calls Try.prog 81 #[.pointer (some ⟨g, 0, none⟩), .int .i64 s] w fun e w' => Got (fun x => -1 ≤ x ∧ x ≤ 64) w B g (q + 2) e w' := by
  have hlt := h.lt
  obtain ⟨m1, m2⟩ := sq8 s s1 s2
  go_enter Try.func81, Try.ntmps81
  go_wp2_with fail
  refine (r_pick B g q _ _ h (by omega)).mono ?_
  rintro e w1 ⟨x, rfl, x1, x2, hr, hw⟩
  have hz := hw.size
  have Hw := Lib.hid hw
  clear hw h
  by_cases h0 : x = 0
  · have hb : ((x : Int) == 0) = true := by simpa using h0
    clear h0
    go_wp2_with fail
    have hl := Ints.lit w1 3 [-1, s * s, 49]
    have hlt1 := hr.lt
    refine (r_one B g (q + 1) _ _ [-1, s * s, 49] _ _ (hr.below ((Below.refl _ _).alloc (Nat.le_refl _) _) hlt1) (by omega) hl (by simp) (by simp) (by simp) (by rintro b o e; injection e with e; injection e; omega)).mono ?_
    rintro e w2 ⟨y, rfl, hy, hr2, hw2⟩
    have Hr := Lib.hid hr2
    have Hy : Hid (-1 ≤ y ∧ y ≤ 64) := Lib.hid (by simp at hy; omega)
    have Hw2 := Lib.hid (gtrans Hw.out (gtrans (World.grownBy_alloc w1 _ (some g)) hw2))
    clear hr hw2 hl hy hr2
    go_wp2_with fail
    go_ret
    exact ⟨_, rfl, Hy.out, Hr.out, Hw2.out⟩
  · have hb : ((x : Int) == 0) = false := by simpa using h0
    clear h0
    go_wp2_with fail
    all_goals
      refine (r_pick B g (q + 1) _ _ hr (by omega)).mono ?_
      rintro e w2 ⟨y, rfl, y1, y2, hr2, hw2⟩
      have Hr := Lib.hid hr2
      have Hw2 := Lib.hid (gtrans Hw.out hw2)
      have Hy : Hid (-1 ≤ y ∧ y ≤ 64) := Lib.hid (by omega)
      clear hr hw2 hr2 y1 y2
      go_wp2_with fail
      go_ret
      exact ⟨_, rfl, Hy.out, Hr.out, Hw2.out⟩

/-- A drawn board and a point that may be wrong. -/
def DrawnAP (w : World) (B g lo q : Nat) (e : Ending) (w' : World) : Prop :=
  ∃ (s : Int) (A : Option Addr) (n c : Nat) (cs : List Int) (q' : Nat) (p : Int), e = .returned (.tuple #[.agg #[.int .i64 s, .slice A n c], .int .i64 p]) ∧ IntsF w' lo A n cs ∧ n ≤ 49 ∧ 0 ≤ s ∧ s ≤ 8 ∧ -1 ≤ p ∧ p ≤ 64 ∧ Rdr w' B g q' ∧ q' ≤ q ∧ w.grownBy w' (some g)

/-- The world when 'boardPoint' has stored its board. -/
theorem bp_end {w yf : World} {B g q' n c : Nat} {s : Int} {A : Option Addr} {cs : List Int} (X2 : Bx 25 yf w.heap.size 0 (.slice none 0 0)) (Hi : IntsF yf (w.heap.size + 1) A n cs) (Hr : Rdr yf B g q') (hBw : B ≤ w.heap.size) (hgw : g < w.heap.size) (Hg : w.grownBy yf (some g)) :
    ((yf.setCell ⟨w.heap.size, 0, none⟩ (.int .i64 s)).setCell ⟨w.heap.size, 1, none⟩ (.slice A n c)).cell? ⟨w.heap.size, 0, none⟩ = some (.int .i64 s) ∧
    ((yf.setCell ⟨w.heap.size, 0, none⟩ (.int .i64 s)).setCell ⟨w.heap.size, 1, none⟩ (.slice A n c)).cell? ⟨w.heap.size, 1, none⟩ = some (.slice A n c) ∧
    IntsF ((yf.setCell ⟨w.heap.size, 0, none⟩ (.int .i64 s)).setCell ⟨w.heap.size, 1, none⟩ (.slice A n c)) w.heap.size A n cs ∧
    Rdr ((yf.setCell ⟨w.heap.size, 0, none⟩ (.int .i64 s)).setCell ⟨w.heap.size, 1, none⟩ (.slice A n c)) B g q' ∧
    w.grownBy ((yf.setCell ⟨w.heap.size, 0, none⟩ (.int .i64 s)).setCell ⟨w.heap.size, 1, none⟩ (.slice A n c)) (some g) :=
  ⟨((X2.set0 s).set1 (.slice A n c)).cell0, ((X2.set0 s).set1 (.slice A n c)).cell1,
    ((Hi.far ⟨w.heap.size, 0, none⟩ (Nat.lt_succ_self _) (.int .i64 s)).far ⟨w.heap.size, 1, none⟩ (Nat.lt_succ_self _) (.slice A n c)).weaken (by omega),
    (Hr.far ⟨w.heap.size, 0, none⟩ (by show g ≠ w.heap.size; omega) (by show B ≤ w.heap.size; omega) (.int .i64 s)).far ⟨w.heap.size, 1, none⟩ (by show g ≠ w.heap.size; omega) (by show B ≤ w.heap.size; omega) (.slice A n c),
    gset (gset Hg ⟨w.heap.size, 0, none⟩ (Nat.le_refl _) (.int .i64 s)) ⟨w.heap.size, 1, none⟩ (Nat.le_refl _) (.slice A n c)⟩

set_option maxRecDepth 100000 in
set_option maxHeartbeats 8000000 in
theorem r_bp (B g q : Nat) (w : World) (h : Rdr w B g q) (hq : q ≤ 1000000000) :
    Calls Try.prog 44 #[.pointer (some ⟨g, 0, none⟩)] w fun e w' => DrawnAP w B g w.heap.size (q + 205) e w' := by
  have hlt := h.lt
  have hb1 : Below w.heap.size w (w.alloc (.cells #[.int .i64 0, .slice none 0 0] 25)) := (Below.refl _ _).alloc (Nat.le_refl _) _
  have X2 := Lib.hid (Bx.new 25 w 0 (.slice none 0 0))
  have Hr := Lib.hid (h.below hb1 hlt)
  have Hb := Lib.hid hb1
  have hsz : (w.alloc (.cells #[.int .i64 0, .slice none 0 0] 25)).heap.size = w.heap.size + 1 := by simp
  have Hsz := Lib.hid hsz
  clear h hb1 hsz
  go_enter Try.func44, Try.ntmps44
  go_wp2_with fail
  refine (r_any B g q _ Hr.out (by omega)).mono ?_
  rintro e y ⟨s, A, n, c, cs, q1, rfl, hi, hn, s0, s8, hr, hq1, hg⟩
  rw [Hsz.out] at hi
  have X2 := Lib.hid (X2.out.grown hg (fun e => by have := Option.some.inj e; omega))
  have Hg := Lib.hid (gtrans (gbelow (some g) Hb.out (Nat.le_refl _)) hg)
  have Hr := Lib.hid hr
  have Hi := Lib.hid hi
  have z2 := X2.out.lt
  clear hr hg hi Hb
  go_upto_region 2 with (fail)
  obtain ⟨y3, hy3, hb3, z3, z4⟩ := new_box y (.cells #[.int .i64 s, .slice A n c] 25)
  have X4 : Hid (Bx 25 y3 y.heap.size s (.slice A n c)) := Lib.hid (by rw [hy3]; exact Bx.new _ _ _ _)
  rw [← hy3]
  clear hy3
  have X2 := Lib.hid (X2.out.below hb3 X2.out.lt)
  have Hr := Lib.hid (Hr.out.below hb3 Hr.out.lt)
  have Hi := Lib.hid (Hi.out.below hb3)
  have Hg := Lib.hid (gtrans Hg.out (gbelow (some g) hb3 (Nat.le_refl _)))
  clear hb3
  have t0 := X4.out.cell0
  have t1 := X4.out.cell1
  have t2 := X4.out.lt
  go_wp2_with fail
  refine (r_anyPtB B g q1 s _ Hr.out (by omega) s0 s8).mono ?_
  rintro e y4 ⟨p, rfl, ⟨p1, p2⟩, hr, hg⟩
  have X2 := Lib.hid (X2.out.grown hg (fun e => by have := Option.some.inj e; omega))
  have X4 := Lib.hid (X4.out.grown hg (fun e => by have := Option.some.inj e; omega))
  have Hi := Lib.hid (Hi.out.grown hg (by omega))
  have Hg := Lib.hid (gtrans Hg.out hg)
  have Hr := Lib.hid hr
  clear hr hg t0 t1 t2
  have t0 := X4.out.cell0
  have t1 := X4.out.cell1
  have t2 := X4.out.lt
  go_wp2_with fail
  refine (r_pick B g (q1 + 2) _ _ Hr.out (by omega)).mono ?_
  rintro e y5 ⟨f, rfl, f1, f2, hr, hg⟩
  have X2 := Lib.hid (X2.out.grown hg (fun e => by have := Option.some.inj e; omega))
  have X4 := Lib.hid (X4.out.grown hg (fun e => by have := Option.some.inj e; omega))
  have Hi := Lib.hid (Hi.out.grown hg (by omega))
  have Hg := Lib.hid (gtrans Hg.out hg)
  have Hr := Lib.hid hr
  have z5 := X4.out.lt
  clear hr hg t0 t1 t2 f2
  by_cases hf : f = 0 ∧ 0 < n
  · obtain ⟨hf0, hn0⟩ := hf
    have hfb : ((f : Int) == 0) = true := by simpa using hf0
    have hnI : (0 : Int) < n := by omega
    have t0 := X4.out.cell0
    have t1 := X4.out.cell1
    have t2 := X4.out.lt
    clear hf0
    go_wp2_with fail
    go_loopw [5, 6] (fun v i wr => ∃ (k : Nat) (p : Int), k ≤ n ∧ i = .int .i64 (k : Nat) ∧ v = .int .i64 p ∧ -1 ≤ p ∧ p ≤ 64 ∧ Bx 25 wr w.heap.size 0 (.slice none 0 0) ∧ Bx 25 wr y.heap.size s (.slice A n c) ∧ IntsF wr (w.heap.size + 1) A n cs ∧ Rdr wr B g (q1 + 2 + 1) ∧ w.grownBy wr (some g)) (fun _ i _ => n - (intOf i).toNat)
    case atStart => exact ⟨0, p, by omega, rfl, rfl, p1, p2, X2.out, X4.out, Hi.out, Hr.out, Hg.out⟩
    case round =>
      clear t0 t1 t2 p1 p2 X2 X4 Hi Hr Hg
      obtain ⟨k, p9, hk, rfl, rfl, p1, p2, x2, x4, hi, hr, hg⟩ := hrel
      have X2 := Lib.hid x2
      have X4 := Lib.hid x4
      have Hi := Lib.hid hi
      have Hr := Lib.hid hr
      have Hg := Lib.hid hg
      clear x2 x4 hi hr hg
      have t0 := X4.out.cell0
      have t1 := X4.out.cell1
      have t2 := X4.out.lt
      by_cases hkn : k < n
      · have hkI : (k : Int) < n := by omega
        by_cases hp0 : 0 ≤ p9
        · obtain ⟨pn, rfl⟩ := Int.eq_ofNat_of_zero_le hp0
          obtain ⟨m, hm⟩ : ∃ m, pn % n = m := ⟨_, rfl⟩
          have hmn : m < n := by rw [← hm]; exact Nat.mod_lt _ hn0
          have hmod : Int.tmod (pn : Int) (n : Int) = (m : Int) := by rw [← hm]; rfl
          obtain ⟨m2, hm2⟩ : ∃ m, (pn + 1) % n = m := ⟨_, rfl⟩
          have hmn2 : m2 < n := by rw [← hm2]; exact Nat.mod_lt _ hn0
          have hmod2 : Int.tmod ((pn : Int) + 1) (n : Int) = (m2 : Int) := by rw [← hm2]; rfl
          obtain ⟨b, o, hA, hbl, hc⟩ : ∃ b o, A = some ⟨b, o, none⟩ ∧ b < wr.heap.size ∧ ∀ j, j < n → wr.cell? ⟨b, o + j, none⟩ = some (.int .i64 (cs.getD j 0)) := by
            rcases Hi.out.ints.2 with h0 | ⟨b, o, hA, hbB, hc⟩
            · omega
            · exact ⟨b, o, hA, hbB, hc⟩
          have ck := hc m hmn
          obtain ⟨e0, he0⟩ : ∃ e, cs.getD m 0 = e := ⟨_, rfl⟩
          rw [he0] at ck
          rw [hA] at t1
          clear hc he0 hm hm2
          by_cases he : e0 = 0
          · subst he
            go_wp2_with fail
            go_quiet (fail)
            go_wp2_with fail
            go_roundw
            case rel => exact ⟨k + 1, _, by omega, by go_num, rfl, by omega, by omega, X2.out.drewN _, X4.out.drewN _, Hi.out, Hr.out, ⟨Hg.out.os, Hg.out.tape, Hg.out.output, Hg.out.size, Hg.out.block⟩⟩
            case measure => simp [intOf]; omega
          · have heb : (e0 == 0) = false := by simpa using he
            go_wp2_with fail
            go_quiet (fail)
            clear ck
            obtain ⟨yf, hyf⟩ : ∃ y, y = wr.drewN nq := ⟨_, rfl⟩
            have X2 : Hid (Bx 25 yf w.heap.size 0 (.slice none 0 0)) := Lib.hid (by rw [hyf]; exact X2.out.drewN _)
            have X4 : Hid (Bx 25 yf y.heap.size s (.slice A n c)) := Lib.hid (by rw [hyf]; exact X4.out.drewN _)
            have Hi : Hid (IntsF yf (w.heap.size + 1) A n cs) := Lib.hid (by rw [hyf]; exact Hi.out)
            have Hr : Hid (Rdr yf B g (q1 + 2 + 1)) := Lib.hid (by rw [hyf]; exact Hr.out)
            have Hg : Hid (w.grownBy yf (some g)) := Lib.hid (by rw [hyf]; exact ⟨Hg.out.os, Hg.out.tape, Hg.out.output, Hg.out.size, Hg.out.block⟩)
            rw [← hyf]
            clear hyf t0 t1 t2
            have hBg := Hr.out.1
            obtain ⟨k0', k1', hi9, hr9, hg9⟩ := bp_end (s := s) (c := c) X2.out Hi.out Hr.out (by omega) (by omega) Hg.out
            have K0 := Lib.hid k0'
            have K1 := Lib.hid k1'
            have Hi9 := Lib.hid hi9
            have Hr9 := Lib.hid hr9
            have Hg9 := Lib.hid hg9
            have r0 := X2.out.cell0
            have r1 := X2.out.cell1
            have r2 := X2.out.frozen 0
            have r3 := X2.out.frozen 1
            have r4 := X2.out.lt
            have t0 := X4.out.cell0
            have t1 := X4.out.cell1
            have t2 := X4.out.lt
            clear k0' k1' hi9 hr9 hg9
            rw [hA] at K0 K1 Hi9 Hr9 Hg9
            go_wp2_with fail
            have k0 := K0.out
            have k1 := K1.out
            refine bodyPost_ret (v := .tuple #[.agg #[.int .i64 s, .slice (some ⟨b, o, none⟩) n c], .int .i64 (pn : Nat)]) (by simp [results, Try.results44, go_sem, k0, k1]) rfl ?_
            exact ⟨_, _, _, _, _, _, _, rfl, Hi9.out, hn, s0, s8, by omega, by omega, Hr9.out, by omega, Hg9.out⟩
        · obtain rfl : p9 = -1 := by omega
          clear hp0
          go_wp2_with fail
          go_quiet (fail)
          obtain ⟨yf, hyf⟩ : ∃ y, y = wr.drewN nq := ⟨_, rfl⟩
          have X2 : Hid (Bx 25 yf w.heap.size 0 (.slice none 0 0)) := Lib.hid (by rw [hyf]; exact X2.out.drewN _)
          have X4 : Hid (Bx 25 yf y.heap.size s (.slice A n c)) := Lib.hid (by rw [hyf]; exact X4.out.drewN _)
          have Hi : Hid (IntsF yf (w.heap.size + 1) A n cs) := Lib.hid (by rw [hyf]; exact Hi.out)
          have Hr : Hid (Rdr yf B g (q1 + 2 + 1)) := Lib.hid (by rw [hyf]; exact Hr.out)
          have Hg : Hid (w.grownBy yf (some g)) := Lib.hid (by rw [hyf]; exact ⟨Hg.out.os, Hg.out.tape, Hg.out.output, Hg.out.size, Hg.out.block⟩)
          rw [← hyf]
          clear hyf t0 t1 t2
          have hBg := Hr.out.1
          obtain ⟨k0', k1', hi9, hr9, hg9⟩ := bp_end (s := s) (c := c) X2.out Hi.out Hr.out (by omega) (by omega) Hg.out
          have K0 := Lib.hid k0'
          have K1 := Lib.hid k1'
          have Hi9 := Lib.hid hi9
          have Hr9 := Lib.hid hr9
          have Hg9 := Lib.hid hg9
          have r0 := X2.out.cell0
          have r1 := X2.out.cell1
          have r2 := X2.out.frozen 0
          have r3 := X2.out.frozen 1
          have r4 := X2.out.lt
          have t0 := X4.out.cell0
          have t1 := X4.out.cell1
          have t2 := X4.out.lt
          clear k0' k1' hi9 hr9 hg9
          go_wp2_with fail
          have k0 := K0.out
          have k1 := K1.out
          refine bodyPost_ret (v := .tuple #[.agg #[.int .i64 s, .slice A n c], .int .i64 (-1)]) (by simp [results, Try.results44, go_sem, k0, k1]) rfl ?_
          exact ⟨_, _, _, _, _, _, _, rfl, Hi9.out, hn, s0, s8, by omega, by omega, Hr9.out, by omega, Hg9.out⟩
      · have hkI : ¬ (k : Int) < n := by omega
        go_wp2_with fail
        go_quiet (fail)
        obtain ⟨yf, hyf⟩ : ∃ y, y = wr.drewN nq := ⟨_, rfl⟩
        have X2 : Hid (Bx 25 yf w.heap.size 0 (.slice none 0 0)) := Lib.hid (by rw [hyf]; exact X2.out.drewN _)
        have X4 : Hid (Bx 25 yf y.heap.size s (.slice A n c)) := Lib.hid (by rw [hyf]; exact X4.out.drewN _)
        have Hi : Hid (IntsF yf (w.heap.size + 1) A n cs) := Lib.hid (by rw [hyf]; exact Hi.out)
        have Hr : Hid (Rdr yf B g (q1 + 2 + 1)) := Lib.hid (by rw [hyf]; exact Hr.out)
        have Hg : Hid (w.grownBy yf (some g)) := Lib.hid (by rw [hyf]; exact ⟨Hg.out.os, Hg.out.tape, Hg.out.output, Hg.out.size, Hg.out.block⟩)
        rw [← hyf]
        clear hyf t0 t1 t2
        have hBg := Hr.out.1
        obtain ⟨k0', k1', hi9, hr9, hg9⟩ := bp_end (s := s) (c := c) X2.out Hi.out Hr.out (by omega) (by omega) Hg.out
        have K0 := Lib.hid k0'
        have K1 := Lib.hid k1'
        have Hi9 := Lib.hid hi9
        have Hr9 := Lib.hid hr9
        have Hg9 := Lib.hid hg9
        have r0 := X2.out.cell0
        have r1 := X2.out.cell1
        have r2 := X2.out.frozen 0
        have r3 := X2.out.frozen 1
        have r4 := X2.out.lt
        have t0 := X4.out.cell0
        have t1 := X4.out.cell1
        have t2 := X4.out.lt
        clear k0' k1' hi9 hr9 hg9
        go_wp2_with fail
        have k0 := K0.out
        have k1 := K1.out
        refine bodyPost_ret (v := .tuple #[.agg #[.int .i64 s, .slice A n c], .int .i64 p9]) (by simp [results, Try.results44, go_sem, k0, k1]) rfl ?_
        exact ⟨_, _, _, _, _, _, _, rfl, Hi9.out, hn, s0, s8, by omega, by omega, Hr9.out, by omega, Hg9.out⟩
  · by_cases hf0 : f = 0
    · have hn0 : n = 0 := by omega
      have hfb : ((f : Int) == 0) = true := by simpa using hf0
      have t0 := X4.out.cell0
      have t1 := X4.out.cell1
      have t2 := X4.out.lt
      subst hn0
      clear hf0
      have hBg := Hr.out.1
      obtain ⟨k0', k1', hi9, hr9, hg9⟩ := bp_end (s := s) (c := c) X2.out Hi.out Hr.out (by omega) (by omega) Hg.out
      have K0 := Lib.hid k0'
      have K1 := Lib.hid k1'
      have Hi9 := Lib.hid hi9
      have Hr9 := Lib.hid hr9
      have Hg9 := Lib.hid hg9
      have r0 := X2.out.cell0
      have r1 := X2.out.cell1
      have r2 := X2.out.frozen 0
      have r3 := X2.out.frozen 1
      have r4 := X2.out.lt
      have t0 := X4.out.cell0
      have t1 := X4.out.cell1
      have t2 := X4.out.lt
      clear k0' k1' hi9 hr9 hg9
      go_wp2_with fail
      have k0 := K0.out
      have k1 := K1.out
      refine bodyPost_ret (v := .tuple #[.agg #[.int .i64 s, .slice A 0 c], .int .i64 p]) (by simp [results, Try.results44, go_sem, k0, k1]) rfl ?_
      exact ⟨_, _, _, _, _, _, _, rfl, Hi9.out, hn, s0, s8, by omega, by omega, Hr9.out, by omega, Hg9.out⟩
    · have hfb : ((f : Int) == 0) = false := by simpa using hf0
      clear hf0
      have hBg := Hr.out.1
      obtain ⟨k0', k1', hi9, hr9, hg9⟩ := bp_end (s := s) (c := c) X2.out Hi.out Hr.out (by omega) (by omega) Hg.out
      have K0 := Lib.hid k0'
      have K1 := Lib.hid k1'
      have Hi9 := Lib.hid hi9
      have Hr9 := Lib.hid hr9
      have Hg9 := Lib.hid hg9
      have r0 := X2.out.cell0
      have r1 := X2.out.cell1
      have r2 := X2.out.frozen 0
      have r3 := X2.out.frozen 1
      have r4 := X2.out.lt
      have t0 := X4.out.cell0
      have t1 := X4.out.cell1
      have t2 := X4.out.lt
      clear k0' k1' hi9 hr9 hg9
      go_wp2_with fail
      have k0 := K0.out
      have k1 := K1.out
      refine bodyPost_ret (v := .tuple #[.agg #[.int .i64 s, .slice A n c], .int .i64 p]) (by simp [results, Try.results44, go_sem, k0, k1]) rfl ?_
      exact ⟨_, _, _, _, _, _, _, rfl, Hi9.out, hn, s0, s8, by omega, by omega, Hr9.out, by omega, Hg9.out⟩
end Go.Proofs.Ytpopbcmfbcmojaa
