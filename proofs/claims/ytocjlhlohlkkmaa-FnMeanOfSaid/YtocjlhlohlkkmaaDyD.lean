/-
  The draws of dyadic numbers: two ints each; nothing that was there before is written.
-/
import Derived.Test.YtocjlhlohlkkmaaDyO
import Derived.Test.YtocjlhlohlkkmaaDyN
import Derived.Test.YtocjlhlohlkkmaaDraw
import Derived.OwnWalk
namespace Go.Proofs.Ytocjlhlohlkkmaa
set_option maxRecDepth 100000
open Go.RowKit

/-- What a draw of a number over a reader gives. -/
def GotD (w : World) (B g q : Nat) (e : Ending) (w' : World) : Prop :=
  ∃ x y : Int, e = .returned (.agg #[.int .i64 x, .int .i64 y]) ∧ Rdr w' B g q ∧ w.grownBy w' (some g)

theorem gB {w a b : World} {row : Option Nat} (h : w.grownBy a row) (hb : Below w.heap.size a b) : w.grownBy b row :=
  ⟨hb.os.trans h.os, hb.tape.trans h.tape, hb.output.trans h.output, Nat.le_trans h.size hb.size, fun k hk hr => (hb.block k hk).trans (h.block k hk hr)⟩

set_option maxRecDepth 100000 in
set_option maxHeartbeats 4000000 in
theorem r_rndDy (B g q : Nat) (w : World) (h : Rdr w B g q) (hq : q ≤ 100000000000) :
    Calls Try.prog 59 #[.pointer (some ⟨g, 0, none⟩)] w fun e w' => GotD w B g (q + 2) e w' := by
  have hlt := h.lt
  go_enter Try.func59, Try.ntmps59
  go_wp2_with fail
  obtain ⟨y1, hy1, hb1, z1, z2⟩ := new_box w (.cells #[.int .i64 0, .int .i64 0] 26)
  have R1 : Bx 26 y1 w.heap.size 0 (.int .i64 0) := by rw [hy1]; exact Bx.new _ _ _ _
  rw [← hy1]
  clear hy1
  refine (r_pick B g q _ _ (h.below hb1 hlt) (by omega)).mono ?_
  rintro e w1 ⟨x, rfl, x1, x2, hr, hw⟩
  have R2 := R1.grown hw (by intro e; have := Option.some.inj e; omega)
  have hg1 : w.grownBy w1 (some g) := gtrans ⟨hb1.os, hb1.tape, hb1.output, hb1.size, fun k hk _ => hb1.block k hk⟩ hw
  have hx40 : x < 40 := by omega
  clear hb1 R1 hw x2 h
  have HR := Lib.hid R2
  have Hg := Lib.hid hg1
  have hzw := hg1.size
  have hz1 := R2.lt
  clear R2 hg1
  go_wp2_with fail
  refine (r_pick B g (q + 1) _ _ hr (by omega)).mono ?_
  rintro e w2 ⟨y, rfl, y1', y2, hr2, hw2⟩
  have HR2 := Lib.hid (HR.out.grown hw2 (by intro e; have := Option.some.inj e; omega))
  have Hg2 := Lib.hid (gtrans Hg.out hw2)
  have Hr2 := Lib.hid hr2
  have hz2 := hw2.size
  have hy4 : y < 4 := by omega
  clear hr hw2 hr2 y2
  obtain ⟨k, rfl⟩ := Int.eq_ofNat_of_zero_le y1'
  obtain ⟨X, hX⟩ : ∃ X, x - 20 = X := ⟨_, rfl⟩
  have hX1 : -20 ≤ X := by omega
  have hX2 : X ≤ 20 := by omega
  go_wp2_with fail
  refine (s_lowest X k _ (by omega) (by omega) (by omega)).mono ?_
  rintro e w3 ⟨rfl, hb3⟩
  obtain ⟨⟨p, s⟩, hp⟩ : ∃ p, Dy.low k X = p := ⟨_, rfl⟩
  rw [hp]
  have hsz : w.heap.size ≤ w2.heap.size := by omega
  have HR3 := Lib.hid (HR2.out.below hb3 HR2.out.lt)
  have Hr3 := Lib.hid (Hr2.out.below hb3 (Hr2.out.lt))
  have Hg3 := Lib.hid (gB Hg2.out (hb3.mono hsz))
  have hz3 := hb3.size
  clear hb3 hp
  have HS := Lib.hid ((HR3.out.set0 p).set1 (.int .i64 s))
  have z0 := HS.out.cell0
  have z1 := HS.out.cell1
  have f0 := HR3.out.frozen 0
  have f1 := HR3.out.frozen 1
  have c0 := HR3.out.cell0
  have c1 := HR3.out.cell1
  have hbl : Below w.heap.size w3 ((w3.setCell ⟨w.heap.size, 0, none⟩ (.int .i64 p)).setCell ⟨w.heap.size, 1, none⟩ (.int .i64 s)) := ((Below.refl w.heap.size w3).setCell (p := ⟨w.heap.size, 0, none⟩) (Nat.le_refl _) _).setCell (p := ⟨w.heap.size, 1, none⟩) (Nat.le_refl _) _
  have Hbl := Lib.hid hbl
  clear hbl
  go_wp2_with fail
  refine bodyPost_ret (v := .agg #[.int .i64 p, .int .i64 s]) (by simp [results, Try.results59, go_sem, z0, z1]) rfl ?_
  exact ⟨_, _, rfl, Hr3.out.below Hbl.out hlt, gB Hg3.out Hbl.out⟩

set_option maxRecDepth 100000 in
set_option maxHeartbeats 4000000 in
theorem r_anyDy (B g q : Nat) (w : World) (h : Rdr w B g q) (hq : q ≤ 10000000000) :
    Calls Try.prog 46 #[.pointer (some ⟨g, 0, none⟩)] w fun e w' => GotD w B g (q + 3) e w' := by
  have hlt := h.lt
  go_enter Try.func46, Try.ntmps46
  go_wp2_with fail
  obtain ⟨y1, hy1, hb1, z1, z2⟩ := new_box w (.cells #[.int .i64 0, .int .i64 0] 26)
  have R1 : Bx 26 y1 w.heap.size 0 (.int .i64 0) := by rw [hy1]; exact Bx.new _ _ _ _
  rw [← hy1]
  clear hy1
  refine (r_pick B g q _ _ (h.below hb1 hlt) (by omega)).mono ?_
  rintro e w1 ⟨x, rfl, x1, x2, hr, hw⟩
  have R2 := R1.grown hw (by intro e; have := Option.some.inj e; omega)
  have hg1 : w.grownBy w1 (some g) := gtrans ⟨hb1.os, hb1.tape, hb1.output, hb1.size, fun k hk _ => hb1.block k hk⟩ hw
  have hx40 : x < 20 := by omega
  clear hb1 R1 hw x2 h
  have HR := Lib.hid R2
  have Hg := Lib.hid hg1
  have hzw := hg1.size
  have hz1 := R2.lt
  clear R2 hg1
  by_cases h0 : x = 0
  · have hq0 : (x == 0) = true := by simpa using h0
    clear h0
    go_wp2_with fail
    have hl := Ints.lit w1 3 [2, 4, 10000, 9999, -10000]
    have hlt1 := hr.lt
    obtain ⟨y3, hy3, hb3, z3, z4⟩ := new_box w1 (.cells #[.int .i64 2, .int .i64 4, .int .i64 10000, .int .i64 9999, .int .i64 (-10000)] 3)
    refine (r_one B g (q + 1) _ _ [2, 4, 10000, 9999, -10000] (w1.heap.size + 1) _ (hr.below ((Below.refl _ _).alloc (Nat.le_refl _) _) hlt1) (by omega) hl (by simp) (by simp) (by simp) (by rintro b o e; injection e with e; injection e; omega)).mono ?_
    rintro e w2 ⟨y, rfl, _, hr2, hw2⟩
    have hw2 : y3.grownBy w2 (some g) := by rw [hy3]; exact hw2
    have HR2 := Lib.hid ((HR.out.below hb3 (by omega)).grown hw2 (by intro e; have := Option.some.inj e; omega))
    have Hg2 := Lib.hid (gtrans (gB Hg.out (hb3.mono (by omega))) hw2)
    have hz2 := hw2.size
    have hz3 := hb3.size
    have hr3 := hr2
    clear hr hw2 hl hr2 hb3 hy3
    go_wp2_with fail
    have hl := Ints.lit w2 3 [0, 1, 8, 9, -1]
    have hlt1 := hr3.lt
    obtain ⟨y4, hy4, hb4, z5, z6⟩ := new_box w2 (.cells #[.int .i64 0, .int .i64 1, .int .i64 8, .int .i64 9, .int .i64 (-1)] 3)
    refine (r_one B g (q + 1 + 1) _ _ [0, 1, 8, 9, -1] (w2.heap.size + 1) _ (hr3.below ((Below.refl _ _).alloc (Nat.le_refl _) _) hlt1) (by omega) hl (by simp) (by simp) (by simp) (by rintro b o e; injection e with e; injection e; omega)).mono ?_
    rintro e w3 ⟨u, rfl, _, hr4, hw4⟩
    have hw4 : y4.grownBy w3 (some g) := by rw [hy4]; exact hw4
    have HR3 := Lib.hid ((HR2.out.below hb4 (by omega)).grown hw4 (by intro e; have := Option.some.inj e; omega))
    have Hg3 := Lib.hid (gtrans (gB Hg2.out (hb4.mono (by omega))) hw4)
    have Hr4 := Lib.hid hr4
    clear hr3 hw4 hl hr4 hb4 hy4
    have HS := Lib.hid ((HR3.out.set0 y).set1 (.int .i64 u))
    have z0 := HS.out.cell0
    have z1 := HS.out.cell1
    have f0 := HR3.out.frozen 0
    have f1 := HR3.out.frozen 1
    have c0 := HR3.out.cell0
    have c1 := HR3.out.cell1
    have hbl : Below w.heap.size w3 ((w3.setCell ⟨w.heap.size, 0, none⟩ (.int .i64 y)).setCell ⟨w.heap.size, 1, none⟩ (.int .i64 u)) := ((Below.refl w.heap.size w3).setCell (p := ⟨w.heap.size, 0, none⟩) (Nat.le_refl _) _).setCell (p := ⟨w.heap.size, 1, none⟩) (Nat.le_refl _) _
    have Hbl := Lib.hid hbl
    clear hbl
    go_wp2_with fail
    refine bodyPost_ret (v := .agg #[.int .i64 y, .int .i64 u]) (by simp [results, Try.results46, go_sem, z0, z1]) rfl ?_
    exact ⟨_, _, rfl, Hr4.out.below Hbl.out hlt, gB Hg3.out Hbl.out⟩
  · have hq0 : (x == 0) = false := by simpa using h0
    clear h0
    by_cases h1 : x = 1
    · have hq1 : (x == 1) = true := by simpa using h1
      clear h1
      go_wp2_with fail
      have hl := Ints.lit w1 3 [9999, -9999, 9997]
      have hlt1 := hr.lt
      obtain ⟨y3, hy3, hb3, z3, z4⟩ := new_box w1 (.cells #[.int .i64 9999, .int .i64 (-9999), .int .i64 9997] 3)
      refine (r_one B g (q + 1) _ _ [9999, -9999, 9997] (w1.heap.size + 1) _ (hr.below ((Below.refl _ _).alloc (Nat.le_refl _) _) hlt1) (by omega) hl (by simp) (by simp) (by simp) (by rintro b o e; injection e with e; injection e; omega)).mono ?_
      rintro e w2 ⟨y, rfl, _, hr2, hw2⟩
      have hw2 : y3.grownBy w2 (some g) := by rw [hy3]; exact hw2
      have HR2 := Lib.hid ((HR.out.below hb3 (by omega)).grown hw2 (by intro e; have := Option.some.inj e; omega))
      have Hg2 := Lib.hid (gtrans (gB Hg.out (hb3.mono (by omega))) hw2)
      have hz2 := hw2.size
      have hz3 := hb3.size
      have hr3 := hr2
      clear hr hw2 hl hr2 hb3 hy3
      go_wp2_with fail
      have hl := Ints.lit w2 3 [0, 8, 1]
      have hlt1 := hr3.lt
      obtain ⟨y4, hy4, hb4, z5, z6⟩ := new_box w2 (.cells #[.int .i64 0, .int .i64 8, .int .i64 1] 3)
      refine (r_one B g (q + 1 + 1) _ _ [0, 8, 1] (w2.heap.size + 1) _ (hr3.below ((Below.refl _ _).alloc (Nat.le_refl _) _) hlt1) (by omega) hl (by simp) (by simp) (by simp) (by rintro b o e; injection e with e; injection e; omega)).mono ?_
      rintro e w3 ⟨u, rfl, _, hr4, hw4⟩
      have hw4 : y4.grownBy w3 (some g) := by rw [hy4]; exact hw4
      have HR3 := Lib.hid ((HR2.out.below hb4 (by omega)).grown hw4 (by intro e; have := Option.some.inj e; omega))
      have Hg3 := Lib.hid (gtrans (gB Hg2.out (hb4.mono (by omega))) hw4)
      have Hr4 := Lib.hid hr4
      clear hr3 hw4 hl hr4 hb4 hy4
      have HS := Lib.hid ((HR3.out.set0 y).set1 (.int .i64 u))
      have z0 := HS.out.cell0
      have z1 := HS.out.cell1
      have f0 := HR3.out.frozen 0
      have f1 := HR3.out.frozen 1
      have c0 := HR3.out.cell0
      have c1 := HR3.out.cell1
      have hbl : Below w.heap.size w3 ((w3.setCell ⟨w.heap.size, 0, none⟩ (.int .i64 y)).setCell ⟨w.heap.size, 1, none⟩ (.int .i64 u)) := ((Below.refl w.heap.size w3).setCell (p := ⟨w.heap.size, 0, none⟩) (Nat.le_refl _) _).setCell (p := ⟨w.heap.size, 1, none⟩) (Nat.le_refl _) _
      have Hbl := Lib.hid hbl
      clear hbl
      go_wp2_with fail
      refine bodyPost_ret (v := .agg #[.int .i64 y, .int .i64 u]) (by simp [results, Try.results46, go_sem, z0, z1]) rfl ?_
      exact ⟨_, _, rfl, Hr4.out.below Hbl.out hlt, gB Hg3.out Hbl.out⟩
    · have hq1 : (x == 1) = false := by simpa using h1
      clear h1
      go_wp2_with fail
      refine (r_rndDy B g (q + 1) _ hr (by omega)).mono ?_
      rintro e w3 ⟨y, u, rfl, hr4, hw4⟩
      have HR3 := Lib.hid (HR.out.grown hw4 (by intro e; have := Option.some.inj e; omega))
      have Hg3 := Lib.hid (gtrans Hg.out hw4)
      have Hr4 := Lib.hid hr4
      clear hr hw4 hr4
      have HS := Lib.hid ((HR3.out.set0 y).set1 (.int .i64 u))
      have z0 := HS.out.cell0
      have z1 := HS.out.cell1
      have f0 := HR3.out.frozen 0
      have f1 := HR3.out.frozen 1
      have c0 := HR3.out.cell0
      have c1 := HR3.out.cell1
      have hbl : Below w.heap.size w3 ((w3.setCell ⟨w.heap.size, 0, none⟩ (.int .i64 y)).setCell ⟨w.heap.size, 1, none⟩ (.int .i64 u)) := ((Below.refl w.heap.size w3).setCell (p := ⟨w.heap.size, 0, none⟩) (Nat.le_refl _) _).setCell (p := ⟨w.heap.size, 1, none⟩) (Nat.le_refl _) _
      have Hbl := Lib.hid hbl
      clear hbl
      go_wp2_with fail
      refine bodyPost_ret (v := .agg #[.int .i64 y, .int .i64 u]) (by simp [results, Try.results46, go_sem, z0, z1]) rfl ?_
      exact ⟨_, _, rfl, Hr4.out.below Hbl.out hlt, gB Hg3.out Hbl.out⟩
end Go.Proofs.Ytocjlhlohlkkmaa
