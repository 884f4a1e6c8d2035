/-
  The draws of lists of switches: new memory, and nothing that was there before is written.
-/
import Derived.Test.YtjolappndbmmaaaSwO
import Derived.Test.YtjolappndbmmaaaDraw
import Derived.OwnWalk
namespace Go.Proofs.Ytjolappndbmmaaa
set_option maxRecDepth 100000
open Go.RowKit

/-- What a draw of two ints over a reader gives. -/
def GotD (w : World) (B g q : Nat) (e : Ending) (w' : World) : Prop :=
  ∃ x y : Int, e = .returned (.agg #[.int .i64 x, .int .i64 y]) ∧ Rdr w' B g q ∧ w.grownBy w' (some g)
theorem gB {w a b : World} {row : Option Nat} (h : w.grownBy a row) (hb : Below w.heap.size a b) : w.grownBy b row :=
  ⟨hb.os.trans h.os, hb.tape.trans h.tape, hb.output.trans h.output, Nat.le_trans h.size hb.size, fun k hk hr => (hb.block k hk).trans (h.block k hk hr)⟩
theorem bgD {B g : Nat} {w w1 w2 : World} (hb : Below B w w1) (hB : B ≤ w1.heap.size) (hw : w1.grownBy w2 (some g)) (hg : B ≤ g) : Below B w w2 :=
  hb.grown hw hB (fun k e => by injection e; omega)
theorem new_box (w : World) (o : Obj) : ∃ y, y = w.alloc o ∧ Below w.heap.size w y ∧ w.heap.size + 1 ≤ y.heap.size ∧ y.heap.size ≤ w.heap.size + 1 :=
  ⟨_, rfl, (Below.refl _ _).alloc (Nat.le_refl _) _, by simp, by simp⟩
set_option maxRecDepth 100000 in
set_option maxHeartbeats 4000000 in
theorem r_anySw (B g q : Nat) (w : World) (h : Rdr w B g q) (hq : q ≤ 10000000000) :
    Calls Try.prog 75 #[.pointer (some ⟨g, 0, none⟩)] w fun e w' => ∃ q', q' ≤ q + 5 ∧ GotD w B g q' e w' := by
  have hlt := h.lt
  go_enter Try.func75, Try.ntmps75
  go_wp2_with fail
  obtain ⟨y1, hy1, hb1, z1, z2⟩ := new_box w (.cells #[.int .i64 0, .int .i64 0] 39)
  have R1 : Bx 39 y1 w.heap.size 0 (.int .i64 0) := by rw [hy1]; exact Bx.new _ _ _ _
  rw [← hy1]
  clear hy1
  refine (r_pick B g q _ _ (h.below hb1 hlt) (by omega)).mono ?_
  rintro e w1 ⟨x, rfl, x1, x2, hr, hw⟩
  have HR := Lib.hid (R1.grown hw (by intro e; have := Option.some.inj e; omega))
  have Hg := Lib.hid (show w.grownBy w1 (some g) from gtrans ⟨hb1.os, hb1.tape, hb1.output, hb1.size, fun k hk _ => hb1.block k hk⟩ hw)
  have hx40 : x < 21 := by omega
  have hzw := hw.size
  clear hb1 R1 hw x2 h
  obtain ⟨X, hX⟩ : ∃ X, x - 10 = X := ⟨_, rfl⟩
  have hX1 : -10 ≤ X := by omega
  have hX2 : X ≤ 10 := by omega
  go_wp2_with fail
  refine (r_pick B g (q + 1) _ _ hr (by omega)).mono ?_
  rintro e w2 ⟨y, rfl, y1', y2, hr2, hw2⟩
  have HR := Lib.hid (HR.out.grown hw2 (by intro e; have := Option.some.inj e; omega))
  have Hg := Lib.hid (gtrans Hg.out hw2)
  have hz2 := hw2.size
  have hy4 : y < 12 := by omega
  have Hr := Lib.hid hr2
  clear hr hw2 hr2 y2
  obtain ⟨Y, hY⟩ : ∃ Y, X - y = Y := ⟨_, rfl⟩
  have hY1 : -22 ≤ Y := by omega
  have hY2 : Y ≤ 10 := by omega
  go_wp2_with fail
  obtain ⟨w3, hy3, hb3, z5, z6⟩ := new_box w2 (.cells #[.int .i64 X, .int .i64 Y] 39)
  have RA : Bx 39 w3 w2.heap.size X (.int .i64 Y) := by rw [hy3]; exact Bx.new _ _ _ _
  rw [← hy3]
  clear hy3
  have HA := Lib.hid RA
  have HR := Lib.hid (HR.out.below hb3 HR.out.lt)
  have Hg := Lib.hid (gB Hg.out (hb3.mono (by omega)))
  have Hr := Lib.hid (Hr.out.below hb3 Hr.out.lt)
  have hgl := hlt
  clear RA hb3
  refine (r_pick B g (q + 1 + 1) _ _ Hr.out (by omega)).mono ?_
  rintro e w4 ⟨z, rfl, z1', z2', hr4, hw4⟩
  have HR := Lib.hid (HR.out.grown hw4 (by intro e; have := Option.some.inj e; omega))
  have HA := Lib.hid (HA.out.grown hw4 (by intro e; have := Option.some.inj e; omega))
  have Hg := Lib.hid (gtrans Hg.out hw4)
  have Hr := Lib.hid hr4
  have hz4 := hw4.size
  clear hr4 hw4 z2'
  by_cases h0 : z = 0
  · have hq0 : (z == 0) = true := by simpa using h0
    clear h0 z1'
    go_wp2_with fail
    have hl := Ints.lit w4 3 [99, 100, -99, 0]
    have hlr := Hr.out.lt
    obtain ⟨yy, hyy, hbb, zz1, zz2⟩ := new_box w4 (.cells #[.int .i64 99, .int .i64 100, .int .i64 (-99), .int .i64 0] 3)
    refine (r_one B g (q + 1 + 1 + 1) _ _ [99, 100, -99, 0] (w4.heap.size + 1) _ (Hr.out.below ((Below.refl _ _).alloc (Nat.le_refl _) _) hlr) (by omega) hl (by simp) (by simp) (by simp) (by rintro b o e; injection e with e; injection e; omega)).mono ?_
    rintro e w5 ⟨u, rfl, _, hr9, hw9⟩
    have hw9 : yy.grownBy w5 (some g) := by rw [hyy]; exact hw9
    have HR := Lib.hid ((HR.out.below hbb HR.out.lt).grown hw9 (by intro e; have := Option.some.inj e; omega))
    have HA := Lib.hid ((HA.out.below hbb HA.out.lt).grown hw9 (by intro e; have := Option.some.inj e; omega))
    have Hg := Lib.hid (gtrans (gB Hg.out (hbb.mono (by omega))) hw9)
    have Hr := Lib.hid hr9
    have hs5 := hw9.size
    have ht5 := hbb.size
    clear hw9 hr9 hl hbb hyy
    go_wp2_with fail
    have hl := Ints.lit w5 3 [-99, -100, 1]
    have hlr := Hr.out.lt
    obtain ⟨yy, hyy, hbb, zz1, zz2⟩ := new_box w5 (.cells #[.int .i64 (-99), .int .i64 (-100), .int .i64 1] 3)
    refine (r_one B g (q + 1 + 1 + 1 + 1) _ _ [-99, -100, 1] (w5.heap.size + 1) _ (Hr.out.below ((Below.refl _ _).alloc (Nat.le_refl _) _) hlr) (by omega) hl (by simp) (by simp) (by simp) (by rintro b o e; injection e with e; injection e; omega)).mono ?_
    rintro e w6 ⟨v, rfl, _, hr9, hw9⟩
    have hw9 : yy.grownBy w6 (some g) := by rw [hyy]; exact hw9
    have HR := Lib.hid ((HR.out.below hbb HR.out.lt).grown hw9 (by intro e; have := Option.some.inj e; omega))
    have HA := Lib.hid ((HA.out.below hbb HA.out.lt).grown hw9 (by intro e; have := Option.some.inj e; omega))
    have Hg := Lib.hid (gtrans (gB Hg.out (hbb.mono (by omega))) hw9)
    have Hr := Lib.hid hr9
    have hs6 := hw9.size
    have ht6 := hbb.size
    clear hw9 hr9 hl hbb hyy
    have a0 := HA.out.cell0
    have a1 := HA.out.cell1
    have af0 := HA.out.frozen 0
    have af1 := HA.out.frozen 1
    have al := HA.out.lt
    have r0 := HR.out.cell0
    have r1 := HR.out.cell1
    have rf0 := HR.out.frozen 0
    have rf1 := HR.out.frozen 1
    have rl := HR.out.lt
    have hne : w2.heap.size ≠ w.heap.size := by omega
    have hA2 := (HA.out.set0 u).set1 (.int .i64 v)
    have hR2 := (HR.out.far (p := ⟨w2.heap.size, 0, none⟩) (by simp; omega) (.int .i64 u)).far (p := ⟨w2.heap.size, 1, none⟩) (by simp; omega) (.int .i64 v)
    have b0 := hA2.cell0
    have b1 := hA2.cell1
    have br0 := hR2.frozen 0
    have br1 := hR2.frozen 1
    have b2 := hR2.cell0
    have b3 := hR2.cell1
    have HS := Lib.hid ((hR2.set0 u).set1 (.int .i64 v))
    clear hA2 hR2
    have s0 := HS.out.cell0
    have s1 := HS.out.cell1
    have Hbl := Lib.hid (((((Below.refl w.heap.size w6).setCell (p := ⟨w2.heap.size, 0, none⟩) (by simp; omega) (.int .i64 u)).setCell (p := ⟨w2.heap.size, 1, none⟩) (by simp; omega) (.int .i64 v)).setCell (p := ⟨w.heap.size, 0, none⟩) (Nat.le_refl _) (.int .i64 u)).setCell (p := ⟨w.heap.size, 1, none⟩) (Nat.le_refl _) (.int .i64 v))
    go_wp2_with fail
    refine bodyPost_ret (v := .agg #[.int .i64 u, .int .i64 v]) (by simp [results, Try.results75, go_sem, s0, s1]) rfl ?_
    exact ⟨_, by omega, _, _, rfl, Hr.out.below Hbl.out hgl, gB Hg.out Hbl.out⟩
  · have hq0 : (z == 0) = false := by simpa using h0
    clear h0 z1'
    have a0 := HA.out.cell0
    have a1 := HA.out.cell1
    have af0 := HA.out.frozen 0
    have af1 := HA.out.frozen 1
    have al := HA.out.lt
    have r0 := HR.out.cell0
    have r1 := HR.out.cell1
    have rf0 := HR.out.frozen 0
    have rf1 := HR.out.frozen 1
    have rl := HR.out.lt
    have HS := Lib.hid ((HR.out.set0 X).set1 (.int .i64 Y))
    have s0 := HS.out.cell0
    have s1 := HS.out.cell1
    have Hbl := Lib.hid (((Below.refl w.heap.size w4).setCell (p := ⟨w.heap.size, 0, none⟩) (Nat.le_refl _) (.int .i64 X)).setCell (p := ⟨w.heap.size, 1, none⟩) (Nat.le_refl _) (.int .i64 Y))
    go_wp2_with fail
    refine bodyPost_ret (v := .agg #[.int .i64 X, .int .i64 Y]) (by simp [results, Try.results75, go_sem, s0, s1]) rfl ?_
    exact ⟨_, by omega, _, _, rfl, Hr.out.below Hbl.out hgl, gB Hg.out Hbl.out⟩
end Go.Proofs.Ytjolappndbmmaaa
