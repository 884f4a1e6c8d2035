/-
  Heat and mean of a switch, in both packages, at named answers; the switch of a law's argument.
-/
import Derived.Test.YtocjlhlohlkkmaaSwI
namespace Go.Proofs.Ytocjlhlohlkkmaa
set_option maxRecDepth 100000
open Go.RowKit
theorem Sws.one (w : World) (l r : Int) : Sws (w.alloc (.cells #[.int .i64 l, .int .i64 r] 36)) (w.alloc (.cells #[.int .i64 l, .int .i64 r] 36)).heap.size (some ⟨w.heap.size, 0, none⟩) 1 [(l, r)] := by
  have hx := Bx.new 36 w l (.int .i64 r)
  refine ⟨rfl, .inr ⟨_, _, rfl, hx.lt, fun j hj => ?_⟩⟩
  obtain rfl : j = 0 := by omega
  exact ⟨hx.cell0, hx.cell1⟩
theorem Sw.one_all (l r : Int) : (Sw.all [(l, r)] && decide (1 ≤ 6)) = Sw.ok l r := by simp [Sw.all]
theorem Sw.heat_t {l r : Int} (h : Sw.ok l r = true) : Sw.heat l r = l - r := if_pos h
theorem Sw.heat_f {l r : Int} (h : Sw.ok l r = false) : Sw.heat l r = -1 := by rw [Sw.heat, if_neg (by rw [h]; exact Bool.false_ne_true)]
theorem Sw.mean_f {l r p q : Int} {b : Bool} (h : Sw.mean l r = ((p, q), b)) (ho : Sw.ok l r = false) : p = 0 ∧ q = 0 ∧ b = false := by
  rw [Sw.mean, if_neg (by rw [ho]; exact Bool.false_ne_true)] at h
  injection h with h1 h2
  injection h1 with h3 h4
  exact ⟨h3.symm, h4.symm, h2.symm⟩
theorem Sw.mean_t {l r p q : Int} {b : Bool} (h : Sw.mean l r = ((p, q), b)) (ho : Sw.ok l r = true) : b = true ∧ Dy.low 1 (l + r) = (p, q) ∧ Dy.mk (l + r) 1 = ((p, q), true) := by
  have hm := Sw.mean_mk ho
  rw [Sw.mean, if_pos ho] at h
  injection h with h1 h2
  exact ⟨h2.symm, h1, by rw [hm, h1]⟩
theorem l_toSw (x y : Int) (w : World) : Calls Try.prog 38 #[.agg #[.int .i64 x, .int .i64 y]] w fun r w' => r = .returned (.agg #[.int .i64 x, .int .i64 y]) ∧ Below w.heap.size w w' := by
  go_enter Try.func38, Try.ntmps38
  go_wp2
  go_returns
  exact ⟨rfl, (((Below.refl _ _).alloc (Nat.le_refl _) _).alloc (by simp) _).alloc (by simp; omega) _⟩
set_option maxRecDepth 100000 in
set_option maxHeartbeats 4000000 in
theorem i_heatW (l r h : Int) (w : World) (hh : Hid (Sw.heat l r = h)) : Calls Try.prog 31 #[.agg #[.int .i64 l, .int .i64 r]] w fun e w' => e = .returned (.int .i64 h) ∧ Below w.heap.size w w' := by
  by_cases ho : Sw.ok l r = true
  · have hv := (Sw.heat_t ho).symm.trans hh.out
    have Hr := Lib.hid ho
    obtain ⟨o1, o2, o3⟩ := Sw.ok_iff.1 ho
    clear ho hh
    have Hh := Lib.hid hv
    have hb1 : 0 ≤ l - r := by omega
    have hb2 : l - r ≤ 198 := by omega
    have HB := Lib.hid (Below.refl w.heap.size w)
    go_enter Try.func31, Try.ntmps31
    go_wp2_with fail
    obtain ⟨x1, hy3, hb2, z4, z5⟩ := new_box w (.cells #[.int .i64 l, .int .i64 r] 36)
    have X0 : Hid (Bx 36 x1 w.heap.size l (.int .i64 r)) := Lib.hid (by rw [hy3]; exact Bx.new _ _ _ _)
    rw [← hy3]
    clear hy3
    have HB := Lib.hid (bstep HB.out hb2)
    clear hb2
    have X0_0 := X0.out.cell0
    have X0_1 := X0.out.cell1
    have X0_l := X0.out.lt
    go_wp2_with fail
    refine (i_swok l r _).mono ?_
    rintro e x6 ⟨rfl, hb7⟩
    clear X0_0 X0_1 X0_l
    have X0 := Lib.hid (X0.out.step hb7)
    have HB := Lib.hid (bstep HB.out hb7)
    rw [Hr.out]
    clear hb7
    have X0_0 := X0.out.cell0
    have X0_1 := X0.out.cell1
    have X0_l := X0.out.lt
    go_wp2_with fail
    refine (i_swheat l r _ Hr.out).mono ?_
    rintro e x9 ⟨rfl, hb10⟩
    clear X0_0 X0_1 X0_l
    have X0 := Lib.hid (X0.out.step hb10)
    have HB := Lib.hid (bstep HB.out hb10)
    clear hb10
    have X0_0 := X0.out.cell0
    have X0_1 := X0.out.cell1
    have X0_l := X0.out.lt
    go_wp2_with fail
    go_ret
    exact ⟨by rw [← Hh.out]; rfl, HB.out⟩
  · have Hr : Hid (Sw.ok l r = false) := Lib.hid (by simpa using ho)
    have Hh := Lib.hid ((Sw.heat_f Hr.out).symm.trans hh.out)
    clear ho hh
    have HB := Lib.hid (Below.refl w.heap.size w)
    go_enter Try.func31, Try.ntmps31
    go_wp2_with fail
    obtain ⟨x1, hy3, hb2, z4, z5⟩ := new_box w (.cells #[.int .i64 l, .int .i64 r] 36)
    have X0 : Hid (Bx 36 x1 w.heap.size l (.int .i64 r)) := Lib.hid (by rw [hy3]; exact Bx.new _ _ _ _)
    rw [← hy3]
    clear hy3
    have HB := Lib.hid (bstep HB.out hb2)
    clear hb2
    have X0_0 := X0.out.cell0
    have X0_1 := X0.out.cell1
    have X0_l := X0.out.lt
    go_wp2_with fail
    refine (i_swok l r _).mono ?_
    rintro e x6 ⟨rfl, hb7⟩
    clear X0_0 X0_1 X0_l
    have X0 := Lib.hid (X0.out.step hb7)
    have HB := Lib.hid (bstep HB.out hb7)
    rw [Hr.out]
    clear hb7
    have X0_0 := X0.out.cell0
    have X0_1 := X0.out.cell1
    have X0_l := X0.out.lt
    go_wp2_with fail
    go_ret
    exact ⟨by rw [← Hh.out]; rfl, HB.out⟩
set_option maxRecDepth 100000 in
set_option maxHeartbeats 4000000 in
theorem s_heatW (l r h : Int) (w : World) (hh : Hid (Sw.heat l r = h)) : Calls Try.prog 32 #[.agg #[.int .i64 l, .int .i64 r]] w fun e w' => e = .returned (.int .i64 h) ∧ Below w.heap.size w w' := by
  by_cases ho : Sw.ok l r = true
  · have hv := (Sw.heat_t ho).symm.trans hh.out
    have Hr := Lib.hid ho
    obtain ⟨o1, o2, o3⟩ := Sw.ok_iff.1 ho
    clear ho hh
    have Hh := Lib.hid hv
    have hb1 : 0 ≤ l - r := by omega
    have hb2 : l - r ≤ 198 := by omega
    have HB := Lib.hid (Below.refl w.heap.size w)
    go_enter Try.func32, Try.ntmps32
    go_wp2_with fail
    obtain ⟨x1, hy3, hb2, z4, z5⟩ := new_box w (.cells #[.int .i64 l, .int .i64 r] 36)
    have X0 : Hid (Bx 36 x1 w.heap.size l (.int .i64 r)) := Lib.hid (by rw [hy3]; exact Bx.new _ _ _ _)
    rw [← hy3]
    clear hy3
    have HB := Lib.hid (bstep HB.out hb2)
    clear hb2
    have X0_0 := X0.out.cell0
    have X0_1 := X0.out.cell1
    have X0_l := X0.out.lt
    go_wp2_with fail
    obtain ⟨x6, hy7, hb8, z9, z10⟩ := new_box x1 (.cells #[.int .i64 l, .int .i64 r] 36)
    have hsw : Sws x6 x6.heap.size (some ⟨w.heap.size + 1, 0, none⟩) 1 [(l, r)] := by rw [show w.heap.size + 1 = x1.heap.size by omega, hy7]; exact Sws.one _ _ _
    rw [← hy7]
    clear hy7
    clear X0_0 X0_1 X0_l
    have X0 := Lib.hid (X0.out.step hb8)
    have HB := Lib.hid (bstep HB.out hb8)
    clear hb8
    have X0_0 := X0.out.cell0
    have X0_1 := X0.out.cell1
    have X0_l := X0.out.lt
    refine (s_vsw x6 _ _ 1 1 [(l, r)] hsw (by omega)).mono ?_
    rintro e x11 ⟨rfl, hb12⟩
    clear X0_0 X0_1 X0_l
    have X0 := Lib.hid (X0.out.step hb12)
    have HB := Lib.hid (bstep HB.out hb12)
    rw [Sw.one_all]
    rw [Hr.out]
    clear hb12
    have X0_0 := X0.out.cell0
    have X0_1 := X0.out.cell1
    have X0_l := X0.out.lt
    go_wp2_with fail
    go_ret
    exact ⟨by rw [← Hh.out]; rfl, HB.out⟩
  · have Hr : Hid (Sw.ok l r = false) := Lib.hid (by simpa using ho)
    have Hh := Lib.hid ((Sw.heat_f Hr.out).symm.trans hh.out)
    clear ho hh
    have HB := Lib.hid (Below.refl w.heap.size w)
    go_enter Try.func32, Try.ntmps32
    go_wp2_with fail
    obtain ⟨x1, hy3, hb2, z4, z5⟩ := new_box w (.cells #[.int .i64 l, .int .i64 r] 36)
    have X0 : Hid (Bx 36 x1 w.heap.size l (.int .i64 r)) := Lib.hid (by rw [hy3]; exact Bx.new _ _ _ _)
    rw [← hy3]
    clear hy3
    have HB := Lib.hid (bstep HB.out hb2)
    clear hb2
    have X0_0 := X0.out.cell0
    have X0_1 := X0.out.cell1
    have X0_l := X0.out.lt
    go_wp2_with fail
    obtain ⟨x6, hy7, hb8, z9, z10⟩ := new_box x1 (.cells #[.int .i64 l, .int .i64 r] 36)
    have hsw : Sws x6 x6.heap.size (some ⟨w.heap.size + 1, 0, none⟩) 1 [(l, r)] := by rw [show w.heap.size + 1 = x1.heap.size by omega, hy7]; exact Sws.one _ _ _
    rw [← hy7]
    clear hy7
    clear X0_0 X0_1 X0_l
    have X0 := Lib.hid (X0.out.step hb8)
    have HB := Lib.hid (bstep HB.out hb8)
    clear hb8
    have X0_0 := X0.out.cell0
    have X0_1 := X0.out.cell1
    have X0_l := X0.out.lt
    refine (s_vsw x6 _ _ 1 1 [(l, r)] hsw (by omega)).mono ?_
    rintro e x11 ⟨rfl, hb12⟩
    clear X0_0 X0_1 X0_l
    have X0 := Lib.hid (X0.out.step hb12)
    have HB := Lib.hid (bstep HB.out hb12)
    rw [Sw.one_all]
    rw [Hr.out]
    clear hb12
    have X0_0 := X0.out.cell0
    have X0_1 := X0.out.cell1
    have X0_l := X0.out.lt
    go_wp2_with fail
    go_ret
    exact ⟨by rw [← Hh.out]; rfl, HB.out⟩
set_option maxRecDepth 100000 in
set_option maxHeartbeats 4000000 in
theorem i_meanW (l r p q : Int) (b : Bool) (w : World) (hh : Hid (Sw.mean l r = ((p, q), b))) : Calls Try.prog 33 #[.agg #[.int .i64 l, .int .i64 r]] w fun e w' => e = .returned (.tuple #[.agg #[.int .i64 p, .int .i64 q], .bool b]) ∧ Below w.heap.size w w' := by
  by_cases ho : Sw.ok l r = true
  · obtain ⟨rfl, hl, hm⟩ := Sw.mean_t hh.out ho
    have Hr := Lib.hid ho
    obtain ⟨o1, o2, o3⟩ := Sw.ok_iff.1 ho
    have Hl := Lib.hid hl
    have Hm := Lib.hid hm
    clear ho hh hl hm
    have hb1 : -198 ≤ l + r := by omega
    have hb2 : l + r ≤ 198 := by omega
    have HB := Lib.hid (Below.refl w.heap.size w)
    go_enter Try.func33, Try.ntmps33
    have R_g : w.heap.size ≤ w.heap.size + 1 := by omega
    go_wp2_with fail
    obtain ⟨x1, hy3, hb2, z4, z5⟩ := new_box w (.cells #[.int .i64 l, .int .i64 r] 36)
    have X0 : Hid (Bx 36 x1 w.heap.size l (.int .i64 r)) := Lib.hid (by rw [hy3]; exact Bx.new _ _ _ _)
    rw [← hy3]
    clear hy3
    have HB := Lib.hid (bstep HB.out hb2)
    clear hb2
    have X0_0 := X0.out.cell0
    have X0_1 := X0.out.cell1
    have X0_l := X0.out.lt
    obtain ⟨x6, hy8, hb7, z9, z10⟩ := new_box x1 (.cells #[.int .i64 0, .int .i64 0] 26)
    have R : Hid (Bx 26 x6 x1.heap.size 0 (.int .i64 0)) := Lib.hid (by rw [hy8]; exact Bx.new _ _ _ _)
    rw [← hy8]
    clear hy8
    clear X0_0 X0_1 X0_l
    have X0 := Lib.hid (X0.out.step hb7)
    have HB := Lib.hid (bstep HB.out hb7)
    clear hb7
    have X0_0 := X0.out.cell0
    have X0_1 := X0.out.cell1
    have X0_l := X0.out.lt
    have R_0 := R.out.cell0
    have R_1 := R.out.cell1
    have R_l := R.out.lt
    clear R_0 R_1 R_l
    have R : Hid (Bx 26 x6 (w.heap.size + 1) 0 (.int .i64 0)) := Lib.hid (by have h := R.out; rw [show x1.heap.size = w.heap.size + 1 by omega] at h; exact h)
    have R_0 := R.out.cell0
    have R_1 := R.out.cell1
    have R_l := R.out.lt
    go_wp2_with fail
    refine (i_swok l r _).mono ?_
    rintro e x11 ⟨rfl, hb12⟩
    clear X0_0 X0_1 X0_l R_0 R_1 R_l
    have X0 := Lib.hid (X0.out.step hb12)
    have R := Lib.hid (R.out.step hb12)
    have HB := Lib.hid (bstep HB.out hb12)
    rw [Hr.out]
    clear hb12
    have X0_0 := X0.out.cell0
    have X0_1 := X0.out.cell1
    have X0_l := X0.out.lt
    have R_0 := R.out.cell0
    have R_1 := R.out.cell1
    have R_l := R.out.lt
    go_wp2_with fail
    refine (i_makeW (l + r) 1 p q true _ Hm).mono ?_
    rintro e x14 ⟨rfl, hb15⟩
    clear X0_0 X0_1 X0_l R_0 R_1 R_l
    have X0 := Lib.hid (X0.out.step hb15)
    have R := Lib.hid (R.out.step hb15)
    have HB := Lib.hid (bstep HB.out hb15)
    clear hb15
    have X0_0 := X0.out.cell0
    have X0_1 := X0.out.cell1
    have X0_l := X0.out.lt
    have R_0 := R.out.cell0
    have R_1 := R.out.cell1
    have R_l := R.out.lt
    have HS := Lib.hid ((R.out.set0 (p)).set1 (.int .i64 (q)))
    have z0 := HS.out.cell0
    have z1 := HS.out.cell1
    have HBS := Lib.hid ((HB.out.setCell (p := ⟨w.heap.size + 1, 0, none⟩) (by have := R_g; omega) (.int .i64 (p))).setCell (p := ⟨w.heap.size + 1, 1, none⟩) (by have := R_g; omega) (.int .i64 (q)))
    have R_f0 := R.out.frozen 0
    have R_f1 := R.out.frozen 1
    go_wp2_with fail
    refine bodyPost_ret (v := .tuple #[.agg #[.int .i64 (p), .int .i64 (q)], .bool true]) (by simp [results, Try.results33, go_sem, z0, z1]) rfl ?_
    exact ⟨rfl, HBS.out⟩
  · have Hr : Hid (Sw.ok l r = false) := Lib.hid (by simpa using ho)
    obtain ⟨rfl, rfl, rfl⟩ := Sw.mean_f hh.out Hr.out
    clear ho hh
    have HB := Lib.hid (Below.refl w.heap.size w)
    go_enter Try.func33, Try.ntmps33
    have R_g : w.heap.size ≤ w.heap.size + 1 := by omega
    go_wp2_with fail
    obtain ⟨x1, hy3, hb2, z4, z5⟩ := new_box w (.cells #[.int .i64 l, .int .i64 r] 36)
    have X0 : Hid (Bx 36 x1 w.heap.size l (.int .i64 r)) := Lib.hid (by rw [hy3]; exact Bx.new _ _ _ _)
    rw [← hy3]
    clear hy3
    have HB := Lib.hid (bstep HB.out hb2)
    clear hb2
    have X0_0 := X0.out.cell0
    have X0_1 := X0.out.cell1
    have X0_l := X0.out.lt
    obtain ⟨x6, hy8, hb7, z9, z10⟩ := new_box x1 (.cells #[.int .i64 0, .int .i64 0] 26)
    have R : Hid (Bx 26 x6 x1.heap.size 0 (.int .i64 0)) := Lib.hid (by rw [hy8]; exact Bx.new _ _ _ _)
    rw [← hy8]
    clear hy8
    clear X0_0 X0_1 X0_l
    have X0 := Lib.hid (X0.out.step hb7)
    have HB := Lib.hid (bstep HB.out hb7)
    clear hb7
    have X0_0 := X0.out.cell0
    have X0_1 := X0.out.cell1
    have X0_l := X0.out.lt
    have R_0 := R.out.cell0
    have R_1 := R.out.cell1
    have R_l := R.out.lt
    clear R_0 R_1 R_l
    have R : Hid (Bx 26 x6 (w.heap.size + 1) 0 (.int .i64 0)) := Lib.hid (by have h := R.out; rw [show x1.heap.size = w.heap.size + 1 by omega] at h; exact h)
    have R_0 := R.out.cell0
    have R_1 := R.out.cell1
    have R_l := R.out.lt
    go_wp2_with fail
    refine (i_swok l r _).mono ?_
    rintro e x11 ⟨rfl, hb12⟩
    clear X0_0 X0_1 X0_l R_0 R_1 R_l
    have X0 := Lib.hid (X0.out.step hb12)
    have R := Lib.hid (R.out.step hb12)
    have HB := Lib.hid (bstep HB.out hb12)
    rw [Hr.out]
    clear hb12
    have X0_0 := X0.out.cell0
    have X0_1 := X0.out.cell1
    have X0_l := X0.out.lt
    have R_0 := R.out.cell0
    have R_1 := R.out.cell1
    have R_l := R.out.lt
    have HS := Lib.hid ((R.out.set0 (0)).set1 (.int .i64 (0)))
    have z0 := HS.out.cell0
    have z1 := HS.out.cell1
    have HBS := Lib.hid ((HB.out.setCell (p := ⟨w.heap.size + 1, 0, none⟩) (by have := R_g; omega) (.int .i64 (0))).setCell (p := ⟨w.heap.size + 1, 1, none⟩) (by have := R_g; omega) (.int .i64 (0)))
    have R_f0 := R.out.frozen 0
    have R_f1 := R.out.frozen 1
    go_wp2_with fail
    refine bodyPost_ret (v := .tuple #[.agg #[.int .i64 (0), .int .i64 (0)], .bool false]) (by simp [results, Try.results33, go_sem, z0, z1]) rfl ?_
    exact ⟨rfl, HBS.out⟩
theorem s_low1 (n : Int) (w : World) (hn1 : -1000000000 ≤ n) (hn2 : n ≤ 1000000000) : Calls Try.prog 45 #[.int .i64 n, .int .i64 1] w fun r w' => r = .returned (.agg #[.int .i64 (Dy.low 1 n).1, .int .i64 (Dy.low 1 n).2]) ∧ Below w.heap.size w w' :=
  s_lowest n 1 w hn1 hn2 (by omega)
set_option maxRecDepth 100000 in
set_option maxHeartbeats 4000000 in
theorem s_meanW (l r p q : Int) (b : Bool) (w : World) (hh : Hid (Sw.mean l r = ((p, q), b))) : Calls Try.prog 35 #[.agg #[.int .i64 l, .int .i64 r]] w fun e w' => e = .returned (.tuple #[.agg #[.int .i64 p, .int .i64 q], .bool b]) ∧ Below w.heap.size w w' := by
  by_cases ho : Sw.ok l r = true
  · obtain ⟨rfl, hl, hm⟩ := Sw.mean_t hh.out ho
    have Hr := Lib.hid ho
    obtain ⟨o1, o2, o3⟩ := Sw.ok_iff.1 ho
    have Hl := Lib.hid hl
    have Hm := Lib.hid hm
    clear ho hh hl hm
    have hb1 : -198 ≤ l + r := by omega
    have hb2 : l + r ≤ 198 := by omega
    have HB := Lib.hid (Below.refl w.heap.size w)
    go_enter Try.func35, Try.ntmps35
    have R_g : w.heap.size ≤ w.heap.size + 1 := by omega
    go_wp2_with fail
    obtain ⟨x1, hy3, hb2, z4, z5⟩ := new_box w (.cells #[.int .i64 l, .int .i64 r] 36)
    have X0 : Hid (Bx 36 x1 w.heap.size l (.int .i64 r)) := Lib.hid (by rw [hy3]; exact Bx.new _ _ _ _)
    rw [← hy3]
    clear hy3
    have HB := Lib.hid (bstep HB.out hb2)
    clear hb2
    have X0_0 := X0.out.cell0
    have X0_1 := X0.out.cell1
    have X0_l := X0.out.lt
    obtain ⟨x6, hy8, hb7, z9, z10⟩ := new_box x1 (.cells #[.int .i64 0, .int .i64 0] 26)
    have R : Hid (Bx 26 x6 x1.heap.size 0 (.int .i64 0)) := Lib.hid (by rw [hy8]; exact Bx.new _ _ _ _)
    rw [← hy8]
    clear hy8
    clear X0_0 X0_1 X0_l
    have X0 := Lib.hid (X0.out.step hb7)
    have HB := Lib.hid (bstep HB.out hb7)
    clear hb7
    have X0_0 := X0.out.cell0
    have X0_1 := X0.out.cell1
    have X0_l := X0.out.lt
    have R_0 := R.out.cell0
    have R_1 := R.out.cell1
    have R_l := R.out.lt
    clear R_0 R_1 R_l
    have R : Hid (Bx 26 x6 (w.heap.size + 1) 0 (.int .i64 0)) := Lib.hid (by have h := R.out; rw [show x1.heap.size = w.heap.size + 1 by omega] at h; exact h)
    have R_0 := R.out.cell0
    have R_1 := R.out.cell1
    have R_l := R.out.lt
    go_wp2_with fail
    obtain ⟨x11, hy12, hb13, z14, z15⟩ := new_box x6 (.cells #[.int .i64 l, .int .i64 r] 36)
    have hsw : Sws x11 x11.heap.size (some ⟨w.heap.size + 1 + 1, 0, none⟩) 1 [(l, r)] := by rw [show w.heap.size + 1 + 1 = x6.heap.size by omega, hy12]; exact Sws.one _ _ _
    rw [← hy12]
    clear hy12
    clear X0_0 X0_1 X0_l R_0 R_1 R_l
    have X0 := Lib.hid (X0.out.step hb13)
    have R := Lib.hid (R.out.step hb13)
    have HB := Lib.hid (bstep HB.out hb13)
    clear hb13
    have X0_0 := X0.out.cell0
    have X0_1 := X0.out.cell1
    have X0_l := X0.out.lt
    have R_0 := R.out.cell0
    have R_1 := R.out.cell1
    have R_l := R.out.lt
    refine (s_vsw x11 _ _ 1 1 [(l, r)] hsw (by omega)).mono ?_
    rintro e x16 ⟨rfl, hb17⟩
    clear X0_0 X0_1 X0_l R_0 R_1 R_l
    have X0 := Lib.hid (X0.out.step hb17)
    have R := Lib.hid (R.out.step hb17)
    have HB := Lib.hid (bstep HB.out hb17)
    rw [Sw.one_all]
    rw [Hr.out]
    clear hb17
    have X0_0 := X0.out.cell0
    have X0_1 := X0.out.cell1
    have X0_l := X0.out.lt
    have R_0 := R.out.cell0
    have R_1 := R.out.cell1
    have R_l := R.out.lt
    go_wp2_with fail
    refine (s_low1 (l + r) _ (by omega) (by omega)).mono ?_
    rintro e x19 ⟨rfl, hb20⟩
    clear X0_0 X0_1 X0_l R_0 R_1 R_l
    have X0 := Lib.hid (X0.out.step hb20)
    have R := Lib.hid (R.out.step hb20)
    have HB := Lib.hid (bstep HB.out hb20)
    rw [Hl.out]
    clear hb20
    have X0_0 := X0.out.cell0
    have X0_1 := X0.out.cell1
    have X0_l := X0.out.lt
    have R_0 := R.out.cell0
    have R_1 := R.out.cell1
    have R_l := R.out.lt
    have HS := Lib.hid ((R.out.set0 (p)).set1 (.int .i64 (q)))
    have z0 := HS.out.cell0
    have z1 := HS.out.cell1
    have HBS := Lib.hid ((HB.out.setCell (p := ⟨w.heap.size + 1, 0, none⟩) (by have := R_g; omega) (.int .i64 (p))).setCell (p := ⟨w.heap.size + 1, 1, none⟩) (by have := R_g; omega) (.int .i64 (q)))
    have R_f0 := R.out.frozen 0
    have R_f1 := R.out.frozen 1
    go_wp2_with fail
    refine bodyPost_ret (v := .tuple #[.agg #[.int .i64 (p), .int .i64 (q)], .bool true]) (by simp [results, Try.results35, go_sem, z0, z1]) rfl ?_
    exact ⟨rfl, HBS.out⟩
  · have Hr : Hid (Sw.ok l r = false) := Lib.hid (by simpa using ho)
    obtain ⟨rfl, rfl, rfl⟩ := Sw.mean_f hh.out Hr.out
    clear ho hh
    have HB := Lib.hid (Below.refl w.heap.size w)
    go_enter Try.func35, Try.ntmps35
    have R_g : w.heap.size ≤ w.heap.size + 1 := by omega
    go_wp2_with fail
    obtain ⟨x1, hy3, hb2, z4, z5⟩ := new_box w (.cells #[.int .i64 l, .int .i64 r] 36)
    have X0 : Hid (Bx 36 x1 w.heap.size l (.int .i64 r)) := Lib.hid (by rw [hy3]; exact Bx.new _ _ _ _)
    rw [← hy3]
    clear hy3
    have HB := Lib.hid (bstep HB.out hb2)
    clear hb2
    have X0_0 := X0.out.cell0
    have X0_1 := X0.out.cell1
    have X0_l := X0.out.lt
    obtain ⟨x6, hy8, hb7, z9, z10⟩ := new_box x1 (.cells #[.int .i64 0, .int .i64 0] 26)
    have R : Hid (Bx 26 x6 x1.heap.size 0 (.int .i64 0)) := Lib.hid (by rw [hy8]; exact Bx.new _ _ _ _)
    rw [← hy8]
    clear hy8
    clear X0_0 X0_1 X0_l
    have X0 := Lib.hid (X0.out.step hb7)
    have HB := Lib.hid (bstep HB.out hb7)
    clear hb7
    have X0_0 := X0.out.cell0
    have X0_1 := X0.out.cell1
    have X0_l := X0.out.lt
    have R_0 := R.out.cell0
    have R_1 := R.out.cell1
    have R_l := R.out.lt
    clear R_0 R_1 R_l
    have R : Hid (Bx 26 x6 (w.heap.size + 1) 0 (.int .i64 0)) := Lib.hid (by have h := R.out; rw [show x1.heap.size = w.heap.size + 1 by omega] at h; exact h)
    have R_0 := R.out.cell0
    have R_1 := R.out.cell1
    have R_l := R.out.lt
    go_wp2_with fail
    obtain ⟨x11, hy12, hb13, z14, z15⟩ := new_box x6 (.cells #[.int .i64 l, .int .i64 r] 36)
    have hsw : Sws x11 x11.heap.size (some ⟨w.heap.size + 1 + 1, 0, none⟩) 1 [(l, r)] := by rw [show w.heap.size + 1 + 1 = x6.heap.size by omega, hy12]; exact Sws.one _ _ _
    rw [← hy12]
    clear hy12
    clear X0_0 X0_1 X0_l R_0 R_1 R_l
    have X0 := Lib.hid (X0.out.step hb13)
    have R := Lib.hid (R.out.step hb13)
    have HB := Lib.hid (bstep HB.out hb13)
    clear hb13
    have X0_0 := X0.out.cell0
    have X0_1 := X0.out.cell1
    have X0_l := X0.out.lt
    have R_0 := R.out.cell0
    have R_1 := R.out.cell1
    have R_l := R.out.lt
    refine (s_vsw x11 _ _ 1 1 [(l, r)] hsw (by omega)).mono ?_
    rintro e x16 ⟨rfl, hb17⟩
    clear X0_0 X0_1 X0_l R_0 R_1 R_l
    have X0 := Lib.hid (X0.out.step hb17)
    have R := Lib.hid (R.out.step hb17)
    have HB := Lib.hid (bstep HB.out hb17)
    rw [Sw.one_all]
    rw [Hr.out]
    clear hb17
    have X0_0 := X0.out.cell0
    have X0_1 := X0.out.cell1
    have X0_l := X0.out.lt
    have R_0 := R.out.cell0
    have R_1 := R.out.cell1
    have R_l := R.out.lt
    have HS := Lib.hid ((R.out.set0 (0)).set1 (.int .i64 (0)))
    have z0 := HS.out.cell0
    have z1 := HS.out.cell1
    have HBS := Lib.hid ((HB.out.setCell (p := ⟨w.heap.size + 1, 0, none⟩) (by have := R_g; omega) (.int .i64 (0))).setCell (p := ⟨w.heap.size + 1, 1, none⟩) (by have := R_g; omega) (.int .i64 (0)))
    have R_f0 := R.out.frozen 0
    have R_f1 := R.out.frozen 1
    go_wp2_with fail
    refine bodyPost_ret (v := .tuple #[.agg #[.int .i64 (0), .int .i64 (0)], .bool false]) (by simp [results, Try.results35, go_sem, z0, z1]) rfl ?_
    exact ⟨rfl, HBS.out⟩
end Go.Proofs.Ytocjlhlohlkkmaa
