/-
  SimplestBetween of both packages at named answers.
-/
import Derived.Test.YtocjlhlohlkkmaaDyR
import Derived.Test.YtocjlhlohlkkmaaDyQ
namespace Go.Proofs.Ytocjlhlohlkkmaa
set_option maxRecDepth 100000
open Go.RowKit

theorem s_cmpW' (n e m k c : Int) (w : World) (h : Hid (Dy.cmp n e m k = c)) : Calls Try.prog 26 #[.agg #[.int .i64 n, .int .i64 e], .agg #[.int .i64 m, .int .i64 k]] w fun r w' => r = .returned (.int .i64 c) ∧ Below w.heap.size w w' := by
  rw [← h.out]; exact s_cmp n e m k w
theorem Dy.cmp_cases' {n e m k c : Int} (h : Dy.cmp n e m k = c) (h2 : c ≠ 2) : Dy.ok n e = true ∧ Dy.ok m k = true ∧ True := by
  have ho : Dy.ok n e = true ∧ Dy.ok m k = true := Classical.not_not.1 fun hn => h2 (by rw [← h]; exact Dy.cmp_two.2 hn)
  exact ⟨ho.1, ho.2, trivial⟩

theorem i_simW (n e m k p q : Int) (b : Bool) (w : World) (h : Hid (Dy.simR n e m k = if b = true then some (p, q) else none)) (h0 : Hid (b = false → p = 0 ∧ q = 0)) : Calls Try.prog 28 #[.agg #[.int .i64 n, .int .i64 e], .agg #[.int .i64 m, .int .i64 k]] w fun r w' => r = .returned (.tuple #[.agg #[.int .i64 p, .int .i64 q], .bool b]) ∧ Below w.heap.size w w' := by
  refine (i_sim n e m k w).mono ?_
  rintro r w' ⟨rfl, hb⟩
  refine ⟨?_, hb⟩
  rw [h.out]
  cases b with
  | true => rfl
  | false =>
    obtain ⟨rfl, rfl⟩ := h0.out rfl
    rfl
set_option maxRecDepth 100000 in
set_option maxHeartbeats 4000000 in
theorem s_simW (n e m k p q : Int) (b : Bool) (w : World) (h : Hid (Dy.simR n e m k = if b = true then some (p, q) else none)) (h0 : Hid (b = false → p = 0 ∧ q = 0)) : Calls Try.prog 29 #[.agg #[.int .i64 n, .int .i64 e], .agg #[.int .i64 m, .int .i64 k]] w fun r w' => r = .returned (.tuple #[.agg #[.int .i64 p, .int .i64 q], .bool b]) ∧ Below w.heap.size w w' := by
  obtain ⟨c, hc⟩ : ∃ c, Dy.cmp n e m k = c := ⟨_, rfl⟩
  have Hc := Lib.hid hc
  by_cases hm : c = -1
  · have hcb : (c != -1) = false := by simpa using hm
    obtain ⟨o1, o2, _⟩ := Dy.cmp_cases' hc (by omega)
    have hlt : Dy.sc n e < Dy.sc m k := by
      have := Dy.cmp_ok o1 o2
      rw [hc, hm] at this
      by_cases hl : Dy.sc n e < Dy.sc m k
      · exact hl
      · rw [if_neg hl] at this
        split at this <;> omega
    have B1 := Dy.sc_bd o1
    have B2 := Dy.sc_bd o2
    obtain ⟨⟨n1, n2, e1, e2⟩, _⟩ := Dy.ok_iff.1 o1
    obtain ⟨⟨m1, m2, k1, k2⟩, _⟩ := Dy.ok_iff.1 o2
    have hR : Dy.simR n e m k = Dy.sim (Dy.sc n e) (Dy.sc m k) := by rw [Dy.simR, if_pos ⟨o1, o2⟩]
    obtain ⟨A, hA⟩ : ∃ A, Dy.sc n e = A := ⟨_, rfl⟩
    obtain ⟨B, hB⟩ : ∃ B, Dy.sc m k = B := ⟨_, rfl⟩
    rw [hA, hB] at hR hlt
    rw [hA] at B1
    rw [hB] at B2
    obtain ⟨b11, b12⟩ := B1
    obtain ⟨b21, b22⟩ := B2
    have HA := Lib.hid hA
    have HBm := Lib.hid hB
    have HR := Lib.hid (hR.symm.trans h.out)
    clear hA hB hR o1 o2 hc hm
    have HB := Lib.hid (Below.refl w.heap.size w)
    go_enter Try.func29, Try.ntmps29
    have R_g : w.heap.size ≤ w.heap.size + 2 := by omega
    go_wp2_with fail
    obtain ⟨x1, hy3, hb2, z4, z5⟩ := new_box w (.cells #[.int .i64 n, .int .i64 e] 26)
    have X0 : Hid (Bx 26 x1 w.heap.size n (.int .i64 e)) := Lib.hid (by rw [hy3]; exact Bx.new _ _ _ _)
    rw [← hy3]
    clear hy3
    have HB := Lib.hid (bstep HB.out hb2)
    clear hb2
    have X0_0 := X0.out.cell0
    have X0_1 := X0.out.cell1
    have X0_l := X0.out.lt
    obtain ⟨x6, hy8, hb7, z9, z10⟩ := new_box x1 (.cells #[.int .i64 m, .int .i64 k] 26)
    have X1 : Hid (Bx 26 x6 x1.heap.size m (.int .i64 k)) := Lib.hid (by rw [hy8]; exact Bx.new _ _ _ _)
    rw [← hy8]
    clear hy8
    clear X0_0 X0_1 X0_l
    have X0 := Lib.hid (X0.out.step hb7)
    have HB := Lib.hid (bstep HB.out hb7)
    clear hb7
    have X0_0 := X0.out.cell0
    have X0_1 := X0.out.cell1
    have X0_l := X0.out.lt
    have X1_0 := X1.out.cell0
    have X1_1 := X1.out.cell1
    have X1_l := X1.out.lt
    clear X1_0 X1_1 X1_l
    have X1 : Hid (Bx 26 x6 (w.heap.size + 1) m (.int .i64 k)) := Lib.hid (by have h := X1.out; rw [show x1.heap.size = w.heap.size + 1 by omega] at h; exact h)
    have X1_0 := X1.out.cell0
    have X1_1 := X1.out.cell1
    have X1_l := X1.out.lt
    obtain ⟨x11, hy13, hb12, z14, z15⟩ := new_box x6 (.cells #[.int .i64 0, .int .i64 0] 26)
    have R : Hid (Bx 26 x11 x6.heap.size 0 (.int .i64 0)) := Lib.hid (by rw [hy13]; exact Bx.new _ _ _ _)
    rw [← hy13]
    clear hy13
    clear X0_0 X0_1 X0_l X1_0 X1_1 X1_l
    have X0 := Lib.hid (X0.out.step hb12)
    have X1 := Lib.hid (X1.out.step hb12)
    have HB := Lib.hid (bstep HB.out hb12)
    clear hb12
    have X0_0 := X0.out.cell0
    have X0_1 := X0.out.cell1
    have X0_l := X0.out.lt
    have X1_0 := X1.out.cell0
    have X1_1 := X1.out.cell1
    have X1_l := X1.out.lt
    have R_0 := R.out.cell0
    have R_1 := R.out.cell1
    have R_l := R.out.lt
    clear R_0 R_1 R_l
    have R : Hid (Bx 26 x11 (w.heap.size + 1 + 1) 0 (.int .i64 0)) := Lib.hid (by have h := R.out; rw [show x6.heap.size = w.heap.size + 1 + 1 by omega] at h; exact h)
    have R_0 := R.out.cell0
    have R_1 := R.out.cell1
    have R_l := R.out.lt
    refine (s_cmpW' n e m k c _ Hc).mono ?_
    rintro e x16 ⟨rfl, hb17⟩
    clear X0_0 X0_1 X0_l X1_0 X1_1 X1_l R_0 R_1 R_l
    have X0 := Lib.hid (X0.out.step hb17)
    have X1 := Lib.hid (X1.out.step hb17)
    have R := Lib.hid (R.out.step hb17)
    have HB := Lib.hid (bstep HB.out hb17)
    clear hb17
    have X0_0 := X0.out.cell0
    have X0_1 := X0.out.cell1
    have X0_l := X0.out.lt
    have X1_0 := X1.out.cell0
    have X1_1 := X1.out.cell1
    have X1_l := X1.out.lt
    have R_0 := R.out.cell0
    have R_1 := R.out.cell1
    have R_l := R.out.lt
    go_wp2_with fail
    have HC := Lib.hid (Below.refl x16.heap.size x16)
    go_cut [6, 7] (fun v u wx => ∃ (x y : Int) (bb : Bool), u = .bool bb ∧ Dy.sim A B = (if bb = true then some (x, y) else none) ∧ NewBx 26 x16 x y v wx)
    case first =>
      go_region_held3 (fun w' => w'.cell? ⟨w.heap.size, 0, none⟩ = some (.int .i64 n) ∧ w'.cell? ⟨w.heap.size, 1, none⟩ = some (.int .i64 e) ∧ w'.cell? ⟨w.heap.size + 1, 0, none⟩ = some (.int .i64 m) ∧ w'.cell? ⟨w.heap.size + 1, 1, none⟩ = some (.int .i64 k) ∧ w'.cell? ⟨w.heap.size + 1 + 1, 0, none⟩ = some (.int .i64 0) ∧ w'.cell? ⟨w.heap.size + 1 + 1, 1, none⟩ = some (.int .i64 0)) (first | exact ⟨X0_0, X0_1, X1_0, X1_1, R_0, R_1⟩ | go_keep | exact ⟨cell_far (cell_far X0_0 N_q0) N_q0, cell_far (cell_far X0_1 N_q0) N_q0, cell_far (cell_far X1_0 N_q1) N_q1, cell_far (cell_far X1_1 N_q1) N_q1, cell_far (cell_far R_0 N_q2) N_q2, cell_far (cell_far R_1 N_q2) N_q2⟩) (first | (go_at_call 54; with_reducible show Calls _ _ #[.int .i64 A, .int .i64 B] _ _; refine (s_simplest A B _ hlt b11 b12 b21 b22).mono ?_; rintro e yc ⟨x, y, bb, rfl, hs9, hb9⟩; (try replace hb9 := undrew hb9); (first | ((with_reducible have hn9 := Bx.step HN.out hb9); have HN := Lib.hid hn9; clear hn9 N_0 N_1 N_f0 N_f1 N_l; (with_reducible have hq9 := bstep HC.out hb9); clear hq9; have X0 := Lib.hid (Bx.step X0.out hb9); have X1 := Lib.hid (Bx.step X1.out hb9); have R := Lib.hid (Bx.step R.out hb9); have HC := Lib.hid (bstep HC.out hb9); have N_0 := HN.out.cell0; have N_1 := HN.out.cell1; have N_f0 := HN.out.frozen 0; have N_f1 := HN.out.frozen 1; have N_l := HN.out.lt) | ((with_reducible have hq9 := bstep HC.out hb9); clear hq9; have X0 := Lib.hid (Bx.step X0.out hb9); have X1 := Lib.hid (Bx.step X1.out hb9); have R := Lib.hid (Bx.step R.out hb9); have HC := Lib.hid (bstep HC.out hb9)) | (have HN := Lib.hid (Bx.step (Bx.new 26 _ 0 (.int .i64 0)) hb9); have N_g := HC.out.size; have N_q0 := Nat.ne_of_lt X0.out.lt; have N_q1 := Nat.ne_of_lt X1.out.lt; have N_q2 := Nat.ne_of_lt R.out.lt; have X0 := Lib.hid (Bx.step (Bx.alloc X0.out (.cells #[.int .i64 0, .int .i64 0] 26)) hb9); have X1 := Lib.hid (Bx.step (Bx.alloc X1.out (.cells #[.int .i64 0, .int .i64 0] 26)) hb9); have R := Lib.hid (Bx.step (Bx.alloc R.out (.cells #[.int .i64 0, .int .i64 0] 26)) hb9); have HC := Lib.hid (bstep (Below.alloc HC.out HC.out.size (.cells #[.int .i64 0, .int .i64 0] 26)) hb9); have N_0 := HN.out.cell0; have N_1 := HN.out.cell1; have N_f0 := HN.out.frozen 0; have N_f1 := HN.out.frozen 1; have N_l := HN.out.lt)); clear X0_0 X0_1 X0_l X1_0 X1_1 X1_l R_0 R_1 R_l; have X0_0 := X0.out.cell0; have X0_1 := X0.out.cell1; have X0_l := X0.out.lt; have X1_0 := X1.out.cell0; have X1_1 := X1.out.cell1; have X1_l := X1.out.lt; have R_0 := R.out.cell0; have R_1 := R.out.cell1; have R_l := R.out.lt; have Hs9 := Lib.hid hs9; clear hs9; clear hb9) | (go_at_call 50; with_reducible show Calls _ _ #[.agg #[.int .i64 n, .int .i64 e]] _ _; refine (s_scaled n e _ n1 n2 e1 e2).mono ?_; rintro e yc ⟨rfl, hb9⟩; (try replace hb9 := undrew hb9); (first | ((with_reducible have hn9 := Bx.step HN.out hb9); have HN := Lib.hid hn9; clear hn9 N_0 N_1 N_f0 N_f1 N_l; (with_reducible have hq9 := bstep HC.out hb9); clear hq9; have X0 := Lib.hid (Bx.step X0.out hb9); have X1 := Lib.hid (Bx.step X1.out hb9); have R := Lib.hid (Bx.step R.out hb9); have HC := Lib.hid (bstep HC.out hb9); have N_0 := HN.out.cell0; have N_1 := HN.out.cell1; have N_f0 := HN.out.frozen 0; have N_f1 := HN.out.frozen 1; have N_l := HN.out.lt) | ((with_reducible have hq9 := bstep HC.out hb9); clear hq9; have X0 := Lib.hid (Bx.step X0.out hb9); have X1 := Lib.hid (Bx.step X1.out hb9); have R := Lib.hid (Bx.step R.out hb9); have HC := Lib.hid (bstep HC.out hb9)) | (have HN := Lib.hid (Bx.step (Bx.new 26 _ 0 (.int .i64 0)) hb9); have N_g := HC.out.size; have N_q0 := Nat.ne_of_lt X0.out.lt; have N_q1 := Nat.ne_of_lt X1.out.lt; have N_q2 := Nat.ne_of_lt R.out.lt; have X0 := Lib.hid (Bx.step (Bx.alloc X0.out (.cells #[.int .i64 0, .int .i64 0] 26)) hb9); have X1 := Lib.hid (Bx.step (Bx.alloc X1.out (.cells #[.int .i64 0, .int .i64 0] 26)) hb9); have R := Lib.hid (Bx.step (Bx.alloc R.out (.cells #[.int .i64 0, .int .i64 0] 26)) hb9); have HC := Lib.hid (bstep (Below.alloc HC.out HC.out.size (.cells #[.int .i64 0, .int .i64 0] 26)) hb9); have N_0 := HN.out.cell0; have N_1 := HN.out.cell1; have N_f0 := HN.out.frozen 0; have N_f1 := HN.out.frozen 1; have N_l := HN.out.lt)); clear X0_0 X0_1 X0_l X1_0 X1_1 X1_l R_0 R_1 R_l; have X0_0 := X0.out.cell0; have X0_1 := X0.out.cell1; have X0_l := X0.out.lt; have X1_0 := X1.out.cell0; have X1_1 := X1.out.cell1; have X1_l := X1.out.lt; have R_0 := R.out.cell0; have R_1 := R.out.cell1; have R_l := R.out.lt; rw [HA.out]; clear hb9) | (go_at_call 50; with_reducible show Calls _ _ #[.agg #[.int .i64 m, .int .i64 k]] _ _; refine (s_scaled m k _ m1 m2 k1 k2).mono ?_; rintro e yc ⟨rfl, hb9⟩; (try replace hb9 := undrew hb9); (first | ((with_reducible have hn9 := Bx.step HN.out hb9); have HN := Lib.hid hn9; clear hn9 N_0 N_1 N_f0 N_f1 N_l; (with_reducible have hq9 := bstep HC.out hb9); clear hq9; have X0 := Lib.hid (Bx.step X0.out hb9); have X1 := Lib.hid (Bx.step X1.out hb9); have R := Lib.hid (Bx.step R.out hb9); have HC := Lib.hid (bstep HC.out hb9); have N_0 := HN.out.cell0; have N_1 := HN.out.cell1; have N_f0 := HN.out.frozen 0; have N_f1 := HN.out.frozen 1; have N_l := HN.out.lt) | ((with_reducible have hq9 := bstep HC.out hb9); clear hq9; have X0 := Lib.hid (Bx.step X0.out hb9); have X1 := Lib.hid (Bx.step X1.out hb9); have R := Lib.hid (Bx.step R.out hb9); have HC := Lib.hid (bstep HC.out hb9)) | (have HN := Lib.hid (Bx.step (Bx.new 26 _ 0 (.int .i64 0)) hb9); have N_g := HC.out.size; have N_q0 := Nat.ne_of_lt X0.out.lt; have N_q1 := Nat.ne_of_lt X1.out.lt; have N_q2 := Nat.ne_of_lt R.out.lt; have X0 := Lib.hid (Bx.step (Bx.alloc X0.out (.cells #[.int .i64 0, .int .i64 0] 26)) hb9); have X1 := Lib.hid (Bx.step (Bx.alloc X1.out (.cells #[.int .i64 0, .int .i64 0] 26)) hb9); have R := Lib.hid (Bx.step (Bx.alloc R.out (.cells #[.int .i64 0, .int .i64 0] 26)) hb9); have HC := Lib.hid (bstep (Below.alloc HC.out HC.out.size (.cells #[.int .i64 0, .int .i64 0] 26)) hb9); have N_0 := HN.out.cell0; have N_1 := HN.out.cell1; have N_f0 := HN.out.frozen 0; have N_f1 := HN.out.frozen 1; have N_l := HN.out.lt)); clear X0_0 X0_1 X0_l X1_0 X1_1 X1_l R_0 R_1 R_l; have X0_0 := X0.out.cell0; have X0_1 := X0.out.cell1; have X0_l := X0.out.lt; have X1_0 := X1.out.cell0; have X1_1 := X1.out.cell1; have X1_l := X1.out.lt; have R_0 := R.out.cell0; have R_1 := R.out.cell1; have R_l := R.out.lt; rw [HBm.out]; clear hb9))
      all_goals go_wp2_with fail
      all_goals go_meet
      all_goals first | exact ⟨_, _, _, rfl, Hs9.out, NewBx.make HC.out⟩ | exact ⟨_, _, _, rfl, Hs9.out, NewBx.late HN.out HC.out (by omega)⟩ | exact ⟨_, _, _, rfl, Hs9.out, NewBx.late2 HC.out⟩
    case rest =>
      clear HC
      obtain ⟨x, y, bb, rfl, hs, gq, rfl, hgq, hQ, hb9⟩ := hcut
      clear X0_0 X0_1 X0_l X1_0 X1_1 X1_l R_0 R_1 R_l
      have X0 := Lib.hid (X0.out.step hb9)
      have X1 := Lib.hid (X1.out.step hb9)
      have R := Lib.hid (R.out.step hb9)
      have HB := Lib.hid (bstep HB.out hb9)
      have Q := Lib.hid hQ
      have hcm := hs.symm.trans HR.out
      have Hcm := Lib.hid hcm
      clear hQ hb9 hs hcm
      have X0_0 := X0.out.cell0
      have X0_1 := X0.out.cell1
      have X0_l := X0.out.lt
      have X1_0 := X1.out.cell0
      have X1_1 := X1.out.cell1
      have X1_l := X1.out.lt
      have R_0 := R.out.cell0
      have R_1 := R.out.cell1
      have R_l := R.out.lt
      have Q_0 := Q.out.cell0
      have Q_1 := Q.out.cell1
      have Q_l := Q.out.lt
      cases bb with
      | false =>
        have hbf : b = false := by have := Hcm.out; cases b <;> simp_all
        obtain ⟨hp0, hq0⟩ := h0.out hbf
        have Hv := Lib.hid (And.intro hbf (And.intro hp0 hq0))
        clear hbf hp0 hq0
        have HS := Lib.hid ((R.out.set0 (0)).set1 (.int .i64 (0)))
        have z0 := HS.out.cell0
        have z1 := HS.out.cell1
        have HBS := Lib.hid ((HB.out.setCell (p := ⟨w.heap.size + 1 + 1, 0, none⟩) (by have := R_g; omega) (.int .i64 (0))).setCell (p := ⟨w.heap.size + 1 + 1, 1, none⟩) (by have := R_g; omega) (.int .i64 (0)))
        have R_f0 := R.out.frozen 0
        have R_f1 := R.out.frozen 1
        go_wp2_with fail
        refine bodyPost_ret (v := .tuple #[.agg #[.int .i64 (0), .int .i64 (0)], .bool false]) (by simp [results, Try.results29, go_sem, z0, z1]) rfl ?_
        exact ⟨by obtain ⟨rfl, rfl, rfl⟩ := Hv.out; rfl, HBS.out⟩
      | true =>
        have Hv : Hid (b = true ∧ x = p ∧ y = q) := Lib.hid (by have := Hcm.out; cases b <;> simp_all)
        have HS := Lib.hid ((R.out.set0 (x)).set1 (.int .i64 (y)))
        have z0 := HS.out.cell0
        have z1 := HS.out.cell1
        have HBS := Lib.hid ((HB.out.setCell (p := ⟨w.heap.size + 1 + 1, 0, none⟩) (by have := R_g; omega) (.int .i64 (x))).setCell (p := ⟨w.heap.size + 1 + 1, 1, none⟩) (by have := R_g; omega) (.int .i64 (y)))
        have R_f0 := R.out.frozen 0
        have R_f1 := R.out.frozen 1
        go_wp2_with fail
        refine bodyPost_ret (v := .tuple #[.agg #[.int .i64 (x), .int .i64 (y)], .bool true]) (by simp [results, Try.results29, go_sem, z0, z1]) rfl ?_
        exact ⟨by obtain ⟨rfl, rfl, rfl⟩ := Hv.out; rfl, HBS.out⟩
  · have hcb : (c != -1) = true := by simpa using hm
    have hR : Dy.simR n e m k = none := by
      unfold Dy.simR
      by_cases ho : Dy.ok n e = true ∧ Dy.ok m k = true
      · rw [if_pos ho]
        refine Dy.sim_none ?_
        have := Dy.cmp_ok ho.1 ho.2
        rw [hc] at this
        rcases Int.lt_or_le (Dy.sc n e) (Dy.sc m k) with hl | hl
        · rw [if_pos hl] at this; exact absurd this hm
        · exact hl
      · rw [if_neg ho]
    have hbf : b = false := by
      have := hR.symm.trans h.out
      cases b with
      | false => rfl
      | true =>
        rw [if_pos rfl] at this
        cases this
    obtain ⟨hp0, hq0⟩ := h0.out hbf
    have Hv := Lib.hid (And.intro hbf (And.intro hp0 hq0))
    clear hbf hp0 hq0 hR hc hm
    have HB := Lib.hid (Below.refl w.heap.size w)
    go_enter Try.func29, Try.ntmps29
    have R_g : w.heap.size ≤ w.heap.size + 2 := by omega
    go_wp2_with fail
    obtain ⟨x1, hy3, hb2, z4, z5⟩ := new_box w (.cells #[.int .i64 n, .int .i64 e] 26)
    have X0 : Hid (Bx 26 x1 w.heap.size n (.int .i64 e)) := Lib.hid (by rw [hy3]; exact Bx.new _ _ _ _)
    rw [← hy3]
    clear hy3
    have HB := Lib.hid (bstep HB.out hb2)
    clear hb2
    have X0_0 := X0.out.cell0
    have X0_1 := X0.out.cell1
    have X0_l := X0.out.lt
    obtain ⟨x6, hy8, hb7, z9, z10⟩ := new_box x1 (.cells #[.int .i64 m, .int .i64 k] 26)
    have X1 : Hid (Bx 26 x6 x1.heap.size m (.int .i64 k)) := Lib.hid (by rw [hy8]; exact Bx.new _ _ _ _)
    rw [← hy8]
    clear hy8
    clear X0_0 X0_1 X0_l
    have X0 := Lib.hid (X0.out.step hb7)
    have HB := Lib.hid (bstep HB.out hb7)
    clear hb7
    have X0_0 := X0.out.cell0
    have X0_1 := X0.out.cell1
    have X0_l := X0.out.lt
    have X1_0 := X1.out.cell0
    have X1_1 := X1.out.cell1
    have X1_l := X1.out.lt
    clear X1_0 X1_1 X1_l
    have X1 : Hid (Bx 26 x6 (w.heap.size + 1) m (.int .i64 k)) := Lib.hid (by have h := X1.out; rw [show x1.heap.size = w.heap.size + 1 by omega] at h; exact h)
    have X1_0 := X1.out.cell0
    have X1_1 := X1.out.cell1
    have X1_l := X1.out.lt
    obtain ⟨x11, hy13, hb12, z14, z15⟩ := new_box x6 (.cells #[.int .i64 0, .int .i64 0] 26)
    have R : Hid (Bx 26 x11 x6.heap.size 0 (.int .i64 0)) := Lib.hid (by rw [hy13]; exact Bx.new _ _ _ _)
    rw [← hy13]
    clear hy13
    clear X0_0 X0_1 X0_l X1_0 X1_1 X1_l
    have X0 := Lib.hid (X0.out.step hb12)
    have X1 := Lib.hid (X1.out.step hb12)
    have HB := Lib.hid (bstep HB.out hb12)
    clear hb12
    have X0_0 := X0.out.cell0
    have X0_1 := X0.out.cell1
    have X0_l := X0.out.lt
    have X1_0 := X1.out.cell0
    have X1_1 := X1.out.cell1
    have X1_l := X1.out.lt
    have R_0 := R.out.cell0
    have R_1 := R.out.cell1
    have R_l := R.out.lt
    clear R_0 R_1 R_l
    have R : Hid (Bx 26 x11 (w.heap.size + 1 + 1) 0 (.int .i64 0)) := Lib.hid (by have h := R.out; rw [show x6.heap.size = w.heap.size + 1 + 1 by omega] at h; exact h)
    have R_0 := R.out.cell0
    have R_1 := R.out.cell1
    have R_l := R.out.lt
    refine (s_cmpW' n e m k c _ Hc).mono ?_
    rintro e x16 ⟨rfl, hb17⟩
    clear X0_0 X0_1 X0_l X1_0 X1_1 X1_l R_0 R_1 R_l
    have X0 := Lib.hid (X0.out.step hb17)
    have X1 := Lib.hid (X1.out.step hb17)
    have R := Lib.hid (R.out.step hb17)
    have HB := Lib.hid (bstep HB.out hb17)
    clear hb17
    have X0_0 := X0.out.cell0
    have X0_1 := X0.out.cell1
    have X0_l := X0.out.lt
    have X1_0 := X1.out.cell0
    have X1_1 := X1.out.cell1
    have X1_l := X1.out.lt
    have R_0 := R.out.cell0
    have R_1 := R.out.cell1
    have R_l := R.out.lt
    have HS := Lib.hid ((R.out.set0 (0)).set1 (.int .i64 (0)))
    have z0 := HS.out.cell0
    have z1 := HS.out.cell1
    have HBS := Lib.hid ((HB.out.setCell (p := ⟨w.heap.size + 1 + 1, 0, none⟩) (by have := R_g; omega) (.int .i64 (0))).setCell (p := ⟨w.heap.size + 1 + 1, 1, none⟩) (by have := R_g; omega) (.int .i64 (0)))
    have R_f0 := R.out.frozen 0
    have R_f1 := R.out.frozen 1
    go_wp2_with fail
    refine bodyPost_ret (v := .tuple #[.agg #[.int .i64 (0), .int .i64 (0)], .bool false]) (by simp [results, Try.results29, go_sem, z0, z1]) rfl ?_
    exact ⟨by obtain ⟨rfl, rfl, rfl⟩ := Hv.out; rfl, HBS.out⟩
end Go.Proofs.Ytocjlhlohlkkmaa
