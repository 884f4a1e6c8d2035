/-
  The model's AddDyadic computes the plain function of DyP.
-/
import Derived.Test.YtocjlhlohlkkmaaDyM
namespace Go.Proofs.Ytocjlhlohlkkmaa
set_option maxRecDepth 100000
open Go.RowKit
theorem s_low8 (n : Int) (w : World) (hn1 : -1000000000 ≤ n) (hn2 : n ≤ 1000000000) : Calls Try.prog 45 #[.int .i64 n, .int .i64 8] w fun r w' => r = .returned (.agg #[.int .i64 (Dy.low 8 n).1, .int .i64 (Dy.low 8 n).2]) ∧ Below w.heap.size w w' :=
  s_lowest n 8 w hn1 hn2 (by omega)
set_option maxRecDepth 100000 in
set_option maxHeartbeats 4000000 in
theorem s_add (n e m k : Int) (w : World) : Calls Try.prog 22 #[.agg #[.int .i64 n, .int .i64 e], .agg #[.int .i64 m, .int .i64 k]] w fun r w' => r = .returned (if Dy.addB n e m k = true then .tuple #[.agg #[.int .i64 (Dy.add n e m k).1, .int .i64 (Dy.add n e m k).2], .bool true] else .tuple #[.agg #[.int .i64 0, .int .i64 0], .bool false]) ∧ Below w.heap.size w w' := by
  obtain ⟨V, hV⟩ : ∃ V, (if Dy.addB n e m k = true then Value.tuple #[.agg #[.int .i64 (Dy.add n e m k).1, .int .i64 (Dy.add n e m k).2], .bool true] else .tuple #[.agg #[.int .i64 0, .int .i64 0], .bool false]) = V := ⟨_, rfl⟩
  rw [hV]
  have HV := Lib.hid hV
  clear hV
  by_cases ha : Dy.ok n e = true
  · have Ha := Lib.hid ha
    by_cases hb : Dy.ok m k = true
    · have Hb := Lib.hid hb
      obtain ⟨⟨n1, n2, e1, e2⟩, _⟩ := Dy.ok_iff.1 ha
      obtain ⟨⟨m1, m2, k1, k2⟩, _⟩ := Dy.ok_iff.1 hb
      obtain ⟨P1, hP1⟩ : ∃ P, Dy.sc n e = P := ⟨_, rfl⟩
      obtain ⟨P2, hP2⟩ : ∃ P, Dy.sc m k = P := ⟨_, rfl⟩
      have b1 := Dy.sc_bd ha
      have b2 := Dy.sc_bd hb
      rw [hP1] at b1
      rw [hP2] at b2
      obtain ⟨b11, b12⟩ := b1
      obtain ⟨b21, b22⟩ := b2
      have hsum : Dy.add n e m k = Dy.low 8 (P1 + P2) := by rw [← hP1, ← hP2]; rfl
      obtain ⟨P3, hP3⟩ : ∃ P, P1 + P2 = P := ⟨_, rfl⟩
      have b31 : -5119488 ≤ P3 := by omega
      have b32 : P3 ≤ 5119488 := by omega
      have hw3 : IntKind.i64.wrap P3 = P3 := IntWalk.i64_in _ (by omega)
      rw [hP3] at hsum
      obtain ⟨⟨p, q⟩, hp⟩ : ∃ p, Dy.low 8 P3 = p := ⟨_, rfl⟩
      have hpq : Dy.ok p q = Dy.okR p q := by have := Dy.ok_low (e := 8) (n := P3) (by omega); rw [hp] at this; exact this
      have Hp := Lib.hid hp
      have HP1 := Lib.hid hP1
      have HP2 := Lib.hid hP2
      have hB : Dy.addB n e m k = Dy.okR p q := by rw [Dy.addB, ha, hb, hsum, hp]; rfl
      have HBq := Lib.hid (hB.trans hpq.symm)
      have Hsum := Lib.hid (hsum.trans hp)
      clear hB hsum hP1 hP2 hp ha hb hpq
      have HB := Lib.hid (Below.refl w.heap.size w)
      go_enter Try.func22, Try.ntmps22
      have R_g : w.heap.size ≤ w.heap.size + 2 := by omega
      go_wp2_with fail
      obtain ⟨x1, hy3, hb2, z4, z5⟩ := new_box w (.cells #[.int .i64 n, .int .i64 e] 26)
      have X0 : Hid (Bx 26 x1 w.heap.size n (.int .i64 e)) := Lib.hid (by rw [hy3]; exact Bx.new _ _ _ _)
      rw [← hy3]
      clear hy3
      have HB := Lib.hid (bstep HB.out hb2)
      clear hb2
      have X0_0 := X0.out.cell0
      have X0_1 := X0.out.cell1
      have X0_l := X0.out.lt
      obtain ⟨x6, hy8, hb7, z9, z10⟩ := new_box x1 (.cells #[.int .i64 m, .int .i64 k] 26)
      have X1 : Hid (Bx 26 x6 x1.heap.size m (.int .i64 k)) := Lib.hid (by rw [hy8]; exact Bx.new _ _ _ _)
      rw [← hy8]
      clear hy8
      clear X0_0 X0_1 X0_l
      have X0 := Lib.hid (X0.out.step hb7)
      have HB := Lib.hid (bstep HB.out hb7)
      clear hb7
      have X0_0 := X0.out.cell0
      have X0_1 := X0.out.cell1
      have X0_l := X0.out.lt
      have X1_0 := X1.out.cell0
      have X1_1 := X1.out.cell1
      have X1_l := X1.out.lt
      clear X1_0 X1_1 X1_l
      have X1 : Hid (Bx 26 x6 (w.heap.size + 1) m (.int .i64 k)) := Lib.hid (by have h := X1.out; rw [show x1.heap.size = w.heap.size + 1 by omega] at h; exact h)
      have X1_0 := X1.out.cell0
      have X1_1 := X1.out.cell1
      have X1_l := X1.out.lt
      obtain ⟨x11, hy13, hb12, z14, z15⟩ := new_box x6 (.cells #[.int .i64 0, .int .i64 0] 26)
      have R : Hid (Bx 26 x11 x6.heap.size 0 (.int .i64 0)) := Lib.hid (by rw [hy13]; exact Bx.new _ _ _ _)
      rw [← hy13]
      clear hy13
      clear X0_0 X0_1 X0_l X1_0 X1_1 X1_l
      have X0 := Lib.hid (X0.out.step hb12)
      have X1 := Lib.hid (X1.out.step hb12)
      have HB := Lib.hid (bstep HB.out hb12)
      clear hb12
      have X0_0 := X0.out.cell0
      have X0_1 := X0.out.cell1
      have X0_l := X0.out.lt
      have X1_0 := X1.out.cell0
      have X1_1 := X1.out.cell1
      have X1_l := X1.out.lt
      have R_0 := R.out.cell0
      have R_1 := R.out.cell1
      have R_l := R.out.lt
      clear R_0 R_1 R_l
      have R : Hid (Bx 26 x11 (w.heap.size + 1 + 1) 0 (.int .i64 0)) := Lib.hid (by have h := R.out; rw [show x6.heap.size = w.heap.size + 1 + 1 by omega] at h; exact h)
      have R_0 := R.out.cell0
      have R_1 := R.out.cell1
      have R_l := R.out.lt
      refine (s_ok n e _).mono ?_
      rintro e x16 ⟨rfl, hb17⟩
      clear X0_0 X0_1 X0_l X1_0 X1_1 X1_l R_0 R_1 R_l
      have X0 := Lib.hid (X0.out.step hb17)
      have X1 := Lib.hid (X1.out.step hb17)
      have R := Lib.hid (R.out.step hb17)
      have HB := Lib.hid (bstep HB.out hb17)
      rw [Ha.out]
      clear hb17
      have X0_0 := X0.out.cell0
      have X0_1 := X0.out.cell1
      have X0_l := X0.out.lt
      have X1_0 := X1.out.cell0
      have X1_1 := X1.out.cell1
      have X1_l := X1.out.lt
      have R_0 := R.out.cell0
      have R_1 := R.out.cell1
      have R_l := R.out.lt
      go_wp2_with fail
      refine (s_ok m k _).mono ?_
      rintro e x19 ⟨rfl, hb20⟩
      clear X0_0 X0_1 X0_l X1_0 X1_1 X1_l R_0 R_1 R_l
      have X0 := Lib.hid (X0.out.step hb20)
      have X1 := Lib.hid (X1.out.step hb20)
      have R := Lib.hid (R.out.step hb20)
      have HB := Lib.hid (bstep HB.out hb20)
      rw [Hb.out]
      clear hb20
      have X0_0 := X0.out.cell0
      have X0_1 := X0.out.cell1
      have X0_l := X0.out.lt
      have X1_0 := X1.out.cell0
      have X1_1 := X1.out.cell1
      have X1_l := X1.out.lt
      have R_0 := R.out.cell0
      have R_1 := R.out.cell1
      have R_l := R.out.lt
      go_wp2_with fail
      have HC := Lib.hid (Below.refl x19.heap.size x19)
      go_cut [6] (fun v wx => NewBx 26 x19 (p) (q) v wx)
      case first =>
        go_region_held3 (fun w' => w'.cell? ⟨w.heap.size, 0, none⟩ = some (.int .i64 n) ∧ w'.cell? ⟨w.heap.size, 1, none⟩ = some (.int .i64 e) ∧ w'.cell? ⟨w.heap.size + 1, 0, none⟩ = some (.int .i64 m) ∧ w'.cell? ⟨w.heap.size + 1, 1, none⟩ = some (.int .i64 k) ∧ w'.cell? ⟨w.heap.size + 1 + 1, 0, none⟩ = some (.int .i64 0) ∧ w'.cell? ⟨w.heap.size + 1 + 1, 1, none⟩ = some (.int .i64 0)) (first | exact ⟨X0_0, X0_1, X1_0, X1_1, R_0, R_1⟩ | go_keep | exact ⟨cell_far (cell_far X0_0 N_q0) N_q0, cell_far (cell_far X0_1 N_q0) N_q0, cell_far (cell_far X1_0 N_q1) N_q1, cell_far (cell_far X1_1 N_q1) N_q1, cell_far (cell_far R_0 N_q2) N_q2, cell_far (cell_far R_1 N_q2) N_q2⟩) (first | (go_at_call 45; with_reducible show Calls _ _ #[.int .i64 P3, .int .i64 8] _ _; refine (s_low8 P3 _ (by omega) (by omega)).mono ?_; rintro e yc ⟨rfl, hb9⟩; (try replace hb9 := undrew hb9); (first | ((with_reducible have hn9 := Bx.step HN.out hb9); have HN := Lib.hid hn9; clear hn9 N_0 N_1 N_f0 N_f1 N_l; (with_reducible have hq9 := bstep HC.out hb9); clear hq9; have X0 := Lib.hid (Bx.step X0.out hb9); have X1 := Lib.hid (Bx.step X1.out hb9); have R := Lib.hid (Bx.step R.out hb9); have HC := Lib.hid (bstep HC.out hb9); have N_0 := HN.out.cell0; have N_1 := HN.out.cell1; have N_f0 := HN.out.frozen 0; have N_f1 := HN.out.frozen 1; have N_l := HN.out.lt) | ((with_reducible have hq9 := bstep HC.out hb9); clear hq9; have X0 := Lib.hid (Bx.step X0.out hb9); have X1 := Lib.hid (Bx.step X1.out hb9); have R := Lib.hid (Bx.step R.out hb9); have HC := Lib.hid (bstep HC.out hb9)) | (have HN := Lib.hid (Bx.step (Bx.new 26 _ 0 (.int .i64 0)) hb9); have N_g := HC.out.size; have N_q0 := Nat.ne_of_lt X0.out.lt; have N_q1 := Nat.ne_of_lt X1.out.lt; have N_q2 := Nat.ne_of_lt R.out.lt; have X0 := Lib.hid (Bx.step (Bx.alloc X0.out (.cells #[.int .i64 0, .int .i64 0] 26)) hb9); have X1 := Lib.hid (Bx.step (Bx.alloc X1.out (.cells #[.int .i64 0, .int .i64 0] 26)) hb9); have R := Lib.hid (Bx.step (Bx.alloc R.out (.cells #[.int .i64 0, .int .i64 0] 26)) hb9); have HC := Lib.hid (bstep (Below.alloc HC.out HC.out.size (.cells #[.int .i64 0, .int .i64 0] 26)) hb9); have N_0 := HN.out.cell0; have N_1 := HN.out.cell1; have N_f0 := HN.out.frozen 0; have N_f1 := HN.out.frozen 1; have N_l := HN.out.lt)); clear X0_0 X0_1 X0_l X1_0 X1_1 X1_l R_0 R_1 R_l; have X0_0 := X0.out.cell0; have X0_1 := X0.out.cell1; have X0_l := X0.out.lt; have X1_0 := X1.out.cell0; have X1_1 := X1.out.cell1; have X1_l := X1.out.lt; have R_0 := R.out.cell0; have R_1 := R.out.cell1; have R_l := R.out.lt; rw [Hp.out]; clear hb9) | (go_at_call 50; with_reducible show Calls _ _ #[.agg #[.int .i64 n, .int .i64 e]] _ _; refine (s_scaled n e _ n1 n2 e1 e2).mono ?_; rintro e yc ⟨rfl, hb9⟩; (try replace hb9 := undrew hb9); (first | ((with_reducible have hn9 := Bx.step HN.out hb9); have HN := Lib.hid hn9; clear hn9 N_0 N_1 N_f0 N_f1 N_l; (with_reducible have hq9 := bstep HC.out hb9); clear hq9; have X0 := Lib.hid (Bx.step X0.out hb9); have X1 := Lib.hid (Bx.step X1.out hb9); have R := Lib.hid (Bx.step R.out hb9); have HC := Lib.hid (bstep HC.out hb9); have N_0 := HN.out.cell0; have N_1 := HN.out.cell1; have N_f0 := HN.out.frozen 0; have N_f1 := HN.out.frozen 1; have N_l := HN.out.lt) | ((with_reducible have hq9 := bstep HC.out hb9); clear hq9; have X0 := Lib.hid (Bx.step X0.out hb9); have X1 := Lib.hid (Bx.step X1.out hb9); have R := Lib.hid (Bx.step R.out hb9); have HC := Lib.hid (bstep HC.out hb9)) | (have HN := Lib.hid (Bx.step (Bx.new 26 _ 0 (.int .i64 0)) hb9); have N_g := HC.out.size; have N_q0 := Nat.ne_of_lt X0.out.lt; have N_q1 := Nat.ne_of_lt X1.out.lt; have N_q2 := Nat.ne_of_lt R.out.lt; have X0 := Lib.hid (Bx.step (Bx.alloc X0.out (.cells #[.int .i64 0, .int .i64 0] 26)) hb9); have X1 := Lib.hid (Bx.step (Bx.alloc X1.out (.cells #[.int .i64 0, .int .i64 0] 26)) hb9); have R := Lib.hid (Bx.step (Bx.alloc R.out (.cells #[.int .i64 0, .int .i64 0] 26)) hb9); have HC := Lib.hid (bstep (Below.alloc HC.out HC.out.size (.cells #[.int .i64 0, .int .i64 0] 26)) hb9); have N_0 := HN.out.cell0; have N_1 := HN.out.cell1; have N_f0 := HN.out.frozen 0; have N_f1 := HN.out.frozen 1; have N_l := HN.out.lt)); clear X0_0 X0_1 X0_l X1_0 X1_1 X1_l R_0 R_1 R_l; have X0_0 := X0.out.cell0; have X0_1 := X0.out.cell1; have X0_l := X0.out.lt; have X1_0 := X1.out.cell0; have X1_1 := X1.out.cell1; have X1_l := X1.out.lt; have R_0 := R.out.cell0; have R_1 := R.out.cell1; have R_l := R.out.lt; rw [HP1.out]; clear hb9) | (go_at_call 50; with_reducible show Calls _ _ #[.agg #[.int .i64 m, .int .i64 k]] _ _; refine (s_scaled m k _ m1 m2 k1 k2).mono ?_; rintro e yc ⟨rfl, hb9⟩; (try replace hb9 := undrew hb9); (first | ((with_reducible have hn9 := Bx.step HN.out hb9); have HN := Lib.hid hn9; clear hn9 N_0 N_1 N_f0 N_f1 N_l; (with_reducible have hq9 := bstep HC.out hb9); clear hq9; have X0 := Lib.hid (Bx.step X0.out hb9); have X1 := Lib.hid (Bx.step X1.out hb9); have R := Lib.hid (Bx.step R.out hb9); have HC := Lib.hid (bstep HC.out hb9); have N_0 := HN.out.cell0; have N_1 := HN.out.cell1; have N_f0 := HN.out.frozen 0; have N_f1 := HN.out.frozen 1; have N_l := HN.out.lt) | ((with_reducible have hq9 := bstep HC.out hb9); clear hq9; have X0 := Lib.hid (Bx.step X0.out hb9); have X1 := Lib.hid (Bx.step X1.out hb9); have R := Lib.hid (Bx.step R.out hb9); have HC := Lib.hid (bstep HC.out hb9)) | (have HN := Lib.hid (Bx.step (Bx.new 26 _ 0 (.int .i64 0)) hb9); have N_g := HC.out.size; have N_q0 := Nat.ne_of_lt X0.out.lt; have N_q1 := Nat.ne_of_lt X1.out.lt; have N_q2 := Nat.ne_of_lt R.out.lt; have X0 := Lib.hid (Bx.step (Bx.alloc X0.out (.cells #[.int .i64 0, .int .i64 0] 26)) hb9); have X1 := Lib.hid (Bx.step (Bx.alloc X1.out (.cells #[.int .i64 0, .int .i64 0] 26)) hb9); have R := Lib.hid (Bx.step (Bx.alloc R.out (.cells #[.int .i64 0, .int .i64 0] 26)) hb9); have HC := Lib.hid (bstep (Below.alloc HC.out HC.out.size (.cells #[.int .i64 0, .int .i64 0] 26)) hb9); have N_0 := HN.out.cell0; have N_1 := HN.out.cell1; have N_f0 := HN.out.frozen 0; have N_f1 := HN.out.frozen 1; have N_l := HN.out.lt)); clear X0_0 X0_1 X0_l X1_0 X1_1 X1_l R_0 R_1 R_l; have X0_0 := X0.out.cell0; have X0_1 := X0.out.cell1; have X0_l := X0.out.lt; have X1_0 := X1.out.cell0; have X1_1 := X1.out.cell1; have X1_l := X1.out.lt; have R_0 := R.out.cell0; have R_1 := R.out.cell1; have R_l := R.out.lt; rw [HP2.out]; clear hb9))
        all_goals go_wp2_with fail
        all_goals go_meet
        all_goals first | exact NewBx.make HC.out | exact NewBx.late HN.out HC.out (by omega) | exact NewBx.late2 HC.out
      case rest =>
        clear HC
        obtain ⟨gq24, rfl, Q23_g, Q23_h, hb22⟩ := hcut
        clear X0_0 X0_1 X0_l X1_0 X1_1 X1_l R_0 R_1 R_l
        have X0 := Lib.hid (X0.out.step hb22)
        have X1 := Lib.hid (X1.out.step hb22)
        have R := Lib.hid (R.out.step hb22)
        have HB := Lib.hid (bstep HB.out hb22)
        have Q23 := Lib.hid Q23_h
        clear Q23_h hb22
        have X0_0 := X0.out.cell0
        have X0_1 := X0.out.cell1
        have X0_l := X0.out.lt
        have X1_0 := X1.out.cell0
        have X1_1 := X1.out.cell1
        have X1_l := X1.out.lt
        have R_0 := R.out.cell0
        have R_1 := R.out.cell1
        have R_l := R.out.lt
        have Q23_0 := Q23.out.cell0
        have Q23_1 := Q23.out.cell1
        have Q23_l := Q23.out.lt
        by_cases hr : Dy.ok p q = true
        · have Hr : Hid (Dy.ok p q = true) := Lib.hid (by simpa using hr)
          clear hr
          go_wp2_with fail
          refine (s_ok p q _).mono ?_
          rintro e x25 ⟨rfl, hb26⟩
          clear X0_0 X0_1 X0_l X1_0 X1_1 X1_l R_0 R_1 R_l Q23_0 Q23_1 Q23_l
          have X0 := Lib.hid (X0.out.step hb26)
          have X1 := Lib.hid (X1.out.step hb26)
          have R := Lib.hid (R.out.step hb26)
          have Q23 := Lib.hid (Q23.out.step hb26)
          have HB := Lib.hid (bstep HB.out hb26)
          rw [Hr.out]
          clear hb26
          have X0_0 := X0.out.cell0
          have X0_1 := X0.out.cell1
          have X0_l := X0.out.lt
          have X1_0 := X1.out.cell0
          have X1_1 := X1.out.cell1
          have X1_l := X1.out.lt
          have R_0 := R.out.cell0
          have R_1 := R.out.cell1
          have R_l := R.out.lt
          have Q23_0 := Q23.out.cell0
          have Q23_1 := Q23.out.cell1
          have Q23_l := Q23.out.lt
          have HS := Lib.hid ((R.out.set0 (p)).set1 (.int .i64 (q)))
          have z0 := HS.out.cell0
          have z1 := HS.out.cell1
          have HBS := Lib.hid ((HB.out.setCell (p := ⟨w.heap.size + 1 + 1, 0, none⟩) (by have := R_g; omega) (.int .i64 (p))).setCell (p := ⟨w.heap.size + 1 + 1, 1, none⟩) (by have := R_g; omega) (.int .i64 (q)))
          have R_f0 := R.out.frozen 0
          have R_f1 := R.out.frozen 1
          go_wp2_with fail
          refine bodyPost_ret (v := .tuple #[.agg #[.int .i64 (p), .int .i64 (q)], .bool true]) (by simp [results, Try.results22, go_sem, z0, z1]) rfl ?_
          exact ⟨by rw [← HV.out, if_pos (by rw [HBq.out, Hr.out]), Hsum.out], HBS.out⟩
        · have Hr : Hid (Dy.ok p q = false) := Lib.hid (by simpa using hr)
          clear hr
          go_wp2_with fail
          refine (s_ok p q _).mono ?_
          rintro e x125 ⟨rfl, hb126⟩
          clear X0_0 X0_1 X0_l X1_0 X1_1 X1_l R_0 R_1 R_l Q23_0 Q23_1 Q23_l
          have X0 := Lib.hid (X0.out.step hb126)
          have X1 := Lib.hid (X1.out.step hb126)
          have R := Lib.hid (R.out.step hb126)
          have Q23 := Lib.hid (Q23.out.step hb126)
          have HB := Lib.hid (bstep HB.out hb126)
          rw [Hr.out]
          clear hb126
          have X0_0 := X0.out.cell0
          have X0_1 := X0.out.cell1
          have X0_l := X0.out.lt
          have X1_0 := X1.out.cell0
          have X1_1 := X1.out.cell1
          have X1_l := X1.out.lt
          have R_0 := R.out.cell0
          have R_1 := R.out.cell1
          have R_l := R.out.lt
          have Q23_0 := Q23.out.cell0
          have Q23_1 := Q23.out.cell1
          have Q23_l := Q23.out.lt
          have HS := Lib.hid ((R.out.set0 (0)).set1 (.int .i64 (0)))
          have z0 := HS.out.cell0
          have z1 := HS.out.cell1
          have HBS := Lib.hid ((HB.out.setCell (p := ⟨w.heap.size + 1 + 1, 0, none⟩) (by have := R_g; omega) (.int .i64 (0))).setCell (p := ⟨w.heap.size + 1 + 1, 1, none⟩) (by have := R_g; omega) (.int .i64 (0)))
          have R_f0 := R.out.frozen 0
          have R_f1 := R.out.frozen 1
          go_wp2_with fail
          refine bodyPost_ret (v := .tuple #[.agg #[.int .i64 (0), .int .i64 (0)], .bool false]) (by simp [results, Try.results22, go_sem, z0, z1]) rfl ?_
          exact ⟨by rw [← HV.out, if_neg (by rw [HBq.out, Hr.out]; exact Bool.false_ne_true)], HBS.out⟩
    · have Hb : Hid (Dy.ok m k = false) := Lib.hid (by simpa using hb)
      clear ha hb
      have HB := Lib.hid (Below.refl w.heap.size w)
      go_enter Try.func22, Try.ntmps22
      have R_g : w.heap.size ≤ w.heap.size + 2 := by omega
      go_wp2_with fail
      obtain ⟨x1, hy3, hb2, z4, z5⟩ := new_box w (.cells #[.int .i64 n, .int .i64 e] 26)
      have X0 : Hid (Bx 26 x1 w.heap.size n (.int .i64 e)) := Lib.hid (by rw [hy3]; exact Bx.new _ _ _ _)
      rw [← hy3]
      clear hy3
      have HB := Lib.hid (bstep HB.out hb2)
      clear hb2
      have X0_0 := X0.out.cell0
      have X0_1 := X0.out.cell1
      have X0_l := X0.out.lt
      obtain ⟨x6, hy8, hb7, z9, z10⟩ := new_box x1 (.cells #[.int .i64 m, .int .i64 k] 26)
      have X1 : Hid (Bx 26 x6 x1.heap.size m (.int .i64 k)) := Lib.hid (by rw [hy8]; exact Bx.new _ _ _ _)
      rw [← hy8]
      clear hy8
      clear X0_0 X0_1 X0_l
      have X0 := Lib.hid (X0.out.step hb7)
      have HB := Lib.hid (bstep HB.out hb7)
      clear hb7
      have X0_0 := X0.out.cell0
      have X0_1 := X0.out.cell1
      have X0_l := X0.out.lt
      have X1_0 := X1.out.cell0
      have X1_1 := X1.out.cell1
      have X1_l := X1.out.lt
      clear X1_0 X1_1 X1_l
      have X1 : Hid (Bx 26 x6 (w.heap.size + 1) m (.int .i64 k)) := Lib.hid (by have h := X1.out; rw [show x1.heap.size = w.heap.size + 1 by omega] at h; exact h)
      have X1_0 := X1.out.cell0
      have X1_1 := X1.out.cell1
      have X1_l := X1.out.lt
      obtain ⟨x11, hy13, hb12, z14, z15⟩ := new_box x6 (.cells #[.int .i64 0, .int .i64 0] 26)
      have R : Hid (Bx 26 x11 x6.heap.size 0 (.int .i64 0)) := Lib.hid (by rw [hy13]; exact Bx.new _ _ _ _)
      rw [← hy13]
      clear hy13
      clear X0_0 X0_1 X0_l X1_0 X1_1 X1_l
      have X0 := Lib.hid (X0.out.step hb12)
      have X1 := Lib.hid (X1.out.step hb12)
      have HB := Lib.hid (bstep HB.out hb12)
      clear hb12
      have X0_0 := X0.out.cell0
      have X0_1 := X0.out.cell1
      have X0_l := X0.out.lt
      have X1_0 := X1.out.cell0
      have X1_1 := X1.out.cell1
      have X1_l := X1.out.lt
      have R_0 := R.out.cell0
      have R_1 := R.out.cell1
      have R_l := R.out.lt
      clear R_0 R_1 R_l
      have R : Hid (Bx 26 x11 (w.heap.size + 1 + 1) 0 (.int .i64 0)) := Lib.hid (by have h := R.out; rw [show x6.heap.size = w.heap.size + 1 + 1 by omega] at h; exact h)
      have R_0 := R.out.cell0
      have R_1 := R.out.cell1
      have R_l := R.out.lt
      refine (s_ok n e _).mono ?_
      rintro e x16 ⟨rfl, hb17⟩
      clear X0_0 X0_1 X0_l X1_0 X1_1 X1_l R_0 R_1 R_l
      have X0 := Lib.hid (X0.out.step hb17)
      have X1 := Lib.hid (X1.out.step hb17)
      have R := Lib.hid (R.out.step hb17)
      have HB := Lib.hid (bstep HB.out hb17)
      rw [Ha.out]
      clear hb17
      have X0_0 := X0.out.cell0
      have X0_1 := X0.out.cell1
      have X0_l := X0.out.lt
      have X1_0 := X1.out.cell0
      have X1_1 := X1.out.cell1
      have X1_l := X1.out.lt
      have R_0 := R.out.cell0
      have R_1 := R.out.cell1
      have R_l := R.out.lt
      go_wp2_with fail
      refine (s_ok m k _).mono ?_
      rintro e x19 ⟨rfl, hb20⟩
      clear X0_0 X0_1 X0_l X1_0 X1_1 X1_l R_0 R_1 R_l
      have X0 := Lib.hid (X0.out.step hb20)
      have X1 := Lib.hid (X1.out.step hb20)
      have R := Lib.hid (R.out.step hb20)
      have HB := Lib.hid (bstep HB.out hb20)
      rw [Hb.out]
      clear hb20
      have X0_0 := X0.out.cell0
      have X0_1 := X0.out.cell1
      have X0_l := X0.out.lt
      have X1_0 := X1.out.cell0
      have X1_1 := X1.out.cell1
      have X1_l := X1.out.lt
      have R_0 := R.out.cell0
      have R_1 := R.out.cell1
      have R_l := R.out.lt
      have HS := Lib.hid ((R.out.set0 (0)).set1 (.int .i64 (0)))
      have z0 := HS.out.cell0
      have z1 := HS.out.cell1
      have HBS := Lib.hid ((HB.out.setCell (p := ⟨w.heap.size + 1 + 1, 0, none⟩) (by have := R_g; omega) (.int .i64 (0))).setCell (p := ⟨w.heap.size + 1 + 1, 1, none⟩) (by have := R_g; omega) (.int .i64 (0)))
      have R_f0 := R.out.frozen 0
      have R_f1 := R.out.frozen 1
      go_wp2_with fail
      refine bodyPost_ret (v := .tuple #[.agg #[.int .i64 (0), .int .i64 (0)], .bool false]) (by simp [results, Try.results22, go_sem, z0, z1]) rfl ?_
      exact ⟨by rw [← HV.out, if_neg (by simp [Dy.addB, Hb.out])], HBS.out⟩
  · have Ha : Hid (Dy.ok n e = false) := Lib.hid (by simpa using ha)
    clear ha
    have HB := Lib.hid (Below.refl w.heap.size w)
    go_enter Try.func22, Try.ntmps22
    have R_g : w.heap.size ≤ w.heap.size + 2 := by omega
    go_wp2_with fail
    obtain ⟨x1, hy3, hb2, z4, z5⟩ := new_box w (.cells #[.int .i64 n, .int .i64 e] 26)
    have X0 : Hid (Bx 26 x1 w.heap.size n (.int .i64 e)) := Lib.hid (by rw [hy3]; exact Bx.new _ _ _ _)
    rw [← hy3]
    clear hy3
    have HB := Lib.hid (bstep HB.out hb2)
    clear hb2
    have X0_0 := X0.out.cell0
    have X0_1 := X0.out.cell1
    have X0_l := X0.out.lt
    obtain ⟨x6, hy8, hb7, z9, z10⟩ := new_box x1 (.cells #[.int .i64 m, .int .i64 k] 26)
    have X1 : Hid (Bx 26 x6 x1.heap.size m (.int .i64 k)) := Lib.hid (by rw [hy8]; exact Bx.new _ _ _ _)
    rw [← hy8]
    clear hy8
    clear X0_0 X0_1 X0_l
    have X0 := Lib.hid (X0.out.step hb7)
    have HB := Lib.hid (bstep HB.out hb7)
    clear hb7
    have X0_0 := X0.out.cell0
    have X0_1 := X0.out.cell1
    have X0_l := X0.out.lt
    have X1_0 := X1.out.cell0
    have X1_1 := X1.out.cell1
    have X1_l := X1.out.lt
    clear X1_0 X1_1 X1_l
    have X1 : Hid (Bx 26 x6 (w.heap.size + 1) m (.int .i64 k)) := Lib.hid (by have h := X1.out; rw [show x1.heap.size = w.heap.size + 1 by omega] at h; exact h)
    have X1_0 := X1.out.cell0
    have X1_1 := X1.out.cell1
    have X1_l := X1.out.lt
    obtain ⟨x11, hy13, hb12, z14, z15⟩ := new_box x6 (.cells #[.int .i64 0, .int .i64 0] 26)
    have R : Hid (Bx 26 x11 x6.heap.size 0 (.int .i64 0)) := Lib.hid (by rw [hy13]; exact Bx.new _ _ _ _)
    rw [← hy13]
    clear hy13
    clear X0_0 X0_1 X0_l X1_0 X1_1 X1_l
    have X0 := Lib.hid (X0.out.step hb12)
    have X1 := Lib.hid (X1.out.step hb12)
    have HB := Lib.hid (bstep HB.out hb12)
    clear hb12
    have X0_0 := X0.out.cell0
    have X0_1 := X0.out.cell1
    have X0_l := X0.out.lt
    have X1_0 := X1.out.cell0
    have X1_1 := X1.out.cell1
    have X1_l := X1.out.lt
    have R_0 := R.out.cell0
    have R_1 := R.out.cell1
    have R_l := R.out.lt
    clear R_0 R_1 R_l
    have R : Hid (Bx 26 x11 (w.heap.size + 1 + 1) 0 (.int .i64 0)) := Lib.hid (by have h := R.out; rw [show x6.heap.size = w.heap.size + 1 + 1 by omega] at h; exact h)
    have R_0 := R.out.cell0
    have R_1 := R.out.cell1
    have R_l := R.out.lt
    refine (s_ok n e _).mono ?_
    rintro e x16 ⟨rfl, hb17⟩
    clear X0_0 X0_1 X0_l X1_0 X1_1 X1_l R_0 R_1 R_l
    have X0 := Lib.hid (X0.out.step hb17)
    have X1 := Lib.hid (X1.out.step hb17)
    have R := Lib.hid (R.out.step hb17)
    have HB := Lib.hid (bstep HB.out hb17)
    rw [Ha.out]
    clear hb17
    have X0_0 := X0.out.cell0
    have X0_1 := X0.out.cell1
    have X0_l := X0.out.lt
    have X1_0 := X1.out.cell0
    have X1_1 := X1.out.cell1
    have X1_l := X1.out.lt
    have R_0 := R.out.cell0
    have R_1 := R.out.cell1
    have R_l := R.out.lt
    have HS := Lib.hid ((R.out.set0 (0)).set1 (.int .i64 (0)))
    have z0 := HS.out.cell0
    have z1 := HS.out.cell1
    have HBS := Lib.hid ((HB.out.setCell (p := ⟨w.heap.size + 1 + 1, 0, none⟩) (by have := R_g; omega) (.int .i64 (0))).setCell (p := ⟨w.heap.size + 1 + 1, 1, none⟩) (by have := R_g; omega) (.int .i64 (0)))
    have R_f0 := R.out.frozen 0
    have R_f1 := R.out.frozen 1
    go_wp2_with fail
    refine bodyPost_ret (v := .tuple #[.agg #[.int .i64 (0), .int .i64 (0)], .bool false]) (by simp [results, Try.results22, go_sem, z0, z1]) rfl ?_
    exact ⟨by rw [← HV.out, if_neg (by simp [Dy.addB, Ha.out])], HBS.out⟩
end Go.Proofs.Ytocjlhlohlkkmaa
