/-
  The program's SimplestBetween computes the plain function of DyS.
-/
import Derived.Test.YtocjlhlohlkkmaaDyJ
import Derived.Deep.LoopGhost
namespace Go.Proofs.Ytocjlhlohlkkmaa
set_option maxRecDepth 100000
open Go.RowKit
/-- What SimplestBetween answers. -/
def Dy.simR (n e m k : Int) : Option (Int × Int) := if Dy.ok n e = true ∧ Dy.ok m k = true then Dy.sim (Dy.sc n e) (Dy.sc m k) else none
set_option maxRecDepth 100000 in
set_option maxHeartbeats 4000000 in
theorem i_sim (n e m k : Int) (w : World) : Calls Try.prog 28 #[.agg #[.int .i64 n, .int .i64 e], .agg #[.int .i64 m, .int .i64 k]] w fun r w' => r = .returned (optV (Dy.simR n e m k)) ∧ Below w.heap.size w w' := by
  by_cases ha : Dy.ok n e = true
  · have Ha := Lib.hid ha
    by_cases hb : Dy.ok m k = true
    · have Hb := Lib.hid hb
      obtain ⟨⟨n1, n2, e1, e2⟩, _⟩ := Dy.ok_iff.1 ha
      obtain ⟨⟨m1, m2, k1, k2⟩, _⟩ := Dy.ok_iff.1 hb
      obtain ⟨A, hP1⟩ : ∃ P, Dy.sc n e = P := ⟨_, rfl⟩
      obtain ⟨B, hP2⟩ : ∃ P, Dy.sc m k = P := ⟨_, rfl⟩
      have b1 := Dy.sc_bd ha
      have b2 := Dy.sc_bd hb
      rw [hP1] at b1
      rw [hP2] at b2
      have hR : Dy.simR n e m k = Dy.sim A B := by rw [Dy.simR, if_pos ⟨ha, hb⟩, hP1, hP2]
      have HR := Lib.hid hR
      have HA := Lib.hid hP1
      have HBm : Hid (Dy.sc (-m) k = -B) := Lib.hid (by rw [Dy.sc_neg, hP2])
      obtain ⟨b11, b12⟩ := b1
      obtain ⟨b21, b22⟩ := b2
      clear hP1 hP2 hR ha hb
      have HB := Lib.hid (Below.refl w.heap.size w)
      go_enter Try.func28, Try.ntmps28
      have R_g : w.heap.size ≤ w.heap.size + 2 := by omega
      go_wp2_with fail
      obtain ⟨x1, hy3, hb2, z4, z5⟩ := new_box w (.cells #[.int .i64 n, .int .i64 e] 26)
      have X0 : Hid (Bx 26 x1 w.heap.size n (.int .i64 e)) := Lib.hid (by rw [hy3]; exact Bx.new _ _ _ _)
      rw [← hy3]
      clear hy3
      have HB := Lib.hid (bstep HB.out hb2)
      clear hb2
      have X0_0 := X0.out.cell0
      have X0_1 := X0.out.cell1
      have X0_l := X0.out.lt
      obtain ⟨x6, hy8, hb7, z9, z10⟩ := new_box x1 (.cells #[.int .i64 m, .int .i64 k] 26)
      have X1 : Hid (Bx 26 x6 x1.heap.size m (.int .i64 k)) := Lib.hid (by rw [hy8]; exact Bx.new _ _ _ _)
      rw [← hy8]
      clear hy8
      clear X0_0 X0_1 X0_l
      have X0 := Lib.hid (X0.out.step hb7)
      have HB := Lib.hid (bstep HB.out hb7)
      clear hb7
      have X0_0 := X0.out.cell0
      have X0_1 := X0.out.cell1
      have X0_l := X0.out.lt
      have X1_0 := X1.out.cell0
      have X1_1 := X1.out.cell1
      have X1_l := X1.out.lt
      clear X1_0 X1_1 X1_l
      have X1 : Hid (Bx 26 x6 (w.heap.size + 1) m (.int .i64 k)) := Lib.hid (by have h := X1.out; rw [show x1.heap.size = w.heap.size + 1 by omega] at h; exact h)
      have X1_0 := X1.out.cell0
      have X1_1 := X1.out.cell1
      have X1_l := X1.out.lt
      obtain ⟨x11, hy13, hb12, z14, z15⟩ := new_box x6 (.cells #[.int .i64 0, .int .i64 0] 26)
      have R : Hid (Bx 26 x11 x6.heap.size 0 (.int .i64 0)) := Lib.hid (by rw [hy13]; exact Bx.new _ _ _ _)
      rw [← hy13]
      clear hy13
      clear X0_0 X0_1 X0_l X1_0 X1_1 X1_l
      have X0 := Lib.hid (X0.out.step hb12)
      have X1 := Lib.hid (X1.out.step hb12)
      have HB := Lib.hid (bstep HB.out hb12)
      clear hb12
      have X0_0 := X0.out.cell0
      have X0_1 := X0.out.cell1
      have X0_l := X0.out.lt
      have X1_0 := X1.out.cell0
      have X1_1 := X1.out.cell1
      have X1_l := X1.out.lt
      have R_0 := R.out.cell0
      have R_1 := R.out.cell1
      have R_l := R.out.lt
      clear R_0 R_1 R_l
      have R : Hid (Bx 26 x11 (w.heap.size + 1 + 1) 0 (.int .i64 0)) := Lib.hid (by have h := R.out; rw [show x6.heap.size = w.heap.size + 1 + 1 by omega] at h; exact h)
      have R_0 := R.out.cell0
      have R_1 := R.out.cell1
      have R_l := R.out.lt
      refine (i_ok n e _).mono ?_
      rintro e x16 ⟨rfl, hb17⟩
      clear X0_0 X0_1 X0_l X1_0 X1_1 X1_l R_0 R_1 R_l
      have X0 := Lib.hid (X0.out.step hb17)
      have X1 := Lib.hid (X1.out.step hb17)
      have R := Lib.hid (R.out.step hb17)
      have HB := Lib.hid (bstep HB.out hb17)
      rw [Ha.out]
      clear hb17
      have X0_0 := X0.out.cell0
      have X0_1 := X0.out.cell1
      have X0_l := X0.out.lt
      have X1_0 := X1.out.cell0
      have X1_1 := X1.out.cell1
      have X1_l := X1.out.lt
      have R_0 := R.out.cell0
      have R_1 := R.out.cell1
      have R_l := R.out.lt
      go_wp2_with fail
      refine (i_ok m k _).mono ?_
      rintro e x19 ⟨rfl, hb20⟩
      clear X0_0 X0_1 X0_l X1_0 X1_1 X1_l R_0 R_1 R_l
      have X0 := Lib.hid (X0.out.step hb20)
      have X1 := Lib.hid (X1.out.step hb20)
      have R := Lib.hid (R.out.step hb20)
      have HB := Lib.hid (bstep HB.out hb20)
      rw [Hb.out]
      clear hb20
      have X0_0 := X0.out.cell0
      have X0_1 := X0.out.cell1
      have X0_l := X0.out.lt
      have X1_0 := X1.out.cell0
      have X1_1 := X1.out.cell1
      have X1_l := X1.out.lt
      have R_0 := R.out.cell0
      have R_1 := R.out.cell1
      have R_l := R.out.lt
      go_wp2_with fail
      go_loopg [18] 10 (fun q v wr => ∃ f : Nat, f + q = 10 ∧ f ≤ 9 ∧ v = .int .i64 (f : Nat) ∧ Dy.find A B (9 - f) f = Dy.sim A B ∧ Bx 26 wr w.heap.size n (.int .i64 e) ∧ Bx 26 wr (w.heap.size + 1) m (.int .i64 k) ∧ Bx 26 wr (w.heap.size + 1 + 1) 0 (.int .i64 0) ∧ Below w.heap.size w wr)
      case atStart => exact ⟨0, rfl, by omega, rfl, rfl, X0.out, X1.out, R.out, HB.out⟩
      case round =>
        clear X0_0 X0_1 X0_l X1_0 X1_1 X1_l R_0 R_1 R_l
        clear X0 X1 R HB
        obtain ⟨f, hf, hf99, rfl, hfind, hX0, hX1, hR9, hB9⟩ := hrel
        have Hf := Lib.hid hfind
        have X0 := Lib.hid hX0
        have X1 := Lib.hid hX1
        have R := Lib.hid hR9
        have HB := Lib.hid hB9
        clear hfind hX0 hX1 hR9 hB9
        have X0_0 := X0.out.cell0
        have X0_1 := X0.out.cell1
        have X0_l := X0.out.lt
        have X1_0 := X1.out.cell0
        have X1_1 := X1.out.cell1
        have X1_l := X1.out.lt
        have R_0 := R.out.cell0
        have R_1 := R.out.cell1
        have R_l := R.out.lt
        by_cases hf9 : f = 9
        · have hn : Dy.sim A B = none := by rw [← Hf.out, hf9]; rfl
          have Hn := Lib.hid hn
          have hf9i : ¬ ((f : Nat) : Int) < 9 := by omega
          clear hn
          have HS := Lib.hid ((R.out.set0 (0)).set1 (.int .i64 (0)))
          have z0 := HS.out.cell0
          have z1 := HS.out.cell1
          have HBS := Lib.hid ((HB.out.setCell (p := ⟨w.heap.size + 1 + 1, 0, none⟩) (by have := R_g; omega) (.int .i64 (0))).setCell (p := ⟨w.heap.size + 1 + 1, 1, none⟩) (by have := R_g; omega) (.int .i64 (0)))
          have R_f0 := R.out.frozen 0
          have R_f1 := R.out.frozen 1
          go_wp2_with fail
          refine bodyPost_ret (v := .tuple #[.agg #[.int .i64 (0), .int .i64 (0)], .bool false]) (by simp [results, Try.results28, go_sem, z0, z1]) rfl ?_
          exact ⟨by rw [HR.out, Hn.out]; rfl, HBS.out⟩
        · have hf8 : f ≤ 8 := by omega
          have hf9i : ((f : Nat) : Int) < 9 := by omega
          have hf0 : (0 : Int) ≤ (f : Nat) := by omega
          have hf8i : ((f : Nat) : Int) ≤ 8 := by omega
          have hnx : Dy.find A B (9 - f) f = if Dy.okAt A B f then some (Dy.numAt A B f, (f : Int)) else Dy.find A B (9 - (f + 1)) (f + 1) := by
            rw [show 9 - f = (9 - (f + 1)) + 1 by omega, Dy.find]
          have Hnx := Lib.hid hnx
          clear hnx
          obtain ⟨La, hLa⟩ : ∃ x, Dy.loN A f = x := ⟨_, rfl⟩
          obtain ⟨Lb, hLb⟩ : ∃ x, Dy.loN (-B) f = x := ⟨_, rfl⟩
          have l1 := Dy.lo_bd (A := A) hf8 b11 b12
          have l2 := Dy.lo_bd (A := -B) hf8 (by omega) (by omega)
          rw [hLa] at l1
          rw [hLb] at l2
          obtain ⟨l11, l12⟩ := l1
          obtain ⟨l21, l22⟩ := l2
          have HLa : Hid (Dy.loN (Dy.sc n e) ((f : Nat) : Int).toNat = La) := Lib.hid (by rw [HA.out, Int.toNat_natCast, hLa])
          have HLb : Hid (Dy.loN (Dy.sc (-m) k) ((f : Nat) : Int).toNat = Lb) := Lib.hid (by rw [HBm.out, Int.toNat_natCast, hLb])
          have Hok : Hid (Dy.okAt A B f ↔ max La (-9999) ≤ min (-Lb) 9999) := Lib.hid (by rw [Dy.okAt, hLa, Dy.hiN, Dy.hi_neg' hLb])
          have Hnu : Hid (Dy.numAt A B f = max (max La (-9999)) (min (min (-Lb) 9999) 0)) := Lib.hid (by rw [Dy.numAt, hLa, Dy.hiN, Dy.hi_neg' hLb])
          clear hLa hLb
          by_cases c1 : -9999 ≤ La
          · skip
            by_cases c2 : -Lb ≤ 9999
            · skip
              by_cases c3 : La ≤ (-Lb)
              · skip
                by_cases c4 : (-Lb) ≤ 0
                · by_cases c5 : (-Lb) ≤ La
                  · have hs : Dy.sim A B = some (La, ((f : Nat) : Int)) := by rw [← Hf.out, Hnx.out, if_pos (by rw [Hok.out]; omega), Hnu.out]; congr 2; omega
                    have Hs := Lib.hid hs
                    clear hs
                    go_wp2_with fail
                    refine (i_above n e ((f : Nat) : Int) _ n1 n2 e1 e2 hf0 hf8i).mono ?_
                    rintro e x322 ⟨rfl, hb323⟩
                    clear X0_0 X0_1 X0_l X1_0 X1_1 X1_l R_0 R_1 R_l
                    have X0 := Lib.hid (X0.out.step hb323)
                    have X1 := Lib.hid (X1.out.step hb323)
                    have R := Lib.hid (R.out.step hb323)
                    have HB := Lib.hid (bstep HB.out hb323)
                    rw [HLa.out]
                    clear hb323
                    have X0_0 := X0.out.cell0
                    have X0_1 := X0.out.cell1
                    have X0_l := X0.out.lt
                    have X1_0 := X1.out.cell0
                    have X1_1 := X1.out.cell1
                    have X1_l := X1.out.lt
                    have R_0 := R.out.cell0
                    have R_1 := R.out.cell1
                    have R_l := R.out.lt
                    go_wp2_with fail
                    refine (i_neg m k _ ⟨m1, m2⟩).mono ?_
                    rintro e x325 ⟨rfl, hb326⟩
                    clear X0_0 X0_1 X0_l X1_0 X1_1 X1_l R_0 R_1 R_l
                    have X0 := Lib.hid (X0.out.step hb326)
                    have X1 := Lib.hid (X1.out.step hb326)
                    have R := Lib.hid (R.out.step hb326)
                    have HB := Lib.hid (bstep HB.out hb326)
                    clear hb326
                    have X0_0 := X0.out.cell0
                    have X0_1 := X0.out.cell1
                    have X0_l := X0.out.lt
                    have X1_0 := X1.out.cell0
                    have X1_1 := X1.out.cell1
                    have X1_l := X1.out.lt
                    have R_0 := R.out.cell0
                    have R_1 := R.out.cell1
                    have R_l := R.out.lt
                    go_wp2_with fail
                    refine (i_above (-m) k ((f : Nat) : Int) _ (by omega) (by omega) k1 k2 hf0 hf8i).mono ?_
                    rintro e x328 ⟨rfl, hb329⟩
                    clear X0_0 X0_1 X0_l X1_0 X1_1 X1_l R_0 R_1 R_l
                    have X0 := Lib.hid (X0.out.step hb329)
                    have X1 := Lib.hid (X1.out.step hb329)
                    have R := Lib.hid (R.out.step hb329)
                    have HB := Lib.hid (bstep HB.out hb329)
                    rw [HLb.out]
                    clear hb329
                    have X0_0 := X0.out.cell0
                    have X0_1 := X0.out.cell1
                    have X0_l := X0.out.lt
                    have X1_0 := X1.out.cell0
                    have X1_1 := X1.out.cell1
                    have X1_l := X1.out.lt
                    have R_0 := R.out.cell0
                    have R_1 := R.out.cell1
                    have R_l := R.out.lt
                    have HS := Lib.hid ((R.out.set0 (La)).set1 (.int .i64 (((f : Nat) : Int))))
                    have z0 := HS.out.cell0
                    have z1 := HS.out.cell1
                    have HBS := Lib.hid ((HB.out.setCell (p := ⟨w.heap.size + 1 + 1, 0, none⟩) (by have := R_g; omega) (.int .i64 (La))).setCell (p := ⟨w.heap.size + 1 + 1, 1, none⟩) (by have := R_g; omega) (.int .i64 (((f : Nat) : Int))))
                    have R_f0 := R.out.frozen 0
                    have R_f1 := R.out.frozen 1
                    go_wp2_with fail
                    refine bodyPost_ret (v := .tuple #[.agg #[.int .i64 (La), .int .i64 (((f : Nat) : Int))], .bool true]) (by simp [results, Try.results28, go_sem, z0, z1]) rfl ?_
                    exact ⟨by rw [HR.out, Hs.out]; rfl, HBS.out⟩
                  · have hs : Dy.sim A B = some ((-Lb), ((f : Nat) : Int)) := by rw [← Hf.out, Hnx.out, if_pos (by rw [Hok.out]; omega), Hnu.out]; congr 2; omega
                    have Hs := Lib.hid hs
                    clear hs
                    go_wp2_with fail
                    refine (i_above n e ((f : Nat) : Int) _ n1 n2 e1 e2 hf0 hf8i).mono ?_
                    rintro e x422 ⟨rfl, hb423⟩
                    clear X0_0 X0_1 X0_l X1_0 X1_1 X1_l R_0 R_1 R_l
                    have X0 := Lib.hid (X0.out.step hb423)
                    have X1 := Lib.hid (X1.out.step hb423)
                    have R := Lib.hid (R.out.step hb423)
                    have HB := Lib.hid (bstep HB.out hb423)
                    rw [HLa.out]
                    clear hb423
                    have X0_0 := X0.out.cell0
                    have X0_1 := X0.out.cell1
                    have X0_l := X0.out.lt
                    have X1_0 := X1.out.cell0
                    have X1_1 := X1.out.cell1
                    have X1_l := X1.out.lt
                    have R_0 := R.out.cell0
                    have R_1 := R.out.cell1
                    have R_l := R.out.lt
                    go_wp2_with fail
                    refine (i_neg m k _ ⟨m1, m2⟩).mono ?_
                    rintro e x425 ⟨rfl, hb426⟩
                    clear X0_0 X0_1 X0_l X1_0 X1_1 X1_l R_0 R_1 R_l
                    have X0 := Lib.hid (X0.out.step hb426)
                    have X1 := Lib.hid (X1.out.step hb426)
                    have R := Lib.hid (R.out.step hb426)
                    have HB := Lib.hid (bstep HB.out hb426)
                    clear hb426
                    have X0_0 := X0.out.cell0
                    have X0_1 := X0.out.cell1
                    have X0_l := X0.out.lt
                    have X1_0 := X1.out.cell0
                    have X1_1 := X1.out.cell1
                    have X1_l := X1.out.lt
                    have R_0 := R.out.cell0
                    have R_1 := R.out.cell1
                    have R_l := R.out.lt
                    go_wp2_with fail
                    refine (i_above (-m) k ((f : Nat) : Int) _ (by omega) (by omega) k1 k2 hf0 hf8i).mono ?_
                    rintro e x428 ⟨rfl, hb429⟩
                    clear X0_0 X0_1 X0_l X1_0 X1_1 X1_l R_0 R_1 R_l
                    have X0 := Lib.hid (X0.out.step hb429)
                    have X1 := Lib.hid (X1.out.step hb429)
                    have R := Lib.hid (R.out.step hb429)
                    have HB := Lib.hid (bstep HB.out hb429)
                    rw [HLb.out]
                    clear hb429
                    have X0_0 := X0.out.cell0
                    have X0_1 := X0.out.cell1
                    have X0_l := X0.out.lt
                    have X1_0 := X1.out.cell0
                    have X1_1 := X1.out.cell1
                    have X1_l := X1.out.lt
                    have R_0 := R.out.cell0
                    have R_1 := R.out.cell1
                    have R_l := R.out.lt
                    have HS := Lib.hid ((R.out.set0 ((-Lb))).set1 (.int .i64 (((f : Nat) : Int))))
                    have z0 := HS.out.cell0
                    have z1 := HS.out.cell1
                    have HBS := Lib.hid ((HB.out.setCell (p := ⟨w.heap.size + 1 + 1, 0, none⟩) (by have := R_g; omega) (.int .i64 ((-Lb)))).setCell (p := ⟨w.heap.size + 1 + 1, 1, none⟩) (by have := R_g; omega) (.int .i64 (((f : Nat) : Int))))
                    have R_f0 := R.out.frozen 0
                    have R_f1 := R.out.frozen 1
                    go_wp2_with fail
                    refine bodyPost_ret (v := .tuple #[.agg #[.int .i64 ((-Lb)), .int .i64 (((f : Nat) : Int))], .bool true]) (by simp [results, Try.results28, go_sem, z0, z1]) rfl ?_
                    exact ⟨by rw [HR.out, Hs.out]; rfl, HBS.out⟩
                · by_cases c5 : 0 ≤ La
                  · have hs : Dy.sim A B = some (La, ((f : Nat) : Int)) := by rw [← Hf.out, Hnx.out, if_pos (by rw [Hok.out]; omega), Hnu.out]; congr 2; omega
                    have Hs := Lib.hid hs
                    clear hs
                    go_wp2_with fail
                    refine (i_above n e ((f : Nat) : Int) _ n1 n2 e1 e2 hf0 hf8i).mono ?_
                    rintro e x522 ⟨rfl, hb523⟩
                    clear X0_0 X0_1 X0_l X1_0 X1_1 X1_l R_0 R_1 R_l
                    have X0 := Lib.hid (X0.out.step hb523)
                    have X1 := Lib.hid (X1.out.step hb523)
                    have R := Lib.hid (R.out.step hb523)
                    have HB := Lib.hid (bstep HB.out hb523)
                    rw [HLa.out]
                    clear hb523
                    have X0_0 := X0.out.cell0
                    have X0_1 := X0.out.cell1
                    have X0_l := X0.out.lt
                    have X1_0 := X1.out.cell0
                    have X1_1 := X1.out.cell1
                    have X1_l := X1.out.lt
                    have R_0 := R.out.cell0
                    have R_1 := R.out.cell1
                    have R_l := R.out.lt
                    go_wp2_with fail
                    refine (i_neg m k _ ⟨m1, m2⟩).mono ?_
                    rintro e x525 ⟨rfl, hb526⟩
                    clear X0_0 X0_1 X0_l X1_0 X1_1 X1_l R_0 R_1 R_l
                    have X0 := Lib.hid (X0.out.step hb526)
                    have X1 := Lib.hid (X1.out.step hb526)
                    have R := Lib.hid (R.out.step hb526)
                    have HB := Lib.hid (bstep HB.out hb526)
                    clear hb526
                    have X0_0 := X0.out.cell0
                    have X0_1 := X0.out.cell1
                    have X0_l := X0.out.lt
                    have X1_0 := X1.out.cell0
                    have X1_1 := X1.out.cell1
                    have X1_l := X1.out.lt
                    have R_0 := R.out.cell0
                    have R_1 := R.out.cell1
                    have R_l := R.out.lt
                    go_wp2_with fail
                    refine (i_above (-m) k ((f : Nat) : Int) _ (by omega) (by omega) k1 k2 hf0 hf8i).mono ?_
                    rintro e x528 ⟨rfl, hb529⟩
                    clear X0_0 X0_1 X0_l X1_0 X1_1 X1_l R_0 R_1 R_l
                    have X0 := Lib.hid (X0.out.step hb529)
                    have X1 := Lib.hid (X1.out.step hb529)
                    have R := Lib.hid (R.out.step hb529)
                    have HB := Lib.hid (bstep HB.out hb529)
                    rw [HLb.out]
                    clear hb529
                    have X0_0 := X0.out.cell0
                    have X0_1 := X0.out.cell1
                    have X0_l := X0.out.lt
                    have X1_0 := X1.out.cell0
                    have X1_1 := X1.out.cell1
                    have X1_l := X1.out.lt
                    have R_0 := R.out.cell0
                    have R_1 := R.out.cell1
                    have R_l := R.out.lt
                    have HS := Lib.hid ((R.out.set0 (La)).set1 (.int .i64 (((f : Nat) : Int))))
                    have z0 := HS.out.cell0
                    have z1 := HS.out.cell1
                    have HBS := Lib.hid ((HB.out.setCell (p := ⟨w.heap.size + 1 + 1, 0, none⟩) (by have := R_g; omega) (.int .i64 (La))).setCell (p := ⟨w.heap.size + 1 + 1, 1, none⟩) (by have := R_g; omega) (.int .i64 (((f : Nat) : Int))))
                    have R_f0 := R.out.frozen 0
                    have R_f1 := R.out.frozen 1
                    go_wp2_with fail
                    refine bodyPost_ret (v := .tuple #[.agg #[.int .i64 (La), .int .i64 (((f : Nat) : Int))], .bool true]) (by simp [results, Try.results28, go_sem, z0, z1]) rfl ?_
                    exact ⟨by rw [HR.out, Hs.out]; rfl, HBS.out⟩
                  · have hs : Dy.sim A B = some (0, ((f : Nat) : Int)) := by rw [← Hf.out, Hnx.out, if_pos (by rw [Hok.out]; omega), Hnu.out]; congr 2; omega
                    have Hs := Lib.hid hs
                    clear hs
                    go_wp2_with fail
                    refine (i_above n e ((f : Nat) : Int) _ n1 n2 e1 e2 hf0 hf8i).mono ?_
                    rintro e x622 ⟨rfl, hb623⟩
                    clear X0_0 X0_1 X0_l X1_0 X1_1 X1_l R_0 R_1 R_l
                    have X0 := Lib.hid (X0.out.step hb623)
                    have X1 := Lib.hid (X1.out.step hb623)
                    have R := Lib.hid (R.out.step hb623)
                    have HB := Lib.hid (bstep HB.out hb623)
                    rw [HLa.out]
                    clear hb623
                    have X0_0 := X0.out.cell0
                    have X0_1 := X0.out.cell1
                    have X0_l := X0.out.lt
                    have X1_0 := X1.out.cell0
                    have X1_1 := X1.out.cell1
                    have X1_l := X1.out.lt
                    have R_0 := R.out.cell0
                    have R_1 := R.out.cell1
                    have R_l := R.out.lt
                    go_wp2_with fail
                    refine (i_neg m k _ ⟨m1, m2⟩).mono ?_
                    rintro e x625 ⟨rfl, hb626⟩
                    clear X0_0 X0_1 X0_l X1_0 X1_1 X1_l R_0 R_1 R_l
                    have X0 := Lib.hid (X0.out.step hb626)
                    have X1 := Lib.hid (X1.out.step hb626)
                    have R := Lib.hid (R.out.step hb626)
                    have HB := Lib.hid (bstep HB.out hb626)
                    clear hb626
                    have X0_0 := X0.out.cell0
                    have X0_1 := X0.out.cell1
                    have X0_l := X0.out.lt
                    have X1_0 := X1.out.cell0
                    have X1_1 := X1.out.cell1
                    have X1_l := X1.out.lt
                    have R_0 := R.out.cell0
                    have R_1 := R.out.cell1
                    have R_l := R.out.lt
                    go_wp2_with fail
                    refine (i_above (-m) k ((f : Nat) : Int) _ (by omega) (by omega) k1 k2 hf0 hf8i).mono ?_
                    rintro e x628 ⟨rfl, hb629⟩
                    clear X0_0 X0_1 X0_l X1_0 X1_1 X1_l R_0 R_1 R_l
                    have X0 := Lib.hid (X0.out.step hb629)
                    have X1 := Lib.hid (X1.out.step hb629)
                    have R := Lib.hid (R.out.step hb629)
                    have HB := Lib.hid (bstep HB.out hb629)
                    rw [HLb.out]
                    clear hb629
                    have X0_0 := X0.out.cell0
                    have X0_1 := X0.out.cell1
                    have X0_l := X0.out.lt
                    have X1_0 := X1.out.cell0
                    have X1_1 := X1.out.cell1
                    have X1_l := X1.out.lt
                    have R_0 := R.out.cell0
                    have R_1 := R.out.cell1
                    have R_l := R.out.lt
                    have HS := Lib.hid ((R.out.set0 (0)).set1 (.int .i64 (((f : Nat) : Int))))
                    have z0 := HS.out.cell0
                    have z1 := HS.out.cell1
                    have HBS := Lib.hid ((HB.out.setCell (p := ⟨w.heap.size + 1 + 1, 0, none⟩) (by have := R_g; omega) (.int .i64 (0))).setCell (p := ⟨w.heap.size + 1 + 1, 1, none⟩) (by have := R_g; omega) (.int .i64 (((f : Nat) : Int))))
                    have R_f0 := R.out.frozen 0
                    have R_f1 := R.out.frozen 1
                    go_wp2_with fail
                    refine bodyPost_ret (v := .tuple #[.agg #[.int .i64 (0), .int .i64 (((f : Nat) : Int))], .bool true]) (by simp [results, Try.results28, go_sem, z0, z1]) rfl ?_
                    exact ⟨by rw [HR.out, Hs.out]; rfl, HBS.out⟩
              · have hs : Dy.find A B (9 - (f + 1)) (f + 1) = Dy.sim A B := by rw [← Hf.out, Hnx.out, if_neg (by rw [Hok.out]; omega)]
                have Hs := Lib.hid hs
                clear hs
                go_wp2_with fail
                refine (i_above n e ((f : Nat) : Int) _ n1 n2 e1 e2 hf0 hf8i).mono ?_
                rintro e x722 ⟨rfl, hb723⟩
                clear X0_0 X0_1 X0_l X1_0 X1_1 X1_l R_0 R_1 R_l
                have X0 := Lib.hid (X0.out.step hb723)
                have X1 := Lib.hid (X1.out.step hb723)
                have R := Lib.hid (R.out.step hb723)
                have HB := Lib.hid (bstep HB.out hb723)
                rw [HLa.out]
                clear hb723
                have X0_0 := X0.out.cell0
                have X0_1 := X0.out.cell1
                have X0_l := X0.out.lt
                have X1_0 := X1.out.cell0
                have X1_1 := X1.out.cell1
                have X1_l := X1.out.lt
                have R_0 := R.out.cell0
                have R_1 := R.out.cell1
                have R_l := R.out.lt
                go_wp2_with fail
                refine (i_neg m k _ ⟨m1, m2⟩).mono ?_
                rintro e x725 ⟨rfl, hb726⟩
                clear X0_0 X0_1 X0_l X1_0 X1_1 X1_l R_0 R_1 R_l
                have X0 := Lib.hid (X0.out.step hb726)
                have X1 := Lib.hid (X1.out.step hb726)
                have R := Lib.hid (R.out.step hb726)
                have HB := Lib.hid (bstep HB.out hb726)
                clear hb726
                have X0_0 := X0.out.cell0
                have X0_1 := X0.out.cell1
                have X0_l := X0.out.lt
                have X1_0 := X1.out.cell0
                have X1_1 := X1.out.cell1
                have X1_l := X1.out.lt
                have R_0 := R.out.cell0
                have R_1 := R.out.cell1
                have R_l := R.out.lt
                go_wp2_with fail
                refine (i_above (-m) k ((f : Nat) : Int) _ (by omega) (by omega) k1 k2 hf0 hf8i).mono ?_
                rintro e x728 ⟨rfl, hb729⟩
                clear X0_0 X0_1 X0_l X1_0 X1_1 X1_l R_0 R_1 R_l
                have X0 := Lib.hid (X0.out.step hb729)
                have X1 := Lib.hid (X1.out.step hb729)
                have R := Lib.hid (R.out.step hb729)
                have HB := Lib.hid (bstep HB.out hb729)
                rw [HLb.out]
                clear hb729
                have X0_0 := X0.out.cell0
                have X0_1 := X0.out.cell1
                have X0_l := X0.out.lt
                have X1_0 := X1.out.cell0
                have X1_1 := X1.out.cell1
                have X1_l := X1.out.lt
                have R_0 := R.out.cell0
                have R_1 := R.out.cell1
                have R_l := R.out.lt
                go_wp2_with fail
                go_roundg (9 - f)
                case measure => omega
                case rel => exact ⟨f + 1, by omega, by omega, rfl, Hs.out, X0.out, X1.out, R.out, HB.out⟩
            · skip
              by_cases c3 : La ≤ 9999
              · skip
                by_cases c4 : 9999 ≤ 0
                · exfalso
                  omega
                · by_cases c5 : 0 ≤ La
                  · have hs : Dy.sim A B = some (La, ((f : Nat) : Int)) := by rw [← Hf.out, Hnx.out, if_pos (by rw [Hok.out]; omega), Hnu.out]; congr 2; omega
                    have Hs := Lib.hid hs
                    clear hs
                    go_wp2_with fail
                    refine (i_above n e ((f : Nat) : Int) _ n1 n2 e1 e2 hf0 hf8i).mono ?_
                    rintro e x822 ⟨rfl, hb823⟩
                    clear X0_0 X0_1 X0_l X1_0 X1_1 X1_l R_0 R_1 R_l
                    have X0 := Lib.hid (X0.out.step hb823)
                    have X1 := Lib.hid (X1.out.step hb823)
                    have R := Lib.hid (R.out.step hb823)
                    have HB := Lib.hid (bstep HB.out hb823)
                    rw [HLa.out]
                    clear hb823
                    have X0_0 := X0.out.cell0
                    have X0_1 := X0.out.cell1
                    have X0_l := X0.out.lt
                    have X1_0 := X1.out.cell0
                    have X1_1 := X1.out.cell1
                    have X1_l := X1.out.lt
                    have R_0 := R.out.cell0
                    have R_1 := R.out.cell1
                    have R_l := R.out.lt
                    go_wp2_with fail
                    refine (i_neg m k _ ⟨m1, m2⟩).mono ?_
                    rintro e x825 ⟨rfl, hb826⟩
                    clear X0_0 X0_1 X0_l X1_0 X1_1 X1_l R_0 R_1 R_l
                    have X0 := Lib.hid (X0.out.step hb826)
                    have X1 := Lib.hid (X1.out.step hb826)
                    have R := Lib.hid (R.out.step hb826)
                    have HB := Lib.hid (bstep HB.out hb826)
                    clear hb826
                    have X0_0 := X0.out.cell0
                    have X0_1 := X0.out.cell1
                    have X0_l := X0.out.lt
                    have X1_0 := X1.out.cell0
                    have X1_1 := X1.out.cell1
                    have X1_l := X1.out.lt
                    have R_0 := R.out.cell0
                    have R_1 := R.out.cell1
                    have R_l := R.out.lt
                    go_wp2_with fail
                    refine (i_above (-m) k ((f : Nat) : Int) _ (by omega) (by omega) k1 k2 hf0 hf8i).mono ?_
                    rintro e x828 ⟨rfl, hb829⟩
                    clear X0_0 X0_1 X0_l X1_0 X1_1 X1_l R_0 R_1 R_l
                    have X0 := Lib.hid (X0.out.step hb829)
                    have X1 := Lib.hid (X1.out.step hb829)
                    have R := Lib.hid (R.out.step hb829)
                    have HB := Lib.hid (bstep HB.out hb829)
                    rw [HLb.out]
                    clear hb829
                    have X0_0 := X0.out.cell0
                    have X0_1 := X0.out.cell1
                    have X0_l := X0.out.lt
                    have X1_0 := X1.out.cell0
                    have X1_1 := X1.out.cell1
                    have X1_l := X1.out.lt
                    have R_0 := R.out.cell0
                    have R_1 := R.out.cell1
                    have R_l := R.out.lt
                    have HS := Lib.hid ((R.out.set0 (La)).set1 (.int .i64 (((f : Nat) : Int))))
                    have z0 := HS.out.cell0
                    have z1 := HS.out.cell1
                    have HBS := Lib.hid ((HB.out.setCell (p := ⟨w.heap.size + 1 + 1, 0, none⟩) (by have := R_g; omega) (.int .i64 (La))).setCell (p := ⟨w.heap.size + 1 + 1, 1, none⟩) (by have := R_g; omega) (.int .i64 (((f : Nat) : Int))))
                    have R_f0 := R.out.frozen 0
                    have R_f1 := R.out.frozen 1
                    go_wp2_with fail
                    refine bodyPost_ret (v := .tuple #[.agg #[.int .i64 (La), .int .i64 (((f : Nat) : Int))], .bool true]) (by simp [results, Try.results28, go_sem, z0, z1]) rfl ?_
                    exact ⟨by rw [HR.out, Hs.out]; rfl, HBS.out⟩
                  · have hs : Dy.sim A B = some (0, ((f : Nat) : Int)) := by rw [← Hf.out, Hnx.out, if_pos (by rw [Hok.out]; omega), Hnu.out]; congr 2; omega
                    have Hs := Lib.hid hs
                    clear hs
                    go_wp2_with fail
                    refine (i_above n e ((f : Nat) : Int) _ n1 n2 e1 e2 hf0 hf8i).mono ?_
                    rintro e x922 ⟨rfl, hb923⟩
                    clear X0_0 X0_1 X0_l X1_0 X1_1 X1_l R_0 R_1 R_l
                    have X0 := Lib.hid (X0.out.step hb923)
                    have X1 := Lib.hid (X1.out.step hb923)
                    have R := Lib.hid (R.out.step hb923)
                    have HB := Lib.hid (bstep HB.out hb923)
                    rw [HLa.out]
                    clear hb923
                    have X0_0 := X0.out.cell0
                    have X0_1 := X0.out.cell1
                    have X0_l := X0.out.lt
                    have X1_0 := X1.out.cell0
                    have X1_1 := X1.out.cell1
                    have X1_l := X1.out.lt
                    have R_0 := R.out.cell0
                    have R_1 := R.out.cell1
                    have R_l := R.out.lt
                    go_wp2_with fail
                    refine (i_neg m k _ ⟨m1, m2⟩).mono ?_
                    rintro e x925 ⟨rfl, hb926⟩
                    clear X0_0 X0_1 X0_l X1_0 X1_1 X1_l R_0 R_1 R_l
                    have X0 := Lib.hid (X0.out.step hb926)
                    have X1 := Lib.hid (X1.out.step hb926)
                    have R := Lib.hid (R.out.step hb926)
                    have HB := Lib.hid (bstep HB.out hb926)
                    clear hb926
                    have X0_0 := X0.out.cell0
                    have X0_1 := X0.out.cell1
                    have X0_l := X0.out.lt
                    have X1_0 := X1.out.cell0
                    have X1_1 := X1.out.cell1
                    have X1_l := X1.out.lt
                    have R_0 := R.out.cell0
                    have R_1 := R.out.cell1
                    have R_l := R.out.lt
                    go_wp2_with fail
                    refine (i_above (-m) k ((f : Nat) : Int) _ (by omega) (by omega) k1 k2 hf0 hf8i).mono ?_
                    rintro e x928 ⟨rfl, hb929⟩
                    clear X0_0 X0_1 X0_l X1_0 X1_1 X1_l R_0 R_1 R_l
                    have X0 := Lib.hid (X0.out.step hb929)
                    have X1 := Lib.hid (X1.out.step hb929)
                    have R := Lib.hid (R.out.step hb929)
                    have HB := Lib.hid (bstep HB.out hb929)
                    rw [HLb.out]
                    clear hb929
                    have X0_0 := X0.out.cell0
                    have X0_1 := X0.out.cell1
                    have X0_l := X0.out.lt
                    have X1_0 := X1.out.cell0
                    have X1_1 := X1.out.cell1
                    have X1_l := X1.out.lt
                    have R_0 := R.out.cell0
                    have R_1 := R.out.cell1
                    have R_l := R.out.lt
                    have HS := Lib.hid ((R.out.set0 (0)).set1 (.int .i64 (((f : Nat) : Int))))
                    have z0 := HS.out.cell0
                    have z1 := HS.out.cell1
                    have HBS := Lib.hid ((HB.out.setCell (p := ⟨w.heap.size + 1 + 1, 0, none⟩) (by have := R_g; omega) (.int .i64 (0))).setCell (p := ⟨w.heap.size + 1 + 1, 1, none⟩) (by have := R_g; omega) (.int .i64 (((f : Nat) : Int))))
                    have R_f0 := R.out.frozen 0
                    have R_f1 := R.out.frozen 1
                    go_wp2_with fail
                    refine bodyPost_ret (v := .tuple #[.agg #[.int .i64 (0), .int .i64 (((f : Nat) : Int))], .bool true]) (by simp [results, Try.results28, go_sem, z0, z1]) rfl ?_
                    exact ⟨by rw [HR.out, Hs.out]; rfl, HBS.out⟩
              · have hs : Dy.find A B (9 - (f + 1)) (f + 1) = Dy.sim A B := by rw [← Hf.out, Hnx.out, if_neg (by rw [Hok.out]; omega)]
                have Hs := Lib.hid hs
                clear hs
                go_wp2_with fail
                refine (i_above n e ((f : Nat) : Int) _ n1 n2 e1 e2 hf0 hf8i).mono ?_
                rintro e x1022 ⟨rfl, hb1023⟩
                clear X0_0 X0_1 X0_l X1_0 X1_1 X1_l R_0 R_1 R_l
                have X0 := Lib.hid (X0.out.step hb1023)
                have X1 := Lib.hid (X1.out.step hb1023)
                have R := Lib.hid (R.out.step hb1023)
                have HB := Lib.hid (bstep HB.out hb1023)
                rw [HLa.out]
                clear hb1023
                have X0_0 := X0.out.cell0
                have X0_1 := X0.out.cell1
                have X0_l := X0.out.lt
                have X1_0 := X1.out.cell0
                have X1_1 := X1.out.cell1
                have X1_l := X1.out.lt
                have R_0 := R.out.cell0
                have R_1 := R.out.cell1
                have R_l := R.out.lt
                go_wp2_with fail
                refine (i_neg m k _ ⟨m1, m2⟩).mono ?_
                rintro e x1025 ⟨rfl, hb1026⟩
                clear X0_0 X0_1 X0_l X1_0 X1_1 X1_l R_0 R_1 R_l
                have X0 := Lib.hid (X0.out.step hb1026)
                have X1 := Lib.hid (X1.out.step hb1026)
                have R := Lib.hid (R.out.step hb1026)
                have HB := Lib.hid (bstep HB.out hb1026)
                clear hb1026
                have X0_0 := X0.out.cell0
                have X0_1 := X0.out.cell1
                have X0_l := X0.out.lt
                have X1_0 := X1.out.cell0
                have X1_1 := X1.out.cell1
                have X1_l := X1.out.lt
                have R_0 := R.out.cell0
                have R_1 := R.out.cell1
                have R_l := R.out.lt
                go_wp2_with fail
                refine (i_above (-m) k ((f : Nat) : Int) _ (by omega) (by omega) k1 k2 hf0 hf8i).mono ?_
                rintro e x1028 ⟨rfl, hb1029⟩
                clear X0_0 X0_1 X0_l X1_0 X1_1 X1_l R_0 R_1 R_l
                have X0 := Lib.hid (X0.out.step hb1029)
                have X1 := Lib.hid (X1.out.step hb1029)
                have R := Lib.hid (R.out.step hb1029)
                have HB := Lib.hid (bstep HB.out hb1029)
                rw [HLb.out]
                clear hb1029
                have X0_0 := X0.out.cell0
                have X0_1 := X0.out.cell1
                have X0_l := X0.out.lt
                have X1_0 := X1.out.cell0
                have X1_1 := X1.out.cell1
                have X1_l := X1.out.lt
                have R_0 := R.out.cell0
                have R_1 := R.out.cell1
                have R_l := R.out.lt
                go_wp2_with fail
                go_roundg (9 - f)
                case measure => omega
                case rel => exact ⟨f + 1, by omega, by omega, rfl, Hs.out, X0.out, X1.out, R.out, HB.out⟩
          · skip
            by_cases c2 : -Lb ≤ 9999
            · skip
              by_cases c3 : (-9999) ≤ (-Lb)
              · skip
                by_cases c4 : (-Lb) ≤ 0
                · by_cases c5 : (-Lb) ≤ (-9999)
                  · have hs : Dy.sim A B = some ((-9999), ((f : Nat) : Int)) := by rw [← Hf.out, Hnx.out, if_pos (by rw [Hok.out]; omega), Hnu.out]; congr 2; omega
                    have Hs := Lib.hid hs
                    clear hs
                    go_wp2_with fail
                    refine (i_above n e ((f : Nat) : Int) _ n1 n2 e1 e2 hf0 hf8i).mono ?_
                    rintro e x1122 ⟨rfl, hb1123⟩
                    clear X0_0 X0_1 X0_l X1_0 X1_1 X1_l R_0 R_1 R_l
                    have X0 := Lib.hid (X0.out.step hb1123)
                    have X1 := Lib.hid (X1.out.step hb1123)
                    have R := Lib.hid (R.out.step hb1123)
                    have HB := Lib.hid (bstep HB.out hb1123)
                    rw [HLa.out]
                    clear hb1123
                    have X0_0 := X0.out.cell0
                    have X0_1 := X0.out.cell1
                    have X0_l := X0.out.lt
                    have X1_0 := X1.out.cell0
                    have X1_1 := X1.out.cell1
                    have X1_l := X1.out.lt
                    have R_0 := R.out.cell0
                    have R_1 := R.out.cell1
                    have R_l := R.out.lt
                    go_wp2_with fail
                    refine (i_neg m k _ ⟨m1, m2⟩).mono ?_
                    rintro e x1125 ⟨rfl, hb1126⟩
                    clear X0_0 X0_1 X0_l X1_0 X1_1 X1_l R_0 R_1 R_l
                    have X0 := Lib.hid (X0.out.step hb1126)
                    have X1 := Lib.hid (X1.out.step hb1126)
                    have R := Lib.hid (R.out.step hb1126)
                    have HB := Lib.hid (bstep HB.out hb1126)
                    clear hb1126
                    have X0_0 := X0.out.cell0
                    have X0_1 := X0.out.cell1
                    have X0_l := X0.out.lt
                    have X1_0 := X1.out.cell0
                    have X1_1 := X1.out.cell1
                    have X1_l := X1.out.lt
                    have R_0 := R.out.cell0
                    have R_1 := R.out.cell1
                    have R_l := R.out.lt
                    go_wp2_with fail
                    refine (i_above (-m) k ((f : Nat) : Int) _ (by omega) (by omega) k1 k2 hf0 hf8i).mono ?_
                    rintro e x1128 ⟨rfl, hb1129⟩
                    clear X0_0 X0_1 X0_l X1_0 X1_1 X1_l R_0 R_1 R_l
                    have X0 := Lib.hid (X0.out.step hb1129)
                    have X1 := Lib.hid (X1.out.step hb1129)
                    have R := Lib.hid (R.out.step hb1129)
                    have HB := Lib.hid (bstep HB.out hb1129)
                    rw [HLb.out]
                    clear hb1129
                    have X0_0 := X0.out.cell0
                    have X0_1 := X0.out.cell1
                    have X0_l := X0.out.lt
                    have X1_0 := X1.out.cell0
                    have X1_1 := X1.out.cell1
                    have X1_l := X1.out.lt
                    have R_0 := R.out.cell0
                    have R_1 := R.out.cell1
                    have R_l := R.out.lt
                    have HS := Lib.hid ((R.out.set0 ((-9999))).set1 (.int .i64 (((f : Nat) : Int))))
                    have z0 := HS.out.cell0
                    have z1 := HS.out.cell1
                    have HBS := Lib.hid ((HB.out.setCell (p := ⟨w.heap.size + 1 + 1, 0, none⟩) (by have := R_g; omega) (.int .i64 ((-9999)))).setCell (p := ⟨w.heap.size + 1 + 1, 1, none⟩) (by have := R_g; omega) (.int .i64 (((f : Nat) : Int))))
                    have R_f0 := R.out.frozen 0
                    have R_f1 := R.out.frozen 1
                    go_wp2_with fail
                    refine bodyPost_ret (v := .tuple #[.agg #[.int .i64 ((-9999)), .int .i64 (((f : Nat) : Int))], .bool true]) (by simp [results, Try.results28, go_sem, z0, z1]) rfl ?_
                    exact ⟨by rw [HR.out, Hs.out]; rfl, HBS.out⟩
                  · have hs : Dy.sim A B = some ((-Lb), ((f : Nat) : Int)) := by rw [← Hf.out, Hnx.out, if_pos (by rw [Hok.out]; omega), Hnu.out]; congr 2; omega
                    have Hs := Lib.hid hs
                    clear hs
                    go_wp2_with fail
                    refine (i_above n e ((f : Nat) : Int) _ n1 n2 e1 e2 hf0 hf8i).mono ?_
                    rintro e x1222 ⟨rfl, hb1223⟩
                    clear X0_0 X0_1 X0_l X1_0 X1_1 X1_l R_0 R_1 R_l
                    have X0 := Lib.hid (X0.out.step hb1223)
                    have X1 := Lib.hid (X1.out.step hb1223)
                    have R := Lib.hid (R.out.step hb1223)
                    have HB := Lib.hid (bstep HB.out hb1223)
                    rw [HLa.out]
                    clear hb1223
                    have X0_0 := X0.out.cell0
                    have X0_1 := X0.out.cell1
                    have X0_l := X0.out.lt
                    have X1_0 := X1.out.cell0
                    have X1_1 := X1.out.cell1
                    have X1_l := X1.out.lt
                    have R_0 := R.out.cell0
                    have R_1 := R.out.cell1
                    have R_l := R.out.lt
                    go_wp2_with fail
                    refine (i_neg m k _ ⟨m1, m2⟩).mono ?_
                    rintro e x1225 ⟨rfl, hb1226⟩
                    clear X0_0 X0_1 X0_l X1_0 X1_1 X1_l R_0 R_1 R_l
                    have X0 := Lib.hid (X0.out.step hb1226)
                    have X1 := Lib.hid (X1.out.step hb1226)
                    have R := Lib.hid (R.out.step hb1226)
                    have HB := Lib.hid (bstep HB.out hb1226)
                    clear hb1226
                    have X0_0 := X0.out.cell0
                    have X0_1 := X0.out.cell1
                    have X0_l := X0.out.lt
                    have X1_0 := X1.out.cell0
                    have X1_1 := X1.out.cell1
                    have X1_l := X1.out.lt
                    have R_0 := R.out.cell0
                    have R_1 := R.out.cell1
                    have R_l := R.out.lt
                    go_wp2_with fail
                    refine (i_above (-m) k ((f : Nat) : Int) _ (by omega) (by omega) k1 k2 hf0 hf8i).mono ?_
                    rintro e x1228 ⟨rfl, hb1229⟩
                    clear X0_0 X0_1 X0_l X1_0 X1_1 X1_l R_0 R_1 R_l
                    have X0 := Lib.hid (X0.out.step hb1229)
                    have X1 := Lib.hid (X1.out.step hb1229)
                    have R := Lib.hid (R.out.step hb1229)
                    have HB := Lib.hid (bstep HB.out hb1229)
                    rw [HLb.out]
                    clear hb1229
                    have X0_0 := X0.out.cell0
                    have X0_1 := X0.out.cell1
                    have X0_l := X0.out.lt
                    have X1_0 := X1.out.cell0
                    have X1_1 := X1.out.cell1
                    have X1_l := X1.out.lt
                    have R_0 := R.out.cell0
                    have R_1 := R.out.cell1
                    have R_l := R.out.lt
                    have HS := Lib.hid ((R.out.set0 ((-Lb))).set1 (.int .i64 (((f : Nat) : Int))))
                    have z0 := HS.out.cell0
                    have z1 := HS.out.cell1
                    have HBS := Lib.hid ((HB.out.setCell (p := ⟨w.heap.size + 1 + 1, 0, none⟩) (by have := R_g; omega) (.int .i64 ((-Lb)))).setCell (p := ⟨w.heap.size + 1 + 1, 1, none⟩) (by have := R_g; omega) (.int .i64 (((f : Nat) : Int))))
                    have R_f0 := R.out.frozen 0
                    have R_f1 := R.out.frozen 1
                    go_wp2_with fail
                    refine bodyPost_ret (v := .tuple #[.agg #[.int .i64 ((-Lb)), .int .i64 (((f : Nat) : Int))], .bool true]) (by simp [results, Try.results28, go_sem, z0, z1]) rfl ?_
                    exact ⟨by rw [HR.out, Hs.out]; rfl, HBS.out⟩
                · by_cases c5 : 0 ≤ (-9999)
                  · exfalso
                    omega
                  · have hs : Dy.sim A B = some (0, ((f : Nat) : Int)) := by rw [← Hf.out, Hnx.out, if_pos (by rw [Hok.out]; omega), Hnu.out]; congr 2; omega
                    have Hs := Lib.hid hs
                    clear hs
                    go_wp2_with fail
                    refine (i_above n e ((f : Nat) : Int) _ n1 n2 e1 e2 hf0 hf8i).mono ?_
                    rintro e x1322 ⟨rfl, hb1323⟩
                    clear X0_0 X0_1 X0_l X1_0 X1_1 X1_l R_0 R_1 R_l
                    have X0 := Lib.hid (X0.out.step hb1323)
                    have X1 := Lib.hid (X1.out.step hb1323)
                    have R := Lib.hid (R.out.step hb1323)
                    have HB := Lib.hid (bstep HB.out hb1323)
                    rw [HLa.out]
                    clear hb1323
                    have X0_0 := X0.out.cell0
                    have X0_1 := X0.out.cell1
                    have X0_l := X0.out.lt
                    have X1_0 := X1.out.cell0
                    have X1_1 := X1.out.cell1
                    have X1_l := X1.out.lt
                    have R_0 := R.out.cell0
                    have R_1 := R.out.cell1
                    have R_l := R.out.lt
                    go_wp2_with fail
                    refine (i_neg m k _ ⟨m1, m2⟩).mono ?_
                    rintro e x1325 ⟨rfl, hb1326⟩
                    clear X0_0 X0_1 X0_l X1_0 X1_1 X1_l R_0 R_1 R_l
                    have X0 := Lib.hid (X0.out.step hb1326)
                    have X1 := Lib.hid (X1.out.step hb1326)
                    have R := Lib.hid (R.out.step hb1326)
                    have HB := Lib.hid (bstep HB.out hb1326)
                    clear hb1326
                    have X0_0 := X0.out.cell0
                    have X0_1 := X0.out.cell1
                    have X0_l := X0.out.lt
                    have X1_0 := X1.out.cell0
                    have X1_1 := X1.out.cell1
                    have X1_l := X1.out.lt
                    have R_0 := R.out.cell0
                    have R_1 := R.out.cell1
                    have R_l := R.out.lt
                    go_wp2_with fail
                    refine (i_above (-m) k ((f : Nat) : Int) _ (by omega) (by omega) k1 k2 hf0 hf8i).mono ?_
                    rintro e x1328 ⟨rfl, hb1329⟩
                    clear X0_0 X0_1 X0_l X1_0 X1_1 X1_l R_0 R_1 R_l
                    have X0 := Lib.hid (X0.out.step hb1329)
                    have X1 := Lib.hid (X1.out.step hb1329)
                    have R := Lib.hid (R.out.step hb1329)
                    have HB := Lib.hid (bstep HB.out hb1329)
                    rw [HLb.out]
                    clear hb1329
                    have X0_0 := X0.out.cell0
                    have X0_1 := X0.out.cell1
                    have X0_l := X0.out.lt
                    have X1_0 := X1.out.cell0
                    have X1_1 := X1.out.cell1
                    have X1_l := X1.out.lt
                    have R_0 := R.out.cell0
                    have R_1 := R.out.cell1
                    have R_l := R.out.lt
                    have HS := Lib.hid ((R.out.set0 (0)).set1 (.int .i64 (((f : Nat) : Int))))
                    have z0 := HS.out.cell0
                    have z1 := HS.out.cell1
                    have HBS := Lib.hid ((HB.out.setCell (p := ⟨w.heap.size + 1 + 1, 0, none⟩) (by have := R_g; omega) (.int .i64 (0))).setCell (p := ⟨w.heap.size + 1 + 1, 1, none⟩) (by have := R_g; omega) (.int .i64 (((f : Nat) : Int))))
                    have R_f0 := R.out.frozen 0
                    have R_f1 := R.out.frozen 1
                    go_wp2_with fail
                    refine bodyPost_ret (v := .tuple #[.agg #[.int .i64 (0), .int .i64 (((f : Nat) : Int))], .bool true]) (by simp [results, Try.results28, go_sem, z0, z1]) rfl ?_
                    exact ⟨by rw [HR.out, Hs.out]; rfl, HBS.out⟩
              · have hs : Dy.find A B (9 - (f + 1)) (f + 1) = Dy.sim A B := by rw [← Hf.out, Hnx.out, if_neg (by rw [Hok.out]; omega)]
                have Hs := Lib.hid hs
                clear hs
                go_wp2_with fail
                refine (i_above n e ((f : Nat) : Int) _ n1 n2 e1 e2 hf0 hf8i).mono ?_
                rintro e x1422 ⟨rfl, hb1423⟩
                clear X0_0 X0_1 X0_l X1_0 X1_1 X1_l R_0 R_1 R_l
                have X0 := Lib.hid (X0.out.step hb1423)
                have X1 := Lib.hid (X1.out.step hb1423)
                have R := Lib.hid (R.out.step hb1423)
                have HB := Lib.hid (bstep HB.out hb1423)
                rw [HLa.out]
                clear hb1423
                have X0_0 := X0.out.cell0
                have X0_1 := X0.out.cell1
                have X0_l := X0.out.lt
                have X1_0 := X1.out.cell0
                have X1_1 := X1.out.cell1
                have X1_l := X1.out.lt
                have R_0 := R.out.cell0
                have R_1 := R.out.cell1
                have R_l := R.out.lt
                go_wp2_with fail
                refine (i_neg m k _ ⟨m1, m2⟩).mono ?_
                rintro e x1425 ⟨rfl, hb1426⟩
                clear X0_0 X0_1 X0_l X1_0 X1_1 X1_l R_0 R_1 R_l
                have X0 := Lib.hid (X0.out.step hb1426)
                have X1 := Lib.hid (X1.out.step hb1426)
                have R := Lib.hid (R.out.step hb1426)
                have HB := Lib.hid (bstep HB.out hb1426)
                clear hb1426
                have X0_0 := X0.out.cell0
                have X0_1 := X0.out.cell1
                have X0_l := X0.out.lt
                have X1_0 := X1.out.cell0
                have X1_1 := X1.out.cell1
                have X1_l := X1.out.lt
                have R_0 := R.out.cell0
                have R_1 := R.out.cell1
                have R_l := R.out.lt
                go_wp2_with fail
                refine (i_above (-m) k ((f : Nat) : Int) _ (by omega) (by omega) k1 k2 hf0 hf8i).mono ?_
                rintro e x1428 ⟨rfl, hb1429⟩
                clear X0_0 X0_1 X0_l X1_0 X1_1 X1_l R_0 R_1 R_l
                have X0 := Lib.hid (X0.out.step hb1429)
                have X1 := Lib.hid (X1.out.step hb1429)
                have R := Lib.hid (R.out.step hb1429)
                have HB := Lib.hid (bstep HB.out hb1429)
                rw [HLb.out]
                clear hb1429
                have X0_0 := X0.out.cell0
                have X0_1 := X0.out.cell1
                have X0_l := X0.out.lt
                have X1_0 := X1.out.cell0
                have X1_1 := X1.out.cell1
                have X1_l := X1.out.lt
                have R_0 := R.out.cell0
                have R_1 := R.out.cell1
                have R_l := R.out.lt
                go_wp2_with fail
                go_roundg (9 - f)
                case measure => omega
                case rel => exact ⟨f + 1, by omega, by omega, rfl, Hs.out, X0.out, X1.out, R.out, HB.out⟩
            · skip
              by_cases c3 : (-9999) ≤ 9999
              · skip
                by_cases c4 : 9999 ≤ 0
                · exfalso
                  omega
                · by_cases c5 : 0 ≤ (-9999)
                  · exfalso
                    omega
                  · have hs : Dy.sim A B = some (0, ((f : Nat) : Int)) := by rw [← Hf.out, Hnx.out, if_pos (by rw [Hok.out]; omega), Hnu.out]; congr 2; omega
                    have Hs := Lib.hid hs
                    clear hs
                    go_wp2_with fail
                    refine (i_above n e ((f : Nat) : Int) _ n1 n2 e1 e2 hf0 hf8i).mono ?_
                    rintro e x1522 ⟨rfl, hb1523⟩
                    clear X0_0 X0_1 X0_l X1_0 X1_1 X1_l R_0 R_1 R_l
                    have X0 := Lib.hid (X0.out.step hb1523)
                    have X1 := Lib.hid (X1.out.step hb1523)
                    have R := Lib.hid (R.out.step hb1523)
                    have HB := Lib.hid (bstep HB.out hb1523)
                    rw [HLa.out]
                    clear hb1523
                    have X0_0 := X0.out.cell0
                    have X0_1 := X0.out.cell1
                    have X0_l := X0.out.lt
                    have X1_0 := X1.out.cell0
                    have X1_1 := X1.out.cell1
                    have X1_l := X1.out.lt
                    have R_0 := R.out.cell0
                    have R_1 := R.out.cell1
                    have R_l := R.out.lt
                    go_wp2_with fail
                    refine (i_neg m k _ ⟨m1, m2⟩).mono ?_
                    rintro e x1525 ⟨rfl, hb1526⟩
                    clear X0_0 X0_1 X0_l X1_0 X1_1 X1_l R_0 R_1 R_l
                    have X0 := Lib.hid (X0.out.step hb1526)
                    have X1 := Lib.hid (X1.out.step hb1526)
                    have R := Lib.hid (R.out.step hb1526)
                    have HB := Lib.hid (bstep HB.out hb1526)
                    clear hb1526
                    have X0_0 := X0.out.cell0
                    have X0_1 := X0.out.cell1
                    have X0_l := X0.out.lt
                    have X1_0 := X1.out.cell0
                    have X1_1 := X1.out.cell1
                    have X1_l := X1.out.lt
                    have R_0 := R.out.cell0
                    have R_1 := R.out.cell1
                    have R_l := R.out.lt
                    go_wp2_with fail
                    refine (i_above (-m) k ((f : Nat) : Int) _ (by omega) (by omega) k1 k2 hf0 hf8i).mono ?_
                    rintro e x1528 ⟨rfl, hb1529⟩
                    clear X0_0 X0_1 X0_l X1_0 X1_1 X1_l R_0 R_1 R_l
                    have X0 := Lib.hid (X0.out.step hb1529)
                    have X1 := Lib.hid (X1.out.step hb1529)
                    have R := Lib.hid (R.out.step hb1529)
                    have HB := Lib.hid (bstep HB.out hb1529)
                    rw [HLb.out]
                    clear hb1529
                    have X0_0 := X0.out.cell0
                    have X0_1 := X0.out.cell1
                    have X0_l := X0.out.lt
                    have X1_0 := X1.out.cell0
                    have X1_1 := X1.out.cell1
                    have X1_l := X1.out.lt
                    have R_0 := R.out.cell0
                    have R_1 := R.out.cell1
                    have R_l := R.out.lt
                    have HS := Lib.hid ((R.out.set0 (0)).set1 (.int .i64 (((f : Nat) : Int))))
                    have z0 := HS.out.cell0
                    have z1 := HS.out.cell1
                    have HBS := Lib.hid ((HB.out.setCell (p := ⟨w.heap.size + 1 + 1, 0, none⟩) (by have := R_g; omega) (.int .i64 (0))).setCell (p := ⟨w.heap.size + 1 + 1, 1, none⟩) (by have := R_g; omega) (.int .i64 (((f : Nat) : Int))))
                    have R_f0 := R.out.frozen 0
                    have R_f1 := R.out.frozen 1
                    go_wp2_with fail
                    refine bodyPost_ret (v := .tuple #[.agg #[.int .i64 (0), .int .i64 (((f : Nat) : Int))], .bool true]) (by simp [results, Try.results28, go_sem, z0, z1]) rfl ?_
                    exact ⟨by rw [HR.out, Hs.out]; rfl, HBS.out⟩
              · exfalso
                omega
    · have Hb : Hid (Dy.ok m k = false) := Lib.hid (by simpa using hb)
      clear ha hb
      have HB := Lib.hid (Below.refl w.heap.size w)
      go_enter Try.func28, Try.ntmps28
      have R_g : w.heap.size ≤ w.heap.size + 2 := by omega
      go_wp2_with fail
      obtain ⟨x1, hy3, hb2, z4, z5⟩ := new_box w (.cells #[.int .i64 n, .int .i64 e] 26)
      have X0 : Hid (Bx 26 x1 w.heap.size n (.int .i64 e)) := Lib.hid (by rw [hy3]; exact Bx.new _ _ _ _)
      rw [← hy3]
      clear hy3
      have HB := Lib.hid (bstep HB.out hb2)
      clear hb2
      have X0_0 := X0.out.cell0
      have X0_1 := X0.out.cell1
      have X0_l := X0.out.lt
      obtain ⟨x6, hy8, hb7, z9, z10⟩ := new_box x1 (.cells #[.int .i64 m, .int .i64 k] 26)
      have X1 : Hid (Bx 26 x6 x1.heap.size m (.int .i64 k)) := Lib.hid (by rw [hy8]; exact Bx.new _ _ _ _)
      rw [← hy8]
      clear hy8
      clear X0_0 X0_1 X0_l
      have X0 := Lib.hid (X0.out.step hb7)
      have HB := Lib.hid (bstep HB.out hb7)
      clear hb7
      have X0_0 := X0.out.cell0
      have X0_1 := X0.out.cell1
      have X0_l := X0.out.lt
      have X1_0 := X1.out.cell0
      have X1_1 := X1.out.cell1
      have X1_l := X1.out.lt
      clear X1_0 X1_1 X1_l
      have X1 : Hid (Bx 26 x6 (w.heap.size + 1) m (.int .i64 k)) := Lib.hid (by have h := X1.out; rw [show x1.heap.size = w.heap.size + 1 by omega] at h; exact h)
      have X1_0 := X1.out.cell0
      have X1_1 := X1.out.cell1
      have X1_l := X1.out.lt
      obtain ⟨x11, hy13, hb12, z14, z15⟩ := new_box x6 (.cells #[.int .i64 0, .int .i64 0] 26)
      have R : Hid (Bx 26 x11 x6.heap.size 0 (.int .i64 0)) := Lib.hid (by rw [hy13]; exact Bx.new _ _ _ _)
      rw [← hy13]
      clear hy13
      clear X0_0 X0_1 X0_l X1_0 X1_1 X1_l
      have X0 := Lib.hid (X0.out.step hb12)
      have X1 := Lib.hid (X1.out.step hb12)
      have HB := Lib.hid (bstep HB.out hb12)
      clear hb12
      have X0_0 := X0.out.cell0
      have X0_1 := X0.out.cell1
      have X0_l := X0.out.lt
      have X1_0 := X1.out.cell0
      have X1_1 := X1.out.cell1
      have X1_l := X1.out.lt
      have R_0 := R.out.cell0
      have R_1 := R.out.cell1
      have R_l := R.out.lt
      clear R_0 R_1 R_l
      have R : Hid (Bx 26 x11 (w.heap.size + 1 + 1) 0 (.int .i64 0)) := Lib.hid (by have h := R.out; rw [show x6.heap.size = w.heap.size + 1 + 1 by omega] at h; exact h)
      have R_0 := R.out.cell0
      have R_1 := R.out.cell1
      have R_l := R.out.lt
      refine (i_ok n e _).mono ?_
      rintro e x16 ⟨rfl, hb17⟩
      clear X0_0 X0_1 X0_l X1_0 X1_1 X1_l R_0 R_1 R_l
      have X0 := Lib.hid (X0.out.step hb17)
      have X1 := Lib.hid (X1.out.step hb17)
      have R := Lib.hid (R.out.step hb17)
      have HB := Lib.hid (bstep HB.out hb17)
      rw [Ha.out]
      clear hb17
      have X0_0 := X0.out.cell0
      have X0_1 := X0.out.cell1
      have X0_l := X0.out.lt
      have X1_0 := X1.out.cell0
      have X1_1 := X1.out.cell1
      have X1_l := X1.out.lt
      have R_0 := R.out.cell0
      have R_1 := R.out.cell1
      have R_l := R.out.lt
      go_wp2_with fail
      refine (i_ok m k _).mono ?_
      rintro e x19 ⟨rfl, hb20⟩
      clear X0_0 X0_1 X0_l X1_0 X1_1 X1_l R_0 R_1 R_l
      have X0 := Lib.hid (X0.out.step hb20)
      have X1 := Lib.hid (X1.out.step hb20)
      have R := Lib.hid (R.out.step hb20)
      have HB := Lib.hid (bstep HB.out hb20)
      rw [Hb.out]
      clear hb20
      have X0_0 := X0.out.cell0
      have X0_1 := X0.out.cell1
      have X0_l := X0.out.lt
      have X1_0 := X1.out.cell0
      have X1_1 := X1.out.cell1
      have X1_l := X1.out.lt
      have R_0 := R.out.cell0
      have R_1 := R.out.cell1
      have R_l := R.out.lt
      have HS := Lib.hid ((R.out.set0 (0)).set1 (.int .i64 (0)))
      have z0 := HS.out.cell0
      have z1 := HS.out.cell1
      have HBS := Lib.hid ((HB.out.setCell (p := ⟨w.heap.size + 1 + 1, 0, none⟩) (by have := R_g; omega) (.int .i64 (0))).setCell (p := ⟨w.heap.size + 1 + 1, 1, none⟩) (by have := R_g; omega) (.int .i64 (0)))
      have R_f0 := R.out.frozen 0
      have R_f1 := R.out.frozen 1
      go_wp2_with fail
      refine bodyPost_ret (v := .tuple #[.agg #[.int .i64 (0), .int .i64 (0)], .bool false]) (by simp [results, Try.results28, go_sem, z0, z1]) rfl ?_
      exact ⟨by rw [show Dy.simR n e m k = none by rw [Dy.simR, if_neg (by simp [Hb.out])]]; rfl, HBS.out⟩
  · have Ha : Hid (Dy.ok n e = false) := Lib.hid (by simpa using ha)
    clear ha
    have HB := Lib.hid (Below.refl w.heap.size w)
    go_enter Try.func28, Try.ntmps28
    have R_g : w.heap.size ≤ w.heap.size + 2 := by omega
    go_wp2_with fail
    obtain ⟨x1, hy3, hb2, z4, z5⟩ := new_box w (.cells #[.int .i64 n, .int .i64 e] 26)
    have X0 : Hid (Bx 26 x1 w.heap.size n (.int .i64 e)) := Lib.hid (by rw [hy3]; exact Bx.new _ _ _ _)
    rw [← hy3]
    clear hy3
    have HB := Lib.hid (bstep HB.out hb2)
    clear hb2
    have X0_0 := X0.out.cell0
    have X0_1 := X0.out.cell1
    have X0_l := X0.out.lt
    obtain ⟨x6, hy8, hb7, z9, z10⟩ := new_box x1 (.cells #[.int .i64 m, .int .i64 k] 26)
    have X1 : Hid (Bx 26 x6 x1.heap.size m (.int .i64 k)) := Lib.hid (by rw [hy8]; exact Bx.new _ _ _ _)
    rw [← hy8]
    clear hy8
    clear X0_0 X0_1 X0_l
    have X0 := Lib.hid (X0.out.step hb7)
    have HB := Lib.hid (bstep HB.out hb7)
    clear hb7
    have X0_0 := X0.out.cell0
    have X0_1 := X0.out.cell1
    have X0_l := X0.out.lt
    have X1_0 := X1.out.cell0
    have X1_1 := X1.out.cell1
    have X1_l := X1.out.lt
    clear X1_0 X1_1 X1_l
    have X1 : Hid (Bx 26 x6 (w.heap.size + 1) m (.int .i64 k)) := Lib.hid (by have h := X1.out; rw [show x1.heap.size = w.heap.size + 1 by omega] at h; exact h)
    have X1_0 := X1.out.cell0
    have X1_1 := X1.out.cell1
    have X1_l := X1.out.lt
    obtain ⟨x11, hy13, hb12, z14, z15⟩ := new_box x6 (.cells #[.int .i64 0, .int .i64 0] 26)
    have R : Hid (Bx 26 x11 x6.heap.size 0 (.int .i64 0)) := Lib.hid (by rw [hy13]; exact Bx.new _ _ _ _)
    rw [← hy13]
    clear hy13
    clear X0_0 X0_1 X0_l X1_0 X1_1 X1_l
    have X0 := Lib.hid (X0.out.step hb12)
    have X1 := Lib.hid (X1.out.step hb12)
    have HB := Lib.hid (bstep HB.out hb12)
    clear hb12
    have X0_0 := X0.out.cell0
    have X0_1 := X0.out.cell1
    have X0_l := X0.out.lt
    have X1_0 := X1.out.cell0
    have X1_1 := X1.out.cell1
    have X1_l := X1.out.lt
    have R_0 := R.out.cell0
    have R_1 := R.out.cell1
    have R_l := R.out.lt
    clear R_0 R_1 R_l
    have R : Hid (Bx 26 x11 (w.heap.size + 1 + 1) 0 (.int .i64 0)) := Lib.hid (by have h := R.out; rw [show x6.heap.size = w.heap.size + 1 + 1 by omega] at h; exact h)
    have R_0 := R.out.cell0
    have R_1 := R.out.cell1
    have R_l := R.out.lt
    refine (i_ok n e _).mono ?_
    rintro e x16 ⟨rfl, hb17⟩
    clear X0_0 X0_1 X0_l X1_0 X1_1 X1_l R_0 R_1 R_l
    have X0 := Lib.hid (X0.out.step hb17)
    have X1 := Lib.hid (X1.out.step hb17)
    have R := Lib.hid (R.out.step hb17)
    have HB := Lib.hid (bstep HB.out hb17)
    rw [Ha.out]
    clear hb17
    have X0_0 := X0.out.cell0
    have X0_1 := X0.out.cell1
    have X0_l := X0.out.lt
    have X1_0 := X1.out.cell0
    have X1_1 := X1.out.cell1
    have X1_l := X1.out.lt
    have R_0 := R.out.cell0
    have R_1 := R.out.cell1
    have R_l := R.out.lt
    have HS := Lib.hid ((R.out.set0 (0)).set1 (.int .i64 (0)))
    have z0 := HS.out.cell0
    have z1 := HS.out.cell1
    have HBS := Lib.hid ((HB.out.setCell (p := ⟨w.heap.size + 1 + 1, 0, none⟩) (by have := R_g; omega) (.int .i64 (0))).setCell (p := ⟨w.heap.size + 1 + 1, 1, none⟩) (by have := R_g; omega) (.int .i64 (0)))
    have R_f0 := R.out.frozen 0
    have R_f1 := R.out.frozen 1
    go_wp2_with fail
    refine bodyPost_ret (v := .tuple #[.agg #[.int .i64 (0), .int .i64 (0)], .bool false]) (by simp [results, Try.results28, go_sem, z0, z1]) rfl ?_
    exact ⟨by rw [show Dy.simR n e m k = none by rw [Dy.simR, if_neg (by simp [Ha.out])]]; rfl, HBS.out⟩
end Go.Proofs.Ytocjlhlohlkkmaa
