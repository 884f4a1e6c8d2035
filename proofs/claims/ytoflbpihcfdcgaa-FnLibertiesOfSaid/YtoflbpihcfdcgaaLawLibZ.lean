/-
  The law of liberties: for every drawn board and point, the liberties are the same for all stones of a group, and each is empty and has a neighbour in the group. For every code. No condition.
-/
import Derived.Test.YtoflbpihcfdcgaaLawKitF
import Derived.Test.YtoflbpihcfdcgaaRows
import Derived.Deep.RegionHeld3
import Derived.Deep.RegionWith
import Derived.Deep.DeepCutAuto
import Derived.WalkKit
import Derived.ProofKit
import Derived.OpenShut
import Derived.ShutString
import Derived.ChangeOld
import Derived.Below
namespace Go.Proofs.Ytoflbpihcfdcgaa.fnLibertiesOf
open Go.ChangeShapes Go.WideShapes Go.ChangeAt Go.RowKit
open Go.ChangeMaps (open_string shut_string)
set_option linter.unusedVariables false

theorem own : ownKnob Try.prog.godebug = none := by kernel_rfl
theorem laidOut : laidOutB Try.prog = true := by kernel_rfl


set_option maxRecDepth 100000 in
set_option maxHeartbeats 16000000 in
theorem walk (a0 : Option Addr) (len0 cap0 : Nat) (z0 : List Int) (w : World) (w0 : IsRow .u8 w a0 len0 cap0 z0) :
    Calls Try.prog 13 #[.slice a0 len0 cap0] w fun e w' => e = .returned (.bool true) ∧ Below w.heap.size w w' := by
  by_cases hl : 1048576 < len0
  · go_enter Try.func13, Try.ntmps13
    go_wp2_with fail
    go_ret
    exact ⟨rfl, Below.refl _ _⟩
  · have hl' : decide ((1048576 : Int) < (len0 : Int)) = false := by rw [decide_eq_false_iff_not]; omega
    go_enter Try.func13, Try.ntmps13
    go_wp2_with fail
    refine (d_lib w a0 len0 cap0 z0 w0).mono ?_
    rintro e y0 ⟨s, A, n, c, cs, p, rfl, hi, hn49, s0, s8, hp9, hb⟩
    have I0 := Lib.hid hi
    have HB := Lib.hid hb
    clear hi hb w0 hl'
    go_wp2_with fail
    obtain ⟨x1, hy3, hb2, z4, z5⟩ := new_box y0 (.cells #[.int .i64 s, .slice A n c] 25)
    have X3 : Hid (Bx 25 x1 y0.heap.size s (.slice A n c)) := Lib.hid (by rw [hy3]; exact Bx.new _ _ _ _)
    rw [← hy3]
    clear hy3
    have I0 := Lib.hid (I0.out.step hb2)
    have HB := Lib.hid (bstep HB.out hb2)
    clear hb2
    have X3_0 := X3.out.cell0
    have X3_1 := X3.out.cell1
    have X3_l := X3.out.lt
    obtain ⟨lr, hl9⟩ := GrpIs.make s n cs p I0.out.1
    have Hl := Lib.hid hl9
    obtain ⟨m, hm⟩ : ∃ m, lr.length = m := ⟨_, rfl⟩
    have Hm := Lib.hid hm
    have hm49 := hl9.few
    rw [hm] at hm49
    clear hl9 hm
    obtain ⟨ll, hl9⟩ := LibIs.make s n cs p I0.out.1
    have Hll := Lib.hid hl9
    obtain ⟨ml, hm⟩ : ∃ m, ll.length = m := ⟨_, rfl⟩
    have Hml := Lib.hid hm
    have hml49 := hl9.few
    rw [hm] at hml49
    clear hl9 hm
    go_wp2_with fail
    refine (i_LibW s p _ _ _ _ ml cs ll I0.out hn49 Hll Hml.out).mono ?_
    rintro e x6 ⟨A0, c0, rfl, ho8, hb7⟩
    clear X3_0 X3_1 X3_l
    have X3 := Lib.hid (X3.out.step hb7)
    have I0 := Lib.hid (I0.out.step hb7)
    have HB := Lib.hid (bstep HB.out hb7)
    have L1 := Lib.hid ho8.ints
    have lenL1 := ho8.1
    clear lenL1
    clear hb7 ho8
    have X3_0 := X3.out.cell0
    have X3_1 := X3.out.cell1
    have X3_l := X3.out.lt
    go_wp2_with fail
    refine (i_GroupW s p _ _ _ _ m cs lr I0.out hn49 Hl Hm.out).mono ?_
    rintro e x9 ⟨A1, c1, rfl, ho11, hb10⟩
    clear X3_0 X3_1 X3_l
    have X3 := Lib.hid (X3.out.step hb10)
    have I0 := Lib.hid (I0.out.step hb10)
    have L1 := Lib.hid (L1.out.step hb10)
    have HB := Lib.hid (bstep HB.out hb10)
    have G1 := Lib.hid ho11.ints
    have lenG1 := ho11.1
    clear lenG1
    clear hb10 ho11
    have X3_0 := X3.out.cell0
    have X3_1 := X3.out.cell1
    have X3_l := X3.out.lt
    go_wp2_with fail
    refine (s_LibW s p _ _ _ _ ml cs ll I0.out hn49 Hll Hml.out).mono ?_
    rintro e x12 ⟨A2, c2, rfl, ho14, hb13⟩
    clear X3_0 X3_1 X3_l
    have X3 := Lib.hid (X3.out.step hb13)
    have I0 := Lib.hid (I0.out.step hb13)
    have L1 := Lib.hid (L1.out.step hb13)
    have G1 := Lib.hid (G1.out.step hb13)
    have HB := Lib.hid (bstep HB.out hb13)
    have L2 := Lib.hid ho14.ints
    have lenL2 := ho14.1
    clear lenL2
    clear hb13 ho14
    have X3_0 := X3.out.cell0
    have X3_1 := X3.out.cell1
    have X3_l := X3.out.lt
    go_wp2_with fail
    refine (eqi_b _ _ _ _ _ _ ll L1.out L2.out (by omega)).mono ?_
    rintro e x15 ⟨rfl, hb16⟩
    clear X3_0 X3_1 X3_l
    have X3 := Lib.hid (X3.out.step hb16)
    have I0 := Lib.hid (I0.out.step hb16)
    have L1 := Lib.hid (L1.out.step hb16)
    have G1 := Lib.hid (G1.out.step hb16)
    have L2 := Lib.hid (L2.out.step hb16)
    have HB := Lib.hid (bstep HB.out hb16)
    clear hb16
    have X3_0 := X3.out.cell0
    have X3_1 := X3.out.cell1
    have X3_l := X3.out.lt
    by_cases hm0 : m = 0
    · have hmz : ((m : Int) == 0) = true := by rw [hm0]; rfl
      clear hm0
      go_wp2_with fail
      refine (s_LibW s p _ _ _ _ ml cs ll I0.out hn49 Hll Hml.out).mono ?_
      rintro e x718 ⟨A4, c4, rfl, ho720, hb719⟩
      clear X3_0 X3_1 X3_l
      have X3 := Lib.hid (X3.out.step hb719)
      have I0 := Lib.hid (I0.out.step hb719)
      have L1 := Lib.hid (L1.out.step hb719)
      have G1 := Lib.hid (G1.out.step hb719)
      have L2 := Lib.hid (L2.out.step hb719)
      have HB := Lib.hid (bstep HB.out hb719)
      have L4 := Lib.hid ho720.ints
      have lenL4 := ho720.1
      clear lenL4
      clear hb719 ho720
      have X3_0 := X3.out.cell0
      have X3_1 := X3.out.cell1
      have X3_l := X3.out.lt
      go_wp2_with fail
      refine (eqi_b _ _ _ _ _ _ ll L1.out L4.out (by omega)).mono ?_
      rintro e x721 ⟨rfl, hb722⟩
      clear X3_0 X3_1 X3_l
      have X3 := Lib.hid (X3.out.step hb722)
      have I0 := Lib.hid (I0.out.step hb722)
      have L1 := Lib.hid (L1.out.step hb722)
      have G1 := Lib.hid (G1.out.step hb722)
      have L2 := Lib.hid (L2.out.step hb722)
      have L4 := Lib.hid (L4.out.step hb722)
      have HB := Lib.hid (bstep HB.out hb722)
      clear hb722
      have X3_0 := X3.out.cell0
      have X3_1 := X3.out.cell1
      have X3_l := X3.out.lt
      go_wp2_with fail
      go_ret
      exact ⟨rfl, HB.out⟩
    · have hml9 : ml ≤ 1000000000 := by omega
      have hml8 : ml ≤ 1000000 := by omega
      have hmz : ((m : Int) == 0) = false := by simpa using hm0
      have hst1 : hst s cs p = true := by
        rcases Bool.eq_false_or_eq_true (hst s cs p) with e | e
        · exact e
        · exfalso; apply hm0; rw [← Hm.out, Hl.out.2 e]; rfl
      obtain ⟨a1, a2, a3⟩ := hst_iff hst1
      obtain ⟨s1, s7, hsn, _⟩ := (Bd.okB_iff s cs).1 a1
      obtain ⟨_, _, p1, p2⟩ := (Pt.okP_iff s p).1 a2
      have hlI := I0.out.1
      have Hcs := Lib.hid hlI
      have hns : (n : Int) = s * s := by rw [← hsn, hlI]
      have Hns := Lib.hid hns
      obtain ⟨pn, rfl⟩ := Int.eq_ofNat_of_zero_le p1
      have hpn : pn < n := by omega
      have hsq := Pt.sq_bd s s1 s7
      have Hr : Hid (Reached s n (hasCol (cs.getD pn 0) cs) (pn : Int) lr) := Lib.hid (by have := Hl.out.1 hst1; rw [Int.toNat_natCast] at this; exact this)
      have Hok := Lib.hid a1
      rw [Int.toNat_natCast] at a3
      have Hne := Lib.hid a3
      have hn0 : n ≠ 0 := by omega
      have Hasc := Lib.hid Hll.out.asc
      obtain ⟨x, hxn, x2, x3⟩ := Hr.out.nth s1 s7 Hns.out hpn (show m - 1 < lr.length by rw [Hm.out]; omega)
      obtain ⟨x4, x5⟩ := Hr.out.point s1 s7 Hns.out Hcs.out hpn hxn x3
      have hgx : GrpIs s n cs (x : Int) lr := ⟨fun _ => by rw [Int.toNat_natCast]; exact x5, fun h9 => by
        exfalso
        have : hst s cs (x : Int) = true := by
          unfold hst
          rw [Hok.out, (Pt.okP_iff s (x : Int)).2 ⟨s1, s7, by omega, by omega⟩, Int.toNat_natCast, x4]
          simpa using Hne.out
        rw [h9] at this; cases this⟩
      have Hlx : Hid (LibIs s n cs (x : Int) ll) := Lib.hid (Hll.out.move Hl.out hgx)
      have Hx2 := Lib.hid x2
      clear hst1 a1 a2 a3 hsn p2 hlI hns x2 x3 x4 x5 hgx
      obtain ⟨b1, o1, hA1, hbB1, hc⟩ : ∃ b o, A1 = some ⟨b, o, none⟩ ∧ b < x15.heap.size ∧ ∀ j, j < m → x15.cell? ⟨b, o + j, none⟩ = some (.int .i64 (lr.getD j 0)) := by
        rcases G1.out.2 with h0 | ⟨b, o, hA, hbB, hc⟩
        · exact absurd h0 hm0
        · exact ⟨b, o, hA, hbB, hc⟩
      have Hc1 := Lib.hid hc
      clear hc
      clear X3_0 X3_1 X3_l
      have G1 : Hid (Ints x15 x15.heap.size (some ⟨b1, o1, none⟩) m lr) := Lib.hid (by rw [← hA1]; exact G1.out)
      rw [hA1]
      have HA1 := Lib.hid hA1
      clear hA1
      have X3_0 := X3.out.cell0
      have X3_1 := X3.out.cell1
      have X3_l := X3.out.lt
      go_wp2_with fail
      clear X3_0 X3_1 X3_l
      go_loopw [7] (fun v wr => ∃ k : Nat, k ≤ ml ∧ v = .int .i64 (k : Nat) ∧ Below x15.heap.size x15 wr) (fun v _ => ml - (intOf v).toNat)
      case atStart => exact ⟨0, by omega, rfl, Below.refl _ _⟩
      case round =>
        obtain ⟨wo, rfl⟩ : ∃ wo : World, wo = wr := ⟨_, rfl⟩
        obtain ⟨k, hk, rfl, hbr⟩ := hrel
        have HL := Lib.hid hbr
        have X3 := Lib.hid (X3.out.step hbr)
        have I0 := Lib.hid (I0.out.step hbr)
        have G1 := Lib.hid (G1.out.step hbr)
        have L1 := Lib.hid (L1.out.step hbr)
        have HB := Lib.hid (bstep HB.out hbr)
        clear hbr
        have X3_0 := X3.out.cell0
        have X3_1 := X3.out.cell1
        have X3_l := X3.out.lt
        by_cases hkm : k < ml
        · obtain ⟨q, hqn, q2, q3, q4⟩ := Hll.out.nth Hl.out (show k < ll.length by rw [Hml.out]; exact hkm)
          have Hq3 := Lib.hid q3
          have Htouch := Lib.hid (touch s1 s7 Hns.out Hr.out.all q4)
          have hqs : (q : Int) < s * s := by have := Hns.out; omega
          have hq0 : (0 : Int) ≤ (q : Int) := by omega
          have hkI : (k : Int) < ml := by omega
          obtain ⟨b0, o0, hA0, hbB0, hc⟩ : ∃ b o, A0 = some ⟨b, o, none⟩ ∧ b < wo.heap.size ∧ ∀ j, j < ml → wo.cell? ⟨b, o + j, none⟩ = some (.int .i64 (ll.getD j 0)) := by
            rcases L1.out.2 with h0 | ⟨b, o, hA, hbB, hc⟩
            · omega
            · exact ⟨b, o, hA, hbB, hc⟩
          have Hc0 := Lib.hid hc
          clear hc
          have ckg0 := Hc0.out k hkm
          rw [q2] at ckg0
          have Hcg : Hid (∀ w9, Below wo.heap.size wo w9 → w9.cell? ⟨b0, o0 + k, none⟩ = some (.int .i64 (q : Int))) := Lib.hid (fun w9 hb9 => (hb9.cell (p := ⟨b0, o0 + k, none⟩) hbB0).trans ckg0)
          rw [hA0]
          have HA0 := Lib.hid hA0
          clear q2 q3 q4 ckg0 hA0
          go_upto_region 12 with (fail)
          have HC := Lib.hid (Below.refl wo.heap.size wo)
          go_cut [9] (fun v wx => ∃ A7 n7 c7, v = .slice A7 n7 c7 ∧ Ints wx wx.heap.size A7 n7 (Pt.nbs s (q : Int)) ∧ Below wo.heap.size wo wx)
          case first =>
            have ckg := Hcg.out _ HC.out
            go_region_held3 (fun w' => w'.cell? ⟨y0.heap.size, 0, none⟩ = some (.int .i64 s) ∧ w'.cell? ⟨b0, o0 + k, none⟩ = some (.int .i64 (q : Int))) (first | exact ⟨X3_0, ckg⟩ | go_keep) ((go_at_call 48; refine (i_nbs s (q : Int) _ s1 s7 hq0 hqs).mono ?_; rintro e9 yc ⟨A7, n7, c7, rfl, ho9, hb9⟩; (try replace hb9 := undrew hb9); have HC := Lib.hid (bstep HC.out hb9); have X3 := Lib.hid (X3.out.step hb9); have X3_0 := X3.out.cell0; have ckg := Hcg.out _ HC.out; have R7 := Lib.hid ho9.ints; clear ho9 hb9))
            all_goals go_wp2_with fail
            all_goals go_meet
            all_goals exact ⟨_, _, _, rfl, R7.out, HC.out⟩
          case rest =>
            clear HC
            obtain ⟨A7, n7, c7, rfl, hi7, hb776⟩ := hcut
            have R7 := Lib.hid hi7
            have Hn7 := Lib.hid hi7.1
            have hn7 : n7 ≤ 4 := by have := hi7.1; have := nbs_few s (q : Int); omega
            have HK := Lib.hid hb776
            clear X3_0 X3_1 X3_l
            have X3 := Lib.hid (X3.out.step hb776)
            have I0 := Lib.hid (I0.out.step hb776)
            have G1 := Lib.hid (G1.out.step hb776)
            have L1 := Lib.hid (L1.out.step hb776)
            have HB := Lib.hid (bstep HB.out hb776)
            clear hi7 hb776
            have X3_0 := X3.out.cell0
            have X3_1 := X3.out.cell1
            have X3_l := X3.out.lt
            go_wp2_with fail
            clear X3_0 X3_1 X3_l
            go_loopw [8, 10] (fun u v wi => ∃ (j : Nat) (bb : Bool), j ≤ n7 ∧ v = .int .i64 (j : Nat) ∧ u = .bool bb ∧ (bb = true ↔ ∃ i, i < j ∧ (Pt.nbs s (q : Int)).getD i 0 ∈ lr) ∧ Below wc.heap.size wc wi) (fun _ v _ => n7 - (intOf v).toNat)
            case atStart => exact ⟨0, false, by omega, rfl, rfl, by simp, Below.refl _ _⟩
            case round =>
              obtain ⟨wq, rfl⟩ : ∃ wq : World, wq = wr := ⟨_, rfl⟩
              obtain ⟨j, bb, hj, rfl, rfl, hbb, hb777⟩ := hrel
              have Hbb := Lib.hid hbb
              have HJ := Lib.hid hb777
              have HK := Lib.hid (HK.out.trans (hb777.mono HK.out.size))
              have HL := Lib.hid (HL.out.trans (HK.out.mono HL.out.size))
              have X3 := Lib.hid (X3.out.step hb777)
              have I0 := Lib.hid (I0.out.step hb777)
              have G1 := Lib.hid (G1.out.step hb777)
              have L1 := Lib.hid (L1.out.step hb777)
              have R7 := Lib.hid (R7.out.step hb777)
              have HB := Lib.hid (bstep HB.out hb777)
              clear hb777 hbb
              have X3_0 := X3.out.cell0
              have X3_1 := X3.out.cell1
              have X3_l := X3.out.lt
              by_cases hjn : j < n7
              · obtain ⟨b7, o7, hA7, hbB7, hc⟩ : ∃ b o, A7 = some ⟨b, o, none⟩ ∧ b < wq.heap.size ∧ ∀ j, j < n7 → wq.cell? ⟨b, o + j, none⟩ = some (.int .i64 ((Pt.nbs s (q : Int)).getD j 0)) := by
                  rcases R7.out.2 with h0 | ⟨b, o, hA, hbB, hc⟩
                  · omega
                  · exact ⟨b, o, hA, hbB, hc⟩
                have Hc7 := Lib.hid hc
                clear hc
                have hjI : (j : Int) < n7 := by omega
                have ck7 := Hc7.out j hjn
                obtain ⟨y, hy⟩ : ∃ y, (Pt.nbs s (q : Int)).getD j 0 = y := ⟨_, rfl⟩
                rw [hy] at ck7
                have Hy := Lib.hid hy
                rw [hA7]
                have HA7 := Lib.hid hA7
                clear hy hA7
                cases bb
                · go_wp2_with fail
                  refine (l_isIn _ _ _ _ lr y G1.out (by omega)).mono ?_
                  rintro e9 w9 ⟨b9, rfl, hb9, rfl⟩
                  have Hst : Hid (b9 = true ↔ ∃ i, i < j + 1 ∧ (Pt.nbs s (q : Int)).getD i 0 ∈ lr) := Lib.hid (sofar_step (by rw [Hy.out]; exact hb9) (fun h => absurd (Hbb.out.2 h) (by decide)))
                  clear hb9
                  go_wp2_with fail
                  go_roundw
                  case rel => exact ⟨j + 1, b9, by omega, by go_num, rfl, Hst.out, HJ.out⟩
                  case measure => simp [intOf]; omega
                · have Hst : Hid (true = true ↔ ∃ i, i < j + 1 ∧ (Pt.nbs s (q : Int)).getD i 0 ∈ lr) := Lib.hid ⟨fun _ => by obtain ⟨i, hi, e⟩ := Hbb.out.1 rfl; exact ⟨i, by omega, e⟩, fun _ => rfl⟩
                  go_wp2_with fail
                  go_roundw
                  case rel => exact ⟨j + 1, true, by omega, by go_num, rfl, Hst.out, HJ.out⟩
                  case measure => simp [intOf]; omega
              · have hbt : bb = true := Hbb.out.2 (by obtain ⟨i, hi, e⟩ := Htouch.out; exact ⟨i, by have := Hn7.out; omega, e⟩)
                subst hbt
                have Hcq : Hid (∀ w9, Below wq.heap.size wq w9 → w9.cell? ⟨b0, o0 + k, none⟩ = some (.int .i64 (q : Int))) := Lib.hid (fun w9 hb9 => Hcg.out w9 (HK.out.trans (hb9.mono HK.out.size)))
                go_wp2_with fail
                have HC := Lib.hid (Below.refl wq.heap.size wq)
                go_cut [79] (fun v wx => v = .bool false ∧ Below wq.heap.size wq wx)
                case first =>
                  have ckq := Hcq.out _ HC.out
                  go_region_held3 (fun w' => w'.cell? ⟨y0.heap.size, 0, none⟩ = some (.int .i64 s) ∧ w'.cell? ⟨y0.heap.size, 1, none⟩ = some (.slice A n c) ∧ w'.cell? ⟨b0, o0 + k, none⟩ = some (.int .i64 (q : Int))) (first | exact ⟨X3_0, X3_1, ckq⟩ | go_keep) (first | (go_at_call 20; refine (l_colorAt s _ _ _ _ cs q 0 (by first | with_reducible exact I0.out | with_reducible exact I0.out.dr) hqn Hq3.out).mono ?_; rintro e yc ⟨rfl, hb9⟩; (try replace hb9 := undrew hb9); (try (have X3 := Lib.hid (X3.out.step hb9))); (try (have I0 := Lib.hid (I0.out.step hb9))); (try (have G1 := Lib.hid (G1.out.step hb9))); (try (have L1 := Lib.hid (L1.out.step hb9))); (try (have R7 := Lib.hid (R7.out.step hb9))); have HC := Lib.hid (bstep HC.out hb9); have X3_0 := X3.out.cell0; have X3_1 := X3.out.cell1; have X3_l := X3.out.lt; have ckq := Hcq.out _ HC.out; clear hb9))
                  all_goals go_wp2_with fail
                  all_goals go_meet
                  all_goals exact ⟨rfl, HC.out⟩
                case rest =>
                  clear HC
                  obtain ⟨rfl, hb368⟩ := hcut
                  clear X3_0 X3_1 X3_l
                  have X3 := Lib.hid (X3.out.step hb368)
                  have I0 := Lib.hid (I0.out.step hb368)
                  have G1 := Lib.hid (G1.out.step hb368)
                  have L1 := Lib.hid (L1.out.step hb368)
                  have R7 := Lib.hid (R7.out.step hb368)
                  have HB := Lib.hid (bstep HB.out hb368)
                  have HL := Lib.hid (bstep HL.out hb368)
                  clear hb368
                  have X3_0 := X3.out.cell0
                  have X3_1 := X3.out.cell1
                  have X3_l := X3.out.lt
                  go_wp2_with fail
                  go_roundw
                  case rel => exact ⟨k + 1, by omega, by go_num, HL.out⟩
                  case measure => simp [intOf]; omega
        · have hwm : IntKind.i64.wrap ((m : Int) - 1) = ((m - 1 : Nat) : Int) := by
            rw [show ((m : Int) - 1) = ((m - 1 : Nat) : Int) by omega]
            exact IntWalk.i64_in ((m - 1 : Nat) : Int) (by omega)
          have hm1 : ((m - 1 : Nat) : Int) < m := by omega
          obtain ⟨m1, hm1e⟩ : ∃ m1, m - 1 = m1 := ⟨_, rfl⟩
          rw [hm1e] at hwm hm1
          have Hcx : Hid (∀ w9, Below wo.heap.size wo w9 → w9.cell? ⟨b1, o1 + m1, none⟩ = some (.int .i64 (x : Int))) := Lib.hid (fun w9 hb9 => by
            rw [← Hx2.out, ← hm1e]; exact (hb9.cell (p := ⟨b1, o1 + (m - 1), none⟩) (by show b1 < _; have := HL.out.size; omega)).trans ((HL.out.cell (p := ⟨b1, o1 + (m - 1), none⟩) hbB1).trans (Hc1.out (m - 1) (by omega))))
          clear hm1e
          go_wp2_with fail
          have HC := Lib.hid (Below.refl wo.heap.size wo)
          go_cut [2] (fun v wx => v = .bool true ∧ Below wo.heap.size wo wx)
          case first =>
            have ckx := Hcx.out _ HC.out
            go_region_held3 (fun w' => w'.cell? ⟨y0.heap.size, 0, none⟩ = some (.int .i64 s) ∧ w'.cell? ⟨y0.heap.size, 1, none⟩ = some (.slice A n c) ∧ w'.cell? ⟨b1, o1 + m1, none⟩ = some (.int .i64 (x : Int))) (first | exact ⟨X3_0, X3_1, ckx⟩ | go_keep) (first | (go_at_call 38; refine (i_LibW s (x : Int) _ _ _ _ ml cs ll (by first | with_reducible exact I0.out | with_reducible exact I0.out.dr) hn49 Hlx Hml.out).mono ?_; rintro e yc ⟨A5, c5, rfl, ho9, hb9⟩; (try replace hb9 := undrew hb9); (try (have X3 := Lib.hid (X3.out.step hb9))); (try (have I0 := Lib.hid (I0.out.step hb9))); (try (have G1 := Lib.hid (G1.out.step hb9))); (try (have L1 := Lib.hid (L1.out.step hb9))); (try (have R5 := Lib.hid (R5.out.step hb9))); have HC := Lib.hid (bstep HC.out hb9); have X3_0 := X3.out.cell0; have X3_1 := X3.out.cell1; have X3_l := X3.out.lt; have ckx := Hcx.out _ HC.out; have R5 := Lib.hid ho9.ints; clear hb9 ho9) | (go_at_call 47; refine (eqi_b _ _ _ _ _ _ ll (by first | with_reducible exact R5.out | with_reducible exact R5.out.dr) (by first | with_reducible exact L1.out | with_reducible exact L1.out.dr) hml9).mono ?_; rintro e yc ⟨rfl, hb9⟩; (try replace hb9 := undrew hb9); (try (have X3 := Lib.hid (X3.out.step hb9))); (try (have I0 := Lib.hid (I0.out.step hb9))); (try (have G1 := Lib.hid (G1.out.step hb9))); (try (have L1 := Lib.hid (L1.out.step hb9))); (try (have R5 := Lib.hid (R5.out.step hb9))); have HC := Lib.hid (bstep HC.out hb9); have X3_0 := X3.out.cell0; have X3_1 := X3.out.cell1; have X3_l := X3.out.lt; have ckx := Hcx.out _ HC.out; clear hb9) | (go_at_call 50; refine (l_ascends _ _ _ _ ll (by first | with_reducible exact L1.out | with_reducible exact L1.out.dr) hml8 Hasc.out).mono ?_; rintro e yc ⟨rfl, hb9⟩; (try replace hb9 := undrew hb9); (try (have X3 := Lib.hid (X3.out.step hb9))); (try (have I0 := Lib.hid (I0.out.step hb9))); (try (have G1 := Lib.hid (G1.out.step hb9))); (try (have L1 := Lib.hid (L1.out.step hb9))); (try (have R5 := Lib.hid (R5.out.step hb9))); have HC := Lib.hid (bstep HC.out hb9); have X3_0 := X3.out.cell0; have X3_1 := X3.out.cell1; have X3_l := X3.out.lt; have ckx := Hcx.out _ HC.out; clear hb9))
            all_goals go_wp2_with fail
            all_goals go_meet
            all_goals exact ⟨rfl, HC.out⟩
          case rest =>
            clear HC
            obtain ⟨rfl, hb368⟩ := hcut
            clear X3_0 X3_1 X3_l
            have X3 := Lib.hid (X3.out.step hb368)
            have I0 := Lib.hid (I0.out.step hb368)
            have G1 := Lib.hid (G1.out.step hb368)
            have L1 := Lib.hid (L1.out.step hb368)
            have HB := Lib.hid (bstep HB.out hb368)
            clear hb368
            have X3_0 := X3.out.cell0
            have X3_1 := X3.out.cell1
            have X3_l := X3.out.lt
            go_wp2_with fail
            go_ret
            exact ⟨rfl, HB.out⟩


set_option maxRecDepth 100000 in
theorem lifted (os : Os) (started : os.Started) (H : Type) (enc : TypeId × Value → H) :
    ReturnsInHanded {} Try.checked os 13 .any (Rows.fnLibertiesOfSpec.pre6 enc Try.prog Try.f13 Rows.fnLibertiesOfRow.domain false) (Rows.fnLibertiesOfSpec.post enc Try.prog Try.f13 false true false false) := by
  refine returnsInHanded_of_change (C := Try.checked) own started (by kernel_rfl) Try.func13
    (ChangeSpec.witness6 (enc := enc) (C := Try.checked) false ⟨#[], #[.slice none 0 0], []⟩ 8 (by kernel_rfl) (by kernel_rfl) (by kernel_rfl) (by kernel_rfl)) ?_
  intro W base args ds gs before hval0 hW hcnd _
  have hval : ∀ (j : Nat) t v, Try.f13.params[j]? = some t → args[j]? = some v → Value.okWide Try.prog W .any base t v := hval0
  have hW' := hW
  obtain ⟨p, q, hA0, hV, rfl, hfz, hnd⟩ := hW
  have hA : DataW.TrodAll enc Try.prog W 0 (fun _ => true) true Try.f13.params.toList args.toList ds p := hA0
  rw [Try.params13] at hA hval
  obtain ⟨v0, vs0, d0, ds0, p0, q0, hargs, rfl, rfl, h0, r0⟩ := trodAll_cons hA
  obtain ⟨rfl, rfl, rfl⟩ := trodAll_nil r0
  obtain rfl : args = #[v0] := by cases args; simp_all
  obtain ⟨rfl, rfl⟩ := trodVars_none hV
  obtain ⟨a0, len0, cap0, rfl⟩ := okWide_slice Try.underlying22 (hval 0 22 v0 rfl rfl)
  have k0 := h0
  have lt0 : ∀ x ∈ p0, x.block < W.heap.size := by obtain ⟨m, hm⟩ := k0; exact DataW.trod_lt m _ _ _ hm
  obtain ⟨z0, w0⟩ : ∃ zs, IsRow .u8 W a0 len0 cap0 zs := by
    obtain ⟨fuel, hf⟩ := h0
    rcases open_ints Try.underlying22 Try.underlying5 (by kernel_rfl) hf with ⟨hcs, _⟩ | ⟨x, l, c, zs, hcs, _, hl, hm, hz, _, hcell, hwz⟩
    · simp [Value.cells] at hcs
      obtain ⟨rfl, rfl, rfl⟩ := hcs
      exact ⟨[], .inl ⟨rfl, rfl, rfl, rfl⟩⟩
    · simp [Value.cells] at hcs
      obtain ⟨rfl, rfl, rfl⟩ := hcs
      exact ⟨zs, .inr ⟨_, rfl, hl, hm, by simpa using hz, hcell, hwz⟩⟩
  clear hA0 hval0
  refine (walk a0 len0 cap0 z0 W w0).mono fun e W' ⟨he, bel⟩ => ?_
  subst he
  exact ⟨_, rfl, _, _, _, [], _, [], hW', trodAll_mk1 (shut_bool Try.underlying4 _), (trodAll_cons_mk (Below.trod laidOut (by kernel_rfl) (of_decide_eq_true (by kernel_rfl)) k0 bel lt0) trodAll_mk0), rfl, bel.frame _, fun h => by cases h⟩

theorem over : Rows.fnLibertiesOfRow.holds Try.pinned (OpenSpec.ofChange Rows.fnLibertiesOfSpec) :=
  OpenClaim.holds_of_wide 13 Try.f13 rfl rfl rfl rfl rfl rfl rfl ⟨rfl, rfl, rfl, rfl, rfl⟩ rfl rfl rfl rfl rfl (by kernel_rfl) Try.func13 (by kernel_rfl)
    (of_decide_eq_true (by kernel_rfl)) (by unfold Func.isWrapper; first | (rw [if_pos (by decide +kernel)]; kernel_rfl) | (rw [if_neg (by decide +kernel)]; exact ⟨rfl, rfl⟩))
    (fun os started H enc _ => lifted os started H enc)

theorem proved : Rows.FnLibertiesOfSaid := over
end Go.Proofs.Ytoflbpihcfdcgaa.fnLibertiesOf
