/-
  The law of groups: for every drawn board and point, GroupOf of each stone of a group is the group, its stones have one color, and no neighbour of that color is missing. For every code. No condition.
-/
import Derived.Test.YtpopbcmfbcmojaaLawGrpKit
import Derived.Test.YtpopbcmfbcmojaaRows
import Derived.Deep.RegionHeld3
import Derived.Deep.RegionWith
import Derived.Deep.DeepCutAuto
import Derived.WalkKit
import Derived.ProofKit
import Derived.OpenShut
import Derived.ShutString
import Derived.ChangeOld
import Derived.Below
namespace Go.Proofs.Ytpopbcmfbcmojaa.fnGroupOf
set_option maxRecDepth 100000
open Go.ChangeShapes Go.WideShapes Go.ChangeAt Go.RowKit
open Go.ChangeMaps (open_string shut_string)
set_option linter.unusedVariables false

theorem own : ownKnob Try.prog.godebug = none := by kernel_rfl
theorem laidOut : laidOutB Try.prog = true := by kernel_rfl


set_option maxRecDepth 100000 in
set_option maxHeartbeats 16000000 in
theorem walk (a0 : Option Addr) (len0 cap0 : Nat) (z0 : List Int) (w : World) (w0 : IsRow .u8 w a0 len0 cap0 z0) :
    Calls Try.prog 9 #[.slice a0 len0 cap0] w fun e w' => e = .returned (.bool true) ∧ Below w.heap.size w w' := by
  by_cases hl : 1048576 < len0
  · go_enter Try.func9, Try.ntmps9
    go_wp2_with fail
    go_ret
    exact ⟨rfl, Below.refl _ _⟩
  · have hl' : decide ((1048576 : Int) < (len0 : Int)) = false := by rw [decide_eq_false_iff_not]; omega
    go_enter Try.func9, Try.ntmps9
    go_wp2_with fail
    refine (d_grp w a0 len0 cap0 z0 w0).mono ?_
    rintro e y0 ⟨s, A, n, c, cs, p, rfl, hi, hn49, s0, s8, hp9, hb⟩
    have I0 := Lib.hid hi
    have HB := Lib.hid hb
    clear hi hb w0 hl'
    go_wp2_with fail
    obtain ⟨x1, hy3, hb2, z4, z5⟩ := new_box y0 (.cells #[.int .i64 s, .slice A n c] 25)
    have X3 : Hid (Bx 25 x1 y0.heap.size s (.slice A n c)) := Lib.hid (by rw [hy3]; exact Bx.new _ _ _ _)
    rw [← hy3]
    clear hy3
    have I0 := Lib.hid (I0.out.step hb2)
    have HB := Lib.hid (bstep HB.out hb2)
    clear hb2
    have X3_0 := X3.out.cell0
    have X3_1 := X3.out.cell1
    have X3_l := X3.out.lt
    obtain ⟨lr, hl9⟩ := GrpIs.make s n cs p I0.out.1
    have Hl := Lib.hid hl9
    obtain ⟨m, hm⟩ : ∃ m, lr.length = m := ⟨_, rfl⟩
    have Hm := Lib.hid hm
    have hm49 := hl9.few
    rw [hm] at hm49
    clear hl9 hm
    go_wp2_with fail
    refine (i_GroupW s p _ _ _ _ m cs lr I0.out hn49 Hl Hm.out).mono ?_
    rintro e x6 ⟨A1, c1, rfl, ho8, hb7⟩
    clear X3_0 X3_1 X3_l
    have X3 := Lib.hid (X3.out.step hb7)
    have I0 := Lib.hid (I0.out.step hb7)
    have HB := Lib.hid (bstep HB.out hb7)
    have G1 := Lib.hid ho8.ints
    have lenG1 := ho8.1
    clear lenG1
    clear hb7 ho8
    have X3_0 := X3.out.cell0
    have X3_1 := X3.out.cell1
    have X3_l := X3.out.lt
    go_wp2_with fail
    refine (s_GroupW s p _ _ _ _ m cs lr I0.out hn49 Hl Hm.out).mono ?_
    rintro e x9 ⟨A2, c2, rfl, ho11, hb10⟩
    clear X3_0 X3_1 X3_l
    have X3 := Lib.hid (X3.out.step hb10)
    have I0 := Lib.hid (I0.out.step hb10)
    have G1 := Lib.hid (G1.out.step hb10)
    have HB := Lib.hid (bstep HB.out hb10)
    have G2 := Lib.hid ho11.ints
    have lenG2 := ho11.1
    clear lenG2
    clear hb10 ho11
    have X3_0 := X3.out.cell0
    have X3_1 := X3.out.cell1
    have X3_l := X3.out.lt
    go_wp2_with fail
    refine (eqi_b _ _ _ _ _ _ lr G1.out G2.out (by omega)).mono ?_
    rintro e x12 ⟨rfl, hb13⟩
    clear X3_0 X3_1 X3_l
    have X3 := Lib.hid (X3.out.step hb13)
    have I0 := Lib.hid (I0.out.step hb13)
    have G1 := Lib.hid (G1.out.step hb13)
    have G2 := Lib.hid (G2.out.step hb13)
    have HB := Lib.hid (bstep HB.out hb13)
    clear hb13
    have X3_0 := X3.out.cell0
    have X3_1 := X3.out.cell1
    have X3_l := X3.out.lt
    by_cases hm0 : m = 0
    · have hmz : ((m : Int) == 0) = true := by rw [hm0]; rfl
      clear hm0
      go_wp2_with fail
      refine (s_GroupW s p _ _ _ _ m cs lr I0.out hn49 Hl Hm.out).mono ?_
      rintro e x715 ⟨A4, c4, rfl, ho717, hb716⟩
      clear X3_0 X3_1 X3_l
      have X3 := Lib.hid (X3.out.step hb716)
      have I0 := Lib.hid (I0.out.step hb716)
      have G1 := Lib.hid (G1.out.step hb716)
      have G2 := Lib.hid (G2.out.step hb716)
      have HB := Lib.hid (bstep HB.out hb716)
      have G4 := Lib.hid ho717.ints
      have lenG4 := ho717.1
      clear lenG4
      clear hb716 ho717
      have X3_0 := X3.out.cell0
      have X3_1 := X3.out.cell1
      have X3_l := X3.out.lt
      go_wp2_with fail
      refine (eqi_b _ _ _ _ _ _ lr G1.out G4.out (by omega)).mono ?_
      rintro e x718 ⟨rfl, hb719⟩
      clear X3_0 X3_1 X3_l
      have X3 := Lib.hid (X3.out.step hb719)
      have I0 := Lib.hid (I0.out.step hb719)
      have G1 := Lib.hid (G1.out.step hb719)
      have G2 := Lib.hid (G2.out.step hb719)
      have G4 := Lib.hid (G4.out.step hb719)
      have HB := Lib.hid (bstep HB.out hb719)
      clear hb719
      have X3_0 := X3.out.cell0
      have X3_1 := X3.out.cell1
      have X3_l := X3.out.lt
      go_wp2_with fail
      go_ret
      exact ⟨rfl, HB.out⟩
    · have hmz : ((m : Int) == 0) = false := by simpa using hm0
      have hst1 : hst s cs p = true := by
        rcases Bool.eq_false_or_eq_true (hst s cs p) with e | e
        · exact e
        · exfalso; apply hm0; rw [← Hm.out, Hl.out.2 e]; rfl
      obtain ⟨a1, a2, a3⟩ := hst_iff hst1
      obtain ⟨s1, s7, hsn, _⟩ := (Bd.okB_iff s cs).1 a1
      obtain ⟨_, _, p1, p2⟩ := (Pt.okP_iff s p).1 a2
      have hlI := I0.out.1
      have Hcs := Lib.hid hlI
      have hns : (n : Int) = s * s := by rw [← hsn, hlI]
      have Hns := Lib.hid hns
      obtain ⟨pn, rfl⟩ := Int.eq_ofNat_of_zero_le p1
      have hpn : pn < n := by omega
      have hpI : (pn : Int) < n := by omega
      have hsq := Pt.sq_bd s s1 s7
      have Hr : Hid (Reached s n (hasCol (cs.getD pn 0) cs) (pn : Int) lr) := Lib.hid (by have := Hl.out.1 hst1; rw [Int.toNat_natCast] at this; exact this)
      have Hok := Lib.hid a1
      have Hcol : Hid (∀ k, k < n → 0 ≤ cs.getD k 0 ∧ cs.getD k 0 ≤ 2) := Lib.hid (fun k hk => ((Bd.okB_iff s cs).1 a1).2.2.2 _ (by rw [List.getD_eq_getElem?_getD, List.getElem?_eq_getElem (by omega)]; exact List.getElem_mem _))
      rw [Int.toNat_natCast] at a3
      have Hne := Lib.hid a3
      obtain ⟨e, he⟩ : ∃ e, cs.getD pn 0 = e := ⟨_, rfl⟩
      have He := Lib.hid he
      have hn0 : n ≠ 0 := by omega
      clear hst1 a1 a2 a3 hsn p2 hlI hns he
      obtain ⟨b, o, hA, hbB, hc⟩ : ∃ b o, A = some ⟨b, o, none⟩ ∧ b < x12.heap.size ∧ ∀ j, j < n → x12.cell? ⟨b, o + j, none⟩ = some (.int .i64 (cs.getD j 0)) := by
        rcases I0.out.2 with h0 | ⟨b, o, hA, hbB, hc⟩
        · exact absurd h0 hn0
        · exact ⟨b, o, hA, hbB, hc⟩
      have Hc := Lib.hid hc
      clear hc
      obtain ⟨b1, o1, hA1, hbB1, hc⟩ : ∃ b o, A1 = some ⟨b, o, none⟩ ∧ b < x12.heap.size ∧ ∀ j, j < m → x12.cell? ⟨b, o + j, none⟩ = some (.int .i64 (lr.getD j 0)) := by
        rcases G1.out.2 with h0 | ⟨b, o, hA, hbB, hc⟩
        · exact absurd h0 hm0
        · exact ⟨b, o, hA, hbB, hc⟩
      have Hc1 := Lib.hid hc
      clear hc
      clear X3_0 X3_1 X3_l
      have X3 : Hid (Bx 25 x12 y0.heap.size s (.slice (some ⟨b, o, none⟩) n c)) := Lib.hid (by rw [← hA]; exact X3.out)
      have I0 : Hid (Ints x12 x12.heap.size (some ⟨b, o, none⟩) n cs) := Lib.hid (by rw [← hA]; exact I0.out)
      have G1 : Hid (Ints x12 x12.heap.size (some ⟨b1, o1, none⟩) m lr) := Lib.hid (by rw [← hA1]; exact G1.out)
      rw [hA, hA1]
      have HA := Lib.hid hA
      have HA1 := Lib.hid hA1
      clear hA hA1
      have Hcp : Hid (∀ w9, Below x12.heap.size x12 w9 → w9.cell? ⟨b, o + pn, none⟩ = some (.int .i64 e)) := Lib.hid (fun w9 hb9 => by rw [← He.out]; exact (hb9.cell (p := ⟨b, o + pn, none⟩) hbB).trans (Hc.out pn hpn))
      have X3_0 := X3.out.cell0
      have X3_1 := X3.out.cell1
      have X3_l := X3.out.lt
      go_wp2_with fail
      clear X3_0 X3_1 X3_l
      go_loopw [6] (fun v wr => ∃ k : Nat, k ≤ m ∧ v = .int .i64 (k : Nat) ∧ Below x12.heap.size x12 wr) (fun v _ => m - (intOf v).toNat)
      case atStart => exact ⟨0, by omega, rfl, Below.refl _ _⟩
      case round =>
        obtain ⟨k, hk, rfl, hbr⟩ := hrel
        have HL := Lib.hid hbr
        have X3 := Lib.hid (X3.out.step hbr)
        have I0 := Lib.hid (I0.out.step hbr)
        have G1 := Lib.hid (G1.out.step hbr)
        have HB := Lib.hid (bstep HB.out hbr)
        clear hbr
        have X3_0 := X3.out.cell0
        have X3_1 := X3.out.cell1
        have X3_l := X3.out.lt
        by_cases hkm : k < m
        · obtain ⟨q, hqn, q2, q3⟩ := Hr.out.nth s1 s7 Hns.out hpn (by rw [Hm.out]; exact hkm)
          obtain ⟨q4, q5⟩ := Hr.out.point s1 s7 Hns.out Hcs.out hpn hqn q3
          have Hq3 := Lib.hid q3
          have Hqe : Hid (cs.getD q 0 = e) := Lib.hid (q4.trans He.out)
          have Hq : Hid (GrpIs s n cs (q : Int) lr) := Lib.hid ⟨fun _ => by rw [Int.toNat_natCast]; exact q5, fun h9 => by
            exfalso
            have : hst s cs (q : Int) = true := by
              unfold hst
              rw [Hok.out, (Pt.okP_iff s (q : Int)).2 ⟨s1, s7, by omega, by have := Hns.out; omega⟩, Int.toNat_natCast, q4]
              simpa using Hne.out
            rw [h9] at this; cases this⟩
          have hqI : (q : Int) < n := by omega
          have hqs : (q : Int) < s * s := by have := Hns.out; omega
          have hq0 : (0 : Int) ≤ (q : Int) := by omega
          have hkI : (k : Int) < m := by omega
          have Hcg : Hid (∀ w9, Below wr.heap.size wr w9 → w9.cell? ⟨b1, o1 + k, none⟩ = some (.int .i64 (q : Int))) := Lib.hid (fun w9 hb9 => by rw [← q2]; exact (hb9.cell (p := ⟨b1, o1 + k, none⟩) (by show b1 < _; have := HL.out.size; omega)).trans ((HL.out.cell (p := ⟨b1, o1 + k, none⟩) hbB1).trans (Hc1.out k hkm)))
          clear q2 q3 q4 q5
          go_wp2_with fail
          have HC := Lib.hid (Below.refl wr.heap.size wr)
          go_cut [64] (fun v wx => v = .bool false ∧ Below wr.heap.size wr wx)
          case first =>
            have ckp := Hcp.out _ (HL.out.trans (HC.out.mono HL.out.size))
            have ckg := Hcg.out _ HC.out
            go_region_held3 (fun w' => w'.cell? ⟨y0.heap.size, 0, none⟩ = some (.int .i64 s) ∧ w'.cell? ⟨y0.heap.size, 1, none⟩ = some (.slice (some ⟨b, o, none⟩) n c) ∧ w'.cell? ⟨b, o + pn, none⟩ = some (.int .i64 e) ∧ w'.cell? ⟨b1, o1 + k, none⟩ = some (.int .i64 (q : Int))) (first | exact ⟨X3_0, X3_1, ckp, ckg⟩ | go_keep) (first | (go_at_call 41; refine (l_colorAt s _ _ _ _ cs q e (by first | with_reducible exact I0.out | with_reducible exact I0.out.dr) hqn Hqe.out).mono ?_; rintro e yc ⟨rfl, hb9⟩; (try replace hb9 := undrew hb9); (try (have X3 := Lib.hid (X3.out.step hb9))); (try (have I0 := Lib.hid (I0.out.step hb9))); (try (have G1 := Lib.hid (G1.out.step hb9))); (try (have R5 := Lib.hid (R5.out.step hb9))); have HC := Lib.hid (bstep HC.out hb9); have X3_0 := X3.out.cell0; have X3_1 := X3.out.cell1; have X3_l := X3.out.lt; have ckp := Hcp.out _ (HL.out.trans (HC.out.mono HL.out.size)); have ckg := Hcg.out _ HC.out; clear hb9) | (go_at_call 39; refine (i_GroupW s (q : Int) _ _ _ _ m cs lr (by first | with_reducible exact I0.out | with_reducible exact I0.out.dr) hn49 Hq Hm.out).mono ?_; rintro e yc ⟨A5, c5, rfl, ho9, hb9⟩; (try replace hb9 := undrew hb9); (try (have X3 := Lib.hid (X3.out.step hb9))); (try (have I0 := Lib.hid (I0.out.step hb9))); (try (have G1 := Lib.hid (G1.out.step hb9))); (try (have R5 := Lib.hid (R5.out.step hb9))); have HC := Lib.hid (bstep HC.out hb9); have X3_0 := X3.out.cell0; have X3_1 := X3.out.cell1; have X3_l := X3.out.lt; have ckp := Hcp.out _ (HL.out.trans (HC.out.mono HL.out.size)); have ckg := Hcg.out _ HC.out; have R5 := Lib.hid ho9.ints; clear hb9 ho9) | (go_at_call 23; refine (eqi_b _ _ _ _ _ _ lr (by first | with_reducible exact R5.out | with_reducible exact R5.out.dr) (by first | with_reducible exact G1.out | with_reducible exact G1.out.dr) (by omega)).mono ?_; rintro e yc ⟨rfl, hb9⟩; (try replace hb9 := undrew hb9); (try (have X3 := Lib.hid (X3.out.step hb9))); (try (have I0 := Lib.hid (I0.out.step hb9))); (try (have G1 := Lib.hid (G1.out.step hb9))); (try (have R5 := Lib.hid (R5.out.step hb9))); have HC := Lib.hid (bstep HC.out hb9); have X3_0 := X3.out.cell0; have X3_1 := X3.out.cell1; have X3_l := X3.out.lt; have ckp := Hcp.out _ (HL.out.trans (HC.out.mono HL.out.size)); have ckg := Hcg.out _ HC.out; clear hb9))
            all_goals go_wp2_with fail
            all_goals go_meet
            all_goals exact ⟨rfl, HC.out⟩
          case rest =>
            clear HC
            obtain ⟨rfl, hb115⟩ := hcut
            have HB1 := Lib.hid hb115
            clear X3_0 X3_1 X3_l
            have X3 := Lib.hid (X3.out.step hb115)
            have I0 := Lib.hid (I0.out.step hb115)
            have G1 := Lib.hid (G1.out.step hb115)
            have HB := Lib.hid (bstep HB.out hb115)
            have HL := Lib.hid (bstep HL.out hb115)
            clear hb115
            have X3_0 := X3.out.cell0
            have X3_1 := X3.out.cell1
            have X3_l := X3.out.lt
            have Hcg : Hid (∀ w9, Below wc.heap.size wc w9 → w9.cell? ⟨b1, o1 + k, none⟩ = some (.int .i64 (q : Int))) := Lib.hid (fun w9 hb9 => (hb9.cell (p := ⟨b1, o1 + k, none⟩) (by show b1 < _; have := HL.out.size; omega)).trans (Hcg.out wc HB1.out))
            go_upto_region 12 with (fail)
            have HC := Lib.hid (Below.refl wc.heap.size wc)
            go_cut [7] (fun v wx => ∃ A7 n7 c7, v = .slice A7 n7 c7 ∧ Ints wx wx.heap.size A7 n7 (Pt.nbs s (q : Int)) ∧ Below wc.heap.size wc wx)
            case first =>
              have ckg := Hcg.out _ HC.out
              go_region_held3 (fun w' => w'.cell? ⟨y0.heap.size, 0, none⟩ = some (.int .i64 s) ∧ w'.cell? ⟨b1, o1 + k, none⟩ = some (.int .i64 (q : Int))) (first | exact ⟨X3_0, ckg⟩ | go_keep) ((go_at_call 42; refine (i_nbs s (q : Int) _ s1 s7 hq0 hqs).mono ?_; rintro e9 yc ⟨A7, n7, c7, rfl, ho9, hb9⟩; (try replace hb9 := undrew hb9); have HC := Lib.hid (bstep HC.out hb9); have X3 := Lib.hid (X3.out.step hb9); have X3_0 := X3.out.cell0; have ckg := Hcg.out _ HC.out; have R7 := Lib.hid ho9.ints; clear ho9 hb9))
              all_goals go_wp2_with fail
              all_goals go_meet
              all_goals exact ⟨_, _, _, rfl, R7.out, HC.out⟩
            case rest =>
              clear HC
              obtain ⟨A7, n7, c7, rfl, hi7, hb776⟩ := hcut
              have R7 := Lib.hid hi7
              have hn7 : n7 ≤ 4 := by have := hi7.1; have := nbs_few s (q : Int); omega
              clear X3_0 X3_1 X3_l
              have X3 := Lib.hid (X3.out.step hb776)
              have I0 := Lib.hid (I0.out.step hb776)
              have G1 := Lib.hid (G1.out.step hb776)
              have HB := Lib.hid (bstep HB.out hb776)
              have HL := Lib.hid (bstep HL.out hb776)
              clear hi7 hb776
              have X3_0 := X3.out.cell0
              have X3_1 := X3.out.cell1
              have X3_l := X3.out.lt
              go_wp2_with fail
              clear X3_0 X3_1 X3_l
              go_loopw [8] (fun v wi => ∃ j : Nat, j ≤ n7 ∧ v = .int .i64 (j : Nat) ∧ Below wc.heap.size wc wi) (fun v _ => n7 - (intOf v).toNat)
              case atStart => exact ⟨0, by omega, rfl, Below.refl _ _⟩
              case round =>
                obtain ⟨wq, rfl⟩ : ∃ wq : World, wq = wr := ⟨_, rfl⟩
                obtain ⟨j, hj, rfl, hb777⟩ := hrel
                have HJ := Lib.hid hb777
                have X3 := Lib.hid (X3.out.step hb777)
                have I0 := Lib.hid (I0.out.step hb777)
                have G1 := Lib.hid (G1.out.step hb777)
                have R7 := Lib.hid (R7.out.step hb777)
                have HB := Lib.hid (bstep HB.out hb777)
                have HL := Lib.hid (bstep HL.out hb777)
                clear hb777
                have X3_0 := X3.out.cell0
                have X3_1 := X3.out.cell1
                have X3_l := X3.out.lt
                by_cases hjn : j < n7
                · obtain ⟨b7, o7, hA7, hbB7, hc⟩ : ∃ b o, A7 = some ⟨b, o, none⟩ ∧ b < wq.heap.size ∧ ∀ j, j < n7 → wq.cell? ⟨b, o + j, none⟩ = some (.int .i64 ((Pt.nbs s (q : Int)).getD j 0)) := by
                    rcases R7.out.2 with h0 | ⟨b, o, hA, hbB, hc⟩
                    · omega
                    · exact ⟨b, o, hA, hbB, hc⟩
                  have Hc7 := Lib.hid hc
                  clear hc
                  have hjI : (j : Int) < n7 := by omega
                  have hjl : j < (Pt.nbs s (q : Int)).length := by rw [R7.out.1]; exact hjn
                  have hmem : (Pt.nbs s (q : Int)).getD j 0 ∈ Pt.nbs s (q : Int) := by rw [List.getD_eq_getElem?_getD, List.getElem?_eq_getElem hjl]; exact List.getElem_mem _
                  obtain ⟨z0, zn⟩ := nbs_in s1 s7 Hns.out (q : Int) hq0 hqI _ hmem
                  obtain ⟨y, hy⟩ : ∃ y, (Pt.nbs s (q : Int)).getD j 0 = y := ⟨_, rfl⟩
                  have ck7 := Hc7.out j hjn
                  rw [hy] at ck7 hmem z0 zn
                  obtain ⟨z, rfl⟩ := Int.eq_ofNat_of_zero_le z0
                  have hzn : z < n := by omega
                  have Hmem := Lib.hid hmem
                  have Hc7 : Hid (∀ w9, Below wq.heap.size wq w9 → w9.cell? ⟨b7, o7 + j, none⟩ = some (.int .i64 (z : Int))) := Lib.hid (fun w9 hb9 => (hb9.cell (p := ⟨b7, o7 + j, none⟩) hbB7).trans ck7)
                  rw [hA7]
                  have HA7 := Lib.hid hA7
                  obtain ⟨e1, he1⟩ : ∃ e1, cs.getD z 0 = e1 := ⟨_, rfl⟩
                  have He1 := Lib.hid he1
                  clear hjl hmem hy ck7 hA7 he1
                  by_cases hez : e1 = e
                  · have hin : (z : Int) ∈ lr := (Hr.out.mem s1 s7 Hns.out hpn z).2 (.step Hq3.out Hmem.out (by
                      unfold Fl.at_
                      rw [Int.toNat_natCast, hasCol_at (by rw [Hcs.out]; exact hzn), He1.out, He.out]
                      simpa using hez))
                    have Hin := Lib.hid hin
                    clear hin
                    subst hez
                    go_wp2_with fail
                    have HC := Lib.hid (Below.refl wq.heap.size wq)
                    go_cut [98] (fun v wx => v = .bool false ∧ Below wq.heap.size wq wx)
                    case first =>
                      have ckp := Hcp.out _ (HL.out.trans (HC.out.mono HL.out.size))
                      have ck7 := Hc7.out _ HC.out
                      go_region_held3 (fun w' => w'.cell? ⟨y0.heap.size, 0, none⟩ = some (.int .i64 s) ∧ w'.cell? ⟨y0.heap.size, 1, none⟩ = some (.slice (some ⟨b, o, none⟩) n c) ∧ w'.cell? ⟨b, o + pn, none⟩ = some (.int .i64 e1) ∧ w'.cell? ⟨b7, o7 + j, none⟩ = some (.int .i64 (z : Int))) (first | exact ⟨X3_0, X3_1, ckp, ck7⟩ | go_keep) (first | (go_at_call 41; refine (l_colorAt s _ _ _ _ cs z e1 (by first | with_reducible exact I0.out | with_reducible exact I0.out.dr) hzn He1.out).mono ?_; rintro e yc ⟨rfl, hb9⟩; (try replace hb9 := undrew hb9); (try (have X3 := Lib.hid (X3.out.step hb9))); (try (have I0 := Lib.hid (I0.out.step hb9))); (try (have G1 := Lib.hid (G1.out.step hb9))); (try (have R7 := Lib.hid (R7.out.step hb9))); have HC := Lib.hid (bstep HC.out hb9); have X3_0 := X3.out.cell0; have X3_1 := X3.out.cell1; have X3_l := X3.out.lt; have ckp := Hcp.out _ (HL.out.trans (HC.out.mono HL.out.size)); have ck7 := Hc7.out _ HC.out; clear hb9) | (go_at_call 26; refine (l_isInY _ _ _ _ lr (z : Int) (by first | with_reducible exact G1.out | with_reducible exact G1.out.dr) (by omega) Hin.out).mono ?_; rintro e yc ⟨rfl, hb9⟩; (try replace hb9 := undrew hb9); (try (have X3 := Lib.hid (X3.out.step hb9))); (try (have I0 := Lib.hid (I0.out.step hb9))); (try (have G1 := Lib.hid (G1.out.step hb9))); (try (have R7 := Lib.hid (R7.out.step hb9))); have HC := Lib.hid (bstep HC.out hb9); have X3_0 := X3.out.cell0; have X3_1 := X3.out.cell1; have X3_l := X3.out.lt; have ckp := Hcp.out _ (HL.out.trans (HC.out.mono HL.out.size)); have ck7 := Hc7.out _ HC.out; clear hb9))
                      all_goals go_wp2_with fail
                      all_goals go_meet
                      all_goals exact ⟨rfl, HC.out⟩
                    case rest =>
                      clear HC
                      obtain ⟨rfl, hb216⟩ := hcut
                      clear X3_0 X3_1 X3_l
                      have X3 := Lib.hid (X3.out.step hb216)
                      have I0 := Lib.hid (I0.out.step hb216)
                      have G1 := Lib.hid (G1.out.step hb216)
                      have R7 := Lib.hid (R7.out.step hb216)
                      have HB := Lib.hid (bstep HB.out hb216)
                      have HJ := Lib.hid (bstep HJ.out hb216)
                      have HL := Lib.hid (bstep HL.out hb216)
                      clear hb216
                      have X3_0 := X3.out.cell0
                      have X3_1 := X3.out.cell1
                      have X3_l := X3.out.lt
                      go_wp2_with fail
                      go_roundw
                      case rel => exact ⟨j + 1, by omega, by go_num, HJ.out⟩
                      case measure => simp [intOf]; omega
                  · have hcomb : (e = 1 ∧ e1 = 0) ∨ (e = 1 ∧ e1 = 2) ∨ (e = 2 ∧ e1 = 0) ∨ (e = 2 ∧ e1 = 1) := by
                      have r1 := Hcol.out pn hpn
                      have r2 := Hcol.out z hzn
                      have r3 := Hne.out
                      rw [He.out] at r1 r3
                      rw [He1.out] at r2
                      omega
                    clear hez
                    rcases hcomb with hcomb | hcomb | hcomb | hcomb
                    · obtain ⟨rfl, rfl⟩ := hcomb
                      go_upto_region 16 with (fail)
                      have HC := Lib.hid (Below.refl wq.heap.size wq)
                      go_cut [98] (fun v wx => v = .bool false ∧ Below wq.heap.size wq wx)
                      case first =>
                        have ckp := Hcp.out _ (HL.out.trans (HC.out.mono HL.out.size))
                        have ck7 := Hc7.out _ HC.out
                        refine wp_region_held_drew (S := (fun w' => w'.cell? ⟨y0.heap.size, 0, none⟩ = some (.int .i64 s) ∧ w'.cell? ⟨y0.heap.size, 1, none⟩ = some (.slice (some ⟨b, o, none⟩) n c) ∧ w'.cell? ⟨b, o + pn, none⟩ = some (.int .i64 1) ∧ w'.cell? ⟨b7, o7 + j, none⟩ = some (.int .i64 (z : Int)))) (by kernel_rfl) ?_ (fun hHeld => ?_)
                        · exact ⟨X3_0, X3_1, ckp, ck7⟩
                        refine wpAnyH_take (i := 0) (v := ?_) rfl (by kernel_rfl) (by kernel_rfl) (by kernel_rfl) (fun _ _ _ h => h) (Or.inl ⟨by rfl, ?hy10⟩) (by assumption) ?_
                        case hy10 => (intro w9 hSw; (try dsimp only at hSw); go_simp; (try with_reducible rfl))
                        (try simp only [Act.put, List.getElem_toArray, List.getElem_cons_zero, List.setIfInBounds_toArray, List.set_cons_zero, List.set_cons_succ])
                        refine wpAnyH_take (i := 1) (v := ?_) rfl (by kernel_rfl) (by kernel_rfl) (by kernel_rfl) (fun _ _ _ h => h) (Or.inl ⟨by rfl, ?hy10⟩) (by assumption) ?_
                        case hy10 => (intro w9 hSw; (try dsimp only at hSw); go_simp; (try with_reducible rfl))
                        (try simp only [Act.put, List.getElem_toArray, List.getElem_cons_succ, List.getElem_cons_zero, List.setIfInBounds_toArray, List.set_cons_zero, List.set_cons_succ])
                        refine wpAnyH_take (i := 2) (v := ?_) rfl (by kernel_rfl) (by kernel_rfl) (by kernel_rfl) (fun _ _ _ h => h) (Or.inl ⟨by rfl, ?hy10⟩) (by assumption) ?_
                        case hy10 => (intro w9 hSw; (try dsimp only at hSw); go_simp; (try with_reducible rfl))
                        (try simp only [Act.put, List.getElem_toArray, List.getElem_cons_succ, List.getElem_cons_zero, List.setIfInBounds_toArray, List.set_cons_zero, List.set_cons_succ])
                        refine wpAnyH_take (i := 3) (v := ?_) rfl (by kernel_rfl) (by kernel_rfl) (by kernel_rfl) (fun _ _ _ h => h) (Or.inl ⟨by rfl, ?hy10⟩) (by assumption) ?_
                        case hy10 => (intro w9 hSw; (try dsimp only at hSw); go_simp; (try with_reducible rfl))
                        (try simp only [Act.put, List.getElem_toArray, List.getElem_cons_succ, List.getElem_cons_zero, List.setIfInBounds_toArray, List.set_cons_zero, List.set_cons_succ])
                        refine wpAnyH_take (i := 4) (v := ?_) rfl (by kernel_rfl) (by kernel_rfl) (by kernel_rfl) (fun _ _ _ h => h) (Or.inl ⟨by rfl, ?hy10⟩) (by assumption) ?_
                        case hy10 => (intro w9 hSw; (try dsimp only at hSw); go_simp; (try with_reducible rfl))
                        (try simp only [Act.put, List.getElem_toArray, List.getElem_cons_succ, List.getElem_cons_zero, List.setIfInBounds_toArray, List.set_cons_zero, List.set_cons_succ])
                        refine wpAnyH_take (i := 6) (v := ?_) rfl (by kernel_rfl) (by kernel_rfl) (by kernel_rfl) (fun _ _ _ h => h) (Or.inl ⟨by rfl, ?hy10⟩) (by assumption) ?_
                        case hy10 => (intro w9 hSw; (try dsimp only at hSw); go_simp; (try with_reducible rfl))
                        (try simp only [Act.put, List.getElem_toArray, List.getElem_cons_succ, List.getElem_cons_zero, List.setIfInBounds_toArray, List.set_cons_zero, List.set_cons_succ])
                        refine wpAnyH_take (i := 7) (v := ?_) rfl (by kernel_rfl) (by kernel_rfl) (by kernel_rfl) (fun _ _ _ h => h) (Or.inl ⟨by rfl, ?hy10⟩) (by assumption) ?_
                        case hy10 => (intro w9 hSw; (try dsimp only at hSw); go_simp; (try with_reducible rfl))
                        (try simp only [Act.put, List.getElem_toArray, List.getElem_cons_succ, List.getElem_cons_zero, List.setIfInBounds_toArray, List.set_cons_zero, List.set_cons_succ])
                        refine wpAnyH_take (i := 8) (v := ?_) rfl (by kernel_rfl) (by kernel_rfl) (by kernel_rfl) (fun _ _ _ h => h) (Or.inl ⟨by rfl, ?hy10⟩) (by assumption) ?_
                        case hy10 => (intro w9 hSw; (try dsimp only at hSw); go_simp; (try with_reducible rfl))
                        (try simp only [Act.put, List.getElem_toArray, List.getElem_cons_succ, List.getElem_cons_zero, List.setIfInBounds_toArray, List.set_cons_zero, List.set_cons_succ])
                        refine wpAnyH_take (i := 9) (v := ?_) rfl (by kernel_rfl) (by kernel_rfl) (by kernel_rfl) (fun _ _ _ h => h) (Or.inl ⟨by rfl, ?hy10⟩) (by assumption) ?_
                        case hy10 => (intro w9 hSw; (try dsimp only at hSw); go_simp; (try with_reducible rfl))
                        (try simp only [Act.put, List.getElem_toArray, List.getElem_cons_succ, List.getElem_cons_zero, List.setIfInBounds_toArray, List.set_cons_zero, List.set_cons_succ])
                        refine wpAnyH_take (i := 10) (v := ?_) rfl (by kernel_rfl) (by kernel_rfl) (by kernel_rfl) (fun _ _ _ h => h) (Or.inl ⟨by rfl, ?hy10⟩) (by assumption) ?_
                        case hy10 => (intro w9 hSw; (try dsimp only at hSw); go_simp; (try with_reducible rfl))
                        (try simp only [Act.put, List.getElem_toArray, List.getElem_cons_succ, List.getElem_cons_zero, List.setIfInBounds_toArray, List.set_cons_zero, List.set_cons_succ])
                        refine wpAnyH_ready (rs := [5]) (by kernel_rfl) (by simp) ?_
                        refine AllReadyH.cons (o := _) rfl (fun K hK => ?_) AllReadyH.nil
                        go_simp
                        (go_at_call 41; refine (l_colorAt s _ _ _ _ cs z 0 (by first | with_reducible exact I0.out | with_reducible exact I0.out.dr) hzn He1.out).mono ?_; rintro e9 yc ⟨rfl, hb9⟩; (try replace hb9 := undrew hb9); have HC := Lib.hid (bstep HC.out hb9); have X3 := Lib.hid (X3.out.step hb9); have X3_0 := X3.out.cell0; have X3_1 := X3.out.cell1; have ckp := Hcp.out _ (HL.out.trans (HC.out.mono HL.out.size)); have ck7 := Hc7.out _ HC.out; clear hb9)
                        refine hK.out _ _ ?_ (fun hHeld => ?_)
                        · exact ⟨X3_0, X3_1, ckp, ck7⟩
                        clear hK K
                        (try simp only [Act.put, List.getElem_toArray, List.getElem_cons_succ, List.getElem_cons_zero, List.setIfInBounds_toArray, List.set_cons_zero, List.set_cons_succ])
                        refine wpAnyH_take (i := 11) (v := ?_) rfl (by kernel_rfl) (by kernel_rfl) (by kernel_rfl) (fun _ _ _ h => h) (Or.inl ⟨by rfl, ?hy10⟩) (by assumption) ?_
                        case hy10 => (intro w9 hSw; (try dsimp only at hSw); go_simp; (try with_reducible rfl))
                        (try simp only [Act.put, List.getElem_toArray, List.getElem_cons_succ, List.getElem_cons_zero, List.setIfInBounds_toArray, List.set_cons_zero, List.set_cons_succ])
                        refine wpAnyH_take (i := 12) (v := ?_) rfl (by kernel_rfl) (by kernel_rfl) (by kernel_rfl) (fun _ _ _ h => h) (Or.inl ⟨by rfl, ?hy10⟩) (by assumption) ?_
                        case hy10 => (intro w9 hSw; (try dsimp only at hSw); go_simp; (try with_reducible rfl))
                        (try simp only [Act.put, List.getElem_toArray, List.getElem_cons_succ, List.getElem_cons_zero, List.setIfInBounds_toArray, List.set_cons_zero, List.set_cons_succ])
                        refine wpAnyH_take (i := 13) (v := undef) rfl (by kernel_rfl) (by kernel_rfl) (by kernel_rfl) (fun _ _ _ h => h) (Or.inr ⟨by rfl, rfl⟩) (by assumption) ?_
                        (try simp only [Act.put, List.getElem_toArray, List.getElem_cons_succ, List.getElem_cons_zero, List.setIfInBounds_toArray, List.set_cons_zero, List.set_cons_succ])
                        refine wpAnyH_take (i := 14) (v := undef) rfl (by kernel_rfl) (by kernel_rfl) (by kernel_rfl) (fun _ _ _ h => h) (Or.inr ⟨by rfl, rfl⟩) (by assumption) ?_
                        (try simp only [Act.put, List.getElem_toArray, List.getElem_cons_succ, List.getElem_cons_zero, List.setIfInBounds_toArray, List.set_cons_zero, List.set_cons_succ])
                        refine wpAnyH_take (i := 15) (v := undef) rfl (by kernel_rfl) (by kernel_rfl) (by kernel_rfl) (fun _ _ _ h => h) (Or.inr ⟨by rfl, rfl⟩) (by assumption) ?_
                        (try simp only [Act.put, List.getElem_toArray, List.getElem_cons_succ, List.getElem_cons_zero, List.setIfInBounds_toArray, List.set_cons_zero, List.set_cons_succ])
                        refine wpAnyH_take (i := 16) (v := undef) rfl (by kernel_rfl) (by kernel_rfl) (by kernel_rfl) (fun _ _ _ h => h) (Or.inr ⟨by rfl, rfl⟩) (by assumption) ?_
                        (try simp only [Act.put, List.getElem_toArray, List.getElem_cons_succ, List.getElem_cons_zero, List.setIfInBounds_toArray, List.set_cons_zero, List.set_cons_succ])
                        refine wpAnyH_take (i := 17) (v := undef) rfl (by kernel_rfl) (by kernel_rfl) (by kernel_rfl) (fun _ _ _ h => h) (Or.inr ⟨by rfl, rfl⟩) (by assumption) ?_
                        (try simp only [Act.put, List.getElem_toArray, List.getElem_cons_succ, List.getElem_cons_zero, List.setIfInBounds_toArray, List.set_cons_zero, List.set_cons_succ])
                        refine wpAnyH_take (i := 18) (v := undef) rfl (by kernel_rfl) (by kernel_rfl) (by kernel_rfl) (fun _ _ _ h => h) (Or.inr ⟨by rfl, rfl⟩) (by assumption) ?_
                        (try simp only [Act.put, List.getElem_toArray, List.getElem_cons_succ, List.getElem_cons_zero, List.setIfInBounds_toArray, List.set_cons_zero, List.set_cons_succ])
                        refine wpAnyH_take (i := 19) (v := undef) rfl (by kernel_rfl) (by kernel_rfl) (by kernel_rfl) (fun _ _ _ h => h) (Or.inr ⟨by rfl, rfl⟩) (by assumption) ?_
                        (try simp only [Act.put, List.getElem_toArray, List.getElem_cons_succ, List.getElem_cons_zero, List.setIfInBounds_toArray, List.set_cons_zero, List.set_cons_succ])
                        refine wpAnyH_take (i := 20) (v := ?_) rfl (by kernel_rfl) (by kernel_rfl) (by kernel_rfl) (fun _ _ _ h => h) (Or.inl ⟨by rfl, ?hy10⟩) (by assumption) ?_
                        case hy10 => (intro w9 hSw; (try dsimp only at hSw); go_simp; (try with_reducible rfl))
                        (try simp only [Act.put, List.getElem_toArray, List.getElem_cons_succ, List.getElem_cons_zero, List.setIfInBounds_toArray, List.set_cons_zero, List.set_cons_succ])
                        refine wpAnyH_done (by kernel_rfl) ?_ _
                        go_wp2_with fail
                        go_meet
                        exact ⟨rfl, HC.out⟩
                      case rest =>
                        clear HC
                        obtain ⟨rfl, hb910⟩ := hcut
                        clear X3_0 X3_1 X3_l
                        have X3 := Lib.hid (X3.out.step hb910)
                        have I0 := Lib.hid (I0.out.step hb910)
                        have G1 := Lib.hid (G1.out.step hb910)
                        have R7 := Lib.hid (R7.out.step hb910)
                        have HB := Lib.hid (bstep HB.out hb910)
                        have HJ := Lib.hid (bstep HJ.out hb910)
                        have HL := Lib.hid (bstep HL.out hb910)
                        clear hb910
                        have X3_0 := X3.out.cell0
                        have X3_1 := X3.out.cell1
                        have X3_l := X3.out.lt
                        go_wp2_with fail
                        go_roundw
                        case rel => exact ⟨j + 1, by omega, by go_num, HJ.out⟩
                        case measure => simp [intOf]; omega
                    · obtain ⟨rfl, rfl⟩ := hcomb
                      go_upto_region 16 with (fail)
                      have HC := Lib.hid (Below.refl wq.heap.size wq)
                      go_cut [98] (fun v wx => v = .bool false ∧ Below wq.heap.size wq wx)
                      case first =>
                        have ckp := Hcp.out _ (HL.out.trans (HC.out.mono HL.out.size))
                        have ck7 := Hc7.out _ HC.out
                        refine wp_region_held_drew (S := (fun w' => w'.cell? ⟨y0.heap.size, 0, none⟩ = some (.int .i64 s) ∧ w'.cell? ⟨y0.heap.size, 1, none⟩ = some (.slice (some ⟨b, o, none⟩) n c) ∧ w'.cell? ⟨b, o + pn, none⟩ = some (.int .i64 1) ∧ w'.cell? ⟨b7, o7 + j, none⟩ = some (.int .i64 (z : Int)))) (by kernel_rfl) ?_ (fun hHeld => ?_)
                        · exact ⟨X3_0, X3_1, ckp, ck7⟩
                        refine wpAnyH_take (i := 0) (v := ?_) rfl (by kernel_rfl) (by kernel_rfl) (by kernel_rfl) (fun _ _ _ h => h) (Or.inl ⟨by rfl, ?hy12⟩) (by assumption) ?_
                        case hy12 => (intro w9 hSw; (try dsimp only at hSw); go_simp; (try with_reducible rfl))
                        (try simp only [Act.put, List.getElem_toArray, List.getElem_cons_zero, List.setIfInBounds_toArray, List.set_cons_zero, List.set_cons_succ])
                        refine wpAnyH_take (i := 1) (v := ?_) rfl (by kernel_rfl) (by kernel_rfl) (by kernel_rfl) (fun _ _ _ h => h) (Or.inl ⟨by rfl, ?hy12⟩) (by assumption) ?_
                        case hy12 => (intro w9 hSw; (try dsimp only at hSw); go_simp; (try with_reducible rfl))
                        (try simp only [Act.put, List.getElem_toArray, List.getElem_cons_succ, List.getElem_cons_zero, List.setIfInBounds_toArray, List.set_cons_zero, List.set_cons_succ])
                        refine wpAnyH_take (i := 2) (v := ?_) rfl (by kernel_rfl) (by kernel_rfl) (by kernel_rfl) (fun _ _ _ h => h) (Or.inl ⟨by rfl, ?hy12⟩) (by assumption) ?_
                        case hy12 => (intro w9 hSw; (try dsimp only at hSw); go_simp; (try with_reducible rfl))
                        (try simp only [Act.put, List.getElem_toArray, List.getElem_cons_succ, List.getElem_cons_zero, List.setIfInBounds_toArray, List.set_cons_zero, List.set_cons_succ])
                        refine wpAnyH_take (i := 3) (v := ?_) rfl (by kernel_rfl) (by kernel_rfl) (by kernel_rfl) (fun _ _ _ h => h) (Or.inl ⟨by rfl, ?hy12⟩) (by assumption) ?_
                        case hy12 => (intro w9 hSw; (try dsimp only at hSw); go_simp; (try with_reducible rfl))
                        (try simp only [Act.put, List.getElem_toArray, List.getElem_cons_succ, List.getElem_cons_zero, List.setIfInBounds_toArray, List.set_cons_zero, List.set_cons_succ])
                        refine wpAnyH_take (i := 4) (v := ?_) rfl (by kernel_rfl) (by kernel_rfl) (by kernel_rfl) (fun _ _ _ h => h) (Or.inl ⟨by rfl, ?hy12⟩) (by assumption) ?_
                        case hy12 => (intro w9 hSw; (try dsimp only at hSw); go_simp; (try with_reducible rfl))
                        (try simp only [Act.put, List.getElem_toArray, List.getElem_cons_succ, List.getElem_cons_zero, List.setIfInBounds_toArray, List.set_cons_zero, List.set_cons_succ])
                        refine wpAnyH_take (i := 6) (v := ?_) rfl (by kernel_rfl) (by kernel_rfl) (by kernel_rfl) (fun _ _ _ h => h) (Or.inl ⟨by rfl, ?hy12⟩) (by assumption) ?_
                        case hy12 => (intro w9 hSw; (try dsimp only at hSw); go_simp; (try with_reducible rfl))
                        (try simp only [Act.put, List.getElem_toArray, List.getElem_cons_succ, List.getElem_cons_zero, List.setIfInBounds_toArray, List.set_cons_zero, List.set_cons_succ])
                        refine wpAnyH_take (i := 7) (v := ?_) rfl (by kernel_rfl) (by kernel_rfl) (by kernel_rfl) (fun _ _ _ h => h) (Or.inl ⟨by rfl, ?hy12⟩) (by assumption) ?_
                        case hy12 => (intro w9 hSw; (try dsimp only at hSw); go_simp; (try with_reducible rfl))
                        (try simp only [Act.put, List.getElem_toArray, List.getElem_cons_succ, List.getElem_cons_zero, List.setIfInBounds_toArray, List.set_cons_zero, List.set_cons_succ])
                        refine wpAnyH_take (i := 8) (v := ?_) rfl (by kernel_rfl) (by kernel_rfl) (by kernel_rfl) (fun _ _ _ h => h) (Or.inl ⟨by rfl, ?hy12⟩) (by assumption) ?_
                        case hy12 => (intro w9 hSw; (try dsimp only at hSw); go_simp; (try with_reducible rfl))
                        (try simp only [Act.put, List.getElem_toArray, List.getElem_cons_succ, List.getElem_cons_zero, List.setIfInBounds_toArray, List.set_cons_zero, List.set_cons_succ])
                        refine wpAnyH_take (i := 9) (v := ?_) rfl (by kernel_rfl) (by kernel_rfl) (by kernel_rfl) (fun _ _ _ h => h) (Or.inl ⟨by rfl, ?hy12⟩) (by assumption) ?_
                        case hy12 => (intro w9 hSw; (try dsimp only at hSw); go_simp; (try with_reducible rfl))
                        (try simp only [Act.put, List.getElem_toArray, List.getElem_cons_succ, List.getElem_cons_zero, List.setIfInBounds_toArray, List.set_cons_zero, List.set_cons_succ])
                        refine wpAnyH_take (i := 10) (v := ?_) rfl (by kernel_rfl) (by kernel_rfl) (by kernel_rfl) (fun _ _ _ h => h) (Or.inl ⟨by rfl, ?hy12⟩) (by assumption) ?_
                        case hy12 => (intro w9 hSw; (try dsimp only at hSw); go_simp; (try with_reducible rfl))
                        (try simp only [Act.put, List.getElem_toArray, List.getElem_cons_succ, List.getElem_cons_zero, List.setIfInBounds_toArray, List.set_cons_zero, List.set_cons_succ])
                        refine wpAnyH_ready (rs := [5]) (by kernel_rfl) (by simp) ?_
                        refine AllReadyH.cons (o := _) rfl (fun K hK => ?_) AllReadyH.nil
                        go_simp
                        (go_at_call 41; refine (l_colorAt s _ _ _ _ cs z 2 (by first | with_reducible exact I0.out | with_reducible exact I0.out.dr) hzn He1.out).mono ?_; rintro e9 yc ⟨rfl, hb9⟩; (try replace hb9 := undrew hb9); have HC := Lib.hid (bstep HC.out hb9); have X3 := Lib.hid (X3.out.step hb9); have X3_0 := X3.out.cell0; have X3_1 := X3.out.cell1; have ckp := Hcp.out _ (HL.out.trans (HC.out.mono HL.out.size)); have ck7 := Hc7.out _ HC.out; clear hb9)
                        refine hK.out _ _ ?_ (fun hHeld => ?_)
                        · exact ⟨X3_0, X3_1, ckp, ck7⟩
                        clear hK K
                        (try simp only [Act.put, List.getElem_toArray, List.getElem_cons_succ, List.getElem_cons_zero, List.setIfInBounds_toArray, List.set_cons_zero, List.set_cons_succ])
                        refine wpAnyH_take (i := 11) (v := ?_) rfl (by kernel_rfl) (by kernel_rfl) (by kernel_rfl) (fun _ _ _ h => h) (Or.inl ⟨by rfl, ?hy12⟩) (by assumption) ?_
                        case hy12 => (intro w9 hSw; (try dsimp only at hSw); go_simp; (try with_reducible rfl))
                        (try simp only [Act.put, List.getElem_toArray, List.getElem_cons_succ, List.getElem_cons_zero, List.setIfInBounds_toArray, List.set_cons_zero, List.set_cons_succ])
                        refine wpAnyH_take (i := 12) (v := ?_) rfl (by kernel_rfl) (by kernel_rfl) (by kernel_rfl) (fun _ _ _ h => h) (Or.inl ⟨by rfl, ?hy12⟩) (by assumption) ?_
                        case hy12 => (intro w9 hSw; (try dsimp only at hSw); go_simp; (try with_reducible rfl))
                        (try simp only [Act.put, List.getElem_toArray, List.getElem_cons_succ, List.getElem_cons_zero, List.setIfInBounds_toArray, List.set_cons_zero, List.set_cons_succ])
                        refine wpAnyH_take (i := 13) (v := undef) rfl (by kernel_rfl) (by kernel_rfl) (by kernel_rfl) (fun _ _ _ h => h) (Or.inr ⟨by rfl, rfl⟩) (by assumption) ?_
                        (try simp only [Act.put, List.getElem_toArray, List.getElem_cons_succ, List.getElem_cons_zero, List.setIfInBounds_toArray, List.set_cons_zero, List.set_cons_succ])
                        refine wpAnyH_take (i := 14) (v := undef) rfl (by kernel_rfl) (by kernel_rfl) (by kernel_rfl) (fun _ _ _ h => h) (Or.inr ⟨by rfl, rfl⟩) (by assumption) ?_
                        (try simp only [Act.put, List.getElem_toArray, List.getElem_cons_succ, List.getElem_cons_zero, List.setIfInBounds_toArray, List.set_cons_zero, List.set_cons_succ])
                        refine wpAnyH_take (i := 15) (v := undef) rfl (by kernel_rfl) (by kernel_rfl) (by kernel_rfl) (fun _ _ _ h => h) (Or.inr ⟨by rfl, rfl⟩) (by assumption) ?_
                        (try simp only [Act.put, List.getElem_toArray, List.getElem_cons_succ, List.getElem_cons_zero, List.setIfInBounds_toArray, List.set_cons_zero, List.set_cons_succ])
                        refine wpAnyH_take (i := 16) (v := undef) rfl (by kernel_rfl) (by kernel_rfl) (by kernel_rfl) (fun _ _ _ h => h) (Or.inr ⟨by rfl, rfl⟩) (by assumption) ?_
                        (try simp only [Act.put, List.getElem_toArray, List.getElem_cons_succ, List.getElem_cons_zero, List.setIfInBounds_toArray, List.set_cons_zero, List.set_cons_succ])
                        refine wpAnyH_take (i := 17) (v := undef) rfl (by kernel_rfl) (by kernel_rfl) (by kernel_rfl) (fun _ _ _ h => h) (Or.inr ⟨by rfl, rfl⟩) (by assumption) ?_
                        (try simp only [Act.put, List.getElem_toArray, List.getElem_cons_succ, List.getElem_cons_zero, List.setIfInBounds_toArray, List.set_cons_zero, List.set_cons_succ])
                        refine wpAnyH_take (i := 18) (v := undef) rfl (by kernel_rfl) (by kernel_rfl) (by kernel_rfl) (fun _ _ _ h => h) (Or.inr ⟨by rfl, rfl⟩) (by assumption) ?_
                        (try simp only [Act.put, List.getElem_toArray, List.getElem_cons_succ, List.getElem_cons_zero, List.setIfInBounds_toArray, List.set_cons_zero, List.set_cons_succ])
                        refine wpAnyH_take (i := 19) (v := undef) rfl (by kernel_rfl) (by kernel_rfl) (by kernel_rfl) (fun _ _ _ h => h) (Or.inr ⟨by rfl, rfl⟩) (by assumption) ?_
                        (try simp only [Act.put, List.getElem_toArray, List.getElem_cons_succ, List.getElem_cons_zero, List.setIfInBounds_toArray, List.set_cons_zero, List.set_cons_succ])
                        refine wpAnyH_take (i := 20) (v := ?_) rfl (by kernel_rfl) (by kernel_rfl) (by kernel_rfl) (fun _ _ _ h => h) (Or.inl ⟨by rfl, ?hy12⟩) (by assumption) ?_
                        case hy12 => (intro w9 hSw; (try dsimp only at hSw); go_simp; (try with_reducible rfl))
                        (try simp only [Act.put, List.getElem_toArray, List.getElem_cons_succ, List.getElem_cons_zero, List.setIfInBounds_toArray, List.set_cons_zero, List.set_cons_succ])
                        refine wpAnyH_done (by kernel_rfl) ?_ _
                        go_wp2_with fail
                        go_meet
                        exact ⟨rfl, HC.out⟩
                      case rest =>
                        clear HC
                        obtain ⟨rfl, hb912⟩ := hcut
                        clear X3_0 X3_1 X3_l
                        have X3 := Lib.hid (X3.out.step hb912)
                        have I0 := Lib.hid (I0.out.step hb912)
                        have G1 := Lib.hid (G1.out.step hb912)
                        have R7 := Lib.hid (R7.out.step hb912)
                        have HB := Lib.hid (bstep HB.out hb912)
                        have HJ := Lib.hid (bstep HJ.out hb912)
                        have HL := Lib.hid (bstep HL.out hb912)
                        clear hb912
                        have X3_0 := X3.out.cell0
                        have X3_1 := X3.out.cell1
                        have X3_l := X3.out.lt
                        go_wp2_with fail
                        go_roundw
                        case rel => exact ⟨j + 1, by omega, by go_num, HJ.out⟩
                        case measure => simp [intOf]; omega
                    · obtain ⟨rfl, rfl⟩ := hcomb
                      go_upto_region 16 with (fail)
                      have HC := Lib.hid (Below.refl wq.heap.size wq)
                      go_cut [98] (fun v wx => v = .bool false ∧ Below wq.heap.size wq wx)
                      case first =>
                        have ckp := Hcp.out _ (HL.out.trans (HC.out.mono HL.out.size))
                        have ck7 := Hc7.out _ HC.out
                        refine wp_region_held_drew (S := (fun w' => w'.cell? ⟨y0.heap.size, 0, none⟩ = some (.int .i64 s) ∧ w'.cell? ⟨y0.heap.size, 1, none⟩ = some (.slice (some ⟨b, o, none⟩) n c) ∧ w'.cell? ⟨b, o + pn, none⟩ = some (.int .i64 2) ∧ w'.cell? ⟨b7, o7 + j, none⟩ = some (.int .i64 (z : Int)))) (by kernel_rfl) ?_ (fun hHeld => ?_)
                        · exact ⟨X3_0, X3_1, ckp, ck7⟩
                        refine wpAnyH_take (i := 0) (v := ?_) rfl (by kernel_rfl) (by kernel_rfl) (by kernel_rfl) (fun _ _ _ h => h) (Or.inl ⟨by rfl, ?hy20⟩) (by assumption) ?_
                        case hy20 => (intro w9 hSw; (try dsimp only at hSw); go_simp; (try with_reducible rfl))
                        (try simp only [Act.put, List.getElem_toArray, List.getElem_cons_zero, List.setIfInBounds_toArray, List.set_cons_zero, List.set_cons_succ])
                        refine wpAnyH_take (i := 1) (v := ?_) rfl (by kernel_rfl) (by kernel_rfl) (by kernel_rfl) (fun _ _ _ h => h) (Or.inl ⟨by rfl, ?hy20⟩) (by assumption) ?_
                        case hy20 => (intro w9 hSw; (try dsimp only at hSw); go_simp; (try with_reducible rfl))
                        (try simp only [Act.put, List.getElem_toArray, List.getElem_cons_succ, List.getElem_cons_zero, List.setIfInBounds_toArray, List.set_cons_zero, List.set_cons_succ])
                        refine wpAnyH_take (i := 2) (v := ?_) rfl (by kernel_rfl) (by kernel_rfl) (by kernel_rfl) (fun _ _ _ h => h) (Or.inl ⟨by rfl, ?hy20⟩) (by assumption) ?_
                        case hy20 => (intro w9 hSw; (try dsimp only at hSw); go_simp; (try with_reducible rfl))
                        (try simp only [Act.put, List.getElem_toArray, List.getElem_cons_succ, List.getElem_cons_zero, List.setIfInBounds_toArray, List.set_cons_zero, List.set_cons_succ])
                        refine wpAnyH_take (i := 3) (v := ?_) rfl (by kernel_rfl) (by kernel_rfl) (by kernel_rfl) (fun _ _ _ h => h) (Or.inl ⟨by rfl, ?hy20⟩) (by assumption) ?_
                        case hy20 => (intro w9 hSw; (try dsimp only at hSw); go_simp; (try with_reducible rfl))
                        (try simp only [Act.put, List.getElem_toArray, List.getElem_cons_succ, List.getElem_cons_zero, List.setIfInBounds_toArray, List.set_cons_zero, List.set_cons_succ])
                        refine wpAnyH_take (i := 4) (v := ?_) rfl (by kernel_rfl) (by kernel_rfl) (by kernel_rfl) (fun _ _ _ h => h) (Or.inl ⟨by rfl, ?hy20⟩) (by assumption) ?_
                        case hy20 => (intro w9 hSw; (try dsimp only at hSw); go_simp; (try with_reducible rfl))
                        (try simp only [Act.put, List.getElem_toArray, List.getElem_cons_succ, List.getElem_cons_zero, List.setIfInBounds_toArray, List.set_cons_zero, List.set_cons_succ])
                        refine wpAnyH_take (i := 6) (v := ?_) rfl (by kernel_rfl) (by kernel_rfl) (by kernel_rfl) (fun _ _ _ h => h) (Or.inl ⟨by rfl, ?hy20⟩) (by assumption) ?_
                        case hy20 => (intro w9 hSw; (try dsimp only at hSw); go_simp; (try with_reducible rfl))
                        (try simp only [Act.put, List.getElem_toArray, List.getElem_cons_succ, List.getElem_cons_zero, List.setIfInBounds_toArray, List.set_cons_zero, List.set_cons_succ])
                        refine wpAnyH_take (i := 7) (v := ?_) rfl (by kernel_rfl) (by kernel_rfl) (by kernel_rfl) (fun _ _ _ h => h) (Or.inl ⟨by rfl, ?hy20⟩) (by assumption) ?_
                        case hy20 => (intro w9 hSw; (try dsimp only at hSw); go_simp; (try with_reducible rfl))
                        (try simp only [Act.put, List.getElem_toArray, List.getElem_cons_succ, List.getElem_cons_zero, List.setIfInBounds_toArray, List.set_cons_zero, List.set_cons_succ])
                        refine wpAnyH_take (i := 8) (v := ?_) rfl (by kernel_rfl) (by kernel_rfl) (by kernel_rfl) (fun _ _ _ h => h) (Or.inl ⟨by rfl, ?hy20⟩) (by assumption) ?_
                        case hy20 => (intro w9 hSw; (try dsimp only at hSw); go_simp; (try with_reducible rfl))
                        (try simp only [Act.put, List.getElem_toArray, List.getElem_cons_succ, List.getElem_cons_zero, List.setIfInBounds_toArray, List.set_cons_zero, List.set_cons_succ])
                        refine wpAnyH_take (i := 9) (v := ?_) rfl (by kernel_rfl) (by kernel_rfl) (by kernel_rfl) (fun _ _ _ h => h) (Or.inl ⟨by rfl, ?hy20⟩) (by assumption) ?_
                        case hy20 => (intro w9 hSw; (try dsimp only at hSw); go_simp; (try with_reducible rfl))
                        (try simp only [Act.put, List.getElem_toArray, List.getElem_cons_succ, List.getElem_cons_zero, List.setIfInBounds_toArray, List.set_cons_zero, List.set_cons_succ])
                        refine wpAnyH_take (i := 10) (v := ?_) rfl (by kernel_rfl) (by kernel_rfl) (by kernel_rfl) (fun _ _ _ h => h) (Or.inl ⟨by rfl, ?hy20⟩) (by assumption) ?_
                        case hy20 => (intro w9 hSw; (try dsimp only at hSw); go_simp; (try with_reducible rfl))
                        (try simp only [Act.put, List.getElem_toArray, List.getElem_cons_succ, List.getElem_cons_zero, List.setIfInBounds_toArray, List.set_cons_zero, List.set_cons_succ])
                        refine wpAnyH_ready (rs := [5]) (by kernel_rfl) (by simp) ?_
                        refine AllReadyH.cons (o := _) rfl (fun K hK => ?_) AllReadyH.nil
                        go_simp
                        (go_at_call 41; refine (l_colorAt s _ _ _ _ cs z 0 (by first | with_reducible exact I0.out | with_reducible exact I0.out.dr) hzn He1.out).mono ?_; rintro e9 yc ⟨rfl, hb9⟩; (try replace hb9 := undrew hb9); have HC := Lib.hid (bstep HC.out hb9); have X3 := Lib.hid (X3.out.step hb9); have X3_0 := X3.out.cell0; have X3_1 := X3.out.cell1; have ckp := Hcp.out _ (HL.out.trans (HC.out.mono HL.out.size)); have ck7 := Hc7.out _ HC.out; clear hb9)
                        refine hK.out _ _ ?_ (fun hHeld => ?_)
                        · exact ⟨X3_0, X3_1, ckp, ck7⟩
                        clear hK K
                        (try simp only [Act.put, List.getElem_toArray, List.getElem_cons_succ, List.getElem_cons_zero, List.setIfInBounds_toArray, List.set_cons_zero, List.set_cons_succ])
                        refine wpAnyH_take (i := 11) (v := ?_) rfl (by kernel_rfl) (by kernel_rfl) (by kernel_rfl) (fun _ _ _ h => h) (Or.inl ⟨by rfl, ?hy20⟩) (by assumption) ?_
                        case hy20 => (intro w9 hSw; (try dsimp only at hSw); go_simp; (try with_reducible rfl))
                        (try simp only [Act.put, List.getElem_toArray, List.getElem_cons_succ, List.getElem_cons_zero, List.setIfInBounds_toArray, List.set_cons_zero, List.set_cons_succ])
                        refine wpAnyH_take (i := 12) (v := ?_) rfl (by kernel_rfl) (by kernel_rfl) (by kernel_rfl) (fun _ _ _ h => h) (Or.inl ⟨by rfl, ?hy20⟩) (by assumption) ?_
                        case hy20 => (intro w9 hSw; (try dsimp only at hSw); go_simp; (try with_reducible rfl))
                        (try simp only [Act.put, List.getElem_toArray, List.getElem_cons_succ, List.getElem_cons_zero, List.setIfInBounds_toArray, List.set_cons_zero, List.set_cons_succ])
                        refine wpAnyH_take (i := 13) (v := undef) rfl (by kernel_rfl) (by kernel_rfl) (by kernel_rfl) (fun _ _ _ h => h) (Or.inr ⟨by rfl, rfl⟩) (by assumption) ?_
                        (try simp only [Act.put, List.getElem_toArray, List.getElem_cons_succ, List.getElem_cons_zero, List.setIfInBounds_toArray, List.set_cons_zero, List.set_cons_succ])
                        refine wpAnyH_take (i := 14) (v := undef) rfl (by kernel_rfl) (by kernel_rfl) (by kernel_rfl) (fun _ _ _ h => h) (Or.inr ⟨by rfl, rfl⟩) (by assumption) ?_
                        (try simp only [Act.put, List.getElem_toArray, List.getElem_cons_succ, List.getElem_cons_zero, List.setIfInBounds_toArray, List.set_cons_zero, List.set_cons_succ])
                        refine wpAnyH_take (i := 15) (v := undef) rfl (by kernel_rfl) (by kernel_rfl) (by kernel_rfl) (fun _ _ _ h => h) (Or.inr ⟨by rfl, rfl⟩) (by assumption) ?_
                        (try simp only [Act.put, List.getElem_toArray, List.getElem_cons_succ, List.getElem_cons_zero, List.setIfInBounds_toArray, List.set_cons_zero, List.set_cons_succ])
                        refine wpAnyH_take (i := 16) (v := undef) rfl (by kernel_rfl) (by kernel_rfl) (by kernel_rfl) (fun _ _ _ h => h) (Or.inr ⟨by rfl, rfl⟩) (by assumption) ?_
                        (try simp only [Act.put, List.getElem_toArray, List.getElem_cons_succ, List.getElem_cons_zero, List.setIfInBounds_toArray, List.set_cons_zero, List.set_cons_succ])
                        refine wpAnyH_take (i := 17) (v := undef) rfl (by kernel_rfl) (by kernel_rfl) (by kernel_rfl) (fun _ _ _ h => h) (Or.inr ⟨by rfl, rfl⟩) (by assumption) ?_
                        (try simp only [Act.put, List.getElem_toArray, List.getElem_cons_succ, List.getElem_cons_zero, List.setIfInBounds_toArray, List.set_cons_zero, List.set_cons_succ])
                        refine wpAnyH_take (i := 18) (v := undef) rfl (by kernel_rfl) (by kernel_rfl) (by kernel_rfl) (fun _ _ _ h => h) (Or.inr ⟨by rfl, rfl⟩) (by assumption) ?_
                        (try simp only [Act.put, List.getElem_toArray, List.getElem_cons_succ, List.getElem_cons_zero, List.setIfInBounds_toArray, List.set_cons_zero, List.set_cons_succ])
                        refine wpAnyH_take (i := 19) (v := undef) rfl (by kernel_rfl) (by kernel_rfl) (by kernel_rfl) (fun _ _ _ h => h) (Or.inr ⟨by rfl, rfl⟩) (by assumption) ?_
                        (try simp only [Act.put, List.getElem_toArray, List.getElem_cons_succ, List.getElem_cons_zero, List.setIfInBounds_toArray, List.set_cons_zero, List.set_cons_succ])
                        refine wpAnyH_take (i := 20) (v := ?_) rfl (by kernel_rfl) (by kernel_rfl) (by kernel_rfl) (fun _ _ _ h => h) (Or.inl ⟨by rfl, ?hy20⟩) (by assumption) ?_
                        case hy20 => (intro w9 hSw; (try dsimp only at hSw); go_simp; (try with_reducible rfl))
                        (try simp only [Act.put, List.getElem_toArray, List.getElem_cons_succ, List.getElem_cons_zero, List.setIfInBounds_toArray, List.set_cons_zero, List.set_cons_succ])
                        refine wpAnyH_done (by kernel_rfl) ?_ _
                        go_wp2_with fail
                        go_meet
                        exact ⟨rfl, HC.out⟩
                      case rest =>
                        clear HC
                        obtain ⟨rfl, hb920⟩ := hcut
                        clear X3_0 X3_1 X3_l
                        have X3 := Lib.hid (X3.out.step hb920)
                        have I0 := Lib.hid (I0.out.step hb920)
                        have G1 := Lib.hid (G1.out.step hb920)
                        have R7 := Lib.hid (R7.out.step hb920)
                        have HB := Lib.hid (bstep HB.out hb920)
                        have HJ := Lib.hid (bstep HJ.out hb920)
                        have HL := Lib.hid (bstep HL.out hb920)
                        clear hb920
                        have X3_0 := X3.out.cell0
                        have X3_1 := X3.out.cell1
                        have X3_l := X3.out.lt
                        go_wp2_with fail
                        go_roundw
                        case rel => exact ⟨j + 1, by omega, by go_num, HJ.out⟩
                        case measure => simp [intOf]; omega
                    · obtain ⟨rfl, rfl⟩ := hcomb
                      go_upto_region 16 with (fail)
                      have HC := Lib.hid (Below.refl wq.heap.size wq)
                      go_cut [98] (fun v wx => v = .bool false ∧ Below wq.heap.size wq wx)
                      case first =>
                        have ckp := Hcp.out _ (HL.out.trans (HC.out.mono HL.out.size))
                        have ck7 := Hc7.out _ HC.out
                        refine wp_region_held_drew (S := (fun w' => w'.cell? ⟨y0.heap.size, 0, none⟩ = some (.int .i64 s) ∧ w'.cell? ⟨y0.heap.size, 1, none⟩ = some (.slice (some ⟨b, o, none⟩) n c) ∧ w'.cell? ⟨b, o + pn, none⟩ = some (.int .i64 2) ∧ w'.cell? ⟨b7, o7 + j, none⟩ = some (.int .i64 (z : Int)))) (by kernel_rfl) ?_ (fun hHeld => ?_)
                        · exact ⟨X3_0, X3_1, ckp, ck7⟩
                        refine wpAnyH_take (i := 0) (v := ?_) rfl (by kernel_rfl) (by kernel_rfl) (by kernel_rfl) (fun _ _ _ h => h) (Or.inl ⟨by rfl, ?hy21⟩) (by assumption) ?_
                        case hy21 => (intro w9 hSw; (try dsimp only at hSw); go_simp; (try with_reducible rfl))
                        (try simp only [Act.put, List.getElem_toArray, List.getElem_cons_zero, List.setIfInBounds_toArray, List.set_cons_zero, List.set_cons_succ])
                        refine wpAnyH_take (i := 1) (v := ?_) rfl (by kernel_rfl) (by kernel_rfl) (by kernel_rfl) (fun _ _ _ h => h) (Or.inl ⟨by rfl, ?hy21⟩) (by assumption) ?_
                        case hy21 => (intro w9 hSw; (try dsimp only at hSw); go_simp; (try with_reducible rfl))
                        (try simp only [Act.put, List.getElem_toArray, List.getElem_cons_succ, List.getElem_cons_zero, List.setIfInBounds_toArray, List.set_cons_zero, List.set_cons_succ])
                        refine wpAnyH_take (i := 2) (v := ?_) rfl (by kernel_rfl) (by kernel_rfl) (by kernel_rfl) (fun _ _ _ h => h) (Or.inl ⟨by rfl, ?hy21⟩) (by assumption) ?_
                        case hy21 => (intro w9 hSw; (try dsimp only at hSw); go_simp; (try with_reducible rfl))
                        (try simp only [Act.put, List.getElem_toArray, List.getElem_cons_succ, List.getElem_cons_zero, List.setIfInBounds_toArray, List.set_cons_zero, List.set_cons_succ])
                        refine wpAnyH_take (i := 3) (v := ?_) rfl (by kernel_rfl) (by kernel_rfl) (by kernel_rfl) (fun _ _ _ h => h) (Or.inl ⟨by rfl, ?hy21⟩) (by assumption) ?_
                        case hy21 => (intro w9 hSw; (try dsimp only at hSw); go_simp; (try with_reducible rfl))
                        (try simp only [Act.put, List.getElem_toArray, List.getElem_cons_succ, List.getElem_cons_zero, List.setIfInBounds_toArray, List.set_cons_zero, List.set_cons_succ])
                        refine wpAnyH_take (i := 4) (v := ?_) rfl (by kernel_rfl) (by kernel_rfl) (by kernel_rfl) (fun _ _ _ h => h) (Or.inl ⟨by rfl, ?hy21⟩) (by assumption) ?_
                        case hy21 => (intro w9 hSw; (try dsimp only at hSw); go_simp; (try with_reducible rfl))
                        (try simp only [Act.put, List.getElem_toArray, List.getElem_cons_succ, List.getElem_cons_zero, List.setIfInBounds_toArray, List.set_cons_zero, List.set_cons_succ])
                        refine wpAnyH_take (i := 6) (v := ?_) rfl (by kernel_rfl) (by kernel_rfl) (by kernel_rfl) (fun _ _ _ h => h) (Or.inl ⟨by rfl, ?hy21⟩) (by assumption) ?_
                        case hy21 => (intro w9 hSw; (try dsimp only at hSw); go_simp; (try with_reducible rfl))
                        (try simp only [Act.put, List.getElem_toArray, List.getElem_cons_succ, List.getElem_cons_zero, List.setIfInBounds_toArray, List.set_cons_zero, List.set_cons_succ])
                        refine wpAnyH_take (i := 7) (v := ?_) rfl (by kernel_rfl) (by kernel_rfl) (by kernel_rfl) (fun _ _ _ h => h) (Or.inl ⟨by rfl, ?hy21⟩) (by assumption) ?_
                        case hy21 => (intro w9 hSw; (try dsimp only at hSw); go_simp; (try with_reducible rfl))
                        (try simp only [Act.put, List.getElem_toArray, List.getElem_cons_succ, List.getElem_cons_zero, List.setIfInBounds_toArray, List.set_cons_zero, List.set_cons_succ])
                        refine wpAnyH_take (i := 8) (v := ?_) rfl (by kernel_rfl) (by kernel_rfl) (by kernel_rfl) (fun _ _ _ h => h) (Or.inl ⟨by rfl, ?hy21⟩) (by assumption) ?_
                        case hy21 => (intro w9 hSw; (try dsimp only at hSw); go_simp; (try with_reducible rfl))
                        (try simp only [Act.put, List.getElem_toArray, List.getElem_cons_succ, List.getElem_cons_zero, List.setIfInBounds_toArray, List.set_cons_zero, List.set_cons_succ])
                        refine wpAnyH_take (i := 9) (v := ?_) rfl (by kernel_rfl) (by kernel_rfl) (by kernel_rfl) (fun _ _ _ h => h) (Or.inl ⟨by rfl, ?hy21⟩) (by assumption) ?_
                        case hy21 => (intro w9 hSw; (try dsimp only at hSw); go_simp; (try with_reducible rfl))
                        (try simp only [Act.put, List.getElem_toArray, List.getElem_cons_succ, List.getElem_cons_zero, List.setIfInBounds_toArray, List.set_cons_zero, List.set_cons_succ])
                        refine wpAnyH_take (i := 10) (v := ?_) rfl (by kernel_rfl) (by kernel_rfl) (by kernel_rfl) (fun _ _ _ h => h) (Or.inl ⟨by rfl, ?hy21⟩) (by assumption) ?_
                        case hy21 => (intro w9 hSw; (try dsimp only at hSw); go_simp; (try with_reducible rfl))
                        (try simp only [Act.put, List.getElem_toArray, List.getElem_cons_succ, List.getElem_cons_zero, List.setIfInBounds_toArray, List.set_cons_zero, List.set_cons_succ])
                        refine wpAnyH_ready (rs := [5]) (by kernel_rfl) (by simp) ?_
                        refine AllReadyH.cons (o := _) rfl (fun K hK => ?_) AllReadyH.nil
                        go_simp
                        (go_at_call 41; refine (l_colorAt s _ _ _ _ cs z 1 (by first | with_reducible exact I0.out | with_reducible exact I0.out.dr) hzn He1.out).mono ?_; rintro e9 yc ⟨rfl, hb9⟩; (try replace hb9 := undrew hb9); have HC := Lib.hid (bstep HC.out hb9); have X3 := Lib.hid (X3.out.step hb9); have X3_0 := X3.out.cell0; have X3_1 := X3.out.cell1; have ckp := Hcp.out _ (HL.out.trans (HC.out.mono HL.out.size)); have ck7 := Hc7.out _ HC.out; clear hb9)
                        refine hK.out _ _ ?_ (fun hHeld => ?_)
                        · exact ⟨X3_0, X3_1, ckp, ck7⟩
                        clear hK K
                        (try simp only [Act.put, List.getElem_toArray, List.getElem_cons_succ, List.getElem_cons_zero, List.setIfInBounds_toArray, List.set_cons_zero, List.set_cons_succ])
                        refine wpAnyH_take (i := 11) (v := ?_) rfl (by kernel_rfl) (by kernel_rfl) (by kernel_rfl) (fun _ _ _ h => h) (Or.inl ⟨by rfl, ?hy21⟩) (by assumption) ?_
                        case hy21 => (intro w9 hSw; (try dsimp only at hSw); go_simp; (try with_reducible rfl))
                        (try simp only [Act.put, List.getElem_toArray, List.getElem_cons_succ, List.getElem_cons_zero, List.setIfInBounds_toArray, List.set_cons_zero, List.set_cons_succ])
                        refine wpAnyH_take (i := 12) (v := ?_) rfl (by kernel_rfl) (by kernel_rfl) (by kernel_rfl) (fun _ _ _ h => h) (Or.inl ⟨by rfl, ?hy21⟩) (by assumption) ?_
                        case hy21 => (intro w9 hSw; (try dsimp only at hSw); go_simp; (try with_reducible rfl))
                        (try simp only [Act.put, List.getElem_toArray, List.getElem_cons_succ, List.getElem_cons_zero, List.setIfInBounds_toArray, List.set_cons_zero, List.set_cons_succ])
                        refine wpAnyH_take (i := 13) (v := undef) rfl (by kernel_rfl) (by kernel_rfl) (by kernel_rfl) (fun _ _ _ h => h) (Or.inr ⟨by rfl, rfl⟩) (by assumption) ?_
                        (try simp only [Act.put, List.getElem_toArray, List.getElem_cons_succ, List.getElem_cons_zero, List.setIfInBounds_toArray, List.set_cons_zero, List.set_cons_succ])
                        refine wpAnyH_take (i := 14) (v := undef) rfl (by kernel_rfl) (by kernel_rfl) (by kernel_rfl) (fun _ _ _ h => h) (Or.inr ⟨by rfl, rfl⟩) (by assumption) ?_
                        (try simp only [Act.put, List.getElem_toArray, List.getElem_cons_succ, List.getElem_cons_zero, List.setIfInBounds_toArray, List.set_cons_zero, List.set_cons_succ])
                        refine wpAnyH_take (i := 15) (v := undef) rfl (by kernel_rfl) (by kernel_rfl) (by kernel_rfl) (fun _ _ _ h => h) (Or.inr ⟨by rfl, rfl⟩) (by assumption) ?_
                        (try simp only [Act.put, List.getElem_toArray, List.getElem_cons_succ, List.getElem_cons_zero, List.setIfInBounds_toArray, List.set_cons_zero, List.set_cons_succ])
                        refine wpAnyH_take (i := 16) (v := undef) rfl (by kernel_rfl) (by kernel_rfl) (by kernel_rfl) (fun _ _ _ h => h) (Or.inr ⟨by rfl, rfl⟩) (by assumption) ?_
                        (try simp only [Act.put, List.getElem_toArray, List.getElem_cons_succ, List.getElem_cons_zero, List.setIfInBounds_toArray, List.set_cons_zero, List.set_cons_succ])
                        refine wpAnyH_take (i := 17) (v := undef) rfl (by kernel_rfl) (by kernel_rfl) (by kernel_rfl) (fun _ _ _ h => h) (Or.inr ⟨by rfl, rfl⟩) (by assumption) ?_
                        (try simp only [Act.put, List.getElem_toArray, List.getElem_cons_succ, List.getElem_cons_zero, List.setIfInBounds_toArray, List.set_cons_zero, List.set_cons_succ])
                        refine wpAnyH_take (i := 18) (v := undef) rfl (by kernel_rfl) (by kernel_rfl) (by kernel_rfl) (fun _ _ _ h => h) (Or.inr ⟨by rfl, rfl⟩) (by assumption) ?_
                        (try simp only [Act.put, List.getElem_toArray, List.getElem_cons_succ, List.getElem_cons_zero, List.setIfInBounds_toArray, List.set_cons_zero, List.set_cons_succ])
                        refine wpAnyH_take (i := 19) (v := undef) rfl (by kernel_rfl) (by kernel_rfl) (by kernel_rfl) (fun _ _ _ h => h) (Or.inr ⟨by rfl, rfl⟩) (by assumption) ?_
                        (try simp only [Act.put, List.getElem_toArray, List.getElem_cons_succ, List.getElem_cons_zero, List.setIfInBounds_toArray, List.set_cons_zero, List.set_cons_succ])
                        refine wpAnyH_take (i := 20) (v := ?_) rfl (by kernel_rfl) (by kernel_rfl) (by kernel_rfl) (fun _ _ _ h => h) (Or.inl ⟨by rfl, ?hy21⟩) (by assumption) ?_
                        case hy21 => (intro w9 hSw; (try dsimp only at hSw); go_simp; (try with_reducible rfl))
                        (try simp only [Act.put, List.getElem_toArray, List.getElem_cons_succ, List.getElem_cons_zero, List.setIfInBounds_toArray, List.set_cons_zero, List.set_cons_succ])
                        refine wpAnyH_done (by kernel_rfl) ?_ _
                        go_wp2_with fail
                        go_meet
                        exact ⟨rfl, HC.out⟩
                      case rest =>
                        clear HC
                        obtain ⟨rfl, hb921⟩ := hcut
                        clear X3_0 X3_1 X3_l
                        have X3 := Lib.hid (X3.out.step hb921)
                        have I0 := Lib.hid (I0.out.step hb921)
                        have G1 := Lib.hid (G1.out.step hb921)
                        have R7 := Lib.hid (R7.out.step hb921)
                        have HB := Lib.hid (bstep HB.out hb921)
                        have HJ := Lib.hid (bstep HJ.out hb921)
                        have HL := Lib.hid (bstep HL.out hb921)
                        clear hb921
                        have X3_0 := X3.out.cell0
                        have X3_1 := X3.out.cell1
                        have X3_l := X3.out.lt
                        go_wp2_with fail
                        go_roundw
                        case rel => exact ⟨j + 1, by omega, by go_num, HJ.out⟩
                        case measure => simp [intOf]; omega
                · go_wp2_with fail
                  go_roundw
                  case rel => exact ⟨k + 1, by omega, by go_num, HL.out⟩
                  case measure => simp [intOf]; omega
        · have Hpin : Hid ((pn : Int) ∈ lr) := Lib.hid ((Hr.out.mem s1 s7 Hns.out hpn pn).2 .base)
          have Hasc := Lib.hid Hr.out.asc
          go_wp2_with fail
          refine (l_isInY _ _ _ _ lr (pn : Int) G1.out (by omega) Hpin.out).mono ?_
          rintro e x365 ⟨rfl, hb366⟩
          clear X3_0 X3_1 X3_l
          have X3 := Lib.hid (X3.out.step hb366)
          have I0 := Lib.hid (I0.out.step hb366)
          have G1 := Lib.hid (G1.out.step hb366)
          have HB := Lib.hid (bstep HB.out hb366)
          clear hb366
          have X3_0 := X3.out.cell0
          have X3_1 := X3.out.cell1
          have X3_l := X3.out.lt
          go_wp2_with fail
          refine (l_ascends _ _ _ _ lr G1.out (by omega) Hasc.out).mono ?_
          rintro e x368 ⟨rfl, hb369⟩
          clear X3_0 X3_1 X3_l
          have X3 := Lib.hid (X3.out.step hb369)
          have I0 := Lib.hid (I0.out.step hb369)
          have G1 := Lib.hid (G1.out.step hb369)
          have HB := Lib.hid (bstep HB.out hb369)
          clear hb369
          have X3_0 := X3.out.cell0
          have X3_1 := X3.out.cell1
          have X3_l := X3.out.lt
          go_wp2_with fail
          go_ret
          exact ⟨rfl, HB.out⟩


set_option maxRecDepth 100000 in
theorem lifted (os : Os) (started : os.Started) (H : Type) (enc : TypeId × Value → H) :
    ReturnsInHanded {} Try.checked os 9 .any (Rows.fnGroupOfSpec.pre6 enc Try.prog Try.f9 Rows.fnGroupOfRow.domain false) (Rows.fnGroupOfSpec.post enc Try.prog Try.f9 false true false false) := by
  refine returnsInHanded_of_change (C := Try.checked) own started (by kernel_rfl) Try.func9
    (ChangeSpec.witness6 (enc := enc) (C := Try.checked) false ⟨#[], #[.slice none 0 0], []⟩ 8 (by kernel_rfl) (by kernel_rfl) (by kernel_rfl) (by kernel_rfl)) ?_
  intro W base args ds gs before hval0 hW hcnd _
  have hval : ∀ (j : Nat) t v, Try.f9.params[j]? = some t → args[j]? = some v → Value.okWide Try.prog W .any base t v := hval0
  have hW' := hW
  obtain ⟨p, q, hA0, hV, rfl, hfz, hnd⟩ := hW
  have hA : DataW.TrodAll enc Try.prog W 0 (fun _ => true) true Try.f9.params.toList args.toList ds p := hA0
  rw [Try.params9] at hA hval
  obtain ⟨v0, vs0, d0, ds0, p0, q0, hargs, rfl, rfl, h0, r0⟩ := trodAll_cons hA
  obtain ⟨rfl, rfl, rfl⟩ := trodAll_nil r0
  obtain rfl : args = #[v0] := by cases args; simp_all
  obtain ⟨rfl, rfl⟩ := trodVars_none hV
  obtain ⟨a0, len0, cap0, rfl⟩ := okWide_slice Try.underlying22 (hval 0 22 v0 rfl rfl)
  have k0 := h0
  have lt0 : ∀ x ∈ p0, x.block < W.heap.size := by obtain ⟨m, hm⟩ := k0; exact DataW.trod_lt m _ _ _ hm
  obtain ⟨z0, w0⟩ : ∃ zs, IsRow .u8 W a0 len0 cap0 zs := by
    obtain ⟨fuel, hf⟩ := h0
    rcases open_ints Try.underlying22 Try.underlying5 (by kernel_rfl) hf with ⟨hcs, _⟩ | ⟨x, l, c, zs, hcs, _, hl, hm, hz, _, hcell, hwz⟩
    · simp [Value.cells] at hcs
      obtain ⟨rfl, rfl, rfl⟩ := hcs
      exact ⟨[], .inl ⟨rfl, rfl, rfl, rfl⟩⟩
    · simp [Value.cells] at hcs
      obtain ⟨rfl, rfl, rfl⟩ := hcs
      exact ⟨zs, .inr ⟨_, rfl, hl, hm, by simpa using hz, hcell, hwz⟩⟩
  clear hA0 hval0
  refine (walk a0 len0 cap0 z0 W w0).mono fun e W' ⟨he, bel⟩ => ?_
  subst he
  exact ⟨_, rfl, _, _, _, [], _, [], hW', trodAll_mk1 (shut_bool Try.underlying4 _), (trodAll_cons_mk (Below.trod laidOut (by kernel_rfl) (of_decide_eq_true (by kernel_rfl)) k0 bel lt0) trodAll_mk0), rfl, bel.frame _, fun h => by cases h⟩

theorem over : Rows.fnGroupOfRow.holds Try.pinned (OpenSpec.ofChange Rows.fnGroupOfSpec) :=
  OpenClaim.holds_of_wide 9 Try.f9 rfl rfl rfl rfl rfl rfl rfl ⟨rfl, rfl, rfl, rfl, rfl⟩ rfl rfl rfl rfl rfl (by kernel_rfl) Try.func9 (by kernel_rfl)
    (of_decide_eq_true (by kernel_rfl)) (by unfold Func.isWrapper; first | (rw [if_pos (by decide +kernel)]; kernel_rfl) | (rw [if_neg (by decide +kernel)]; exact ⟨rfl, rfl⟩))
    (fun os started H enc _ => lifted os started H enc)

theorem proved : Rows.FnGroupOfSaid := over
end Go.Proofs.Ytpopbcmfbcmojaa.fnGroupOf
