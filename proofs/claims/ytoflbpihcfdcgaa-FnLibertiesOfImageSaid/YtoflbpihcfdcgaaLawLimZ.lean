/-
  The law of images of liberties: for every drawn board and point, the liberties of the image of a stone are the images of its liberties, and so are the groups. For every code. No condition.
-/
import Derived.Test.YtoflbpihcfdcgaaLawKitG
import Derived.Test.YtoflbpihcfdcgaaRows
import Derived.Deep.RegionHeld3
import Derived.Deep.RegionWith
import Derived.Deep.DeepCutAuto
import Derived.WalkKit
import Derived.ProofKit
import Derived.OpenShut
import Derived.ShutString
import Derived.ChangeOld
import Derived.Below
namespace Go.Proofs.Ytoflbpihcfdcgaa.fnLibertiesOfImage
open Go.ChangeShapes Go.WideShapes Go.ChangeAt Go.RowKit
open Go.ChangeMaps (open_string shut_string)
set_option linter.unusedVariables false

theorem own : ownKnob Try.prog.godebug = none := by kernel_rfl
theorem laidOut : laidOutB Try.prog = true := by kernel_rfl


set_option maxRecDepth 100000 in
set_option maxHeartbeats 16000000 in
theorem walk (a0 : Option Addr) (len0 cap0 : Nat) (z0 : List Int) (w : World) (w0 : IsRow .u8 w a0 len0 cap0 z0) :
    Calls Try.prog 14 #[.slice a0 len0 cap0] w fun e w' => e = .returned (.bool true) ∧ Below w.heap.size w w' := by
  by_cases hl : 1048576 < len0
  · go_enter Try.func14, Try.ntmps14
    go_wp2_with fail
    go_ret
    exact ⟨rfl, Below.refl _ _⟩
  · have hl' : decide ((1048576 : Int) < (len0 : Int)) = false := by rw [decide_eq_false_iff_not]; omega
    go_enter Try.func14, Try.ntmps14
    go_wp2_with fail
    refine (d_lib w a0 len0 cap0 z0 w0).mono ?_
    rintro e y0 ⟨s, A, n, c, cs, p, rfl, hi, hn49, s0, s8, hp9, hb⟩
    have I0 := Lib.hid hi
    have HB := Lib.hid hb
    clear hi hb w0 hl'
    go_wp2_with fail
    obtain ⟨x1, hy3, hb2, z4, z5⟩ := new_box y0 (.cells #[.int .i64 s, .slice A n c] 25)
    have X3 : Hid (Bx 25 x1 y0.heap.size s (.slice A n c)) := Lib.hid (by rw [hy3]; exact Bx.new _ _ _ _)
    rw [← hy3]
    clear hy3
    have I0 := Lib.hid (I0.out.step hb2)
    have HB := Lib.hid (bstep HB.out hb2)
    clear hb2
    have X3_0 := X3.out.cell0
    have X3_1 := X3.out.cell1
    have X3_l := X3.out.lt
    obtain ⟨lr, hl9⟩ := GrpIs.make s n cs p I0.out.1
    have Hl := Lib.hid hl9
    obtain ⟨m, hm⟩ : ∃ m, lr.length = m := ⟨_, rfl⟩
    have Hm := Lib.hid hm
    have hm49 := hl9.few
    rw [hm] at hm49
    clear hl9 hm
    obtain ⟨ll, hl9⟩ := LibIs.make s n cs p I0.out.1
    have Hll := Lib.hid hl9
    obtain ⟨ml, hm⟩ : ∃ m, ll.length = m := ⟨_, rfl⟩
    have Hml := Lib.hid hm
    have hml49 := hl9.few
    rw [hm] at hml49
    clear hl9 hm
    go_wp2_with fail
    refine (i_LibW s p _ _ _ _ ml cs ll I0.out hn49 Hll Hml.out).mono ?_
    rintro e x6 ⟨A0, c0, rfl, ho8, hb7⟩
    clear X3_0 X3_1 X3_l
    have X3 := Lib.hid (X3.out.step hb7)
    have I0 := Lib.hid (I0.out.step hb7)
    have HB := Lib.hid (bstep HB.out hb7)
    have L1 := Lib.hid ho8.ints
    have lenL1 := ho8.1
    clear lenL1
    clear hb7 ho8
    have X3_0 := X3.out.cell0
    have X3_1 := X3.out.cell1
    have X3_l := X3.out.lt
    go_wp2_with fail
    refine (s_LibW s p _ _ _ _ ml cs ll I0.out hn49 Hll Hml.out).mono ?_
    rintro e x9 ⟨A2, c2, rfl, ho11, hb10⟩
    clear X3_0 X3_1 X3_l
    have X3 := Lib.hid (X3.out.step hb10)
    have I0 := Lib.hid (I0.out.step hb10)
    have L1 := Lib.hid (L1.out.step hb10)
    have HB := Lib.hid (bstep HB.out hb10)
    have L2 := Lib.hid ho11.ints
    have lenL2 := ho11.1
    clear lenL2
    clear hb10 ho11
    have X3_0 := X3.out.cell0
    have X3_1 := X3.out.cell1
    have X3_l := X3.out.lt
    go_wp2_with fail
    refine (eqi_b _ _ _ _ _ _ ll L1.out L2.out (by omega)).mono ?_
    rintro e x12 ⟨rfl, hb13⟩
    clear X3_0 X3_1 X3_l
    have X3 := Lib.hid (X3.out.step hb13)
    have I0 := Lib.hid (I0.out.step hb13)
    have L1 := Lib.hid (L1.out.step hb13)
    have L2 := Lib.hid (L2.out.step hb13)
    have HB := Lib.hid (bstep HB.out hb13)
    clear hb13
    have X3_0 := X3.out.cell0
    have X3_1 := X3.out.cell1
    have X3_l := X3.out.lt
    go_wp2_with fail
    refine (i_GroupW s p _ _ _ _ m cs lr I0.out hn49 Hl Hm.out).mono ?_
    rintro e x15 ⟨A1, c1, rfl, ho17, hb16⟩
    clear X3_0 X3_1 X3_l
    have X3 := Lib.hid (X3.out.step hb16)
    have I0 := Lib.hid (I0.out.step hb16)
    have L1 := Lib.hid (L1.out.step hb16)
    have L2 := Lib.hid (L2.out.step hb16)
    have HB := Lib.hid (bstep HB.out hb16)
    have G1 := Lib.hid ho17.ints
    have lenG1 := ho17.1
    clear lenG1
    clear hb16 ho17
    have X3_0 := X3.out.cell0
    have X3_1 := X3.out.cell1
    have X3_l := X3.out.lt
    by_cases hm0 : m = 0
    · have hmz : ((m : Int) == 0) = true := by rw [hm0]; rfl
      clear hm0
      go_wp2_with fail
      refine (s_LibW s p _ _ _ _ ml cs ll I0.out hn49 Hll Hml.out).mono ?_
      rintro e x718 ⟨A4, c4, rfl, ho720, hb719⟩
      clear X3_0 X3_1 X3_l
      have X3 := Lib.hid (X3.out.step hb719)
      have I0 := Lib.hid (I0.out.step hb719)
      have L1 := Lib.hid (L1.out.step hb719)
      have L2 := Lib.hid (L2.out.step hb719)
      have G1 := Lib.hid (G1.out.step hb719)
      have HB := Lib.hid (bstep HB.out hb719)
      have L4 := Lib.hid ho720.ints
      have lenL4 := ho720.1
      clear lenL4
      clear hb719 ho720
      have X3_0 := X3.out.cell0
      have X3_1 := X3.out.cell1
      have X3_l := X3.out.lt
      go_wp2_with fail
      refine (eqi_b _ _ _ _ _ _ ll L1.out L4.out (by omega)).mono ?_
      rintro e x721 ⟨rfl, hb722⟩
      clear X3_0 X3_1 X3_l
      have X3 := Lib.hid (X3.out.step hb722)
      have I0 := Lib.hid (I0.out.step hb722)
      have L1 := Lib.hid (L1.out.step hb722)
      have L2 := Lib.hid (L2.out.step hb722)
      have G1 := Lib.hid (G1.out.step hb722)
      have L4 := Lib.hid (L4.out.step hb722)
      have HB := Lib.hid (bstep HB.out hb722)
      clear hb722
      have X3_0 := X3.out.cell0
      have X3_1 := X3.out.cell1
      have X3_l := X3.out.lt
      go_wp2_with fail
      go_ret
      exact ⟨rfl, HB.out⟩
    · have hmz : ((m : Int) == 0) = false := by simpa using hm0
      have hst1 : hst s cs p = true := by
        rcases Bool.eq_false_or_eq_true (hst s cs p) with e | e
        · exact e
        · exfalso; apply hm0; rw [← Hm.out, Hl.out.2 e]; rfl
      obtain ⟨a1, a2, a3⟩ := hst_iff hst1
      obtain ⟨s1, s7, hsn, _⟩ := (Bd.okB_iff s cs).1 a1
      obtain ⟨_, _, p1, p2⟩ := (Pt.okP_iff s p).1 a2
      have hlI := I0.out.1
      have Hcs := Lib.hid hlI
      have hns : (n : Int) = s * s := by rw [← hsn, hlI]
      obtain ⟨pn, rfl⟩ := Int.eq_ofNat_of_zero_le p1
      have hpn : pn < n := by omega
      have hsq := Pt.sq_bd s s1 s7
      have hr : Reached s n (hasCol (cs.getD pn 0) cs) (pn : Int) lr := by have := Hl.out.1 hst1; rw [Int.toNat_natCast] at this; exact this
      rw [Int.toNat_natCast] at a3
      obtain ⟨kk, hkk⟩ : ∃ kk, len0 % 8 = kk := ⟨_, rfl⟩
      have hk8 : kk < 8 := by omega
      have hmod : Int.tmod (len0 : Int) 8 = (kk : Int) := by rw [← hkk]; rfl
      have k1 : (0 : Int) ≤ (kk : Int) := by omega
      have k2 : (kk : Int) < 8 := by omega
      have hgi := GrpIs.img s1 s7 hns k1 k2 hlI a1 hpn a3 hr
      have hli := LibIs.img s1 s7 hns k1 k2 hlI Hl.out hr.all Hll.out hgi
      have hqn := (Bd.imgN_lt s (kk : Int) n pn s1 s7 hns hpn).1
      have htr := tr_nat s1 s7 hns k1 k2 hpn
      obtain ⟨q, hq⟩ : ∃ q, Bd.imgN s (kk : Int) pn = q := ⟨_, rfl⟩
      obtain ⟨cs1, hc1⟩ : ∃ l, Bd.mv s (kk : Int) cs = l := ⟨_, rfl⟩
      obtain ⟨li, hli9⟩ : ∃ l, Pt.imagesOf s (kk : Int) ll = l := ⟨_, rfl⟩
      obtain ⟨gi, hgi9⟩ : ∃ l, Pt.imagesOf s (kk : Int) lr = l := ⟨_, rfl⟩
      rw [hq, hc1, hli9] at hli
      rw [hq, hc1, hgi9] at hgi
      rw [hq] at htr hqn
      obtain ⟨mi, hmi⟩ : ∃ m, li.length = m := ⟨_, rfl⟩
      obtain ⟨gm, hgm⟩ : ∃ m, gi.length = m := ⟨_, rfl⟩
      have hmi49 := hli.few
      rw [hmi] at hmi49
      have hgm49 := hgi.few
      rw [hgm] at hgm49
      have Htr : Hid (∀ w, Calls Try.prog 21 #[.int .i64 s, .int .i64 (kk : Int), .int .i64 (pn : Nat)] w fun e w' => e = .returned (.int .i64 (q : Nat)) ∧ Below w.heap.size w w') := Lib.hid (fun w => by rw [← htr]; exact i_tr s (kk : Int) (pn : Nat) w)
      have Hv := Lib.hid a1
      have Hkk := Lib.hid ((Pt.okK_iff (kk : Int)).2 ⟨k1, k2⟩)
      have Hc1 := Lib.hid hc1
      have Hli := Lib.hid hli
      have Hgi := Lib.hid hgi
      have Hlie := Lib.hid hli9
      have Hgie := Lib.hid hgi9
      have Hmi := Lib.hid hmi
      have Hgm := Lib.hid hgm
      have hmi9 : mi ≤ 1000000000 := by omega
      have hgm9 : gm ≤ 1000000000 := by omega
      have hml7 : ml ≤ 49 := by omega
      have hm7 : m ≤ 49 := by omega
      clear hst1 a1 a2 a3 hsn p2 hlI hns hr hkk hgi hli htr hq hc1 hli9 hgi9 hmi hgm
      go_wp2_with fail
      refine (Htr.out _).mono ?_
      rintro e x68 ⟨rfl, hb69⟩
      clear X3_0 X3_1 X3_l
      have X3 := Lib.hid (X3.out.step hb69)
      have I0 := Lib.hid (I0.out.step hb69)
      have L1 := Lib.hid (L1.out.step hb69)
      have L2 := Lib.hid (L2.out.step hb69)
      have G1 := Lib.hid (G1.out.step hb69)
      have HB := Lib.hid (bstep HB.out hb69)
      clear hb69
      have X3_0 := X3.out.cell0
      have X3_1 := X3.out.cell1
      have X3_l := X3.out.lt
      go_wp2_with fail
      refine (i_trW s (kk : Int) _ _ _ _ cs cs1 I0.out hn49 Hv.out Hkk.out Hc1.out).mono ?_
      rintro e x71 ⟨A6, c6, rfl, ho73, hb72⟩
      clear X3_0 X3_1 X3_l
      have X3 := Lib.hid (X3.out.step hb72)
      have I0 := Lib.hid (I0.out.step hb72)
      have L1 := Lib.hid (L1.out.step hb72)
      have L2 := Lib.hid (L2.out.step hb72)
      have G1 := Lib.hid (G1.out.step hb72)
      have HB := Lib.hid (bstep HB.out hb72)
      have I1 := Lib.hid ho73.ints
      have lenI1 := ho73.1
      clear lenI1
      clear hb72 ho73
      have X3_0 := X3.out.cell0
      have X3_1 := X3.out.cell1
      have X3_l := X3.out.lt
      go_wp2_with fail
      obtain ⟨x74, hy76, hb75, z77, z78⟩ := new_box x71 (.cells #[.int .i64 s, .slice A6 n c6] 25)
      have X4 : Hid (Bx 25 x74 x71.heap.size s (.slice A6 n c6)) := Lib.hid (by rw [hy76]; exact Bx.new _ _ _ _)
      rw [← hy76]
      clear hy76
      clear X3_0 X3_1 X3_l
      have X3 := Lib.hid (X3.out.step hb75)
      have I0 := Lib.hid (I0.out.step hb75)
      have L1 := Lib.hid (L1.out.step hb75)
      have L2 := Lib.hid (L2.out.step hb75)
      have G1 := Lib.hid (G1.out.step hb75)
      have I1 := Lib.hid (I1.out.step hb75)
      have HB := Lib.hid (bstep HB.out hb75)
      clear hb75
      have X3_0 := X3.out.cell0
      have X3_1 := X3.out.cell1
      have X3_l := X3.out.lt
      have X4_0 := X4.out.cell0
      have X4_1 := X4.out.cell1
      have X4_l := X4.out.lt
      go_wp2_with fail
      have HC := Lib.hid (Below.refl x74.heap.size x74)
      go_cut [2] (fun v wx => v = .bool true ∧ Below x74.heap.size x74 wx)
      case first =>
        go_region_held3 (fun w' => w'.cell? ⟨y0.heap.size, 0, none⟩ = some (.int .i64 s) ∧ w'.cell? ⟨y0.heap.size, 1, none⟩ = some (.slice A n c) ∧ w'.cell? ⟨x71.heap.size, 0, none⟩ = some (.int .i64 s) ∧ w'.cell? ⟨x71.heap.size, 1, none⟩ = some (.slice A6 n c6)) (first | exact ⟨X3_0, X3_1, X4_0, X4_1⟩ | go_keep) (first | (go_at_call 38; refine (i_LibW s (q : Int) _ _ _ _ mi cs1 li (by first | with_reducible exact I1.out | with_reducible exact I1.out.dr) hn49 Hli Hmi.out).mono ?_; rintro e yc ⟨A10, c10, rfl, ho9, hb9⟩; (try replace hb9 := undrew hb9); (try (have X3 := Lib.hid (X3.out.step hb9))); (try (have X4 := Lib.hid (X4.out.step hb9))); (try (have I0 := Lib.hid (I0.out.step hb9))); (try (have L1 := Lib.hid (L1.out.step hb9))); (try (have L2 := Lib.hid (L2.out.step hb9))); (try (have G1 := Lib.hid (G1.out.step hb9))); (try (have I1 := Lib.hid (I1.out.step hb9))); (try (have R10 := Lib.hid (R10.out.step hb9))); (try (have R11 := Lib.hid (R11.out.step hb9))); (try (have R12 := Lib.hid (R12.out.step hb9))); (try (have R13 := Lib.hid (R13.out.step hb9))); (try (have R14 := Lib.hid (R14.out.step hb9))); have HC := Lib.hid (bstep HC.out hb9); have X3_0 := X3.out.cell0; have X3_1 := X3.out.cell1; have X3_l := X3.out.lt; have X4_0 := X4.out.cell0; have X4_1 := X4.out.cell1; have X4_l := X4.out.lt; have R10 := Lib.hid ho9.ints; clear hb9 ho9) | (go_at_call 52; with_reducible show Calls _ _ #[_, _, .slice A0 _ _] _ _; refine (images_W s (kk : Int) _ _ _ _ mi ll li s1 s7 (by first | with_reducible exact L1.out | with_reducible exact L1.out.dr) hml7 Hlie.out Hmi.out).mono ?_; rintro e yc ⟨A11, c11, rfl, ho9, hb9⟩; (try replace hb9 := undrew hb9); (try (have X3 := Lib.hid (X3.out.step hb9))); (try (have X4 := Lib.hid (X4.out.step hb9))); (try (have I0 := Lib.hid (I0.out.step hb9))); (try (have L1 := Lib.hid (L1.out.step hb9))); (try (have L2 := Lib.hid (L2.out.step hb9))); (try (have G1 := Lib.hid (G1.out.step hb9))); (try (have I1 := Lib.hid (I1.out.step hb9))); (try (have R10 := Lib.hid (R10.out.step hb9))); (try (have R11 := Lib.hid (R11.out.step hb9))); (try (have R12 := Lib.hid (R12.out.step hb9))); (try (have R13 := Lib.hid (R13.out.step hb9))); (try (have R14 := Lib.hid (R14.out.step hb9))); have HC := Lib.hid (bstep HC.out hb9); have X3_0 := X3.out.cell0; have X3_1 := X3.out.cell1; have X3_l := X3.out.lt; have X4_0 := X4.out.cell0; have X4_1 := X4.out.cell1; have X4_l := X4.out.lt; have R11 := Lib.hid ho9.ints; clear hb9 ho9) | (go_at_call 47; with_reducible show Calls _ _ #[.slice A10 _ _, _] _ _; refine (eqi_b _ _ _ _ _ _ li (by first | with_reducible exact R10.out | with_reducible exact R10.out.dr) (by first | with_reducible exact R11.out | with_reducible exact R11.out.dr) hmi9).mono ?_; rintro e yc ⟨rfl, hb9⟩; (try replace hb9 := undrew hb9); (try (have X3 := Lib.hid (X3.out.step hb9))); (try (have X4 := Lib.hid (X4.out.step hb9))); (try (have I0 := Lib.hid (I0.out.step hb9))); (try (have L1 := Lib.hid (L1.out.step hb9))); (try (have L2 := Lib.hid (L2.out.step hb9))); (try (have G1 := Lib.hid (G1.out.step hb9))); (try (have I1 := Lib.hid (I1.out.step hb9))); (try (have R10 := Lib.hid (R10.out.step hb9))); (try (have R11 := Lib.hid (R11.out.step hb9))); (try (have R12 := Lib.hid (R12.out.step hb9))); (try (have R13 := Lib.hid (R13.out.step hb9))); (try (have R14 := Lib.hid (R14.out.step hb9))); have HC := Lib.hid (bstep HC.out hb9); have X3_0 := X3.out.cell0; have X3_1 := X3.out.cell1; have X3_l := X3.out.lt; have X4_0 := X4.out.cell0; have X4_1 := X4.out.cell1; have X4_l := X4.out.lt; clear hb9) | (go_at_call 33; with_reducible show Calls _ _ #[_, .int .i64 ((q : Nat) : Int)] _ _; refine (i_GroupW s (q : Int) _ _ _ _ gm cs1 gi (by first | with_reducible exact I1.out | with_reducible exact I1.out.dr) hn49 Hgi Hgm.out).mono ?_; rintro e yc ⟨A12, c12, rfl, ho9, hb9⟩; (try replace hb9 := undrew hb9); (try (have X3 := Lib.hid (X3.out.step hb9))); (try (have X4 := Lib.hid (X4.out.step hb9))); (try (have I0 := Lib.hid (I0.out.step hb9))); (try (have L1 := Lib.hid (L1.out.step hb9))); (try (have L2 := Lib.hid (L2.out.step hb9))); (try (have G1 := Lib.hid (G1.out.step hb9))); (try (have I1 := Lib.hid (I1.out.step hb9))); (try (have R10 := Lib.hid (R10.out.step hb9))); (try (have R11 := Lib.hid (R11.out.step hb9))); (try (have R12 := Lib.hid (R12.out.step hb9))); (try (have R13 := Lib.hid (R13.out.step hb9))); (try (have R14 := Lib.hid (R14.out.step hb9))); have HC := Lib.hid (bstep HC.out hb9); have X3_0 := X3.out.cell0; have X3_1 := X3.out.cell1; have X3_l := X3.out.lt; have X4_0 := X4.out.cell0; have X4_1 := X4.out.cell1; have X4_l := X4.out.lt; have R12 := Lib.hid ho9.ints; clear hb9 ho9) | (go_at_call 33; with_reducible show Calls _ _ #[_, .int .i64 ((pn : Nat) : Int)] _ _; refine (i_GroupW s (pn : Int) _ _ _ _ m cs lr (by first | with_reducible exact I0.out | with_reducible exact I0.out.dr) hn49 Hl Hm.out).mono ?_; rintro e yc ⟨A13, c13, rfl, ho9, hb9⟩; (try replace hb9 := undrew hb9); (try (have X3 := Lib.hid (X3.out.step hb9))); (try (have X4 := Lib.hid (X4.out.step hb9))); (try (have I0 := Lib.hid (I0.out.step hb9))); (try (have L1 := Lib.hid (L1.out.step hb9))); (try (have L2 := Lib.hid (L2.out.step hb9))); (try (have G1 := Lib.hid (G1.out.step hb9))); (try (have I1 := Lib.hid (I1.out.step hb9))); (try (have R10 := Lib.hid (R10.out.step hb9))); (try (have R11 := Lib.hid (R11.out.step hb9))); (try (have R12 := Lib.hid (R12.out.step hb9))); (try (have R13 := Lib.hid (R13.out.step hb9))); (try (have R14 := Lib.hid (R14.out.step hb9))); have HC := Lib.hid (bstep HC.out hb9); have X3_0 := X3.out.cell0; have X3_1 := X3.out.cell1; have X3_l := X3.out.lt; have X4_0 := X4.out.cell0; have X4_1 := X4.out.cell1; have X4_l := X4.out.lt; have R13 := Lib.hid ho9.ints; clear hb9 ho9) | (go_at_call 52; with_reducible show Calls _ _ #[_, _, .slice A13 _ _] _ _; refine (images_W s (kk : Int) _ _ _ _ gm lr gi s1 s7 (by first | with_reducible exact R13.out | with_reducible exact R13.out.dr) hm7 Hgie.out Hgm.out).mono ?_; rintro e yc ⟨A14, c14, rfl, ho9, hb9⟩; (try replace hb9 := undrew hb9); (try (have X3 := Lib.hid (X3.out.step hb9))); (try (have X4 := Lib.hid (X4.out.step hb9))); (try (have I0 := Lib.hid (I0.out.step hb9))); (try (have L1 := Lib.hid (L1.out.step hb9))); (try (have L2 := Lib.hid (L2.out.step hb9))); (try (have G1 := Lib.hid (G1.out.step hb9))); (try (have I1 := Lib.hid (I1.out.step hb9))); (try (have R10 := Lib.hid (R10.out.step hb9))); (try (have R11 := Lib.hid (R11.out.step hb9))); (try (have R12 := Lib.hid (R12.out.step hb9))); (try (have R13 := Lib.hid (R13.out.step hb9))); (try (have R14 := Lib.hid (R14.out.step hb9))); have HC := Lib.hid (bstep HC.out hb9); have X3_0 := X3.out.cell0; have X3_1 := X3.out.cell1; have X3_l := X3.out.lt; have X4_0 := X4.out.cell0; have X4_1 := X4.out.cell1; have X4_l := X4.out.lt; have R14 := Lib.hid ho9.ints; clear hb9 ho9) | (go_at_call 47; with_reducible show Calls _ _ #[.slice A12 _ _, _] _ _; refine (eqi_b _ _ _ _ _ _ gi (by first | with_reducible exact R12.out | with_reducible exact R12.out.dr) (by first | with_reducible exact R14.out | with_reducible exact R14.out.dr) hgm9).mono ?_; rintro e yc ⟨rfl, hb9⟩; (try replace hb9 := undrew hb9); (try (have X3 := Lib.hid (X3.out.step hb9))); (try (have X4 := Lib.hid (X4.out.step hb9))); (try (have I0 := Lib.hid (I0.out.step hb9))); (try (have L1 := Lib.hid (L1.out.step hb9))); (try (have L2 := Lib.hid (L2.out.step hb9))); (try (have G1 := Lib.hid (G1.out.step hb9))); (try (have I1 := Lib.hid (I1.out.step hb9))); (try (have R10 := Lib.hid (R10.out.step hb9))); (try (have R11 := Lib.hid (R11.out.step hb9))); (try (have R12 := Lib.hid (R12.out.step hb9))); (try (have R13 := Lib.hid (R13.out.step hb9))); (try (have R14 := Lib.hid (R14.out.step hb9))); have HC := Lib.hid (bstep HC.out hb9); have X3_0 := X3.out.cell0; have X3_1 := X3.out.cell1; have X3_l := X3.out.lt; have X4_0 := X4.out.cell0; have X4_1 := X4.out.cell1; have X4_l := X4.out.lt; clear hb9))
        all_goals go_wp2_with fail
        all_goals go_meet
        all_goals exact ⟨rfl, HC.out⟩
      case rest =>
        clear HC
        obtain ⟨rfl, hb79⟩ := hcut
        clear X3_0 X3_1 X3_l X4_0 X4_1 X4_l
        have X3 := Lib.hid (X3.out.step hb79)
        have X4 := Lib.hid (X4.out.step hb79)
        have I0 := Lib.hid (I0.out.step hb79)
        have L1 := Lib.hid (L1.out.step hb79)
        have L2 := Lib.hid (L2.out.step hb79)
        have G1 := Lib.hid (G1.out.step hb79)
        have I1 := Lib.hid (I1.out.step hb79)
        have HB := Lib.hid (bstep HB.out hb79)
        clear hb79
        have X3_0 := X3.out.cell0
        have X3_1 := X3.out.cell1
        have X3_l := X3.out.lt
        have X4_0 := X4.out.cell0
        have X4_1 := X4.out.cell1
        have X4_l := X4.out.lt
        go_wp2_with fail
        go_ret
        exact ⟨rfl, HB.out⟩


set_option maxRecDepth 100000 in
theorem lifted (os : Os) (started : os.Started) (H : Type) (enc : TypeId × Value → H) :
    ReturnsInHanded {} Try.checked os 14 .any (Rows.fnLibertiesOfImageSpec.pre6 enc Try.prog Try.f14 Rows.fnLibertiesOfImageRow.domain false) (Rows.fnLibertiesOfImageSpec.post enc Try.prog Try.f14 false true false false) := by
  refine returnsInHanded_of_change (C := Try.checked) own started (by kernel_rfl) Try.func14
    (ChangeSpec.witness6 (enc := enc) (C := Try.checked) false ⟨#[], #[.slice none 0 0], []⟩ 8 (by kernel_rfl) (by kernel_rfl) (by kernel_rfl) (by kernel_rfl)) ?_
  intro W base args ds gs before hval0 hW hcnd _
  have hval : ∀ (j : Nat) t v, Try.f14.params[j]? = some t → args[j]? = some v → Value.okWide Try.prog W .any base t v := hval0
  have hW' := hW
  obtain ⟨p, q, hA0, hV, rfl, hfz, hnd⟩ := hW
  have hA : DataW.TrodAll enc Try.prog W 0 (fun _ => true) true Try.f14.params.toList args.toList ds p := hA0
  rw [Try.params14] at hA hval
  obtain ⟨v0, vs0, d0, ds0, p0, q0, hargs, rfl, rfl, h0, r0⟩ := trodAll_cons hA
  obtain ⟨rfl, rfl, rfl⟩ := trodAll_nil r0
  obtain rfl : args = #[v0] := by cases args; simp_all
  obtain ⟨rfl, rfl⟩ := trodVars_none hV
  obtain ⟨a0, len0, cap0, rfl⟩ := okWide_slice Try.underlying22 (hval 0 22 v0 rfl rfl)
  have k0 := h0
  have lt0 : ∀ x ∈ p0, x.block < W.heap.size := by obtain ⟨m, hm⟩ := k0; exact DataW.trod_lt m _ _ _ hm
  obtain ⟨z0, w0⟩ : ∃ zs, IsRow .u8 W a0 len0 cap0 zs := by
    obtain ⟨fuel, hf⟩ := h0
    rcases open_ints Try.underlying22 Try.underlying5 (by kernel_rfl) hf with ⟨hcs, _⟩ | ⟨x, l, c, zs, hcs, _, hl, hm, hz, _, hcell, hwz⟩
    · simp [Value.cells] at hcs
      obtain ⟨rfl, rfl, rfl⟩ := hcs
      exact ⟨[], .inl ⟨rfl, rfl, rfl, rfl⟩⟩
    · simp [Value.cells] at hcs
      obtain ⟨rfl, rfl, rfl⟩ := hcs
      exact ⟨zs, .inr ⟨_, rfl, hl, hm, by simpa using hz, hcell, hwz⟩⟩
  clear hA0 hval0
  refine (walk a0 len0 cap0 z0 W w0).mono fun e W' ⟨he, bel⟩ => ?_
  subst he
  exact ⟨_, rfl, _, _, _, [], _, [], hW', trodAll_mk1 (shut_bool Try.underlying4 _), (trodAll_cons_mk (Below.trod laidOut (by kernel_rfl) (of_decide_eq_true (by kernel_rfl)) k0 bel lt0) trodAll_mk0), rfl, bel.frame _, fun h => by cases h⟩

theorem over : Rows.fnLibertiesOfImageRow.holds Try.pinned (OpenSpec.ofChange Rows.fnLibertiesOfImageSpec) :=
  OpenClaim.holds_of_wide 14 Try.f14 rfl rfl rfl rfl rfl rfl rfl ⟨rfl, rfl, rfl, rfl, rfl⟩ rfl rfl rfl rfl rfl (by kernel_rfl) Try.func14 (by kernel_rfl)
    (of_decide_eq_true (by kernel_rfl)) (by unfold Func.isWrapper; first | (rw [if_pos (by decide +kernel)]; kernel_rfl) | (rw [if_neg (by decide +kernel)]; exact ⟨rfl, rfl⟩))
    (fun os started H enc _ => lifted os started H enc)

theorem proved : Rows.FnLibertiesOfImageSaid := over
end Go.Proofs.Ytoflbpihcfdcgaa.fnLibertiesOfImage
