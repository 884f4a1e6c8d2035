/-
  A move adds one stone and takes some away: the law holds for every code. No condition but the laid variables.
-/
import Derived.Test.YtpogjegihhljpaaDoorLawPoKitB
import Derived.Test.YtpogjegihhljpaaDoorLawPoKitA
import Derived.Deep.DeepCutAuto
import Derived.Test.YtpogjegihhljpaaDoorRows
import Derived.Deep.RegionHeld3
import Derived.Deep.RegionWith
import Derived.Test.YtpogjegihhljpaaDoorCards
import Derived.Test.YtpogjegihhljpaaDoorTie
import Derived.Test.YtpogjegihhljpaaDoorTz
import Derived.LaidMore
import Derived.Stop.Joined
import Derived.Stop.LaidErr
import Derived.SevenTiedAt
import Derived.RowKitTokens
import Derived.LaidLaws
import Derived.ChangeVars
import Derived.ChangeSame
import Derived.WalkKit
import Derived.ProofKit
import Derived.OpenShut
import Derived.ShutString
import Derived.ChangeOld
import Derived.Below
namespace Go.Proofs.YtpogjegihhljpaaDoor
set_option maxRecDepth 100000
open Go.RowKit

def DrawnLQ (w : World) (e : Ending) (w' : World) : Prop :=
  ∃ (s : Int) (A : Option Addr) (n c : Nat) (cs : List Int) (x p : Int) (b : Bool), e = .returned (.tuple #[.agg #[.int .i64 s, .slice A n c], .int .i64 x, .int .i64 p, .bool b]) ∧ Ints w' w'.heap.size A n cs ∧ n ≤ 49 ∧ 0 ≤ s ∧ s ≤ 8 ∧ -1 ≤ x ∧ x ≤ 8 ∧ Below w.heap.size w w'

set_option maxRecDepth 100000 in
set_option maxHeartbeats 8000000 in
theorem d_play (w : World) (a : Option Addr) (len cap : Nat) (zs : List Int) (h : IsRow .u8 w a len cap zs) :
    Calls Tryd.prog 12 #[.slice a len cap] w fun e w' => DrawnLQ w e w' := by
  have hb1 : Below w.heap.size w (w.alloc (.cells #[.int .i64 0, .slice none 0 0] 25)) := (Below.refl _ _).alloc (Nat.le_refl _) _
  have X2 := Lib.hid (Bx.new 25 w 0 (.slice none 0 0))
  have Hb := Lib.hid hb1
  have hsz : (w.alloc (.cells #[.int .i64 0, .slice none 0 0] 25)).heap.size = w.heap.size + 1 := by simp
  have Hsz := Lib.hid hsz
  have H := Lib.hid (h.below hb1)
  clear h hb1 hsz
  go_enter Tryd.func12, Tryd.ntmps12
  go_wp2_with fail
  refine (r_new _ _ _ _ zs H.out).mono ?_
  rintro e y ⟨g, rfl, hr, hb⟩
  have Hg := Lib.hid hr.1
  rw [Hsz.out] at Hg
  have hg1 := Hg.out
  have X2 := Lib.hid (X2.out.below hb X2.out.lt)
  have Hb := Lib.hid (Hb.out.trans (hb.mono (by rw [Hsz.out]; omega)))
  have zy := X2.out.lt
  obtain ⟨Bq, Hr⟩ : ∃ Bq, Hid (Rdr y Bq g 0) := ⟨_, Lib.hid hr⟩
  clear hr hb
  go_wp2_with fail
  have hgy := Hr.out.lt
  refine (r_any Bq g 0 _ Hr.out (by omega)).mono ?_
  rintro e y2 ⟨s, A, n, c, cs, q', rfl, hi, hn, s0, s8, hr, hq, hg⟩
  have X2 := Lib.hid (X2.out.grown hg (fun e => by have := Option.some.inj e; omega))
  have Hb := Lib.hid (Hb.out.trans (below_g hg (by omega) (fun k hk => by have := Option.some.inj hk; omega)))
  have Hi := Lib.hid hi
  have Hr := Lib.hid hr
  have hgl := hr.lt
  have zz := hg.size
  clear hi hr hg
  go_upto_region 3 with (fail)
  obtain ⟨y3, hy3, hb3, z3, z4⟩ := new_box y2 (.cells #[.int .i64 s, .slice A n c] 25)
  have X5 : Hid (Bx 25 y3 y2.heap.size s (.slice A n c)) := Lib.hid (by rw [hy3]; exact Bx.new _ _ _ _)
  rw [← hy3]
  clear hy3
  have X2 := Lib.hid (X2.out.below hb3 X2.out.lt)
  have Hr := Lib.hid (Hr.out.below hb3 Hr.out.lt)
  have Hi := Lib.hid (Hi.out.below hb3)
  have Hb := Lib.hid (Hb.out.trans (hb3.mono (by omega)))
  clear hb3
  have t0 := X5.out.cell0
  have t1 := X5.out.cell1
  have t2 := X5.out.lt
  go_wp2_with fail
  refine (r_anyColor Bq g q' _ Hr.out (by omega)).mono ?_
  rintro e y4 ⟨x, rfl, hx, hr, hg⟩
  have hx8 : -1 ≤ x ∧ x ≤ 8 := by omega
  have X2 := Lib.hid (X2.out.grown hg (fun e => by have := Option.some.inj e; omega))
  have X5 := Lib.hid (X5.out.grown hg (fun e => by have := Option.some.inj e; omega))
  have Hi := Lib.hid (Hi.out.grown hg (by omega))
  have Hb := Lib.hid (Hb.out.trans (below_g hg (by omega) (fun k hk => by have := Option.some.inj hk; omega)))
  have Hr := Lib.hid hr
  have z5 := hg.size
  clear hr hg hx t0 t1 t2
  have t0 := X5.out.cell0
  have t1 := X5.out.cell1
  have t2 := X5.out.lt
  go_wp2_with fail
  refine (r_anyPoint Bq g (q' + 1) s _ Hr.out (by omega) s0 s8).mono ?_
  rintro e y5 ⟨pa, rfl, _, hr, hg⟩
  have X2 := Lib.hid (X2.out.grown hg (fun e => by have := Option.some.inj e; omega))
  have X5 := Lib.hid (X5.out.grown hg (fun e => by have := Option.some.inj e; omega))
  have Hi := Lib.hid (Hi.out.grown hg (by omega))
  have Hb := Lib.hid (Hb.out.trans (below_g hg (by omega) (fun k hk => by have := Option.some.inj hk; omega)))
  have Hr := Lib.hid hr
  have z6 := hg.size
  clear hr hg t0 t1 t2
  have t0 := X5.out.cell0
  have t1 := X5.out.cell1
  have t2 := X5.out.lt
  obtain ⟨lr, hlr⟩ := CapIs.make s n cs x
  have hlen := hlr.len
  go_wp2_with fail
  refine (s_Cap s x _ _ A n c cs lr (Hi.out.ints) (Nat.le_refl _) (by omega) (Lib.hid hlr)).mono ?_
  rintro e y6 ⟨A1, m, c1, rfl, ho, hb⟩
  have X2 := Lib.hid (X2.out.below hb X2.out.lt)
  have X5 := Lib.hid (X5.out.below hb X5.out.lt)
  have Hi := Lib.hid (Hi.out.below hb)
  have Hb := Lib.hid (Hb.out.trans (hb.mono (by omega)))
  have Hr := Lib.hid (Hr.out.below hb Hr.out.lt)
  have Ho := Lib.hid ho
  have hm := ho.1
  have z7 := hb.size
  clear hb ho hlr t0 t1 t2
  have t0 := X5.out.cell0
  have t1 := X5.out.cell1
  have t2 := X5.out.lt
  go_upto_region 6 with (fail)
  go_cut [32] (fun v wx => ∃ (bb : Bool) (q9 : Nat), v = .bool bb ∧ (bb = true → 0 < m) ∧ q9 ≤ 400 ∧ Rdr wx Bq g q9 ∧ y6.grownBy wx (some g))
  case first =>
    by_cases hm0 : m = 0
    · subst hm0
      go_wp2_with fail
      go_meet
      exact ⟨false, q' + 1 + 2, rfl, (fun e => by cases e), by omega, Hr.out, World.grownBy.refl _ _⟩
    · have hmI : (0 : Int) < m := by omega
      go_wp2_with fail
      refine (r_pick Bq g (q' + 1 + 2) 2 _ Hr.out (by omega)).mono ?_
      rintro e y7 ⟨z, rfl, _, _, hr, hg⟩
      go_wp2_with fail
      go_meet
      exact ⟨z == 0, q' + 1 + 2 + 1, rfl, (fun _ => by omega), by omega, hr, hg⟩
  case rest =>
    obtain ⟨bb, q9, rfl, hbm, hq9, hr, hg⟩ := hcut
    have X2 := Lib.hid (X2.out.grown hg (fun e => by have := Option.some.inj e; omega))
    have X5 := Lib.hid (X5.out.grown hg (fun e => by have := Option.some.inj e; omega))
    have Hi := Lib.hid (Hi.out.grown hg (by omega))
    have Hb := Lib.hid (Hb.out.trans (below_g hg Hb.out.size (fun k hk => by have := Option.some.inj hk; omega)))
    have Hr := Lib.hid hr
    have Ho := Lib.hid (Ho.out.kept hg (fun g' hA e => by have := (Ho.out.ge hA).1; have := Option.some.inj e; omega))
    have zb := hg.size
    clear hr hg t0 t1 t2
    have t0 := X5.out.cell0
    have t1 := X5.out.cell1
    have t2 := X5.out.lt
    go_upto_if 32 with (fail)
    go_cut [9] (fun v wx => ∃ (p : Int) (q10 : Nat), v = .int .i64 p ∧ q10 ≤ 500 ∧ Rdr wx Bq g q10 ∧ wc.grownBy wx (some g))
    case first =>
      cases bb
      · go_wp2_with fail
        go_meet
        exact ⟨pa, q9, rfl, by omega, Hr.out, World.grownBy.refl _ _⟩
      · have hm0 : 0 < m := hbm rfl
        go_wp2_with fail
        refine (r_pick Bq g q9 (m : Nat) _ Hr.out (by omega)).mono ?_
        rintro e y8 ⟨z, rfl, zp, zm, hr, hg⟩
        obtain ⟨j, rfl⟩ := Int.eq_ofNat_of_zero_le zp
        have hjm : j < m := by omega
        have hjI : (j : Int) < m := by omega
        have Ho := Lib.hid (Ho.out.kept hg (fun g' hA e => by have := (Ho.out.ge hA).1; have := Option.some.inj e; omega))
        obtain ⟨ga, cap, hv, _, _⟩ := World.ownsRow.form Ho.out.2 (by omega)
        obtain rfl : A1 = some ⟨ga, 0, none⟩ := by injection hv
        have cj := own_cellD Ho.out j hjm
        clear hv t0 t1 t2
        have Hr2 := Lib.hid hr
        have Hg2 := Lib.hid hg
        clear hr hg
        go_wp2_with fail
        go_meet
        exact ⟨_, q9 + 1, rfl, by omega, Hr2.out, Hg2.out⟩
    case rest =>
      clear Ho hbm
      obtain ⟨p0, q10, rfl, hq10, hr, hg⟩ := hcut
      have X2 := Lib.hid (X2.out.grown hg (fun e => by have := Option.some.inj e; omega))
      have X5 := Lib.hid (X5.out.grown hg (fun e => by have := Option.some.inj e; omega))
      have Hi := Lib.hid (Hi.out.grown hg (by omega))
      have Hb := Lib.hid (Hb.out.trans (below_g hg Hb.out.size (fun k hk => by have := Option.some.inj hk; omega)))
      have Hr := Lib.hid hr
      have zc := hg.size
      clear hr hg t0 t1 t2
      have Hq10 := Lib.hid hq10
      go_wp2_with fail
      go_loopw [9, 11] (fun v i wr => ∃ (k q8 : Nat) (p : Int), k ≤ n ∧ i = .int .i64 (k : Nat) ∧ v = .int .i64 p ∧ q8 ≤ 500 + k ∧ Rdr wr Bq g q8 ∧ wc.grownBy wr (some g)) (fun _ i _ => n - (intOf i).toNat)
      case atStart => exact ⟨0, _, _, by omega, rfl, rfl, by have := Hq10.out; omega, Hr.out, World.grownBy.refl _ _⟩
      case round =>
        obtain ⟨k, q8, p, hk, rfl, rfl, hq8, hr, hg⟩ := hrel
        have X2 := Lib.hid (X2.out.grown hg (fun e => by have := Option.some.inj e; omega))
        have X5 := Lib.hid (X5.out.grown hg (fun e => by have := Option.some.inj e; omega))
        have Hi := Lib.hid (Hi.out.grown hg (by omega))
        have Hb := Lib.hid (Hb.out.trans (below_g hg Hb.out.size (fun k hk => by have := Option.some.inj hk; omega)))
        have Hr := Lib.hid hr
        have Hg := Lib.hid hg
        have zw := hg.size
        have Hq : Hid (q8 ≤ 600) := Lib.hid (by omega)
        clear hr hg
        have t0 := X5.out.cell0
        have t1 := X5.out.cell1
        have t2 := X5.out.lt
        go_upto_region 9 with (fail)
        go_cut [68] (fun v wx => ∃ (bb : Bool) (q9 : Nat), v = .bool bb ∧ (bb = true → k < n) ∧ q9 ≤ q8 + 1 ∧ Rdr wx Bq g q9 ∧ wr.grownBy wx (some g))
        case first =>
          by_cases hkn : k < n
          · have hkI : (k : Int) < n := by omega
            by_cases hp0 : 0 ≤ p
            · by_cases hpn : p < n
              · obtain ⟨q, rfl⟩ := Int.eq_ofNat_of_zero_le hp0
                rcases Hi.out.2 with h0 | ⟨b, o, rfl, _, _, hc⟩
                · omega
                · have ck := hc q (by omega)
                  obtain ⟨v0, hv0⟩ : ∃ v, cs.getD q 0 = v := ⟨_, rfl⟩
                  rw [hv0] at ck
                  clear hc hv0
                  by_cases hz0 : v0 = 0
                  · have e0 : (v0 != 0) = false := by simpa using hz0
                    clear hz0
                    go_wp2_with fail
                    go_meet
                    exact ⟨false, q8, rfl, (fun e => by cases e), by omega, Hr.out, World.grownBy.refl _ _⟩
                  · have e0 : (v0 != 0) = true := by simpa using hz0
                    clear hz0
                    go_wp2_with fail
                    refine (r_pick Bq g q8 4 _ Hr.out (by have := Hq.out; omega)).mono ?_
                    rintro e y10 ⟨z, rfl, _, _, hr, hg⟩
                    go_wp2_with fail
                    go_meet
                    exact ⟨decide (0 < z), q8 + 1, by first | rfl | simp, (fun _ => hkn), by omega, hr, hg⟩
              · go_wp2_with fail
                go_meet
                exact ⟨false, q8, rfl, (fun e => by cases e), by omega, Hr.out, World.grownBy.refl _ _⟩
            · go_wp2_with fail
              go_meet
              exact ⟨false, q8, rfl, (fun e => by cases e), by omega, Hr.out, World.grownBy.refl _ _⟩
          · have hge : ¬ (k : Int) < n := by omega
            go_wp2_with fail
            go_meet
            exact ⟨false, q8, rfl, (fun e => by cases e), by omega, Hr.out, World.grownBy.refl _ _⟩
        case rest =>
          obtain ⟨bb, q9, rfl, hbn, hq9, hr, hg⟩ := hcut
          have X2 := Lib.hid (X2.out.grown hg (fun e => by have := Option.some.inj e; omega))
          have X5 := Lib.hid (X5.out.grown hg (fun e => by have := Option.some.inj e; omega))
          have Hi := Lib.hid (Hi.out.grown hg (by omega))
          have Hb := Lib.hid (Hb.out.trans (below_g hg Hb.out.size (fun k hk => by have := Option.some.inj hk; omega)))
          have Hr := Lib.hid hr
          have Hg := Lib.hid (gtrans Hg.out hg)
          have zd := hg.size
          have Hq9 : Hid (q9 ≤ 700) := Lib.hid (by have := Hq.out; omega)
          clear hr hg t0 t1 t2
          cases bb
          · have Hq := Hq9
            have t0 := X5.out.cell0
            have t1 := X5.out.cell1
            have t2 := X5.out.lt
            go_wp2_with fail
            go_region_with (first | (go_at_call 45; refine (r_pick Bq g (q9) 2 _ (by exact Hr.out) (by have := Hq.out; omega)).mono ?_; rintro e y9 ⟨b9, rfl, _, _, hr, hg⟩; have hg5 : wc.grownBy y9 (some g) := ⟨hg.os, hg.tape, hg.output, hg.size, hg.block⟩; have HX2 := Lib.hid (X2.out.grown hg5 (fun e => by have := Option.some.inj e; omega)); have HX5 := Lib.hid (X5.out.grown hg5 (fun e => by have := Option.some.inj e; omega)); have HI := Lib.hid (Hi.out.grown hg5 (by omega)); have HB := Lib.hid (Hb.out.trans (below_g hg5 Hb.out.size (fun k hk => by have := Option.some.inj hk; omega))); have u0 := HX5.out.cell0; have u1 := HX5.out.cell1; have u2 := HX5.out.lt; have r0 := HX2.out.cell0; have r1 := HX2.out.cell1; have r2 := HX2.out.frozen 0; have r3 := HX2.out.frozen 1; have r4 := HX2.out.lt; clear hr hg hg5))
            all_goals go_wp2_with fail
            all_goals
              have k0 := (HX2.out.set0 s).cell0
              have k1 := ((HX2.out.set0 s).set1 (.slice A n c)).cell1
              refine bodyPost_ret (v := .tuple #[.agg #[.int .i64 s, .slice A n c], .int .i64 x, .int .i64 p, .bool (b9 == 0)]) (by simp [results, Tryd.results12, go_sem, k0, k1]) rfl ?_
              have hi3 := ((HI.out.far ⟨w.heap.size, 0, none⟩ (by show w.heap.size < y.heap.size; omega) (.int .i64 s)).far ⟨w.heap.size, 1, none⟩ (by show w.heap.size < y.heap.size; omega) (.slice A n c)).ints
              have hb3 := (HB.out.setCell (p := ⟨w.heap.size, 0, none⟩) (Nat.le_refl _) (.int .i64 s)).setCell (p := ⟨w.heap.size, 1, none⟩) (Nat.le_refl _) (.slice A n c)
              exact ⟨_, _, _, _, _, _, _, _, rfl, hi3, hn, s0, s8, hx8.1, hx8.2, hb3⟩
          · have hkn := hbn rfl
            have hn0 : ((n : Int) == 0) = false := by simp; omega
            have hn00 : ¬ (n : Int) = 0 := by omega
            have t0 := X5.out.cell0
            have t1 := X5.out.cell1
            have t2 := X5.out.lt
            go_wp2_with fail
            go_roundw
            case rel => exact ⟨k + 1, q9, _, by omega, by go_num, rfl, by omega, Hr.out, Hg.out⟩
            case measure => simp [intOf]; omega
end Go.Proofs.YtpogjegihhljpaaDoor

namespace Go.Proofs.YtpogjegihhljpaaDoor
set_option maxRecDepth 100000
open Go.RowKit

/-- What is removed is a set. -/
theorem Plays.set {k n p : Nat} {x : Int} {cs : List Int} {su : Bool} {os gs : List Int} (h : Plays (k : Int) n cs x p su (some (os, gs))) (x1 : 1 ≤ x) (x2 : x ≤ 2) : ∃ m, gs = Bt.pts m n := by
  have ho : oth x ≠ 0 := by
    have : x = 1 ∨ x = 2 := by omega
    rcases this with rfl | rfl <;> decide
  have hxo := oth_ne x1 x2
  cases h with
  | lives S _ h0 hr _ =>
    obtain ⟨m, hm⟩ := nl_make hr
    exact ⟨m, (hm.pts hr).symm⟩
  | both S os1 S2 _ _ j h0 hr _ hs hr2 hso hk =>
    obtain ⟨m, hm⟩ := nl_make hr
    obtain ⟨m2, hm2⟩ := nl_make hr2
    rw [← hm.pts hr, ← hm2.pts hr2] at hso hk
    refine ⟨m ||| m2, Gw.both (fun q hq a b => ?_) hso hk⟩
    have e1 := hr.out q hq
    rw [← hm.marks hr q hq, a, if_pos rfl] at e1
    have e2 := ((hm2 q).1 b).2.1
    rw [e1] at e2
    omega
theorem rises_pair : ∀ l : List Int, l.Pairwise (· < ·) → Pt.rises l = true
  | [], _ => rfl
  | [a], _ => rfl
  | a :: b :: l, h => by
    have h1 := List.rel_of_pairwise_cons h (List.mem_cons_self ..)
    have h2 := rises_pair (b :: l) (List.Pairwise.of_cons h)
    simp only [Pt.rises, Bool.and_eq_true, decide_eq_true_eq]
    exact ⟨h1, h2⟩
theorem asc_b (w : World) (A : Option Addr) (n c : Nat) (xs : List Int) (h : Ints w w.heap.size A n xs) (hn : n ≤ 1000000) (hr : Pt.rises xs = true) :
    Calls Tryd.prog 32 #[.slice A n c] w fun e w' => e = .returned (.bool true) ∧ Below w.heap.size w w' := by
  refine (asc_t w _ A n c xs h (by omega) hr).mono ?_
  rintro e w' ⟨k, rfl, rfl⟩
  exact ⟨rfl, drew_below (Below.refl _ _) k⟩
/-- A move that is possible is one on a valid board. -/
theorem PlB.get {s x p : Int} {n : Nat} {cs : List Int} {su : Bool} {r : List Int × List Int} (h : PlB s n cs x p su (some r)) (hl : cs.length = n) : ∃ q : Nat, p = (q : Int) ∧ q < n ∧ Bd.okB s cs = true ∧ 1 ≤ x ∧ x ≤ 2 ∧ Plays s n cs x q su (some r) := by
  unfold PlB at h
  split at h
  · rename_i hh
    obtain ⟨h1, ⟨x1, x2⟩, h2⟩ := hh
    obtain ⟨q1, q2, q3, q4⟩ := (Bd.okB_iff s cs).1 h1
    obtain ⟨_, _, p0, pn⟩ := (Pt.okP_iff s p).1 h2
    obtain ⟨q, rfl⟩ := Int.eq_ofNat_of_zero_le p0
    exact ⟨q, rfl, by omega, h1, x1, x2, h⟩
  · cases h
theorem cmp_b {a b : Int} {m : Nat} (ha : 0 ≤ a ∧ a ≤ 49) (hb : 0 ≤ b ∧ b ≤ 49) (h : a = b - 1 + (m : Int)) : (a == IntKind.i64.wrap (IntKind.i64.wrap (b - 1) + (m : Int))) = true := by
  have e1 : IntKind.i64.wrap (b - 1) = b - 1 := by simp [IntKind.wrap, IntKind.bits, IntKind.signed]; omega
  have e2 : IntKind.i64.wrap (b - 1 + (m : Int)) = b - 1 + (m : Int) := by simp [IntKind.wrap, IntKind.bits, IntKind.signed]; omega
  rw [e1, e2, h]; simp
end Go.Proofs.YtpogjegihhljpaaDoor

namespace Go.Proofs.YtpogjegihhljpaaDoor.fnPlayStoneCount
set_option maxRecDepth 100000
open Go.WideMaps Go.WideElems
open Go.ChangeShapes Go.WideShapes Go.ChangeAt Go.RowKit
open Go.ChangeMaps (open_string shut_string)
set_option linter.unusedVariables false

theorem own : ownKnob Tryd.prog.godebug = none := by kernel_rfl
theorem laidOut : laidOutB Tryd.prog = true := by kernel_rfl


set_option maxRecDepth 100000 in
set_option maxHeartbeats 16000000 in
theorem walk (a0 : Option Addr) (len0 cap0 : Nat) (z0 : List Int) (w : World) (ht : Tab w) (hE : ErrW w) (w0 : IsRow .u8 w a0 len0 cap0 z0) :
    Calls Tryd.prog 8 #[.slice a0 len0 cap0] w fun e w' => e = .returned (.bool true) ∧ Below w.heap.size w w' := by
  by_cases hl : 1048576 < len0
  · go_enter Tryd.func8, Tryd.ntmps8
    go_wp2_with fail
    go_ret
    exact ⟨rfl, Below.refl _ _⟩
  · have hl' : decide ((1048576 : Int) < (len0 : Int)) = false := by rw [decide_eq_false_iff_not]; omega
    go_enter Tryd.func8, Tryd.ntmps8
    go_wp2_with fail
    refine (d_play w a0 len0 cap0 z0 w0).mono ?_
    rintro e y0 ⟨s, A, n, c, cs, x, p, su, rfl, hi, hn49, s0, s8, hx1, hx2, hb⟩
    have I0 := Lib.hid hi
    have HB := Lib.hid hb
    have HT := Lib.hid ht
    have HE := Lib.hid hE
    clear hE
    clear hi hb w0 hl'
    go_wp2_with fail
    obtain ⟨x1, hy3, hb2, z4, z5⟩ := new_box y0 (.cells #[.int .i64 s, .slice A n c] 25)
    have X3 : Hid (Bx 25 x1 y0.heap.size s (.slice A n c)) := Lib.hid (by rw [hy3]; exact Bx.new _ _ _ _)
    rw [← hy3]
    clear hy3
    have I0 := Lib.hid (I0.out.step hb2)
    have HB := Lib.hid (bstep HB.out hb2)
    clear hb2
    have X3_0 := X3.out.cell0
    have X3_1 := X3.out.cell1
    have X3_l := X3.out.lt
    have hl0 := I0.out.1
    obtain ⟨R, hR⟩ := PlB.make s n cs x p su hl0
    have Hl := Lib.hid hl0
    clear hl0
    rcases R with _ | ⟨os, gs⟩
    · have HR := Lib.hid hR
      have HVw : Hid (View s none 0 [] [] false) := Lib.hid ⟨rfl, rfl, rfl, rfl⟩
      clear hR
      go_wp2_with fail
      refine (i_PlV s x p su _ _ _ n _ cs none 0 [] [] false I0.out (Nat.le_refl _) (by omega) HR HVw (HT.out.below HB.out) (HE.out.below HB.out)).mono ?_
      rintro e x106 ⟨A3, n3, c3, A4, n4, c4, mid, rfl, ho108, _, ho109, _, _, hb107⟩
      clear X3_0 X3_1 X3_l
      have X3 := Lib.hid (X3.out.step hb107)
      have I0 := Lib.hid (I0.out.step hb107)
      have HB := Lib.hid (bstep HB.out hb107)
      have I3 := Lib.hid ho108.ints
      have lenI3 := ho108.1
      have I4 := Lib.hid ho109.ints
      have lenI4 := ho109.1
      clear hb107 ho108 ho109
      have X3_0 := X3.out.cell0
      have X3_1 := X3.out.cell1
      have X3_l := X3.out.lt
      go_wp2_with fail
      obtain ⟨x110, hy112, hb111, z113, z114⟩ := new_box x106 (.cells #[.int .i64 0, .slice A3 n3 c3] 25)
      have X7 : Hid (Bx 25 x110 x106.heap.size 0 (.slice A3 n3 c3)) := Lib.hid (by rw [hy112]; exact Bx.new _ _ _ _)
      rw [← hy112]
      clear hy112
      clear X3_0 X3_1 X3_l
      have X3 := Lib.hid (X3.out.step hb111)
      have I0 := Lib.hid (I0.out.step hb111)
      have I3 := Lib.hid (I3.out.step hb111)
      have I4 := Lib.hid (I4.out.step hb111)
      have HB := Lib.hid (bstep HB.out hb111)
      clear hb111
      have X3_0 := X3.out.cell0
      have X3_1 := X3.out.cell1
      have X3_l := X3.out.lt
      have X7_0 := X7.out.cell0
      have X7_1 := X7.out.cell1
      have X7_l := X7.out.lt
      go_wp2_with fail
      refine (s_PlV s x p su _ _ _ n _ cs none 0 [] [] false I0.out (Nat.le_refl _) (by omega) HR HVw).mono ?_
      rintro e x115 ⟨A5, n5, c5, A6, n6, c6, rfl, ⟨ho117, ho118⟩, hb116⟩
      clear X3_0 X3_1 X3_l X7_0 X7_1 X7_l
      have X3 := Lib.hid (X3.out.step hb116)
      have X7 := Lib.hid (X7.out.step hb116)
      have I0 := Lib.hid (I0.out.step hb116)
      have I3 := Lib.hid (I3.out.step hb116)
      have I4 := Lib.hid (I4.out.step hb116)
      have HB := Lib.hid (bstep HB.out hb116)
      have I5 := Lib.hid ho117.ints
      have lenI5 := ho117.1
      have I6 := Lib.hid ho118.ints
      have lenI6 := ho118.1
      clear hb116 ho117 ho118
      have X3_0 := X3.out.cell0
      have X3_1 := X3.out.cell1
      have X3_l := X3.out.lt
      have X7_0 := X7.out.cell0
      have X7_1 := X7.out.cell1
      have X7_l := X7.out.lt
      obtain rfl : n5 = n3 := by omega
      obtain rfl : n6 = n4 := by omega
      go_wp2_with fail
      obtain ⟨x119, hy121, hb120, z122, z123⟩ := new_box x115 (.cells #[.int .i64 0, .slice A5 n5 c5] 25)
      have X10 : Hid (Bx 25 x119 x115.heap.size 0 (.slice A5 n5 c5)) := Lib.hid (by rw [hy121]; exact Bx.new _ _ _ _)
      rw [← hy121]
      clear hy121
      clear X3_0 X3_1 X3_l X7_0 X7_1 X7_l
      have X3 := Lib.hid (X3.out.step hb120)
      have X7 := Lib.hid (X7.out.step hb120)
      have I0 := Lib.hid (I0.out.step hb120)
      have I3 := Lib.hid (I3.out.step hb120)
      have I4 := Lib.hid (I4.out.step hb120)
      have I5 := Lib.hid (I5.out.step hb120)
      have I6 := Lib.hid (I6.out.step hb120)
      have HB := Lib.hid (bstep HB.out hb120)
      clear hb120
      have X3_0 := X3.out.cell0
      have X3_1 := X3.out.cell1
      have X3_l := X3.out.lt
      have X7_0 := X7.out.cell0
      have X7_1 := X7.out.cell1
      have X7_l := X7.out.lt
      have X10_0 := X10.out.cell0
      have X10_1 := X10.out.cell1
      have X10_l := X10.out.lt
      have z5 : 0 = n5 := I3.out.1
      have z6 : 0 = n6 := I4.out.1
      cases z5
      cases z6
      go_wp2_with fail
      refine (l_eqB 0 _ _ _ _ _ _ [] I3.out I5.out (by omega)).mono ?_
      rintro e x124 ⟨rfl, hb125⟩
      clear X3_0 X3_1 X3_l X7_0 X7_1 X7_l X10_0 X10_1 X10_l
      have X3 := Lib.hid (X3.out.step hb125)
      have X7 := Lib.hid (X7.out.step hb125)
      have X10 := Lib.hid (X10.out.step hb125)
      have I0 := Lib.hid (I0.out.step hb125)
      have I3 := Lib.hid (I3.out.step hb125)
      have I4 := Lib.hid (I4.out.step hb125)
      have I5 := Lib.hid (I5.out.step hb125)
      have I6 := Lib.hid (I6.out.step hb125)
      have HB := Lib.hid (bstep HB.out hb125)
      clear hb125
      have X3_0 := X3.out.cell0
      have X3_1 := X3.out.cell1
      have X3_l := X3.out.lt
      have X7_0 := X7.out.cell0
      have X7_1 := X7.out.cell1
      have X7_l := X7.out.lt
      have X10_0 := X10.out.cell0
      have X10_1 := X10.out.cell1
      have X10_l := X10.out.lt
      go_wp2_with fail
      refine (eq_b _ _ _ _ _ _ [] I4.out I6.out (by omega)).mono ?_
      rintro e x127 ⟨rfl, hb128⟩
      clear X3_0 X3_1 X3_l X7_0 X7_1 X7_l X10_0 X10_1 X10_l
      have X3 := Lib.hid (X3.out.step hb128)
      have X7 := Lib.hid (X7.out.step hb128)
      have X10 := Lib.hid (X10.out.step hb128)
      have I0 := Lib.hid (I0.out.step hb128)
      have I3 := Lib.hid (I3.out.step hb128)
      have I4 := Lib.hid (I4.out.step hb128)
      have I5 := Lib.hid (I5.out.step hb128)
      have I6 := Lib.hid (I6.out.step hb128)
      have HB := Lib.hid (bstep HB.out hb128)
      clear hb128
      have X3_0 := X3.out.cell0
      have X3_1 := X3.out.cell1
      have X3_l := X3.out.lt
      have X7_0 := X7.out.cell0
      have X7_1 := X7.out.cell1
      have X7_l := X7.out.lt
      have X10_0 := X10.out.cell0
      have X10_1 := X10.out.cell1
      have X10_l := X10.out.lt
      go_wp2_with fail
      refine (l_eqB 0 _ _ _ _ _ _ [] I3.out I5.out (by omega)).mono ?_
      rintro e x130 ⟨rfl, hb131⟩
      clear X3_0 X3_1 X3_l X7_0 X7_1 X7_l X10_0 X10_1 X10_l
      have X3 := Lib.hid (X3.out.step hb131)
      have X7 := Lib.hid (X7.out.step hb131)
      have X10 := Lib.hid (X10.out.step hb131)
      have I0 := Lib.hid (I0.out.step hb131)
      have I3 := Lib.hid (I3.out.step hb131)
      have I4 := Lib.hid (I4.out.step hb131)
      have I5 := Lib.hid (I5.out.step hb131)
      have I6 := Lib.hid (I6.out.step hb131)
      have HB := Lib.hid (bstep HB.out hb131)
      clear hb131
      have X3_0 := X3.out.cell0
      have X3_1 := X3.out.cell1
      have X3_l := X3.out.lt
      have X7_0 := X7.out.cell0
      have X7_1 := X7.out.cell1
      have X7_l := X7.out.lt
      have X10_0 := X10.out.cell0
      have X10_1 := X10.out.cell1
      have X10_l := X10.out.lt
      go_wp2_with fail
      refine (eq_b _ _ _ _ _ _ [] I4.out I6.out (by omega)).mono ?_
      rintro e x133 ⟨rfl, hb134⟩
      clear X3_0 X3_1 X3_l X7_0 X7_1 X7_l X10_0 X10_1 X10_l
      have X3 := Lib.hid (X3.out.step hb134)
      have X7 := Lib.hid (X7.out.step hb134)
      have X10 := Lib.hid (X10.out.step hb134)
      have I0 := Lib.hid (I0.out.step hb134)
      have I3 := Lib.hid (I3.out.step hb134)
      have I4 := Lib.hid (I4.out.step hb134)
      have I5 := Lib.hid (I5.out.step hb134)
      have I6 := Lib.hid (I6.out.step hb134)
      have HB := Lib.hid (bstep HB.out hb134)
      clear hb134
      have X3_0 := X3.out.cell0
      have X3_1 := X3.out.cell1
      have X3_l := X3.out.lt
      have X7_0 := X7.out.cell0
      have X7_1 := X7.out.cell1
      have X7_l := X7.out.lt
      have X10_0 := X10.out.cell0
      have X10_1 := X10.out.cell1
      have X10_l := X10.out.lt
      go_wp2_with fail
      go_ret
      exact ⟨by first | rfl | simp, HB.out⟩
    · obtain ⟨q, rfl, hqn, hv, x1, x2, hpl⟩ := hR.get Hl.out
      have HR := Lib.hid hR
      have HVw : Hid (View s (some (os, gs)) s os gs true) := Lib.hid ⟨rfl, rfl, rfl, rfl⟩
      obtain ⟨kk, rfl⟩ := Int.eq_ofNat_of_zero_le s0
      obtain ⟨mm, hmm⟩ := hpl.set x1 x2
      have hri : Pt.rises gs = true := by rw [hmm]; exact rises_pair _ (Gw.pts_pair _ _)
      have Hri := Lib.hid hri
      have hvo := okB_play hv Hl.out x1 x2 hpl
      have hcn := (hpl.cnts Hl.out hqn x1 x2).1
      have hol : os.length = n := hpl.len.1
      have hgl := hpl.len.2
      obtain ⟨N0, h0⟩ : ∃ N, cntB (kk : Int) cs 0 = N := ⟨_, rfl⟩
      obtain ⟨N1, h1⟩ : ∃ N, cntB (kk : Int) os 0 = N := ⟨_, rfl⟩
      have b0 := cnt_bd 0 cs
      have b1 := cnt_bd 0 os
      have h0c : cnt 0 cs = N0 := by rw [← h0, cntB, if_pos hv]
      have h1c : cnt 0 os = N1 := by rw [← h1, cntB, if_pos hvo]
      rw [h0c] at b0 hcn
      rw [h1c] at b1 hcn
      rw [Hl.out] at b0
      rw [hol] at b1
      have H0 := Lib.hid h0
      have H1 := Lib.hid h1
      clear hR hpl hmm hri hvo h0c h1c h0 h1
      go_wp2_with fail
      refine (i_PlV (kk : Nat) x (q : Nat) su _ _ _ n _ cs (some (os, gs)) (kk : Nat) os gs true I0.out (Nat.le_refl _) (by omega) HR HVw (HT.out.below HB.out) (HE.out.below HB.out)).mono ?_
      rintro e x406 ⟨A3, n3, c3, A4, n4, c4, mid, rfl, ho408, _, ho409, _, _, hb407⟩
      clear X3_0 X3_1 X3_l
      have X3 := Lib.hid (X3.out.step hb407)
      have I0 := Lib.hid (I0.out.step hb407)
      have HB := Lib.hid (bstep HB.out hb407)
      have I3 := Lib.hid ho408.ints
      have lenI3 := ho408.1
      have I4 := Lib.hid ho409.ints
      have lenI4 := ho409.1
      clear hb407 ho408 ho409
      have X3_0 := X3.out.cell0
      have X3_1 := X3.out.cell1
      have X3_l := X3.out.lt
      go_wp2_with fail
      obtain ⟨x410, hy412, hb411, z413, z414⟩ := new_box x406 (.cells #[.int .i64 (kk : Nat), .slice A3 n3 c3] 25)
      have X7 : Hid (Bx 25 x410 x406.heap.size (kk : Nat) (.slice A3 n3 c3)) := Lib.hid (by rw [hy412]; exact Bx.new _ _ _ _)
      rw [← hy412]
      clear hy412
      clear X3_0 X3_1 X3_l
      have X3 := Lib.hid (X3.out.step hb411)
      have I0 := Lib.hid (I0.out.step hb411)
      have I3 := Lib.hid (I3.out.step hb411)
      have I4 := Lib.hid (I4.out.step hb411)
      have HB := Lib.hid (bstep HB.out hb411)
      clear hb411
      have X3_0 := X3.out.cell0
      have X3_1 := X3.out.cell1
      have X3_l := X3.out.lt
      have X7_0 := X7.out.cell0
      have X7_1 := X7.out.cell1
      have X7_l := X7.out.lt
      go_wp2_with fail
      refine (s_PlV (kk : Nat) x (q : Nat) su _ _ _ n _ cs (some (os, gs)) (kk : Nat) os gs true I0.out (Nat.le_refl _) (by omega) HR HVw).mono ?_
      rintro e x415 ⟨A5, n5, c5, A6, n6, c6, rfl, ⟨ho417, ho418⟩, hb416⟩
      clear X3_0 X3_1 X3_l X7_0 X7_1 X7_l
      have X3 := Lib.hid (X3.out.step hb416)
      have X7 := Lib.hid (X7.out.step hb416)
      have I0 := Lib.hid (I0.out.step hb416)
      have I3 := Lib.hid (I3.out.step hb416)
      have I4 := Lib.hid (I4.out.step hb416)
      have HB := Lib.hid (bstep HB.out hb416)
      have I5 := Lib.hid ho417.ints
      have lenI5 := ho417.1
      have I6 := Lib.hid ho418.ints
      have lenI6 := ho418.1
      clear hb416 ho417 ho418
      have X3_0 := X3.out.cell0
      have X3_1 := X3.out.cell1
      have X3_l := X3.out.lt
      have X7_0 := X7.out.cell0
      have X7_1 := X7.out.cell1
      have X7_l := X7.out.lt
      obtain rfl : n5 = n3 := by omega
      obtain rfl : n6 = n4 := by omega
      go_wp2_with fail
      obtain ⟨x419, hy421, hb420, z422, z423⟩ := new_box x415 (.cells #[.int .i64 (kk : Nat), .slice A5 n5 c5] 25)
      have X10 : Hid (Bx 25 x419 x415.heap.size (kk : Nat) (.slice A5 n5 c5)) := Lib.hid (by rw [hy421]; exact Bx.new _ _ _ _)
      rw [← hy421]
      clear hy421
      clear X3_0 X3_1 X3_l X7_0 X7_1 X7_l
      have X3 := Lib.hid (X3.out.step hb420)
      have X7 := Lib.hid (X7.out.step hb420)
      have I0 := Lib.hid (I0.out.step hb420)
      have I3 := Lib.hid (I3.out.step hb420)
      have I4 := Lib.hid (I4.out.step hb420)
      have I5 := Lib.hid (I5.out.step hb420)
      have I6 := Lib.hid (I6.out.step hb420)
      have HB := Lib.hid (bstep HB.out hb420)
      clear hb420
      have X3_0 := X3.out.cell0
      have X3_1 := X3.out.cell1
      have X3_l := X3.out.lt
      have X7_0 := X7.out.cell0
      have X7_1 := X7.out.cell1
      have X7_l := X7.out.lt
      have X10_0 := X10.out.cell0
      have X10_1 := X10.out.cell1
      have X10_l := X10.out.lt
      have hn5 : n5 ≤ 49 := by omega
      have hn6 : n6 ≤ 98 := by omega
      have hgn : gs.length = n6 := lenI4
      clear lenI3 lenI4 lenI5 lenI6
      go_wp2_with fail
      refine (l_eqB (kk : Nat) _ _ _ _ _ _ os I3.out I5.out (by omega)).mono ?_
      rintro e x424 ⟨rfl, hb425⟩
      clear X3_0 X3_1 X3_l X7_0 X7_1 X7_l X10_0 X10_1 X10_l
      have X3 := Lib.hid (X3.out.step hb425)
      have X7 := Lib.hid (X7.out.step hb425)
      have X10 := Lib.hid (X10.out.step hb425)
      have I0 := Lib.hid (I0.out.step hb425)
      have I3 := Lib.hid (I3.out.step hb425)
      have I4 := Lib.hid (I4.out.step hb425)
      have I5 := Lib.hid (I5.out.step hb425)
      have I6 := Lib.hid (I6.out.step hb425)
      have HB := Lib.hid (bstep HB.out hb425)
      clear hb425
      have X3_0 := X3.out.cell0
      have X3_1 := X3.out.cell1
      have X3_l := X3.out.lt
      have X7_0 := X7.out.cell0
      have X7_1 := X7.out.cell1
      have X7_l := X7.out.lt
      have X10_0 := X10.out.cell0
      have X10_1 := X10.out.cell1
      have X10_l := X10.out.lt
      go_wp2_with fail
      refine (eq_b _ _ _ _ _ _ gs I4.out I6.out (by omega)).mono ?_
      rintro e x427 ⟨rfl, hb428⟩
      clear X3_0 X3_1 X3_l X7_0 X7_1 X7_l X10_0 X10_1 X10_l
      have X3 := Lib.hid (X3.out.step hb428)
      have X7 := Lib.hid (X7.out.step hb428)
      have X10 := Lib.hid (X10.out.step hb428)
      have I0 := Lib.hid (I0.out.step hb428)
      have I3 := Lib.hid (I3.out.step hb428)
      have I4 := Lib.hid (I4.out.step hb428)
      have I5 := Lib.hid (I5.out.step hb428)
      have I6 := Lib.hid (I6.out.step hb428)
      have HB := Lib.hid (bstep HB.out hb428)
      clear hb428
      have X3_0 := X3.out.cell0
      have X3_1 := X3.out.cell1
      have X3_l := X3.out.lt
      have X7_0 := X7.out.cell0
      have X7_1 := X7.out.cell1
      have X7_l := X7.out.lt
      have X10_0 := X10.out.cell0
      have X10_1 := X10.out.cell1
      have X10_l := X10.out.lt
      rw [hgn] at hcn
      have hcmp := cmp_b (m := n6) ⟨b1.1, by omega⟩ ⟨b0.1, by omega⟩ hcn
      clear hcn b0 b1 hgl hgn hol
      go_wp2_with fail
      have HC := Lib.hid (Below.refl x427.heap.size x427)
      go_cut [2] (fun v wx => v = .bool true ∧ Below x427.heap.size x427 wx)
      case first =>
        go_region_held3 (fun w' => w'.cell? ⟨y0.heap.size, 0, none⟩ = some (.int .i64 (kk : Nat)) ∧ w'.cell? ⟨y0.heap.size, 1, none⟩ = some (.slice A n c) ∧ w'.cell? ⟨x406.heap.size, 0, none⟩ = some (.int .i64 (kk : Nat)) ∧ w'.cell? ⟨x406.heap.size, 1, none⟩ = some (.slice A3 n5 c3) ∧ w'.cell? ⟨x415.heap.size, 0, none⟩ = some (.int .i64 (kk : Nat)) ∧ w'.cell? ⟨x415.heap.size, 1, none⟩ = some (.slice A5 n5 c5)) (first | exact ⟨X3_0, X3_1, X7_0, X7_1, X10_0, X10_1⟩ | go_keep) (first | (go_at_call 24; with_reducible show Calls _ _ #[.agg #[.int .i64 (kk : Nat), .slice A3 n5 c3], _] _ _; refine (cb_b (kk : Nat) _ _ _ _ os 0 N1 (by first | with_reducible exact I3.out | with_reducible exact I3.out.dr) hn5 H1.out).mono ?_; rintro e yc ⟨rfl, hb9⟩; (try replace hb9 := undrew hb9); (try (have X3 := Lib.hid (X3.out.step hb9))); (try (have X7 := Lib.hid (X7.out.step hb9))); (try (have X10 := Lib.hid (X10.out.step hb9))); (try (have I0 := Lib.hid (I0.out.step hb9))); (try (have I3 := Lib.hid (I3.out.step hb9))); (try (have I4 := Lib.hid (I4.out.step hb9))); (try (have I5 := Lib.hid (I5.out.step hb9))); (try (have I6 := Lib.hid (I6.out.step hb9))); have HC := Lib.hid (bstep HC.out hb9); have X3_0 := X3.out.cell0; have X3_1 := X3.out.cell1; have X3_l := X3.out.lt; have X7_0 := X7.out.cell0; have X7_1 := X7.out.cell1; have X7_l := X7.out.lt; have X10_0 := X10.out.cell0; have X10_1 := X10.out.cell1; have X10_l := X10.out.lt; clear hb9) | (go_at_call 24; with_reducible show Calls _ _ #[.agg #[.int .i64 (kk : Nat), .slice A n c], _] _ _; refine (cb_b (kk : Nat) _ _ _ _ cs 0 N0 (by first | with_reducible exact I0.out | with_reducible exact I0.out.dr) hn49 H0.out).mono ?_; rintro e yc ⟨rfl, hb9⟩; (try replace hb9 := undrew hb9); (try (have X3 := Lib.hid (X3.out.step hb9))); (try (have X7 := Lib.hid (X7.out.step hb9))); (try (have X10 := Lib.hid (X10.out.step hb9))); (try (have I0 := Lib.hid (I0.out.step hb9))); (try (have I3 := Lib.hid (I3.out.step hb9))); (try (have I4 := Lib.hid (I4.out.step hb9))); (try (have I5 := Lib.hid (I5.out.step hb9))); (try (have I6 := Lib.hid (I6.out.step hb9))); have HC := Lib.hid (bstep HC.out hb9); have X3_0 := X3.out.cell0; have X3_1 := X3.out.cell1; have X3_l := X3.out.lt; have X7_0 := X7.out.cell0; have X7_1 := X7.out.cell1; have X7_l := X7.out.lt; have X10_0 := X10.out.cell0; have X10_1 := X10.out.cell1; have X10_l := X10.out.lt; clear hb9) | (go_at_call 32; refine (asc_b _ _ _ _ gs (by first | with_reducible exact I4.out | with_reducible exact I4.out.dr) (by omega) Hri.out).mono ?_; rintro e yc ⟨rfl, hb9⟩; (try replace hb9 := undrew hb9); (try (have X3 := Lib.hid (X3.out.step hb9))); (try (have X7 := Lib.hid (X7.out.step hb9))); (try (have X10 := Lib.hid (X10.out.step hb9))); (try (have I0 := Lib.hid (I0.out.step hb9))); (try (have I3 := Lib.hid (I3.out.step hb9))); (try (have I4 := Lib.hid (I4.out.step hb9))); (try (have I5 := Lib.hid (I5.out.step hb9))); (try (have I6 := Lib.hid (I6.out.step hb9))); have HC := Lib.hid (bstep HC.out hb9); have X3_0 := X3.out.cell0; have X3_1 := X3.out.cell1; have X3_l := X3.out.lt; have X7_0 := X7.out.cell0; have X7_1 := X7.out.cell1; have X7_l := X7.out.lt; have X10_0 := X10.out.cell0; have X10_1 := X10.out.cell1; have X10_l := X10.out.lt; clear hb9))
        all_goals go_wp2_with fail
        all_goals go_meet
        all_goals exact ⟨(by first | rfl | simp [hcmp]), HC.out⟩
      case rest =>
        clear HC
        obtain ⟨rfl, hb430⟩ := hcut
        clear X3_0 X3_1 X3_l X7_0 X7_1 X7_l X10_0 X10_1 X10_l
        have X3 := Lib.hid (X3.out.step hb430)
        have X7 := Lib.hid (X7.out.step hb430)
        have X10 := Lib.hid (X10.out.step hb430)
        have I0 := Lib.hid (I0.out.step hb430)
        have I3 := Lib.hid (I3.out.step hb430)
        have I4 := Lib.hid (I4.out.step hb430)
        have I5 := Lib.hid (I5.out.step hb430)
        have I6 := Lib.hid (I6.out.step hb430)
        have HB := Lib.hid (bstep HB.out hb430)
        clear hb430
        have X3_0 := X3.out.cell0
        have X3_1 := X3.out.cell1
        have X3_l := X3.out.lt
        have X7_0 := X7.out.cell0
        have X7_1 := X7.out.cell1
        have X7_l := X7.out.lt
        have X10_0 := X10.out.cell0
        have X10_1 := X10.out.cell1
        have X10_l := X10.out.lt
        go_wp2_with fail
        go_ret
        exact ⟨rfl, HB.out⟩


abbrev listed : List (String × DataW Unit) := [("math/bits.deBruijn64tab", Rows.laid_math_bits_deBruijn64tab), ("loop.example/goboard/impl.errOccupied", Rows.laid_loop_example_goboard_impl_errOccupied), ("loop.example/goboard/impl.errNoLiberty", Rows.laid_loop_example_goboard_impl_errNoLiberty)]
theorem door_met (os : Os) (args : Array Value) : laidMetH Tryd.prog listed ((World.doorLaid Tryd.prog 400 os).forCall (fun _ _ => 0) ⟨#[], args, []⟩).memory :=
  laidMetH_of_parts3 (fuel := 8) (laidMet_of_run' 8 (by kernel_rfl) (by kernel_rfl)) (by kernel_rfl) (by kernel_rfl)
theorem tabOf {W : World} (h : laidMetH Tryd.prog listed W) : Tab W := by
  rw [MakeChecks.laidMetH_plain _ _ _ (by kernel_rfl)] at h
  exact Tab.of (Lib.tabIs_of_head (g := 2) (t := 110) (e := 5) (n := 64) (by kernel_rfl) (by kernel_rfl) (by kernel_rfl) (by kernel_rfl) (by kernel_rfl) (by kernel_rfl) h) (by kernel_rfl)

theorem gv0 : Tryd.prog.globalNamed "loop.example/goboard/impl.errOccupied" = some 0 := by kernel_rfl
theorem gv1 : Tryd.prog.globalNamed "loop.example/goboard/impl.errNoLiberty" = some 1 := by kernel_rfl
theorem tv0 : (Tryd.prog.globals[0]?).map (·.type) = some 69 := by kernel_rfl
theorem tv1 : (Tryd.prog.globals[1]?).map (·.type) = some 69 := by kernel_rfl
theorem cellsE : Tryd.prog.cellsOf 139 = 1 := by kernel_rfl
theorem cellsS : Tryd.prog.cellsOf 9 = 1 := by kernel_rfl
theorem starE : "*" ++ "errors.errorString" = "*errors.errorString" := by decide
theorem rowE (u : TypeId) (h : Tryd.prog.typeName? 3 u = some "*errors.errorString") : u = 122 :=
  typeName_ptr_named (nm := "errors.errorString") (by rw [starE]; kernel_rfl) (by kernel_rfl) (by decide) u (by rw [starE]; exact h)
theorem sents {W : World} (h0 : laidMetH Tryd.prog listed W) : ∃ a0 a1 : Addr,
    W.var? Tryd.prog "loop.example/goboard/impl.errOccupied" = some #[.iface 122 (.pointer (some a0))] ∧ W.var? Tryd.prog "loop.example/goboard/impl.errNoLiberty" = some #[.iface 122 (.pointer (some a1))] := by
  rw [MakeChecks.laidMetH_plain _ _ _ (by kernel_rfl)] at h0
  obtain ⟨ps, ⟨g0, t0, cs0, f0, p0, q0, hg0, ht0, hv0, hd0, ⟨g1, t1, cs1, f1, p1, q1, hg1, ht1, hv1, hd1, hq1, e1⟩, e0⟩, hnd, hrows⟩ := h0.tail
  obtain rfl := Option.some.inj (gv0.symm.trans hg0)
  obtain rfl := Option.some.inj (gv1.symm.trans hg1)
  obtain rfl := Option.some.inj (tv0.symm.trans ht0)
  obtain rfl := Option.some.inj (tv1.symm.trans ht1)
  have hq1' : q1 = [] := hq1
  subst hq1'
  subst e1
  subst e0
  obtain ⟨l0⟩ := cs0
  obtain ⟨l1⟩ := cs1
  have ok0 : ∀ u v, l0 = [.iface u v] → Value.okWide Tryd.prog W .any 0 u v := fun u v e => by
    subst e
    exact (hrows 0 0 (by simp [MemPlace.row])).2 u v (by simpa using World.var?_cell hg0 hv0 0)
  have ok1 : ∀ u v, l1 = [.iface u v] → Value.okWide Tryd.prog W .any 0 u v := fun u v e => by
    subst e
    exact (hrows 1 0 (by simp [MemPlace.row])).2 u v (by simpa using World.var?_cell hg1 hv1 0)
  obtain ⟨a0, s0, rfl, hc0, hs0, hz0, rfl⟩ := errorString_of_trod Tryd.underlying69 rowE Tryd.underlying122 Tryd.underlying139 rfl rfl Tryd.underlying9 cellsE cellsS hd0 ok0
  obtain ⟨a1, s1, rfl, hc1, hs1, hz1, rfl⟩ := errorString_of_trod Tryd.underlying69 rowE Tryd.underlying122 Tryd.underlying139 rfl rfl Tryd.underlying9 cellsE cellsS hd1 ok1
  exact ⟨a0, a1, hv0, hv1⟩
theorem glt {W : World} {g : Nat} {v : Value} (h : W.cell? ⟨g, 0, none⟩ = some v) : g < W.heap.size := by
  rcases Nat.lt_or_ge g W.heap.size with hlt | hge
  · exact hlt
  · simp [World.cell?, Array.getElem?_eq_none hge] at h
theorem errs {W : World} {a0 a1 : Addr} (hv0 : W.var? Tryd.prog "loop.example/goboard/impl.errOccupied" = some #[.iface 122 (.pointer (some a0))]) (hv1 : W.var? Tryd.prog "loop.example/goboard/impl.errNoLiberty" = some #[.iface 122 (.pointer (some a1))]) : ErrW W := by
  have h0 : W.cell? ⟨0, 0, none⟩ = some (.iface 122 (.pointer (some a0))) := by simpa using World.var?_cell gv0 hv0 0
  have h1 : W.cell? ⟨1, 0, none⟩ = some (.iface 122 (.pointer (some a1))) := by simpa using World.var?_cell gv1 hv1 0
  exact ⟨a0, a1, h0, h1, glt h0, glt h1⟩
theorem vars_read {H : Type} (enc : TypeId × Value → H) {W : World} {x0 x1 : Value} (h0 : W.var? Tryd.prog "loop.example/goboard/impl.errOccupied" = some #[x0]) (h1 : W.var? Tryd.prog "loop.example/goboard/impl.errNoLiberty" = some #[x1]) (i0 : IsIface x0) (i1 : IsIface x1) (sp : Nat → Bool) :
    DataW.TrodVars enc Tryd.prog W sp ["loop.example/goboard/impl.errOccupied", "loop.example/goboard/impl.errNoLiberty"] [tok enc x0, tok enc x1] [.cell 0 0, .cell 1 0] :=
  ⟨_, _, #[x0], 1, [], [.cell 1 0], gv0, tv0, h0, trod_held Tryd.underlying69 i0 0, ⟨_, _, #[x1], 1, [], [], gv1, tv1, h1, trod_held Tryd.underlying69 i1 0, rfl, rfl⟩, rfl⟩
theorem var_below {W W' : World} {n : String} {g : Nat} {cs : Array Value} (hg : Tryd.prog.globalNamed n = some g) (h : W.var? Tryd.prog n = some cs) (hb : Below W.heap.size W W') : W'.var? Tryd.prog n = some cs := by
  unfold World.var? at h ⊢
  simp only [hg, Option.bind_some] at h ⊢
  have hlt : g < W.heap.size := by
    rcases Nat.lt_or_ge g W.heap.size with h' | h'
    · exact h'
    · simp [Array.getElem?_eq_none h'] at h
  rw [hb.block g hlt]
  exact h

set_option maxRecDepth 100000 in
theorem lifted (os : Os) (started : os.Started) (H : Type) (enc : TypeId × Value → H) :
    ReturnsInHanded {} Tryd.checked os 8 .any (fun w args => (Rows.fnPlayStoneCountSpec.pre enc Tryd.prog Tryd.f8 [] false w args ∧ laidMetH Tryd.prog listed w) ∧ sizedMet enc Tryd.prog Tryd.f8 (OpenSpec.ofChange Rows.fnPlayStoneCountSpec) false w args) (Rows.fnPlayStoneCountSpec.post enc Tryd.prog Tryd.f8 false true false false) := by
  refine returnsInHanded_of_change_and (C := Tryd.checked) (X := fun w _ => laidMetH Tryd.prog listed w) (fun _ _ _ hh h => h.of_heap hh) own started (by kernel_rfl) Tryd.func8
    (ChangeSpec.witness_shaped (enc := enc) (C := Tryd.checked) (os := os) (X := fun w _ => laidMetH Tryd.prog listed w) false (World.doorLaid Tryd.prog 400 os) #[.slice none 0 0] 8 rfl (World.shaped_of_RefB (by kernel_rfl) (by kernel_rfl)) (by kernel_rfl) (by kernel_rfl) (by kernel_rfl) (door_met os _)) ?_
  intro W base args ds gs before hval0 hW _ _ hL _
  have hval : ∀ (j : Nat) t v, Tryd.f8.params[j]? = some t → args[j]? = some v → Value.okWide Tryd.prog W .any base t v := hval0
  have hW' := hW
  obtain ⟨p, q, hA0, hV, rfl, hfz, hnd⟩ := hW
  have hA : DataW.TrodAll enc Tryd.prog W 0 (fun _ => true) true Tryd.f8.params.toList args.toList ds p := hA0
  rw [Tryd.params8] at hA hval
  obtain ⟨v0, vs0, d0, ds0, p0, q0, hargs, rfl, rfl, h0, r0⟩ := trodAll_cons hA
  obtain ⟨rfl, rfl, rfl⟩ := trodAll_nil r0
  obtain rfl : args = #[v0] := by cases args; simp_all
  have hVv : DataW.TrodVars enc Tryd.prog W (fun _ => true) ["loop.example/goboard/impl.errOccupied", "loop.example/goboard/impl.errNoLiberty"] gs q := hV
  obtain ⟨er0, er1, hv0, hv1⟩ := sents hL
  obtain ⟨rfl, rfl⟩ := hVv.unique (vars_read enc hv0 hv1 trivial trivial _)
  have hE := errs hv0 hv1
  clear hVv hV
  obtain ⟨a0, len0, cap0, rfl⟩ := okWide_slice Tryd.underlying22 (hval 0 22 v0 rfl rfl)
  have k0 := h0
  have lt0 : ∀ x ∈ p0, x.block < W.heap.size := by obtain ⟨m, hm⟩ := k0; exact DataW.trod_lt m _ _ _ hm
  obtain ⟨z0, w0⟩ : ∃ zs, IsRow .u8 W a0 len0 cap0 zs := by
    obtain ⟨fuel, hf⟩ := h0
    rcases open_ints Tryd.underlying22 Tryd.underlying5 (by kernel_rfl) hf with ⟨hcs, _⟩ | ⟨x, l, c, zs, hcs, _, hl, hm, hz, _, hcell, hwz⟩
    · simp [Value.cells] at hcs
      obtain ⟨rfl, rfl, rfl⟩ := hcs
      exact ⟨[], .inl ⟨rfl, rfl, rfl, rfl⟩⟩
    · simp [Value.cells] at hcs
      obtain ⟨rfl, rfl, rfl⟩ := hcs
      exact ⟨zs, .inr ⟨_, rfl, hl, hm, by simpa using hz, hcell, hwz⟩⟩
  clear hA0 hval0
  refine (walk a0 len0 cap0 z0 W (tabOf hL) hE w0).mono fun e W' ⟨he, bel⟩ => ?_
  subst he
  exact ⟨_, rfl, _, _, _, [], _, [.cell 0 0, .cell 1 0], hW', trodAll_mk1 (shut_bool Tryd.underlying4 _), (trodAll_cons_mk (Below.trod laidOut (by kernel_rfl) (of_decide_eq_true (by kernel_rfl)) k0 bel lt0) trodAll_mk0), vars_read enc (var_below gv0 hv0 bel) (var_below gv1 hv1 bel) trivial trivial _, bel.frame _, fun h => by cases h⟩

theorem over : Rows.fnPlayStoneCountRow.holds Tryd.pinned (OpenSpec.ofChange Rows.fnPlayStoneCountSpec) :=
  OpenClaim.holds_of_wide 8 Tryd.f8 rfl rfl rfl rfl rfl rfl rfl ⟨rfl, rfl, rfl, rfl, rfl⟩ rfl rfl rfl rfl rfl (by kernel_rfl) Tryd.func8 (by kernel_rfl)
    (of_decide_eq_true (by kernel_rfl)) (by unfold Func.isWrapper; first | (rw [if_pos (by decide +kernel)]; kernel_rfl) | (rw [if_neg (by decide +kernel)]; exact ⟨rfl, rfl⟩))
    (fun os started H enc _ => lifted os started H enc)

theorem proved : Rows.FnPlayStoneCountCardSaid :=
  Claim7.holds_tied_plain_at .later [] [.data, .sentinel, .sentinel] true Rows.fnPlayStoneCountCard.stood.harness false
    over (fun _ h => by cases h) (by kernel_rfl) (fun _ h => by cases h) fnPlayStoneCount_row_tie rfl ⟨rfl, rfl⟩ (by kernel_rfl) rfl
    (fun f fn hf hfn => by
      obtain rfl : f = 8 := Option.some.inj ((show Tryd.prog.funcNamed "loop.example/goboard/laws.FnPlayStoneCount" = some 8 by kernel_rfl).symm.trans hf) |>.symm
      obtain rfl : fn = Tryd.f8 := (Option.some.inj (Tryd.func8.symm.trans hfn)).symm
      exact ⟨by kernel_rfl, fun j t ht => by
        have hm : t ∈ Tryd.f8.params.toList := by simpa using Array.mem_of_getElem? ht
        have hall : (Tryd.f8.params.toList.all fun u => !Tryd.prog.wantsStandIn u) = true := by kernel_rfl
        exact (show Tryd.prog.wantsStandIn t = false by simpa using List.all_eq_true.1 hall t hm)⟩)
    (by kernel_rfl)
end Go.Proofs.YtpogjegihhljpaaDoor.fnPlayStoneCount
