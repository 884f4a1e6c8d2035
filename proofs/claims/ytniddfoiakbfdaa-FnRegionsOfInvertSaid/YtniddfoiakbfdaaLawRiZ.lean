/-
  Regions of exchanged colors: the law holds for every code. No condition.
-/
import Derived.Test.YtniddfoiakbfdaaLawTiKitA
import Derived.Test.YtniddfoiakbfdaaLawTiKitD
import Derived.Test.YtniddfoiakbfdaaInvB
import Derived.Test.YtniddfoiakbfdaaLawTiKitB
import Derived.Deep.RegionWith
import Derived.Deep.DeepCutAuto
import Derived.Test.YtniddfoiakbfdaaRows
import Derived.WalkKit
import Derived.ProofKit
import Derived.OpenShut
import Derived.ShutString
import Derived.ChangeOld
import Derived.Below
namespace Go.Proofs.Ytniddfoiakbfdaa
set_option maxRecDepth 100000
open Go.RowKit

theorem r_anyColor (B g q : Nat) (w : World) (h : Rdr w B g q) (hq : q ≤ 1000000000000) :
    Calls Try.prog 51 #[.pointer (some ⟨g, 0, none⟩)] w fun e w' => Got (fun x => -1 ≤ x ∧ x ≤ 3) w B g (q + 1) e w' := by
  have hlt := h.lt
  go_enter Try.func51, Try.ntmps51
  go_wp2_with fail
  have hl := Ints.lit w 3 [1, 2, 1, 2, 1, 2, 1, 2, 1, 2, 0, 3, -1]
  refine (r_one B g q _ _ [1, 2, 1, 2, 1, 2, 1, 2, 1, 2, 0, 3, -1] _ _ (h.below ((Below.refl _ _).alloc (Nat.le_refl _) _) hlt) hq hl (by simp) (by simp) (by simp) (by rintro b o e; injection e with e; injection e; omega)).mono ?_
  rintro e w1 ⟨x, rfl, hx, hr, hw⟩
  have Hr := Lib.hid hr
  have Hw := Lib.hid (gtrans (World.grownBy_alloc w _ (some g)) hw)
  have Hx := Lib.hid hx
  clear hr hw hl hx
  go_wp2_with fail
  go_ret
  refine ⟨_, rfl, ?_, Hr.out, Hw.out⟩
  have := Hx.out
  simp at this
  omega

set_option maxRecDepth 100000 in
set_option maxHeartbeats 2000000 in
theorem d_cnt (w : World) (a : Option Addr) (len cap : Nat) (zs : List Int) (h : IsRow .u8 w a len cap zs) :
    Calls Try.prog 26 #[.slice a len cap] w fun e w' => DrawnLI (fun x => -1 ≤ x ∧ x ≤ 8) w e w' := by
  have hb1 : Below w.heap.size w (w.alloc (.cells #[.int .i64 0, .slice none 0 0] 25)) := (Below.refl _ _).alloc (Nat.le_refl _) _
  have X2 := Lib.hid (Bx.new 25 w 0 (.slice none 0 0))
  have Hb := Lib.hid hb1
  have hsz : (w.alloc (.cells #[.int .i64 0, .slice none 0 0] 25)).heap.size = w.heap.size + 1 := by simp
  have Hsz := Lib.hid hsz
  have H := Lib.hid (h.below hb1)
  clear h hb1 hsz
  go_enter Try.func26, Try.ntmps26
  go_wp2_with fail
  refine (r_new _ _ _ _ zs H.out).mono ?_
  rintro e y ⟨g, rfl, hr, hb⟩
  have Hg := Lib.hid hr.1
  rw [Hsz.out] at Hg
  have hg1 := Hg.out
  have X2 := Lib.hid (X2.out.below hb X2.out.lt)
  have Hb := Lib.hid (Hb.out.trans (hb.mono (by rw [Hsz.out]; omega)))
  have zy := X2.out.lt
  obtain ⟨Bq, Hr⟩ : ∃ Bq, Hid (Rdr y Bq g 0) := ⟨_, Lib.hid hr⟩
  clear hr hb
  go_wp2_with fail
  have hgy := Hr.out.lt
  refine (r_any Bq g 0 _ Hr.out (by omega)).mono ?_
  rintro e y2 ⟨s, A, n, c, cs, q', rfl, hi, hn, s0, s8, hr, hq, hg⟩
  have X2 := Lib.hid (X2.out.grown hg (fun e => by have := Option.some.inj e; omega))
  have Hb := Lib.hid (Hb.out.trans (below_g hg (by omega) (fun k hk => by have := Option.some.inj hk; omega)))
  have Hi := Lib.hid hi
  have Hr := Lib.hid hr
  have hgl := hr.lt
  have zz := hg.size
  clear hi hr hg
  go_upto_region 3 with (fail)
  obtain ⟨y3, hy3, hb3, z3, z4⟩ := new_box y2 (.cells #[.int .i64 s, .slice A n c] 25)
  have X5 : Hid (Bx 25 y3 y2.heap.size s (.slice A n c)) := Lib.hid (by rw [hy3]; exact Bx.new _ _ _ _)
  rw [← hy3]
  clear hy3
  have X2 := Lib.hid (X2.out.below hb3 X2.out.lt)
  have Hr := Lib.hid (Hr.out.below hb3 Hr.out.lt)
  have Hi := Lib.hid (Hi.out.below hb3)
  have Hb := Lib.hid (Hb.out.trans (hb3.mono (by omega)))
  clear hb3
  have t0 := X5.out.cell0
  have t1 := X5.out.cell1
  have t2 := X5.out.lt
  go_region_with (first | (go_at_call 51; refine (r_anyColor Bq g q' _ (by exact Hr.out) (by omega)).mono ?_; rintro e y5 ⟨x, rfl, hx, hr, hg⟩; have hg5 : y3.grownBy y5 (some g) := ⟨hg.os, hg.tape, hg.output, hg.size, hg.block⟩; have hx8 : -1 ≤ x ∧ x ≤ 8 := (by omega); have HX2 := Lib.hid (X2.out.grown hg5 (fun e => by have := Option.some.inj e; omega)); have HX5 := Lib.hid (X5.out.grown hg5 (fun e => by have := Option.some.inj e; omega)); have HI := Lib.hid (Hi.out.grown hg5 (by omega)); have HB := Lib.hid (Hb.out.trans (below_g hg5 (by omega) (fun k hk => by have := Option.some.inj hk; omega))); have u0 := HX5.out.cell0; have u1 := HX5.out.cell1; have u2 := HX5.out.lt; have r0 := HX2.out.cell0; have r1 := HX2.out.cell1; have r2 := HX2.out.frozen 0; have r3 := HX2.out.frozen 1; have r4 := HX2.out.lt; clear hr hg hg5))
  all_goals go_wp2_with fail
  all_goals
    have k0 := (HX2.out.set0 s).cell0
    have k1 := ((HX2.out.set0 s).set1 (.slice A n c)).cell1
    refine bodyPost_ret (v := .tuple #[.agg #[.int .i64 s, .slice A n c], .int .i64 x]) (by simp [results, Try.results26, go_sem, k0, k1]) rfl ?_
    have hi3 := ((HI.out.far ⟨w.heap.size, 0, none⟩ (by show w.heap.size < y.heap.size; omega) (.int .i64 s)).far ⟨w.heap.size, 1, none⟩ (by show w.heap.size < y.heap.size; omega) (.slice A n c)).ints
    have hb3 := (HB.out.setCell (p := ⟨w.heap.size, 0, none⟩) (Nat.le_refl _) (.int .i64 s)).setCell (p := ⟨w.heap.size, 1, none⟩) (Nat.le_refl _) (.slice A n c)
    exact ⟨_, _, _, _, _, _, rfl, hi3, hn, s0, s8, hx8, hb3⟩

end Go.Proofs.Ytniddfoiakbfdaa

namespace Go.Proofs.Ytniddfoiakbfdaa
set_option maxRecDepth 100000
open Go.RowKit

/-- The same, and the row lies in new memory. -/
def DrawnLFR (P : Int → Prop) (w : World) (e : Ending) (w' : World) : Prop :=
  ∃ (s : Int) (A : Option Addr) (n c : Nat) (cs : List Int) (x : Int) (lo : Nat), e = .returned (.tuple #[.agg #[.int .i64 s, .slice A n c], .int .i64 x]) ∧ w.heap.size ≤ lo ∧ IntsF w' lo A n cs ∧ n ≤ 49 ∧ 0 ≤ s ∧ s ≤ 8 ∧ P x ∧ Below w.heap.size w w'

set_option maxRecDepth 100000 in
set_option maxHeartbeats 2000000 in
theorem d_cntR (w : World) (a : Option Addr) (len cap : Nat) (zs : List Int) (h : IsRow .u8 w a len cap zs) :
    Calls Try.prog 26 #[.slice a len cap] w fun e w' => DrawnLFR (fun x => -1 ≤ x ∧ x ≤ 8) w e w' := by
  have hb1 : Below w.heap.size w (w.alloc (.cells #[.int .i64 0, .slice none 0 0] 25)) := (Below.refl _ _).alloc (Nat.le_refl _) _
  have X2 := Lib.hid (Bx.new 25 w 0 (.slice none 0 0))
  have Hb := Lib.hid hb1
  have hsz : (w.alloc (.cells #[.int .i64 0, .slice none 0 0] 25)).heap.size = w.heap.size + 1 := by simp
  have Hsz := Lib.hid hsz
  have H := Lib.hid (h.below hb1)
  clear h hb1 hsz
  go_enter Try.func26, Try.ntmps26
  go_wp2_with fail
  refine (r_new _ _ _ _ zs H.out).mono ?_
  rintro e y ⟨g, rfl, hr, hb⟩
  have Hg := Lib.hid hr.1
  rw [Hsz.out] at Hg
  have hg1 := Hg.out
  have X2 := Lib.hid (X2.out.below hb X2.out.lt)
  have Hb := Lib.hid (Hb.out.trans (hb.mono (by rw [Hsz.out]; omega)))
  have zy := X2.out.lt
  obtain ⟨Bq, Hr⟩ : ∃ Bq, Hid (Rdr y Bq g 0) := ⟨_, Lib.hid hr⟩
  clear hr hb
  go_wp2_with fail
  have hgy := Hr.out.lt
  refine (r_any Bq g 0 _ Hr.out (by omega)).mono ?_
  rintro e y2 ⟨s, A, n, c, cs, q', rfl, hi, hn, s0, s8, hr, hq, hg⟩
  have X2 := Lib.hid (X2.out.grown hg (fun e => by have := Option.some.inj e; omega))
  have Hb := Lib.hid (Hb.out.trans (below_g hg (by omega) (fun k hk => by have := Option.some.inj hk; omega)))
  have Hi := Lib.hid hi
  have Hr := Lib.hid hr
  have hgl := hr.lt
  have zz := hg.size
  clear hi hr hg
  go_upto_region 3 with (fail)
  obtain ⟨y3, hy3, hb3, z3, z4⟩ := new_box y2 (.cells #[.int .i64 s, .slice A n c] 25)
  have X5 : Hid (Bx 25 y3 y2.heap.size s (.slice A n c)) := Lib.hid (by rw [hy3]; exact Bx.new _ _ _ _)
  rw [← hy3]
  clear hy3
  have X2 := Lib.hid (X2.out.below hb3 X2.out.lt)
  have Hr := Lib.hid (Hr.out.below hb3 Hr.out.lt)
  have Hi := Lib.hid (Hi.out.below hb3)
  have Hb := Lib.hid (Hb.out.trans (hb3.mono (by omega)))
  clear hb3
  have t0 := X5.out.cell0
  have t1 := X5.out.cell1
  have t2 := X5.out.lt
  go_region_with (first | (go_at_call 51; refine (r_anyColor Bq g q' _ (by exact Hr.out) (by omega)).mono ?_; rintro e y5 ⟨x, rfl, hx, hr, hg⟩; have hg5 : y3.grownBy y5 (some g) := ⟨hg.os, hg.tape, hg.output, hg.size, hg.block⟩; have hx8 : -1 ≤ x ∧ x ≤ 8 := (by omega); have HX2 := Lib.hid (X2.out.grown hg5 (fun e => by have := Option.some.inj e; omega)); have HX5 := Lib.hid (X5.out.grown hg5 (fun e => by have := Option.some.inj e; omega)); have HI := Lib.hid (Hi.out.grown hg5 (by omega)); have HB := Lib.hid (Hb.out.trans (below_g hg5 (by omega) (fun k hk => by have := Option.some.inj hk; omega))); have u0 := HX5.out.cell0; have u1 := HX5.out.cell1; have u2 := HX5.out.lt; have r0 := HX2.out.cell0; have r1 := HX2.out.cell1; have r2 := HX2.out.frozen 0; have r3 := HX2.out.frozen 1; have r4 := HX2.out.lt; clear hr hg hg5))
  all_goals go_wp2_with fail
  all_goals
    have k0 := (HX2.out.set0 s).cell0
    have k1 := ((HX2.out.set0 s).set1 (.slice A n c)).cell1
    refine bodyPost_ret (v := .tuple #[.agg #[.int .i64 s, .slice A n c], .int .i64 x]) (by simp [results, Try.results26, go_sem, k0, k1]) rfl ?_
    have hi3 := ((HI.out.far ⟨w.heap.size, 0, none⟩ (by show w.heap.size < y.heap.size; omega) (.int .i64 s)).far ⟨w.heap.size, 1, none⟩ (by show w.heap.size < y.heap.size; omega) (.slice A n c))
    have hb3 := (HB.out.setCell (p := ⟨w.heap.size, 0, none⟩) (Nat.le_refl _) (.int .i64 s)).setCell (p := ⟨w.heap.size, 1, none⟩) (Nat.le_refl _) (.slice A n c)
    exact ⟨_, _, _, _, _, _, _, rfl, (by omega), hi3, hn, s0, s8, hx8, hb3⟩

set_option maxHeartbeats 2000000 in
theorem d_rg (w : World) (a : Option Addr) (len cap : Nat) (zs : List Int) (h : IsRow .u8 w a len cap zs) :
    Calls Try.prog 9 #[.slice a len cap] w fun e w' => DrawnLI (fun x => -1 ≤ x ∧ x ≤ 8) w e w' := by
  have hb1 : Below w.heap.size w (w.alloc (.cells #[.int .i64 0, .slice none 0 0] 25)) := (Below.refl _ _).alloc (Nat.le_refl _) _
  have X2 := Lib.hid (Bx.new 25 w 0 (.slice none 0 0))
  have Hb := Lib.hid hb1
  have H := Lib.hid (h.below hb1)
  clear h hb1
  go_enter Try.func9, Try.ntmps9
  go_wp2_with fail
  refine (d_cntR _ _ _ _ zs H.out).mono ?_
  rintro e y2 ⟨s, A, n, c, cs, x, lo, rfl, hlo, hi, hn, s0, s8, hx, hb⟩
  have hlo2 : w.heap.size < lo := by simp at hlo; omega
  have X2 := Lib.hid (X2.out.below hb X2.out.lt)
  have Hb := Lib.hid (Hb.out.trans (hb.mono (by simp)))
  have Hi := Lib.hid hi
  have Hx := Lib.hid hx
  clear hi hb hx
  have r0 := X2.out.cell0
  have r1 := X2.out.cell1
  have r2 := X2.out.frozen 0
  have r3 := X2.out.frozen 1
  have r4 := X2.out.lt
  have K0 := Lib.hid ((X2.out.set0 s).cell0)
  have K1 := Lib.hid (((X2.out.set0 s).set1 (.slice A n c)).cell1)
  have Hb3 := Lib.hid ((Hb.out.setCell (p := ⟨w.heap.size, 0, none⟩) (Nat.le_refl _) (.int .i64 s)).setCell (p := ⟨w.heap.size, 1, none⟩) (Nat.le_refl _) (.slice A n c))
  go_wp2_with fail
  have k0 := K0.out
  have k1 := K1.out
  refine bodyPost_ret (v := .tuple #[.agg #[.int .i64 s, .slice A n c], .int .i64 x]) (by simp [results, Try.results9, go_sem, k0, k1]) rfl ?_
  have hi3 := ((Hi.out.far ⟨w.heap.size, 0, none⟩ hlo2 (.int .i64 s)).far ⟨w.heap.size, 1, none⟩ hlo2 (.slice A n c)).ints
  exact ⟨_, _, _, _, _, _, rfl, hi3, hn, s0, s8, Hx.out, Hb3.out⟩

set_option maxRecDepth 100000 in
set_option maxHeartbeats 2000000 in
theorem eqg_b (w : World) (A A' : Option Addr) (n c c' : Nat) (xss : List (List Int)) (h : IntsS w A n xss) (h' : IntsS w A' n xss) (hn : n ≤ 1000000) (hsm : ∀ j, j < n → (xss.getD j []).length ≤ 1000000) :
    Calls Try.prog 11 #[.slice A n c, .slice A' n c'] w fun e w' => e = .returned (.bool true) ∧ Below w.heap.size w w' := by
  by_cases h0 : n = 0
  · subst h0
    clear h h' hsm
    go_enter Try.func11, Try.ntmps11
    go_wp2_with fail
    go_rounds 1
    go_ret
    exact ⟨rfl, Below.refl _ _⟩
  · obtain ⟨b, o, rfl, hlt, hc⟩ : ∃ b o, A = some ⟨b, o, none⟩ ∧ b < w.heap.size ∧ ∀ j, j < n → ∃ Aj nj cj, w.cell? ⟨b, o + j, none⟩ = some (.slice Aj nj cj) ∧ Ints w w.heap.size Aj nj (xss.getD j []) := by
      rcases h.2 with e | e
      · exact absurd e h0
      · exact e
    obtain ⟨b', o', rfl, hlt', hc'⟩ : ∃ b o, A' = some ⟨b, o, none⟩ ∧ b < w.heap.size ∧ ∀ j, j < n → ∃ Aj nj cj, w.cell? ⟨b, o + j, none⟩ = some (.slice Aj nj cj) ∧ Ints w w.heap.size Aj nj (xss.getD j []) := by
      rcases h'.2 with e | e
      · exact absurd e h0
      · exact e
    have Hc := Lib.hid hc
    have Hc' := Lib.hid hc'
    have Hsm := Lib.hid hsm
    clear h h' hc hc' hsm
    go_enter Try.func11, Try.ntmps11
    go_wp2_with fail
    go_loopw [5] (fun i wr => ∃ k : Nat, k ≤ n ∧ i = .int .i64 k ∧ Below w.heap.size w wr) (fun i _ => n - (intOf i).toNat)
    case atStart => exact ⟨0, by omega, rfl, Below.refl _ _⟩
    case round =>
      obtain ⟨k, hk, rfl, hb⟩ := hrel
      have Hb := Lib.hid hb
      have hz := hb.size
      clear hb
      obtain ⟨wo, rfl⟩ : ∃ wo : World, wo = wr := ⟨_, rfl⟩
      by_cases hkn : k < n
      · obtain ⟨A1, n1, c1, e1, i1⟩ := Hc.out k hkn
        obtain ⟨A2, n2, c2, e2, i2⟩ := Hc'.out k hkn
        have hs := Hsm.out k hkn
        have l1 := i1.1
        have l2 := i2.1
        obtain rfl : n2 = n1 := by omega
        have ck := (Hb.out.cell (p := ⟨b, o + k, none⟩) (by show b < _; omega)).trans e1
        have ck' := (Hb.out.cell (p := ⟨b', o' + k, none⟩) (by show b' < _; omega)).trans e2
        have I1 := Lib.hid (i1.below Hb.out (Nat.le_refl _))
        have I2 := Lib.hid (i2.below Hb.out (Nat.le_refl _))
        have hki : (k : Int) < n := by omega
        have hs2 : n2 ≤ 1000000000 := by omega
        clear e1 e2 i1 i2 l1 l2 hs
        go_upto_region 6 with (fail)
        go_cut [26] (fun v wx => v = .bool false ∧ Below wo.heap.size wo wx)
        case first =>
          go_region_with (go_at_call 30; refine (eqi_t _ _ _ _ _ _ _ _ _ (by exact I1.out) (by exact I2.out) hs2).mono ?_; rintro e ya ⟨d, rfl, rfl⟩)
          all_goals go_wp2_with fail
          all_goals go_meet
          all_goals exact ⟨rfl, ⟨rfl, rfl, rfl, Nat.le_refl _, fun _ _ => rfl⟩⟩
        case rest =>
          obtain ⟨rfl, hb2⟩ := hcut
          have Hb2 := Lib.hid (Hb.out.trans (hb2.mono (by omega)))
          clear hb2 ck ck'
          go_wp2_with fail
          go_roundw
          case rel => exact ⟨k + 1, by omega, by go_num, Hb2.out⟩
          case measure => simp [intOf]; omega
      · go_wp2_with fail
        go_ret
        exact ⟨rfl, Hb.out⟩
theorem IntsS.stepR {w w' : World} {A : Option Addr} {n : Nat} {xss : List (List Int)} (h : IntsS w A n xss) (hb : Below w.heap.size w w') : IntsS w' A n xss := h.below hb
theorem i_invR (s : Int) (w : World) (A : Option Addr) (n c : Nat) (cs : List Int) (h : Ints w w.heap.size A n cs) (hn : n ≤ 49) (hv : Hid (Bd.okB s cs = true)) : Calls Try.prog 8 #[.agg #[.int .i64 s, .slice A n c]] w fun e w' => ∃ A' c', e = .returned (.agg #[.int .i64 s, .slice A' n c']) ∧ Own w' w.heap.size A' n c' (othCs cs) ∧ Below w.heap.size w w' := by
  have := i_inv s w w.heap.size A n c cs h (Nat.le_refl _) (by omega)
  rw [invS, invCs, if_pos hv.out, if_pos hv.out] at this
  refine this.mono ?_
  rintro e w' ⟨A', n', c', rfl, ho, hb⟩
  have e3 : n = n' := by have h1 := ho.1; have h2 := h.1; rw [othCs_len] at h1; omega
  subst e3
  exact ⟨_, _, rfl, ho, hb⟩
theorem i_vbR (s : Int) (w : World) (A : Option Addr) (n c : Nat) (cs : List Int) (h : Ints w w.heap.size A n cs) (hn : n ≤ 49) (b : Bool) (hb : Hid (Bd.okB s cs = b)) : Calls Try.prog 13 #[.agg #[.int .i64 s, .slice A n c]] w fun e w' => e = .returned (.bool b) ∧ Below w.heap.size w w' := by
  rw [← hb.out]
  exact i_validBoard s w _ A n c cs h (Nat.le_refl _) (by omega)
end Go.Proofs.Ytniddfoiakbfdaa

namespace Go.Proofs.Ytniddfoiakbfdaa.fnRegionsOfInvert
set_option maxRecDepth 100000
open Go.ChangeShapes Go.WideShapes Go.ChangeAt Go.RowKit
open Go.ChangeMaps (open_string shut_string)
set_option linter.unusedVariables false

theorem own : ownKnob Try.prog.godebug = none := by kernel_rfl
theorem laidOut : laidOutB Try.prog = true := by kernel_rfl


set_option maxRecDepth 100000 in
set_option maxHeartbeats 16000000 in
theorem walk (a0 : Option Addr) (len0 cap0 : Nat) (z0 : List Int) (w : World) (w0 : IsRow .u8 w a0 len0 cap0 z0) :
    Calls Try.prog 4 #[.slice a0 len0 cap0] w fun e w' => e = .returned (.bool true) ∧ Below w.heap.size w w' := by
  by_cases hl : 1048576 < len0
  · go_enter Try.func4, Try.ntmps4
    go_wp2_with fail
    go_ret
    exact ⟨rfl, Below.refl _ _⟩
  · have hl' : decide ((1048576 : Int) < (len0 : Int)) = false := by rw [decide_eq_false_iff_not]; omega
    go_enter Try.func4, Try.ntmps4
    go_wp2_with fail
    refine (d_rg w a0 len0 cap0 z0 w0).mono ?_
    rintro e y0 ⟨s, A, n, c, cs, x, rfl, hi, hn49, s0, s8, hx, hb⟩
    have I0 := Lib.hid hi
    have HB := Lib.hid hb
    clear hi hb w0 hl'
    go_wp2_with fail
    obtain ⟨x1, hy3, hb2, z4, z5⟩ := new_box y0 (.cells #[.int .i64 s, .slice A n c] 25)
    have X3 : Hid (Bx 25 x1 y0.heap.size s (.slice A n c)) := Lib.hid (by rw [hy3]; exact Bx.new _ _ _ _)
    rw [← hy3]
    clear hy3
    have I0 := Lib.hid (I0.out.step hb2)
    have HB := Lib.hid (bstep HB.out hb2)
    clear hb2
    have X3_0 := X3.out.cell0
    have X3_1 := X3.out.cell1
    have X3_l := X3.out.lt
    have hl0 := I0.out.1
    obtain ⟨ls, hls⟩ := RgIs.make s n cs x hl0
    have hsm := hls.small hl0
    have Hls := Lib.hid hls
    have Hl := Lib.hid hl0
    have hll := hsm.1
    have Hsm := Lib.hid hsm.2
    clear hls hl0 hsm
    go_wp2_with fail
    refine (i_Rg s x _ _ _ n _ cs I0.out (Nat.le_refl _) (by omega) ls Hls).mono ?_
    rintro e x6 ⟨A5, m5, c5, rfl, hs8, hb7⟩
    clear X3_0 X3_1 X3_l
    have X3 := Lib.hid (X3.out.step hb7)
    have I0 := Lib.hid (I0.out.step hb7)
    have HB := Lib.hid (bstep HB.out hb7)
    have F5 := Lib.hid (SS.ints hs8)
    have lenF5 := hs8.1
    clear hb7 hs8
    have X3_0 := X3.out.cell0
    have X3_1 := X3.out.cell1
    have X3_l := X3.out.lt
    go_wp2_with fail
    refine (s_RegionsOf s x _ _ _ n _ cs I0.out (Nat.le_refl _) (by omega) ls Hls).mono ?_
    rintro e x9 ⟨A6, m6, c6, rfl, hs11, hb10⟩
    clear X3_0 X3_1 X3_l
    have X3 := Lib.hid (X3.out.step hb10)
    have I0 := Lib.hid (I0.out.step hb10)
    have F5 := Lib.hid (F5.out.stepR hb10)
    have HB := Lib.hid (bstep HB.out hb10)
    have F6 := Lib.hid (SS.ints hs11)
    have lenF6 := hs11.1
    clear hb10 hs11
    have X3_0 := X3.out.cell0
    have X3_1 := X3.out.cell1
    have X3_l := X3.out.lt
    obtain rfl : m6 = m5 := by omega
    go_wp2_with fail
    refine (eqg_b _ _ _ _ _ _ ls F5.out F6.out (by omega) (fun j _ => by have := Hsm.out j; omega)).mono ?_
    rintro e x12 ⟨rfl, hb13⟩
    clear X3_0 X3_1 X3_l
    have X3 := Lib.hid (X3.out.step hb13)
    have I0 := Lib.hid (I0.out.step hb13)
    have F5 := Lib.hid (F5.out.stepR hb13)
    have F6 := Lib.hid (F6.out.stepR hb13)
    have HB := Lib.hid (bstep HB.out hb13)
    clear hb13
    have X3_0 := X3.out.cell0
    have X3_1 := X3.out.cell1
    have X3_l := X3.out.lt
    rcases Bool.eq_false_or_eq_true (Bd.okB s cs) with hv | hv
    · have Hv := Lib.hid hv
      clear hv
      go_wp2_with fail
      refine (i_vbR s _ A n c cs I0.out hn49 true Hv).mono ?_
      rintro e x65 ⟨rfl, hb66⟩
      clear X3_0 X3_1 X3_l
      have X3 := Lib.hid (X3.out.step hb66)
      have I0 := Lib.hid (I0.out.step hb66)
      have F5 := Lib.hid (F5.out.stepR hb66)
      have F6 := Lib.hid (F6.out.stepR hb66)
      have HB := Lib.hid (bstep HB.out hb66)
      clear hb66
      have X3_0 := X3.out.cell0
      have X3_1 := X3.out.cell1
      have X3_l := X3.out.lt
      rcases Bool.eq_false_or_eq_true (decide (x < 1)) with k1 | k1
      · go_wp2_with fail
        refine (s_RegionsOf s x _ _ _ n _ cs I0.out (Nat.le_refl _) (by omega) ls Hls).mono ?_
        rintro e x168 ⟨A7, m7, c7, rfl, hs170, hb169⟩
        clear X3_0 X3_1 X3_l
        have X3 := Lib.hid (X3.out.step hb169)
        have I0 := Lib.hid (I0.out.step hb169)
        have F5 := Lib.hid (F5.out.stepR hb169)
        have F6 := Lib.hid (F6.out.stepR hb169)
        have HB := Lib.hid (bstep HB.out hb169)
        have F7 := Lib.hid (SS.ints hs170)
        have lenF7 := hs170.1
        clear hb169 hs170
        have X3_0 := X3.out.cell0
        have X3_1 := X3.out.cell1
        have X3_l := X3.out.lt
        obtain rfl : m7 = m6 := by omega
        go_wp2_with fail
        refine (eqg_b _ _ _ _ _ _ ls F5.out F7.out (by omega) (fun j _ => by have := Hsm.out j; omega)).mono ?_
        rintro e x171 ⟨rfl, hb172⟩
        clear X3_0 X3_1 X3_l
        have X3 := Lib.hid (X3.out.step hb172)
        have I0 := Lib.hid (I0.out.step hb172)
        have F5 := Lib.hid (F5.out.stepR hb172)
        have F6 := Lib.hid (F6.out.stepR hb172)
        have F7 := Lib.hid (F7.out.stepR hb172)
        have HB := Lib.hid (bstep HB.out hb172)
        clear hb172
        have X3_0 := X3.out.cell0
        have X3_1 := X3.out.cell1
        have X3_l := X3.out.lt
        go_wp2_with fail
        go_ret
        exact ⟨by first | rfl | simp, HB.out⟩
      · rcases Bool.eq_false_or_eq_true (decide (2 < x)) with k2 | k2
        · go_wp2_with fail
          refine (s_RegionsOf s x _ _ _ n _ cs I0.out (Nat.le_refl _) (by omega) ls Hls).mono ?_
          rintro e x268 ⟨A7, m7, c7, rfl, hs270, hb269⟩
          clear X3_0 X3_1 X3_l
          have X3 := Lib.hid (X3.out.step hb269)
          have I0 := Lib.hid (I0.out.step hb269)
          have F5 := Lib.hid (F5.out.stepR hb269)
          have F6 := Lib.hid (F6.out.stepR hb269)
          have HB := Lib.hid (bstep HB.out hb269)
          have F7 := Lib.hid (SS.ints hs270)
          have lenF7 := hs270.1
          clear hb269 hs270
          have X3_0 := X3.out.cell0
          have X3_1 := X3.out.cell1
          have X3_l := X3.out.lt
          obtain rfl : m7 = m6 := by omega
          go_wp2_with fail
          refine (eqg_b _ _ _ _ _ _ ls F5.out F7.out (by omega) (fun j _ => by have := Hsm.out j; omega)).mono ?_
          rintro e x271 ⟨rfl, hb272⟩
          clear X3_0 X3_1 X3_l
          have X3 := Lib.hid (X3.out.step hb272)
          have I0 := Lib.hid (I0.out.step hb272)
          have F5 := Lib.hid (F5.out.stepR hb272)
          have F6 := Lib.hid (F6.out.stepR hb272)
          have F7 := Lib.hid (F7.out.stepR hb272)
          have HB := Lib.hid (bstep HB.out hb272)
          clear hb272
          have X3_0 := X3.out.cell0
          have X3_1 := X3.out.cell1
          have X3_l := X3.out.lt
          go_wp2_with fail
          go_ret
          exact ⟨by first | rfl | simp, HB.out⟩
        · have hx12 : x = 1 ∨ x = 2 := by rw [decide_eq_false_iff_not] at k1 k2; omega
          have Hx := Lib.hid (Hls.out.xch hx12)
          obtain ⟨x', hx'⟩ : ∃ x', 3 - x = x' := ⟨_, rfl⟩
          have hw : IntKind.i64.wrap (3 - x) = x' := (by rw [hx']; exact wrap_small (by omega) (by omega))
          rw [hx'] at Hx
          clear hx12 hx'
          go_wp2_with fail
          refine (i_invR s _ A n c cs I0.out hn49 Hv).mono ?_
          rintro e x368 ⟨A1, c1, rfl, ho370, hb369⟩
          clear X3_0 X3_1 X3_l
          have X3 := Lib.hid (X3.out.step hb369)
          have I0 := Lib.hid (I0.out.step hb369)
          have F5 := Lib.hid (F5.out.stepR hb369)
          have F6 := Lib.hid (F6.out.stepR hb369)
          have HB := Lib.hid (bstep HB.out hb369)
          have R1 := Lib.hid ho370.ints
          have lenR1 := ho370.1
          clear hb369 ho370
          have X3_0 := X3.out.cell0
          have X3_1 := X3.out.cell1
          have X3_l := X3.out.lt
          go_wp2_with fail
          refine (i_Rg s x' _ _ _ n _ (othCs cs) R1.out (Nat.le_refl _) (by omega) ls Hx).mono ?_
          rintro e x371 ⟨A8, m8, c8, rfl, hs373, hb372⟩
          clear X3_0 X3_1 X3_l
          have X3 := Lib.hid (X3.out.step hb372)
          have I0 := Lib.hid (I0.out.step hb372)
          have F5 := Lib.hid (F5.out.stepR hb372)
          have F6 := Lib.hid (F6.out.stepR hb372)
          have R1 := Lib.hid (R1.out.step hb372)
          have HB := Lib.hid (bstep HB.out hb372)
          have F8 := Lib.hid (SS.ints hs373)
          have lenF8 := hs373.1
          clear hb372 hs373
          have X3_0 := X3.out.cell0
          have X3_1 := X3.out.cell1
          have X3_l := X3.out.lt
          obtain rfl : m8 = m6 := by omega
          go_wp2_with fail
          refine (eqg_b _ _ _ _ _ _ ls F8.out F5.out (by omega) (fun j _ => by have := Hsm.out j; omega)).mono ?_
          rintro e x374 ⟨rfl, hb375⟩
          clear X3_0 X3_1 X3_l
          have X3 := Lib.hid (X3.out.step hb375)
          have I0 := Lib.hid (I0.out.step hb375)
          have F5 := Lib.hid (F5.out.stepR hb375)
          have F6 := Lib.hid (F6.out.stepR hb375)
          have R1 := Lib.hid (R1.out.step hb375)
          have F8 := Lib.hid (F8.out.stepR hb375)
          have HB := Lib.hid (bstep HB.out hb375)
          clear hb375
          have X3_0 := X3.out.cell0
          have X3_1 := X3.out.cell1
          have X3_l := X3.out.lt
          go_wp2_with fail
          go_ret
          exact ⟨by first | rfl | simp, HB.out⟩
    · have Hv := Lib.hid hv
      clear hv
      go_wp2_with fail
      refine (i_vbR s _ A n c cs I0.out hn49 false Hv).mono ?_
      rintro e x915 ⟨rfl, hb916⟩
      clear X3_0 X3_1 X3_l
      have X3 := Lib.hid (X3.out.step hb916)
      have I0 := Lib.hid (I0.out.step hb916)
      have F5 := Lib.hid (F5.out.stepR hb916)
      have F6 := Lib.hid (F6.out.stepR hb916)
      have HB := Lib.hid (bstep HB.out hb916)
      clear hb916
      have X3_0 := X3.out.cell0
      have X3_1 := X3.out.cell1
      have X3_l := X3.out.lt
      go_wp2_with fail
      refine (s_RegionsOf s x _ _ _ n _ cs I0.out (Nat.le_refl _) (by omega) ls Hls).mono ?_
      rintro e x918 ⟨A7, m7, c7, rfl, hs920, hb919⟩
      clear X3_0 X3_1 X3_l
      have X3 := Lib.hid (X3.out.step hb919)
      have I0 := Lib.hid (I0.out.step hb919)
      have F5 := Lib.hid (F5.out.stepR hb919)
      have F6 := Lib.hid (F6.out.stepR hb919)
      have HB := Lib.hid (bstep HB.out hb919)
      have F7 := Lib.hid (SS.ints hs920)
      have lenF7 := hs920.1
      clear hb919 hs920
      have X3_0 := X3.out.cell0
      have X3_1 := X3.out.cell1
      have X3_l := X3.out.lt
      obtain rfl : m7 = m6 := by omega
      go_wp2_with fail
      refine (eqg_b _ _ _ _ _ _ ls F5.out F7.out (by omega) (fun j _ => by have := Hsm.out j; omega)).mono ?_
      rintro e x921 ⟨rfl, hb922⟩
      clear X3_0 X3_1 X3_l
      have X3 := Lib.hid (X3.out.step hb922)
      have I0 := Lib.hid (I0.out.step hb922)
      have F5 := Lib.hid (F5.out.stepR hb922)
      have F6 := Lib.hid (F6.out.stepR hb922)
      have F7 := Lib.hid (F7.out.stepR hb922)
      have HB := Lib.hid (bstep HB.out hb922)
      clear hb922
      have X3_0 := X3.out.cell0
      have X3_1 := X3.out.cell1
      have X3_l := X3.out.lt
      go_wp2_with fail
      go_ret
      exact ⟨by first | rfl | simp, HB.out⟩


set_option maxRecDepth 100000 in
theorem lifted (os : Os) (started : os.Started) (H : Type) (enc : TypeId × Value → H) :
    ReturnsInHanded {} Try.checked os 4 .any (Rows.fnRegionsOfInvertSpec.pre6 enc Try.prog Try.f4 Rows.fnRegionsOfInvertRow.domain false) (Rows.fnRegionsOfInvertSpec.post enc Try.prog Try.f4 false true false false) := by
  refine returnsInHanded_of_change (C := Try.checked) own started (by kernel_rfl) Try.func4
    (ChangeSpec.witness6 (enc := enc) (C := Try.checked) false ⟨#[], #[.slice none 0 0], []⟩ 8 (by kernel_rfl) (by kernel_rfl) (by kernel_rfl) (by kernel_rfl)) ?_
  intro W base args ds gs before hval0 hW hcnd _
  have hval : ∀ (j : Nat) t v, Try.f4.params[j]? = some t → args[j]? = some v → Value.okWide Try.prog W .any base t v := hval0
  have hW' := hW
  obtain ⟨p, q, hA0, hV, rfl, hfz, hnd⟩ := hW
  have hA : DataW.TrodAll enc Try.prog W 0 (fun _ => true) true Try.f4.params.toList args.toList ds p := hA0
  rw [Try.params4] at hA hval
  obtain ⟨v0, vs0, d0, ds0, p0, q0, hargs, rfl, rfl, h0, r0⟩ := trodAll_cons hA
  obtain ⟨rfl, rfl, rfl⟩ := trodAll_nil r0
  obtain rfl : args = #[v0] := by cases args; simp_all
  obtain ⟨rfl, rfl⟩ := trodVars_none hV
  obtain ⟨a0, len0, cap0, rfl⟩ := okWide_slice Try.underlying22 (hval 0 22 v0 rfl rfl)
  have k0 := h0
  have lt0 : ∀ x ∈ p0, x.block < W.heap.size := by obtain ⟨m, hm⟩ := k0; exact DataW.trod_lt m _ _ _ hm
  obtain ⟨z0, w0⟩ : ∃ zs, IsRow .u8 W a0 len0 cap0 zs := by
    obtain ⟨fuel, hf⟩ := h0
    rcases open_ints Try.underlying22 Try.underlying5 (by kernel_rfl) hf with ⟨hcs, _⟩ | ⟨x, l, c, zs, hcs, _, hl, hm, hz, _, hcell, hwz⟩
    · simp [Value.cells] at hcs
      obtain ⟨rfl, rfl, rfl⟩ := hcs
      exact ⟨[], .inl ⟨rfl, rfl, rfl, rfl⟩⟩
    · simp [Value.cells] at hcs
      obtain ⟨rfl, rfl, rfl⟩ := hcs
      exact ⟨zs, .inr ⟨_, rfl, hl, hm, by simpa using hz, hcell, hwz⟩⟩
  clear hA0 hval0
  refine (walk a0 len0 cap0 z0 W w0).mono fun e W' ⟨he, bel⟩ => ?_
  subst he
  exact ⟨_, rfl, _, _, _, [], _, [], hW', trodAll_mk1 (shut_bool Try.underlying4 _), (trodAll_cons_mk (Below.trod laidOut (by kernel_rfl) (of_decide_eq_true (by kernel_rfl)) k0 bel lt0) trodAll_mk0), rfl, bel.frame _, fun h => by cases h⟩

theorem over : Rows.fnRegionsOfInvertRow.holds Try.pinned (OpenSpec.ofChange Rows.fnRegionsOfInvertSpec) :=
  OpenClaim.holds_of_wide 4 Try.f4 rfl rfl rfl rfl rfl rfl rfl ⟨rfl, rfl, rfl, rfl, rfl⟩ rfl rfl rfl rfl rfl (by kernel_rfl) Try.func4 (by kernel_rfl)
    (of_decide_eq_true (by kernel_rfl)) (by unfold Func.isWrapper; first | (rw [if_pos (by decide +kernel)]; kernel_rfl) | (rw [if_neg (by decide +kernel)]; exact ⟨rfl, rfl⟩))
    (fun os started H enc _ => lifted os started H enc)

theorem proved : Rows.FnRegionsOfInvertSaid := over
end Go.Proofs.Ytniddfoiakbfdaa.fnRegionsOfInvert
