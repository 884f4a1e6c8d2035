/-
  The hottest switch comes first: the law of HotOrder holds for every code. No condition.
-/
import Derived.Test.YtjolappndbmmaaaRows
import Derived.Test.YtjolappndbmmaaaHoX
import Derived.Test.YtjolappndbmmaaaLists
import Derived.Test.YtjolappndbmmaaaListsB
import Derived.RegionTactic
import Derived.Deep.DeepCutAuto
import Derived.Deep.RegionHeld3
import Derived.WalkKit
import Derived.ProofKit
import Derived.OpenShut
import Derived.ShutString
import Derived.ChangeOld
import Derived.Below
namespace Go.Proofs.Ytjolappndbmmaaa.fnHotOrder
set_option maxRecDepth 100000
open Go.ChangeShapes Go.WideShapes Go.ChangeAt Go.RowKit
open Go.ChangeMaps (open_string shut_string)
set_option linter.unusedVariables false

theorem own : ownKnob Try.prog.godebug = none := by kernel_rfl
theorem laidOut : laidOutB Try.prog = true := by kernel_rfl


theorem belowN {B : Nat} {a w : World} (h : Below B a w) (k : Nat) : Below B a (w.drewN k) := ⟨h.os, h.tape, h.output, h.size, h.block⟩
theorem rowA {w : World} {B n c g : Nat} {A : Option Addr} {xs : List Int} (h : Own w B A n c xs) (e : some g = (Value.slice A n c).ownBlock ∨ (Value.slice A n c).ownBlock = some g) : A = some ⟨g, 0, none⟩ := by
  have e : (Value.slice A n c).ownBlock = some g := e.elim Eq.symm id
  rcases h.2.2 with ⟨hv, _⟩ | ⟨g2, cap, cur, hv, _⟩
  · rw [hv] at e; cases e
  · have hA : A = some ⟨g2, 0, none⟩ := by injection hv
    subst hA
    have : g2 = g := Option.some.inj e
    rw [this]

set_option maxRecDepth 100000 in
set_option maxHeartbeats 4000000 in
theorem walk (a0 : Option Addr) (len0 cap0 : Nat) (z0 : List Int) (w : World) (w0 : IsRow .u8 w a0 len0 cap0 z0) :
    Calls Try.prog 9 #[.slice a0 len0 cap0] w fun e w' => e = .returned (.bool true) ∧ Below w.heap.size w w' := by
  by_cases hl : 1048576 < len0
  · go_enter Try.func9, Try.ntmps9
    go_wp2_with fail
    go_ret
    exact ⟨rfl, Below.refl _ _⟩
  · have hl' : decide ((1048576 : Int) < (len0 : Int)) = false := by rw [decide_eq_false_iff_not]; omega
    go_enter Try.func9, Try.ntmps9
    go_wp2_with fail
    refine (d_hot w a0 len0 cap0 z0 w0).mono ?_
    rintro e0 y0 ⟨A, n, c, ls, rfl, hn7, ho, hb⟩
    have HB := Lib.hid hb
    have S := Lib.hid ho.sws
    have hz0 := hb.size
    clear hb w0 hl' ho
    go_wp2_with fail
    refine (i_hot _ _ _ _ _ ls S.out (Nat.le_refl _) (by omega)).mono ?_
    rintro e y1 ⟨A1, m, c1, d, rfl, hi, ho1, hb1⟩
    have Hi := Lib.hid hi
    have O1 := Lib.hid ho1
    have S := Lib.hid (S.out.low hb1 (Nat.le_refl _))
    have HB := Lib.hid (HB.out.trans (hb1.mono hz0))
    have z1 := hb1.size
    clear hi ho1 hb1
    have hm7 : m ≤ 7 := by
      rw [← O1.out.1]
      cases hv : (decide (n ≤ 6) && Sw.all ls) with
      | true => rw [(Hi.out.1 hv).len]; exact hn7
      | false => rw [Hi.out.2 hv]; simp
    go_wp2_with fail
    refine (s_hot _ _ _ _ _ ls S.out (by omega)).mono ?_
    rintro e y2 ⟨A2, m2, c2, d2, rfl, hi2, ho2, hb2⟩
    obtain rfl := hi2.one Hi.out
    obtain rfl : m2 = m := by rw [← ho2.1, ← O1.out.1]
    have O2 := Lib.hid ho2
    have O1 := Lib.hid (O1.out.below hb2)
    have S := Lib.hid (S.out.low hb2 (by omega))
    have HB := Lib.hid (HB.out.trans (hb2.mono (by omega)))
    have z2 := hb2.size
    clear hi2 ho2 hb2
    go_wp2_with fail
    refine (eqi_t _ _ _ _ _ _ _ _ _ O1.out.ints O2.out.ints (by omega)).mono ?_
    rintro e y ⟨kd, rfl, rfl⟩
    have O1 := Lib.hid (O1.out.drewN kd)
    have S := Lib.hid (show Sws (y2.drewN kd) _ _ _ _ from S.out)
    have HB := Lib.hid (show Below w.heap.size w (y2.drewN kd) from ⟨HB.out.os, HB.out.tape, HB.out.output, HB.out.size, HB.out.block⟩)
    have z3 : y1.heap.size ≤ (y2.drewN kd).heap.size := z2
    obtain ⟨Y, hY⟩ : ∃ Y, Y = y2.drewN kd := ⟨_, rfl⟩
    rw [← hY] at O1 S HB z3 ⊢
    clear hY O2 z2
    by_cases hm0 : m2 = 0
    · have hq0 : (((m2 : Nat) : Int) == 0) = true := by simp; omega
      clear hm0
      go_wp2_with fail
      refine (s_hot _ _ _ _ _ ls S.out (by omega)).mono ?_
      rintro e y4 ⟨A4, m4, c4, d4, rfl, hi4, ho4, hb4⟩
      obtain rfl := hi4.one Hi.out
      obtain rfl : m4 = m2 := by rw [← ho4.1, ← O1.out.1]
      have O4 := Lib.hid ho4
      have O1 := Lib.hid (O1.out.below hb4)
      have HB := Lib.hid (HB.out.trans (hb4.mono (by omega)))
      clear hi4 ho4 hb4
      go_wp2_with fail
      refine (eqi_t _ _ _ _ _ _ _ _ _ O1.out.ints O4.out.ints (by omega)).mono ?_
      rintro e y ⟨kd, rfl, rfl⟩
      have HB := Lib.hid (show Below w.heap.size w (y4.drewN kd) from ⟨HB.out.os, HB.out.tape, HB.out.output, HB.out.size, HB.out.block⟩)
      go_wp2_with fail
      go_ret
      exact ⟨rfl, HB.out⟩
    · have hq0 : (((m2 : Nat) : Int) == 0) = false := by simp; omega
      have hv : (decide (n ≤ 6) && Sw.all ls) = true := by
        cases hv : (decide (n ≤ 6) && Sw.all ls) with
        | true => rfl
        | false => exact absurd (by rw [← O1.out.1, Hi.out.2 hv]; rfl) hm0
      have hd := Hi.out.1 hv
      have hall : Sw.all ls = true := by rw [Bool.and_eq_true] at hv; exact hv.2
      have hln : ls.length = n := S.out.1
      obtain rfl : n = m2 := by rw [← O1.out.1]; exact hd.len.symm
      have Hd := Lib.hid hd
      have Hall := Lib.hid hall
      have Hln := Lib.hid hln
      have hnn : (((n : Nat) : Int) == ((n : Nat) : Int)) = true := by simp
      clear hv hd hall hln Hi
      obtain ⟨gA, hA1⟩ : ∃ g, A1 = some ⟨g, 0, none⟩ := by
        obtain ⟨g, cap, hv, _⟩ := World.ownsRow.form O1.out.2 (by omega)
        exact ⟨g, by injection hv⟩
      subst hA1
      go_wp2_with fail
      go_loopg [5] (n + 1) (fun q v5 wr => ∃ k : Nat, k + q = n + 1 ∧ k ≤ n ∧ v5 = .int .i64 (k : Nat) ∧ wr = Y)
      case atStart => exact ⟨0, by omega, by omega, rfl, rfl⟩
      case round =>
        obtain ⟨k, hk, hkn, rfl, rfl⟩ := hrel
        by_cases hkk : k = n
        · subst hkk
          have hlt : ¬ ((k : Nat) : Int) < (k : Nat) := by omega
          obtain ⟨Y0, hY0⟩ : ∃ Y0 : World, Y0 = wr := ⟨_, rfl⟩
          go_wp2_with fail
          go_loopg [6] (k + 1) (fun q v6 wr => ∃ i : Nat, i + q = k + 2 ∧ 1 ≤ i ∧ i ≤ k ∧ v6 = .int .i64 (i : Nat) ∧ Below Y0.heap.size Y0 wr)
          case atStart => exact ⟨1, by omega, by omega, by omega, rfl, by rw [hY0]; exact Below.refl _ _⟩
          case round =>
            obtain ⟨i, hi, hi1, hik, rfl, hb⟩ := hrel
            rw [← hY0] at O1 S HB z3
            obtain ⟨wi, rfl⟩ : ∃ wi : World, wi = wr := ⟨_, rfl⟩
            by_cases hii : i = k
            · subst hii
              have hlt : ¬ ((i : Nat) : Int) < (i : Nat) := by omega
              have HB2 := Lib.hid (HB.out.trans (hb.mono HB.out.size))
              clear hb
              go_wp2_with fail
              go_ret
              exact ⟨rfl, HB2.out⟩
            · have hlt : ((i : Nat) : Int) < (k : Nat) := by omega
              obtain ⟨a, ha, hak⟩ := Ho.get Hd.out (show i - 1 < k by omega)
              obtain ⟨b, hbb, hbk⟩ := Ho.get Hd.out (show i < k by omega)
              have hR := Ho.fall Hd.out (show i - 1 + 1 < k by omega)
              rw [show i - 1 + 1 = i by omega, ha, hbb] at hR
              have oa := Sw.all_iff.1 Hall.out a (by rw [Hln.out]; exact hak)
              have ob := Sw.all_iff.1 Hall.out b (by rw [Hln.out]; exact hbk)
              have HO := Lib.hid (O1.out.below hb)
              have HS := Lib.hid (S.out.low hb (by omega))
              have ca := HO.out.ints.2.resolve_left (by omega)
              obtain ⟨g1, o1, e1, _, hc1⟩ := ca
              obtain ⟨rfl, rfl⟩ : gA = g1 ∧ 0 = o1 := by have := Option.some.inj e1; injection this with e2 e3; exact ⟨e2, e3⟩
              have ca := hc1 (i - 1) (by omega)
              have cb := hc1 i (by omega)
              rw [Nat.zero_add, ha] at ca
              rw [Nat.zero_add, hbb] at cb
              obtain ⟨gs, os, rfl, hgs, hcs⟩ := HS.out.2.resolve_left (by omega)
              obtain ⟨a0', a1'⟩ := hcs a hak
              obtain ⟨b0', b1'⟩ := hcs b hbk
              have heA : Ho.heat ls (a : Int) = (ls.getD a (0, 0)).1 - (ls.getD a (0, 0)).2 := by unfold Ho.heat; rw [Int.toNat_natCast]
              have heB : Ho.heat ls (b : Int) = (ls.getD b (0, 0)).1 - (ls.getD b (0, 0)).2 := by unfold Ho.heat; rw [Int.toNat_natCast]
              unfold Ho.R at hR
              rw [heA, heB] at hR
              obtain ⟨la, hla⟩ : ∃ x, (ls.getD a (0, 0)).1 = x := ⟨_, rfl⟩
              obtain ⟨ra, hra⟩ : ∃ x, (ls.getD a (0, 0)).2 = x := ⟨_, rfl⟩
              obtain ⟨lb, hlb⟩ : ∃ x, (ls.getD b (0, 0)).1 = x := ⟨_, rfl⟩
              obtain ⟨rb, hrb⟩ : ∃ x, (ls.getD b (0, 0)).2 = x := ⟨_, rfl⟩
              rw [hla, hra] at oa
              rw [hlb, hrb] at ob
              rw [hla] at a0'
              rw [hra] at a1'
              rw [hlb] at b0'
              rw [hrb] at b1'
              rw [hla, hra, hlb, hrb] at hR
              have OA := Lib.hid oa
              have OB := Lib.hid ob
              have hi1' : ((i : Nat) : Int) - 1 = ((i - 1 : Nat) : Int) := by omega
              have hia0 : (0 : Int) ≤ ((i - 1 : Nat) : Int) := by omega
              have hiak : ((i - 1 : Nat) : Int) < (k : Nat) := by omega
              have hi0 : (0 : Int) ≤ ((i : Nat) : Int) := by omega
              have ha0 : (0 : Int) ≤ ((a : Nat) : Int) := by omega
              have hak' : ((a : Nat) : Int) < (k : Nat) := by omega
              have hb0 : (0 : Int) ≤ ((b : Nat) : Int) := by omega
              have hbk' : ((b : Nat) : Int) < (k : Nat) := by omega
              obtain ⟨p, hp⟩ : ∃ p, i - 1 = p := ⟨_, rfl⟩
              rw [hp] at ca hi1' hia0 hiak
              have HB1 := Lib.hid hb
              clear hla hra hlb hrb heA heB oa ob hcs hc1 e1 ha hbb hp hb
              go_wp2_with fail
              refine (i_heatV la ra _ OA.out).mono ?_
              rintro e v1 ⟨rfl, hb1⟩
              have gAl := (HO.out.ge rfl).2
              have ca := (hb1.cell (p := ⟨gA, p, none⟩) (by show gA < _; exact gAl)).trans ca
              have cb := (hb1.cell (p := ⟨gA, i, none⟩) (by show gA < _; exact gAl)).trans cb
              have hgsl : gs < wi.heap.size := by have := HB1.out.size; omega
              have b0' := (hb1.cell (p := ⟨gs, os + b * 2, none⟩) (by show gs < _; exact hgsl)).trans b0'
              have b1' := (hb1.cell (p := ⟨gs, os + b * 2 + 1, none⟩) (by show gs < _; exact hgsl)).trans b1'
              have hz1 := hb1.size
              have HB1 := Lib.hid (HB1.out.trans (hb1.mono HB1.out.size))
              clear hb1 a0' a1'
              go_wp2_with fail
              refine (i_heatV lb rb _ OB.out).mono ?_
              rintro e v2 ⟨rfl, hb2⟩
              have ca := (hb2.cell (p := ⟨gA, p, none⟩) (by show gA < _; omega)).trans ca
              have cb := (hb2.cell (p := ⟨gA, i, none⟩) (by show gA < _; omega)).trans cb
              have HB1 := Lib.hid (HB1.out.trans (hb2.mono HB1.out.size))
              clear hb2 b0' b1'
              obtain ⟨x, hx⟩ : ∃ x, la - ra = x := ⟨_, rfl⟩
              obtain ⟨y, hy⟩ : ∃ y, lb - rb = y := ⟨_, rfl⟩
              rw [hx, hy] at hR
              rw [hx, hy]
              have hxy : ¬ x < y := by omega
              have qlt : decide (x < y) = false := decide_eq_false hxy
              clear hx hy
              go_upto_region 17 with (fail)
              have hwp : IntKind.i64.wrap ((p : Nat) : Int) = (p : Nat) := by rw [IntKind.wrap_i64]; omega
              go_cut [82] (fun v wx => v = .bool false ∧ Below v2.heap.size v2 wx)
              case first =>
                by_cases heq : x = y
                · have q1 : (x == y) = true := by simpa using heq
                  have hab : ¬ ((b : Nat) : Int) < (a : Nat) := by omega
                  have qab : decide (((b : Nat) : Int) < (a : Nat)) = false := decide_eq_false hab
                  clear hR heq
                  refine wp_region_held_drew (S := (fun w' => w'.cell? ⟨gA, p, none⟩ = some (.int .i64 (a : Nat)) ∧ w'.cell? ⟨gA, i, none⟩ = some (.int .i64 (b : Nat)))) (by kernel_rfl) ?_ (fun hHeld => ?_)
                  · exact ⟨ca, cb⟩
                  refine wpAnyH_take (i := 0) (v := ?_) rfl (by kernel_rfl) (by kernel_rfl) (by kernel_rfl) (fun _ _ _ h => h) (Or.inl ⟨by rfl, ?hya⟩) (by assumption) ?_
                  case hya => (intro w9 hSw; (try dsimp only at hSw); go_simp; (try with_reducible rfl))
                  (try simp only [Act.put, List.getElem_toArray, List.getElem_cons_zero, List.setIfInBounds_toArray, List.set_cons_zero, List.set_cons_succ])
                  refine wpAnyH_take (i := 1) (v := ?_) rfl (by kernel_rfl) (by kernel_rfl) (by kernel_rfl) (fun _ _ _ h => h) (Or.inl ⟨by rfl, ?hya⟩) (by assumption) ?_
                  case hya => (intro w9 hSw; (try dsimp only at hSw); go_simp; (try with_reducible rfl))
                  (try simp only [Act.put, List.getElem_toArray, List.getElem_cons_succ, List.getElem_cons_zero, List.setIfInBounds_toArray, List.set_cons_zero, List.set_cons_succ])
                  refine wpAnyH_take (i := 2) (v := ?_) rfl (by kernel_rfl) (by kernel_rfl) (by kernel_rfl) (fun _ _ _ h => h) (Or.inl ⟨by rfl, ?hya⟩) (by assumption) ?_
                  case hya => (intro w9 hSw; (try dsimp only at hSw); go_simp; (try with_reducible rfl))
                  (try simp only [Act.put, List.getElem_toArray, List.getElem_cons_succ, List.getElem_cons_zero, List.setIfInBounds_toArray, List.set_cons_zero, List.set_cons_succ])
                  refine wpAnyH_take (i := 3) (v := ?_) rfl (by kernel_rfl) (by kernel_rfl) (by kernel_rfl) (fun _ _ _ h => h) (Or.inl ⟨by rfl, ?hya⟩) (by assumption) ?_
                  case hya => (intro w9 hSw; (try dsimp only at hSw); go_simp; (try with_reducible rfl))
                  (try simp only [Act.put, List.getElem_toArray, List.getElem_cons_succ, List.getElem_cons_zero, List.setIfInBounds_toArray, List.set_cons_zero, List.set_cons_succ])
                  refine wpAnyH_take (i := 4) (v := ?_) rfl (by kernel_rfl) (by kernel_rfl) (by kernel_rfl) (fun _ _ _ h => h) (Or.inl ⟨by rfl, ?hya⟩) (by assumption) ?_
                  case hya => (intro w9 hSw; (try dsimp only at hSw); go_simp; (try with_reducible rfl))
                  (try simp only [Act.put, List.getElem_toArray, List.getElem_cons_succ, List.getElem_cons_zero, List.setIfInBounds_toArray, List.set_cons_zero, List.set_cons_succ])
                  refine wpAnyH_take (i := 5) (v := ?_) rfl (by kernel_rfl) (by kernel_rfl) (by kernel_rfl) (fun _ _ _ h => h) (Or.inl ⟨by rfl, ?hya⟩) (by assumption) ?_
                  case hya => (intro w9 hSw; (try dsimp only at hSw); go_simp; (try with_reducible rfl))
                  (try simp only [Act.put, List.getElem_toArray, List.getElem_cons_succ, List.getElem_cons_zero, List.setIfInBounds_toArray, List.set_cons_zero, List.set_cons_succ])
                  refine wpAnyH_take (i := 6) (v := ?_) rfl (by kernel_rfl) (by kernel_rfl) (by kernel_rfl) (fun _ _ _ h => h) (Or.inl ⟨by rfl, ?hya⟩) (by assumption) ?_
                  case hya => (intro w9 hSw; (try dsimp only at hSw); go_simp; (try with_reducible rfl))
                  (try simp only [Act.put, List.getElem_toArray, List.getElem_cons_succ, List.getElem_cons_zero, List.setIfInBounds_toArray, List.set_cons_zero, List.set_cons_succ])
                  refine wpAnyH_take (i := 7) (v := ?_) rfl (by kernel_rfl) (by kernel_rfl) (by kernel_rfl) (fun _ _ _ h => h) (Or.inl ⟨by rfl, ?hya⟩) (by assumption) ?_
                  case hya => (intro w9 hSw; (try dsimp only at hSw); go_simp; (try with_reducible rfl))
                  (try simp only [Act.put, List.getElem_toArray, List.getElem_cons_succ, List.getElem_cons_zero, List.setIfInBounds_toArray, List.set_cons_zero, List.set_cons_succ])
                  refine wpAnyH_take (i := 8) (v := ?_) rfl (by kernel_rfl) (by kernel_rfl) (by kernel_rfl) (fun _ _ _ h => h) (Or.inl ⟨by rfl, ?hya⟩) (by assumption) ?_
                  case hya => (intro w9 hSw; (try dsimp only at hSw); go_simp; (try with_reducible rfl))
                  (try simp only [Act.put, List.getElem_toArray, List.getElem_cons_succ, List.getElem_cons_zero, List.setIfInBounds_toArray, List.set_cons_zero, List.set_cons_succ])
                  refine wpAnyH_take (i := 9) (v := ?_) rfl (by kernel_rfl) (by kernel_rfl) (by kernel_rfl) (fun _ _ _ h => h) (Or.inl ⟨by rfl, ?hya⟩) (by assumption) ?_
                  case hya => (intro w9 hSw; (try dsimp only at hSw); go_simp; (try with_reducible rfl))
                  (try simp only [Act.put, List.getElem_toArray, List.getElem_cons_succ, List.getElem_cons_zero, List.setIfInBounds_toArray, List.set_cons_zero, List.set_cons_succ])
                  refine wpAnyH_take (i := 10) (v := ?_) rfl (by kernel_rfl) (by kernel_rfl) (by kernel_rfl) (fun _ _ _ h => h) (Or.inl ⟨by rfl, ?hya⟩) (by assumption) ?_
                  case hya => (intro w9 hSw; (try dsimp only at hSw); go_simp; (try with_reducible rfl))
                  (try simp only [Act.put, List.getElem_toArray, List.getElem_cons_succ, List.getElem_cons_zero, List.setIfInBounds_toArray, List.set_cons_zero, List.set_cons_succ])
                  refine wpAnyH_take (i := 11) (v := ?_) rfl (by kernel_rfl) (by kernel_rfl) (by kernel_rfl) (fun _ _ _ h => h) (Or.inl ⟨by rfl, ?hya⟩) (by assumption) ?_
                  case hya => (intro w9 hSw; (try dsimp only at hSw); go_simp; (try with_reducible rfl))
                  (try simp only [Act.put, List.getElem_toArray, List.getElem_cons_succ, List.getElem_cons_zero, List.setIfInBounds_toArray, List.set_cons_zero, List.set_cons_succ])
                  refine wpAnyH_take (i := 12) (v := ?_) rfl (by kernel_rfl) (by kernel_rfl) (by kernel_rfl) (fun _ _ _ h => h) (Or.inl ⟨by rfl, ?hya⟩) (by assumption) ?_
                  case hya => (intro w9 hSw; (try dsimp only at hSw); go_simp; (try with_reducible rfl))
                  (try simp only [Act.put, List.getElem_toArray, List.getElem_cons_succ, List.getElem_cons_zero, List.setIfInBounds_toArray, List.set_cons_zero, List.set_cons_succ])
                  refine wpAnyH_take (i := 13) (v := ?_) rfl (by kernel_rfl) (by kernel_rfl) (by kernel_rfl) (fun _ _ _ h => h) (Or.inl ⟨by rfl, ?hya⟩) (by assumption) ?_
                  case hya => (intro w9 hSw; (try dsimp only at hSw); go_simp; (try with_reducible rfl))
                  (try simp only [Act.put, List.getElem_toArray, List.getElem_cons_succ, List.getElem_cons_zero, List.setIfInBounds_toArray, List.set_cons_zero, List.set_cons_succ])
                  refine wpAnyH_take (i := 14) (v := ?_) rfl (by kernel_rfl) (by kernel_rfl) (by kernel_rfl) (fun _ _ _ h => h) (Or.inl ⟨by rfl, ?hya⟩) (by assumption) ?_
                  case hya => (intro w9 hSw; (try dsimp only at hSw); go_simp; (try with_reducible rfl))
                  (try simp only [Act.put, List.getElem_toArray, List.getElem_cons_succ, List.getElem_cons_zero, List.setIfInBounds_toArray, List.set_cons_zero, List.set_cons_succ])
                  refine wpAnyH_take (i := 15) (v := ?_) rfl (by kernel_rfl) (by kernel_rfl) (by kernel_rfl) (fun _ _ _ h => h) (Or.inl ⟨by rfl, ?hya⟩) (by assumption) ?_
                  case hya => (intro w9 hSw; (try dsimp only at hSw); go_simp; (try with_reducible rfl))
                  (try simp only [Act.put, List.getElem_toArray, List.getElem_cons_succ, List.getElem_cons_zero, List.setIfInBounds_toArray, List.set_cons_zero, List.set_cons_succ])
                  refine wpAnyH_take (i := 16) (v := ?_) rfl (by kernel_rfl) (by kernel_rfl) (by kernel_rfl) (fun _ _ _ h => h) (Or.inl ⟨by rfl, ?hya⟩) (by assumption) ?_
                  case hya => (intro w9 hSw; (try dsimp only at hSw); go_simp; (try with_reducible rfl))
                  (try simp only [Act.put, List.getElem_toArray, List.getElem_cons_succ, List.getElem_cons_zero, List.setIfInBounds_toArray, List.set_cons_zero, List.set_cons_succ])
                  refine wpAnyH_take (i := 17) (v := ?_) rfl (by kernel_rfl) (by kernel_rfl) (by kernel_rfl) (fun _ _ _ h => h) (Or.inl ⟨by rfl, ?hya⟩) (by assumption) ?_
                  case hya => (intro w9 hSw; (try dsimp only at hSw); go_simp; (try with_reducible rfl))
                  (try simp only [Act.put, List.getElem_toArray, List.getElem_cons_succ, List.getElem_cons_zero, List.setIfInBounds_toArray, List.set_cons_zero, List.set_cons_succ])
                  refine wpAnyH_take (i := 18) (v := ?_) rfl (by kernel_rfl) (by kernel_rfl) (by kernel_rfl) (fun _ _ _ h => h) (Or.inl ⟨by rfl, ?hya⟩) (by assumption) ?_
                  case hya => (intro w9 hSw; (try dsimp only at hSw); go_simp; (try with_reducible rfl))
                  (try simp only [Act.put, List.getElem_toArray, List.getElem_cons_succ, List.getElem_cons_zero, List.setIfInBounds_toArray, List.set_cons_zero, List.set_cons_succ])
                  refine wpAnyH_take (i := 19) (v := ?_) rfl (by kernel_rfl) (by kernel_rfl) (by kernel_rfl) (fun _ _ _ h => h) (Or.inl ⟨by rfl, ?hya⟩) (by assumption) ?_
                  case hya => (intro w9 hSw; (try dsimp only at hSw); go_simp; (try with_reducible rfl))
                  (try simp only [Act.put, List.getElem_toArray, List.getElem_cons_succ, List.getElem_cons_zero, List.setIfInBounds_toArray, List.set_cons_zero, List.set_cons_succ])
                  refine wpAnyH_done (by kernel_rfl) ?_ _
                  go_wp2_with fail
                  go_meet
                  exact ⟨rfl, (fun h => ⟨h.os, h.tape, h.output, h.size, h.block⟩) (Below.refl v2.heap.size v2)⟩
                · have q1 : (x == y) = false := by simpa using heq
                  clear hR heq
                  refine wp_region_held_drew (S := (fun w' => w'.cell? ⟨gA, p, none⟩ = some (.int .i64 (a : Nat)) ∧ w'.cell? ⟨gA, i, none⟩ = some (.int .i64 (b : Nat)))) (by kernel_rfl) ?_ (fun hHeld => ?_)
                  · exact ⟨ca, cb⟩
                  refine wpAnyH_take (i := 0) (v := ?_) rfl (by kernel_rfl) (by kernel_rfl) (by kernel_rfl) (fun _ _ _ h => h) (Or.inl ⟨by rfl, ?hyb⟩) (by assumption) ?_
                  case hyb => (intro w9 hSw; (try dsimp only at hSw); go_simp; (try with_reducible rfl))
                  (try simp only [Act.put, List.getElem_toArray, List.getElem_cons_zero, List.setIfInBounds_toArray, List.set_cons_zero, List.set_cons_succ])
                  refine wpAnyH_take (i := 1) (v := ?_) rfl (by kernel_rfl) (by kernel_rfl) (by kernel_rfl) (fun _ _ _ h => h) (Or.inl ⟨by rfl, ?hyb⟩) (by assumption) ?_
                  case hyb => (intro w9 hSw; (try dsimp only at hSw); go_simp; (try with_reducible rfl))
                  (try simp only [Act.put, List.getElem_toArray, List.getElem_cons_succ, List.getElem_cons_zero, List.setIfInBounds_toArray, List.set_cons_zero, List.set_cons_succ])
                  refine wpAnyH_take (i := 2) (v := ?_) rfl (by kernel_rfl) (by kernel_rfl) (by kernel_rfl) (fun _ _ _ h => h) (Or.inl ⟨by rfl, ?hyb⟩) (by assumption) ?_
                  case hyb => (intro w9 hSw; (try dsimp only at hSw); go_simp; (try with_reducible rfl))
                  (try simp only [Act.put, List.getElem_toArray, List.getElem_cons_succ, List.getElem_cons_zero, List.setIfInBounds_toArray, List.set_cons_zero, List.set_cons_succ])
                  refine wpAnyH_take (i := 3) (v := ?_) rfl (by kernel_rfl) (by kernel_rfl) (by kernel_rfl) (fun _ _ _ h => h) (Or.inl ⟨by rfl, ?hyb⟩) (by assumption) ?_
                  case hyb => (intro w9 hSw; (try dsimp only at hSw); go_simp; (try with_reducible rfl))
                  (try simp only [Act.put, List.getElem_toArray, List.getElem_cons_succ, List.getElem_cons_zero, List.setIfInBounds_toArray, List.set_cons_zero, List.set_cons_succ])
                  refine wpAnyH_take (i := 4) (v := ?_) rfl (by kernel_rfl) (by kernel_rfl) (by kernel_rfl) (fun _ _ _ h => h) (Or.inl ⟨by rfl, ?hyb⟩) (by assumption) ?_
                  case hyb => (intro w9 hSw; (try dsimp only at hSw); go_simp; (try with_reducible rfl))
                  (try simp only [Act.put, List.getElem_toArray, List.getElem_cons_succ, List.getElem_cons_zero, List.setIfInBounds_toArray, List.set_cons_zero, List.set_cons_succ])
                  refine wpAnyH_take (i := 5) (v := ?_) rfl (by kernel_rfl) (by kernel_rfl) (by kernel_rfl) (fun _ _ _ h => h) (Or.inl ⟨by rfl, ?hyb⟩) (by assumption) ?_
                  case hyb => (intro w9 hSw; (try dsimp only at hSw); go_simp; (try with_reducible rfl))
                  (try simp only [Act.put, List.getElem_toArray, List.getElem_cons_succ, List.getElem_cons_zero, List.setIfInBounds_toArray, List.set_cons_zero, List.set_cons_succ])
                  refine wpAnyH_take (i := 6) (v := ?_) rfl (by kernel_rfl) (by kernel_rfl) (by kernel_rfl) (fun _ _ _ h => h) (Or.inl ⟨by rfl, ?hyb⟩) (by assumption) ?_
                  case hyb => (intro w9 hSw; (try dsimp only at hSw); go_simp; (try with_reducible rfl))
                  (try simp only [Act.put, List.getElem_toArray, List.getElem_cons_succ, List.getElem_cons_zero, List.setIfInBounds_toArray, List.set_cons_zero, List.set_cons_succ])
                  refine wpAnyH_take (i := 7) (v := ?_) rfl (by kernel_rfl) (by kernel_rfl) (by kernel_rfl) (fun _ _ _ h => h) (Or.inl ⟨by rfl, ?hyb⟩) (by assumption) ?_
                  case hyb => (intro w9 hSw; (try dsimp only at hSw); go_simp; (try with_reducible rfl))
                  (try simp only [Act.put, List.getElem_toArray, List.getElem_cons_succ, List.getElem_cons_zero, List.setIfInBounds_toArray, List.set_cons_zero, List.set_cons_succ])
                  refine wpAnyH_take (i := 8) (v := undef) rfl (by kernel_rfl) (by kernel_rfl) (by kernel_rfl) (fun _ _ _ h => h) (Or.inr ⟨by rfl, rfl⟩) (by assumption) ?_
                  (try simp only [Act.put, List.getElem_toArray, List.getElem_cons_succ, List.getElem_cons_zero, List.setIfInBounds_toArray, List.set_cons_zero, List.set_cons_succ])
                  refine wpAnyH_take (i := 9) (v := undef) rfl (by kernel_rfl) (by kernel_rfl) (by kernel_rfl) (fun _ _ _ h => h) (Or.inr ⟨by rfl, rfl⟩) (by assumption) ?_
                  (try simp only [Act.put, List.getElem_toArray, List.getElem_cons_succ, List.getElem_cons_zero, List.setIfInBounds_toArray, List.set_cons_zero, List.set_cons_succ])
                  refine wpAnyH_take (i := 10) (v := undef) rfl (by kernel_rfl) (by kernel_rfl) (by kernel_rfl) (fun _ _ _ h => h) (Or.inr ⟨by rfl, rfl⟩) (by assumption) ?_
                  (try simp only [Act.put, List.getElem_toArray, List.getElem_cons_succ, List.getElem_cons_zero, List.setIfInBounds_toArray, List.set_cons_zero, List.set_cons_succ])
                  refine wpAnyH_take (i := 11) (v := undef) rfl (by kernel_rfl) (by kernel_rfl) (by kernel_rfl) (fun _ _ _ h => h) (Or.inr ⟨by rfl, rfl⟩) (by assumption) ?_
                  (try simp only [Act.put, List.getElem_toArray, List.getElem_cons_succ, List.getElem_cons_zero, List.setIfInBounds_toArray, List.set_cons_zero, List.set_cons_succ])
                  refine wpAnyH_take (i := 12) (v := undef) rfl (by kernel_rfl) (by kernel_rfl) (by kernel_rfl) (fun _ _ _ h => h) (Or.inr ⟨by rfl, rfl⟩) (by assumption) ?_
                  (try simp only [Act.put, List.getElem_toArray, List.getElem_cons_succ, List.getElem_cons_zero, List.setIfInBounds_toArray, List.set_cons_zero, List.set_cons_succ])
                  refine wpAnyH_take (i := 13) (v := undef) rfl (by kernel_rfl) (by kernel_rfl) (by kernel_rfl) (fun _ _ _ h => h) (Or.inr ⟨by rfl, rfl⟩) (by assumption) ?_
                  (try simp only [Act.put, List.getElem_toArray, List.getElem_cons_succ, List.getElem_cons_zero, List.setIfInBounds_toArray, List.set_cons_zero, List.set_cons_succ])
                  refine wpAnyH_take (i := 14) (v := undef) rfl (by kernel_rfl) (by kernel_rfl) (by kernel_rfl) (fun _ _ _ h => h) (Or.inr ⟨by rfl, rfl⟩) (by assumption) ?_
                  (try simp only [Act.put, List.getElem_toArray, List.getElem_cons_succ, List.getElem_cons_zero, List.setIfInBounds_toArray, List.set_cons_zero, List.set_cons_succ])
                  refine wpAnyH_take (i := 15) (v := undef) rfl (by kernel_rfl) (by kernel_rfl) (by kernel_rfl) (fun _ _ _ h => h) (Or.inr ⟨by rfl, rfl⟩) (by assumption) ?_
                  (try simp only [Act.put, List.getElem_toArray, List.getElem_cons_succ, List.getElem_cons_zero, List.setIfInBounds_toArray, List.set_cons_zero, List.set_cons_succ])
                  refine wpAnyH_take (i := 16) (v := undef) rfl (by kernel_rfl) (by kernel_rfl) (by kernel_rfl) (fun _ _ _ h => h) (Or.inr ⟨by rfl, rfl⟩) (by assumption) ?_
                  (try simp only [Act.put, List.getElem_toArray, List.getElem_cons_succ, List.getElem_cons_zero, List.setIfInBounds_toArray, List.set_cons_zero, List.set_cons_succ])
                  refine wpAnyH_take (i := 17) (v := undef) rfl (by kernel_rfl) (by kernel_rfl) (by kernel_rfl) (fun _ _ _ h => h) (Or.inr ⟨by rfl, rfl⟩) (by assumption) ?_
                  (try simp only [Act.put, List.getElem_toArray, List.getElem_cons_succ, List.getElem_cons_zero, List.setIfInBounds_toArray, List.set_cons_zero, List.set_cons_succ])
                  refine wpAnyH_take (i := 18) (v := ?_) rfl (by kernel_rfl) (by kernel_rfl) (by kernel_rfl) (fun _ _ _ h => h) (Or.inl ⟨by rfl, ?hyb⟩) (by assumption) ?_
                  case hyb => (intro w9 hSw; (try dsimp only at hSw); go_simp; (try with_reducible rfl))
                  (try simp only [Act.put, List.getElem_toArray, List.getElem_cons_succ, List.getElem_cons_zero, List.setIfInBounds_toArray, List.set_cons_zero, List.set_cons_succ])
                  refine wpAnyH_take (i := 19) (v := ?_) rfl (by kernel_rfl) (by kernel_rfl) (by kernel_rfl) (fun _ _ _ h => h) (Or.inl ⟨by rfl, ?hyb⟩) (by assumption) ?_
                  case hyb => (intro w9 hSw; (try dsimp only at hSw); go_simp; (try with_reducible rfl))
                  (try simp only [Act.put, List.getElem_toArray, List.getElem_cons_succ, List.getElem_cons_zero, List.setIfInBounds_toArray, List.set_cons_zero, List.set_cons_succ])
                  refine wpAnyH_done (by kernel_rfl) ?_ _
                  go_wp2_with fail
                  go_meet
                  exact ⟨rfl, (fun h => ⟨h.os, h.tape, h.output, h.size, h.block⟩) (Below.refl v2.heap.size v2)⟩
              case rest =>
                obtain ⟨rfl, hbc⟩ := hcut
                have HB1 := Lib.hid (HB1.out.trans (hbc.mono HB1.out.size))
                clear hbc hR
                go_wp2_with fail
                go_roundg (k + 1 - i)
                case measure => omega
                case rel => exact ⟨i + 1, by omega, by omega, by omega, by go_num, HB1.out⟩
        · have hlt : ((k : Nat) : Int) < n := by omega
          have hk0 : (0 : Int) ≤ (k : Nat) := by omega
          go_wp2_with fail
          refine (in_t _ _ _ _ _ _ (k : Nat) O1.out.ints (by omega) (Hd.out.mem.2 ⟨by omega, by omega⟩)).mono ?_
          rintro e y ⟨rfl, rfl⟩
          go_wp2_with fail
          go_roundg (n - k)
          case measure => omega
          case rel => exact ⟨k + 1, by omega, by omega, by go_num, rfl⟩

set_option maxRecDepth 100000 in
theorem lifted (os : Os) (started : os.Started) (H : Type) (enc : TypeId × Value → H) :
    ReturnsInHanded {} Try.checked os 9 .any (Rows.fnHotOrderSpec.pre6 enc Try.prog Try.f9 Rows.fnHotOrderRow.domain false) (Rows.fnHotOrderSpec.post enc Try.prog Try.f9 false true false false) := by
  refine returnsInHanded_of_change (C := Try.checked) own started (by kernel_rfl) Try.func9
    (ChangeSpec.witness6 (enc := enc) (C := Try.checked) false ⟨#[], #[.slice none 0 0], []⟩ 8 (by kernel_rfl) (by kernel_rfl) (by kernel_rfl) (by kernel_rfl)) ?_
  intro W base args ds gs before hval0 hW hcnd _
  have hval : ∀ (j : Nat) t v, Try.f9.params[j]? = some t → args[j]? = some v → Value.okWide Try.prog W .any base t v := hval0
  have hW' := hW
  obtain ⟨p, q, hA0, hV, rfl, hfz, hnd⟩ := hW
  have hA : DataW.TrodAll enc Try.prog W 0 (fun _ => true) true Try.f9.params.toList args.toList ds p := hA0
  rw [Try.params9] at hA hval
  obtain ⟨v0, vs0, d0, ds0, p0, q0, hargs, rfl, rfl, h0, r0⟩ := trodAll_cons hA
  obtain ⟨rfl, rfl, rfl⟩ := trodAll_nil r0
  obtain rfl : args = #[v0] := by cases args; simp_all
  obtain ⟨rfl, rfl⟩ := trodVars_none hV
  obtain ⟨a0, len0, cap0, rfl⟩ := okWide_slice Try.underlying22 (hval 0 22 v0 rfl rfl)
  have k0 := h0
  have lt0 : ∀ x ∈ p0, x.block < W.heap.size := by obtain ⟨m, hm⟩ := k0; exact DataW.trod_lt m _ _ _ hm
  obtain ⟨z0, w0⟩ : ∃ zs, IsRow .u8 W a0 len0 cap0 zs := by
    obtain ⟨fuel, hf⟩ := h0
    rcases open_ints Try.underlying22 Try.underlying5 (by kernel_rfl) hf with ⟨hcs, _⟩ | ⟨x, l, c, zs, hcs, _, hl, hm, hz, _, hcell, hwz⟩
    · simp [Value.cells] at hcs
      obtain ⟨rfl, rfl, rfl⟩ := hcs
      exact ⟨[], .inl ⟨rfl, rfl, rfl, rfl⟩⟩
    · simp [Value.cells] at hcs
      obtain ⟨rfl, rfl, rfl⟩ := hcs
      exact ⟨zs, .inr ⟨_, rfl, hl, hm, by simpa using hz, hcell, hwz⟩⟩
  clear hA0 hval0
  refine (walk a0 len0 cap0 z0 W w0).mono fun e W' ⟨he, bel⟩ => ?_
  subst he
  exact ⟨_, rfl, _, _, _, [], _, [], hW', trodAll_mk1 (shut_bool Try.underlying4 _), (trodAll_cons_mk (Below.trod laidOut (by kernel_rfl) (of_decide_eq_true (by kernel_rfl)) k0 bel lt0) trodAll_mk0), rfl, bel.frame _, fun h => by cases h⟩

theorem over : Rows.fnHotOrderRow.holds Try.pinned (OpenSpec.ofChange Rows.fnHotOrderSpec) :=
  OpenClaim.holds_of_wide 9 Try.f9 rfl rfl rfl rfl rfl rfl rfl ⟨rfl, rfl, rfl, rfl, rfl⟩ rfl rfl rfl rfl rfl (by kernel_rfl) Try.func9 (by kernel_rfl)
    (of_decide_eq_true (by kernel_rfl)) (by unfold Func.isWrapper; first | (rw [if_pos (by decide +kernel)]; kernel_rfl) | (rw [if_neg (by decide +kernel)]; exact ⟨rfl, rfl⟩))
    (fun os started H enc _ => lifted os started H enc)

theorem proved : Rows.FnHotOrderSaid := over
end Go.Proofs.Ytjolappndbmmaaa.fnHotOrder
