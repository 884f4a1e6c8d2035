/-
  Texts that a law stands on: RgP, TeP, TeI, ErI, TkP, CoP, Srt, TeS, SrN, TeV, Count, ArS, RgI, RgS.
-/
import Derived.Test.YtniddfoiakbfdaaWords
import Derived.Test.YtniddfoiakbfdaaShelfS
import Derived.Sort.OwnSortedInts
import Derived.Test.YtniddfoiakbfdaaPaP
import Derived.Test.YtniddfoiakbfdaaFlood
import Derived.Test.YtniddfoiakbfdaaNextTo
import Derived.Test.YtniddfoiakbfdaaNbImpl
import Derived.Test.YtniddfoiakbfdaaGs
import Derived.Test.YtniddfoiakbfdaaUnS
import Derived.Test.YtniddfoiakbfdaaBesides
import Derived.Deep.QuietTactic
import Derived.Deep.DeepCutAuto
import Derived.BigQuiet
import Derived.Test.YtniddfoiakbfdaaBoardI
import Derived.Test.YtniddfoiakbfdaaRows2
import Derived.Test.YtniddfoiakbfdaaPlayP
import Derived.Test.YtniddfoiakbfdaaGsI
import Derived.Deep.RegionHeld3
import Derived.Lib.BitFns
import Derived.Test.YtniddfoiakbfdaaInv
import Derived.Test.YtniddfoiakbfdaaCopy
namespace Go.Proofs.Ytniddfoiakbfdaa
set_option maxRecDepth 100000
open Go.RowKit Go.Sort

theorem i_sortI (w : World) (B g n c : Nat) (xs : List Int) (h : Own w B (some ⟨g, 0, none⟩) n c xs) (hn : n ≤ 1000000) :
    Calls Try.prog 71 #[.slice (some ⟨g, 0, none⟩) n c] w fun e w' => e = .returned (.tuple #[]) ∧ Own w' B (some ⟨g, 0, none⟩) n c (xs.mergeSort fun x y => decide (x ≤ y)) ∧ w.grownBy w' (some g) := by
  have hl := h.1
  rcases h.2.2 with ⟨e, _⟩ | ⟨g', cap, cur, e, hg, hb, h1, h2, h3, ht⟩
  · cases e
  · injection e with e1 e2 e3
    injection e1 with e1
    injection e1 with e1
    subst e1
    subst e3
    subst hl
    have hlen : (xs.mergeSort fun x y => decide (x ≤ y)).length = xs.length := List.length_mergeSort _
    have hlt : g < w.heap.size := (Array.getElem?_eq_some_iff.1 hb).1
    refine (Try.slices_Sort_int g 0 c xs w (holds_of_blockI hb (by simpa using ht)) hlt (by omega)).mono ?_
    rintro e w' ⟨rfl, k, os, rfl⟩
    refine ⟨rfl, ⟨hlen, ?_⟩, grownBy_sortedI _⟩
    exact ownsRow_sortedI (ts := xs.mergeSort fun x y => decide (x ≤ y)) hlen hg hb h1 h2 h3
end Go.Proofs.Ytniddfoiakbfdaa

namespace Go.Proofs.Ytniddfoiakbfdaa
set_option maxRecDepth 100000
open Go.RowKit

theorem gfar {w a b : World} {ga : Nat} {r : Option Nat} (h : w.grownBy a (some ga)) (hb : a.grownBy b r) (hr : ∀ k, r = some k → w.heap.size ≤ k) : w.grownBy b (some ga) :=
  ⟨hb.os.trans h.os, hb.tape.trans h.tape, hb.output.trans h.output, Nat.le_trans h.size hb.size, fun k hk hne => (hb.block k (Nat.lt_of_lt_of_le hk h.size) (fun e => by have := hr k e.symm; omega)).trans (h.block k hk hne)⟩
theorem gsetT {w a : World} {ga : Nat} (h : w.grownBy a (some ga)) (j : Nat) (u : Value) : w.grownBy (a.setCell ⟨ga, j, none⟩ u) (some ga) :=
  gtrans h ⟨rfl, rfl, rfl, by simp [World.setCell], fun k _ hk => Below.heap_setCell a ⟨ga, j, none⟩ u k (fun e => hk (by rw [e]))⟩

def TkOut (w : World) (s : Int) (n : Nat) (a : List Bool) (p ga : Nat) (k : Nat) (v7 v8 : Value) (wr : World) : Prop :=
  ∃ P mp cp pt A m c st S ar, v7 = .slice P mp cp ∧ v8 = .slice A m c ∧ k = 2 * Fl.dark S + m ∧ k ≤ 200 ∧ Own wr w.heap.size P mp cp pt ∧ Own wr w.heap.size A m c st ∧ (∀ g, P = some ⟨g, 0, none⟩ → A ≠ some ⟨g, 0, none⟩) ∧
    Bl wr ga ar ∧ Fl.Inv s n a (p : Int) S st ∧ Pa.TS n a S st pt ar ∧ w.grownBy wr (some ga)

def TkIn (w wo y : World) (s : Int) (n : Nat) (a : List Bool) (p ga : Nat) (q : Int) (K n2 c2 mp cp : Nat) (A2 P : Option Addr) (pt : List Int) (v8 i : Value) (wi : World) : Prop :=
  ∃ j A m c st S ar, j ≤ n2 ∧ i = .int .i64 (j : Nat) ∧ v8 = .slice A m c ∧ 2 * Fl.dark S + m ≤ K ∧ Own wi w.heap.size A m c st ∧ (∀ g, A = some ⟨g, 0, none⟩ → (g < wo.heap.size ∧ P ≠ some ⟨g, 0, none⟩) ∨ y.heap.size ≤ g) ∧
    Bl wi ga ar ∧ Fl.InvQ s n a (p : Int) q j S st ∧ Pa.TS n a S st pt ar ∧ w.grownBy wi (some ga) ∧ Own wi w.heap.size P mp cp pt ∧ Own wi wo.heap.size A2 n2 c2 (Pt.nbs s q) ∧ y.heap.size ≤ wi.heap.size

/-- What 'takePart' leads to. -/
def Taken (w : World) (s : Int) (n : Nat) (a : List Bool) (p ga : Nat) (e : Ending) (w' : World) : Prop :=
  ∃ A m c S ar, e = .returned (.slice A m c) ∧ Own w' w.heap.size A m c (Fl.pts S n) ∧ S.length = n ∧ (∀ y, 0 ≤ y → (Fl.at_ S y = true ↔ Fl.Reach s a (p : Int) y)) ∧ Bl w' ga ar ∧ ar.length = n ∧ (∀ q, q < n → ar.getD q false = (a.getD q false && !S.getD q false)) ∧ w.grownBy w' (some ga)

set_option maxRecDepth 100000 in
set_option maxHeartbeats 8000000 in
theorem i_takePart (s : Int) (p : Nat) (w : World) (ga n : Nat) (a : List Bool) (h1 : 1 ≤ s) (h2 : s ≤ 7) (hn : (n : Int) = s * s) (hp : p < n) (ha : a.getD p false = true) (hal : a.length = n) (hbl : Bl w ga a) :
    Calls Try.prog 73 #[.int .i64 s, .slice (some ⟨ga, 0, none⟩) n n, .int .i64 (p : Nat)] w fun e w' => Taken w s n a p ga e w' := by
  have hsq := Pt.sq_bd s h1 h2
  have Hnn := Lib.hid (nbs_in h1 h2 hn)
  have hn49 : n ≤ 49 := by omega
  have hga := hbl.lt
  have Hn := Lib.hid hn
  have Hal := Lib.hid hal
  have hpi : (p : Int) < n := by omega
  have Hst := Lib.hid (Fl.Inv.start (s := s) (keep := a) (p := (p : Int)) (n := n) ⟨by omega, by omega⟩)
  have Hts := Lib.hid (Pa.TS.start hal hp)
  have Hbl0 := Lib.hid hbl
  have Hpa := Lib.hid ha
  clear hn hal hbl ha
  go_enter Try.func73, Try.ntmps73
  go_upto_region 3 with (fail)
  obtain ⟨w2, hw2⟩ : ∃ w2, w2 = w.alloc (.cells #[.int .i64 (p : Int)] 3) := ⟨_, rfl⟩
  have hz2 : w.heap.size < w2.heap.size := by rw [hw2]; simp
  have Ho : Hid (Own w2 w.heap.size (some ⟨w.heap.size, 0, none⟩) 1 1 [(p : Int)]) := Lib.hid (by rw [hw2]; exact Own.one w _ _ (Nat.le_refl _))
  have Hbl : Hid (Bl w2 ga a) := Lib.hid (by rw [hw2]; exact Hbl0.out.alloc _)
  have Hg : Hid (w.grownBy w2 (some ga)) := Lib.hid (by rw [hw2]; exact World.grownBy_alloc w _ _)
  rw [← hw2]
  clear hw2 Hbl0
  have hc := Hbl.out.cell (j := p) (by rw [Hal.out]; exact hp)
  have hf := Hbl.out.frozen p
  have Hbl3 := Lib.hid (Hbl.out.set_ p false)
  have Ho3 := Lib.hid (Ho.out.far ⟨ga, p, none⟩ (fun g hA => by have := (Ho.out.ge hA).1; show g ≠ ga; omega) (.bool false))
  have Hg3 := Lib.hid (gsetT Hg.out p (.bool false))
  have Hpt := Lib.hid (Own.nil (w2.setCell ⟨ga, p, none⟩ (.bool false)) w.heap.size)
  clear Hbl Ho Hg
  go_wp2_with fail
  clear hc hf
  go_loopg [7, 8] (2 * Fl.dark ((List.replicate n false).set p true) + 1) (fun k v7 v8 wr => TkOut w s n a p ga k v7 v8 wr)
  case atStart => exact ⟨_, _, _, _, _, _, _, _, _, _, rfl, rfl, rfl, by have := dark_le ((List.replicate n false).set p true); rw [List.length_set, List.length_replicate] at this; omega, Hpt.out, Ho3.out, (fun g e => by cases e), Hbl3.out, Hst.out, Hts.out, Hg3.out⟩
  case round =>
    clear Ho3 Hbl3 Hg3 Hst Hts Hpt
    obtain ⟨P, mp, cp, pt, A, m, cc, st, S, ar, rfl, rfl, hgk, hgk2, hop, ho, hap, hbl, hinv, hts, hg⟩ := hrel
    have hm200 : m ≤ 200 := by omega
    have Hgk := Lib.hid hgk
    have Hop := Lib.hid hop
    have Ho := Lib.hid ho
    have Hap := Lib.hid hap
    have Hbl := Lib.hid hbl
    have Hinv := Lib.hid hinv
    have Hts := Lib.hid hts
    have Hg := Lib.hid hg
    have hzr := hg.size
    have hgr := hbl.lt
    have hmp : mp ≤ 49 := by
      have h9 := hts.perm.length_eq
      rw [List.length_append, hop.1] at h9
      have := Fl.pts_len S n
      omega
    clear hgk hop ho hap hbl hinv hts hg
    by_cases hm0 : m = 0
    · have hst0 : st = [] := List.eq_nil_of_length_eq_zero (by rw [Ho.out.1]; exact hm0)
      have Hall := Lib.hid (show ∀ y, 0 ≤ y → (Fl.at_ S y = true ↔ Fl.Reach s a (p : Int) y) by
        have := Hinv.out
        rw [hst0] at this
        exact fun y hy => this.all Hnn.out ⟨by omega, hpi⟩ y hy)
      have Hperm : Hid (pt.Perm (Fl.pts S n)) := Lib.hid (by have h9 := Hts.out.perm; rw [hst0, List.append_nil] at h9; exact h9)
      have hmp1 : 0 < mp := by
        have h9 := Hperm.out.length_eq
        rw [Hop.out.1] at h9
        have hm : (p : Int) ∈ Fl.pts S n := Pa.pts_mem.2 ⟨p, hp, by have := (Hall.out (p : Int) (by omega)).2 .base; unfold Fl.at_ at this; rw [Int.toNat_natCast] at this; exact this, rfl⟩
        have := List.length_pos_of_mem hm
        omega
      obtain ⟨gp, hP⟩ : ∃ gp, P = some ⟨gp, 0, none⟩ := by
        obtain ⟨g, cap, hv, _⟩ := World.ownsRow.form Hop.out.2 (by omega)
        exact ⟨g, by injection hv⟩
      subst hP
      have hgp := Hop.out.ge rfl
      have Hlen := Lib.hid Hinv.out.len
      clear hst0
      subst hm0
      go_wp2_with fail
      refine (i_sortI wr _ gp mp _ pt Hop.out (by omega)).mono ?_
      rintro e y ⟨rfl, hos, hgs⟩
      have Hos : Hid (Own y w.heap.size (some ⟨gp, 0, none⟩) mp cp (Fl.pts S n)) := Lib.hid (by rw [← Pa.sort_pts Hperm.out]; exact hos)
      have Hbs := Lib.hid (Hbl.out.grown hgs (fun e => by injection e; omega))
      have Hgs := Lib.hid (gfar Hg.out hgs (fun k e => by injection e; omega))
      clear hos hgs
      go_wp2_with fail
      go_ret
      exact ⟨_, _, _, _, _, rfl, Hos.out, Hlen.out, Hall.out, Hbs.out, Hts.out.alen, Hts.out.area, Hgs.out⟩
    · obtain ⟨m', rfl⟩ : ∃ m', m = m' + 1 := ⟨m - 1, by omega⟩
      have hst : ∃ st' q, st = st' ++ [q] := ⟨st.dropLast, st.getLast (by intro e; have := Ho.out.1; rw [e] at this; simp at this), (List.dropLast_concat_getLast _).symm⟩
      obtain ⟨st', q, rfl⟩ := hst
      obtain ⟨ba, hA⟩ : ∃ ba, A = some ⟨ba, 0, none⟩ := by
        obtain ⟨g, cap, hv, _⟩ := World.ownsRow.form Ho.out.2 (by omega)
        exact ⟨g, by injection hv⟩
      subst hA
      have ha1 := (Ho.out.ge rfl).1
      have ha2 := (Ho.out.ge rfl).2
      have hcap := Ho.out.cap
      have Hq := Lib.hid (Hinv.out.pop)
      have Ht := Lib.hid (Hts.out.pop)
      have hq0 := Hq.out.q0
      have hqn := Hq.out.qn
      have hls : st'.length = m' := by have := Ho.out.1; rw [List.length_append] at this; simpa using this
      have hcell : wr.cell? ⟨ba, m', none⟩ = some (.int .i64 q) := by
        have := World.ownsRow.cellAt Ho.out.2 m' (by omega)
        rw [this, List.map_append, List.getElem?_append_right (by rw [List.length_map]; omega), List.length_map, hls, Nat.sub_self]
        rfl
      have Hsp := Lib.hid Ho.out.pop
      have hm1 : (0 : Int) < ((m' + 1 : Nat) : Int) := by omega
      have e1 : IntKind.i64.wrap (((m' + 1 : Nat) : Int) - 1) = (m' : Nat) := by simp [IntKind.wrap, IntKind.bits, IntKind.signed]; omega
      have e2 : ((m' + 1 : Nat) : Int) - 1 = (m' : Nat) := by omega
      clear hls hm0
      go_wp2_with (at_builtin; refine app1at rfl _ _ rfl wr w.heap.size P mp cp pt q _ rfl rfl rfl Hop.out hzr (by omega) ?_; intro P' cp' w9 hown hlt9 hg9 hloc9)
      have hgR := gfar Hg.out hg9 (fun k e => (World.ownsRow.lt Hop.out.2 k e).1)
      have hsR : Own w9 w.heap.size (some ⟨ba, 0, none⟩) m' cc st' := Hsp.out.kept hg9 (fun g e e2 => Hap.out g (own_block Hop.out e2) e)
      have hblR : Bl w9 ga ar := Hbl.out.grown hg9 (fun e => by have := (World.ownsRow.lt Hop.out.2 ga e.symm).1; omega)
      have hapR : ∀ g, P' = some ⟨g, 0, none⟩ → g ≠ ba := fun g e => by
        rcases hloc9 g e with h | h
        · intro e9; subst e9; exact Hap.out g (own_block Hop.out h) rfl
        · omega
      have HgR := Lib.hid hgR
      have HsR := Lib.hid hsR
      have HblR := Lib.hid hblR
      have HapR := Lib.hid hapR
      have HpR := Lib.hid hown
      have hz9 := hgR.size
      have hba9 := (hsR.ge rfl).2
      clear hgR hsR hblR hapR hown hg9 hloc9 hcell Hop Ho Hap Hbl Hg Hsp
      go_wp2_with fail
      refine (i_nbs s q _ h1 h2 hq0 (by have := Hn.out; omega)).mono ?_
      rintro e y ⟨A2, n2, c2, rfl, ho2, hb2⟩
      have hn2 : n2 ≤ 4 := by have := ho2.1; have := nbs_few s q; omega
      have hzy := hb2.size
      have HsY := Lib.hid (HsR.out.below hb2)
      have HblY := Lib.hid (HblR.out.below hb2 (by omega))
      have HgY := Lib.hid (gtrans HgR.out (gbelow (some ga) hb2 (Nat.le_refl _)))
      have HpY := Lib.hid (HpR.out.below hb2)
      have HpL := Lib.hid (fun g (e : P' = some ⟨g, 0, none⟩) => (HpR.out.ge e))
      have Ho2 := Lib.hid ho2
      have HA2 := Lib.hid (fun g (e : A2 = some ⟨g, 0, none⟩) => ho2.ge e)
      clear ho2 hb2 HsR HblR HgR HpR
      go_wp2_with fail
      go_loopw [8, 39] (fun v i wi => TkIn w w9 y s n a p ga q (gk - 1) n2 c2 (mp + 1) cp' A2 P' (pt ++ [q]) v i wi) (fun _ i _ => n2 - (intOf i).toNat)
      case atStart => exact ⟨0, _, _, _, _, _, _, by omega, rfl, rfl, by have := Hgk.out; omega, HsY.out, (fun g e => by injection e with e; injection e with e; subst e; exact .inl ⟨by omega, fun e9 => HapR.out _ e9 rfl⟩), HblY.out, Hq.out, Ht.out, HgY.out, HpY.out, Ho2.out, Nat.le_refl _⟩
      case round =>
        clear HsY HblY HgY HpY Ho2
        obtain ⟨j, A3, m3, c3, st3, S3, ar3, hj, rfl, rfl, hK, ho, hloc, hbl, hinv, hts, hg, hpo, hnb, hyi⟩ := hrel
        have hm3 : m3 ≤ 200 := by omega
        have hzi := hg.size
        have hgi := hbl.lt
        have Ho3 := Lib.hid ho
        have Hloc := Lib.hid hloc
        have Hbl3 := Lib.hid hbl
        have Hinv3 := Lib.hid hinv
        have Hts3 := Lib.hid hts
        have Hg3 := Lib.hid hg
        have Hp3 := Lib.hid hpo
        have Hnb := Lib.hid hnb
        have HK := Lib.hid hK
        clear ho hloc hbl hinv hts hg hpo hnb hK
        have hnl := Lib.hid Hnb.out.1
        by_cases hjn : j < n2
        · obtain ⟨nb, hA2⟩ : ∃ nb, A2 = some ⟨nb, 0, none⟩ := by
            obtain ⟨g, cap, hv, _⟩ := World.ownsRow.form Hnb.out.2 (by omega)
            exact ⟨g, by injection hv⟩
          have hb1 := HA2.out nb hA2
          have HA := Lib.hid hA2
          have hnbr := (Hnb.out.ge hA2).2
          have hjl : j < (Pt.nbs s q).length := by rw [hnl.out]; exact hjn
          have hcn : wr.cell? ⟨nb, j, none⟩ = some (.int .i64 ((Pt.nbs s q).getD j 0)) := by
            have h3 := Hnb.out
            rw [hA2] at h3
            exact h3.cellD j hjn
          have hmem : (Pt.nbs s q).getD j 0 ∈ Pt.nbs s q := by
            rw [List.getD_eq_getElem?_getD, List.getElem?_eq_getElem hjl]; exact List.getElem_mem _
          obtain ⟨x0, xl⟩ := Hnn.out q hq0 hqn _ hmem
          obtain ⟨x, hx⟩ : ∃ x, (Pt.nbs s q).getD j 0 = x := ⟨_, rfl⟩
          rw [hx] at hcn x0 xl
          obtain ⟨xn, rfl⟩ := Int.eq_ofNat_of_zero_le x0
          have hxn : xn < n := by omega
          have Hx := Lib.hid hx
          have cs := Hbl3.out.cell (j := xn) (by rw [Hts3.out.alen]; exact hxn)
          have fs := Hbl3.out.frozen xn
          have Hjl := Lib.hid hjl
          have hj2 : (j : Int) < n2 := by omega
          clear hmem hx hjl
          rw [hA2]
          clear hA2
          rcases Bool.eq_false_or_eq_true (ar3.getD xn false) with hsx | hsx
          · have Hi2 := Lib.hid (Hinv3.out.push (by omega) Hnn.out Hjl.out Hx.out (by unfold Fl.at_; rw [Int.toNat_natCast]; exact Hts3.out.in_ hxn hsx))
            rw [Int.toNat_natCast] at Hi2
            have Ht2 := Lib.hid (Hts3.out.push Hinv3.out.len hxn hsx)
            have hs3 : S3.getD xn false = false := by
              have h9 := Hts3.out.area xn hxn
              rw [hsx] at h9
              rcases Bool.eq_false_or_eq_true (S3.getD xn false) with e | e
              · rw [e] at h9; simp at h9
              · exact e
            have Hd := Lib.hid (Fl.dark_set (l := S3) (j := xn) (by rw [Hinv3.out.len]; exact hxn) hs3)
            rw [hsx] at cs
            clear hsx hs3
            have HoS := Lib.hid (Ho3.out.far ⟨ga, xn, none⟩ (fun g hA => by have := (Ho3.out.ge hA).1; show g ≠ ga; omega) (.bool false))
            have es : (wr.setCell ⟨ga, xn, none⟩ (.bool false)).heap.size = wr.heap.size := by simp [World.setCell]
            have Hes := Lib.hid es
            clear es
            go_wp2_with (at_builtin; refine app1at rfl _ _ rfl (wr.setCell ⟨ga, xn, none⟩ (.bool false)) _ _ _ _ _ _ _ rfl rfl Hes.out HoS.out (by rw [Hes.out]; omega) (by omega) ?_; intro A' c' w8 hown' hlt' hgrow hloc')
            rw [Hes.out] at hlt'
            have hnb9 : Own w8 w9.heap.size A2 n2 c2 (Pt.nbs s q) := (Hnb.out.far ⟨ga, xn, none⟩ (fun g e => by have := HA2.out g e; show g ≠ ga; omega) (.bool false)).kept hgrow (fun g e e2 => by
              have e4 := HA2.out g e
              rcases Hloc.out g (own_block HoS.out e2) with e3 | e3
              · omega
              · omega)
            have hp9 : Own w8 w.heap.size P' (mp + 1) cp' (pt ++ [q]) := (Hp3.out.far ⟨ga, xn, none⟩ (fun g e => by have := (HpL.out g e).1; show g ≠ ga; omega) (.bool false)).kept hgrow (fun g e e2 => by
              rcases Hloc.out g (own_block HoS.out e2) with e3 | e3
              · exact e3.2 e
              · have := (HpL.out g e).2; omega)
            have hbl9 : Bl w8 ga (ar3.set xn false) := (Hbl3.out.set_ xn false).grown hgrow (fun e => by have := (World.ownsRow.lt HoS.out.2 ga e.symm).1; omega)
            have hg9 : w.grownBy w8 (some ga) := gfar (gsetT Hg3.out xn (.bool false)) hgrow (fun k hk => (World.ownsRow.lt HoS.out.2 k hk).1)
            have hloc9 : ∀ g, A' = some ⟨g, 0, none⟩ → (g < w9.heap.size ∧ P' ≠ some ⟨g, 0, none⟩) ∨ y.heap.size ≤ g := fun g e => by
              rcases hloc' g e with h | h
              · exact Hloc.out g (own_block HoS.out h)
              · right; rw [Hes.out] at h; omega
            have Ho9 := Lib.hid hown'
            have Hnb9 := Lib.hid hnb9
            have Hp9 := Lib.hid hp9
            have Hbl9 := Lib.hid hbl9
            have Hg9 := Lib.hid hg9
            have Hloc9 := Lib.hid hloc9
            clear hown' hgrow hloc' hnb9 hbl9 hg9 hloc9 hp9 cs fs hcn
            go_roundw
            case rel => exact ⟨j + 1, _, _, _, _, _, _, by omega, by go_num, rfl, by have := Hd.out; have := HK.out; omega, Ho9.out, Hloc9.out, Hbl9.out, Hi2.out, Ht2.out, Hg9.out, Hp9.out, by rw [← HA.out]; exact Hnb9.out, by omega⟩
            case measure => simp [intOf]; omega
          · have Hi2 := Lib.hid (Hinv3.out.skip Hjl.out (by
              rw [Hx.out]
              unfold Fl.at_
              rw [Int.toNat_natCast]
              exact Hts3.out.out_ hxn hsx))
            rw [hsx] at cs
            clear hsx
            go_wp2_with fail
            go_roundw
            case rel => exact ⟨j + 1, _, _, _, _, _, _, by omega, by go_num, rfl, HK.out, Ho3.out, Hloc.out, Hbl3.out, Hi2.out, Hts3.out, Hg3.out, Hp3.out, by rw [← HA.out]; exact Hnb.out, hyi⟩
            case measure => simp [intOf]; omega
        · have Hfin := Lib.hid (Hinv3.out.finish (by rw [hnl.out]; omega))
          have Hapf : Hid (∀ g, P' = some ⟨g, 0, none⟩ → A3 ≠ some ⟨g, 0, none⟩) := Lib.hid (fun g e e9 => by
            rcases Hloc.out g e9 with h | h
            · exact h.2 e
            · have := (HpL.out g e).2; omega)
          go_wp2_with fail
          go_roundg (2 * Fl.dark S3 + m3)
          case measure => have := HK.out; have := Hgk.out; omega
          case rel => exact ⟨_, _, _, _, _, _, _, _, _, _, rfl, rfl, rfl, by have := HK.out; omega, Hp3.out, Ho3.out, Hapf.out, Hbl3.out, Hfin.out, Hts3.out, Hg3.out⟩
end Go.Proofs.Ytniddfoiakbfdaa

namespace Go.Proofs.Ytniddfoiakbfdaa
set_option maxRecDepth 100000
open Go.RowKit

/-- The parts of an area that begin at its first k points. -/
def PL (s : Int) (n : Nat) (K : List Bool) : Nat → List (List Int) → Prop
  | 0, ls => ls = []
  | k + 1, ls => ∃ l0, PL s n K k l0 ∧ ((Pa.PF s K k ∧ ∃ g, Reached s n K (k : Int) g ∧ ls = l0 ++ [g]) ∨ (¬ Pa.PF s K k ∧ ls = l0))
theorem PL.one {s : Int} {n : Nat} {K : List Bool} : ∀ {k : Nat} {ls ls' : List (List Int)}, PL s n K k ls → PL s n K k ls' → ls = ls' := by
  intro k
  induction k with
  | zero => intro ls ls' h h'; exact h.trans h'.symm
  | succ k ih =>
    intro ls ls' h h'
    obtain ⟨l0, h0, h⟩ := h
    obtain ⟨l1, h1, h'⟩ := h'
    have e := ih h0 h1
    subst e
    rcases h with ⟨a, g, hg, rfl⟩ | ⟨a, rfl⟩ <;> rcases h' with ⟨b, g', hg', rfl⟩ | ⟨b, rfl⟩
    · rw [hg.one hg']
    · exact absurd a b
    · exact absurd b a
    · rfl
theorem PL.small {s : Int} {n : Nat} {K : List Bool} : ∀ {k : Nat} {ls : List (List Int)}, PL s n K k ls → ls.length ≤ k := by
  intro k
  induction k with
  | zero => intro ls h; cases (show ls = [] from h); exact Nat.le_refl _
  | succ k ih =>
    intro ls h
    obtain ⟨l0, h0, h⟩ := h
    have := ih h0
    rcases h with ⟨_, g, hg, rfl⟩ | ⟨_, rfl⟩
    · rw [List.length_append]; simp; omega
    · omega
/-- The groups of a color are the parts of its points. -/
theorem PL.ofGL {s x : Int} {n : Nat} {cs : List Int} (hl : cs.length = n) : ∀ {k : Nat} {ls : List (List Int)}, k ≤ n → GL s n cs x k ls → PL s n (hasCol x cs) k ls := by
  intro k
  induction k with
  | zero => intro ls _ h; exact h
  | succ k ih =>
    intro ls hk h
    obtain ⟨l0, h0, h⟩ := h
    have key : GF s cs x k ↔ Pa.PF s (hasCol x cs) k := by
      unfold GF Pa.PF
      rw [hasCol_at (by omega)]
      constructor
      · rintro ⟨a, b⟩
        rw [a] at b
        exact ⟨by rw [a]; exact beq_self_eq_true _, b⟩
      · rintro ⟨a, b⟩
        have a' : cs.getD k 0 = x := by simpa using a
        exact ⟨a', by rw [a']; exact b⟩
    refine ⟨l0, ih (by omega) h0, ?_⟩
    rcases h with ⟨a, g, hg, rfl⟩ | ⟨a, rfl⟩
    · exact .inl ⟨key.1 a, g, by rw [a.1] at hg; exact hg, rfl⟩
    · exact .inr ⟨fun h => a (key.2 h), rfl⟩

theorem gbel {w a b : World} {ga : Nat} (h : w.grownBy a (some ga)) (hb : Below w.heap.size a b) : w.grownBy b (some ga) :=
  ⟨hb.os.trans h.os, hb.tape.trans h.tape, hb.output.trans h.output, Nat.le_trans h.size hb.size, fun k hk hne => (hb.block k hk).trans (h.block k hk hne)⟩

set_option maxRecDepth 100000 in
set_option maxHeartbeats 8000000 in
theorem i_connectedParts (s : Int) (w : World) (ga n : Nat) (K : List Bool) (h1 : 1 ≤ s) (h2 : s ≤ 7) (hn : (n : Int) = s * s) (hK : K.length = n) (hbl : Bl w ga K) :
    Calls Try.prog 52 #[.int .i64 s, .slice (some ⟨ga, 0, none⟩) n n] w fun e w' => ∃ A m c ls, e = .returned (.slice A m c) ∧ SS w' w.heap.size w'.heap.size A m c ls ∧ PL s n K n ls ∧ w.grownBy w' (some ga) := by
  have hsq := Pt.sq_bd s h1 h2
  have hn49 : n ≤ 49 := by omega
  have hga := hbl.lt
  have Hnn := Lib.hid (nbs_in h1 h2 hn)
  have Hsy := Lib.hid (nbs_sy h1 h2 hn)
  have Hn := Lib.hid hn
  have Hbl := Lib.hid hbl
  have Hak := Lib.hid (Pa.AK.start (s := s) (n := n) hK)
  have Hss := Lib.hid (SS.nil w w.heap.size w.heap.size)
  have Hg := Lib.hid (World.grownBy.refl w (some ga))
  clear hn hbl hK
  go_enter Try.func52, Try.ntmps52
  go_wp2_with fail
  go_loopw [5, 9] (fun v i wr => ∃ (k m c' : Nat) (A' : Option Addr) (l0 : List (List Int)) (ar : List Bool), k ≤ n ∧ i = .int .i64 (k : Nat) ∧ v = .slice A' m c' ∧ SS wr w.heap.size wr.heap.size A' m c' l0 ∧ PL s n K k l0 ∧ Bl wr ga ar ∧ Pa.AK s n K k ar ∧ w.grownBy wr (some ga)) (fun _ i _ => n - (intOf i).toNat)
  case atStart => exact ⟨0, 0, 0, _, [], _, by omega, rfl, rfl, Hss.out, rfl, Hbl.out, Hak.out, Hg.out⟩
  case round =>
    clear Hss Hbl Hak Hg
    obtain ⟨wo, rfl⟩ : ∃ wo : World, wo = wr := ⟨_, rfl⟩
    obtain ⟨k, m, c', A', l0, ar, hk, rfl, rfl, hss, hpl, hbl, hak, hg⟩ := hrel
    have hz := hg.size
    have hm := hss.len
    have hm2 := hpl.small
    have hm3 : m ≤ 49 := by omega
    have Hss := Lib.hid hss
    have Hpl := Lib.hid hpl
    have Hbl := Lib.hid hbl
    have Hak := Lib.hid hak
    have Hg := Lib.hid hg
    clear hss hpl hbl hak hg hm hm2
    by_cases hkn : k < n
    · have hkI : (k : Int) < n := by omega
      have cs := Hbl.out.cell (j := k) (by rw [Hak.out.1]; exact hkn)
      rcases Bool.eq_false_or_eq_true (ar.getD k false) with hv | hv
      · have Hpf := Lib.hid ((Hak.out.first hkn).1 hv)
        have Hv := Lib.hid hv
        rw [hv] at cs
        clear hv
        go_wp2_with fail
        refine (i_takePart s k _ ga n ar h1 h2 Hn.out hkn Hv.out Hak.out.1 Hbl.out).mono ?_
        rintro e y ⟨A5, m5, c5, S, ar', rfl, ho, hS, hall, hbl, hal, har, hgt⟩
        have hzl := hgt.size
        have Hss2 : Hid (SS y w.heap.size wo.heap.size A' m c' l0) := Lib.hid (Hss.out.kept hgt (fun g e => by injection e with e; subst e; exact .inl hga))
        have Hol := Lib.hid ho
        have hSq : ∀ q : Nat, S.getD q false = true ↔ Fl.Reach s ar (k : Int) (q : Int) := fun q => by
          have h9 := hall (q : Int) (by omega)
          unfold Fl.at_ at h9
          rw [Int.toNat_natCast] at h9
          exact h9
        have Hak2 := Lib.hid (Hak.out.take Hnn.out Hsy.out hkn Hv.out hSq hal har)
        have Hrl : Hid (Reached s n K (k : Int) (Fl.pts S n)) := Lib.hid ⟨S, hS, fun y hy => (hall y hy).trans (Hak.out.reach Hnn.out hkn Hv.out y), rfl⟩
        have Hbl2 := Lib.hid hbl
        have Hg2 := Lib.hid (gtrans Hg.out hgt)
        clear ho hall hbl hal har hgt hSq cs hS
        go_wp2_with (at_builtin; refine app1S rfl _ _ rfl _ _ _ _ _ _ _ _ _ _ _ _ rfl rfl rfl Hss2.out Hol.out (by omega) (by omega) (by omega) ?_; intro A6 c6 w6 hss6 hlt6 hb6 hg6)
        have Hss6 := Lib.hid hss6
        have Hbl6 := Lib.hid (Hbl2.out.grown hg6 (fun e => by
          obtain ⟨_, _, vs, ra, rn, rc, _, a4, _⟩ := Hss2.out
          have := (World.ownsRow.lt a4 ga e.symm).1
          omega))
        have Hg6 := Lib.hid (gbel Hg2.out hb6)
        clear hss6 hb6 hg6
        go_roundw
        case rel => exact ⟨k + 1, _, _, _, _, _, by omega, by go_num, rfl, Hss6.out, ⟨_, Hpl.out, .inl ⟨Hpf.out, _, Hrl.out, rfl⟩⟩, Hbl6.out, Hak2.out, Hg6.out⟩
        case measure => simp [intOf]; omega
      · have Hpf : Hid (¬ Pa.PF s K k) := Lib.hid (fun h => by rw [(Hak.out.first hkn).2 h] at hv; cases hv)
        have Hak2 := Lib.hid (Hak.out.skip Hnn.out Hsy.out hkn hv)
        rw [hv] at cs
        clear hv
        go_wp2_with fail
        go_roundw
        case rel => exact ⟨k + 1, _, _, _, _, _, by omega, by go_num, rfl, Hss.out, ⟨_, Hpl.out, .inr ⟨Hpf.out, rfl⟩⟩, Hbl.out, Hak2.out, Hg.out⟩
        case measure => simp [intOf]; omega
    · have hkn2 : k = n := by omega
      have Hpn : Hid (PL s n K n l0) := Lib.hid (by have h9 := Hpl.out; rw [hkn2] at h9; exact h9)
      clear hkn2
      go_wp2_with fail
      go_ret
      exact ⟨_, _, _, _, rfl, Hss.out, Hpn.out, Hg.out⟩
end Go.Proofs.Ytniddfoiakbfdaa

namespace Go.Proofs.Ytniddfoiakbfdaa
set_option maxRecDepth 100000
open Go.RowKit

/-- The points without a color. -/
def notCol (x : Int) (cs : List Int) : List Bool := cs.map fun c => !(c == x)
theorem notCol_len (x : Int) (cs : List Int) : (notCol x cs).length = cs.length := by simp [notCol]
theorem notCol_at {x : Int} {cs : List Int} {k : Nat} (h : k < cs.length) : (notCol x cs).getD k false = !(cs.getD k 0 == x) := by
  simp [notCol, List.getD_eq_getElem?_getD, List.getElem?_eq_getElem h]

theorem PL.make {s : Int} {n : Nat} {K : List Bool} (h1 : 1 ≤ s) (h2 : s ≤ 7) (hn : (n : Int) = s * s) : ∀ k, k ≤ n → ∃ ls, PL s n K k ls := by
  intro k
  induction k with
  | zero => intro _; exact ⟨[], rfl⟩
  | succ k ih =>
    intro hk
    obtain ⟨l0, h0⟩ := ih (by omega)
    by_cases e : Pa.PF s K k
    · obtain ⟨g, hg⟩ := Reached.make h1 h2 hn K (p := (k : Int)) ⟨by omega, by omega⟩
      exact ⟨_, l0, h0, .inl ⟨e, g, hg, rfl⟩⟩
    · exact ⟨_, l0, h0, .inr ⟨e, rfl⟩⟩
theorem PL.few {s : Int} {n : Nat} {K : List Bool} : ∀ {k : Nat} {ls : List (List Int)}, PL s n K k ls → ∀ g ∈ ls, g.length ≤ n := by
  intro k
  induction k with
  | zero => intro ls h; cases (show ls = [] from h); exact fun g hg => by cases hg
  | succ k ih =>
    intro ls h
    obtain ⟨l0, h0, h⟩ := h
    have := ih h0
    rcases h with ⟨_, g, hg, rfl⟩ | ⟨_, rfl⟩
    · intro q hq
      rw [List.mem_append, List.mem_singleton] at hq
      rcases hq with hq | rfl
      · exact this q hq
      · exact hg.few
    · exact this

/-- The regions of a color: nothing for other arguments. -/
def RgIs (s : Int) (n : Nat) (cs : List Int) (x : Int) (ls : List (List Int)) : Prop := (okGs s cs x = true → PL s n (notCol x cs) n ls) ∧ (okGs s cs x = false → ls = [])
theorem RgIs.make (s : Int) (n : Nat) (cs : List Int) (x : Int) (hn : cs.length = n) : ∃ ls, RgIs s n cs x ls := by
  rcases Bool.eq_false_or_eq_true (okGs s cs x) with e | e
  · have e2 := e
    unfold okGs at e2
    rw [Bool.and_eq_true] at e2
    obtain ⟨q1, q2, q3, _⟩ := (Bd.okB_iff s cs).1 e2.1
    obtain ⟨l, hl⟩ := PL.make (K := notCol x cs) q1 q2 (n := n) (by omega) n (Nat.le_refl _)
    exact ⟨l, ⟨fun _ => hl, fun h => absurd (e.symm.trans h) (by decide)⟩⟩
  · exact ⟨[], ⟨fun h => absurd (e.symm.trans h) (by decide), fun _ => rfl⟩⟩
theorem RgIs.small {s x : Int} {n : Nat} {cs : List Int} {ls : List (List Int)} (h : RgIs s n cs x ls) (hn : cs.length = n) : ls.length ≤ 49 ∧ ∀ j, (ls.getD j []).length ≤ 49 := by
  have key : ls.length ≤ 49 ∧ ∀ g ∈ ls, g.length ≤ 49 := by
    rcases Bool.eq_false_or_eq_true (okGs s cs x) with e | e
    · have e2 := e
      unfold okGs at e2
      rw [Bool.and_eq_true] at e2
      obtain ⟨q1, q2, q3, _⟩ := (Bd.okB_iff s cs).1 e2.1
      have := Pt.sq_bd s q1 q2
      have a := (h.1 e).small
      have b := (h.1 e).few
      exact ⟨by omega, fun g hg => by have := b g hg; omega⟩
    · rw [h.2 e]; exact ⟨by simp, fun g hg => by cases hg⟩
  refine ⟨key.1, fun j => ?_⟩
  by_cases hj : j < ls.length
  · rw [List.getD_eq_getElem?_getD, List.getElem?_eq_getElem hj]
    exact key.2 _ (List.getElem_mem _)
  · rw [List.getD_eq_getElem?_getD, List.getElem?_eq_none (by omega)]
    exact Nat.zero_le _

/-- The first point of a part, told by what the part's list begins with. -/
theorem Reached.starts {s : Int} {n : Nat} {K : List Bool} {k : Nat} {g : List Int} (h : Reached s n K (k : Int) g) (hk : k < n) (hKk : K.getD k false = true) : 0 < g.length ∧ (g.getD 0 0 = (k : Int) ↔ Pa.PF s K k) := by
  obtain ⟨a, b⟩ := h.first hk
  exact ⟨a, b.trans ⟨fun h => ⟨hKk, h⟩, fun h => h.2⟩⟩
end Go.Proofs.Ytniddfoiakbfdaa

namespace Go.Proofs.Ytniddfoiakbfdaa
set_option maxRecDepth 100000
open Go.RowKit

/-- Does a region touch a color? -/
def tch (s : Int) (cs : List Int) (x : Int) (g : List Int) : Bool := g.any fun z => (Pt.nbs s z).any fun y => cs.getD y.toNat 0 == x
/-- Does a region belong to a color? -/
def ownR (s : Int) (cs : List Int) (x : Int) (g : List Int) : Bool := tch s cs x g && !tch s cs (3 - x) g
theorem tch_iff {s x : Int} {cs g : List Int} : tch s cs x g = true ↔ ∃ z ∈ g, ∃ y ∈ Pt.nbs s z, cs.getD y.toNat 0 = x := by
  unfold tch
  rw [List.any_eq_true]
  constructor
  · rintro ⟨z, hz, h⟩
    rw [List.any_eq_true] at h
    obtain ⟨y, hy, e⟩ := h
    exact ⟨z, hz, y, hy, by simpa using e⟩
  · rintro ⟨z, hz, y, hy, e⟩
    exact ⟨z, hz, by rw [List.any_eq_true]; exact ⟨y, hy, by simpa using e⟩⟩

/-- The points of the own regions are marked. -/
def TM (s : Int) (n : Nat) (cs : List Int) (x : Int) (ls : List (List Int)) (S : List Bool) : Prop :=
  S.length = n ∧ ∀ q, q < n → (S.getD q false = true ↔ ∃ g ∈ ls, ownR s cs x g = true ∧ (q : Int) ∈ g)
theorem TM.make (s : Int) (n : Nat) (cs : List Int) (x : Int) (ls : List (List Int)) : ∃ S, TM s n cs x ls S := by
  obtain ⟨S, h1, h2⟩ := marks_of n fun q => ∃ g ∈ ls, ownR s cs x g = true ∧ (q : Int) ∈ g
  exact ⟨S, h1, h2⟩
theorem TM.one {s : Int} {n : Nat} {cs : List Int} {x : Int} {ls : List (List Int)} {S T : List Bool} (h : TM s n cs x ls S) (h' : TM s n cs x ls T) : Fl.pts S n = Fl.pts T n :=
  pts_ext fun q hq => by rw [Bool.eq_iff_iff]; exact (h.2 q hq).trans (h'.2 q hq).symm
theorem TM.nil (s : Int) (n : Nat) (cs : List Int) (x : Int) : TM s n cs x [] (List.replicate n false) := by
  refine ⟨by simp, fun q hq => ?_⟩
  rw [List.getD_eq_getElem?_getD, List.getElem?_replicate, if_pos hq]
  simp

theorem reached_memT {s : Int} {n : Nat} {K : List Bool} {f : Int} {g : List Int} (h : Reached s n K f g) {q : Int} (hq : q ∈ g) : 0 ≤ q ∧ q < n ∧ Fl.Reach s K f q := by
  obtain ⟨S, _, hS, rfl⟩ := h
  obtain ⟨j, hj, hjs, rfl⟩ := Pa.pts_mem.1 hq
  exact ⟨by omega, by omega, (hS (j : Int) (by omega)).1 (by unfold Fl.at_; rw [Int.toNat_natCast]; exact hjs)⟩

section
variable {s x : Int} {n : Nat} {cs : List Int}
theorem GL.mem : ∀ {k : Nat} {ls : List (List Int)}, GL s n cs x k ls → ∀ g ∈ ls, ∃ f, f < k ∧ GF s cs x f ∧ Reached s n (hasCol (cs.getD f 0) cs) (f : Int) g := by
  intro k
  induction k with
  | zero => intro ls h; cases (show ls = [] from h); exact fun g hg => by cases hg
  | succ k ih =>
    intro ls h
    obtain ⟨l0, h0, h⟩ := h
    have i0 := ih h0
    rcases h with ⟨hf, g, hg, rfl⟩ | ⟨_, rfl⟩
    · intro q hq
      rw [List.mem_append, List.mem_singleton] at hq
      rcases hq with hq | rfl
      · obtain ⟨f, h1, h2, h3⟩ := i0 q hq
        exact ⟨f, by omega, h2, h3⟩
      · exact ⟨k, by omega, hf, hg⟩
    · intro q hq
      obtain ⟨f, h1, h2, h3⟩ := i0 q hq
      exact ⟨f, by omega, h2, h3⟩
/-- No point is in two groups. -/
theorem GL.apart (h1 : 1 ≤ s) (h2 : s ≤ 7) (hn : (n : Int) = s * s) (hl : cs.length = n) : ∀ {k : Nat} {ls : List (List Int)}, k ≤ n → GL s n cs x k ls → ls.Pairwise fun g g' => ∀ q, q ∈ g → q ∉ g' := by
  intro k
  induction k with
  | zero => intro ls _ h; cases (show ls = [] from h); exact List.Pairwise.nil
  | succ k ih =>
    intro ls hk h
    obtain ⟨l0, h0, h⟩ := h
    have i0 := ih (by omega) h0
    rcases h with ⟨hf, g, hg, rfl⟩ | ⟨_, rfl⟩
    · rw [List.pairwise_append]
      refine ⟨i0, List.pairwise_singleton _ _, fun g0 hg0 g1 hg1 q hq0 hq1 => ?_⟩
      rw [List.mem_singleton] at hg1
      subst hg1
      obtain ⟨f, hfk, hf2, hr2⟩ := GL.mem h0 g0 hg0
      have r0 := (reached_memT hr2 hq0).2.2
      have r1 := (reached_memT hg hq1).2.2
      rw [hf2.1] at r0
      rw [hf.1] at r1
      have key : ∀ j, j < n → cs.getD j 0 = x → Fl.at_ (hasCol x cs) (j : Int) = true := fun j hj e => by
        unfold Fl.at_
        rw [Int.toNat_natCast, hasCol_at (by omega), e]
        exact beq_self_eq_true _
      have kk := key k (by omega) hf.1
      have kf := key f (by omega) hf2.1
      have b1 := Un.reach_back (nbs_in h1 h2 hn) (nbs_sy h1 h2 hn) ⟨by omega, by omega⟩ kk r1
      have a1 := Un.reach_trans r0 b1
      have b2 := Un.reach_back (nbs_in h1 h2 hn) (nbs_sy h1 h2 hn) ⟨by omega, by omega⟩ kf a1
      have := hf.2 f (by rw [hf.1]; exact b2)
      omega
    · exact i0
end

theorem pts_union {S T U : List Bool} : ∀ (n : Nat), (∀ q, q < n → U.getD q false = (S.getD q false || T.getD q false)) → (∀ q, q < n → S.getD q false = true → T.getD q false = false) → (Fl.pts U n).Perm (Fl.pts S n ++ Fl.pts T n) := by
  intro n
  induction n with
  | zero => intro _ _; exact .refl _
  | succ n ih =>
    intro h hd
    have i0 := ih (fun q hq => h q (by omega)) (fun q hq => hd q (by omega))
    have e := h n (by omega)
    rcases Bool.eq_false_or_eq_true (S.getD n false) with hs | hs
    · have ht := hd n (by omega) hs
      rw [hs, ht] at e
      rw [Fl.pts_yes (show U.getD n false = true from e), Fl.pts_yes hs, Fl.pts_no ht]
      refine (i0.append_right _).trans ?_
      rw [List.append_assoc, List.append_assoc]
      exact (List.perm_append_comm).append_left _
    · rcases Bool.eq_false_or_eq_true (T.getD n false) with ht | ht
      · rw [hs, ht] at e
        rw [Fl.pts_yes (show U.getD n false = true from e), Fl.pts_no hs, Fl.pts_yes ht, ← List.append_assoc]
        exact i0.append_right _
      · rw [hs, ht] at e
        rw [Fl.pts_no (show U.getD n false = false from e), Fl.pts_no hs, Fl.pts_no ht]
        exact i0

/-- What the program has gathered from the first regions. -/
def TG (s : Int) (n : Nat) (cs : List Int) (x : Int) (ls : List (List Int)) (i : Nat) (l : List Int) : Prop := ∃ S, TM s n cs x (ls.take i) S ∧ l.Perm (Fl.pts S n)
theorem TG.start (s : Int) (n : Nat) (cs : List Int) (x : Int) (ls : List (List Int)) : TG s n cs x ls 0 [] := ⟨_, TM.nil s n cs x, by rw [Pa.pts_none]⟩
theorem take_ls {ls : List (List Int)} {i : Nat} (h : i < ls.length) : ls.take (i + 1) = ls.take i ++ [ls.getD i []] := by
  rw [List.take_succ_eq_append_getElem h]
  simp [List.getD_eq_getElem?_getD, List.getElem?_eq_getElem h]
theorem TG.skip {s x : Int} {n : Nat} {cs : List Int} {ls : List (List Int)} {i : Nat} {l : List Int} (h : TG s n cs x ls i l) (hi : i < ls.length) (ho : ownR s cs x (ls.getD i []) = false) : TG s n cs x ls (i + 1) l := by
  obtain ⟨S, ⟨h1, h2⟩, h3⟩ := h
  refine ⟨S, ⟨h1, fun q hq => (h2 q hq).trans ?_⟩, h3⟩
  rw [take_ls hi]
  constructor
  · rintro ⟨g, hg, a, b⟩
    exact ⟨g, List.mem_append.2 (.inl hg), a, b⟩
  · rintro ⟨g, hg, a, b⟩
    rw [List.mem_append, List.mem_singleton] at hg
    rcases hg with hg | rfl
    · exact ⟨g, hg, a, b⟩
    · rw [ho] at a; cases a
theorem apart_at {ls : List (List Int)} (hp : ls.Pairwise fun g g' => ∀ q, q ∈ g → q ∉ g') {i : Nat} (hi : i < ls.length) {g : List Int} (hg : g ∈ ls.take i) {q : Int} (hq : q ∈ g) : q ∉ ls.getD i [] := by
  have h9 : (ls.take (i + 1)).Pairwise fun g g' => ∀ q, q ∈ g → q ∉ g' := hp.sublist (List.take_sublist _ _)
  rw [take_ls hi, List.pairwise_append] at h9
  exact h9.2.2 g hg _ (List.mem_singleton_self _) q hq
theorem TG.add {s x : Int} {n : Nat} {cs : List Int} {ls : List (List Int)} {i : Nat} {l : List Int} (h : TG s n cs x ls i l) (hi : i < ls.length) (ho : ownR s cs x (ls.getD i []) = true) (hp : ls.Pairwise fun g g' => ∀ q, q ∈ g → q ∉ g') {S' : List Bool} (hg : ls.getD i [] = Fl.pts S' n) : TG s n cs x ls (i + 1) (l ++ ls.getD i []) := by
  obtain ⟨S, ⟨h1, h2⟩, h3⟩ := h
  obtain ⟨U, hU1, hU2⟩ := marks_of n fun q => S.getD q false = true ∨ S'.getD q false = true
  have hin : ∀ q, q < n → (S'.getD q false = true ↔ (q : Int) ∈ ls.getD i []) := fun q hq => by
    rw [hg, Pa.pts_mem]
    constructor
    · intro h; exact ⟨q, hq, h, rfl⟩
    · rintro ⟨j, _, hj, e⟩
      have : q = j := by omega
      rw [this]; exact hj
  refine ⟨U, ⟨hU1, fun q hq => (hU2 q hq).trans ?_⟩, ?_⟩
  · rw [take_ls hi, h2 q hq, hin q hq]
    constructor
    · rintro (⟨g, a, b, c⟩ | h)
      · exact ⟨g, List.mem_append.2 (.inl a), b, c⟩
      · exact ⟨_, List.mem_append.2 (.inr (List.mem_singleton_self _)), ho, h⟩
    · rintro ⟨g, a, b, c⟩
      rw [List.mem_append, List.mem_singleton] at a
      rcases a with a | rfl
      · exact .inl ⟨g, a, b, c⟩
      · exact .inr c
  · have := pts_union (S := S) (T := S') (U := U) n (fun q hq => by rw [Bool.eq_iff_iff, Bool.or_eq_true]; exact hU2 q hq) (fun q hq hs => by
      rcases Bool.eq_false_or_eq_true (S'.getD q false) with e | e
      · exfalso
        obtain ⟨g, a, _, c⟩ := (h2 q hq).1 hs
        exact apart_at hp hi a c ((hin q hq).1 e)
      · exact e)
    refine List.Perm.trans ?_ this.symm
    rw [hg]
    exact h3.append_right _
theorem TG.done {s x : Int} {n : Nat} {cs : List Int} {ls : List (List Int)} {l : List Int} {S : List Bool} (h : TG s n cs x ls ls.length l) (hS : TM s n cs x ls S) : (l.mergeSort fun x y => decide (x ≤ y)) = Fl.pts S n := by
  obtain ⟨T, hT, hp⟩ := h
  rw [List.take_length] at hT
  rw [hS.one hT]
  exact Pa.sort_pts hp

/-- The territory of a color, as a list; nothing for other arguments. -/
def TrIs (s : Int) (n : Nat) (cs : List Int) (x : Int) (l : List Int) : Prop := (okGs s cs x = true → ∃ ls S, GL s n cs 0 n ls ∧ TM s n cs x ls S ∧ l = Fl.pts S n) ∧ (okGs s cs x = false → l = [])
theorem TrIs.make (s : Int) (n : Nat) (cs : List Int) (x : Int) (hn : cs.length = n) : ∃ l, TrIs s n cs x l := by
  rcases Bool.eq_false_or_eq_true (okGs s cs x) with e | e
  · have e2 := e
    unfold okGs at e2
    rw [Bool.and_eq_true] at e2
    obtain ⟨q1, q2, q3, _⟩ := (Bd.okB_iff s cs).1 e2.1
    obtain ⟨ls, hls⟩ := GL.make (x := 0) (cs := cs) q1 q2 (n := n) (by omega) n (Nat.le_refl _)
    obtain ⟨S, hS⟩ := TM.make s n cs x ls
    exact ⟨_, ⟨fun _ => ⟨ls, S, hls, hS, rfl⟩, fun h => absurd (e.symm.trans h) (by decide)⟩⟩
  · exact ⟨[], ⟨fun h => absurd (e.symm.trans h) (by decide), fun _ => rfl⟩⟩
theorem TrIs.one {s : Int} {n : Nat} {cs : List Int} {x : Int} {l l' : List Int} (h : TrIs s n cs x l) (h' : TrIs s n cs x l') : l = l' := by
  rcases Bool.eq_false_or_eq_true (okGs s cs x) with e | e
  · obtain ⟨ls, S, a, b, rfl⟩ := h.1 e
    obtain ⟨ls', S', a', b', rfl⟩ := h'.1 e
    have := a.one a'
    subst this
    exact b.one b'
  · rw [h.2 e, h'.2 e]
theorem TrIs.few {s x : Int} {n : Nat} {cs : List Int} {l : List Int} (h : TrIs s n cs x l) : l.length ≤ n := by
  rcases Bool.eq_false_or_eq_true (okGs s cs x) with e | e
  · obtain ⟨ls, S, _, _, rfl⟩ := h.1 e
    exact Fl.pts_len S n
  · rw [h.2 e]; exact Nat.zero_le _
end Go.Proofs.Ytniddfoiakbfdaa

namespace Go.Proofs.Ytniddfoiakbfdaa
set_option maxRecDepth 100000
open Go.RowKit

theorem getD_memT {ds : List Int} {i : Nat} (h : i < ds.length) : ds.getD i 0 ∈ ds := by
  rw [List.getD_eq_getElem?_getD, List.getElem?_eq_getElem h]; exact List.getElem_mem _
theorem mem_getDT {ds : List Int} {d : Int} (h : d ∈ ds) : ∃ i, i < ds.length ∧ ds.getD i 0 = d := by
  obtain ⟨i, hi, rfl⟩ := List.getElem_of_mem h
  exact ⟨i, hi, by rw [List.getD_eq_getElem?_getD, List.getElem?_eq_getElem hi]; rfl⟩

set_option maxRecDepth 100000 in
set_option maxHeartbeats 4000000 in
theorem i_touches (s x : Int) (w : World) (B B' : Nat) (A P : Option Addr) (n c m pc : Nat) (cs g : List Int) (h : Ints w B A n cs) (h' : Ints w B' P m g) (hB : B ≤ w.heap.size) (hB' : B' ≤ w.heap.size) (h1 : 1 ≤ s) (h2 : s ≤ 7) (hn : (n : Int) = s * s) (hg : ∀ j, j < m → 0 ≤ g.getD j 0 ∧ g.getD j 0 < n) (hm : m ≤ 1000) :
    Calls Try.prog 70 #[.agg #[.int .i64 s, .slice A n c], .slice P m pc, .int .i64 x] w fun e w' => e = .returned (.bool (tch s cs x g)) ∧ Below w.heap.size w w' := by
  have hsq := Pt.sq_bd s h1 h2
  have hn49 : n ≤ 49 := by omega
  have hb1 : Below w.heap.size w (w.alloc (.cells #[.int .i64 s, .slice A n c] 25)) := (Below.refl _ _).alloc (Nat.le_refl _) _
  have X0 := Lib.hid (Bx.new 25 w s (.slice A n c))
  have H := Lib.hid (h.below hb1 hB)
  have HP := Lib.hid (h'.below hb1 hB')
  have Hgl := Lib.hid h'.1
  have Hb := Lib.hid hb1
  have Hg := Lib.hid hg
  have Hnn := Lib.hid (nbs_in h1 h2 hn)
  have Hn := Lib.hid hn
  clear h h' hb1 hg hn
  go_enter Try.func70, Try.ntmps70
  go_upto_region 1 with (fail)
  obtain ⟨y0, hy⟩ : ∃ y, y = w.alloc (.cells #[.int .i64 s, .slice A n c] 25) := ⟨_, rfl⟩
  have hyz : w.heap.size < y0.heap.size := by rw [hy]; simp
  rw [← hy] at X0 H HP Hb ⊢
  clear hy
  have ul := X0.out.lt
  go_wp2_with fail
  go_loopw [13] (fun i wr => ∃ k : Nat, k ≤ m ∧ i = .int .i64 (k : Nat) ∧ (∀ j, j < k → ∀ y ∈ Pt.nbs s (g.getD j 0), cs.getD y.toNat 0 ≠ x) ∧ Below y0.heap.size y0 wr) (fun i _ => m - (intOf i).toNat)
  case atStart => exact ⟨0, by omega, rfl, (fun j hj => absurd hj (Nat.not_lt_zero j)), Below.refl _ _⟩
  case round =>
    obtain ⟨wo, rfl⟩ : ∃ wo : World, wo = wr := ⟨_, rfl⟩
    obtain ⟨k, hk, rfl, hno, hbr⟩ := hrel
    have hz := hbr.size
    have Hno := Lib.hid hno
    have Hbr := Lib.hid hbr
    have X2 := Lib.hid (X0.out.below hbr ul)
    have HP2 := Lib.hid (HP.out.below hbr (by omega))
    have H2 := Lib.hid (H.out.below hbr (by omega))
    clear hno hbr
    by_cases hkm : k < m
    · obtain ⟨bp, op, rfl, hbP, hcp⟩ : ∃ bp op, P = some ⟨bp, op, none⟩ ∧ bp < B' ∧ ∀ j, j < m → wo.cell? ⟨bp, op + j, none⟩ = some (.int .i64 (g.getD j 0)) := by
        rcases HP2.out.2 with h0 | ⟨b, o, hA, hbB, hc⟩
        · omega
        · exact ⟨b, o, hA, hbB, hc⟩
      obtain ⟨p1, p2⟩ := Hg.out k hkm
      have cz := hcp k hkm
      obtain ⟨d, hd⟩ : ∃ d, g.getD k 0 = d := ⟨_, rfl⟩
      rw [hd] at cz p1 p2
      have Hd := Lib.hid hd
      clear hd hcp
      have hes : d < s * s := by have := Hn.out; omega
      obtain ⟨b, o, rfl, hbB, hc⟩ : ∃ b o, A = some ⟨b, o, none⟩ ∧ b < B ∧ ∀ j, j < n → wo.cell? ⟨b, o + j, none⟩ = some (.int .i64 (cs.getD j 0)) := by
        rcases H2.out.2 with h0 | ⟨b, o, hA, hbB, hc⟩
        · omega
        · exact ⟨b, o, hA, hbB, hc⟩
      have Hc := Lib.hid hc
      clear hc
      have v0 := X2.out.cell0
      have v1 := X2.out.cell1
      have vl := X2.out.lt
      have hkm' : (k : Int) < m := by omega
      go_wp2_with fail
      refine (i_nbs s d _ h1 h2 p1 hes).mono ?_
      rintro e9 yc ⟨A2, n2, c2, rfl, ho, hb⟩
      have hn2 : n2 ≤ 4 := by have := ho.1; have := nbs_few s d; omega
      have hzc := hb.size
      have Ho := Lib.hid ho
      have Hlo := Lib.hid ho.1
      have X2c := Lib.hid (X2.out.below hb vl)
      have Hbc := Lib.hid (Hbr.out.trans (hb.mono (by omega)))
      have Hcc : Hid (∀ j, j < n → yc.cell? ⟨b, o + j, none⟩ = some (.int .i64 (cs.getD j 0))) := Lib.hid (fun j hj => (hb.cell (p := ⟨b, o + j, none⟩) (by show b < _; omega)).trans (Hc.out j hj))
      clear ho hb v0 v1 cz
      have v0 := X2c.out.cell0
      have v1 := X2c.out.cell1
      have v2 := X2c.out.lt
      go_wp2_with fail
      go_loopw [22] (fun i wi => ∃ j q : Nat, j ≤ n2 ∧ i = .int .i64 (j : Nat) ∧ (∀ y ∈ (Pt.nbs s d).take j, cs.getD y.toNat 0 ≠ x) ∧ wi = yc.drewN q) (fun i _ => n2 - (intOf i).toNat)
      case atStart => exact ⟨0, 0, by omega, rfl, (fun y hy => by simp at hy), rfl⟩
      case round =>
        obtain ⟨j, q9, hj, rfl, hnj, rfl⟩ := hrel
        have Hnj := Lib.hid hnj
        clear hnj
        by_cases hjn : j < n2
        · obtain ⟨nb, hA2⟩ : ∃ nb, A2 = some ⟨nb, 0, none⟩ := by
            obtain ⟨g, cap, hv, _⟩ := World.ownsRow.form Ho.out.2 (by omega)
            exact ⟨g, by injection hv⟩
          have hon := Ho.out
          rw [hA2] at hon
          have hjl : j < (Pt.nbs s d).length := by rw [Hlo.out]; exact hjn
          have hcn := hon.cellD j hjn
          have hel : (Pt.nbs s d)[j] = (Pt.nbs s d).getD j 0 := by rw [List.getD_eq_getElem?_getD, List.getElem?_eq_getElem hjl]; rfl
          have hmem : (Pt.nbs s d).getD j 0 ∈ Pt.nbs s d := by rw [← hel]; exact List.getElem_mem _
          obtain ⟨q0, qn⟩ := Hnn.out d p1 p2 _ hmem
          obtain ⟨q, hq⟩ : ∃ q, (Pt.nbs s d).getD j 0 = q := ⟨_, rfl⟩
          rw [hq] at hcn q0 qn hmem hel
          obtain ⟨t, rfl⟩ := Int.eq_ofNat_of_zero_le q0
          have htn : t < n := by omega
          have Hmem := Lib.hid hmem
          have Hel := Lib.hid hel
          have ct := Hcc.out t htn
          obtain ⟨z, hz0⟩ : ∃ z, cs.getD t 0 = z := ⟨_, rfl⟩
          rw [hz0] at ct
          have Hz := Lib.hid hz0
          rw [hA2]
          have hj2 : (j : Int) < n2 := by omega
          clear hq hmem hel hA2 hon hz0
          by_cases hzx : z = x
          · have hb : (z == x) = true := by simpa using hzx
            have Hyes : Hid (tch s cs x g = true) := Lib.hid (tch_iff.2 ⟨d, by rw [← Hd.out]; exact getD_memT (by rw [Hgl.out]; exact hkm), (t : Int), Hmem.out, by rw [Int.toNat_natCast, Hz.out]; exact hzx⟩)
            have Hbf := Lib.hid (drew_below (Hb.out.trans (Hbc.out.mono (by omega))) q9)
            clear hzx
            go_wp2_with fail
            go_ret
            exact ⟨by rw [Hyes.out]; rfl, Hbf.out⟩
          · have hb : (z == x) = false := by simpa using hzx
            have Hn2 : Hid (∀ y ∈ (Pt.nbs s d).take (j + 1), cs.getD y.toNat 0 ≠ x) := Lib.hid (fun y hy => by
              rw [List.take_succ_eq_append_getElem hjl, List.mem_append, List.mem_singleton, Hel.out] at hy
              rcases hy with hy | rfl
              · exact Hnj.out y hy
              · rw [Int.toNat_natCast, Hz.out]; exact hzx)
            clear hzx
            go_wp2_with fail
            go_roundw
            case rel => exact ⟨j + 1, _, by omega, by go_num, Hn2.out, rfl⟩
            case measure => simp [intOf]; omega
        · have Hn2 : Hid (∀ j, j < k + 1 → ∀ y ∈ Pt.nbs s (g.getD j 0), cs.getD y.toNat 0 ≠ x) := Lib.hid (fun i hi => by
            by_cases e : i = k
            · subst e
              rw [Hd.out]
              have h9 := Hnj.out
              rw [List.take_of_length_le (by rw [Hlo.out]; omega)] at h9
              exact h9
            · exact Hno.out i (by omega))
          have Hbn := Lib.hid (drew_below Hbc.out q9)
          go_wp2_with fail
          go_roundw
          case rel => exact ⟨k + 1, by omega, by go_num, Hn2.out, Hbn.out⟩
          case measure => simp [intOf]; omega
    · have Hnof : Hid (tch s cs x g = false) := Lib.hid (by
        rw [Bool.eq_false_iff]
        intro h9
        obtain ⟨z, hz, y, hy, e⟩ := tch_iff.1 h9
        obtain ⟨i, hi, rfl⟩ := mem_getDT hz
        exact Hno.out i (by have := Hgl.out; omega) y hy e)
      have Hbf := Lib.hid (Hb.out.trans (Hbr.out.mono (by omega)))
      go_wp2_with fail
      go_ret
      exact ⟨by rw [Hnof.out]; rfl, Hbf.out⟩
end Go.Proofs.Ytniddfoiakbfdaa

namespace Go.Proofs.Ytniddfoiakbfdaa
set_option maxRecDepth 100000
open Go.RowKit

theorem i_emptyIs (x : Int) (w : World) : Calls Try.prog 81 #[.int .i64 x] w fun e w' => e = .returned (.bool (x == 0)) ∧ w' = w := by
  go_enter Try.func81, Try.ntmps81
  go_wp2_with fail
  go_ret
  exact ⟨rfl, rfl⟩

theorem SS.weakB {w : World} {B B' hi n c : Nat} {A : Option Addr} {xss : List (List Int)} (h : SS w B hi A n c xss) (hB : B' ≤ B) : SS w B' hi A n c xss := by
  obtain ⟨a1, a2, vs, ra, rn, rc, a3, a4, a5, a6, a7⟩ := h
  exact ⟨a1, a2, vs, ra, rn, rc, a3, ⟨a4.1, by rcases a4.2 with e | ⟨g, cap, cur, e, hg, r⟩; exact .inl e; exact .inr ⟨g, cap, cur, e, by omega, r⟩⟩, fun j hj => ⟨(a5 j hj).1, (a5 j hj).2.weaken (by omega)⟩, a6, a7⟩

/-- The lists of lists that a call hands back. -/
def Lists (w : World) (ls : List (List Int)) (e : Ending) (w' : World) : Prop := ∃ A m c, e = .returned (.slice A m c) ∧ SS w' w.heap.size w'.heap.size A m c ls ∧ Below w.heap.size w w'

set_option maxRecDepth 100000 in
set_option maxHeartbeats 4000000 in
theorem i_partsW (s : Int) (w : World) (B : Nat) (A : Option Addr) (n c : Nat) (cs : List Int) (h : Ints w B A n cs) (hB : B ≤ w.heap.size) (hv : Bd.okB s cs = true) (ls : List (List Int)) (Hls : Hid (PL s n (hasCol 0 cs) n ls)) :
    Calls Try.prog 28 #[.agg #[.int .i64 s, .slice A n c], .func (Fn.func 81) #[] #[]] w fun e w' => Lists w ls e w' := by
  obtain ⟨h1, h2, h3, _⟩ := (Bd.okB_iff s cs).1 hv
  have hsq := Pt.sq_bd s h1 h2
  have hcl := h.1
  have hn : (n : Int) = s * s := by omega
  have hn49 : n ≤ 49 := by omega
  have hb1 : Below w.heap.size w (w.alloc (.cells #[.int .i64 s, .slice A n c] 25)) := (Below.refl _ _).alloc (Nat.le_refl _) _
  have X0 := Lib.hid (Bx.new 25 w s (.slice A n c))
  have H := Lib.hid (h.below hb1 hB)
  have Hb := Lib.hid hb1
  have Hcl := Lib.hid hcl
  have Hn := Lib.hid hn
  clear h hb1 hv h3 hn hcl
  go_enter Try.func28, Try.ntmps28
  go_upto_region 1 with (fail)
  obtain ⟨y0, hy⟩ : ∃ y, y = w.alloc (.cells #[.int .i64 s, .slice A n c] 25) := ⟨_, rfl⟩
  have hyz : w.heap.size < y0.heap.size := by rw [hy]; simp
  rw [← hy] at X0 H Hb ⊢
  clear hy
  have u0 := X0.out.cell0
  have u1 := X0.out.cell1
  have ul := X0.out.lt
  go_upto_region 2 with (at_make; refine makeB rfl _ rfl _ _ n rfl rfl (by omega) ?_; intro y1 hbl hb hlt)
  have Hbl := Lib.hid hbl
  have Hb1 := Lib.hid hb
  have X1 := Lib.hid (X0.out.below hb ul)
  clear hbl hb u0 u1
  have u0 := X1.out.cell0
  have u1 := X1.out.cell1
  go_wp2_with fail
  go_loopw [15] (fun i wr => ∃ k S, k ≤ n ∧ i = .int .i64 (k : Nat) ∧ Bl wr y0.heap.size S ∧ S.length = n ∧ (∀ j, j < k → S.getD j false = (cs.getD j 0 == 0)) ∧ Below y0.heap.size y0 wr) (fun i _ => n - (intOf i).toNat)
  case atStart => exact ⟨0, _, by omega, rfl, Hbl.out, by simp, (fun j hj => absurd hj (Nat.not_lt_zero j)), Hb1.out⟩
  case round =>
    clear Hbl Hb1 X1
    obtain ⟨k, S, hk, rfl, hbl, hsl, hs, hbr⟩ := hrel
    have hz := hbr.size
    have hgl := hbl.lt
    have X0r := Lib.hid (X0.out.below hbr ul)
    have Hr := Lib.hid (H.out.below hbr (by omega))
    have Hbl := Lib.hid hbl
    have Hsl := Lib.hid hsl
    have Hs := Lib.hid hs
    have Hbr := Lib.hid hbr
    clear hbl hsl hs hbr
    have v0 := X0r.out.cell0
    have v1 := X0r.out.cell1
    have vl := X0r.out.lt
    by_cases hkn : k < n
    · obtain ⟨b, o, rfl, hbB, hc⟩ : ∃ b o, A = some ⟨b, o, none⟩ ∧ b < B ∧ ∀ j, j < n → wr.cell? ⟨b, o + j, none⟩ = some (.int .i64 (cs.getD j 0)) := by
        rcases Hr.out.2 with h0 | ⟨b, o, hA, hbB, hc⟩
        · omega
        · exact ⟨b, o, hA, hbB, hc⟩
      have ck := hc k hkn
      obtain ⟨x, hx⟩ : ∃ x, cs.getD k 0 = x := ⟨_, rfl⟩
      rw [hx] at ck
      have Hx := Lib.hid hx
      have hkI : (k : Int) < n := by omega
      obtain ⟨u, hu⟩ : ∃ u, wr.cell? ⟨y0.heap.size, k, none⟩ = some u := ⟨_, Hbl.out.cell (by rw [Hsl.out]; exact hkn)⟩
      have hf := Hbl.out.frozen k
      have Hbl2 := Lib.hid (Hbl.out.set_ k (x == 0))
      have Hs2 : Hid (∀ j, j < k + 1 → (S.set k (x == 0)).getD j false = (cs.getD j 0 == 0)) := Lib.hid (fun j hj => by
        rw [Pa.set_getD S k j _ (by rw [Hsl.out]; exact hkn)]
        by_cases e : j = k
        · subst e; rw [if_pos rfl, Hx.out]
        · rw [if_neg e]; exact Hs.out j (by omega))
      have Hb2 := Lib.hid (Hbr.out.setCell (p := ⟨y0.heap.size, k, none⟩) (Nat.le_refl _) (.bool (x == 0)))
      have Hsl2 : Hid ((S.set k (x == 0)).length = n) := Lib.hid (by rw [List.length_set]; exact Hsl.out)
      clear hc hx
      go_wp2_with fail
      refine (i_emptyIs _ _).mono ?_
      rintro e w' ⟨rfl, rfl⟩
      go_wp2_with fail
      go_roundw
      case rel => exact ⟨k + 1, _, by omega, by go_num, Hbl2.out, Hsl2.out, Hs2.out, Hb2.out⟩
      case measure => simp [intOf]; omega
    · have hkn2 : k = n := by omega
      have hSK : S = hasCol 0 cs := by
        refine List.ext_getElem (by rw [hasCol_len, Hcl.out, Hsl.out]) fun i i1 i2 => ?_
        have h9 := Hs.out i (by have := Hsl.out; omega)
        rw [← hasCol_at (by have := Hsl.out; have := Hcl.out; omega), List.getD_eq_getElem?_getD, List.getD_eq_getElem?_getD, List.getElem?_eq_getElem i1, List.getElem?_eq_getElem i2] at h9
        simpa using h9
      have Hbl2 : Hid (Bl wr y0.heap.size (hasCol 0 cs)) := Lib.hid (by rw [← hSK]; exact Hbl.out)
      have Hkl : Hid ((hasCol 0 cs).length = n) := Lib.hid (by rw [hasCol_len]; exact Hcl.out)
      have Hbw := Lib.hid (Hb.out.trans (Hbr.out.mono (by omega)))
      clear hkn2 hSK
      go_wp2_with fail
      refine (i_connectedParts s _ y0.heap.size n (hasCol 0 cs) h1 h2 Hn.out Hkl.out Hbl2.out).mono ?_
      rintro e w' ⟨A1, m1, c1, l1, rfl, hss, hpl, hg⟩
      obtain rfl := Hls.out.one hpl
      have Hss := Lib.hid (hss.weakB (B' := w.heap.size) (by omega))
      have Hf := Lib.hid (Hbw.out.grown hg (by omega) (fun q e => by injection e; omega))
      clear hss hpl hg
      go_wp2_with fail
      go_ret
      exact ⟨_, _, _, rfl, Hss.out, Hf.out⟩

/-- The empty regions of a board: nothing where it is not valid. -/
def ErIs (s : Int) (n : Nat) (cs : List Int) (ls : List (List Int)) : Prop := (Bd.okB s cs = true → GL s n cs 0 n ls) ∧ (Bd.okB s cs = false → ls = [])
theorem ErIs.make (s : Int) (n : Nat) (cs : List Int) (hn : cs.length = n) : ∃ ls, ErIs s n cs ls := by
  rcases Bool.eq_false_or_eq_true (Bd.okB s cs) with e | e
  · obtain ⟨q1, q2, q3, _⟩ := (Bd.okB_iff s cs).1 e
    obtain ⟨l, hl⟩ := GL.make (x := 0) (cs := cs) q1 q2 (n := n) (by omega) n (Nat.le_refl _)
    exact ⟨l, ⟨fun _ => hl, fun h => absurd (e.symm.trans h) (by decide)⟩⟩
  · exact ⟨[], ⟨fun h => absurd (e.symm.trans h) (by decide), fun _ => rfl⟩⟩
theorem ErIs.small {s : Int} {n : Nat} {cs : List Int} {ls : List (List Int)} (h : ErIs s n cs ls) (hn : cs.length = n) : ls.length ≤ 49 ∧ ∀ j, (ls.getD j []).length ≤ 49 := by
  have key : ls.length ≤ 49 ∧ ∀ g ∈ ls, g.length ≤ 49 := by
    rcases Bool.eq_false_or_eq_true (Bd.okB s cs) with e | e
    · obtain ⟨q1, q2, q3, _⟩ := (Bd.okB_iff s cs).1 e
      have := Pt.sq_bd s q1 q2
      obtain ⟨a, b⟩ := (h.1 e).small
      exact ⟨by omega, fun g hg => by have := b g hg; omega⟩
    · rw [h.2 e]; exact ⟨by simp, fun g hg => by cases hg⟩
  refine ⟨key.1, fun j => ?_⟩
  by_cases hj : j < ls.length
  · rw [List.getD_eq_getElem?_getD, List.getElem?_eq_getElem hj]
    exact key.2 _ (List.getElem_mem _)
  · rw [List.getD_eq_getElem?_getD, List.getElem?_eq_none (by omega)]
    exact Nat.zero_le _

set_option maxHeartbeats 4000000 in
theorem i_Er (s : Int) (w : World) (B : Nat) (A : Option Addr) (n c : Nat) (cs : List Int) (h : Ints w B A n cs) (hB : B ≤ w.heap.size) (hn : n ≤ 1000000000) (ls : List (List Int)) (Hls : Hid (ErIs s n cs ls)) :
    Calls Try.prog 69 #[.agg #[.int .i64 s, .slice A n c]] w fun e w' => Lists w ls e w' := by
  have hb1 : Below w.heap.size w (w.alloc (.cells #[.int .i64 s, .slice A n c] 25)) := (Below.refl _ _).alloc (Nat.le_refl _) _
  have hl := h.1
  have X0 := Lib.hid (Bx.new 25 w s (.slice A n c))
  have H := Lib.hid (h.below hb1 hB)
  have Hb := Lib.hid hb1
  have Hcl := Lib.hid hl
  clear h hb1 hl
  rcases Bool.eq_false_or_eq_true (Bd.okB s cs) with hv | hv
  · have Hv := Lib.hid hv
    have Hpl : Hid (PL s n (hasCol 0 cs) n ls) := Lib.hid (PL.ofGL Hcl.out (Nat.le_refl _) (Hls.out.1 hv))
    go_enter Try.func69, Try.ntmps69
    go_wp2_with fail
    refine (i_validBoard _ _ _ _ _ _ _ H.out (by simp; omega) (by omega)).mono ?_
    rintro e y ⟨rfl, hb⟩
    rw [hv]
    clear hv
    have X0 := Lib.hid (X0.out.below hb X0.out.lt)
    have H := Lib.hid (H.out.below hb (by simp; omega))
    have Hb := Lib.hid (Hb.out.trans (hb.mono (by simp)))
    have hz := X0.out.lt
    clear hb
    have u0 := X0.out.cell0
    have u1 := X0.out.cell1
    go_wp2_with fail
    refine (i_partsW s _ B A n c cs H.out (by omega) Hv.out ls Hpl).mono ?_
    rintro e y2 ⟨A1, m1, c1, rfl, hss, hb⟩
    have Hss := Lib.hid (hss.weakB (B' := w.heap.size) (by omega))
    have Hf := Lib.hid (Hb.out.trans (hb.mono (by omega)))
    clear hss hb
    go_wp2_with fail
    go_ret
    exact ⟨_, _, _, rfl, Hss.out, Hf.out⟩
  · have Hnil := Lib.hid (Hls.out.2 hv)
    go_enter Try.func69, Try.ntmps69
    go_wp2_with fail
    refine (i_validBoard _ _ _ _ _ _ _ H.out (by simp; omega) (by omega)).mono ?_
    rintro e y ⟨rfl, hb⟩
    rw [hv]
    clear hv
    have Hb := Lib.hid (Hb.out.trans (hb.mono (by simp)))
    clear hb
    go_wp2_with fail
    go_ret
    exact ⟨_, _, _, rfl, by rw [Hnil.out]; exact SS.nil _ _ _, Hb.out⟩

end Go.Proofs.Ytniddfoiakbfdaa

namespace Go.Proofs.Ytniddfoiakbfdaa
set_option maxRecDepth 100000
open Go.RowKit

theorem i_isOther (x z : Int) (w : World) (gc : Nat) (hc : w.cell? ⟨gc, 0, none⟩ = some (.int .i64 x)) : Calls Try.prog 29 #[.int .i64 z, .pointer (some ⟨gc, 0, none⟩)] w fun e w' => e = .returned (.bool (!(z == x))) ∧ w' = w := by
  go_enter Try.func29, Try.ntmps29
  go_wp2_with fail
  go_ret
  exact ⟨rfl, rfl⟩

set_option maxRecDepth 100000 in
set_option maxHeartbeats 4000000 in
theorem i_partsR (s x : Int) (w : World) (gc : Nat) (hgc : gc < w.heap.size) (hcc : w.cell? ⟨gc, 0, none⟩ = some (.int .i64 x)) (B : Nat) (A : Option Addr) (n c : Nat) (cs : List Int) (h : Ints w B A n cs) (hB : B ≤ w.heap.size) (hv : Bd.okB s cs = true) (ls : List (List Int)) (Hls : Hid (PL s n (notCol x cs) n ls)) :
    Calls Try.prog 28 #[.agg #[.int .i64 s, .slice A n c], .func (Fn.func 29) #[] #[.pointer (some ⟨gc, 0, none⟩)]] w fun e w' => Lists w ls e w' := by
  obtain ⟨h1, h2, h3, _⟩ := (Bd.okB_iff s cs).1 hv
  have hsq := Pt.sq_bd s h1 h2
  have hcl := h.1
  have hn : (n : Int) = s * s := by omega
  have hn49 : n ≤ 49 := by omega
  have hb1 : Below w.heap.size w (w.alloc (.cells #[.int .i64 s, .slice A n c] 25)) := (Below.refl _ _).alloc (Nat.le_refl _) _
  have X0 := Lib.hid (Bx.new 25 w s (.slice A n c))
  have H := Lib.hid (h.below hb1 hB)
  have Hb := Lib.hid hb1
  have Hcc := Lib.hid ((hb1.cell (p := ⟨gc, 0, none⟩) hgc).trans hcc)
  have Hcl := Lib.hid hcl
  have Hn := Lib.hid hn
  clear h hb1 hv h3 hn hcl hcc
  go_enter Try.func28, Try.ntmps28
  go_upto_region 1 with (fail)
  obtain ⟨y0, hy⟩ : ∃ y, y = w.alloc (.cells #[.int .i64 s, .slice A n c] 25) := ⟨_, rfl⟩
  have hyz : w.heap.size < y0.heap.size := by rw [hy]; simp
  rw [← hy] at X0 H Hb Hcc ⊢
  clear hy
  have u0 := X0.out.cell0
  have u1 := X0.out.cell1
  have ul := X0.out.lt
  go_upto_region 2 with (at_make; refine makeB rfl _ rfl _ _ n rfl rfl (by omega) ?_; intro y1 hbl hb hlt)
  have Hbl := Lib.hid hbl
  have Hb1 := Lib.hid hb
  have X1 := Lib.hid (X0.out.below hb ul)
  clear hbl hb u0 u1
  have u0 := X1.out.cell0
  have u1 := X1.out.cell1
  go_wp2_with fail
  go_loopw [15] (fun i wr => ∃ k S, k ≤ n ∧ i = .int .i64 (k : Nat) ∧ Bl wr y0.heap.size S ∧ S.length = n ∧ (∀ j, j < k → S.getD j false = (!(cs.getD j 0 == x))) ∧ Below y0.heap.size y0 wr) (fun i _ => n - (intOf i).toNat)
  case atStart => exact ⟨0, _, by omega, rfl, Hbl.out, by simp, (fun j hj => absurd hj (Nat.not_lt_zero j)), Hb1.out⟩
  case round =>
    clear Hbl Hb1 X1
    obtain ⟨k, S, hk, rfl, hbl, hsl, hs, hbr⟩ := hrel
    have hz := hbr.size
    have hgl := hbl.lt
    have X0r := Lib.hid (X0.out.below hbr ul)
    have Hr := Lib.hid (H.out.below hbr (by omega))
    have Hbl := Lib.hid hbl
    have Hsl := Lib.hid hsl
    have Hs := Lib.hid hs
    have Hbr := Lib.hid hbr
    have cgc := (hbr.cell (p := ⟨gc, 0, none⟩) (by show gc < _; omega)).trans Hcc.out
    clear hbl hsl hs hbr
    have v0 := X0r.out.cell0
    have v1 := X0r.out.cell1
    have vl := X0r.out.lt
    by_cases hkn : k < n
    · obtain ⟨b, o, rfl, hbB, hc⟩ : ∃ b o, A = some ⟨b, o, none⟩ ∧ b < B ∧ ∀ j, j < n → wr.cell? ⟨b, o + j, none⟩ = some (.int .i64 (cs.getD j 0)) := by
        rcases Hr.out.2 with h0 | ⟨b, o, hA, hbB, hc⟩
        · omega
        · exact ⟨b, o, hA, hbB, hc⟩
      have ck := hc k hkn
      obtain ⟨z, hx⟩ : ∃ z, cs.getD k 0 = z := ⟨_, rfl⟩
      rw [hx] at ck
      have Hx := Lib.hid hx
      have hkI : (k : Int) < n := by omega
      obtain ⟨u, hu⟩ : ∃ u, wr.cell? ⟨y0.heap.size, k, none⟩ = some u := ⟨_, Hbl.out.cell (by rw [Hsl.out]; exact hkn)⟩
      have hf := Hbl.out.frozen k
      have Hbl2 := Lib.hid (Hbl.out.set_ k (!(z == x)))
      have Hs2 : Hid (∀ j, j < k + 1 → (S.set k (!(z == x))).getD j false = (!(cs.getD j 0 == x))) := Lib.hid (fun j hj => by
        rw [Pa.set_getD S k j _ (by rw [Hsl.out]; exact hkn)]
        by_cases e : j = k
        · subst e; rw [if_pos rfl, Hx.out]
        · rw [if_neg e]; exact Hs.out j (by omega))
      have Hb2 := Lib.hid (Hbr.out.setCell (p := ⟨y0.heap.size, k, none⟩) (Nat.le_refl _) (.bool (!(z == x))))
      have Hsl2 : Hid ((S.set k (!(z == x))).length = n) := Lib.hid (by rw [List.length_set]; exact Hsl.out)
      clear hc hx
      go_wp2_with fail
      refine (i_isOther x z _ gc cgc).mono ?_
      rintro e w' ⟨rfl, rfl⟩
      go_wp2_with fail
      go_roundw
      case rel => exact ⟨k + 1, _, by omega, by go_num, Hbl2.out, Hsl2.out, Hs2.out, Hb2.out⟩
      case measure => simp [intOf]; omega
    · have hkn2 : k = n := by omega
      have hSK : S = notCol x cs := by
        refine List.ext_getElem (by rw [notCol_len, Hcl.out, Hsl.out]) fun i i1 i2 => ?_
        have h9 := Hs.out i (by have := Hsl.out; omega)
        rw [← notCol_at (by have := Hsl.out; have := Hcl.out; omega), List.getD_eq_getElem?_getD, List.getD_eq_getElem?_getD, List.getElem?_eq_getElem i1, List.getElem?_eq_getElem i2] at h9
        simpa using h9
      have Hbl2 : Hid (Bl wr y0.heap.size (notCol x cs)) := Lib.hid (by rw [← hSK]; exact Hbl.out)
      have Hkl : Hid ((notCol x cs).length = n) := Lib.hid (by rw [notCol_len]; exact Hcl.out)
      have Hbw := Lib.hid (Hb.out.trans (Hbr.out.mono (by omega)))
      clear hkn2 hSK
      go_wp2_with fail
      refine (i_connectedParts s _ y0.heap.size n (notCol x cs) h1 h2 Hn.out Hkl.out Hbl2.out).mono ?_
      rintro e w' ⟨A1, m1, c1, l1, rfl, hss, hpl, hg⟩
      obtain rfl := Hls.out.one hpl
      have Hss := Lib.hid (hss.weakB (B' := w.heap.size) (by omega))
      have Hf := Lib.hid (Hbw.out.grown hg (by omega) (fun q e => by injection e; omega))
      clear hss hpl hg
      go_wp2_with fail
      go_ret
      exact ⟨_, _, _, rfl, Hss.out, Hf.out⟩


theorem i_stoneR (x : Int) (w : World) : Calls Try.prog 27 #[.int .i64 x] w fun e w' => e = .returned (.bool (decide (1 ≤ x) && decide (x ≤ 2))) ∧ w = w' := by
  refine (i_isStone x w).mono ?_
  rintro e w' ⟨rfl, rfl⟩
  have : (x == 1 || x == 2) = (decide (1 ≤ x) && decide (x ≤ 2)) := by
    rw [Bool.eq_iff_iff]
    simp
    omega
  exact ⟨by rw [this], rfl⟩

set_option maxRecDepth 100000 in
set_option maxHeartbeats 4000000 in
theorem i_Rg (s x : Int) (w : World) (B : Nat) (A : Option Addr) (n c : Nat) (cs : List Int) (h : Ints w B A n cs) (hB : B ≤ w.heap.size) (hn : n ≤ 1000000000) (ls : List (List Int)) (Hls : Hid (RgIs s n cs x ls)) :
    Calls Try.prog 10 #[.agg #[.int .i64 s, .slice A n c], .int .i64 x] w fun e w' => Lists w ls e w' := by
  obtain ⟨w1, hw1, hb1, z1, z1'⟩ := new_box w (.cells #[.int .i64 s, .slice A n c] 25)
  obtain ⟨w2, hw2, hb2, z2, z2'⟩ := new_box w1 (.cells #[.int .i64 x] 3)
  have s1 : w1.heap.size = w.heap.size + 1 := by omega
  have v1 : Bx 25 w1 w.heap.size s (.slice A n c) := by rw [hw1]; exact Bx.new _ _ _ _
  have X0 := Lib.hid (v1.below hb2 (by omega))
  have c2 : w2.cell? ⟨w.heap.size + 1, 0, none⟩ = some (.int .i64 x) := by
    rw [hw2, ← s1]
    exact World.cell?_alloc_at _ _ _ _ rfl
  have bb := hb1.trans (hb2.mono (by omega))
  have H := Lib.hid (h.below bb hB)
  have Hb := Lib.hid bb
  have Hcl := Lib.hid h.1
  have hw : w2 = (w.alloc (.cells #[.int .i64 s, .slice A n c] 25)).alloc (.cells #[.int .i64 x] 3) := by rw [hw2, hw1]
  have C2 := Lib.hid c2
  clear h hb1 hb2 v1 bb hw1 hw2 c2
  rcases Bool.eq_false_or_eq_true (Bd.okB s cs) with hv | hv
  · have Hv := Lib.hid hv
    have hn49 : n ≤ 49 := by
      obtain ⟨q1, q2, q3, _⟩ := (Bd.okB_iff s cs).1 hv
      have := Pt.sq_bd s q1 q2
      have := Hcl.out
      omega
    rcases Bool.eq_false_or_eq_true (decide (1 ≤ x) && decide (x ≤ 2)) with hx | hx
    · have Hpl := Lib.hid (Hls.out.1 (by unfold okGs; rw [hv, hx]; rfl))
      go_enter Try.func10, Try.ntmps10
      go_upto_region 1 with (fail)
      rw [← hw]
      clear hw
      have u0 := X0.out.cell0
      have u1 := X0.out.cell1
      go_wp2_with fail
      refine (i_validBoard _ _ _ _ _ _ _ H.out (by omega) (by omega)).mono ?_
      rintro e y ⟨rfl, hb⟩
      rw [hv]
      clear hv
      have X2 := Lib.hid (X0.out.below hb (by omega))
      have H2 := Lib.hid (H.out.below hb (by omega))
      have Hb2 := Lib.hid (Hb.out.trans (hb.mono (by omega)))
      have c2 := (hb.cell (p := ⟨w.heap.size + 1, 0, none⟩) (by show w.heap.size + 1 < _; omega)).trans C2.out
      have hz := hb.size
      clear hb u0 u1 X0 H Hb C2
      have u0 := X2.out.cell0
      have u1 := X2.out.cell1
      go_wp2_with fail
      refine (i_stoneR _ _).mono ?_
      rintro e w' ⟨rfl, rfl⟩
      rw [hx]
      clear hx
      go_wp2_with fail
      refine (i_partsR s x _ (w.heap.size + 1) (by omega) c2 B A n c cs H2.out (by omega) Hv.out ls Hpl).mono ?_
      rintro e y2 ⟨A1, m1, c1, rfl, hss, hb⟩
      have Hss := Lib.hid (hss.weakB (B' := w.heap.size) (by omega))
      have Hf := Lib.hid (Hb2.out.trans (hb.mono (by omega)))
      clear hss hb
      go_wp2_with fail
      go_ret
      exact ⟨_, _, _, rfl, Hss.out, Hf.out⟩
    · have Hnil := Lib.hid (Hls.out.2 (by unfold okGs; rw [hx, Bool.and_false]))
      go_enter Try.func10, Try.ntmps10
      go_upto_region 1 with (fail)
      rw [← hw]
      clear hw
      have u0 := X0.out.cell0
      have u1 := X0.out.cell1
      go_wp2_with fail
      refine (i_validBoard _ _ _ _ _ _ _ H.out (by omega) (by omega)).mono ?_
      rintro e y ⟨rfl, hb⟩
      rw [hv]
      clear hv
      have Hb2 := Lib.hid (Hb.out.trans (hb.mono (by omega)))
      have c2 := (hb.cell (p := ⟨w.heap.size + 1, 0, none⟩) (by show w.heap.size + 1 < _; omega)).trans C2.out
      clear hb u0 u1 X0 H Hb C2
      go_wp2_with fail
      refine (i_stoneR _ _).mono ?_
      rintro e w' ⟨rfl, rfl⟩
      rw [hx]
      clear hx
      go_wp2_with fail
      go_ret
      exact ⟨_, _, _, rfl, by rw [Hnil.out]; exact SS.nil _ _ _, Hb2.out⟩
  · have Hnil := Lib.hid (Hls.out.2 (by unfold okGs; rw [hv, Bool.false_and]))
    have hnb : n ≤ 1000000000 := hn
    go_enter Try.func10, Try.ntmps10
    go_upto_region 1 with (fail)
    rw [← hw]
    clear hw
    have u0 := X0.out.cell0
    have u1 := X0.out.cell1
    go_wp2_with fail
    refine (i_validBoard _ _ _ _ _ _ _ H.out (by omega) (by omega)).mono ?_
    rintro e y ⟨rfl, hb⟩
    rw [hv]
    clear hv
    have Hb2 := Lib.hid (Hb.out.trans (hb.mono (by omega)))
    clear hb u0 u1 X0 H Hb C2
    go_wp2_with fail
    go_ret
    exact ⟨_, _, _, rfl, by rw [Hnil.out]; exact SS.nil _ _ _, Hb2.out⟩
end Go.Proofs.Ytniddfoiakbfdaa

namespace Go.Proofs.Ytniddfoiakbfdaa
set_option maxRecDepth 100000
open Go.RowKit

theorem OwnB.stored {w : World} {B n c g : Nat} {bs : List Bool} (h : OwnB w B (some ⟨g, 0, none⟩) n c bs) (j : Nat) (x : Bool) :
    OwnB (w.setCell ⟨g, j, none⟩ (.bool x)) B (some ⟨g, 0, none⟩) n c (bs.set j x) ∧ w.grownBy (w.setCell ⟨g, j, none⟩ (.bool x)) (some g) := by
  have := World.ownsRow.stored h.2 j (.bool x)
  exact ⟨⟨by rw [List.length_set]; exact h.1, by rw [List.map_set]; exact this.1⟩, this.2⟩

theorem OwnB.kept {w w' : World} {B n c g : Nat} {bs : List Bool} (h : OwnB w B (some ⟨g, 0, none⟩) n c bs) {row : Option Nat} (hg : w.grownBy w' row) (hne : row ≠ some g) : OwnB w' B (some ⟨g, 0, none⟩) n c bs :=
  ⟨h.1, h.2.kept hg (.inr fun e => hne e.symm)⟩
theorem SS.block {w : World} {B hi n c g : Nat} {A : Option Addr} {xss : List (List Int)} (h : SS w B hi A n c xss) (hg : (Value.slice A n c).ownBlock = some g) : B ≤ g ∧ ∃ cur, w.heap[g]? = some (.cells cur 23 (0, 0)) := by
  obtain ⟨_, _, vs, ra, rn, rc, _, a4, _⟩ := h
  rcases a4.2 with ⟨e, _⟩ | ⟨g', cap, cur, e, hB, hh, _⟩
  · rw [e] at hg; cases hg
  · rw [e] at hg
    have : g' = g := by simpa [Value.ownBlock] using hg
    subst this
    exact ⟨hB, cur, hh⟩
theorem SS.apartB {w : World} {B B' hi n c n' c' g : Nat} {A : Option Addr} {xss : List (List Int)} {bs : List Bool} (h : SS w B hi A n c xss) (h' : OwnB w B' (some ⟨g, 0, none⟩) n' c' bs) : (Value.slice A n c).ownBlock ≠ some g := by
  intro e
  obtain ⟨_, cur, hh⟩ := h.block e
  rcases h'.2.2 with ⟨e2, _⟩ | ⟨g', cap, cur', e2, _, hh', _⟩
  · cases e2
  · injection e2 with e2
    injection e2 with e2
    injection e2 with e2
    subst e2
    rw [hh] at hh'
    injection hh' with hh'
    injection hh' with _ h9
    exact absurd h9 (by decide)

set_option maxRecDepth 100000 in
set_option maxHeartbeats 8000000 in
theorem s_regionsOf (s x : Int) (w : World) (B : Nat) (A : Option Addr) (n c : Nat) (cs : List Int) (h : Ints w B A n cs) (hB : B ≤ w.heap.size) (h1 : 1 ≤ s) (h2 : s ≤ 7) (hn : (n : Int) = s * s) (ls : List (List Int)) (Hls : Hid (PL s n (notCol x cs) n ls)) :
    Calls Try.prog 33 #[.agg #[.int .i64 s, .slice A n c], .int .i64 x] w fun e w' => ∃ A' m' c', e = .returned (.slice A' m' c') ∧ SS w' w.heap.size w'.heap.size A' m' c' ls ∧ Below w.heap.size w w' := by
  have hsq := Pt.sq_bd s h1 h2
  have hn49 : n ≤ 49 := by omega
  have hn1 : 0 < n := by omega
  have hb1 : Below w.heap.size w (w.alloc (.cells #[.int .i64 s, .slice A n c] 25)) := (Below.refl _ _).alloc (Nat.le_refl _) _
  have X0 := Lib.hid (Bx.new 25 w s (.slice A n c))
  have H := Lib.hid (h.below hb1 hB)
  have Hb := Lib.hid hb1
  have Hn := Lib.hid hn
  have Hcl := Lib.hid h.1
  clear h hb1 hn
  go_enter Try.func33, Try.ntmps33
  go_upto_region 1 with (fail)
  obtain ⟨y0, hy⟩ : ∃ y, y = w.alloc (.cells #[.int .i64 s, .slice A n c] 25) := ⟨_, rfl⟩
  have hyz : w.heap.size < y0.heap.size := by rw [hy]; simp
  rw [← hy] at X0 H Hb ⊢
  clear hy
  have ul := X0.out.lt
  go_upto_region 2 with (fail)
  obtain ⟨y1, hy1, hb01, z1, z1'⟩ := new_box y0 (.cells #[] 23)
  have Hss0 : Hid (SS y1 y0.heap.size (y0.heap.size + 1) (some ⟨y0.heap.size, 0, none⟩) 0 0 []) := Lib.hid (by rw [hy1]; exact SS.bare y0 y0.heap.size (Nat.le_refl _))
  have X1 := Lib.hid (X0.out.below hb01 ul)
  have H1 := Lib.hid (H.out.below hb01 (by omega))
  have Hb1 := Lib.hid (Hb.out.trans (hb01.mono (by omega)))
  rw [← hy1]
  clear hy1 hb01
  have u0 := X1.out.cell0
  have u1 := X1.out.cell1
  go_wp2_with fail
  refine (s_ofColor s x _ B A n c cs H1.out (by omega) (by omega)).mono ?_
  rintro e y2 ⟨Af, cf, rfl, hof, hb⟩
  obtain ⟨gf, hAf, hgf1, hgf2, _⟩ := hof.read hn1
  subst hAf
  have Hof := Lib.hid hof
  have X2 := Lib.hid (X1.out.below hb (by omega))
  have H2 := Lib.hid (H1.out.below hb (by omega))
  have Hb2 := Lib.hid (Hb1.out.trans (hb.mono (by omega)))
  have Hss2 := Lib.hid (Hss0.out.under hb (by omega))
  have z2 := hb.size
  clear hof hb u0 u1
  have Hr0 := Lib.hid (World.grownBy.refl y2 (some gf))
  have Hst0 : Hid (∀ j, j < n → (hasCol x cs).getD j false = if j < 0 then !(cs.getD j 0 == x) else (cs.getD j 0 == x)) := Lib.hid (fun j hj => by rw [if_neg (Nat.not_lt_zero j)]; exact hasCol_at (by rw [Hcl.out]; exact hj))
  go_wp2_with fail
  go_loopw [7] (fun i wr => ∃ (k : Nat) (S : List Bool), k ≤ n ∧ i = .int .i64 (k : Nat) ∧ OwnB wr y1.heap.size (some ⟨gf, 0, none⟩) n cf S ∧ (∀ j, j < n → S.getD j false = if j < k then !(cs.getD j 0 == x) else (cs.getD j 0 == x)) ∧ y2.grownBy wr (some gf)) (fun i _ => n - (intOf i).toNat)
  case atStart => exact ⟨0, _, by omega, rfl, Hof.out, Hst0.out, Hr0.out⟩
  case round =>
    clear Hof Hr0 Hst0
    obtain ⟨wo, rfl⟩ : ∃ wo : World, wo = wr := ⟨_, rfl⟩
    obtain ⟨k, S, hk, rfl, hof, hs, hg⟩ := hrel
    have Hof := Lib.hid hof
    have Hs := Lib.hid hs
    have Hg := Lib.hid hg
    have hz := hg.size
    clear hof hs hg
    by_cases hkn : k < n
    · have hkI : (k : Int) < n := by omega
      obtain ⟨_, hA, _, _, hcell⟩ := Hof.out.read hn1
      injection hA with hA
      injection hA with hA
      subst hA
      have ck := hcell k hkn
      rw [Nat.zero_add] at ck
      have hf := World.ownsRow.frozenAt Hof.out.2 k
      obtain ⟨bv, hbv⟩ : ∃ bv, S.getD k false = bv := ⟨_, rfl⟩
      rw [hbv] at ck
      have Hbv : Hid ((!bv) = !(cs.getD k 0 == x)) := Lib.hid (by have h9 := Hs.out k hkn; rw [if_neg (Nat.lt_irrefl k), hbv] at h9; rw [h9])
      have Hsv := Lib.hid (Hof.out.stored k (!bv))
      have Hs2 : Hid (∀ j, j < n → (S.set k (!bv)).getD j false = if j < k + 1 then !(cs.getD j 0 == x) else (cs.getD j 0 == x)) := Lib.hid (fun j hj => by
        rw [Pa.set_getD S k j _ (by rw [Hof.out.1]; exact hkn)]
        by_cases e : j = k
        · subst e; rw [if_pos rfl, if_pos (by omega)]; exact Hbv.out
        · rw [if_neg e, Hs.out j hj]
          by_cases e2 : j < k
          · rw [if_pos e2, if_pos (by omega)]
          · rw [if_neg e2, if_neg (by omega)])
      clear hcell hbv
      go_wp2_with fail
      go_roundw
      case rel => exact ⟨k + 1, _, by omega, by go_num, Hsv.out.1, Hs2.out, gtrans Hg.out Hsv.out.2⟩
      case measure => simp [intOf]; omega
    · have hkn2 : k = n := by omega
      have hSK : S = notCol x cs := by
        refine List.ext_getElem (by rw [notCol_len, Hcl.out, Hof.out.1]) fun i i1 i2 => ?_
        have hin : i < n := by have := Hof.out.1; omega
        have h9 := Hs.out i hin
        rw [if_pos (by omega), ← notCol_at (by rw [Hcl.out]; exact hin), List.getD_eq_getElem?_getD, List.getD_eq_getElem?_getD, List.getElem?_eq_getElem i1, List.getElem?_eq_getElem i2] at h9
        simpa using h9
      subst hSK
      have X3 := Lib.hid (X2.out.grown Hg.out (fun e => by injection e; omega))
      have Hss3 := Lib.hid (Hss2.out.kept Hg.out (fun g e => by injection e with e; subst e; exact .inr (by omega)))
      have Hb3 := Lib.hid (Hb2.out.grown Hg.out (by omega) (fun g e => by injection e; omega))
      have Hof3 := Lib.hid Hof.out
      have ul3 := X3.out.lt
      clear hkn2
      go_wp2_with fail
      go_loopw [5, 8] (fun v i wr => ∃ (k m c' : Nat) (A' : Option Addr) (l0 : List (List Int)), k ≤ n ∧ i = .int .i64 (k : Nat) ∧ v = .slice A' m c' ∧ SS wr y0.heap.size wr.heap.size A' m c' l0 ∧ PL s n (notCol x cs) k l0 ∧ OwnB wr y1.heap.size (some ⟨gf, 0, none⟩) n cf (notCol x cs) ∧ Bx 25 wr w.heap.size s (.slice A n c) ∧ Below w.heap.size w wr) (fun _ i _ => n - (intOf i).toNat)
      case atStart => exact ⟨0, 0, 0, _, [], by omega, rfl, rfl, Hss3.out.top, rfl, Hof3.out, X3.out, Hb3.out⟩
      case round =>
        clear Hss3 Hof3 X3 Hb3 ul3
        obtain ⟨wp, rfl⟩ : ∃ wp : World, wp = wr := ⟨_, rfl⟩
        obtain ⟨k, m, c', A', l0, hk, rfl, rfl, hss, hpl, hof, hx, hbr⟩ := hrel
        have hz3 := hbr.size
        have hm := hss.len
        have hm2 := hpl.small
        have hm3 : m ≤ 49 := by omega
        have X4 := Lib.hid hx
        have Hof := Lib.hid hof
        have Hss := Lib.hid hss
        have Hpl := Lib.hid hpl
        have Hbr := Lib.hid hbr
        have v0 := X4.out.cell0
        have vl := X4.out.lt
        clear hss hpl hbr hm hm2 hx hof
        by_cases hkn : k < n
        · have hkI : (k : Int) < n := by omega
          obtain ⟨gf', hAf, _, hgf9, hkf⟩ := Hof.out.read hn1
          injection hAf with hAf
          injection hAf with hAf
          subst hAf
          have Hkf2 := Lib.hid hkf
          have ck := hkf k hkn
          rw [Nat.zero_add] at ck
          clear hkf
          rcases Bool.eq_false_or_eq_true ((notCol x cs).getD k false) with hv | hv
          · have Hv := Lib.hid hv
            rw [hv] at ck
            clear hv
            go_wp2_with fail
            refine (s_flood s k _ gf 0 n cf (notCol x cs) h1 h2 Hn.out (by omega) hkI (by rw [notCol_len, Hcl.out]) (by omega) Hkf2.out).mono ?_
            rintro e yl ⟨A5, m5, c5, S5, rfl, hol, hsl, hall, hbl⟩
            have Hrl : Hid (Reached s n (notCol x cs) (k : Int) (Fl.pts S5 n)) := Lib.hid ⟨S5, hsl, hall, rfl⟩
            obtain ⟨f1, f2⟩ := Hrl.out.starts hkn Hv.out
            have hm5 := hol.1
            have hzl := hbl.size
            have Hssl := Lib.hid (Hss.out.below hbl)
            have Hofl := Lib.hid (Hof.out.kept (gbelow none hbl (Nat.le_refl _)) (by simp))
            have Xl := Lib.hid (X4.out.below hbl vl)
            have Hbl := Lib.hid (Hbr.out.trans (hbl.mono (by omega)))
            obtain ⟨gb, hA5⟩ : ∃ gb, A5 = some ⟨gb, 0, none⟩ := by
              obtain ⟨q, cap, hv, _⟩ := World.ownsRow.form hol.2 (by omega)
              exact ⟨q, by injection hv⟩
            rw [hA5] at hol ⊢
            have c0 := hol.cellD 0 (by omega)
            obtain ⟨z, hz0⟩ : ∃ z, (Fl.pts S5 n).getD 0 0 = z := ⟨_, rfl⟩
            rw [hz0] at c0 f2
            have Hol := Lib.hid hol
            have Hf2 := Lib.hid f2
            have hm5p : (0 : Int) < m5 := by omega
            clear hol hbl v0 ck hz0 f2 f1 hA5 hsl hall hm5
            by_cases hzk : z = (k : Int)
            · have Hgf := Lib.hid (Hf2.out.1 hzk)
              subst hzk
              go_wp2_with (at_builtin; refine app1S rfl _ _ rfl _ _ _ _ _ _ _ _ _ _ _ _ rfl rfl rfl Hssl.out Hol.out (by omega) (by omega) (by omega) ?_; intro A6 c6 w6 hss6 hlt6 hb6 hg6)
              have Hss6 := Lib.hid hss6
              have Hof6 := Lib.hid (Hofl.out.kept hg6 (Hssl.out.apartB Hofl.out))
              have X6 := Lib.hid (Xl.out.grown hg6 (fun e => by have := (Hssl.out.block e.symm).1; omega))
              have Hb6 := Lib.hid (Hbl.out.grown hg6 (by omega) (fun q e => by have := (Hssl.out.block e).1; omega))
              clear hss6 hb6 hg6
              go_roundw
              case rel => exact ⟨k + 1, _, _, _, _, by omega, by go_num, rfl, Hss6.out, ⟨_, Hpl.out, .inl ⟨Hgf.out, _, Hrl.out, rfl⟩⟩, Hof6.out, X6.out, Hb6.out⟩
              case measure => simp [intOf]; omega
            · have Hgf : Hid (¬ Pa.PF s (notCol x cs) k) := Lib.hid (fun h => hzk (Hf2.out.2 h))
              go_wp2_with fail
              go_roundw
              case rel => exact ⟨k + 1, _, _, _, _, by omega, by go_num, rfl, Hssl.out.top, ⟨_, Hpl.out, .inr ⟨Hgf.out, rfl⟩⟩, Hofl.out, Xl.out, Hbl.out⟩
              case measure => simp [intOf]; omega
          · have Hgf : Hid (¬ Pa.PF s (notCol x cs) k) := Lib.hid (fun h => by rw [h.1] at hv; cases hv)
            rw [hv] at ck
            clear hv
            go_wp2_with fail
            go_roundw
            case rel => exact ⟨k + 1, _, _, _, _, by omega, by go_num, rfl, Hss.out, ⟨_, Hpl.out, .inr ⟨Hgf.out, rfl⟩⟩, Hof.out, X4.out, Hbr.out⟩
            case measure => simp [intOf]; omega
        · have hkn3 : k = n := by omega
          have hl0 : l0 = ls := by have h9 := Hpl.out; rw [hkn3] at h9; exact h9.one Hls.out
          rw [hl0] at Hss
          have Hf := Lib.hid Hbr.out
          clear hl0 hkn3
          go_wp2_with fail
          go_ret
          exact ⟨_, _, _, rfl, Hss.out.weakB (by omega), Hf.out⟩

set_option maxRecDepth 100000 in
set_option maxHeartbeats 4000000 in
theorem s_RegionsOf (s x : Int) (w : World) (B : Nat) (A : Option Addr) (n c : Nat) (cs : List Int) (h : Ints w B A n cs) (hB : B ≤ w.heap.size) (hn : n ≤ 1000000000) (ls : List (List Int)) (Hls : Hid (RgIs s n cs x ls)) :
    Calls Try.prog 12 #[.agg #[.int .i64 s, .slice A n c], .int .i64 x] w fun e w' => ∃ A' m' c', e = .returned (.slice A' m' c') ∧ SS w' w.heap.size w'.heap.size A' m' c' ls ∧ Below w.heap.size w w' := by
  have hb1 : Below w.heap.size w (w.alloc (.cells #[.int .i64 s, .slice A n c] 25)) := (Below.refl _ _).alloc (Nat.le_refl _) _
  have hl := h.1
  have X0 := Lib.hid (Bx.new 25 w s (.slice A n c))
  have H := Lib.hid (h.below hb1 hB)
  have Hb := Lib.hid hb1
  clear h hb1
  by_cases hv : Bd.okB s cs = true
  · obtain ⟨q1, q2, q3, _⟩ := (Bd.okB_iff s cs).1 hv
    have q4 := Pt.sq_bd s q1 q2
    have hn49 : n ≤ 49 := by omega
    by_cases hx : (decide (1 ≤ x) && decide (x ≤ 2)) = true
    · have hh : okGs s cs x = true := by unfold okGs; rw [hv, hx]; rfl
      have Hh := Lib.hid hh
      clear hh
      go_enter Try.func12, Try.ntmps12
      go_wp2_with fail
      refine (s_validBoard _ _ _ _ _ _ _ H.out (by simp; omega) (by omega)).mono ?_
      rintro e y2 ⟨rfl, hb⟩
      rw [hv]
      have X2 := Lib.hid (X0.out.below hb X0.out.lt)
      have H2 := Lib.hid (H.out.below hb (by simp; omega))
      have Hb2 := Lib.hid (Hb.out.trans (hb.mono (by simp)))
      have zy2 := hb.size
      clear hb X0 H Hb
      have u00 := X2.out.cell0
      have u01 := X2.out.cell1
      have u02 := X2.out.lt
      clear hv
      go_wp2_with fail
      refine (s_vcolor _ _).mono ?_
      rintro e w' ⟨rfl, rfl⟩
      rw [hx]
      clear hx
      go_wp2_with fail
      refine (s_regionsOf s x _ B _ n _ cs H2.out (by omega) q1 q2 (by omega) ls (Lib.hid (Hls.out.1 Hh.out))).mono ?_
      rintro e y3 ⟨A3, m3, c3, rfl, hss, hb⟩
      have Hss := Lib.hid hss
      have Hb3 := Lib.hid (Hb2.out.trans (hb.mono (by omega)))
      clear hss hb
      go_wp2_with fail
      go_ret
      exact ⟨_, _, _, rfl, Hss.out.weaken (by omega), Hb3.out⟩
    · have hx' : (decide (1 ≤ x) && decide (x ≤ 2)) = false := by simpa using hx
      have hh : okGs s cs x = false := by unfold okGs; rw [hx']; simp
      have Hh := Lib.hid hh
      clear hh hx
      have hx := hx'
      clear hx'
      go_enter Try.func12, Try.ntmps12
      go_wp2_with fail
      refine (s_validBoard _ _ _ _ _ _ _ H.out (by simp; omega) (by omega)).mono ?_
      rintro e y2 ⟨rfl, hb⟩
      rw [hv]
      have X2 := Lib.hid (X0.out.below hb X0.out.lt)
      have H2 := Lib.hid (H.out.below hb (by simp; omega))
      have Hb2 := Lib.hid (Hb.out.trans (hb.mono (by simp)))
      have zy2 := hb.size
      clear hb X0 H Hb
      have u00 := X2.out.cell0
      have u01 := X2.out.cell1
      have u02 := X2.out.lt
      clear hv
      go_wp2_with fail
      refine (s_vcolor _ _).mono ?_
      rintro e w' ⟨rfl, rfl⟩
      rw [hx]
      clear hx
      go_wp2_with fail
      go_ret
      exact ⟨_, _, _, rfl, by rw [Hls.out.2 Hh.out]; exact SS.nil _ _ _, Hb2.out⟩
  · have hv' : Bd.okB s cs = false := by simpa using hv
    have hh : okGs s cs x = false := by unfold okGs; rw [hv']; rfl
    have Hh := Lib.hid hh
    clear hh hv
    have hv := hv'
    clear hv'
    go_enter Try.func12, Try.ntmps12
    go_wp2_with fail
    refine (s_validBoard _ _ _ _ _ _ _ H.out (by simp; omega) (by omega)).mono ?_
    rintro e y2 ⟨rfl, hb⟩
    rw [hv]
    have X2 := Lib.hid (X0.out.below hb X0.out.lt)
    have H2 := Lib.hid (H.out.below hb (by simp; omega))
    have Hb2 := Lib.hid (Hb.out.trans (hb.mono (by simp)))
    have zy2 := hb.size
    clear hb X0 H Hb
    have u00 := X2.out.cell0
    have u01 := X2.out.cell1
    have u02 := X2.out.lt
    clear hv
    go_wp2_with fail
    go_ret
    exact ⟨_, _, _, rfl, by rw [Hls.out.2 Hh.out]; exact SS.nil _ _ _, Hb2.out⟩

end Go.Proofs.Ytniddfoiakbfdaa

namespace Go.Proofs.Ytniddfoiakbfdaa
set_option maxRecDepth 100000
open Go.RowKit

theorem pts_some {s x : Int} {n : Nat} {cs g : List Int} {S : List Bool} (h1 : 1 ≤ s) (h2 : s ≤ 7) (hn : (n : Int) = s * s) (hg : ∀ j, j < g.length → 0 ≤ g.getD j 0 ∧ g.getD j 0 < n) (h : Bs.BI s n cs x g [] S) : decide (0 < (Fl.pts S n).length) = tch s cs x g := by
  rw [Bool.eq_iff_iff, decide_eq_true_eq, tch_iff]
  have hin : ∀ z ∈ g, 0 ≤ z ∧ z < n := fun z hz => by
    obtain ⟨i, hi, rfl⟩ := mem_getDT hz
    exact hg i hi
  constructor
  · intro h9
    obtain ⟨q, hq, hqs, _⟩ := Pa.pts_mem.1 (List.getElem_mem h9)
    have := (h.all (q : Int) (by omega) (by omega)).1 (by unfold Fl.at_; rw [Int.toNat_natCast]; exact hqs)
    obtain ⟨e, hz | hz⟩ := this
    · obtain ⟨z, a, b⟩ := hz
      exact ⟨z, a, (q : Int), b, by simpa using e⟩
    · cases hz
  · rintro ⟨z, a, y, b, e⟩
    have hz := hin z a
    have hy := nbs_in h1 h2 hn z hz.1 hz.2 y b
    have hs := (h.all y hy.1 hy.2).2 ⟨by simpa using e, .inl ⟨z, a, b⟩⟩
    have hm : y ∈ Fl.pts S n := Pa.pts_mem.2 ⟨y.toNat, by omega, hs, by omega⟩
    exact List.length_pos_of_mem hm

/-- The color of a region's border. -/
def bord (s : Int) (cs g : List Int) : Int := if tch s cs 1 g = tch s cs 2 g then 0 else if tch s cs 1 g = true then 1 else 2
theorem bord_own {s x : Int} {cs g : List Int} (hx : x = 1 ∨ x = 2) : (bord s cs g == x) = ownR s cs x g := by
  unfold bord ownR
  rcases hx with rfl | rfl
  · rw [show (3 : Int) - 1 = 2 by decide]
    cases tch s cs 1 g <;> cases tch s cs 2 g <;> decide
  · rw [show (3 : Int) - 2 = 1 by decide]
    cases tch s cs 1 g <;> cases tch s cs 2 g <;> decide

set_option maxRecDepth 100000 in
set_option maxHeartbeats 4000000 in
theorem s_borderOf (s : Int) (w : World) (B B' : Nat) (A P : Option Addr) (n c m pc : Nat) (cs g : List Int) (h : Ints w B A n cs) (h' : Ints w B' P m g) (hB : B ≤ w.heap.size) (hB' : B' ≤ w.heap.size) (h1 : 1 ≤ s) (h2 : s ≤ 7) (hn : (n : Int) = s * s) (hg : ∀ j, j < m → 0 ≤ g.getD j 0 ∧ g.getD j 0 < n) (hm : m ≤ 1000) (v : Int) (hv : bord s cs g = v) :
    Calls Try.prog 50 #[.agg #[.int .i64 s, .slice A n c], .slice P m pc] w fun e w' => e = .returned (.int .i64 v) ∧ Below w.heap.size w w' := by
  have hb1 : Below w.heap.size w (w.alloc (.cells #[.int .i64 s, .slice A n c] 25)) := (Below.refl _ _).alloc (Nat.le_refl _) _
  have X0 := Lib.hid (Bx.new 25 w s (.slice A n c))
  have H := Lib.hid (h.below hb1 hB)
  have HP := Lib.hid (h'.below hb1 hB')
  have Hgl := Lib.hid h'.1
  have Hb := Lib.hid hb1
  have Hg := Lib.hid hg
  have Hn := Lib.hid hn
  have hsq := Pt.sq_bd s h1 h2
  have hn49 : n ≤ 49 := by omega
  obtain ⟨tb, htb⟩ : ∃ tb, tch s cs 1 g = tb := ⟨_, rfl⟩
  obtain ⟨tw, htw⟩ : ∃ tw, tch s cs 2 g = tw := ⟨_, rfl⟩
  have Hv : Hid ((if tb = tw then (0 : Int) else if tb = true then 1 else 2) = v) := Lib.hid (by rw [← hv, bord, htb, htw])
  have Htb := Lib.hid htb
  have Htw := Lib.hid htw
  clear h h' hb1 hg hn htb htw hv
  go_enter Try.func50, Try.ntmps50
  go_upto_region 1 with (fail)
  obtain ⟨y0, hy⟩ : ∃ y, y = w.alloc (.cells #[.int .i64 s, .slice A n c] 25) := ⟨_, rfl⟩
  have hyz : w.heap.size < y0.heap.size := by rw [hy]; simp
  rw [← hy] at X0 H HP Hb ⊢
  clear hy
  have u0 := X0.out.cell0
  have u1 := X0.out.cell1
  have ul := X0.out.lt
  go_wp2_with fail
  refine (s_besides s 1 _ B B' _ _ n _ m _ cs g H.out HP.out (by omega) (by omega) h1 h2 Hn.out Hg.out hm).mono ?_
  rintro e y1 ⟨A1, m1, c1, S1, rfl, ho, hbi, hb⟩
  have hd1 : decide (0 < m1) = tb := by
    have := pts_some h1 h2 Hn.out (by rw [Hgl.out]; exact Hg.out) hbi
    rw [ho.1, Htb.out] at this
    exact this
  have hd1' : decide ((0 : Int) < (m1 : Nat)) = tb := by rw [← hd1]; simp
  have X1 := Lib.hid (X0.out.below hb ul)
  have H1 := Lib.hid (H.out.below hb (by omega))
  have HP1 := Lib.hid (HP.out.below hb (by omega))
  have Hb1 := Lib.hid (Hb.out.trans (hb.mono (by omega)))
  have z1 := hb.size
  clear ho hbi hb u0 u1
  have u0 := X1.out.cell0
  have u1 := X1.out.cell1
  have ul1 := X1.out.lt
  go_wp2_with fail
  refine (s_besides s 2 _ B B' _ _ n _ m _ cs g H1.out HP1.out (by omega) (by omega) h1 h2 Hn.out Hg.out hm).mono ?_
  rintro e y2 ⟨A2, m2, c2, S2, rfl, ho, hbi, hb⟩
  have hd2 : decide (0 < m2) = tw := by
    have := pts_some h1 h2 Hn.out (by rw [Hgl.out]; exact Hg.out) hbi
    rw [ho.1, Htw.out] at this
    exact this
  have hd2' : decide ((0 : Int) < (m2 : Nat)) = tw := by rw [← hd2]; simp
  have Hb2 := Lib.hid (Hb1.out.trans (hb.mono (by omega)))
  clear ho hbi hb u0 u1
  rcases Bool.eq_false_or_eq_true tb with rfl | rfl <;> rcases Bool.eq_false_or_eq_true tw with rfl | rfl
  all_goals
    go_wp2_with fail
    go_ret
    exact ⟨by rw [← Hv.out]; rfl, Hb2.out⟩

/-- The marks of the own points: of the first i regions, and of the first k points of the next one. -/
def TI (s : Int) (n : Nat) (cs : List Int) (x : Int) (ls : List (List Int)) (i k : Nat) (S : List Bool) : Prop :=
  S.length = n ∧ ∀ q, q < n → (S.getD q false = true ↔ ((∃ g ∈ ls.take i, ownR s cs x g = true ∧ (q : Int) ∈ g) ∨ (ownR s cs x (ls.getD i []) = true ∧ (q : Int) ∈ (ls.getD i []).take k)))
section
variable {s x : Int} {n : Nat} {cs : List Int} {ls : List (List Int)} {i k : Nat} {S : List Bool}
theorem TI.start (s : Int) (n : Nat) (cs : List Int) (x : Int) (ls : List (List Int)) : TI s n cs x ls 0 0 (List.replicate n false) := by
  refine ⟨by simp, fun q hq => ?_⟩
  rw [List.getD_eq_getElem?_getD, List.getElem?_replicate, if_pos hq]
  simp
theorem TI.step (h : TI s n cs x ls i k S) (hi : i < ls.length) (hp : ls.Pairwise fun g g' => ∀ q, q ∈ g → q ∉ g') (hk : k < (ls.getD i []).length) {y : Nat} (hy : (ls.getD i []).getD k 0 = (y : Int)) (hyn : y < n) : TI s n cs x ls i (k + 1) (S.set y (ownR s cs x (ls.getD i []))) := by
  have hel : (ls.getD i [])[k] = (y : Int) := by rw [← hy]; generalize ls.getD i [] = L at hk; rw [List.getD_eq_getElem?_getD, List.getElem?_eq_getElem hk]; rfl
  refine ⟨by rw [List.length_set]; exact h.1, fun q hq => ?_⟩
  rw [Pa.set_getD S y q _ (by rw [h.1]; exact hyn), List.take_succ_eq_append_getElem hk, hel]
  by_cases e : q = y
  · subst e
    rw [if_pos rfl]
    constructor
    · intro ho
      exact .inr ⟨ho, List.mem_append.2 (.inr (List.mem_singleton_self _))⟩
    · rintro (⟨g, a, b, c⟩ | ⟨a, _⟩)
      · exfalso
        have := apart_at hp hi a c
        exact this (by rw [← hel]; exact List.getElem_mem _)
      · exact a
  · rw [if_neg e, h.2 q hq]
    constructor
    · rintro (h9 | ⟨a, b⟩)
      · exact .inl h9
      · exact .inr ⟨a, List.mem_append.2 (.inl b)⟩
    · rintro (h9 | ⟨a, b⟩)
      · exact .inl h9
      · rw [List.mem_append, List.mem_singleton] at b
        rcases b with b | b
        · exact .inr ⟨a, b⟩
        · omega
theorem TI.next (h : TI s n cs x ls i k S) (hi : i < ls.length) (hk : (ls.getD i []).length ≤ k) : TI s n cs x ls (i + 1) 0 S := by
  refine ⟨h.1, fun q hq => (h.2 q hq).trans ?_⟩
  rw [take_ls hi, List.take_of_length_le hk, List.take_zero]
  constructor
  · rintro (⟨g, a, b, c⟩ | ⟨a, b⟩)
    · exact .inl ⟨g, List.mem_append.2 (.inl a), b, c⟩
    · exact .inl ⟨_, List.mem_append.2 (.inr (List.mem_singleton_self _)), a, b⟩
  · rintro (⟨g, a, b, c⟩ | ⟨_, b⟩)
    · rw [List.mem_append, List.mem_singleton] at a
      rcases a with a | rfl
      · exact .inl ⟨g, a, b, c⟩
      · exact .inr ⟨b, c⟩
    · cases b
theorem TI.done (h : TI s n cs x ls ls.length 0 S) : TM s n cs x ls S := by
  refine ⟨h.1, fun q hq => (h.2 q hq).trans ?_⟩
  rw [List.take_length, List.take_zero]
  constructor
  · rintro (h | ⟨_, h⟩)
    · exact h
    · cases h
  · exact .inl
end

theorem set_far {w : World} {p q : Addr} {v u : Value} (h : w.cell? p = some v) (hne : p.block ≠ q.block) : (w.setCell q u).cell? p = some v := (World.cell?_of_block (w := w) (Below.heap_setCell w q u p.block hne)).trans h

set_option maxRecDepth 100000 in
set_option maxHeartbeats 8000000 in
theorem s_territory (s x : Int) (w : World) (B : Nat) (A : Option Addr) (n c : Nat) (cs : List Int) (h : Ints w B A n cs) (hB : B ≤ w.heap.size) (h1 : 1 ≤ s) (h2 : s ≤ 7) (hn : (n : Int) = s * s) (hx : x = 1 ∨ x = 2) (l : List Int) (Hl : Hid (∃ ls S, GL s n cs 0 n ls ∧ TM s n cs x ls S ∧ l = Fl.pts S n)) :
    Calls Try.prog 23 #[.agg #[.int .i64 s, .slice A n c], .int .i64 x] w fun e w' => ∃ A' m' c', e = .returned (.slice A' m' c') ∧ Own w' w.heap.size A' m' c' l ∧ Below w.heap.size w w' := by
  have hsq := Pt.sq_bd s h1 h2
  have hn49 : n ≤ 49 := by omega
  obtain ⟨ls, S0, hgl, hTM, hl0⟩ := Hl.out
  have Hgl := Lib.hid hgl
  have HTM := Lib.hid hTM
  have Hl0 := Lib.hid hl0
  have Hsm := Lib.hid hgl.small
  have Hap := Lib.hid (GL.apart h1 h2 hn h.1 (Nat.le_refl _) hgl)
  have Hin : Hid (∀ g ∈ ls, ∀ q ∈ g, 0 ≤ q ∧ q < n) := Lib.hid (fun g hg q hq => by
    obtain ⟨f, _, _, hr⟩ := GL.mem hgl g hg
    have := reached_memT hr hq
    exact ⟨this.1, this.2.1⟩)
  have hb1 : Below w.heap.size w (w.alloc (.cells #[.int .i64 s, .slice A n c] 25)) := (Below.refl _ _).alloc (Nat.le_refl _) _
  have X0 := Lib.hid (Bx.new 25 w s (.slice A n c))
  have H := Lib.hid (h.below hb1 hB)
  have Hb := Lib.hid hb1
  have Hn := Lib.hid hn
  have Hx := Lib.hid hx
  clear h hb1 hn hgl hTM hl0 hx
  go_enter Try.func23, Try.ntmps23
  go_upto_region 1 with (fail)
  obtain ⟨y0, hy⟩ : ∃ y, y = w.alloc (.cells #[.int .i64 s, .slice A n c] 25) := ⟨_, rfl⟩
  have hyz : w.heap.size < y0.heap.size := by rw [hy]; simp
  rw [← hy] at X0 H Hb ⊢
  clear hy
  have u0 := X0.out.cell0
  have u1 := X0.out.cell1
  have ul := X0.out.lt
  go_upto_region 2 with (at_make; refine makeB rfl _ rfl _ _ n rfl rfl (by omega) ?_; intro y1 hbl hb hlt)
  have Hbl := Lib.hid hbl
  have X1 := Lib.hid (X0.out.below hb ul)
  have H1 := Lib.hid (H.out.below hb (by omega))
  have Hb1 := Lib.hid (Hb.out.trans (hb.mono (by omega)))
  clear hbl hb u0 u1
  have u0 := X1.out.cell0
  have u1 := X1.out.cell1
  have ul1 := X1.out.lt
  go_wp2_with fail
  refine (s_groupsOf s 0 _ B A n c cs H1.out (by omega) h1 h2 Hn.out ls Hgl).mono ?_
  rintro e y2 ⟨A1, m1, c1, rfl, hss, hb⟩
  have z2 := hb.size
  have hml := hss.len
  have hm1 : m1 ≤ 49 := by have := Hsm.out.1; omega
  have Hml := Lib.hid hml
  have X2 := Lib.hid (X1.out.below hb ul1)
  have H2 := Lib.hid (H1.out.below hb (by omega))
  have Hbl2 := Lib.hid (Hbl.out.below hb hlt)
  have Hb2 := Lib.hid (Hb1.out.trans (hb.mono (by omega)))
  have Hss := Lib.hid hss
  have Hr0 := Lib.hid (World.grownBy.refl y2 (some y0.heap.size))
  clear hss hb hml u0 u1 Hbl H1 X1 Hb1
  have ul2 := X2.out.lt
  go_wp2_with fail
  go_loopw [7] (fun i wr => ∃ k S, k ≤ m1 ∧ i = .int .i64 (k : Nat) ∧ Bl wr y0.heap.size S ∧ TI s n cs x ls k 0 S ∧ y2.grownBy wr (some y0.heap.size)) (fun i _ => m1 - (intOf i).toNat)
  case atStart => exact ⟨0, _, by omega, rfl, Hbl2.out, TI.start s n cs x ls, Hr0.out⟩
  case round =>
    clear Hbl2 Hr0
    obtain ⟨wo, rfl⟩ : ∃ wo : World, wo = wr := ⟨_, rfl⟩
    obtain ⟨k, S, hk, rfl, hbl, hti, hg⟩ := hrel
    have hgz := hg.size
    have Hbl := Lib.hid hbl
    have Hti := Lib.hid hti
    have Hg := Lib.hid hg
    clear hbl hti hg
    by_cases hkm : k < m1
    · obtain ⟨b, Aj, nj, cj, hA1, hcj, hoj, _⟩ := Hss.out.at_ hkm
      have hbb := (Hss.out.block (g := b) (by rw [hA1]; rfl)).1
      subst hA1
      have hbz : b < y2.heap.size := (Hss.out.bd b rfl)
      have hkI : (k : Int) < m1 := by omega
      have Hgm : Hid (∀ q ∈ ls.getD k [], 0 ≤ q ∧ q < n) := Lib.hid (Hin.out _ (by
        have hkl : k < ls.length := by rw [Hml.out]; exact hkm
        rw [List.getD_eq_getElem?_getD, List.getElem?_eq_getElem hkl]; exact List.getElem_mem _))
      obtain ⟨g, hgg⟩ : ∃ g, ls.getD k [] = g := ⟨_, rfl⟩
      have Hgg := Lib.hid hgg
      rw [hgg] at hoj Hgm
      clear hgg
      have Hgn := Lib.hid hoj.1
      have hnj : nj ≤ 1000 := by have h9 := Hsm.out.2 g (by rw [← Hgg.out]; have hkl : k < ls.length := by { rw [Hml.out]; exact hkm }; rw [List.getD_eq_getElem?_getD, List.getElem?_eq_getElem hkl]; exact List.getElem_mem _); have := Hgn.out; omega
      have Hkeep : Hid (∀ wz, y2.grownBy wz (some y0.heap.size) → wz.cell? ⟨b, k, none⟩ = some (.slice Aj nj cj) ∧ Own wz y1.heap.size Aj nj cj g) := Lib.hid (fun wz hgz => ⟨hgz.cell hcj (by simp; omega), hoj.kept hgz (fun q e e2 => by have := (hoj.ge e).1; injection e2 with e2; omega)⟩)
      have Hgi : Hid (∀ j, j < nj → 0 ≤ g.getD j 0 ∧ g.getD j 0 < n) := Lib.hid (fun j hj => Hgm.out _ (getD_memT (by rw [Hgn.out]; exact hj)))
      clear hcj hoj
      have ckk := (Hkeep.out wo Hg.out).1
      go_wp2_with fail
      go_loopw [8] (fun i wi => ∃ j S2, j ≤ nj ∧ i = .int .i64 (j : Nat) ∧ Bl wi y0.heap.size S2 ∧ TI s n cs x ls k j S2 ∧ y2.grownBy wi (some y0.heap.size)) (fun i _ => nj - (intOf i).toNat)
      case atStart => exact ⟨0, _, by omega, rfl, Hbl.out, Hti.out, Hg.out⟩
      case round =>
        clear Hbl Hti Hg ckk
        obtain ⟨wi, rfl⟩ : ∃ wi : World, wi = wr := ⟨_, rfl⟩
        obtain ⟨j, S2, hj, rfl, hbl, hti, hg⟩ := hrel
        have hgz2 := hg.size
        obtain ⟨ckk, hown⟩ := Hkeep.out wi hg
        have Hbl := Lib.hid hbl
        have Hti := Lib.hid hti
        have Hg := Lib.hid hg
        have Hown := Lib.hid hown
        clear hbl hti hg hown
        by_cases hjn : j < nj
        · have hjI : (j : Int) < nj := by omega
          obtain ⟨gj, hAj⟩ : ∃ gj, Aj = some ⟨gj, 0, none⟩ := by
            obtain ⟨q, cap, hv, _⟩ := World.ownsRow.form Hown.out.2 (by omega)
            exact ⟨q, by injection hv⟩
          have hgj := Hown.out.ge hAj
          have hon := Hown.out
          rw [hAj] at hon
          have cjj := hon.cellD j hjn
          obtain ⟨p1, p2⟩ := Hgi.out j hjn
          obtain ⟨q, hq⟩ : ∃ q, g.getD j 0 = q := ⟨_, rfl⟩
          rw [hq] at cjj p1 p2
          obtain ⟨t, rfl⟩ := Int.eq_ofNat_of_zero_le p1
          have htn : t < n := by omega
          have Hq := Lib.hid hq
          have HX := Lib.hid (X2.out.grown Hg.out (by simp; omega))
          have HI := Lib.hid (Ints.keep (w' := wi) H2.out (fun q hq => Hg.out.block q (by omega) (by simp; omega)))
          have HG := Lib.hid Hown.out.ints
          have x0 := HX.out.cell0
          have x1 := HX.out.cell1
          have xl := HX.out.lt
          have hsl : S2.length = n := Hti.out.1
          obtain ⟨v, hv⟩ : ∃ v, bord s cs g = v := ⟨_, rfl⟩
          have Hv := Lib.hid hv
          have Hbo : Hid ((v == x) = ownR s cs x g) := Lib.hid (by rw [← hv]; exact bord_own Hx.out)
          have Hst : Hid (TI s n cs x ls k (j + 1) (S2.set t (v == x))) := Lib.hid (by rw [Hbo.out, ← Hgg.out]; exact Hti.out.step (by rw [Hml.out]; exact hkm) Hap.out (by rw [Hgg.out, Hgn.out]; exact hjn) (by rw [Hgg.out]; exact hq) htn)
          have hgl := Hbl.out.lt
          have hn1 : w.heap.size ≠ y0.heap.size := by omega
          have hn2 : b ≠ y0.heap.size := by omega
          have hn3 : gj ≠ y0.heap.size := by omega
          clear hq hon hv
          rw [hAj] at ckk HG
          clear hAj
          go_wp2_with fail
          go_region_held3 (fun w' => w'.cell? ⟨w.heap.size, 0, none⟩ = some (.int .i64 s) ∧ w'.cell? ⟨w.heap.size, 1, none⟩ = some (.slice A n c) ∧ w'.cell? ⟨b, k, none⟩ = some (.slice (some ⟨gj, 0, none⟩) nj cj) ∧ w'.cell? ⟨gj, j, none⟩ = some (.int .i64 (t : Nat))) (first | exact ⟨x0, x1, ckk, cjj⟩ | exact ⟨set_far x0 hn1, set_far x1 hn1, set_far ckk hn2, set_far cjj hn3⟩ | go_keep) (first | (go_at_call 50; refine (s_borderOf s _ B _ _ _ n _ nj _ cs g (by exact HI.out) (by exact HG.out) (by show B ≤ wi.heap.size; omega) (by show wi.heap.size ≤ wi.heap.size; omega) h1 h2 Hn.out Hgi.out hnj v Hv.out).mono ?_; rintro e y8 ⟨rfl, hb8⟩; have hbw : Below wi.heap.size wi y8 := ⟨hb8.os, hb8.tape, hb8.output, hb8.size, hb8.block⟩; have Hb8 := Lib.hid hbw; have x0 := (HX.out.below hbw xl).cell0; have x1 := (HX.out.below hbw xl).cell1; have ckk := (hbw.cell (p := ⟨b, k, none⟩) (by show b < _; omega)).trans ckk; have cjj := (hbw.cell (p := ⟨gj, j, none⟩) (by show gj < _; omega)).trans cjj; have Bl8 := Lib.hid (Hbl.out.below hbw hgl); have k8 := Bl8.out.cell (j := t) (by rw [hsl]; exact htn); have f8 := Bl8.out.frozen t; clear hb8 hbw))
          have Hbn := Lib.hid (Bl8.out.set_ t (v == x))
          have Hgn2 := Lib.hid (gsetT (gtrans Hg.out (gbelow (some y0.heap.size) Hb8.out (Nat.le_refl _))) t (.bool (v == x)))
          clear k8 f8 x0 x1 ckk cjj
          go_wp2_with fail
          go_roundw
          case rel => exact ⟨j + 1, _, by omega, by go_num, Hbn.out, Hst.out, Hgn2.out⟩
          case measure => simp [intOf]; omega
        · have Htn := Lib.hid (Hti.out.next (by rw [Hml.out]; exact hkm) (by rw [Hgg.out, Hgn.out]; omega))
          go_wp2_with fail
          go_roundw
          case rel => exact ⟨k + 1, _, by omega, by go_num, Hbl.out, Htn.out, Hg.out⟩
          case measure => simp [intOf]; omega
    · have Htm : Hid (TM s n cs x ls S) := Lib.hid (by have h9 := Hti.out; rw [show k = ls.length by rw [Hml.out]; omega] at h9; exact h9.done)
      have Hfin : Hid (Fl.pts S n = l) := Lib.hid (by rw [Hl0.out]; exact Htm.out.one HTM.out)
      have Hlen := Lib.hid Htm.out.1
      have hgl := Hbl.out.lt
      have Hbr := Lib.hid (Hb2.out.trans (below_g (B := w.heap.size) Hg.out (by omega) (fun q e => by injection e with e; omega)))
      go_wp2_with fail
      have Hob := Lib.hid (Own.bare wo wo.heap.size (Nat.le_refl _))
      have Hbb := Lib.hid ((Below.refl wo.heap.size wo).alloc (Nat.le_refl _) (.cells #[] 3))
      go_loopw [9, 10] (fun v i wi => ∃ j : Nat, j ≤ n ∧ i = .int .i64 j ∧ Slc wo.heap.size wo v wi (Fl.pts S j)) (fun _ i _ => n - (intOf i).toNat)
      case atStart => exact ⟨0, by omega, rfl, _, _, _, rfl, Hob.out, Hbb.out⟩
      case round =>
        clear Hob Hbb
        obtain ⟨j, hj, rfl, A4, n4, c4, rfl, ho4, hb4⟩ := hrel
        have hn4 : n4 ≤ 49 := by have := ho4.1; have := Fl.pts_len S j; omega
        have Ho4 := Lib.hid ho4
        have Hb4 := Lib.hid hb4
        have hz4 := hb4.size
        clear ho4 hb4
        by_cases hjn : j < n
        · have cs4 := (Hbl.out.below Hb4.out hgl).cell (j := j) (by rw [Hlen.out]; exact hjn)
          have hjs : (j : Int) < n := by omega
          rcases Bool.eq_false_or_eq_true (S.getD j false) with hsx | hsx
          · have Hy := Lib.hid (Fl.pts_yes hsx)
            rw [hsx] at cs4
            clear hsx
            go_wp2_with (at_builtin; refine app1 rfl _ _ rfl _ _ _ _ _ _ _ _ rfl rfl rfl Ho4.out hz4 (by omega) ?_; intro A' c' w' hown' hb' hlt' _)
            go_roundw
            case rel => exact ⟨j + 1, by omega, by go_num, _, _, _, rfl, by rw [Hy.out]; exact hown', Hb4.out.trans (hb'.mono (by omega))⟩
            case measure => simp [intOf]; omega
          · have Hy := Lib.hid (Fl.pts_no hsx)
            rw [hsx] at cs4
            clear hsx
            go_wp2_with fail
            go_roundw
            case rel => exact ⟨j + 1, by omega, by go_num, _, _, _, rfl, by rw [Hy.out]; exact Ho4.out, Hb4.out⟩
            case measure => simp [intOf]; omega
        · obtain rfl : j = n := by omega
          go_wp2_with fail
          go_ret
          exact ⟨_, _, _, rfl, by rw [← Hfin.out]; exact Ho4.out.weaken (by omega), Hbr.out.trans (Hb4.out.mono (by omega))⟩
end Go.Proofs.Ytniddfoiakbfdaa

namespace Go.Proofs.Ytniddfoiakbfdaa
set_option maxRecDepth 100000
open Go.RowKit

set_option maxRecDepth 100000 in
set_option maxHeartbeats 2000000 in
theorem i_bitsLen64_0 (w : World) : Calls Try.prog 96 #[.int .u64 0] w fun e w' => e = .returned (.int .i64 0) ∧ w' = w := by
  go_enter Try.func96, Try.ntmps96
  go_wp2
  go_ret
  exact ⟨by kernel_rfl, rfl⟩
set_option maxRecDepth 100000 in
theorem i_bitsLen_0 (w : World) : Calls Try.prog 83 #[.int .u64 0] w fun e w' => e = .returned (.int .i64 0) ∧ w' = w := by
  go_enter Try.func83, Try.ntmps83
  go_wp2_with (go_at_call 96; refine (i_bitsLen64_0 _).mono ?_; rintro e w' ⟨rfl, rfl⟩)
  go_ret
  exact ⟨rfl, rfl⟩
theorem i_insertionNil (p : Option Addr) (cap : Nat) (w : World) :
    Calls Try.prog 86 #[.slice p 0 cap, .int .i64 0, .int .i64 0] w fun e w' => e = .returned (.tuple #[]) ∧ w' = w := by
  go_enter Try.func86, Try.ntmps86
  go_wp2
  refine wp_loop_rounds 1 ?_
  rw [rounds_succ]
  go_wp2
  go_end0
  exact ⟨rfl, rfl⟩
set_option maxRecDepth 100000 in
theorem i_pdqNil (p : Option Addr) (cap : Nat) (w : World) :
    Calls Try.prog 82 #[.slice p 0 cap, .int .i64 0, .int .i64 0, .int .i64 0] w fun e w' => e = .returned (.tuple #[]) ∧ w' = w := by
  go_enter Try.func82, Try.ntmps82
  go_wp2
  refine wp_loop_rounds 1 ?_
  rw [rounds_succ]
  go_wp2_with (first | (go_at_call 86; refine (i_insertionNil p cap _).mono ?_; rintro e w' ⟨rfl, rfl⟩))
  refine bodyPost_ret (results_none rfl _ _ _) rfl ?_
  exact ⟨rfl, rfl⟩
set_option maxRecDepth 100000 in
theorem i_sortNil (p : Option Addr) (cap : Nat) (w : World) :
    Calls Try.prog 71 #[.slice p 0 cap] w fun e w' => e = .returned (.tuple #[]) ∧ w' = w := by
  go_enter Try.func71, Try.ntmps71
  go_wp2_with (first
    | (go_at_call 83; refine (i_bitsLen_0 _).mono ?_; rintro e w' ⟨rfl, rfl⟩)
    | (go_at_call 82; refine (i_pdqNil p cap _).mono ?_; rintro e w' ⟨rfl, rfl⟩))
  go_end0
  exact ⟨rfl, rfl⟩
end Go.Proofs.Ytniddfoiakbfdaa

namespace Go.Proofs.Ytniddfoiakbfdaa
set_option maxRecDepth 100000
open Go.RowKit

/-- The list that a call hands back. -/
def Lst (w : World) (l : List Int) (e : Ending) (w' : World) : Prop := ∃ A m c, e = .returned (.slice A m c) ∧ Own w' w.heap.size A m c l ∧ Below w.heap.size w w'

theorem oth_three {x : Int} (h : x = 1 ∨ x = 2) : oth x = 3 - x := by rcases h with rfl | rfl <;> rfl
theorem stone_iff {x : Int} (h : (decide (1 ≤ x) && decide (x ≤ 2)) = true) : x = 1 ∨ x = 2 := by
  rw [Bool.and_eq_true, decide_eq_true_eq, decide_eq_true_eq] at h
  omega
theorem TG.few {s x : Int} {n : Nat} {cs : List Int} {ls : List (List Int)} {i : Nat} {l : List Int} (h : TG s n cs x ls i l) : l.length ≤ n := by
  obtain ⟨S, _, hp⟩ := h
  rw [hp.length_eq]
  exact Fl.pts_len S n
theorem GL.row {s x : Int} {n : Nat} {cs : List Int} {k : Nat} {ls : List (List Int)} (h : GL s n cs x k ls) {i : Nat} (hi : i < ls.length) : ∃ S, ls.getD i [] = Fl.pts S n := by
  have hm : ls.getD i [] ∈ ls := by rw [List.getD_eq_getElem?_getD, List.getElem?_eq_getElem hi]; exact List.getElem_mem _
  obtain ⟨f, _, _, S, _, _, hr⟩ := GL.mem h _ hm
  exact ⟨S, hr⟩

set_option maxRecDepth 100000 in
set_option maxHeartbeats 8000000 in
theorem i_Te (s x : Int) (w : World) (B : Nat) (A : Option Addr) (n c : Nat) (cs : List Int) (h : Ints w B A n cs) (hB : B ≤ w.heap.size) (hn : n ≤ 1000000000) (l : List Int) (Hl : Hid (TrIs s n cs x l)) :
    Calls Try.prog 45 #[.agg #[.int .i64 s, .slice A n c], .int .i64 x] w fun e w' => Lst w l e w' := by
  have hb1 : Below w.heap.size w (w.alloc (.cells #[.int .i64 s, .slice A n c] 25)) := (Below.refl _ _).alloc (Nat.le_refl _) _
  have X0 := Lib.hid (Bx.new 25 w s (.slice A n c))
  have H := Lib.hid (h.below hb1 hB)
  have Hb := Lib.hid hb1
  have Hcl := Lib.hid h.1
  clear h hb1
  rcases Bool.eq_false_or_eq_true (Bd.okB s cs) with hv | hv
  · obtain ⟨h1, h2, h3, _⟩ := (Bd.okB_iff s cs).1 hv
    have q4 := Pt.sq_bd s h1 h2
    have hn49 : n ≤ 49 := by have := Hcl.out; omega
    have Hn : Hid ((n : Int) = s * s) := Lib.hid (by rw [Hcl.out] at h3; exact h3)
    have Hv := Lib.hid hv
    clear h3
    rcases Bool.eq_false_or_eq_true (decide (1 ≤ x) && decide (x ≤ 2)) with hx | hx
    · have hh : okGs s cs x = true := by unfold okGs; rw [hv, hx]; rfl
      have Hx := Lib.hid (stone_iff hx)
      obtain ⟨ls, S0, hgl, hTM, hl0⟩ := Hl.out.1 hh
      have Hgl := Lib.hid hgl
      have HTM := Lib.hid hTM
      have Hl0 := Lib.hid hl0
      have Her : Hid (ErIs s n cs ls) := Lib.hid ⟨fun _ => hgl, fun h9 => absurd (Hv.out.symm.trans h9) (by decide)⟩
      have Hsm := Lib.hid hgl.small
      have Hap := Lib.hid (GL.apart h1 h2 Hn.out Hcl.out (Nat.le_refl _) hgl)
      have Hin : Hid (∀ g ∈ ls, ∀ q ∈ g, 0 ≤ q ∧ q < n) := Lib.hid (fun g hg q hq => by
        obtain ⟨f, _, _, hr⟩ := GL.mem hgl g hg
        have := reached_memT hr hq
        exact ⟨this.1, this.2.1⟩)
      clear hh hgl hTM hl0
      go_enter Try.func45, Try.ntmps45
      go_wp2_with fail
      refine (i_validBoard _ _ _ _ _ _ _ H.out (by simp; omega) (by omega)).mono ?_
      rintro e y ⟨rfl, hb⟩
      rw [hv]
      clear hv
      have X0 := Lib.hid (X0.out.below hb X0.out.lt)
      have H := Lib.hid (H.out.below hb (by simp; omega))
      have Hb := Lib.hid (Hb.out.trans (hb.mono (by simp)))
      have hz := X0.out.lt
      have hz1 := hb.size
      have hz2 : w.heap.size + 1 ≤ y.heap.size := by simpa using hz1
      clear hb hz1
      have u0 := X0.out.cell0
      have u1 := X0.out.cell1
      go_wp2_with fail
      refine (i_stone _ _).mono ?_
      rintro e w' ⟨rfl, rfl⟩
      rw [hx]
      clear hx
      go_wp2_with fail
      refine (i_Er s _ B A n c cs H.out (by omega) hn ls Her).mono ?_
      rintro e y2 ⟨A1, m1, c1, rfl, hss, hb⟩
      have z2 := hb.size
      have X2 := Lib.hid (X0.out.below hb hz)
      have H2 := Lib.hid (H.out.below hb (by omega))
      have Hb2 := Lib.hid (Hb.out.trans (hb.mono (by omega)))
      have Hml := Lib.hid hss.len
      have hm1 : m1 ≤ 49 := by have := Hsm.out.1; have := Hml.out; omega
      have Hss := Lib.hid hss
      have Hg0 := Lib.hid (TG.start s n cs x ls)
      have Ho0 := Lib.hid (Own.nil y2 y2.heap.size)
      have Hbr0 := Lib.hid (Below.refl y2.heap.size y2)
      clear hss hb u0 u1
      have ul2 := X2.out.lt
      go_wp2_with fail
      go_loopw [5, 19] (fun v i wr => ∃ (k m c' : Nat) (A' : Option Addr) (l0 : List Int), k ≤ m1 ∧ i = .int .i64 (k : Nat) ∧ v = .slice A' m c' ∧ Own wr y2.heap.size A' m c' l0 ∧ TG s n cs x ls k l0 ∧ Below y2.heap.size y2 wr) (fun _ i _ => m1 - (intOf i).toNat)
      case atStart => exact ⟨0, 0, 0, none, [], by omega, rfl, rfl, Ho0.out, Hg0.out, Hbr0.out⟩
      case round =>
        clear Hg0 Ho0 Hbr0
        obtain ⟨wo, rfl⟩ : ∃ wo : World, wo = wr := ⟨_, rfl⟩
        obtain ⟨k, m, c', A', l0, hk, rfl, rfl, ho, htg, hbr⟩ := hrel
        have hz3 := hbr.size
        have hm := htg.few
        have hm3 : m ≤ n := by have := ho.1; omega
        have X3 := Lib.hid (X2.out.below hbr ul2)
        have H3 := Lib.hid (H2.out.below hbr (by omega))
        have Hss3 := Lib.hid (Hss.out.below hbr)
        have Ho := Lib.hid ho
        have Htg := Lib.hid htg
        have Hbr := Lib.hid hbr
        clear hm ho htg hbr
        by_cases hkm : k < m1
        · obtain ⟨b, Aj, nj, cj, hA1, hcj, hoj, _⟩ := Hss3.out.at_ hkm
          subst hA1
          have hkI : (k : Int) < m1 := by omega
          have hkl : k < ls.length := by rw [Hml.out]; exact hkm
          have hmem : ls.getD k [] ∈ ls := by rw [List.getD_eq_getElem?_getD, List.getElem?_eq_getElem hkl]; exact List.getElem_mem _
          have Hgm := Lib.hid (Hin.out _ hmem)
          have hl49 := Hsm.out.2 _ hmem
          obtain ⟨S', hS'⟩ := GL.row Hgl.out hkl
          have HS' := Lib.hid hS'
          obtain ⟨g, hgg⟩ : ∃ g, ls.getD k [] = g := ⟨_, rfl⟩
          have Hgg := Lib.hid hgg
          rw [hgg] at hoj Hgm hl49
          have Hgn := Lib.hid hoj.1
          have hnj : nj ≤ 1000 := by have := Hgn.out; omega
          have Hgi : Hid (∀ j, j < nj → 0 ≤ g.getD j 0 ∧ g.getD j 0 < n) := Lib.hid (fun j hj => Hgm.out _ (getD_memT (by rw [Hgn.out]; exact hj)))
          have HG := Lib.hid hoj.ints
          have Hoj := Lib.hid hoj
          have x0 := X3.out.cell0
          have x1 := X3.out.cell1
          have xl := X3.out.lt
          clear hgg hoj hS' hmem
          obtain ⟨t1, ht1⟩ : ∃ t1, tch s cs x g = t1 := ⟨_, rfl⟩
          obtain ⟨x', hx'⟩ : ∃ x', 3 - x = x' := ⟨_, rfl⟩
          have Hx' := Lib.hid hx'
          obtain ⟨t2, ht2⟩ : ∃ t2, tch s cs x' g = t2 := ⟨_, rfl⟩
          have Ht1 := Lib.hid ht1
          have Ht2 := Lib.hid ht2
          have Hot : Hid (oth x = x') := Lib.hid (by rw [oth_three Hx.out]; exact hx')
          clear ht1 ht2 hx'
          go_upto_region 7 with (fail)
          go_cut [34] (fun v wx => v = .bool (t1 && !t2) ∧ Below wo.heap.size wo wx)
          case first =>
            cases t1
            · refine wp_region_held_drew (S := (fun w' => w'.cell? ⟨w.heap.size, 0, none⟩ = some (.int .i64 s) ∧ w'.cell? ⟨w.heap.size, 1, none⟩ = some (.slice A n c))) (by kernel_rfl) ?_ (fun hHeld => ?_)
              · exact ⟨x0, x1⟩
              refine wpAnyH_take (i := 0) (v := ?_) rfl (by kernel_rfl) (by kernel_rfl) (by kernel_rfl) (fun _ _ _ h => h) (Or.inl ⟨by rfl, ?hy⟩) (by assumption) ?_
              case hy => (intro w9 hSw; (try dsimp only at hSw); go_simp; (try with_reducible rfl))
              (try simp only [Act.put, List.getElem_toArray, List.getElem_cons_zero, List.setIfInBounds_toArray, List.set_cons_zero, List.set_cons_succ])
              refine wpAnyH_take (i := 1) (v := ?_) rfl (by kernel_rfl) (by kernel_rfl) (by kernel_rfl) (fun _ _ _ h => h) (Or.inl ⟨by rfl, ?hy⟩) (by assumption) ?_
              case hy => (intro w9 hSw; (try dsimp only at hSw); go_simp; (try with_reducible rfl))
              (try simp only [Act.put, List.getElem_toArray, List.getElem_cons_succ, List.getElem_cons_zero, List.setIfInBounds_toArray, List.set_cons_zero, List.set_cons_succ])
              refine wpAnyH_take (i := 2) (v := ?_) rfl (by kernel_rfl) (by kernel_rfl) (by kernel_rfl) (fun _ _ _ h => h) (Or.inl ⟨by rfl, ?hy⟩) (by assumption) ?_
              case hy => (intro w9 hSw; (try dsimp only at hSw); go_simp; (try with_reducible rfl))
              (try simp only [Act.put, List.getElem_toArray, List.getElem_cons_succ, List.getElem_cons_zero, List.setIfInBounds_toArray, List.set_cons_zero, List.set_cons_succ])
              refine wpAnyH_ready (rs := [3]) (by kernel_rfl) (by simp) ?_
              refine AllReadyH.cons (o := _) rfl (fun K hK => ?_) AllReadyH.nil
              go_simp
              (go_at_call 70; refine (i_touches s x _ B wo.heap.size A _ n c nj cj cs g (by exact H3.out) (by exact HG.out) (by show B ≤ wo.heap.size; omega) (by show wo.heap.size ≤ wo.heap.size; omega) h1 h2 Hn.out Hgi.out hnj).mono ?_; rintro e ya ⟨rfl, hb⟩; rw [Ht1.out]; have Hba : Hid (Below wo.heap.size wo ya) := Lib.hid ⟨hb.os, hb.tape, hb.output, hb.size, hb.block⟩; clear hb; have H4 := Lib.hid (H3.out.below Hba.out (by omega)); have HG4 := Lib.hid (HG.out.below Hba.out (Nat.le_refl _)); have X4 := Lib.hid (X3.out.below Hba.out xl); have hza := Hba.out.size; clear x0 x1; have x0 := X4.out.cell0; have x1 := X4.out.cell1)
              refine hK.out _ _ ?_ (fun hHeld => ?_)
              · exact ⟨x0, x1⟩
              clear hK K
              (try simp only [Act.put, List.getElem_toArray, List.getElem_cons_succ, List.getElem_cons_zero, List.setIfInBounds_toArray, List.set_cons_zero, List.set_cons_succ])
              refine wpAnyH_take (i := 4) (v := ?_) rfl (by kernel_rfl) (by kernel_rfl) (by kernel_rfl) (fun _ _ _ h => h) (Or.inl ⟨by rfl, ?hy⟩) (by assumption) ?_
              case hy => (intro w9 hSw; (try dsimp only at hSw); go_simp; (try with_reducible rfl))
              (try simp only [Act.put, List.getElem_toArray, List.getElem_cons_succ, List.getElem_cons_zero, List.setIfInBounds_toArray, List.set_cons_zero, List.set_cons_succ])
              refine wpAnyH_take (i := 5) (v := undef) rfl (by kernel_rfl) (by kernel_rfl) (by kernel_rfl) (fun _ _ _ h => h) (Or.inr ⟨by rfl, rfl⟩) (by assumption) ?_
              (try simp only [Act.put, List.getElem_toArray, List.getElem_cons_succ, List.getElem_cons_zero, List.setIfInBounds_toArray, List.set_cons_zero, List.set_cons_succ])
              refine wpAnyH_take (i := 6) (v := undef) rfl (by kernel_rfl) (by kernel_rfl) (by kernel_rfl) (fun _ _ _ h => h) (Or.inr ⟨by rfl, rfl⟩) (by assumption) ?_
              (try simp only [Act.put, List.getElem_toArray, List.getElem_cons_succ, List.getElem_cons_zero, List.setIfInBounds_toArray, List.set_cons_zero, List.set_cons_succ])
              refine wpAnyH_take (i := 7) (v := undef) rfl (by kernel_rfl) (by kernel_rfl) (by kernel_rfl) (fun _ _ _ h => h) (Or.inr ⟨by rfl, rfl⟩) (by assumption) ?_
              (try simp only [Act.put, List.getElem_toArray, List.getElem_cons_succ, List.getElem_cons_zero, List.setIfInBounds_toArray, List.set_cons_zero, List.set_cons_succ])
              refine wpAnyH_take (i := 8) (v := undef) rfl (by kernel_rfl) (by kernel_rfl) (by kernel_rfl) (fun _ _ _ h => h) (Or.inr ⟨by rfl, rfl⟩) (by assumption) ?_
              (try simp only [Act.put, List.getElem_toArray, List.getElem_cons_succ, List.getElem_cons_zero, List.setIfInBounds_toArray, List.set_cons_zero, List.set_cons_succ])
              refine wpAnyH_take (i := 9) (v := undef) rfl (by kernel_rfl) (by kernel_rfl) (by kernel_rfl) (fun _ _ _ h => h) (Or.inr ⟨by rfl, rfl⟩) (by assumption) ?_
              (try simp only [Act.put, List.getElem_toArray, List.getElem_cons_succ, List.getElem_cons_zero, List.setIfInBounds_toArray, List.set_cons_zero, List.set_cons_succ])
              refine wpAnyH_take (i := 10) (v := undef) rfl (by kernel_rfl) (by kernel_rfl) (by kernel_rfl) (fun _ _ _ h => h) (Or.inr ⟨by rfl, rfl⟩) (by assumption) ?_
              (try simp only [Act.put, List.getElem_toArray, List.getElem_cons_succ, List.getElem_cons_zero, List.setIfInBounds_toArray, List.set_cons_zero, List.set_cons_succ])
              refine wpAnyH_take (i := 11) (v := ?_) rfl (by kernel_rfl) (by kernel_rfl) (by kernel_rfl) (fun _ _ _ h => h) (Or.inl ⟨by rfl, ?hy⟩) (by assumption) ?_
              case hy => (intro w9 hSw; (try dsimp only at hSw); go_simp; (try with_reducible rfl))
              (try simp only [Act.put, List.getElem_toArray, List.getElem_cons_succ, List.getElem_cons_zero, List.setIfInBounds_toArray, List.set_cons_zero, List.set_cons_succ])
              refine wpAnyH_done (by kernel_rfl) ?_ _
              go_wp2_with fail
              go_meet
              exact ⟨rfl, Hba.out⟩
            · go_region_held3 (fun w' => w'.cell? ⟨w.heap.size, 0, none⟩ = some (.int .i64 s) ∧ w'.cell? ⟨w.heap.size, 1, none⟩ = some (.slice A n c)) (first | exact ⟨x0, x1⟩ | go_keep) (first | (go_at_call 70; refine (i_touches s x' _ B wo.heap.size A _ n c nj cj cs g H4.out HG4.out (by omega) (by omega) h1 h2 Hn.out Hgi.out hnj).mono ?_; rintro e yb ⟨rfl, hb⟩; rw [Ht2.out]; have Hbb : Hid (Below wo.heap.size wo yb) := Lib.hid (Hba.out.trans (hb.mono (by omega))); clear x0 x1; have x0 := (X4.out.below hb (by omega)).cell0; have x1 := (X4.out.below hb (by omega)).cell1; clear hb) | (go_at_call 70; refine (i_touches s x _ B wo.heap.size A _ n c nj cj cs g (by exact H3.out) (by exact HG.out) (by show B ≤ wo.heap.size; omega) (by show wo.heap.size ≤ wo.heap.size; omega) h1 h2 Hn.out Hgi.out hnj).mono ?_; rintro e ya ⟨rfl, hb⟩; rw [Ht1.out]; have Hba : Hid (Below wo.heap.size wo ya) := Lib.hid ⟨hb.os, hb.tape, hb.output, hb.size, hb.block⟩; clear hb; have H4 := Lib.hid (H3.out.below Hba.out (by omega)); have HG4 := Lib.hid (HG.out.below Hba.out (Nat.le_refl _)); have X4 := Lib.hid (X3.out.below Hba.out xl); have hza := Hba.out.size; clear x0 x1; have x0 := X4.out.cell0; have x1 := X4.out.cell1) | (go_at_call 43; refine (i_other x _).mono ?_; rintro e w9 ⟨rfl, rfl⟩; rw [Hot.out]))
              all_goals go_wp2_with fail
              all_goals go_meet
              all_goals exact ⟨rfl, Hbb.out⟩
          case rest =>
            obtain ⟨rfl, hb⟩ := hcut
            obtain ⟨yc, rfl⟩ : ∃ yc : World, yc = wc := ⟨_, rfl⟩
            have hz4 := hb.size
            have Ho4 := Lib.hid (Ho.out.below hb)
            have HG4 := Lib.hid (HG.out.below hb (Nat.le_refl _))
            have Hbr4 := Lib.hid (Hbr.out.trans (hb.mono (by omega)))
            have Hown : Hid (ownR s cs x g = (t1 && !t2)) := Lib.hid (by unfold ownR; rw [Hx'.out, Ht1.out, Ht2.out])
            clear hb x0 x1
            rcases Bool.eq_false_or_eq_true (t1 && !t2) with hoo | hoo
            · have Htg2 : Hid (TG s n cs x ls (k + 1) (l0 ++ g)) := Lib.hid (by
                have h9 := Htg.out.add hkl (by rw [Hgg.out, Hown.out]; exact hoo) Hap.out (S' := S') HS'.out
                rw [Hgg.out] at h9; exact h9)
              rw [hoo]
              clear hoo
              go_wp2_with (at_builtin; refine appAll rfl _ _ rfl _ _ _ _ _ _ _ _ _ _ _ rfl rfl Ho4.out HG4.out (by omega) (by omega) ?_; intro A9 c9 w9 ho9 hb9 hg9)
              have Ho9 := Lib.hid ho9
              have Hb9 := Lib.hid (Hbr4.out.trans (hb9.mono (Nat.le_refl _)))
              clear ho9 hb9 hg9
              go_roundw
              case rel => exact ⟨k + 1, _, _, _, _, by omega, by go_num, rfl, Ho9.out, Htg2.out, Hb9.out⟩
              case measure => simp [intOf]; omega
            · have Htg2 : Hid (TG s n cs x ls (k + 1) l0) := Lib.hid (Htg.out.skip hkl (by rw [Hgg.out, Hown.out]; exact hoo))
              rw [hoo]
              clear hoo
              go_wp2_with fail
              go_roundw
              case rel => exact ⟨k + 1, _, _, _, _, by omega, by go_num, rfl, Ho4.out, Htg2.out, Hbr4.out⟩
              case measure => simp [intOf]; omega
        · have Hdone : Hid ((l0.mergeSort fun x y => decide (x ≤ y)) = l) := Lib.hid (by
            have h9 := Htg.out
            rw [show k = ls.length by rw [Hml.out]; omega] at h9
            rw [Hl0.out]
            exact h9.done HTM.out)
          have Hbw := Lib.hid (Hb2.out.trans (Hbr.out.mono (by omega)))
          by_cases hm0 : m = 0
          · subst hm0
            have hl00 : l0 = [] := List.eq_nil_of_length_eq_zero Ho.out.1
            have Hfin : Hid (Own wo y2.heap.size A' 0 c' l) := Lib.hid (by rw [← Hdone.out, hl00, List.mergeSort_nil]; have h9 := Ho.out; rw [hl00] at h9; exact h9)
            clear hl00
            go_wp2_with fail
            refine (i_sortNil _ _ _).mono ?_
            rintro e w9 ⟨rfl, rfl⟩
            go_wp2_with fail
            go_ret
            exact ⟨_, _, _, rfl, Hfin.out.weaken (by omega), Hbw.out⟩
          · obtain ⟨gp, hP⟩ : ∃ gp, A' = some ⟨gp, 0, none⟩ := by
              obtain ⟨q, cap, hv, _⟩ := World.ownsRow.form Ho.out.2 (by omega)
              exact ⟨q, by injection hv⟩
            subst hP
            have hgp := Ho.out.ge rfl
            go_wp2_with fail
            refine (i_sortI _ _ gp m _ l0 Ho.out (by omega)).mono ?_
            rintro e w9 ⟨rfl, hos, hgs⟩
            have Hfin : Hid (Own w9 y2.heap.size (some ⟨gp, 0, none⟩) m c' l) := Lib.hid (by rw [← Hdone.out]; exact hos)
            have Hbf := Lib.hid (Hbw.out.grown hgs (by omega) (fun q e => by injection e with e; omega))
            clear hos hgs
            go_wp2_with fail
            go_ret
            exact ⟨_, _, _, rfl, Hfin.out.weaken (by omega), Hbf.out⟩
    · have Hnil := Lib.hid (Hl.out.2 (by unfold okGs; rw [hv, hx]; rfl))
      go_enter Try.func45, Try.ntmps45
      go_wp2_with fail
      refine (i_validBoard _ _ _ _ _ _ _ H.out (by simp; omega) (by omega)).mono ?_
      rintro e y ⟨rfl, hb⟩
      rw [hv]
      clear hv
      have Hb := Lib.hid (Hb.out.trans (hb.mono (by simp)))
      clear hb
      go_wp2_with fail
      refine (i_stone _ _).mono ?_
      rintro e w' ⟨rfl, rfl⟩
      rw [hx]
      clear hx
      go_wp2_with fail
      go_ret
      exact ⟨_, _, _, rfl, by rw [Hnil.out]; exact Own.nil _ _, Hb.out⟩
  · have Hnil := Lib.hid (Hl.out.2 (by unfold okGs; rw [hv]; rfl))
    go_enter Try.func45, Try.ntmps45
    go_wp2_with fail
    refine (i_validBoard _ _ _ _ _ _ _ H.out (by simp; omega) (by omega)).mono ?_
    rintro e y ⟨rfl, hb⟩
    rw [hv]
    clear hv
    have Hb := Lib.hid (Hb.out.trans (hb.mono (by simp)))
    clear hb
    go_wp2_with fail
    go_ret
    exact ⟨_, _, _, rfl, by rw [Hnil.out]; exact Own.nil _ _, Hb.out⟩

end Go.Proofs.Ytniddfoiakbfdaa

namespace Go.Proofs.Ytniddfoiakbfdaa
set_option maxRecDepth 100000
open Go.RowKit

def cnt (x : Int) (cs : List Int) : Int := ((cs.filter fun c => c == x).length : Nat)
theorem cnt_bd (x : Int) (cs : List Int) : 0 ≤ cnt x cs ∧ cnt x cs ≤ cs.length := by
  unfold cnt
  have := List.length_filter_le (fun c => c == x) cs
  omega
theorem cnt_yes {x : Int} {cs : List Int} {k : Nat} (h : k < cs.length) (hx : (cs.getD k 0 == x) = true) : cnt x (cs.take (k + 1)) = cnt x (cs.take k) + 1 := by
  have e : cs.getD k 0 = cs[k] := by simp [List.getD_eq_getElem?_getD, List.getElem?_eq_getElem h]
  rw [e] at hx
  unfold cnt
  rw [List.take_succ_eq_append_getElem h, List.filter_append, List.length_append, List.filter_cons, hx]
  simp
theorem cnt_no {x : Int} {cs : List Int} {k : Nat} (h : k < cs.length) (hx : (cs.getD k 0 == x) = false) : cnt x (cs.take (k + 1)) = cnt x (cs.take k) := by
  have e : cs.getD k 0 = cs[k] := by simp [List.getD_eq_getElem?_getD, List.getElem?_eq_getElem h]
  rw [e] at hx
  unfold cnt
  rw [List.take_succ_eq_append_getElem h, List.filter_append, List.length_append, List.filter_cons, hx]
  simp

theorem i_cnt (w : World) (B : Nat) (A : Option Addr) (n c : Nat) (cs : List Int) (x : Int) (h : Ints w B A n cs) (hn : n ≤ 1000000000) :
    Calls Try.prog 68 #[.slice A n c, .int .i64 x] w fun e w' => e = .returned (.int .i64 (cnt x cs)) ∧ w = w' := by
  have hl := h.1
  rcases h.2 with rfl | ⟨b, o, rfl, hlt, hc⟩
  · have hx : cs = [] := List.eq_nil_of_length_eq_zero hl
    subst hx
    clear h hl
    go_enter Try.func68, Try.ntmps68
    go_wp2_with fail
    go_rounds 1
    go_ret
    exact ⟨rfl, rfl⟩
  · have Hc := Lib.hid hc
    have Hl := Lib.hid hl
    clear hc h hl
    go_enter Try.func68, Try.ntmps68
    go_wp2_with fail
    go_loop [5, 10] (fun m i => ∃ k : Nat, k ≤ n ∧ i = .int .i64 k ∧ m = .int .i64 (cnt x (cs.take k))) (fun _ i => n - (intOf i).toNat)
    case atStart => exact ⟨0, by omega, rfl, rfl⟩
    case round =>
      obtain ⟨k, hk, rfl, rfl⟩ := hrel
      obtain ⟨b1, b2⟩ := cnt_bd x (cs.take k)
      have b3 : ((cs.take k).length : Int) ≤ k := by rw [List.length_take]; omega
      by_cases hlt : k < n
      · have c1 := Hc.out k hlt
        have hy := Lib.hid (cnt_yes (x := x) (cs := cs) (k := k) (by rw [Hl.out]; exact hlt))
        have hno := Lib.hid (cnt_no (x := x) (cs := cs) (k := k) (by rw [Hl.out]; exact hlt))
        obtain ⟨y, hyy⟩ : ∃ y, cs.getD k 0 = y := ⟨_, rfl⟩
        rw [hyy] at c1 hy hno
        clear hyy
        rcases Bool.eq_false_or_eq_true (y == x) with ht | ht
        · have Hy := Lib.hid (hy.out ht)
          clear hy hno
          go_wp2_with fail
          go_round
          case rel => exact ⟨k + 1, by omega, by go_num, by rw [Hy.out]⟩
          case measure => simp [intOf]; omega
        · have Hy := Lib.hid (hno.out ht)
          clear hy hno
          go_wp2_with fail
          go_round
          case rel => exact ⟨k + 1, by omega, by go_num, by rw [Hy.out]⟩
          case measure => simp [intOf]; omega
      · have hf : cnt x (cs.take k) = cnt x cs := by rw [List.take_of_length_le (by rw [Hl.out]; omega)]
        have Hf := Lib.hid hf
        clear hf
        go_wp2_with fail
        go_ret
        exact ⟨ret_int Hf.out, rfl⟩

theorem s_cnt (s : Int) (w : World) (B : Nat) (A : Option Addr) (n c : Nat) (cs : List Int) (x : Int) (h : Ints w B A n cs) (hB : B ≤ w.heap.size) (hn : n ≤ 1000000000) :
    Calls Try.prog 24 #[.agg #[.int .i64 s, .slice A n c], .int .i64 x] w fun e w' => e = .returned (.int .i64 (cnt x cs)) ∧ Below w.heap.size w w' := by
  have hb1 : Below w.heap.size w (w.alloc (.cells #[.int .i64 s, .slice A n c] 25)) := (Below.refl _ _).alloc (Nat.le_refl _) _
  have h1 := h.below hb1 hB
  have Hb := Lib.hid hb1
  have hl := h.1
  clear hb1
  rcases h1.2 with h0 | ⟨b, o, hA, hlt, hc⟩
  · subst h0
    have hx : cs = [] := List.eq_nil_of_length_eq_zero hl
    subst hx
    clear h hl h1
    go_enter Try.func24, Try.ntmps24
    go_wp2_with fail
    go_rounds 1
    go_ret
    exact ⟨rfl, Hb.out⟩
  · have HA := Lib.hid hA
    subst hA
    have Hc := Lib.hid hc
    have Hl := Lib.hid hl
    have Bxx := Lib.hid (Bx.new 25 w s (.slice (some ⟨b, o, none⟩) n c))
    clear hc h hl h1 HA
    go_enter Try.func24, Try.ntmps24
    go_wp2_with fail
    have v1 := Bxx.out.cell1
    go_loop [5, 6] (fun m i => ∃ k : Nat, k ≤ n ∧ i = .int .i64 k ∧ m = .int .i64 (cnt x (cs.take k))) (fun _ i => n - (intOf i).toNat)
    case atStart => exact ⟨0, by omega, rfl, rfl⟩
    case round =>
      obtain ⟨k, hk, rfl, rfl⟩ := hrel
      obtain ⟨b1, b2⟩ := cnt_bd x (cs.take k)
      have b3 : ((cs.take k).length : Int) ≤ k := by rw [List.length_take]; omega
      by_cases hlt : k < n
      · have c1 := Hc.out k hlt
        have hy := Lib.hid (cnt_yes (x := x) (cs := cs) (k := k) (by rw [Hl.out]; exact hlt))
        have hno := Lib.hid (cnt_no (x := x) (cs := cs) (k := k) (by rw [Hl.out]; exact hlt))
        obtain ⟨y, hyy⟩ : ∃ y, cs.getD k 0 = y := ⟨_, rfl⟩
        rw [hyy] at c1 hy hno
        clear hyy
        rcases Bool.eq_false_or_eq_true (y == x) with ht | ht
        · have Hy := Lib.hid (hy.out ht)
          clear hy hno
          go_wp2_with fail
          go_round
          case rel => exact ⟨k + 1, by omega, by go_num, by rw [Hy.out]⟩
          case measure => simp [intOf]; omega
        · have Hy := Lib.hid (hno.out ht)
          clear hy hno
          go_wp2_with fail
          go_round
          case rel => exact ⟨k + 1, by omega, by go_num, by rw [Hy.out]⟩
          case measure => simp [intOf]; omega
      · have hf : cnt x (cs.take k) = cnt x cs := by rw [List.take_of_length_le (by rw [Hl.out]; omega)]
        have Hf := Lib.hid hf
        clear hf
        go_wp2_with fail
        go_ret
        exact ⟨ret_int Hf.out, Hb.out⟩

def cntB (s : Int) (cs : List Int) (x : Int) : Int := if Bd.okB s cs then cnt x cs else -1

theorem i_count (s : Int) (w : World) (B : Nat) (A : Option Addr) (n c : Nat) (cs : List Int) (x : Int) (h : Ints w B A n cs) (hB : B ≤ w.heap.size) (hn : n ≤ 1000000000) :
    Calls Try.prog 44 #[.agg #[.int .i64 s, .slice A n c], .int .i64 x] w fun e w' => e = .returned (.int .i64 (cntB s cs x)) ∧ Below w.heap.size w w' := by
  have hb1 : Below w.heap.size w (w.alloc (.cells #[.int .i64 s, .slice A n c] 25)) := (Below.refl _ _).alloc (Nat.le_refl _) _
  have H := Lib.hid (h.below hb1 hB)
  have Hb := Lib.hid hb1
  have Bxx := Lib.hid (Bx.new 25 w s (.slice A n c))
  clear hb1 h
  by_cases hv : Bd.okB s cs = true
  · have Hf := Lib.hid (show cntB s cs x = cnt x cs by rw [cntB, if_pos hv])
    go_enter Try.func44, Try.ntmps44
    go_wp2_with fail
    refine (i_validBoard _ _ _ _ _ _ _ H.out (by simp; omega) hn).mono ?_
    rintro e y ⟨rfl, hb⟩
    have v0 := (Bxx.out.below hb (by simp)).cell0
    have v1 := (Bxx.out.below hb (by simp)).cell1
    have H2 := Lib.hid (H.out.below hb (by simp; omega))
    have Hb2 := Lib.hid (Hb.out.trans (hb.mono (by simp)))
    clear hb
    rw [hv]
    go_wp2_with fail
    refine (i_cnt _ _ _ _ _ _ _ H2.out hn).mono ?_
    rintro e y2 ⟨rfl, rfl⟩
    go_wp2_with fail
    go_ret
    exact ⟨ret_int Hf.out.symm, Hb2.out⟩
  · have hv' : Bd.okB s cs = false := by simpa using hv
    have Hf := Lib.hid (show cntB s cs x = -1 by rw [cntB, if_neg hv])
    go_enter Try.func44, Try.ntmps44
    go_wp2_with fail
    refine (i_validBoard _ _ _ _ _ _ _ H.out (by simp; omega) hn).mono ?_
    rintro e y ⟨rfl, hb⟩
    have Hb2 := Lib.hid (Hb.out.trans (hb.mono (by simp)))
    clear hb hv
    rw [hv']
    go_wp2_with fail
    go_ret
    exact ⟨ret_int Hf.out.symm, Hb2.out⟩
end Go.Proofs.Ytniddfoiakbfdaa

namespace Go.Proofs.Ytniddfoiakbfdaa
set_option maxRecDepth 100000
open Go.RowKit

/-- The points of a color by area. -/
def arP (s : Int) (n : Nat) (cs : List Int) (x y : Int) : Prop := ∃ l, TrIs s n cs x l ∧ y = cnt x cs + (l.length : Nat)
/-- The score by area: -1 for boards that are not valid. -/
def ArIs (s : Int) (n : Nat) (cs : List Int) (x y : Int) : Prop := (Bd.okB s cs = true → arP s n cs 1 x ∧ arP s n cs 2 y) ∧ (Bd.okB s cs = false → x = -1 ∧ y = -1)
theorem arP.make (s : Int) (n : Nat) (cs : List Int) (x : Int) (hn : cs.length = n) : ∃ y, arP s n cs x y := by
  obtain ⟨l, hl⟩ := TrIs.make s n cs x hn
  exact ⟨_, l, hl, rfl⟩
theorem ArIs.make (s : Int) (n : Nat) (cs : List Int) (hn : cs.length = n) : ∃ x y, ArIs s n cs x y := by
  rcases Bool.eq_false_or_eq_true (Bd.okB s cs) with e | e
  · obtain ⟨x, hx⟩ := arP.make s n cs 1 hn
    obtain ⟨y, hy⟩ := arP.make s n cs 2 hn
    exact ⟨x, y, fun _ => ⟨hx, hy⟩, fun h => absurd (e.symm.trans h) (by decide)⟩
  · exact ⟨-1, -1, fun h => absurd (e.symm.trans h) (by decide), fun _ => ⟨rfl, rfl⟩⟩
theorem ar_wrap {a : Int} {m : Nat} (h0 : 0 ≤ a) (h1 : a ≤ 49) (h2 : m ≤ 49) : IntKind.i64.wrap (a + (m : Nat)) = a + (m : Nat) := by
  simp [IntKind.wrap, IntKind.bits, IntKind.signed]; omega
theorem ret2_int {a b c d : Int} (h : a = b) (k : c = d) : Ending.returned (.tuple #[.int .i64 a, .int .i64 c]) = .returned (.tuple #[.int .i64 b, .int .i64 d]) := by rw [h, k]
theorem cntB_okA {s x : Int} {cs : List Int} (h : Bd.okB s cs = true) : cntB s cs x = cnt x cs := by rw [cntB, if_pos h]

end Go.Proofs.Ytniddfoiakbfdaa

