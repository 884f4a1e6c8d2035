/-
  The program's 'takePart': a point and all that are connected with it leave an area, and are listed in order.
-/
import Derived.Test.YtkjlcokbgpnejaaPaP
import Derived.Test.YtkjlcokbgpnejaaSrt
import Derived.Test.YtkjlcokbgpnejaaFlood
import Derived.Test.YtkjlcokbgpnejaaNextTo
import Derived.Test.YtkjlcokbgpnejaaNbImpl
namespace Go.Proofs.Ytkjlcokbgpnejaa
set_option maxRecDepth 100000
open Go.RowKit

theorem gfar {w a b : World} {ga : Nat} {r : Option Nat} (h : w.grownBy a (some ga)) (hb : a.grownBy b r) (hr : ∀ k, r = some k → w.heap.size ≤ k) : w.grownBy b (some ga) :=
  ⟨hb.os.trans h.os, hb.tape.trans h.tape, hb.output.trans h.output, Nat.le_trans h.size hb.size, fun k hk hne => (hb.block k (Nat.lt_of_lt_of_le hk h.size) (fun e => by have := hr k e.symm; omega)).trans (h.block k hk hne)⟩
theorem gsetT {w a : World} {ga : Nat} (h : w.grownBy a (some ga)) (j : Nat) (u : Value) : w.grownBy (a.setCell ⟨ga, j, none⟩ u) (some ga) :=
  gtrans h ⟨rfl, rfl, rfl, by simp [World.setCell], fun k _ hk => Below.heap_setCell a ⟨ga, j, none⟩ u k (fun e => hk (by rw [e]))⟩

def TkOut (w : World) (s : Int) (n : Nat) (a : List Bool) (p ga : Nat) (k : Nat) (v7 v8 : Value) (wr : World) : Prop :=
  ∃ P mp cp pt A m c st S ar, v7 = .slice P mp cp ∧ v8 = .slice A m c ∧ k = 2 * Fl.dark S + m ∧ k ≤ 200 ∧ Own wr w.heap.size P mp cp pt ∧ Own wr w.heap.size A m c st ∧ (∀ g, P = some ⟨g, 0, none⟩ → A ≠ some ⟨g, 0, none⟩) ∧
    Bl wr ga ar ∧ Fl.Inv s n a (p : Int) S st ∧ Pa.TS n a S st pt ar ∧ w.grownBy wr (some ga)

def TkIn (w wo y : World) (s : Int) (n : Nat) (a : List Bool) (p ga : Nat) (q : Int) (K n2 c2 mp cp : Nat) (A2 P : Option Addr) (pt : List Int) (v8 i : Value) (wi : World) : Prop :=
  ∃ j A m c st S ar, j ≤ n2 ∧ i = .int .i64 (j : Nat) ∧ v8 = .slice A m c ∧ 2 * Fl.dark S + m ≤ K ∧ Own wi w.heap.size A m c st ∧ (∀ g, A = some ⟨g, 0, none⟩ → (g < wo.heap.size ∧ P ≠ some ⟨g, 0, none⟩) ∨ y.heap.size ≤ g) ∧
    Bl wi ga ar ∧ Fl.InvQ s n a (p : Int) q j S st ∧ Pa.TS n a S st pt ar ∧ w.grownBy wi (some ga) ∧ Own wi w.heap.size P mp cp pt ∧ Own wi wo.heap.size A2 n2 c2 (Pt.nbs s q) ∧ y.heap.size ≤ wi.heap.size

/-- What 'takePart' leads to. -/
def Taken (w : World) (s : Int) (n : Nat) (a : List Bool) (p ga : Nat) (e : Ending) (w' : World) : Prop :=
  ∃ A m c S ar, e = .returned (.slice A m c) ∧ Own w' w.heap.size A m c (Fl.pts S n) ∧ S.length = n ∧ (∀ y, 0 ≤ y → (Fl.at_ S y = true ↔ Fl.Reach s a (p : Int) y)) ∧ Bl w' ga ar ∧ ar.length = n ∧ (∀ q, q < n → ar.getD q false = (a.getD q false && !S.getD q false)) ∧ w.grownBy w' (some ga)

set_option maxRecDepth 100000 in
set_option maxHeartbeats 8000000 in
theorem i_takePart (s : Int) (p : Nat) (w : World) (ga n : Nat) (a : List Bool) (h1 : 1 ≤ s) (h2 : s ≤ 7) (hn : (n : Int) = s * s) (hp : p < n) (ha : a.getD p false = true) (hal : a.length = n) (hbl : Bl w ga a) :
    Calls Try.prog 90 #[.int .i64 s, .slice (some ⟨ga, 0, none⟩) n n, .int .i64 (p : Nat)] w fun e w' => Taken w s n a p ga e w' := by
  have hsq := Pt.sq_bd s h1 h2
  have Hnn := Lib.hid (nbs_in h1 h2 hn)
  have hn49 : n ≤ 49 := by omega
  have hga := hbl.lt
  have Hn := Lib.hid hn
  have Hal := Lib.hid hal
  have hpi : (p : Int) < n := by omega
  have Hst := Lib.hid (Fl.Inv.start (s := s) (keep := a) (p := (p : Int)) (n := n) ⟨by omega, by omega⟩)
  have Hts := Lib.hid (Pa.TS.start hal hp)
  have Hbl0 := Lib.hid hbl
  have Hpa := Lib.hid ha
  clear hn hal hbl ha
  go_enter Try.func90, Try.ntmps90
  go_upto_region 3 with (fail)
  obtain ⟨w2, hw2⟩ : ∃ w2, w2 = w.alloc (.cells #[.int .i64 (p : Int)] 3) := ⟨_, rfl⟩
  have hz2 : w.heap.size < w2.heap.size := by rw [hw2]; simp
  have Ho : Hid (Own w2 w.heap.size (some ⟨w.heap.size, 0, none⟩) 1 1 [(p : Int)]) := Lib.hid (by rw [hw2]; exact Own.one w _ _ (Nat.le_refl _))
  have Hbl : Hid (Bl w2 ga a) := Lib.hid (by rw [hw2]; exact Hbl0.out.alloc _)
  have Hg : Hid (w.grownBy w2 (some ga)) := Lib.hid (by rw [hw2]; exact World.grownBy_alloc w _ _)
  rw [← hw2]
  clear hw2 Hbl0
  have hc := Hbl.out.cell (j := p) (by rw [Hal.out]; exact hp)
  have hf := Hbl.out.frozen p
  have Hbl3 := Lib.hid (Hbl.out.set_ p false)
  have Ho3 := Lib.hid (Ho.out.far ⟨ga, p, none⟩ (fun g hA => by have := (Ho.out.ge hA).1; show g ≠ ga; omega) (.bool false))
  have Hg3 := Lib.hid (gsetT Hg.out p (.bool false))
  have Hpt := Lib.hid (Own.nil (w2.setCell ⟨ga, p, none⟩ (.bool false)) w.heap.size)
  clear Hbl Ho Hg
  go_wp2_with fail
  clear hc hf
  go_loopg [7, 8] (2 * Fl.dark ((List.replicate n false).set p true) + 1) (fun k v7 v8 wr => TkOut w s n a p ga k v7 v8 wr)
  case atStart => exact ⟨_, _, _, _, _, _, _, _, _, _, rfl, rfl, rfl, by have := dark_le ((List.replicate n false).set p true); rw [List.length_set, List.length_replicate] at this; omega, Hpt.out, Ho3.out, (fun g e => by cases e), Hbl3.out, Hst.out, Hts.out, Hg3.out⟩
  case round =>
    clear Ho3 Hbl3 Hg3 Hst Hts Hpt
    obtain ⟨P, mp, cp, pt, A, m, cc, st, S, ar, rfl, rfl, hgk, hgk2, hop, ho, hap, hbl, hinv, hts, hg⟩ := hrel
    have hm200 : m ≤ 200 := by omega
    have Hgk := Lib.hid hgk
    have Hop := Lib.hid hop
    have Ho := Lib.hid ho
    have Hap := Lib.hid hap
    have Hbl := Lib.hid hbl
    have Hinv := Lib.hid hinv
    have Hts := Lib.hid hts
    have Hg := Lib.hid hg
    have hzr := hg.size
    have hgr := hbl.lt
    have hmp : mp ≤ 49 := by
      have h9 := hts.perm.length_eq
      rw [List.length_append, hop.1] at h9
      have := Fl.pts_len S n
      omega
    clear hgk hop ho hap hbl hinv hts hg
    by_cases hm0 : m = 0
    · have hst0 : st = [] := List.eq_nil_of_length_eq_zero (by rw [Ho.out.1]; exact hm0)
      have Hall := Lib.hid (show ∀ y, 0 ≤ y → (Fl.at_ S y = true ↔ Fl.Reach s a (p : Int) y) by
        have := Hinv.out
        rw [hst0] at this
        exact fun y hy => this.all Hnn.out ⟨by omega, hpi⟩ y hy)
      have Hperm : Hid (pt.Perm (Fl.pts S n)) := Lib.hid (by have h9 := Hts.out.perm; rw [hst0, List.append_nil] at h9; exact h9)
      have hmp1 : 0 < mp := by
        have h9 := Hperm.out.length_eq
        rw [Hop.out.1] at h9
        have hm : (p : Int) ∈ Fl.pts S n := Pa.pts_mem.2 ⟨p, hp, by have := (Hall.out (p : Int) (by omega)).2 .base; unfold Fl.at_ at this; rw [Int.toNat_natCast] at this; exact this, rfl⟩
        have := List.length_pos_of_mem hm
        omega
      obtain ⟨gp, hP⟩ : ∃ gp, P = some ⟨gp, 0, none⟩ := by
        obtain ⟨g, cap, hv, _⟩ := World.ownsRow.form Hop.out.2 (by omega)
        exact ⟨g, by injection hv⟩
      subst hP
      have hgp := Hop.out.ge rfl
      have Hlen := Lib.hid Hinv.out.len
      clear hst0
      subst hm0
      go_wp2_with fail
      refine (i_sortI wr _ gp mp _ pt Hop.out (by omega)).mono ?_
      rintro e y ⟨rfl, hos, hgs⟩
      have Hos : Hid (Own y w.heap.size (some ⟨gp, 0, none⟩) mp cp (Fl.pts S n)) := Lib.hid (by rw [← Pa.sort_pts Hperm.out]; exact hos)
      have Hbs := Lib.hid (Hbl.out.grown hgs (fun e => by injection e; omega))
      have Hgs := Lib.hid (gfar Hg.out hgs (fun k e => by injection e; omega))
      clear hos hgs
      go_wp2_with fail
      go_ret
      exact ⟨_, _, _, _, _, rfl, Hos.out, Hlen.out, Hall.out, Hbs.out, Hts.out.alen, Hts.out.area, Hgs.out⟩
    · obtain ⟨m', rfl⟩ : ∃ m', m = m' + 1 := ⟨m - 1, by omega⟩
      have hst : ∃ st' q, st = st' ++ [q] := ⟨st.dropLast, st.getLast (by intro e; have := Ho.out.1; rw [e] at this; simp at this), (List.dropLast_concat_getLast _).symm⟩
      obtain ⟨st', q, rfl⟩ := hst
      obtain ⟨ba, hA⟩ : ∃ ba, A = some ⟨ba, 0, none⟩ := by
        obtain ⟨g, cap, hv, _⟩ := World.ownsRow.form Ho.out.2 (by omega)
        exact ⟨g, by injection hv⟩
      subst hA
      have ha1 := (Ho.out.ge rfl).1
      have ha2 := (Ho.out.ge rfl).2
      have hcap := Ho.out.cap
      have Hq := Lib.hid (Hinv.out.pop)
      have Ht := Lib.hid (Hts.out.pop)
      have hq0 := Hq.out.q0
      have hqn := Hq.out.qn
      have hls : st'.length = m' := by have := Ho.out.1; rw [List.length_append] at this; simpa using this
      have hcell : wr.cell? ⟨ba, m', none⟩ = some (.int .i64 q) := by
        have := World.ownsRow.cellAt Ho.out.2 m' (by omega)
        rw [this, List.map_append, List.getElem?_append_right (by rw [List.length_map]; omega), List.length_map, hls, Nat.sub_self]
        rfl
      have Hsp := Lib.hid Ho.out.pop
      have hm1 : (0 : Int) < ((m' + 1 : Nat) : Int) := by omega
      have e1 : IntKind.i64.wrap (((m' + 1 : Nat) : Int) - 1) = (m' : Nat) := by simp [IntKind.wrap, IntKind.bits, IntKind.signed]; omega
      have e2 : ((m' + 1 : Nat) : Int) - 1 = (m' : Nat) := by omega
      clear hls hm0
      go_wp2_with (at_builtin; refine app1at rfl _ _ rfl wr w.heap.size P mp cp pt q _ rfl rfl rfl Hop.out hzr (by omega) ?_; intro P' cp' w9 hown hlt9 hg9 hloc9)
      have hgR := gfar Hg.out hg9 (fun k e => (World.ownsRow.lt Hop.out.2 k e).1)
      have hsR : Own w9 w.heap.size (some ⟨ba, 0, none⟩) m' cc st' := Hsp.out.kept hg9 (fun g e e2 => Hap.out g (own_block Hop.out e2) e)
      have hblR : Bl w9 ga ar := Hbl.out.grown hg9 (fun e => by have := (World.ownsRow.lt Hop.out.2 ga e.symm).1; omega)
      have hapR : ∀ g, P' = some ⟨g, 0, none⟩ → g ≠ ba := fun g e => by
        rcases hloc9 g e with h | h
        · intro e9; subst e9; exact Hap.out g (own_block Hop.out h) rfl
        · omega
      have HgR := Lib.hid hgR
      have HsR := Lib.hid hsR
      have HblR := Lib.hid hblR
      have HapR := Lib.hid hapR
      have HpR := Lib.hid hown
      have hz9 := hgR.size
      have hba9 := (hsR.ge rfl).2
      clear hgR hsR hblR hapR hown hg9 hloc9 hcell Hop Ho Hap Hbl Hg Hsp
      go_wp2_with fail
      refine (i_nbs s q _ h1 h2 hq0 (by have := Hn.out; omega)).mono ?_
      rintro e y ⟨A2, n2, c2, rfl, ho2, hb2⟩
      have hn2 : n2 ≤ 4 := by have := ho2.1; have := nbs_few s q; omega
      have hzy := hb2.size
      have HsY := Lib.hid (HsR.out.below hb2)
      have HblY := Lib.hid (HblR.out.below hb2 (by omega))
      have HgY := Lib.hid (gtrans HgR.out (gbelow (some ga) hb2 (Nat.le_refl _)))
      have HpY := Lib.hid (HpR.out.below hb2)
      have HpL := Lib.hid (fun g (e : P' = some ⟨g, 0, none⟩) => (HpR.out.ge e))
      have Ho2 := Lib.hid ho2
      have HA2 := Lib.hid (fun g (e : A2 = some ⟨g, 0, none⟩) => ho2.ge e)
      clear ho2 hb2 HsR HblR HgR HpR
      go_wp2_with fail
      go_loopw [8, 39] (fun v i wi => TkIn w w9 y s n a p ga q (gk - 1) n2 c2 (mp + 1) cp' A2 P' (pt ++ [q]) v i wi) (fun _ i _ => n2 - (intOf i).toNat)
      case atStart => exact ⟨0, _, _, _, _, _, _, by omega, rfl, rfl, by have := Hgk.out; omega, HsY.out, (fun g e => by injection e with e; injection e with e; subst e; exact .inl ⟨by omega, fun e9 => HapR.out _ e9 rfl⟩), HblY.out, Hq.out, Ht.out, HgY.out, HpY.out, Ho2.out, Nat.le_refl _⟩
      case round =>
        clear HsY HblY HgY HpY Ho2
        obtain ⟨j, A3, m3, c3, st3, S3, ar3, hj, rfl, rfl, hK, ho, hloc, hbl, hinv, hts, hg, hpo, hnb, hyi⟩ := hrel
        have hm3 : m3 ≤ 200 := by omega
        have hzi := hg.size
        have hgi := hbl.lt
        have Ho3 := Lib.hid ho
        have Hloc := Lib.hid hloc
        have Hbl3 := Lib.hid hbl
        have Hinv3 := Lib.hid hinv
        have Hts3 := Lib.hid hts
        have Hg3 := Lib.hid hg
        have Hp3 := Lib.hid hpo
        have Hnb := Lib.hid hnb
        have HK := Lib.hid hK
        clear ho hloc hbl hinv hts hg hpo hnb hK
        have hnl := Lib.hid Hnb.out.1
        by_cases hjn : j < n2
        · obtain ⟨nb, hA2⟩ : ∃ nb, A2 = some ⟨nb, 0, none⟩ := by
            obtain ⟨g, cap, hv, _⟩ := World.ownsRow.form Hnb.out.2 (by omega)
            exact ⟨g, by injection hv⟩
          have hb1 := HA2.out nb hA2
          have HA := Lib.hid hA2
          have hnbr := (Hnb.out.ge hA2).2
          have hjl : j < (Pt.nbs s q).length := by rw [hnl.out]; exact hjn
          have hcn : wr.cell? ⟨nb, j, none⟩ = some (.int .i64 ((Pt.nbs s q).getD j 0)) := by
            have h3 := Hnb.out
            rw [hA2] at h3
            exact h3.cellD j hjn
          have hmem : (Pt.nbs s q).getD j 0 ∈ Pt.nbs s q := by
            rw [List.getD_eq_getElem?_getD, List.getElem?_eq_getElem hjl]; exact List.getElem_mem _
          obtain ⟨x0, xl⟩ := Hnn.out q hq0 hqn _ hmem
          obtain ⟨x, hx⟩ : ∃ x, (Pt.nbs s q).getD j 0 = x := ⟨_, rfl⟩
          rw [hx] at hcn x0 xl
          obtain ⟨xn, rfl⟩ := Int.eq_ofNat_of_zero_le x0
          have hxn : xn < n := by omega
          have Hx := Lib.hid hx
          have cs := Hbl3.out.cell (j := xn) (by rw [Hts3.out.alen]; exact hxn)
          have fs := Hbl3.out.frozen xn
          have Hjl := Lib.hid hjl
          have hj2 : (j : Int) < n2 := by omega
          clear hmem hx hjl
          rw [hA2]
          clear hA2
          rcases Bool.eq_false_or_eq_true (ar3.getD xn false) with hsx | hsx
          · have Hi2 := Lib.hid (Hinv3.out.push (by omega) Hnn.out Hjl.out Hx.out (by unfold Fl.at_; rw [Int.toNat_natCast]; exact Hts3.out.in_ hxn hsx))
            rw [Int.toNat_natCast] at Hi2
            have Ht2 := Lib.hid (Hts3.out.push Hinv3.out.len hxn hsx)
            have hs3 : S3.getD xn false = false := by
              have h9 := Hts3.out.area xn hxn
              rw [hsx] at h9
              rcases Bool.eq_false_or_eq_true (S3.getD xn false) with e | e
              · rw [e] at h9; simp at h9
              · exact e
            have Hd := Lib.hid (Fl.dark_set (l := S3) (j := xn) (by rw [Hinv3.out.len]; exact hxn) hs3)
            rw [hsx] at cs
            clear hsx hs3
            have HoS := Lib.hid (Ho3.out.far ⟨ga, xn, none⟩ (fun g hA => by have := (Ho3.out.ge hA).1; show g ≠ ga; omega) (.bool false))
            have es : (wr.setCell ⟨ga, xn, none⟩ (.bool false)).heap.size = wr.heap.size := by simp [World.setCell]
            have Hes := Lib.hid es
            clear es
            go_wp2_with (at_builtin; refine app1at rfl _ _ rfl (wr.setCell ⟨ga, xn, none⟩ (.bool false)) _ _ _ _ _ _ _ rfl rfl Hes.out HoS.out (by rw [Hes.out]; omega) (by omega) ?_; intro A' c' w8 hown' hlt' hgrow hloc')
            rw [Hes.out] at hlt'
            have hnb9 : Own w8 w9.heap.size A2 n2 c2 (Pt.nbs s q) := (Hnb.out.far ⟨ga, xn, none⟩ (fun g e => by have := HA2.out g e; show g ≠ ga; omega) (.bool false)).kept hgrow (fun g e e2 => by
              have e4 := HA2.out g e
              rcases Hloc.out g (own_block HoS.out e2) with e3 | e3
              · omega
              · omega)
            have hp9 : Own w8 w.heap.size P' (mp + 1) cp' (pt ++ [q]) := (Hp3.out.far ⟨ga, xn, none⟩ (fun g e => by have := (HpL.out g e).1; show g ≠ ga; omega) (.bool false)).kept hgrow (fun g e e2 => by
              rcases Hloc.out g (own_block HoS.out e2) with e3 | e3
              · exact e3.2 e
              · have := (HpL.out g e).2; omega)
            have hbl9 : Bl w8 ga (ar3.set xn false) := (Hbl3.out.set_ xn false).grown hgrow (fun e => by have := (World.ownsRow.lt HoS.out.2 ga e.symm).1; omega)
            have hg9 : w.grownBy w8 (some ga) := gfar (gsetT Hg3.out xn (.bool false)) hgrow (fun k hk => (World.ownsRow.lt HoS.out.2 k hk).1)
            have hloc9 : ∀ g, A' = some ⟨g, 0, none⟩ → (g < w9.heap.size ∧ P' ≠ some ⟨g, 0, none⟩) ∨ y.heap.size ≤ g := fun g e => by
              rcases hloc' g e with h | h
              · exact Hloc.out g (own_block HoS.out h)
              · right; rw [Hes.out] at h; omega
            have Ho9 := Lib.hid hown'
            have Hnb9 := Lib.hid hnb9
            have Hp9 := Lib.hid hp9
            have Hbl9 := Lib.hid hbl9
            have Hg9 := Lib.hid hg9
            have Hloc9 := Lib.hid hloc9
            clear hown' hgrow hloc' hnb9 hbl9 hg9 hloc9 hp9 cs fs hcn
            go_roundw
            case rel => exact ⟨j + 1, _, _, _, _, _, _, by omega, by go_num, rfl, by have := Hd.out; have := HK.out; omega, Ho9.out, Hloc9.out, Hbl9.out, Hi2.out, Ht2.out, Hg9.out, Hp9.out, by rw [← HA.out]; exact Hnb9.out, by omega⟩
            case measure => simp [intOf]; omega
          · have Hi2 := Lib.hid (Hinv3.out.skip Hjl.out (by
              rw [Hx.out]
              unfold Fl.at_
              rw [Int.toNat_natCast]
              exact Hts3.out.out_ hxn hsx))
            rw [hsx] at cs
            clear hsx
            go_wp2_with fail
            go_roundw
            case rel => exact ⟨j + 1, _, _, _, _, _, _, by omega, by go_num, rfl, HK.out, Ho3.out, Hloc.out, Hbl3.out, Hi2.out, Hts3.out, Hg3.out, Hp3.out, by rw [← HA.out]; exact Hnb.out, hyi⟩
            case measure => simp [intOf]; omega
        · have Hfin := Lib.hid (Hinv3.out.finish (by rw [hnl.out]; omega))
          have Hapf : Hid (∀ g, P' = some ⟨g, 0, none⟩ → A3 ≠ some ⟨g, 0, none⟩) := Lib.hid (fun g e e9 => by
            rcases Hloc.out g e9 with h | h
            · exact h.2 e
            · have := (HpL.out g e).2; omega)
          go_wp2_with fail
          go_roundg (2 * Fl.dark S3 + m3)
          case measure => have := HK.out; have := Hgk.out; omega
          case rel => exact ⟨_, _, _, _, _, _, _, _, _, _, rfl, rfl, rfl, by have := HK.out; omega, Hp3.out, Ho3.out, Hapf.out, Hbl3.out, Hfin.out, Hts3.out, Hg3.out⟩
end Go.Proofs.Ytkjlcokbgpnejaa
