/-
  The model's flood: it returns the points that can be reached, in ascending order.
-/
import Derived.Test.YteldfjibmaigiaaDoorWordsB
import Derived.Test.YteldfjibmaigiaaDoorPureFl
import Derived.Test.YteldfjibmaigiaaDoorNbSpec
import Derived.Deep.LoopGhost
namespace Go.Proofs.YteldfjibmaigiaaDoor
set_option maxRecDepth 100000
open Go.RowKit

theorem nbs_in {s : Int} {n : Nat} (h1 : 1 ≤ s) (h2 : s ≤ 7) (hn : (n : Int) = s * s) : ∀ x : Int, 0 ≤ x → x < n → ∀ y ∈ Pt.nbs s x, 0 ≤ y ∧ y < n := by
  intro x h0 hx y hy
  obtain ⟨m1, _, _⟩ := Pt.nbs_all s x h1 h2 h0 (by omega)
  have := List.all_eq_true.1 m1 y hy
  simp only [Bool.and_eq_true, decide_eq_true_eq] at this
  obtain ⟨_, _, a, b⟩ := (Pt.okP_iff s y).1 this.1.1
  exact ⟨a, by omega⟩

theorem own_block {w : World} {B n c g : Nat} {A : Option Addr} {xs : List Int} (h : Own w B A n c xs) (hg : (Value.slice A n c).ownBlock = some g) : A = some ⟨g, 0, none⟩ := by
  rcases h.2.2 with ⟨e, _⟩ | ⟨g', cap, cur, e, _⟩
  · rw [e] at hg; cases hg
  · have hA : A = some ⟨g', 0, none⟩ := by injection e
    rw [hA] at hg ⊢
    have : g' = g := by simpa [Value.ownBlock] using hg
    rw [this]

theorem dark_le (l : List Bool) : Fl.dark l ≤ l.length := List.length_filter_le _ _

def FlRel (w : World) (s : Int) (n : Nat) (keep : List Bool) (p : Int) (k : Nat) (v : Value) (wr : World) : Prop :=
  ∃ A m c seen st, v = .slice A m c ∧ k = 2 * Fl.dark seen + m ∧ k ≤ 200 ∧ Own wr (w.heap.size + 1) A m c st ∧ Bl wr w.heap.size seen ∧ Fl.Inv s n keep p seen st ∧ Below w.heap.size w wr

def FlIn (w wr y : World) (s : Int) (n : Nat) (keep : List Bool) (p q : Int) (K n2 c2 : Nat) (A2 : Option Addr) (v i : Value) (wi : World) : Prop :=
  ∃ j A m c seen st, j ≤ n2 ∧ i = .int .i64 (j : Nat) ∧ v = .slice A m c ∧ 2 * Fl.dark seen + m ≤ K ∧ Own wi (w.heap.size + 1) A m c st ∧ (∀ g, A = some ⟨g, 0, none⟩ → g < wr.heap.size ∨ y.heap.size ≤ g) ∧ Bl wi w.heap.size seen ∧
    Fl.InvQ s n keep p q j seen st ∧ Below w.heap.size w wi ∧ Own wi wr.heap.size A2 n2 c2 (Pt.nbs s q) ∧ y.heap.size ≤ wi.heap.size

set_option maxRecDepth 100000 in
set_option maxHeartbeats 4000000 in
theorem s_flood (s p : Int) (w : World) (kb ko n c : Nat) (keep : List Bool) (h1 : 1 ≤ s) (h2 : s ≤ 7) (hn : (n : Int) = s * s) (hp0 : 0 ≤ p) (hpn : p < n) (hkl : keep.length = n) (hkb : kb < w.heap.size)
    (hk : ∀ j, j < n → w.cell? ⟨kb, ko + j, none⟩ = some (.bool (keep.getD j false))) :
    Calls Tryd.prog 92 #[.int .i64 s, .slice (some ⟨kb, ko, none⟩) n c, .int .i64 p] w fun e w' => ∃ A m c' S, e = .returned (.slice A m c') ∧ Own w' w.heap.size A m c' (Fl.pts S n) ∧ S.length = n ∧
      (∀ y, 0 ≤ y → (Fl.at_ S y = true ↔ Fl.Reach s keep p y)) ∧ Below w.heap.size w w' := by
  have hsq := Pt.sq_bd s h1 h2
  have Hnn := Lib.hid (nbs_in h1 h2 hn)
  have hle : s * s ≤ n := by omega
  have hge : (n : Int) ≤ s * s := by omega
  have hn49 : n ≤ 49 := by omega
  have Hn := Lib.hid hn
  have Hk := Lib.hid hk
  have Hkl := Lib.hid hkl
  clear hn hk hkl
  obtain ⟨pn, rfl⟩ := Int.eq_ofNat_of_zero_le hp0
  have hpn' : pn < n := by omega
  have Hst := Lib.hid (Fl.Inv.start (s := s) (keep := keep) (p := (pn : Int)) (n := n) ⟨by omega, hpn⟩)
  go_enter Tryd.func92, Tryd.ntmps92
  go_upto_region 2 with (at_make; refine makeB rfl _ rfl _ _ n rfl (by omega) (by omega) ?_; intro w1 hbl hb hlt)
  have Hbl := Lib.hid hbl
  have Hb := Lib.hid hb
  clear hbl hb
  go_upto_region 3 with (fail)
  obtain ⟨w2, hw2⟩ : ∃ w2, w2 = w1.alloc (.cells #[.int .i64 (pn : Int)] 3) := ⟨_, rfl⟩
  have hz2 : w1.heap.size < w2.heap.size := by rw [hw2]; simp
  have Ho : Hid (Own w2 (w.heap.size + 1) (some ⟨w1.heap.size, 0, none⟩) 1 1 [(pn : Int)]) := Lib.hid (by rw [hw2]; exact Own.one w1 _ _ (by omega))
  have Hbl : Hid (Bl w2 w.heap.size (List.replicate n false)) := Lib.hid (by rw [hw2]; exact Hbl.out.alloc _)
  have Hb : Hid (Below w.heap.size w w2) := Lib.hid (by rw [hw2]; exact Hb.out.alloc (by omega) _)
  rw [← hw2]
  clear hw2
  have hc := Hbl.out.cell (j := pn) (by rw [List.length_replicate]; exact hpn')
  have hf := Hbl.out.frozen pn
  have Hbl3 := Lib.hid (Hbl.out.set_ pn true)
  have Ho3 := Lib.hid (Ho.out.far ⟨w.heap.size, pn, none⟩ (fun g hA => by have := (Ho.out.ge hA).1; show g ≠ w.heap.size; omega) (.bool true))
  have Hb3 := Lib.hid (Hb.out.setCell (p := ⟨w.heap.size, pn, none⟩) (Nat.le_refl _) (.bool true))
  clear Hbl Ho Hb
  go_wp2_with fail
  clear hc hf
  go_loopg [8] (2 * Fl.dark ((List.replicate n false).set ((pn : Int)).toNat true) + 1) (fun k v wr => FlRel w s n keep pn k v wr)
  case atStart => exact ⟨_, _, _, _, _, rfl, rfl, by have := dark_le ((List.replicate n false).set ((pn : Int)).toNat true); rw [List.length_set, List.length_replicate] at this; omega, Ho3.out, Hbl3.out, Hst.out, Hb3.out⟩
  case round =>
    clear Ho3 Hbl3 Hb3 Hst
    obtain ⟨A, m, cc, seen, st, rfl, hgk, hgk2, ho, hbl, hinv, hbr⟩ := hrel
    have hm200 : m ≤ 200 := by omega
    have Hgk := Lib.hid hgk
    have Ho := Lib.hid ho
    have Hbl := Lib.hid hbl
    have Hinv := Lib.hid hinv
    have Hbr := Lib.hid hbr
    have hzr := hbr.size
    have hgr := hbl.lt
    clear hgk ho hbl hinv hbr
    by_cases hm0 : m = 0
    · have hst0 : st = [] := List.eq_nil_of_length_eq_zero (by rw [Ho.out.1]; exact hm0)
      have Hall := Lib.hid (show ∀ y, 0 ≤ y → (Fl.at_ seen y = true ↔ Fl.Reach s keep (pn : Int) y) by
        have := Hinv.out
        rw [hst0] at this
        exact fun y hy => this.all Hnn.out ⟨hp0, hpn⟩ y hy)
      have Hlen := Lib.hid Hinv.out.len
      clear hst0
      subst hm0
      go_wp2_with fail
      have Hob := Lib.hid (Own.bare wr wr.heap.size (Nat.le_refl _))
      have Hbb := Lib.hid ((Below.refl wr.heap.size wr).alloc (Nat.le_refl _) (.cells #[] 3))
      obtain ⟨wo, rfl⟩ : ∃ wo : World, wo = wr := ⟨_, rfl⟩
      go_loopw [12, 13] (fun v i wi => ∃ j : Nat, j ≤ n ∧ i = .int .i64 j ∧ Slc wo.heap.size wo v wi (Fl.pts seen j)) (fun _ i _ => n - (intOf i).toNat)
      case atStart => exact ⟨0, by omega, rfl, _, _, _, rfl, Hob.out, Hbb.out⟩
      case round =>
        clear Hob Hbb
        obtain ⟨j, hj, rfl, A4, n4, c4, rfl, ho4, hb4⟩ := hrel
        have hn4 : n4 ≤ 49 := by have := ho4.1; have := Fl.pts_len seen j; omega
        have Ho4 := Lib.hid ho4
        have Hb4 := Lib.hid hb4
        have hz4 := hb4.size
        clear ho4 hb4
        by_cases hjn : j < n
        · have cs := (Hbl.out.below Hb4.out hgr).cell (j := j) (by rw [Hlen.out]; exact hjn)
          have hjs : (j : Int) < s * s := by omega
          rcases Bool.eq_false_or_eq_true (seen.getD j false) with hsx | hsx
          · have Hy := Lib.hid (Fl.pts_yes hsx)
            rw [hsx] at cs
            clear hsx
            go_wp2_with (at_builtin; refine app1 rfl _ _ rfl _ _ _ _ _ _ _ _ rfl rfl rfl Ho4.out hz4 (by omega) ?_; intro A' c' w' hown' hb' hlt' _)
            go_roundw
            case rel => exact ⟨j + 1, by omega, by go_num, _, _, _, rfl, by rw [Hy.out]; exact hown', Hb4.out.trans (hb'.mono (by omega))⟩
            case measure => simp [intOf]; omega
          · have Hy := Lib.hid (Fl.pts_no hsx)
            rw [hsx] at cs
            clear hsx
            go_wp2_with fail
            go_roundw
            case rel => exact ⟨j + 1, by omega, by go_num, _, _, _, rfl, by rw [Hy.out]; exact Ho4.out, Hb4.out⟩
            case measure => simp [intOf]; omega
        · obtain rfl : j = n := by omega
          go_wp2_with fail
          go_ret
          exact ⟨_, _, _, _, rfl, Ho4.out.weaken hzr, Hlen.out, Hall.out, Hbr.out.trans (Hb4.out.mono hzr)⟩
    · obtain ⟨m', rfl⟩ : ∃ m', m = m' + 1 := ⟨m - 1, by omega⟩
      have hst : ∃ st' q, st = st' ++ [q] := ⟨st.dropLast, st.getLast (by intro e; have := Ho.out.1; rw [e] at this; simp at this), (List.dropLast_concat_getLast _).symm⟩
      obtain ⟨st', q, rfl⟩ := hst
      obtain ⟨a, hA⟩ : ∃ a, A = some ⟨a, 0, none⟩ := by
        obtain ⟨g, cap, hv, _⟩ := World.ownsRow.form Ho.out.2 (by omega)
        exact ⟨g, by injection hv⟩
      subst hA
      have ha1 := (Ho.out.ge rfl).1
      have ha2 := (Ho.out.ge rfl).2
      have hcap := Ho.out.cap
      have Hq := Lib.hid (Hinv.out.pop)
      have hq0 := Hq.out.q0
      have hqn := Hq.out.qn
      have hls : st'.length = m' := by have := Ho.out.1; rw [List.length_append] at this; simpa using this
      have hcell : wr.cell? ⟨a, m', none⟩ = some (.int .i64 q) := by
        have := World.ownsRow.cellAt Ho.out.2 m' (by omega)
        rw [this, List.map_append, List.getElem?_append_right (by rw [List.length_map]; omega), List.length_map, hls, Nat.sub_self]
        rfl
      have Hop := Lib.hid Ho.out.pop
      clear hls hm0
      go_wp2_with fail
      refine (s_nbs s q _ h1 h2 hq0 (by omega)).mono ?_
      rintro e y ⟨A2, n2, c2, rfl, ho2, hb2⟩
      have hn2 : n2 ≤ 4 := by
        have := ho2.1
        rw [Pt.nbs, List.length_append, List.length_append, List.length_append] at this
        have := len_if (P := s ≤ q) (q - s)
        have := len_if (P := 0 < q % s) (q - 1)
        have := len_if (P := q % s < s - 1) (q + 1)
        have := len_if (P := q + s < s * s) (q + s)
        unfold Pt.nbL Pt.nbA Pt.nbB Pt.nbU at *
        omega
      have hzy := hb2.size
      have Hop2 := Lib.hid (Hop.out.below hb2)
      have Hbl2 := Lib.hid (Hbl.out.below hb2 hgr)
      have Hbr2 := Lib.hid (Hbr.out.trans (hb2.mono hzr))
      have Ho2 := Lib.hid ho2
      have HA2 := Lib.hid (fun g (e : A2 = some ⟨g, 0, none⟩) => ho2.ge e)
      clear hcell ho2 hb2
      obtain ⟨wo, rfl⟩ : ∃ wo : World, wo = wr := ⟨_, rfl⟩
      go_wp2_with fail
      go_loopw [8, 11] (fun v i wi => FlIn w wo y s n keep pn q (gk - 1) n2 c2 A2 v i wi) (fun _ i _ => n2 - (intOf i).toNat)
      case atStart => exact ⟨0, _, _, _, _, _, by omega, rfl, rfl, by have := Hgk.out; omega, Hop2.out, fun g e => by injection e with e; injection e with e; omega, Hbl2.out, Hq.out, Hbr2.out, Ho2.out, Nat.le_refl _⟩
      case round =>
        clear Hop2 Hbl2 Hbr2 Ho2 Hop Hbl
        obtain ⟨j, A3, m3, c3, seen3, st3, hj, rfl, rfl, hK, ho, hloc, hbl, hinv, hbr, hnb, hyi⟩ := hrel
        have hm3 : m3 ≤ 200 := by omega
        have hzi := hbr.size
        have hgi := hbl.lt
        have Ho3 := Lib.hid ho
        have Hloc := Lib.hid hloc
        have Hbl3 := Lib.hid hbl
        have Hinv3 := Lib.hid hinv
        have Hbr3 := Lib.hid hbr
        have Hnb := Lib.hid hnb
        have HK := Lib.hid hK
        clear ho hloc hbl hinv hbr hnb hK
        have hnl := Lib.hid Hnb.out.1
        by_cases hjn : j < n2
        · obtain ⟨nb, hA2⟩ : ∃ nb, A2 = some ⟨nb, 0, none⟩ := by
            obtain ⟨g, cap, hv, _⟩ := World.ownsRow.form Hnb.out.2 (by omega)
            exact ⟨g, by injection hv⟩
          have hb1 := HA2.out nb hA2
          have HA := Lib.hid hA2
          have hnbr := (Hnb.out.ge hA2).2
          have hcn : wr.cell? ⟨nb, j, none⟩ = some (.int .i64 ((Pt.nbs s q).getD j 0)) := by
            have hl : j < (Pt.nbs s q).length := by rw [hnl.out]; exact hjn
            have h3 := Hnb.out.2
            rw [hA2] at h3
            have := World.ownsRow.cellAt h3 j (by omega)
            rw [this]
            simp [List.getElem?_eq_getElem hl, List.getD_eq_getElem?_getD]
          have hmem : (Pt.nbs s q).getD j 0 ∈ Pt.nbs s q := by
            have hl : j < (Pt.nbs s q).length := by rw [hnl.out]; exact hjn
            rw [List.getD_eq_getElem?_getD, List.getElem?_eq_getElem hl]; exact List.getElem_mem _
          obtain ⟨x0, xl⟩ := Hnn.out q hq0 hqn _ hmem
          obtain ⟨x, hx⟩ : ∃ x, (Pt.nbs s q).getD j 0 = x := ⟨_, rfl⟩
          rw [hx] at hcn x0 xl
          obtain ⟨xn, rfl⟩ := Int.eq_ofNat_of_zero_le x0
          have hxn : xn < n := by omega
          have Hx := Lib.hid hx
          have ck := (Hbr3.out.cell (p := ⟨kb, ko + xn, none⟩) (by show kb < _; omega)).trans (Hk.out xn hxn)
          have cs := Hbl3.out.cell (j := xn) (by rw [Hinv3.out.len]; exact hxn)
          have fs := Hbl3.out.frozen xn
          have hjl : j < (Pt.nbs s q).length := by rw [hnl.out]; exact hjn
          have Hjl := Lib.hid hjl
          clear hmem hx hjl
          rw [hA2]
          clear hA2
          rcases Bool.eq_false_or_eq_true (keep.getD xn false) with hkx | hkx
          · rcases Bool.eq_false_or_eq_true (seen3.getD xn false) with hsx | hsx
            · rw [hkx] at ck
              rw [hsx] at cs
              have Hi2 := Lib.hid (Hinv3.out.skip Hjl.out (Or.inr (by rw [Hx.out]; exact hsx)))
              clear hkx hsx
              go_wp2_with fail
              go_roundw
              case rel => exact ⟨j + 1, _, _, _, _, _, by omega, by go_num, rfl, HK.out, Ho3.out, Hloc.out, Hbl3.out, Hi2.out, Hbr3.out, by rw [← HA.out]; exact Hnb.out, hyi⟩
              case measure => simp [intOf]; omega
            · have Hi2 := Lib.hid (Hinv3.out.push hp0 Hnn.out Hjl.out Hx.out hkx)
              have Hd := Lib.hid (Fl.dark_set (l := seen3) (j := xn) (by rw [Hinv3.out.len]; exact hxn) hsx)
              rw [hkx] at ck
              rw [hsx] at cs
              clear hkx hsx
              have HoS := Lib.hid (Ho3.out.far ⟨w.heap.size, xn, none⟩ (fun g hA => by have := (Ho3.out.ge hA).1; show g ≠ w.heap.size; omega) (.bool true))
              have es : (wr.setCell ⟨w.heap.size, xn, none⟩ (.bool true)).heap.size = wr.heap.size := by simp [World.setCell]
              have Hes := Lib.hid es
              clear es
              go_wp2_with (at_builtin; refine app1at rfl _ _ rfl (wr.setCell ⟨w.heap.size, xn, none⟩ (.bool true)) _ _ _ _ _ _ _ rfl rfl Hes.out HoS.out (by rw [Hes.out]; omega) (by omega) ?_; intro A' c' w9 hown' hlt' hgrow hloc')
              rw [Hes.out] at hlt'
              have hnb9 : Own w9 wo.heap.size A2 n2 c2 (Pt.nbs s q) := (Hnb.out.far ⟨w.heap.size, xn, none⟩ (fun g e => by have := HA2.out g e; show g ≠ w.heap.size; omega) (.bool true)).kept hgrow (fun g e e2 => by
                have e3 := Hloc.out g (own_block HoS.out e2)
                have e4 := HA2.out g e
                omega)
              have hbl9 : Bl w9 w.heap.size (seen3.set xn true) := (Hbl3.out.set_ xn true).grown hgrow (fun e => by have := (World.ownsRow.lt HoS.out.2 w.heap.size e.symm).1; omega)
              have hbr9 : Below w.heap.size w w9 := (Hbr3.out.setCell (p := ⟨w.heap.size, xn, none⟩) (Nat.le_refl _) (.bool true)).grown hgrow (by rw [Hes.out]; omega) (fun k hk => by have := (World.ownsRow.lt HoS.out.2 k hk).1; omega)
              have hloc9 : ∀ g, A' = some ⟨g, 0, none⟩ → g < wo.heap.size ∨ y.heap.size ≤ g := fun g e => by
                rcases hloc' g e with h | h
                · exact Hloc.out g (own_block HoS.out h)
                · right; rw [Hes.out] at h; omega
              have Ho9 := Lib.hid hown'
              have Hnb9 := Lib.hid hnb9
              have Hbl9 := Lib.hid hbl9
              have Hbr9 := Lib.hid hbr9
              have Hloc9 := Lib.hid hloc9
              clear hown' hgrow hloc' hnb9 hbl9 hbr9 hloc9 ck cs fs hcn
              go_roundw
              case rel => exact ⟨j + 1, _, _, _, _, _, by omega, by go_num, rfl, by have := Hd.out; have := HK.out; omega, Ho9.out, Hloc9.out, Hbl9.out, Hi2.out, Hbr9.out, by rw [← HA.out]; exact Hnb9.out, by omega⟩
              case measure => simp [intOf]; omega
          · rw [hkx] at ck
            have Hi2 := Lib.hid (Hinv3.out.skip Hjl.out (Or.inl (by rw [Hx.out]; exact hkx)))
            clear hkx
            go_wp2_with fail
            go_roundw
            case rel => exact ⟨j + 1, _, _, _, _, _, by omega, by go_num, rfl, HK.out, Ho3.out, Hloc.out, Hbl3.out, Hi2.out, Hbr3.out, by rw [← HA.out]; exact Hnb.out, hyi⟩
            case measure => simp [intOf]; omega
        · have Hfin := Lib.hid (Hinv3.out.finish (by rw [hnl.out]; omega))
          go_wp2_with fail
          go_roundg (2 * Fl.dark seen3 + m3)
          case measure => have := HK.out; have := Hgk.out; omega
          case rel => exact ⟨_, _, _, _, _, rfl, rfl, by have := HK.out; omega, Ho3.out, Hbl3.out, Hfin.out, Hbr3.out⟩
end Go.Proofs.YteldfjibmaigiaaDoor
