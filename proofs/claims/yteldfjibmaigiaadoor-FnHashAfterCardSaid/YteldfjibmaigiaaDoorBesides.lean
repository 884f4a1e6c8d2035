/-
  The model's 'besides': the neighbours with a color of some points.
-/
import Derived.Test.YteldfjibmaigiaaDoorFlood
import Derived.Test.YteldfjibmaigiaaDoorPureBs
import Derived.Test.YteldfjibmaigiaaDoorRows2
import Derived.Deep.RegionWith
import Derived.Deep.DeepCutAuto
namespace Go.Proofs.YteldfjibmaigiaaDoor
set_option maxRecDepth 100000
open Go.RowKit

set_option maxRecDepth 100000 in
set_option maxHeartbeats 4000000 in
theorem s_besides (s x : Int) (w : World) (B B' : Nat) (A P : Option Addr) (n c m pc : Nat) (cs ps : List Int) (h : Ints w B A n cs) (h' : Ints w B' P m ps) (hB : B ≤ w.heap.size) (hB' : B' ≤ w.heap.size) (h1 : 1 ≤ s) (h2 : s ≤ 7) (hn : (n : Int) = s * s)
    (hps : ∀ j, j < m → 0 ≤ ps.getD j 0 ∧ ps.getD j 0 < n) (hm : m ≤ 1000) :
    Calls Tryd.prog 84 #[.agg #[.int .i64 s, .slice A n c], .slice P m pc, .int .i64 x] w fun e w' => ∃ A' m' c' S, e = .returned (.slice A' m' c') ∧ Own w' w.heap.size A' m' c' (Fl.pts S n) ∧ Bs.BI s n cs x ps [] S ∧ Below w.heap.size w w' := by
  have hsq := Pt.sq_bd s h1 h2
  have hn49 : n ≤ 49 := by omega
  have hn1 : 0 < n := by omega
  have hge : (n : Int) ≤ s * s := by omega
  have Hnn := Lib.hid (nbs_in h1 h2 hn)
  have hb1 : Below w.heap.size w (w.alloc (.cells #[.int .i64 s, .slice A n c] 25)) := (Below.refl _ _).alloc (Nat.le_refl _) _
  have X0 := Lib.hid (Bx.new 25 w s (.slice A n c))
  have H := Lib.hid (h.below hb1 hB)
  have HP := Lib.hid (h'.below hb1 hB')
  have Hb := Lib.hid hb1
  have Hn := Lib.hid hn
  have Hps := Lib.hid hps
  clear h h' hb1 hn hps
  go_enter Tryd.func84, Tryd.ntmps84
  go_upto_region 1 with (fail)
  obtain ⟨y0, hy⟩ : ∃ y, y = w.alloc (.cells #[.int .i64 s, .slice A n c] 25) := ⟨_, rfl⟩
  have hyz : w.heap.size < y0.heap.size := by rw [hy]; simp
  rw [← hy] at X0 H HP Hb ⊢
  clear hy
  obtain ⟨b, o, rfl, hbB, hc⟩ : ∃ b o, A = some ⟨b, o, none⟩ ∧ b < B ∧ ∀ j, j < n → y0.cell? ⟨b, o + j, none⟩ = some (.int .i64 (cs.getD j 0)) := by
    rcases H.out.2 with h0 | ⟨b, o, hA, hbB, hc⟩
    · omega
    · exact ⟨b, o, hA, hbB, hc⟩
  have Hc := Lib.hid hc
  clear hc
  have u0 := X0.out.cell0
  have u1 := X0.out.cell1
  have ul := X0.out.lt
  go_upto_region 2 with (at_make; refine makeB rfl _ rfl _ _ n rfl rfl (by omega) ?_; intro y1 hbl hb hlt)
  have Hbl := Lib.hid hbl
  have Hb1 := Lib.hid hb
  clear hbl hb u0 u1
  go_wp2_with fail
  go_loopw [8] (fun i wr => ∃ k S, k ≤ m ∧ i = .int .i64 (k : Nat) ∧ Bl wr y0.heap.size S ∧ Bs.BI s n cs x (ps.take k) [] S ∧ Below y0.heap.size y0 wr) (fun i _ => m - (intOf i).toNat)
  case atStart => exact ⟨0, _, by omega, rfl, Hbl.out, Bs.start s n cs x, Hb1.out⟩
  case round =>
    clear Hbl Hb1
    obtain ⟨wo, rfl⟩ : ∃ wo : World, wo = wr := ⟨_, rfl⟩
    obtain ⟨k, S, hk, rfl, hbl, hbi, hbr⟩ := hrel
    have hz := hbr.size
    have hgl := hbl.lt
    have X0r := Lib.hid (X0.out.below hbr ul)
    have HPr := Lib.hid (HP.out.below hbr (by omega))
    have Hbl := Lib.hid hbl
    have Hbi := Lib.hid hbi
    have Hbr := Lib.hid hbr
    clear hbl hbi hbr
    by_cases hkm : k < m
    · obtain ⟨z0, zn⟩ := Hps.out k hkm
      obtain ⟨bp, op, rfl, hbP, hcp⟩ : ∃ bp op, P = some ⟨bp, op, none⟩ ∧ bp < B' ∧ ∀ j, j < m → wo.cell? ⟨bp, op + j, none⟩ = some (.int .i64 (ps.getD j 0)) := by
        rcases HPr.out.2 with h0 | ⟨b, o, hA, hbB, hc⟩
        · omega
        · exact ⟨b, o, hA, hbB, hc⟩
      have cz := hcp k hkm
      have htk : ps.take (k + 1) = ps.take k ++ [ps.getD k 0] := by
        have hl : k < ps.length := by rw [HPr.out.1]; exact hkm
        rw [List.take_succ_eq_append_getElem hl]
        simp [List.getD_eq_getElem?_getD, List.getElem?_eq_getElem hl]
      obtain ⟨z, hz0⟩ : ∃ z, ps.getD k 0 = z := ⟨_, rfl⟩
      rw [hz0] at cz z0 zn htk
      have Htk := Lib.hid htk
      clear hz0 hcp htk
      have v0 := X0r.out.cell0
      have v1 := X0r.out.cell1
      have vl := X0r.out.lt
      have hkm' : (k : Int) < m := by omega
      go_upto_region 5 with (fail)
      go_cut [9] (fun v wx => ∃ A2 n2 c2, v = .slice A2 n2 c2 ∧ Own wx wo.heap.size A2 n2 c2 (Pt.nbs s z) ∧ Below wo.heap.size wo wx)
      case first =>
        go_region_with (go_at_call 91; refine (s_nbs s z _ h1 h2 z0 (by omega)).mono ?_; rintro e ya ⟨A2, n2, c2, rfl, ho, hb⟩; have Ho : Hid (Own ya wo.heap.size A2 n2 c2 (Pt.nbs s z)) := Lib.hid ho; have Hb2 : Hid (Below wo.heap.size wo ya) := Lib.hid ⟨hb.os, hb.tape, hb.output, hb.size, hb.block⟩; clear ho hb)
        all_goals go_wp2_with fail
        all_goals go_meet
        all_goals exact ⟨_, _, _, rfl, Ho.out, Hb2.out⟩
      case rest =>
        obtain ⟨A2, n2, c2, rfl, ho, hb⟩ := hcut
        have hn2 : n2 ≤ 4 := by
          have := ho.1
          rw [Pt.nbs, List.length_append, List.length_append, List.length_append] at this
          have := len_if (P := s ≤ z) (z - s)
          have := len_if (P := 0 < z % s) (z - 1)
          have := len_if (P := z % s < s - 1) (z + 1)
          have := len_if (P := z + s < s * s) (z + s)
          unfold Pt.nbL Pt.nbA Pt.nbB Pt.nbU at *
          omega
        have hzc := hb.size
        have Ho := Lib.hid ho
        have Hlo := Lib.hid ho.1
        have X0c := Lib.hid (X0r.out.below hb vl)
        have Hblc := Lib.hid (Hbl.out.below hb hgl)
        have Hbc := Lib.hid (Hbr.out.trans (hb.mono (by omega)))
        clear ho hb v0 v1 cz
        obtain ⟨yc, rfl⟩ : ∃ yc : World, yc = wc := ⟨_, rfl⟩
        go_wp2_with fail
        go_loopw [10] (fun i wi => ∃ j S2, j ≤ n2 ∧ i = .int .i64 (j : Nat) ∧ Bl wi y0.heap.size S2 ∧ Bs.BI s n cs x (ps.take k) ((Pt.nbs s z).take j) S2 ∧ yc.grownBy wi (some y0.heap.size)) (fun i _ => n2 - (intOf i).toNat)
        case atStart => exact ⟨0, _, by omega, rfl, Hblc.out, Hbi.out, World.grownBy.refl _ _⟩
        case round =>
          obtain ⟨j, S2, hj, rfl, hbl, hbi, hgr⟩ := hrel
          have hbl2 := hbl
          have Hbi2 := Lib.hid hbi
          have Hgr := Lib.hid hgr
          have hzi := hgr.size
          have hgi := hbl.lt
          by_cases hjn : j < n2
          · have Xi := Lib.hid (X0c.out.grown hgr (by simp; omega))
            have v0 := Xi.out.cell0
            have v1 := Xi.out.cell1
            have vl := Xi.out.lt
            obtain ⟨nb, hA2⟩ : ∃ nb, A2 = some ⟨nb, 0, none⟩ := by
              obtain ⟨g, cap, hv, _⟩ := World.ownsRow.form Ho.out.2 (by omega)
              exact ⟨g, by injection hv⟩
            have hnb := Ho.out.ge hA2
            have hon := Ho.out.kept hgr (fun g e e2 => by have := (Ho.out.ge e).1; injection e2 with e2; omega)
            rw [hA2] at hon
            have hjl : j < (Pt.nbs s z).length := by rw [Hlo.out]; exact hjn
            have hcn : wr.cell? ⟨nb, j, none⟩ = some (.int .i64 ((Pt.nbs s z).getD j 0)) := by
              have := World.ownsRow.cellAt hon.2 j (by omega)
              rw [this]
              simp [List.getElem?_eq_getElem hjl, List.getD_eq_getElem?_getD]
            have hmem : (Pt.nbs s z).getD j 0 ∈ Pt.nbs s z := by
              rw [List.getD_eq_getElem?_getD, List.getElem?_eq_getElem hjl]; exact List.getElem_mem _
            have htk : (Pt.nbs s z).take (j + 1) = (Pt.nbs s z).take j ++ [(Pt.nbs s z).getD j 0] := by
              rw [List.take_succ_eq_append_getElem hjl]
              simp [List.getD_eq_getElem?_getD, List.getElem?_eq_getElem hjl]
            obtain ⟨q0, qn⟩ := Hnn.out z z0 zn _ hmem
            obtain ⟨q, hq⟩ : ∃ q, (Pt.nbs s z).getD j 0 = q := ⟨_, rfl⟩
            rw [hq] at hcn q0 qn htk
            obtain ⟨d, rfl⟩ := Int.eq_ofNat_of_zero_le q0
            have hdn : d < n := by omega
            have Htk := Lib.hid htk
            have cb := hgr.cell ((Hbc.out.cell (p := ⟨b, o + d, none⟩) (by show b < _; omega)).trans (Hc.out d hdn)) (by simp; omega)
            obtain ⟨u, hu⟩ : ∃ u, wr.cell? ⟨y0.heap.size, d, none⟩ = some u := ⟨_, hbl.cell (by rw [hbi.len]; exact hdn)⟩
            have hf := hbl.frozen d
            have Hs := Lib.hid (hbl.set_ d (cs.getD d 0 == x))
            have Hst := Lib.hid (Hbi2.out.step d hdn)
            obtain ⟨e0, he0⟩ : ∃ e0, cs.getD d 0 = e0 := ⟨_, rfl⟩
            rw [he0] at cb Hs Hst
            have HA := Lib.hid hA2
            rw [hA2]
            have hne1 : b ≠ y0.heap.size := by omega
            have hne2 : nb ≠ y0.heap.size := by omega
            have hj2 : (j : Int) < n2 := by omega
            clear hq htk hmem hjl he0 hA2 hon hbl hbi hgr hbl2
            go_wp2_with fail
            go_region
            all_goals go_wp2_with fail
            all_goals go_roundw
            all_goals try (simp [intOf]; omega)
            all_goals exact ⟨j + 1, _, by omega, by go_num, Bl.drew Hs.out, by rw [Htk.out]; exact Hst.out, gtrans Hgr.out ⟨rfl, rfl, rfl, by simp [World.setCell], fun k _ hk => Below.heap_setCell wr ⟨y0.heap.size, d, none⟩ (.bool (e0 == x)) k (fun e => hk (by rw [e]))⟩⟩
          · have hfull : (Pt.nbs s z).take j = Pt.nbs s z := List.take_of_length_le (by rw [Hlo.out]; omega)
            have hm2 := hbi
            rw [hfull] at hm2
            have Hm2 := Lib.hid hm2.merge
            have Hbl2 := Lib.hid hbl
            clear hfull hm2 hbi hbl hgr hbl2
            go_wp2_with fail
            go_roundw
            case rel => exact ⟨k + 1, _, by omega, by go_num, Hbl2.out, by rw [Htk.out]; exact Hm2.out, Hbc.out.grown Hgr.out (by omega) (fun k e => by injection e; omega)⟩
            case measure => simp [intOf]; omega
    · have hfin : ps.take k = ps := List.take_of_length_le (by rw [HP.out.1]; omega)
      have Hfin : Hid (Bs.BI s n cs x ps [] S) := Lib.hid (by have := Hbi.out; rw [hfin] at this; exact this)
      have Hlen := Lib.hid Hfin.out.len
      clear hfin
      go_wp2_with fail
      have Hob := Lib.hid (Own.bare wo wo.heap.size (Nat.le_refl _))
      have Hbb := Lib.hid ((Below.refl wo.heap.size wo).alloc (Nat.le_refl _) (.cells #[] 3))
      go_loopw [11, 12] (fun v i wi => ∃ j : Nat, j ≤ n ∧ i = .int .i64 j ∧ Slc wo.heap.size wo v wi (Fl.pts S j)) (fun _ i _ => n - (intOf i).toNat)
      case atStart => exact ⟨0, by omega, rfl, _, _, _, rfl, Hob.out, Hbb.out⟩
      case round =>
        clear Hob Hbb
        obtain ⟨j, hj, rfl, A4, n4, c4, rfl, ho4, hb4⟩ := hrel
        have hn4 : n4 ≤ 49 := by have := ho4.1; have := Fl.pts_len S j; omega
        have Ho4 := Lib.hid ho4
        have Hb4 := Lib.hid hb4
        have hz4 := hb4.size
        clear ho4 hb4
        by_cases hjn : j < n
        · have cs4 := (Hbl.out.below Hb4.out hgl).cell (j := j) (by rw [Hlen.out]; exact hjn)
          have hjs : (j : Int) < n := by omega
          rcases Bool.eq_false_or_eq_true (S.getD j false) with hsx | hsx
          · have Hy := Lib.hid (Fl.pts_yes hsx)
            rw [hsx] at cs4
            clear hsx
            go_wp2_with (at_builtin; refine app1 rfl _ _ rfl _ _ _ _ _ _ _ _ rfl rfl rfl Ho4.out hz4 (by omega) ?_; intro A' c' w' hown' hb' hlt' _)
            go_roundw
            case rel => exact ⟨j + 1, by omega, by go_num, _, _, _, rfl, by rw [Hy.out]; exact hown', Hb4.out.trans (hb'.mono (by omega))⟩
            case measure => simp [intOf]; omega
          · have Hy := Lib.hid (Fl.pts_no hsx)
            rw [hsx] at cs4
            clear hsx
            go_wp2_with fail
            go_roundw
            case rel => exact ⟨j + 1, by omega, by go_num, _, _, _, rfl, by rw [Hy.out]; exact Ho4.out, Hb4.out⟩
            case measure => simp [intOf]; omega
        · obtain rfl : j = n := by omega
          go_wp2_with fail
          go_ret
          exact ⟨_, _, _, S, rfl, Ho4.out.weaken (by omega), Hfin.out, (Hb.out.trans (Hbr.out.mono (by omega))).trans (Hb4.out.mono (by omega))⟩
end Go.Proofs.YteldfjibmaigiaaDoor
