/-
  The groups in atari: the model's side.
-/
import Derived.Test.YtfpibldknjcehaaAtI
import Derived.Deep.RegionWith
import Derived.Deep.DeepCutAuto
namespace Go.Proofs.Ytfpibldknjcehaa
set_option maxRecDepth 100000
open Go.RowKit

set_option maxRecDepth 100000 in
set_option maxHeartbeats 4000000 in
theorem s_AtariGroups (s x : Int) (w : World) (B : Nat) (A : Option Addr) (n c : Nat) (cs : List Int) (h : Ints w B A n cs) (hB : B ≤ w.heap.size) (hn : n ≤ 1048576) (fs : List (List Int)) (Hfs : Hid (AtIs s n cs x fs)) :
    Calls Try.prog 52 #[.agg #[.int .i64 s, .slice A n c], .int .i64 x] w fun e w' => ∃ A' m' c', e = .returned (.slice A' m' c') ∧ SS w' w.heap.size w'.heap.size A' m' c' fs ∧ Below w.heap.size w w' := by
  have hb1 : Below w.heap.size w (w.alloc (.cells #[.int .i64 s, .slice A n c] 25)) := (Below.refl _ _).alloc (Nat.le_refl _) _
  have hl := h.1
  obtain ⟨gs, hgs⟩ := GrpsIs.make s n cs x hl
  have Hgs := Lib.hid hgs
  have hsm := hgs.small hl
  have X0 := Lib.hid (Bx.new 25 w s (.slice A n c))
  have H := Lib.hid (h.below hb1 hB)
  have Hb := Lib.hid hb1
  have Hl := Lib.hid hl
  have hgl := hsm.1
  clear h hb1 hgs hsm
  go_enter Try.func52, Try.ntmps52
  go_upto_region 1 with (fail)
  obtain ⟨y0, hy⟩ : ∃ y, y = w.alloc (.cells #[.int .i64 s, .slice A n c] 25) := ⟨_, rfl⟩
  have hyz : w.heap.size < y0.heap.size := by rw [hy]; simp
  rw [← hy] at X0 H Hb ⊢
  clear hy
  have ul := X0.out.lt
  go_upto_region 2 with (fail)
  obtain ⟨y1, hy1, hb1, z1, z2⟩ := new_box y0 (.cells #[] 23)
  have HR : Hid (y1.ownsRow y0.heap.size 23 1 (.slice (some ⟨y0.heap.size, 0, none⟩) 0 0) 0 []) := Lib.hid (by rw [hy1]; exact World.ownsRow_made y0 #[] 0 (Nat.le_refl _) (by simp) rfl)
  rw [← hy1]
  clear hy1
  have X1 := Lib.hid (X0.out.below hb1 ul)
  have H1 := Lib.hid (H.out.below hb1 (by omega))
  have Hb1 := Lib.hid (Hb.out.trans (hb1.mono (by omega)))
  have ul1 := X1.out.lt
  have v0 := X1.out.cell0
  have v1 := X1.out.cell1
  clear hb1
  go_wp2_with fail
  refine (s_validBoard _ _ _ _ _ _ _ H1.out (by omega) (by omega)).mono ?_
  rintro e y2 ⟨rfl, hb⟩
  have X2 := Lib.hid (X1.out.below hb ul1)
  have H2 := Lib.hid (H1.out.below hb (by omega))
  have Hb2 := Lib.hid (Hb1.out.trans (hb.mono (by omega)))
  have HR2 := Lib.hid (ownsRow_under HR.out hb (fun g e => by injection e with e; injection e with e; omega))
  have zy2 := hb.size
  clear hb v0 v1
  have u00 := X2.out.cell0
  have u01 := X2.out.cell1
  have u02 := X2.out.lt
  by_cases hv : Bd.okB s cs = true
  · obtain ⟨q1, q2, q3, _⟩ := (Bd.okB_iff s cs).1 hv
    have q4 := Pt.sq_bd s q1 q2
    have hn49 : n ≤ 49 := by omega
    have hns : (n : Int) = s * s := by rw [← q3, hl]
    have Hns := Lib.hid hns
    clear hns q3
    rw [hv]
    by_cases hx : (decide (1 ≤ x) && decide (x ≤ 2)) = true
    · have hok : okGs s cs x = true := by unfold okGs; rw [hv, hx]; rfl
      have Hgl := Lib.hid (Hgs.out.1 hok)
      clear hok hv
      go_wp2_with fail
      refine (s_vcolor _ _).mono ?_
      rintro e w' ⟨rfl, rfl⟩
      rw [hx]
      clear hx
      go_wp2_with fail
      refine (s_groupsOf s x _ B _ n _ cs H2.out (by omega) q1 q2 Hns.out gs Hgl).mono ?_
      rintro e y ⟨A1, m, c1, rfl, hss, hb⟩
      obtain ⟨hm, hbd, vs, ra, rn, rc, hv1, hv2, hv3, hv4, hv5⟩ := hss
      have hzy := hb.size
      have X3 := Lib.hid (X2.out.below hb u02)
      have H3 := Lib.hid (H2.out.below hb (by omega))
      have Hb3 := Lib.hid (Hb2.out.trans (hb.mono (by omega)))
      have Hfd := Lib.hid (FD.of (lo := y2.heap.size) (hi := y.heap.size) (ownsRow_under HR2.out hb (fun g e => by injection e with e; injection e with e; omega)) (fun g e => by injection e with e; injection e with e; omega) ra rn rc gs)
      have Hv1 := Lib.hid hv1
      have Hv2 := Lib.hid hv2
      have Hv3 := Lib.hid hv3
      have Hv5 := Lib.hid hv5
      have Hm := Lib.hid hm
      have ul3 := X3.out.lt
      have hm49 : m ≤ 49 := by omega
      clear hb hv1 hv2 hv3 hv4 hv5 hm hbd u00 u01
      go_wp2_with fail
      go_loopw [5, 7] (fun v i wr => ∃ (k m' c' : Nat) (A' : Option Addr) (f0 : List (List Int)), k ≤ m ∧ i = .int .i64 (k : Nat) ∧ v = .slice A' m' c' ∧ FD wr y0.heap.size y2.heap.size y.heap.size ra rn rc gs k A' m' c' f0 ∧ AtF (AT s n cs) gs k f0 ∧ Below y0.heap.size y wr ∧ Below w.heap.size w wr ∧ (∀ b, y2.heap.size ≤ b → b < y.heap.size → wr.heap[b]? = y.heap[b]?)) (fun _ i _ => m - (intOf i).toNat)
      case atStart => exact ⟨0, 0, 0, _, [], by omega, rfl, rfl, Hfd.out, rfl, Below.refl _ _, Hb3.out, fun _ _ _ => rfl⟩
      case round =>
        clear Hfd
        obtain ⟨wo, rfl⟩ : ∃ wo : World, wo = wr := ⟨_, rfl⟩
        obtain ⟨k, m', c', A', f0, hk, rfl, rfl, hfd, hat, hbr, hbw, hmid⟩ := hrel
        have hz := hbr.size
        have X4 := Lib.hid (X3.out.below hbr (by omega))
        have H4 := Lib.hid (H3.out.below hbr (by omega))
        have Hfd := Lib.hid hfd
        have Hat := Lib.hid hat
        have Hbr := Lib.hid hbr
        have Hbw := Lib.hid hbw
        have Hmid := Lib.hid hmid
        have v0 := X4.out.cell0
        have v1 := X4.out.cell1
        have vl := X4.out.lt
        clear hfd hat hbr hbw hmid
        by_cases hkm : k < m
        · have hkI : (k : Int) < m := by omega
          obtain ⟨gb, hA1⟩ : ∃ gb, A1 = some ⟨gb, 0, none⟩ := by
            obtain ⟨q, cap, hv, _⟩ := World.ownsRow.form Hv2.out (by omega)
            exact ⟨q, by injection hv⟩
          have hgbl : y2.heap.size ≤ gb ∧ gb < y.heap.size := by
            have := Hv2.out
            rw [hA1] at this
            exact World.ownsRow.lt this gb rfl
          have ck0 : y.cell? ⟨gb, k, none⟩ = some (.slice (ra k) (rn k) (rc k)) := by
            have := Hv2.out
            rw [hA1] at this
            rw [World.ownsRow.cellAt this k (by omega)]
            exact (Hv3.out k hkm).1
          have ck := (World.cell?_of_block (w := y) (a := ⟨gb, k, none⟩) (Hmid.out gb hgbl.1 hgbl.2)).trans ck0
          rw [hA1]
          have hrow0 := (Hv3.out k hkm).2
          obtain ⟨Ak, hAk⟩ : ∃ a, ra k = a := ⟨_, rfl⟩
          obtain ⟨nk, hnk⟩ : ∃ a, rn k = a := ⟨_, rfl⟩
          obtain ⟨ck9, hck⟩ : ∃ a, rc k = a := ⟨_, rfl⟩
          obtain ⟨g, hg⟩ : ∃ g, gs.getD k [] = g := ⟨_, rfl⟩
          rw [hAk, hnk, hck] at ck
          rw [hAk, hnk, hck, hg] at hrow0
          have hmem : g ∈ gs := by rw [← hg]; exact getD_mem (by rw [Hm.out]; exact hkm)
          obtain ⟨q, hq1, hq2, hq3, hq4⟩ := GL.row (Nat.le_refl n) Hgl.out g hmem
          have hrl := hrow0.1
          obtain ⟨gk, hgk⟩ : ∃ gk, Ak = some ⟨gk, 0, none⟩ := by
            obtain ⟨q, cap, hv, _⟩ := World.ownsRow.form hrow0.2 (by omega)
            exact ⟨q, by injection hv⟩
          have hgkl := hrow0.ge hgk
          rw [hgk] at hrow0 ck
          have cg0 := hrow0.cellD 0 (by omega)
          rw [hq3] at cg0
          have cg := (World.cell?_of_block (w := y) (a := ⟨gk, 0, none⟩) (Hmid.out gk hgkl.1 hgkl.2)).trans cg0
          have HAk := Lib.hid (hAk.trans hgk)
          have Hnk := Lib.hid hnk
          have Hck := Lib.hid hck
          have Hg := Lib.hid hg
          have hnk0 : (0 : Int) < nk := by omega
          have Hq4 := Lib.hid hq4
          have hqI : (q : Int) < n := by omega
          clear ck0 hA1 hrow0 cg0 hgk hAk hnk hck hg hmem hq4 hq3 hq2 hrl
          go_upto_region 8 with (fail)
          go_cut [35] (fun v wx => ∃ bb : Bool, v = .bool bb ∧ (bb = true ↔ AT s n cs g) ∧ Below wo.heap.size wo wx)
          case first =>
            go_region_with (go_at_call 98; refine (s_liberties s q _ B _ n _ cs (by exact H4.out) ?_ q1 q2 Hns.out hq1).mono ?_; (show B ≤ wo.heap.size; omega); rintro e ya ⟨Aa, ma, ca, l, S, rfl, hoa, hra, hS, hba⟩; rw [hra.one Hq4.out] at hS; have Hat3 := Lib.hid (AT.iff hS); have hma := hoa.1; have Hma := Lib.hid hma; have Hbw2 : Hid (Below wo.heap.size wo ya) := Lib.hid ⟨hba.os, hba.tape, hba.output, hba.size, hba.block⟩; clear hoa hra hS hba hma)
            all_goals go_wp2_with fail
            all_goals go_meet
            all_goals exact ⟨_, rfl, by rw [Hat3.out, Hma.out]; simp; omega, Hbw2.out⟩
          case rest =>
            obtain ⟨bb, rfl, hbb, hb5⟩ := hcut
            have Hbb := Lib.hid hbb
            have hz5 := hb5.size
            have Hfd5 := Lib.hid (Hfd.out.below hb5)
            have ck5 := (hb5.cell (p := ⟨gb, k, none⟩) (by show gb < _; omega)).trans ck
            have Hbr5 := Lib.hid (Hbr.out.trans (hb5.mono (by omega)))
            have Hbw5 := Lib.hid (Hbw.out.trans (hb5.mono (by omega)))
            have Hmid5 := Lib.hid (fun b (e1 : y2.heap.size ≤ b) (e2 : b < y.heap.size) => (hb5.block b (by omega)).trans (Hmid.out b e1 e2))
            clear hbb hb5 v0 v1 ck cg
            cases bb
            · have Hno : Hid (¬ AT s n cs (gs.getD k [])) := Lib.hid (by rw [Hg.out]; exact fun h => absurd (Hbb.out.2 h) (by decide))
              go_wp2_with fail
              go_roundw
              case rel => exact ⟨k + 1, _, _, _, _, by omega, by go_num, rfl, Hfd5.out.skip, ⟨_, Hat.out, .inr ⟨Hno.out, rfl⟩⟩, Hbr5.out, Hbw5.out, Hmid5.out⟩
              case measure => simp [intOf]; omega
            · have Hyes : Hid (AT s n cs (gs.getD k [])) := Lib.hid (by rw [Hg.out]; exact Hbb.out.1 rfl)
              obtain ⟨vs9, r1, r2, r3, r4⟩ := Hfd5.out.row
              rw [HAk.out, Hnk.out, Hck.out, Hg.out] at r3
              have R3 := Lib.hid r3
              have Hrw := Lib.hid r1
              have Hout := Lib.hid (show ∀ q, (Value.slice A' m' c').ownBlock = some q → y0.heap.size ≤ q ∧ (q < y2.heap.size ∨ y.heap.size ≤ q) from fun q e => by
                have e2 := slice_block e (row_form r1)
                obtain ⟨_, _, _, _, _, _, _, a7⟩ := Hfd5.out
                refine ⟨?_, a7 q e2⟩
                rw [e2] at r1
                exact (World.ownsRow.lt r1 q rfl).1)
              clear r1 r4 r3
              go_wp2_with (at_builtin; refine app1V rfl _ _ rfl _ _ _ _ _ _ _ _ _ _ rfl rfl rfl Hrw.out (by omega) (by omega) ?_; intro A6 c6 w6 hr6 hlt6 hg6 hat6)
              have Hfd6 := Lib.hid (R3.out w6 A6 c6 hr6 (fun q e => by rcases hat6 q e with e2 | e2; exact .inl e2; exact .inr (by omega)))
              have Hbr6 := Lib.hid (Hbr5.out.grown hg6 (by omega) (fun q e => (Hout.out q e).1))
              have Hbw6 := Lib.hid (Hbw5.out.grown hg6 (by omega) (fun q e => by have := (Hout.out q e).1; omega))
              have Hmid6 := Lib.hid (fun b (e1 : y2.heap.size ≤ b) (e2 : b < y.heap.size) => (hg6.block b (by omega) (fun e => by have := (Hout.out b e.symm).2; omega)).trans (Hmid5.out b e1 e2))
              clear hr6 hg6 hat6
              go_roundw
              case rel => exact ⟨k + 1, _, _, _, _, by omega, by go_num, rfl, Hfd6.out, ⟨_, Hat.out, .inl ⟨Hyes.out, by rw [Hg.out]⟩⟩, Hbr6.out, Hbw6.out, Hmid6.out⟩
              case measure => simp [intOf]; omega
        · obtain rfl : k = m := by omega
          have hf0 : f0 = fs := Hat.out.one (by have := Hfs.out.of Hgs.out; rw [Hm.out] at this; exact this)
          rw [hf0] at Hfd
          clear hf0
          go_wp2_with fail
          go_ret
          refine ⟨_, _, _, rfl, ?_, Hbw.out⟩
          refine Hfd.out.ss (B := w.heap.size) (n := k) (Nat.le_refl _) (by omega) (fun j hj => ?_) (fun j hj g e => (Hv3.out j hj).2.ge e) Hv5.out
          have hr := (Hv3.out j hj).2
          refine Own.weaken (B := y2.heap.size) ⟨hr.1, hr.2.1, ?_⟩ (by omega)
          rcases hr.2.2 with e | ⟨g, cap, cur, e, hg, hh, r⟩
          · exact .inl e
          · have e2 : ra j = some ⟨g, 0, none⟩ := by injection e
            have := hr.ge e2
            exact .inr ⟨g, cap, cur, e, hg, (Hmid.out g this.1 this.2).trans hh, r⟩
    · have hx' : (decide (1 ≤ x) && decide (x ≤ 2)) = false := by simpa using hx
      have hok : okGs s cs x = false := by unfold okGs; rw [hx']; simp
      have Hnil := Lib.hid (Hfs.out.nil hok)
      clear hok hx hv
      go_wp2_with fail
      refine (s_vcolor _ _).mono ?_
      rintro e w' ⟨rfl, rfl⟩
      rw [hx']
      clear hx'
      go_wp2_with fail
      go_ret
      exact ⟨_, _, _, rfl, by rw [Hnil.out]; exact SS.nil _ _ _, Hb2.out⟩
  · have hv' : Bd.okB s cs = false := by simpa using hv
    have hok : okGs s cs x = false := by unfold okGs; rw [hv']; rfl
    have Hnil := Lib.hid (Hfs.out.nil hok)
    rw [hv']
    clear hok hv hv'
    go_wp2_with fail
    go_ret
    exact ⟨_, _, _, rfl, by rw [Hnil.out]; exact SS.nil _ _ _, Hb2.out⟩
end Go.Proofs.Ytfpibldknjcehaa
