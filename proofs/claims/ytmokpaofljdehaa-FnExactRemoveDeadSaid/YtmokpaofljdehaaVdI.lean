/-
  The program's 'validDead': whether points ascend and are whole groups of stones.
-/
import Derived.Test.YtmokpaofljdehaaRdP
import Derived.Test.YtmokpaofljdehaaNextTo
import Derived.Deep.QuietTactic
import Derived.BigQuiet
namespace Go.Proofs.Ytmokpaofljdehaa
set_option maxRecDepth 100000
open Go.RowKit

set_option maxRecDepth 100000 in
set_option maxHeartbeats 8000000 in
theorem i_validDead (s : Int) (w : World) (B B' : Nat) (A P : Option Addr) (n c m pc : Nat) (cs ds : List Int) (h : Ints w B A n cs) (h' : Ints w B' P m ds) (hB : B ≤ w.heap.size) (hB' : B' ≤ w.heap.size) (hv : Bd.okB s cs = true) (hm : m ≤ 1048576) :
    Calls Try.prog 53 #[.agg #[.int .i64 s, .slice A n c], .slice P m pc] w fun e w' => ∃ b, e = .returned (.bool b) ∧ (b = true → Dead s cs ds) ∧ (b = false → ¬ Dead s cs ds) ∧ Below w.heap.size w w' := by
  obtain ⟨h1, h2, h3, _⟩ := (Bd.okB_iff s cs).1 hv
  have hsq := Pt.sq_bd s h1 h2
  have hcl := h.1
  have hn : (n : Int) = s * s := by omega
  have hn49 : n ≤ 49 := by omega
  have hb1 : Below w.heap.size w (w.alloc (.cells #[.int .i64 s, .slice A n c] 29)) := (Below.refl _ _).alloc (Nat.le_refl _) _
  have X0 := Lib.hid (Bx.new 29 w s (.slice A n c))
  have H := Lib.hid (h.below hb1 hB)
  have HP := Lib.hid (h'.below hb1 hB')
  have Hb := Lib.hid hb1
  have Hv := Lib.hid hv
  have Hcl := Lib.hid hcl
  have Hdl := Lib.hid h'.1
  have Hnn := Lib.hid (nbs_in h1 h2 hn)
  have Hn := Lib.hid hn
  clear h h' hb1 hv h3 hn hcl
  go_enter Try.func53, Try.ntmps53
  go_upto_region 1 with (fail)
  obtain ⟨y0, hy⟩ : ∃ y, y = w.alloc (.cells #[.int .i64 s, .slice A n c] 29) := ⟨_, rfl⟩
  have hyz : w.heap.size < y0.heap.size := by rw [hy]; simp
  rw [← hy] at X0 H HP Hb ⊢
  clear hy
  have u0 := X0.out.cell0
  have u1 := X0.out.cell1
  have ul := X0.out.lt
  go_upto_region 2 with (at_make; refine makeB rfl _ rfl _ _ n rfl rfl (by omega) ?_; intro y1 hbl hb hlt)
  have Hbl := Lib.hid hbl
  have Hb1 := Lib.hid hb
  have Hp0 := Lib.hid (DPre.start cs ds)
  have Hk0 := Lib.hid (DMk.start n ds)
  clear hbl hb u0 u1
  go_wp2_with fail
  go_loopw [18] (fun i wr => ∃ k S, k ≤ m ∧ i = .int .i64 (k : Nat) ∧ Bl wr y0.heap.size S ∧ DPre cs ds k ∧ DMk n ds k S ∧ Below y0.heap.size y0 wr) (fun i _ => m - (intOf i).toNat)
  case atStart => exact ⟨0, _, by omega, rfl, Hbl.out, Hp0.out, Hk0.out, Hb1.out⟩
  case round =>
    clear Hbl Hb1 Hp0 Hk0
    obtain ⟨k, S, hk, rfl, hbl, hpre, hmk, hbr⟩ := hrel
    have hz := hbr.size
    have hgl := hbl.lt
    have X0r := Lib.hid (X0.out.below hbr ul)
    have HPr := Lib.hid (HP.out.below hbr (by omega))
    have Hr := Lib.hid (H.out.below hbr (by omega))
    have Hbl := Lib.hid hbl
    have Hpre := Lib.hid hpre
    have Hmk := Lib.hid hmk
    have Hbr := Lib.hid hbr
    clear hbl hpre hmk hbr
    by_cases hkm : k < m
    · obtain ⟨bp, op, rfl, hbP, hcp⟩ : ∃ bp op, P = some ⟨bp, op, none⟩ ∧ bp < B' ∧ ∀ j, j < m → wr.cell? ⟨bp, op + j, none⟩ = some (.int .i64 (ds.getD j 0)) := by
        rcases HPr.out.2 with h0 | ⟨b, o, hA, hbB, hc⟩
        · omega
        · exact ⟨b, o, hA, hbB, hc⟩
      have cz := hcp k hkm
      obtain ⟨d, hd⟩ : ∃ d, ds.getD k 0 = d := ⟨_, rfl⟩
      rw [hd] at cz
      have Hd := Lib.hid hd
      have Hcp := Lib.hid hcp
      clear hd hcp
      have v0 := X0r.out.cell0
      have v1 := X0r.out.cell1
      have vl := X0r.out.lt
      have hkm' : (k : Int) < m := by omega
      rcases Bool.eq_false_or_eq_true (hst s cs d) with hs | hs
      · obtain ⟨_, hop, hstn⟩ := hst_iff hs
        obtain ⟨_, _, d0, d1⟩ := (Pt.okP_iff s d).1 hop
        obtain ⟨e, rfl⟩ := Int.eq_ofNat_of_zero_le d0
        have hen : e < n := by have := Hn.out; omega
        have Hst : Hid (cs.getD e 0 ≠ 0) := Lib.hid (by rw [Int.toNat_natCast] at hstn; exact hstn)
        have Hmk2 := Lib.hid (Hmk.out.step (i := k) (by rw [Hdl.out]; exact hkm) Hd.out)
        clear hop hstn d0 d1
        by_cases hk0 : k = 0
        · have Hpre2 := Lib.hid (Hpre.out.step (i := k) ⟨by rw [Hd.out]; omega, by rw [Hd.out, Hcl.out]; omega, by rw [Hd.out, Int.toNat_natCast]; exact Hst.out, fun h0 => by omega⟩)
          have hk0i : ¬ (0 : Int) < (k : Nat) := by omega
          have Hk0 := Lib.hid hk0
          clear hk0
          go_wp2_with fail
          refine (i_hasStone s _ _ _ _ _ _ cs Hr.out (by omega) (by omega)).mono ?_
          rintro e9 yc ⟨rfl, hb⟩
          rw [hs]
          clear hs
          have hzc := hb.size
          have Hblc := Lib.hid (Hbl.out.below hb hgl)
          have Hbc := Lib.hid (Hbr.out.trans (hb.mono (by omega)))
          obtain ⟨u, hu⟩ : ∃ u, yc.cell? ⟨y0.heap.size, e, none⟩ = some u := ⟨_, Hblc.out.cell (by rw [Hmk.out.1]; exact hen)⟩
          have hf := Hblc.out.frozen e
          have Hbs := Lib.hid (Hblc.out.set_ e true)
          clear hb v0 v1 vl cz
          go_wp2_with fail
          go_roundw
          case rel => exact ⟨k + 1, _, by omega, by go_num, Hbs.out, Hpre2.out, Hmk2.out, Hbc.out.setCell (by show y0.heap.size ≤ y0.heap.size; omega) _⟩
          case measure => simp [intOf]; omega
        · obtain ⟨j, rfl⟩ : ∃ j, k = j + 1 := ⟨k - 1, by omega⟩
          have hk0i : (0 : Int) < ((j + 1 : Nat) : Int) := by omega
          have e1 : IntKind.i64.wrap (((j + 1 : Nat) : Int) - 1) = (j : Nat) := by simp [IntKind.wrap, IntKind.bits, IntKind.signed]; omega
          have e2 : ((j + 1 : Nat) : Int) - 1 = (j : Nat) := by omega
          have hjm : (j : Int) < m := by omega
          obtain ⟨x, hx⟩ : ∃ x, ds.getD j 0 = x := ⟨_, rfl⟩
          have Hx := Lib.hid hx
          clear hx
          by_cases hlt : x < (e : Int)
          · have Hpre2 := Lib.hid (Hpre.out.step (i := j + 1) ⟨by rw [Hd.out]; omega, by rw [Hd.out, Hcl.out]; omega, by rw [Hd.out, Int.toNat_natCast]; exact Hst.out, fun h0 => by rw [Hd.out, show j + 1 - 1 = j by omega, Hx.out]; exact hlt⟩)
            have hnle : ¬ (e : Int) ≤ x := by omega
            go_wp2_with fail
            refine (i_hasStone s _ _ _ _ _ _ cs Hr.out (by omega) (by omega)).mono ?_
            rintro e9 yc ⟨rfl, hb⟩
            rw [hs]
            clear hs
            have hzc := hb.size
            have Hblc := Lib.hid (Hbl.out.below hb hgl)
            have Hbc := Lib.hid (Hbr.out.trans (hb.mono (by omega)))
            have cx := (hb.cell (p := ⟨bp, op + j, none⟩) (by show bp < _; omega)).trans (Hcp.out j (by omega))
            rw [Hx.out] at cx
            obtain ⟨u, hu⟩ : ∃ u, yc.cell? ⟨y0.heap.size, e, none⟩ = some u := ⟨_, Hblc.out.cell (by rw [Hmk.out.1]; exact hen)⟩
            have hf := Hblc.out.frozen e
            have Hbs := Lib.hid (Hblc.out.set_ e true)
            clear hb v0 v1 vl cz
            go_wp2_with fail
            go_roundw
            case rel => exact ⟨j + 1 + 1, _, by omega, by go_num, Hbs.out, Hpre2.out, Hmk2.out, Hbc.out.setCell (by show y0.heap.size ≤ y0.heap.size; omega) _⟩
            case measure => simp [intOf]; omega
          · have hle : (e : Int) ≤ x := by omega
            have Hno : Hid (¬ Dead s cs ds) := Lib.hid (fun hD => by
              have := (hD.pre (i := j + 1) (by rw [Hdl.out]; exact hkm)).2.2.2 (by omega)
              rw [show j + 1 - 1 = j by omega, Hx.out, Hd.out] at this
              exact hlt this)
            go_wp2_with fail
            refine (i_hasStone s _ _ _ _ _ _ cs Hr.out (by omega) (by omega)).mono ?_
            rintro e9 yc ⟨rfl, hb⟩
            rw [hs]
            clear hs
            have hzc := hb.size
            have Hbf := Lib.hid (Hb.out.trans ((Hbr.out.trans (hb.mono (by omega))).mono (by omega)))
            have cx := (hb.cell (p := ⟨bp, op + j, none⟩) (by show bp < _; omega)).trans (Hcp.out j (by omega))
            rw [Hx.out] at cx
            clear hb v0 v1 vl cz
            go_wp2_with fail
            go_ret
            exact ⟨false, rfl, (fun h => by cases h), (fun _ => Hno.out), Hbf.out⟩
      · have Hno : Hid (¬ Dead s cs ds) := Lib.hid (fun hD => by
          obtain ⟨a1, a2, a3, _⟩ := hD.pre (i := k) (by rw [Hdl.out]; exact hkm)
          rw [Hd.out] at a1 a2 a3
          have : hst s cs d = true := by
            have hop : Pt.okP s d = true := (Pt.okP_iff s d).2 ⟨h1, h2, a1, by have := Hn.out; have := Hcl.out; omega⟩
            unfold hst
            rw [Hv.out, hop]
            simpa using a3
          rw [this] at hs
          cases hs)
        go_wp2_with fail
        refine (i_hasStone s _ _ _ _ _ _ cs Hr.out (by omega) (by omega)).mono ?_
        rintro e9 yc ⟨rfl, hb⟩
        rw [hs]
        clear hs
        have Hbf := Lib.hid (Hb.out.trans ((Hbr.out.trans (hb.mono (by omega))).mono (by omega)))
        clear hb v0 v1 vl cz
        go_wp2_with fail
        go_ret
        exact ⟨false, rfl, (fun h => by cases h), (fun _ => Hno.out), Hbf.out⟩
    · obtain ⟨wo, rfl⟩ : ∃ wo : World, wo = wr := ⟨_, rfl⟩
      obtain rfl : m = k := by omega
      have Hpre2 : Hid (DPre cs ds ds.length) := Lib.hid (by rw [Hdl.out]; exact Hpre.out)
      have Hin : Hid (∀ q, q < n → (S.getD q false = true ↔ (q : Int) ∈ ds)) := Lib.hid (fun q hq => by
        have := Hmk.out.2 q hq
        rw [List.take_of_length_le (by rw [Hdl.out]; exact Nat.le_refl _)] at this
        exact this)
      have Hsl := Lib.hid Hmk.out.1
      have Hw0 := Lib.hid (DWh.start s cs ds)
      go_wp2_with fail
      go_loopw [46] (fun i w2 => ∃ k, k ≤ m ∧ i = .int .i64 (k : Nat) ∧ DWh s cs ds k 0 ∧ Below wo.heap.size wo w2) (fun i _ => m - (intOf i).toNat)
      case atStart => exact ⟨0, by omega, rfl, Hw0.out, Below.refl _ _⟩
      case round =>
        clear Hw0
        obtain ⟨k, hk, rfl, hwh, hb2⟩ := hrel
        obtain ⟨w2, rfl⟩ : ∃ w2 : World, w2 = wr := ⟨_, rfl⟩
        have Hwh := Lib.hid hwh
        have Hb2 := Lib.hid hb2
        have hz2 := hb2.size
        have X2 := Lib.hid (X0r.out.below hb2 (by omega))
        have HP2 := Lib.hid (HPr.out.below hb2 (by omega))
        have H2 := Lib.hid (Hr.out.below hb2 (by omega))
        have Bl2 := Lib.hid (Hbl.out.below hb2 hgl)
        clear hwh hb2
        by_cases hkm : k < m
        · obtain ⟨bp, op, rfl, hbP, hcp⟩ : ∃ bp op, P = some ⟨bp, op, none⟩ ∧ bp < B' ∧ ∀ j, j < m → w2.cell? ⟨bp, op + j, none⟩ = some (.int .i64 (ds.getD j 0)) := by
            rcases HP2.out.2 with h0 | ⟨b, o, hA, hbB, hc⟩
            · omega
            · exact ⟨b, o, hA, hbB, hc⟩
          obtain ⟨p1, p2, _, _⟩ := Hpre.out k hkm
          have cz := hcp k hkm
          obtain ⟨d, hd⟩ : ∃ d, ds.getD k 0 = d := ⟨_, rfl⟩
          rw [hd] at cz p1 p2
          have Hd := Lib.hid hd
          clear hd hcp
          obtain ⟨e, rfl⟩ := Int.eq_ofNat_of_zero_le p1
          have hen : e < n := by have := Hcl.out; omega
          have hes : (e : Int) < s * s := by have := Hn.out; omega
          obtain ⟨b, o, rfl, hbB, hc⟩ : ∃ b o, A = some ⟨b, o, none⟩ ∧ b < B ∧ ∀ j, j < n → w2.cell? ⟨b, o + j, none⟩ = some (.int .i64 (cs.getD j 0)) := by
            rcases H2.out.2 with h0 | ⟨b, o, hA, hbB, hc⟩
            · omega
            · exact ⟨b, o, hA, hbB, hc⟩
          have Hc := Lib.hid hc
          clear hc
          have v0 := X2.out.cell0
          have v1 := X2.out.cell1
          have vl := X2.out.lt
          have hkm' : (k : Int) < m := by omega
          go_wp2_with fail
          refine (i_nbs s e _ h1 h2 p1 hes).mono ?_
          rintro e9 yc ⟨A2, n2, c2, rfl, ho, hb⟩
          have hn2 : n2 ≤ 4 := by have := ho.1; have := nbs_few s e; omega
          have hzc := hb.size
          have Ho := Lib.hid ho
          have Hlo := Lib.hid ho.1
          have X2c := Lib.hid (X2.out.below hb vl)
          have Blc := Lib.hid (Bl2.out.below hb (by omega))
          have Hbc := Lib.hid (Hb2.out.trans (hb.mono (by omega)))
          have Hcc : Hid (∀ j, j < n → yc.cell? ⟨b, o + j, none⟩ = some (.int .i64 (cs.getD j 0))) := Lib.hid (fun j hj => (hb.cell (p := ⟨b, o + j, none⟩) (by show b < _; omega)).trans (Hc.out j hj))
          clear ho hb v0 v1 cz
          have v0 := X2c.out.cell0
          have v1 := X2c.out.cell1
          have v2 := X2c.out.lt
          go_wp2_with fail
          go_loopw [55] (fun i wi => ∃ j q, j ≤ n2 ∧ i = .int .i64 (j : Nat) ∧ DWh s cs ds k j ∧ wi = yc.drewN q) (fun i _ => n2 - (intOf i).toNat)
          case atStart => exact ⟨0, 0, by omega, rfl, Hwh.out, rfl⟩
          case round =>
            obtain ⟨j, q9, hj, rfl, hwh, rfl⟩ := hrel
            have Hwj := Lib.hid hwh
            clear hwh
            by_cases hjn : j < n2
            · obtain ⟨nb, hA2⟩ : ∃ nb, A2 = some ⟨nb, 0, none⟩ := by
                obtain ⟨g, cap, hv, _⟩ := World.ownsRow.form Ho.out.2 (by omega)
                exact ⟨g, by injection hv⟩
              have hnb := Ho.out.ge hA2
              have hon := Ho.out
              rw [hA2] at hon
              have hjl : j < (Pt.nbs s e).length := by rw [Hlo.out]; exact hjn
              have hcn := hon.cellD j hjn
              have hmem : (Pt.nbs s e).getD j 0 ∈ Pt.nbs s e := by
                rw [List.getD_eq_getElem?_getD, List.getElem?_eq_getElem hjl]; exact List.getElem_mem _
              obtain ⟨q0, qn⟩ := Hnn.out e p1 (by omega) _ hmem
              obtain ⟨q, hq⟩ : ∃ q, (Pt.nbs s e).getD j 0 = q := ⟨_, rfl⟩
              rw [hq] at hcn q0 qn hmem
              obtain ⟨t, rfl⟩ := Int.eq_ofNat_of_zero_le q0
              have htn : t < n := by omega
              have Hq := Lib.hid hq
              have Hmem := Lib.hid hmem
              have ct := Hcc.out t htn
              have ce := Hcc.out e hen
              have cb := Blc.out.cell (j := t) (by rw [Hsl.out]; exact htn)
              obtain ⟨x, hx⟩ : ∃ x, cs.getD t 0 = x := ⟨_, rfl⟩
              obtain ⟨z, hz⟩ : ∃ z, cs.getD e 0 = z := ⟨_, rfl⟩
              rw [hx] at ct
              rw [hz] at ce
              have Hx := Lib.hid hx
              have Hz := Lib.hid hz
              have Hjl : Hid (j < (Pt.nbs s (ds.getD k 0)).length) := Lib.hid (by rw [Hd.out]; exact hjl)
              have Hqd : Hid ((Pt.nbs s (ds.getD k 0)).getD j 0 = (t : Int)) := Lib.hid (by rw [Hd.out]; exact Hq.out)
              rw [hA2]
              have hj2 : (j : Int) < n2 := by omega
              clear hq hmem hjl hA2 hon hx hz
              by_cases hxz : x = z
              · subst hxz
                obtain ⟨bt, hbt⟩ : ∃ bt, S.getD t false = bt := ⟨_, rfl⟩
                rw [hbt] at cb
                have Hbt := Lib.hid hbt
                clear hbt
                rcases Bool.eq_false_or_eq_true bt with rfl | rfl
                · have Hwn := Lib.hid (Hwj.out.step Hjl.out Hqd.out (fun _ => (Hin.out t htn).1 Hbt.out))
                  go_wp2_with fail
                  go_quiet (fail)
                  go_wp2_with fail
                  go_roundw
                  case rel => exact ⟨j + 1, _, by omega, by go_num, Hwn.out, rfl⟩
                  case measure => simp [intOf]; omega
                · have Hno : Hid (¬ Dead s cs ds) := Lib.hid (fun hD => by
                    have hm1 := hD.whole k (by rw [Hdl.out]; exact hkm) (t : Int) (by rw [Hd.out]; exact Hmem.out) (by rw [Hd.out, Int.toNat_natCast, Int.toNat_natCast, Hx.out, Hz.out])
                    have := (Hin.out t htn).2 hm1
                    rw [Hbt.out] at this
                    cases this)
                  have Hbf : Hid (∀ q', Below w.heap.size w ((yc.drewN q9).drewN q')) := Lib.hid (fun q' => drew_below (drew_below (Hb.out.trans ((Hbr.out.trans (Hbc.out.mono (by omega))).mono (by omega))) q9) q')
                  go_wp2_with fail
                  go_quiet (fail)
                  go_wp2_with fail
                  go_ret
                  exact ⟨false, rfl, (fun h => by cases h), (fun _ => Hno.out), by first | exact Hbf.out _ | exact World.drewN_drewN yc _ _ ▸ Hbf.out _⟩
              · have hxb : (x == z) = false := by simpa using hxz
                have Hwn := Lib.hid (Hwj.out.step Hjl.out Hqd.out (fun h9 => absurd h9 (by rw [Hd.out, Int.toNat_natCast, Int.toNat_natCast, Hx.out, Hz.out]; exact hxz)))
                go_wp2_with fail
                go_quiet (fail)
                go_wp2_with fail
                go_roundw
                case rel => exact ⟨j + 1, _, by omega, by go_num, Hwn.out, rfl⟩
                case measure => simp [intOf]; omega
            · have Hwn := Lib.hid (Hwj.out.next (by rw [Hd.out, Hlo.out]; omega))
              have Hbn := Lib.hid (drew_below Hbc.out q9)
              go_wp2_with fail
              go_roundw
              case rel => exact ⟨k + 1, by omega, by go_num, Hwn.out, Hbn.out⟩
              case measure => simp [intOf]; omega
        · obtain rfl : m = k := by omega
          have HD := Lib.hid (Dead.make Hpre2.out (by rw [Hdl.out]; exact Hwh.out))
          have Hbf := Lib.hid (Hb.out.trans ((Hbr.out.trans (Hb2.out.mono (by omega))).mono (by omega)))
          go_wp2_with fail
          go_ret
          exact ⟨true, rfl, (fun _ => HD.out), (fun h => by cases h), Hbf.out⟩
end Go.Proofs.Ytmokpaofljdehaa
