/-
  ValidTask in both packages.
-/
import Derived.Test.YtmokpaofljdehaaTsk
import Derived.Test.YtmokpaofljdehaaAsc
import Derived.Test.YtmokpaofljdehaaGrpI
import Derived.Test.YtmokpaofljdehaaSpecVB
namespace Go.Proofs.Ytmokpaofljdehaa
set_option maxRecDepth 100000
open Go.RowKit

/-- Is the task valid? -/
def okT (s : Int) (cs : List Int) (t : Int) (ps : List Int) : Bool := hst s cs t && (decide (ps.length ≤ 4) && ascIn ps 0 ((cs.length : Int) - 1))

/-- The first i points are on the board and ascend. -/
def TPre (n : Nat) (ps : List Int) (i : Nat) : Prop := ∀ j, j < i → 0 ≤ ps.getD j 0 ∧ ps.getD j 0 < n ∧ (0 < j → ps.getD (j - 1) 0 < ps.getD j 0)
theorem TPre.step {n : Nat} {ps : List Int} {i : Nat} (h : TPre n ps i) (h1 : 0 ≤ ps.getD i 0 ∧ ps.getD i 0 < n ∧ (0 < i → ps.getD (i - 1) 0 < ps.getD i 0)) : TPre n ps (i + 1) := by
  intro j hj
  by_cases e : j = i
  · subst e; exact h1
  · exact h j (by omega)
theorem TPre.yes {n : Nat} {ps : List Int} (h : TPre n ps ps.length) : ascIn ps 0 ((n : Int) - 1) = true := by
  rw [ascIn, Bool.and_eq_true, ascAt_iff, inAt_iff]
  refine ⟨fun i hi => ?_, fun i hi => by have := h i hi; omega⟩
  have := (h (i + 1) hi).2.2 (by omega)
  rw [show i + 1 - 1 = i by omega] at this
  exact this
theorem TPre.no {n : Nat} {ps : List Int} {i : Nat} (hi : i < ps.length) (h : ¬ (0 ≤ ps.getD i 0 ∧ ps.getD i 0 < n ∧ (0 < i → ps.getD (i - 1) 0 < ps.getD i 0))) : ascIn ps 0 ((n : Int) - 1) = false := by
  rw [Bool.eq_false_iff]
  intro h9
  rw [ascIn, Bool.and_eq_true, ascAt_iff, inAt_iff] at h9
  refine h ⟨(h9.2 i hi).1, by have := (h9.2 i hi).2; omega, fun h0 => ?_⟩
  have := h9.1 (i - 1) (by omega)
  rw [show i - 1 + 1 = i by omega] at this
  exact this

theorem s_vpt (s p : Int) (w : World) : Calls Try.prog 72 #[.int .i64 s, .int .i64 p] w fun e w' => e = .returned (.bool (decide (0 ≤ p) && decide (p ≤ wrap64 (wrap64 (s * s) - 1)))) ∧ w = w' := by
  go_enter Try.func72, Try.ntmps72
  go_wp2_with fail
  refine (s_range _ _ _ _).mono ?_
  rintro e w' ⟨rfl, rfl⟩
  go_wp2_with fail
  go_ret
  exact ⟨rfl, rfl⟩
theorem s_vptB (s p : Int) (w : World) (h1 : 1 ≤ s) (h2 : s ≤ 7) : Calls Try.prog 72 #[.int .i64 s, .int .i64 p] w fun e w' => e = .returned (.bool (Pt.okP s p)) ∧ w = w' := by
  have hsq := Pt.sq_bd s h1 h2
  have e1 : wrap64 (s * s) = s * s := by unfold wrap64; omega
  have e2 : wrap64 (s * s - 1) = s * s - 1 := by unfold wrap64; omega
  have e : (decide (0 ≤ p) && decide (p ≤ wrap64 (wrap64 (s * s) - 1))) = Pt.okP s p := by
    rw [e1, e2, Bool.eq_iff_iff, Pt.okP_iff, Bool.and_eq_true, decide_eq_true_eq, decide_eq_true_eq]
    omega
  rw [← e]
  exact s_vpt s p w

section
variable (s t : Int) (w : World) (B B' : Nat) (A P : Option Addr) (n c m pc : Nat) (cs ps : List Int) (h : Ints w B A n cs) (h' : Ints w B' P m ps) (hB : B ≤ w.heap.size) (hB' : B' ≤ w.heap.size) (hn : n ≤ 1048576) (hm : m ≤ 1048576)
include h h' hB hB' hn hm

set_option maxRecDepth 100000 in
set_option maxHeartbeats 4000000 in
theorem i_VT : Calls Try.prog 14 #[.agg #[.int .i64 s, .slice A n c, .int .i64 t, .slice P m pc]] w fun e w' => e = .returned (.bool (okT s cs t ps)) ∧ Below w.heap.size w w' := by
  have hb1 : Below w.heap.size w (w.alloc (.cells #[.int .i64 s, .slice A n c, .int .i64 t, .slice P m pc] 31)) := (Below.refl _ _).alloc (Nat.le_refl _) _
  have V := Lib.hid (Bt.new 31 w s t (.slice A n c) (.slice P m pc))
  have H := Lib.hid (h.below hb1 hB)
  have HP := Lib.hid (h'.below hb1 hB')
  have Hcl := Lib.hid h.1
  have Hpl := Lib.hid h'.1
  have Hb := Lib.hid hb1
  clear h h' hb1
  obtain ⟨hs, hhs⟩ : ∃ hs, hst s cs t = hs := ⟨_, rfl⟩
  have Hhs := Lib.hid hhs
  clear hhs
  go_enter Try.func14, Try.ntmps14
  go_wp2_with fail
  refine (i_hasStone s _ _ _ _ _ _ cs H.out (by simp; omega) (by omega)).mono ?_
  rintro e y ⟨rfl, hb⟩
  rw [Hhs.out]
  have V2 := Lib.hid (V.out.below hb V.out.lt)
  have HP2 := Lib.hid (HP.out.below hb (by simp; omega))
  have Hb2 := Lib.hid (Hb.out.trans (hb.mono (by simp)))
  have hz := hb.size
  clear hb H
  have v0 := V2.out.cell0
  have v3 := V2.out.cell3
  have vl := V2.out.lt
  rcases Bool.eq_false_or_eq_true hs with rfl | rfl
  · obtain ⟨hv, hop, _⟩ := hst_iff Hhs.out
    obtain ⟨h1, h2, _, _⟩ := (Pt.okP_iff s t).1 hop
    have hnq : (n : Int) = s * s := by
      have := ((Bd.okB_iff s cs).1 hv).2.2.1
      rw [Hcl.out] at this
      exact this
    have Hnq := Lib.hid hnq
    clear hv hop hnq
    by_cases hm4 : m ≤ 4
    · have hm4i : ¬ (4 : Int) < (m : Nat) := by omega
      go_wp2_with fail
      go_loop [20] (fun v => ∃ k : Nat, k ≤ m ∧ v = .int .i64 (k : Nat) ∧ TPre n ps k) (fun v => m - (intOf v).toNat)
      case atStart => exact ⟨0, by omega, rfl, fun j hj => absurd hj (Nat.not_lt_zero j)⟩
      case round =>
        obtain ⟨k, hk, rfl, hpre⟩ := hrel
        have Hpre := Lib.hid hpre
        clear hpre
        by_cases hkm : k < m
        · obtain ⟨bp, op, rfl, hbP, hcp⟩ : ∃ bp op, P = some ⟨bp, op, none⟩ ∧ bp < B' ∧ ∀ j, j < m → y.cell? ⟨bp, op + j, none⟩ = some (.int .i64 (ps.getD j 0)) := by
            rcases HP2.out.2 with h0 | ⟨b, o, hA, hbB, hc⟩
            · omega
            · exact ⟨b, o, hA, hbB, hc⟩
          have cz := hcp k hkm
          have Hcp := Lib.hid hcp
          obtain ⟨d, hd⟩ : ∃ d, ps.getD k 0 = d := ⟨_, rfl⟩
          rw [hd] at cz
          have Hd := Lib.hid hd
          have hkm' : (k : Int) < m := by omega
          clear hd hcp
          rcases Bool.eq_false_or_eq_true (Pt.okP s d) with hop | hop
          · have Hop : Hid (0 ≤ d ∧ d < n) := Lib.hid (by obtain ⟨_, _, d0, d1⟩ := (Pt.okP_iff s d).1 hop; have := Hnq.out; omega)
            by_cases hk0 : k = 0
            · have Hpre2 := Lib.hid (Hpre.out.step (i := k) ⟨by rw [Hd.out]; exact Hop.out.1, by rw [Hd.out]; exact Hop.out.2, fun h0 => by omega⟩)
              have hk0i : ¬ (0 : Int) < (k : Nat) := by omega
              have Hk0 := Lib.hid hk0
              clear hk0
              go_wp2_with fail
              refine (i_point s d _).mono ?_
              rintro e w' ⟨rfl, rfl⟩
              rw [hop]
              clear hop
              go_wp2_with fail
              go_round
              case rel => exact ⟨k + 1, by omega, by go_num, Hpre2.out⟩
              case measure => simp [intOf]; omega
            · obtain ⟨j, rfl⟩ : ∃ j, k = j + 1 := ⟨k - 1, by omega⟩
              have hk0i : (0 : Int) < ((j + 1 : Nat) : Int) := by omega
              have e1 : IntKind.i64.wrap (((j + 1 : Nat) : Int) - 1) = (j : Nat) := by simp [IntKind.wrap, IntKind.bits, IntKind.signed]; omega
              have e2 : ((j + 1 : Nat) : Int) - 1 = (j : Nat) := by omega
              have hjm : (j : Int) < m := by omega
              have cx := Hcp.out j (by omega)
              obtain ⟨x, hx⟩ : ∃ x, ps.getD j 0 = x := ⟨_, rfl⟩
              rw [hx] at cx
              have Hx := Lib.hid hx
              clear hx
              by_cases hlt : x < d
              · have Hpre2 := Lib.hid (Hpre.out.step (i := j + 1) ⟨by rw [Hd.out]; exact Hop.out.1, by rw [Hd.out]; exact Hop.out.2, fun h0 => by rw [Hd.out, show j + 1 - 1 = j by omega, Hx.out]; exact hlt⟩)
                have hnle : ¬ d ≤ x := by omega
                go_wp2_with fail
                refine (i_point s d _).mono ?_
                rintro e w' ⟨rfl, rfl⟩
                rw [hop]
                clear hop
                go_wp2_with fail
                go_round
                case rel => exact ⟨j + 1 + 1, by omega, by go_num, Hpre2.out⟩
                case measure => simp [intOf]; omega
              · have hle : d ≤ x := by omega
                have Hno : Hid (okT s cs t ps = false) := Lib.hid (by
                  have h9 := TPre.no (n := n) (ps := ps) (i := j + 1) (by rw [Hpl.out]; exact hkm) (fun h => by
                    have := h.2.2 (by omega)
                    rw [show j + 1 - 1 = j by omega, Hx.out, Hd.out] at this
                    exact hlt this)
                  rw [okT, Hcl.out, h9, Bool.and_false, Bool.and_false])
                go_wp2_with fail
                refine (i_point s d _).mono ?_
                rintro e w' ⟨rfl, rfl⟩
                rw [hop]
                clear hop
                go_wp2_with fail
                go_ret
                exact ⟨by rw [Hno.out]; rfl, Hb2.out⟩
          · have Hno : Hid (okT s cs t ps = false) := Lib.hid (by
              have h9 := TPre.no (n := n) (ps := ps) (i := k) (by rw [Hpl.out]; exact hkm) (fun h => by
                rw [Hd.out] at h
                have : Pt.okP s d = true := (Pt.okP_iff s d).2 ⟨h1, h2, h.1, by have := Hnq.out; omega⟩
                rw [hop] at this
                cases this)
              rw [okT, Hcl.out, h9, Bool.and_false, Bool.and_false])
            go_wp2_with fail
            refine (i_point s d _).mono ?_
            rintro e w' ⟨rfl, rfl⟩
            rw [hop]
            clear hop
            go_wp2_with fail
            go_ret
            exact ⟨by rw [Hno.out]; rfl, Hb2.out⟩
        · have hkm2 : k = m := by omega
          have Hyes : Hid (okT s cs t ps = true) := Lib.hid (by
            have h9 := TPre.yes (n := n) (ps := ps) (by rw [Hpl.out, ← hkm2]; exact Hpre.out)
            rw [okT, Hhs.out, Hcl.out, h9, Hpl.out]
            simpa using hm4)
          clear hkm2
          go_wp2_with fail
          go_ret
          exact ⟨by rw [Hyes.out]; rfl, Hb2.out⟩
    · have hm4i : (4 : Int) < (m : Nat) := by omega
      have Hno : Hid (okT s cs t ps = false) := Lib.hid (by
        rw [okT, show decide (ps.length ≤ 4) = false from decide_eq_false (by rw [Hpl.out]; exact hm4), Bool.false_and, Bool.and_false])
      go_wp2_with fail
      go_ret
      exact ⟨by rw [Hno.out]; rfl, Hb2.out⟩
  · have Hno : Hid (okT s cs t ps = false) := Lib.hid (by rw [okT, Hhs.out]; rfl)
    go_wp2_with fail
    go_ret
    exact ⟨by rw [Hno.out]; rfl, Hb2.out⟩

set_option maxRecDepth 100000 in
set_option maxHeartbeats 4000000 in
theorem s_vt : Calls Try.prog 42 #[.agg #[.int .i64 s, .slice A n c, .int .i64 t, .slice P m pc]] w fun e w' => e = .returned (.bool (okT s cs t ps)) ∧ Below w.heap.size w w' := by
  have hb1 : Below w.heap.size w (w.alloc (.cells #[.int .i64 s, .slice A n c, .int .i64 t, .slice P m pc] 31)) := (Below.refl _ _).alloc (Nat.le_refl _) _
  have V := Lib.hid (Bt.new 31 w s t (.slice A n c) (.slice P m pc))
  have H := Lib.hid (h.below hb1 hB)
  have HP := Lib.hid (h'.below hb1 hB')
  have Hcl := Lib.hid h.1
  have Hpl := Lib.hid h'.1
  have Hb := Lib.hid hb1
  clear h h' hb1
  have wn : IntKind.i64.wrap ((n : Int) - 1) = (n : Int) - 1 := by simp [IntKind.wrap, IntKind.bits, IntKind.signed]; omega
  go_enter Try.func42, Try.ntmps42
  go_wp2_with fail
  refine (s_validBoard s _ _ _ _ _ cs H.out (by simp; omega) (by omega)).mono ?_
  rintro e y ⟨rfl, hb⟩
  have V2 := Lib.hid (V.out.below hb V.out.lt)
  have HP2 := Lib.hid (HP.out.below hb (by simp; omega))
  have H2 := Lib.hid (H.out.below hb (by simp; omega))
  have Hb2 := Lib.hid (Hb.out.trans (hb.mono (by simp)))
  have hz := hb.size
  clear hb
  have v0 := V2.out.cell0
  have v1 := V2.out.cell1
  have v2 := V2.out.cell2
  have v3 := V2.out.cell3
  have vl := V2.out.lt
  rcases Bool.eq_false_or_eq_true (Bd.okB s cs) with hv | hv
  · obtain ⟨h1, h2, h3, _⟩ := (Bd.okB_iff s cs).1 hv
    have Hnq : Hid ((n : Int) = s * s) := Lib.hid (by rw [Hcl.out] at h3; exact h3)
    have Hv := Lib.hid hv
    rw [hv]
    clear hv h3
    rcases Bool.eq_false_or_eq_true (Pt.okP s t) with hop | hop
    · obtain ⟨_, _, t0, t1⟩ := (Pt.okP_iff s t).1 hop
      obtain ⟨q, rfl⟩ := Int.eq_ofNat_of_zero_le t0
      have hqn : q < n := by have := Hnq.out; omega
      have hqi : (q : Int) < n := by omega
      have Hop := Lib.hid hop
      obtain ⟨b, o, rfl, hbB, hc⟩ : ∃ b o, A = some ⟨b, o, none⟩ ∧ b < B ∧ ∀ j, j < n → y.cell? ⟨b, o + j, none⟩ = some (.int .i64 (cs.getD j 0)) := by
        rcases H2.out.2 with h0 | ⟨b, o, hA, hbB, hc⟩
        · omega
        · exact ⟨b, o, hA, hbB, hc⟩
      have cq := hc q hqn
      obtain ⟨x, hx⟩ : ∃ x, cs.getD q 0 = x := ⟨_, rfl⟩
      rw [hx] at cq
      have Hx := Lib.hid hx
      clear hc hx t0 t1
      by_cases hx0 : x = 0
      · have hxb : (x == 0) = true := by simpa using hx0
        have Hno : Hid (okT s cs (q : Int) ps = false) := Lib.hid (by
          have : hst s cs (q : Int) = false := by unfold hst; rw [Hv.out, Hop.out, Int.toNat_natCast, Hx.out, hxb]; rfl
          rw [okT, this]; rfl)
        clear hx0
        go_wp2_with fail
        refine (s_vptB s _ _ h1 h2).mono ?_
        rintro e w' ⟨rfl, rfl⟩
        rw [hop]
        clear hop
        go_wp2_with fail
        go_ret
        exact ⟨by rw [Hno.out]; rfl, Hb2.out⟩
      · have hxb : (x == 0) = false := by simpa using hx0
        have Hst : Hid (hst s cs (q : Int) = true) := Lib.hid (by unfold hst; rw [Hv.out, Hop.out, Int.toNat_natCast, Hx.out, hxb]; rfl)
        clear hx0
        obtain ⟨ba, hba⟩ : ∃ ba, ascIn ps 0 ((n : Int) - 1) = ba := ⟨_, rfl⟩
        have Hba := Lib.hid hba
        clear hba
        have Hres : Hid (okT s cs (q : Int) ps = (ba && decide (m ≤ 4))) := Lib.hid (by
          rw [okT, Hst.out, Hcl.out, Hba.out, Hpl.out, Bool.true_and, Bool.and_comm])
        go_wp2_with fail
        refine (s_vptB s _ _ h1 h2).mono ?_
        rintro e w' ⟨rfl, rfl⟩
        rw [hop]
        clear hop
        go_wp2_with fail
        refine (s_asc _ _ _ _ _ ps 0 _ HP2.out (by omega)).mono ?_
        rintro e w' ⟨rfl, qa, rfl⟩
        rw [Hba.out]
        rcases Bool.eq_false_or_eq_true ba with rfl | rfl
        · by_cases hm4 : m ≤ 4
          · have hm4i : ((m : Nat) : Int) ≤ 4 := by omega
            have Hd : Hid (decide (m ≤ 4) = true) := Lib.hid (decide_eq_true hm4)
            go_wp2_with fail
            go_ret
            exact ⟨by rw [Hres.out, Hd.out]; rfl, drew_below Hb2.out qa⟩
          · have hm4i : decide (((m : Nat) : Int) ≤ 4) = false := by rw [decide_eq_false_iff_not]; omega
            have Hd : Hid (decide (m ≤ 4) = false) := Lib.hid (decide_eq_false hm4)
            go_wp2_with fail
            go_ret
            exact ⟨by rw [Hres.out, Hd.out]; rfl, drew_below Hb2.out qa⟩
        · go_wp2_with fail
          go_ret
          exact ⟨by rw [Hres.out]; rfl, drew_below Hb2.out qa⟩
    · have Hno : Hid (okT s cs t ps = false) := Lib.hid (by
        have : hst s cs t = false := by unfold hst; rw [hop, Bool.false_and, Bool.and_false]
        rw [okT, this]; rfl)
      go_wp2_with fail
      refine (s_vptB s _ _ h1 h2).mono ?_
      rintro e w' ⟨rfl, rfl⟩
      rw [hop]
      clear hop
      go_wp2_with fail
      go_ret
      exact ⟨by rw [Hno.out]; rfl, Hb2.out⟩
  · have Hno : Hid (okT s cs t ps = false) := Lib.hid (by
      have : hst s cs t = false := by unfold hst; rw [hv, Bool.false_and]
      rw [okT, this]; rfl)
    rw [hv]
    go_wp2_with fail
    go_ret
    exact ⟨by rw [Hno.out]; rfl, Hb2.out⟩

set_option maxHeartbeats 1000000 in
theorem s_VT : Calls Try.prog 12 #[.agg #[.int .i64 s, .slice A n c, .int .i64 t, .slice P m pc]] w fun e w' => e = .returned (.bool (okT s cs t ps)) ∧ Below w.heap.size w w' := by
  have hb1 : Below w.heap.size w (w.alloc (.cells #[.int .i64 s, .slice A n c, .int .i64 t, .slice P m pc] 31)) := (Below.refl _ _).alloc (Nat.le_refl _) _
  have V := Lib.hid (Bt.new 31 w s t (.slice A n c) (.slice P m pc))
  have H := Lib.hid (h.below hb1 hB)
  have HP := Lib.hid (h'.below hb1 hB')
  have Hb := Lib.hid hb1
  clear h h' hb1
  have v0 := V.out.cell0
  have v1 := V.out.cell1
  have v2 := V.out.cell2
  have v3 := V.out.cell3
  go_enter Try.func12, Try.ntmps12
  go_wp2_with fail
  refine (s_vt s t _ B B' A P n c m pc cs ps H.out HP.out (by simp; omega) (by simp; omega) hn hm).mono ?_
  rintro e y ⟨rfl, hb⟩
  have Hb := Lib.hid (Hb.out.trans (hb.mono (by simp)))
  clear hb
  go_wp2_with fail
  go_ret
  exact ⟨rfl, Hb.out⟩
end
end Go.Proofs.Ytmokpaofljdehaa
