/-
  The groups in atari in both packages.
-/
import Derived.Test.YtfpibldknjcehaaAtP
namespace Go.Proofs.Ytfpibldknjcehaa
set_option maxRecDepth 100000
open Go.RowKit

theorem getD_mem {ls : List (List Int)} {j : Nat} (h : j < ls.length) : ls.getD j [] ∈ ls := by
  rw [List.getD_eq_getElem?_getD, List.getElem?_eq_getElem h]; exact List.getElem_mem _

set_option maxRecDepth 100000 in
set_option maxHeartbeats 4000000 in
theorem i_AtariGroups (s x : Int) (w : World) (B : Nat) (A : Option Addr) (n c : Nat) (cs : List Int) (h : Ints w B A n cs) (hB : B ≤ w.heap.size) (hn : n ≤ 1048576) (fs : List (List Int)) (Hfs : Hid (AtIs s n cs x fs)) :
    Calls Try.prog 50 #[.agg #[.int .i64 s, .slice A n c], .int .i64 x] w fun e w' => ∃ A' m' c', e = .returned (.slice A' m' c') ∧ SS w' w.heap.size w'.heap.size A' m' c' fs ∧ Below w.heap.size w w' := by
  have hb1 : Below w.heap.size w (w.alloc (.cells #[.int .i64 s, .slice A n c] 25)) := (Below.refl _ _).alloc (Nat.le_refl _) _
  have hl := h.1
  obtain ⟨gs, hgs⟩ := GrpsIs.make s n cs x hl
  have Hgs := Lib.hid hgs
  have hsm := hgs.small hl
  have X0 := Lib.hid (Bx.new 25 w s (.slice A n c))
  have H := Lib.hid (h.below hb1 hB)
  have Hb := Lib.hid hb1
  have Hl := Lib.hid hl
  have Hsm := Lib.hid hsm.2
  have hgl := hsm.1
  clear h hb1 hl hgs hsm
  go_enter Try.func50, Try.ntmps50
  go_upto_region 1 with (fail)
  obtain ⟨y0, hy⟩ : ∃ y, y = w.alloc (.cells #[.int .i64 s, .slice A n c] 25) := ⟨_, rfl⟩
  have hyz : w.heap.size < y0.heap.size := by rw [hy]; simp
  rw [← hy] at X0 H Hb ⊢
  clear hy
  have u0 := X0.out.cell0
  have u1 := X0.out.cell1
  have ul := X0.out.lt
  go_wp2_with fail
  refine (i_GroupsOf s x _ B _ n _ cs H.out (by omega) (by omega) gs Hgs).mono ?_
  rintro e y ⟨A1, m, c1, rfl, hss, hb⟩
  obtain ⟨hm, hbd, vs, ra, rn, rc, hv1, hv2, hv3, hv4, hv5⟩ := hss
  have hzy := hb.size
  have X1 := Lib.hid (X0.out.below hb ul)
  have H1 := Lib.hid (H.out.below hb (by omega))
  have Hb1 := Lib.hid (Hb.out.trans (hb.mono (by omega)))
  have Hv1 := Lib.hid hv1
  have Hv2 := Lib.hid hv2
  have Hv3 := Lib.hid hv3
  have Hv4 := Lib.hid hv4
  have Hv5 := Lib.hid hv5
  have Hm := Lib.hid hm
  have ul1 := X1.out.lt
  have hm49 : m ≤ 49 := by omega
  clear hb hv1 hv2 hv3 hv4 hv5 hm hbd u0 u1
  go_wp2_with fail
  go_loopw [5, 12] (fun v i wr => ∃ (k m' c' : Nat) (A' : Option Addr) (f0 : List (List Int)), k ≤ m ∧ i = .int .i64 (k : Nat) ∧ v = .slice A' m' c' ∧ FD wr y.heap.size y0.heap.size y.heap.size ra rn rc gs k A' m' c' f0 ∧ AtF (AT s n cs) gs k f0 ∧ Below y.heap.size y wr) (fun _ i _ => m - (intOf i).toNat)
  case atStart => exact ⟨0, 0, 0, none, [], by omega, rfl, rfl, FD.nil _ _ _ _ _ _ _ _, rfl, Below.refl _ _⟩
  case round =>
    obtain ⟨wo, rfl⟩ : ∃ wo : World, wo = wr := ⟨_, rfl⟩
    obtain ⟨k, m', c', A', f0, hk, rfl, rfl, hfd, hat, hbr⟩ := hrel
    have hz := hbr.size
    have X2 := Lib.hid (X1.out.below hbr ul1)
    have H2 := Lib.hid (H1.out.below hbr (by omega))
    have Hfd := Lib.hid hfd
    have Hat := Lib.hid hat
    have Hbr := Lib.hid hbr
    have v0 := X2.out.cell0
    have v1 := X2.out.cell1
    have vl := X2.out.lt
    clear hfd hat hbr
    by_cases hkm : k < m
    · have hkI : (k : Int) < m := by omega
      obtain ⟨gb, hA1⟩ : ∃ gb, A1 = some ⟨gb, 0, none⟩ := by
        obtain ⟨q, cap, hv, _⟩ := World.ownsRow.form Hv2.out (by omega)
        exact ⟨q, by injection hv⟩
      have hgbl : gb < y.heap.size := by
        have := Hv2.out
        rw [hA1] at this
        exact (World.ownsRow.lt this gb rfl).2
      have ck0 : y.cell? ⟨gb, k, none⟩ = some (.slice (ra k) (rn k) (rc k)) := by
        have := Hv2.out
        rw [hA1] at this
        rw [World.ownsRow.cellAt this k (by omega)]
        exact (Hv3.out k hkm).1
      have ck := (Hbr.out.cell (p := ⟨gb, k, none⟩) (by show gb < _; omega)).trans ck0
      rw [hA1]
      have hrow0 := (Hv3.out k hkm).2
      have hrow := hrow0.under Hbr.out (fun g e => (hrow0.ge e).2)
      have hgk := Hsm.out k
      have hrl := hrow.1
      obtain ⟨Ak, hAk⟩ : ∃ a, ra k = a := ⟨_, rfl⟩
      obtain ⟨nk, hnk⟩ : ∃ a, rn k = a := ⟨_, rfl⟩
      obtain ⟨ck9, hck⟩ : ∃ a, rc k = a := ⟨_, rfl⟩
      obtain ⟨g, hg⟩ : ∃ g, gs.getD k [] = g := ⟨_, rfl⟩
      rw [hAk, hnk, hck] at ck
      rw [hAk, hnk, hck, hg] at hrow
      rw [hnk, hg] at hrl
      rw [hg] at hgk
      have HAk := Lib.hid hAk
      have Hnk := Lib.hid hnk
      have Hck := Lib.hid hck
      have Hg := Lib.hid hg
      have Hrow := Lib.hid hrow
      have hnk49 : nk ≤ 1000 := by omega
      have hok : okGs s cs x = true := by
        rcases Bool.eq_false_or_eq_true (okGs s cs x) with e | e
        · exact e
        · have e1 := Hgs.out.2 e
          have e2 := Hm.out
          rw [e1] at e2
          have : m = 0 := by simpa using e2.symm
          omega
      have hgl2 := Hgs.out.1 hok
      unfold okGs at hok
      rw [Bool.and_eq_true] at hok
      obtain ⟨q1, q2, q3, _⟩ := (Bd.okB_iff s cs).1 hok.1
      have hns : (n : Int) = s * s := by rw [← q3, Hl.out]
      have hmem : g ∈ gs := by rw [← hg]; exact getD_mem (by rw [Hm.out]; exact hkm)
      obtain ⟨q, hq1, hq2, hq3, hq4⟩ := GL.row (Nat.le_refl n) hgl2 g hmem
      have Hq4 := Lib.hid hq4
      have Hns := Lib.hid hns
      clear ck0 hA1 hrow0 hrow hAk hnk hck hg hok hgl2 hmem hq4 q3 hns
      go_wp2_with fail
      refine (i_emptyNextTo s _ B _ _ _ n _ nk ck9 cs g H2.out Hrow.out.ints (by omega) (Nat.le_refl _) (.inr ⟨q1, q2, Hns.out⟩) (fun j hj => Hq4.out.small j (by omega)) (by omega) hn).mono ?_
      rintro e y3 ⟨A3, m3, c3, S, rfl, ho3, hS, hb3⟩
      have hz3 := hb3.size
      have Hat3 := Lib.hid (AT.iff hS)
      have hm3 := ho3.1
      have Hm3 := Lib.hid hm3
      have Hfd3 := Lib.hid (Hfd.out.below hb3)
      have Hbr3 := Lib.hid (Hbr.out.trans (hb3.mono (by omega)))
      clear ho3 hS hb3 v0 v1 ck hm3
      by_cases hm1 : m3 = 1
      · subst hm1
        obtain ⟨vs9, r1, r2, r3, r4⟩ := Hfd3.out.row
        rw [HAk.out, Hnk.out, Hck.out, Hg.out] at r3
        have R3 := Lib.hid r3
        have Hrw := Lib.hid r1
        have Hyes : Hid (AT s n cs (gs.getD k [])) := Lib.hid (by rw [Hg.out]; exact Hat3.out.2 Hm3.out)
        clear r1 r4 r3
        go_wp2_with (at_builtin; refine app1V rfl _ _ rfl _ _ _ _ _ _ _ _ _ _ rfl rfl rfl Hrw.out (by omega) (by omega) ?_; intro A6 c6 w6 hr6 hlt6 hg6 hat6)
        have Hfd6 := Lib.hid (R3.out w6 A6 c6 hr6 (fun q e => by rcases hat6 q e with e2 | e2; exact .inl e2; exact .inr (by omega)))
        have Hb6 := Lib.hid (Hbr3.out.grown hg6 (by omega) (fun q e => by have e2 := slice_block e (row_form Hrw.out); have := Hrw.out; rw [e2] at this; exact (World.ownsRow.lt this q rfl).1))
        clear hr6 hg6 hat6
        go_roundw
        case rel => exact ⟨k + 1, _, _, _, _, by omega, by go_num, rfl, Hfd6.out, ⟨_, Hat.out, .inl ⟨Hyes.out, by rw [Hg.out]⟩⟩, Hb6.out⟩
        case measure => simp [intOf]; omega
      · have Hno : Hid (¬ AT s n cs (gs.getD k [])) := Lib.hid (by rw [Hg.out]; exact fun h => hm1 (Hm3.out.symm.trans (Hat3.out.1 h)))
        have hm1' : ¬ (m3 : Int) = 1 := by omega
        go_wp2_with fail
        go_roundw
        case rel => exact ⟨k + 1, _, _, _, _, by omega, by go_num, rfl, Hfd3.out.skip, ⟨_, Hat.out, .inr ⟨Hno.out, rfl⟩⟩, Hbr3.out⟩
        case measure => simp [intOf]; omega
    · obtain rfl : k = m := by omega
      have hf0 : f0 = fs := Hat.out.one (by have := Hfs.out.of Hgs.out; rw [Hm.out] at this; exact this)
      rw [hf0] at Hfd
      clear hf0
      go_wp2_with fail
      go_ret
      exact ⟨_, _, _, rfl, Hfd.out.ss (Nat.le_refl _) (by omega) (fun j hj => ((Hv3.out j hj).2.under Hbr.out (fun g e => ((Hv3.out j hj).2.ge e).2)).weaken (by omega)) (fun j hj g e => (Hv3.out j hj).2.ge e) Hv5.out, Hb1.out.trans (Hbr.out.mono (by omega))⟩
end Go.Proofs.Ytfpibldknjcehaa
