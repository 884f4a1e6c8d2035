/-
  The model's pattern around a point: its number.
-/
import Derived.Test.YtpopbcmfbcmojaaPaS
namespace Go.Proofs.Ytpopbcmfbcmojaa
set_option maxRecDepth 100000
open Go.RowKit

set_option maxRecDepth 100000 in
set_option maxHeartbeats 8000000 in
theorem s_pat0 (s p : Int) (w : World) (B : Nat) (A : Option Addr) (n c : Nat) (cs : List Int) (h : Ints w B A n cs) (hB : B ≤ w.heap.size) (hv : Bd.okB s cs = true) (h3 : 0 ≤ p) (h4 : p < s * s) :
    Calls Try.prog 51 #[.agg #[.int .i64 s, .slice A n c], .int .i64 p] w fun e w' => e = .returned (.int .i64 (Pa.pat s cs p)) ∧ Below w.heap.size w w' := by
  obtain ⟨h1, h2, hl, _⟩ := (Bd.okB_iff s cs).1 hv
  have hsq := Pt.sq_bd s h1 h2
  have hn : (n : Int) = s * s := by rw [← hl, h.1]
  have hn49 : n ≤ 49 := by omega
  obtain ⟨b, o, rfl, hbB, hc⟩ : ∃ b o, A = some ⟨b, o, none⟩ ∧ b < B ∧ ∀ j, j < n → w.cell? ⟨b, o + j, none⟩ = some (.int .i64 (cs.getD j 0)) := by
    rcases h.2 with h | h
    · omega
    · exact h
  have hA : Pa.pat s cs p = Pk.hor (fun i => Pa.dg s cs p (Pa.ix i : Nat)) 8 := by rw [Pk.hor_all]; rfl
  have HA := Lib.hid hA
  have Hn := Lib.hid hn
  have Hc := Lib.hid hc
  obtain ⟨y1, hy1, hb1, z1, z2⟩ : ∃ y, y = w.alloc (.cells #[.int .i64 s, .slice (some ⟨b, o, none⟩) n c] 25) ∧ Below w.heap.size w y ∧ w.heap.size + 1 ≤ y.heap.size ∧ y.heap.size ≤ w.heap.size + 1 :=
    ⟨_, rfl, (Below.refl _ _).alloc (Nat.le_refl _) _, by simp, by simp⟩
  have X0 := Lib.hid (show Bx 25 y1 w.heap.size s (.slice (some ⟨b, o, none⟩) n c) by rw [hy1]; exact Bx.new _ _ _ _)
  clear hA h hc hl
  go_enter Try.func51, Try.ntmps51
  go_upto_region 1 with (fail)
  rw [← hy1]
  clear hy1
  have u0 := X0.out.cell0
  have u1 := X0.out.cell1
  have ul := X0.out.lt
  go_wp2_with fail
  refine (s_around s p _ h1 h2 h3 h4).mono ?_
  rintro e y2 ⟨A2, c2, rfl, ho, hb⟩
  have X0 := Lib.hid (X0.out.below hb ul)
  have HB := Lib.hid (hb1.trans (hb.mono (by omega)))
  obtain ⟨b2, o2, rfl, hb2, hc2⟩ : ∃ b o, A2 = some ⟨b, o, none⟩ ∧ b < y2.heap.size ∧ ∀ j, j < 8 → y2.cell? ⟨b, o + j, none⟩ = some (.int .i64 ((Pa.arl s p 9).getD j 0)) := by
    rcases ho.ints.2 with h | h
    · omega
    · exact h
  have Hc2 := Lib.hid hc2
  have z3 := hb.size
  clear ho hb u0 u1 ul hc2 hb1
  have u0 := X0.out.cell0
  have u1 := X0.out.cell1
  have ul := X0.out.lt
  go_wp2_with fail
  go_loopg [6, 7] 9 (fun q v6 v7 wr => ∃ k : Nat, k + q = 9 ∧ k ≤ 8 ∧ v6 = .int .i64 (Pk.hor (fun i => Pa.dg s cs p (Pa.ix i : Nat)) k) ∧ v7 = .int .i64 (7 - (k : Nat)) ∧ Below y2.heap.size y2 wr)
  case atStart => exact ⟨0, by omega, by omega, rfl, rfl, Below.refl _ _⟩
  case round =>
    obtain ⟨k, hk, hk8, rfl, rfl, hb⟩ := hrel
    obtain ⟨wi, rfl⟩ : ∃ wi : World, wi = wr := ⟨_, rfl⟩
    obtain ⟨b0, b1⟩ := Pk.hor_bd (f := fun i => Pa.dg s cs p (Pa.ix i : Nat)) (fun i => Pa.dg_bd hv) k hk8
    have Hbw := Lib.hid hb
    have X1 := Lib.hid (X0.out.below hb ul)
    have u0 := X1.out.cell0
    have u1 := X1.out.cell1
    by_cases hkk : k = 8
    · subst hkk
      have hlt : ¬ (0 : Int) ≤ 7 - (((8 : Nat) : Int)) := by omega
      clear hb
      go_wp2_with fail
      go_ret
      exact ⟨ret_int HA.out.symm, HB.out.trans (Hbw.out.mono (by omega))⟩
    · obtain ⟨i, hi⟩ : ∃ i, i = 7 - k := ⟨_, rfl⟩
      have hki : 7 - ((k : Nat) : Int) = (i : Nat) := by omega
      have hi7 : i ≤ 7 := by omega
      have hi8 : ((i : Nat) : Int) < 8 := by omega
      have hi0 : (0 : Int) ≤ (i : Nat) := by omega
      have hs : Pk.hor (fun i => Pa.dg s cs p (Pa.ix i : Nat)) (k + 1) = 4 * Pk.hor (fun i => Pa.dg s cs p (Pa.ix i : Nat)) k + Pa.dg s cs p (Pa.ix i : Nat) := by rw [hi]; rfl
      obtain ⟨H, hH⟩ : ∃ H, Pk.hor (fun i => Pa.dg s cs p (Pa.ix i : Nat)) k = H := ⟨_, rfl⟩
      have ck := (hb.cell (p := ⟨b2, o2 + i, none⟩) (by show b2 < _; omega)).trans (Hc2.out i (by omega))
      rw [Pa.arl_at s p (by omega)] at ck
      obtain ⟨t1, t2⟩ := Pa.pt_bd (s := s) (p := p) (i := (Pa.ix i : Nat)) h1 h2
      obtain ⟨g1, g2⟩ := Pa.pt_dg (s := s) (cs := cs) (p := p) (i := (Pa.ix i : Nat)) h1 h2
      obtain ⟨e1, e2⟩ := Pa.dg_bd (p := p) (i := (Pa.ix i : Nat)) hv
      obtain ⟨t, ht⟩ : ∃ t, Pa.pt s p (Pa.ix i : Nat) = t := ⟨_, rfl⟩
      obtain ⟨d, hd⟩ : ∃ d, Pa.dg s cs p (Pa.ix i : Nat) = d := ⟨_, rfl⟩
      rw [ht] at ck t1 t2 g1 g2
      rw [hd] at g1 g2 e1 e2 hs
      rw [hH] at b0 b1 hs ⊢
      rw [hki]
      have Hs := Lib.hid hs
      by_cases h0 : 0 ≤ t
      · obtain ⟨j, rfl⟩ := Int.eq_ofNat_of_zero_le h0
        have hjn : j < n := by have := Hn.out; omega
        have hjn' : ((j : Nat) : Int) < n := by omega
        have cj := ((HB.out.trans (hb.mono (by omega))).cell (p := ⟨b, o + j, none⟩) (by show b < _; omega)).trans (Hc.out j hjn)
        have hdj : cs.getD j 0 = d := by rw [g1 h0, Int.toNat_natCast]
        rw [hdj] at cj
        clear hs hH ht hd g1 g2 hi hdj t1 t2 hb
        go_wp2_with fail
        go_region
        all_goals go_wp2_with fail
        all_goals go_roundg (8 - k)
        all_goals try omega
        all_goals exact ⟨k + 1, by omega, by omega, by rw [Hs.out], by go_num, by first | exact Hbw.out | exact Hbw.out.drew⟩
      · have hd3 : d = 3 := g2 (by omega)
        have hm1 : t = -1 := by omega
        subst hd3 hm1
        have hn0 : ¬ (0 : Int) ≤ -1 := by omega
        clear hs hH ht hd g1 g2 hi t1 t2 hb h0
        go_wp2_with fail
        go_roundg (8 - k)
        case measure => omega
        case rel => exact ⟨k + 1, by omega, by omega, by rw [Hs.out], by go_num, Hbw.out⟩
end Go.Proofs.Ytpopbcmfbcmojaa
