/-
  Texts that laws over drawn boards stand on: PaS, PaT, PaU, PaV, WordsU, FmtP, FmtS, ParseS, TrI, TrS, Rand, Any, Step, Count, Valid, CntP, DrawLI, LawP, Point, HaD, PaW.
-/
import Derived.Test.YtpopbcmfbcmojaaPaQ
import Derived.Test.YtpopbcmfbcmojaaPkS
import Derived.Deep.QuietTactic
import Derived.Test.YtpopbcmfbcmojaaPaJ
import Derived.Test.YtpopbcmfbcmojaaPaI
import Derived.Test.YtpopbcmfbcmojaaPkT
import Derived.Test.YtpopbcmfbcmojaaWords
import Derived.Laws.BytesString
import Derived.Test.YtpopbcmfbcmojaaPureBd
import Derived.Test.YtpopbcmfbcmojaaFactPt
import Derived.Test.YtpopbcmfbcmojaaRows2
import Derived.Test.YtpopbcmfbcmojaaPlayP
import Derived.Laws.BytesArg
import Derived.Test.YtpopbcmfbcmojaaBoard
import Derived.BigQuiet
import Derived.IntWalk
import Derived.Test.YtpopbcmfbcmojaaMvI
import Derived.Test.YtpopbcmfbcmojaaSpecC
import Derived.Test.YtpopbcmfbcmojaaPlayed
import Derived.Test.YtpopbcmfbcmojaaLists
import Derived.Test.YtpopbcmfbcmojaaBoardI
import Derived.Deep.RegionWith
import Derived.Test.YtpopbcmfbcmojaaImplPtB
namespace Go.Proofs.Ytpopbcmfbcmojaa
set_option maxRecDepth 100000
open Go.RowKit

set_option maxHeartbeats 4000000 in
theorem s_around (s p : Int) (w : World) (h1 : 1 ≤ s) (h2 : s ≤ 7) (h3 : 0 ≤ p) (h4 : p < s * s) :
    Calls Try.prog 85 #[.int .i64 s, .int .i64 p] w fun e w' => ∃ A c, e = .returned (.slice A 8 c) ∧ Own w' w.heap.size A 8 c (Pa.arl s p 9) ∧ Below w.heap.size w w' := by
  have hsq := Pt.sq_bd s h1 h2
  obtain ⟨d1, d2, d3, d4, d5⟩ := Pt.dm s p h1 h2 h3 h4
  clear d5
  go_enter Try.func85, Try.ntmps85
  go_wp2_with fail
  have Ho := Lib.hid (Own.bare w w.heap.size (Nat.le_refl _))
  have Hb := Lib.hid ((Below.refl w.heap.size w).alloc (Nat.le_refl _) (.cells #[] 3))
  obtain ⟨y, hy, hyz⟩ : ∃ y, y = w.alloc (.cells #[] 3) ∧ w.heap.size ≤ y.heap.size := ⟨_, rfl, by simp⟩
  rw [← hy] at Ho Hb ⊢
  clear hy
  go_loopg [5, 6] 10 (fun q v5 v6 wr => ∃ (k : Nat) (A : Option Addr) (m c : Nat), k + q = 10 ∧ k ≤ 9 ∧ v5 = .slice A m c ∧ v6 = .int .i64 (k : Nat) ∧ Own wr w.heap.size A m c (Pa.arl s p k) ∧ Below w.heap.size w wr)
  case atStart => exact ⟨0, _, _, _, by omega, by omega, rfl, rfl, Ho.out, Hb.out⟩
  case round =>
    clear Ho Hb
    obtain ⟨k, A, m, c, hk, hk9, rfl, rfl, ho, hb⟩ := hrel
    have hm := ho.1
    have hm9 := Pa.arl_few s p k
    have Ho := Lib.hid ho
    have Hb := Lib.hid hb
    have hz := hb.size
    clear ho hb
    by_cases hkk : k = 9
    · subst hkk
      have hlt : ¬ (((9 : Nat) : Int)) < 9 := by omega
      obtain rfl : m = 8 := by rw [← hm, Pa.arl_len]
      clear hm hm9
      go_wp2_with fail
      go_ret
      exact ⟨_, _, rfl, Ho.out, Hb.out⟩
    · have hlt : ((k : Nat) : Int) < 9 := by omega
      have hk0 : (0 : Int) ≤ (k : Nat) := by omega
      have hs1 : Pa.arl s p (k + 1) = if k = 4 then Pa.arl s p k else Pa.arl s p k ++ [Pa.pt s p (k : Nat)] := rfl
      obtain ⟨r, hr⟩ : ∃ r, p / s - 1 + ((k : Nat) : Int) / 3 = r := ⟨_, rfl⟩
      obtain ⟨cc, hc⟩ : ∃ cc, p % s - 1 + ((k : Nat) : Int) % 3 = cc := ⟨_, rfl⟩
      have hmm : m ≤ 9 := by omega
      by_cases h4k : k = 4
      · have q4 : (((k : Nat) : Int) == 4) = true := by simp; omega
        rw [if_pos h4k] at hs1
        have Hs := Lib.hid hs1
        have Hm := Lib.hid hm
        clear hs1 hm hm9 h4k
        go_wp2_with fail
        go_roundg (9 - k)
        case measure => omega
        case rel => exact ⟨k + 1, _, _, _, by omega, by omega, rfl, by go_num, by rw [Hs.out]; exact Ho.out, Hb.out⟩
      · have q4 : (((k : Nat) : Int) == 4) = false := by simp; omega
        rw [if_neg h4k] at hs1
        have Hm := Lib.hid hm
        by_cases hin : Pa.inB s p (k : Nat) = true
        · have hpt : Pa.pt s p (k : Nat) = r * s + cc := by unfold Pa.pt; rw [if_pos hin, ← hr, ← hc]; rfl
          obtain ⟨⟨a1, a2⟩, a3, a4⟩ := Pa.inB_iff.1 hin
          have a1 : 0 ≤ r := by rw [← hr]; exact a1
          have a2 : r ≤ s - 1 := by rw [← hr]; exact a2
          have a3 : 0 ≤ cc := by rw [← hc]; exact a3
          have a4 : cc ≤ s - 1 := by rw [← hc]; exact a4
          obtain ⟨l1, l2, l3, l4⟩ := Pt.lin_bd s r cc h1 h2 a1 a2 a3 a4
          have e1 : (decide (0 ≤ r) && decide (r ≤ s - 1)) = true := by rw [decide_eq_true a1, decide_eq_true a2]; rfl
          have e2 : (decide (0 ≤ cc) && decide (cc ≤ s - 1)) = true := by rw [decide_eq_true a3, decide_eq_true a4]; rfl
          have E1 := Lib.hid e1
          have E2 := Lib.hid e2
          rw [hpt] at hs1
          have Hs := Lib.hid hs1
          clear hs1 hm hm9 h4k hin hpt e1 e2
          go_wp2_with fail
          refine (s_range r 0 (s - 1) _).mono ?_
          rintro e y1 ⟨rfl, rfl⟩
          rw [E1.out]
          go_wp2_with fail
          refine (s_range cc 0 (s - 1) _).mono ?_
          rintro e y1 ⟨rfl, rfl⟩
          rw [E2.out]
          go_wp2_with (at_builtin; refine app1 rfl _ _ rfl _ _ _ _ _ _ _ _ rfl rfl (by simp) Ho.out hz (by omega) ?_; intro A' c' w' hown' hb' hlt' _)
          have Ho2 := Lib.hid hown'
          have Hb2 := Lib.hid (Hb.out.trans hb')
          clear hown' hb'
          go_wp2_with fail
          go_roundg (9 - k)
          case measure => omega
          case rel => exact ⟨k + 1, _, _, _, by omega, by omega, rfl, by go_num, by rw [Hs.out]; exact Ho2.out, Hb2.out⟩
        · have hpt : Pa.pt s p (k : Nat) = -1 := by unfold Pa.pt; rw [if_neg hin]
          rw [hpt] at hs1
          have Hs := Lib.hid hs1
          by_cases hrr : (decide (0 ≤ r) && decide (r ≤ s - 1)) = true
          · have e2 : (decide (0 ≤ cc) && decide (cc ≤ s - 1)) = false := by
              cases hq : (decide (0 ≤ cc) && decide (cc ≤ s - 1)) with
              | false => rfl
              | true =>
                exfalso
                apply hin
                unfold Pa.inB
                rw [show Pa.row s p (k : Nat) = r from hr, show Pa.col s p (k : Nat) = cc from hc, hrr, hq]
                rfl
            have E1 := Lib.hid hrr
            have E2 := Lib.hid e2
            clear hs1 hm hm9 h4k hin hpt hrr e2
            go_wp2_with fail
            refine (s_range r 0 (s - 1) _).mono ?_
            rintro e y1 ⟨rfl, rfl⟩
            rw [E1.out]
            go_wp2_with fail
            refine (s_range cc 0 (s - 1) _).mono ?_
            rintro e y1 ⟨rfl, rfl⟩
            rw [E2.out]
            go_wp2_with (at_builtin; refine app1 rfl _ _ rfl _ _ _ _ _ _ _ _ rfl rfl (by simp) Ho.out hz (by omega) ?_; intro A' c' w' hown' hb' hlt' _)
            have Ho2 := Lib.hid hown'
            have Hb2 := Lib.hid (Hb.out.trans hb')
            clear hown' hb'
            go_wp2_with fail
            go_roundg (9 - k)
            case measure => omega
            case rel => exact ⟨k + 1, _, _, _, by omega, by omega, rfl, by go_num, by rw [Hs.out]; exact Ho2.out, Hb2.out⟩
          · have e1 : (decide (0 ≤ r) && decide (r ≤ s - 1)) = false := by simpa using hrr
            have E1 := Lib.hid e1
            clear hs1 hm hm9 h4k hin hpt hrr e1
            go_wp2_with fail
            refine (s_range r 0 (s - 1) _).mono ?_
            rintro e y1 ⟨rfl, rfl⟩
            rw [E1.out]
            go_wp2_with (at_builtin; refine app1 rfl _ _ rfl _ _ _ _ _ _ _ _ rfl rfl (by simp) Ho.out hz (by omega) ?_; intro A' c' w' hown' hb' hlt' _)
            have Ho2 := Lib.hid hown'
            have Hb2 := Lib.hid (Hb.out.trans hb')
            clear hown' hb'
            go_wp2_with fail
            go_roundg (9 - k)
            case measure => omega
            case rel => exact ⟨k + 1, _, _, _, by omega, by omega, rfl, by go_num, by rw [Hs.out]; exact Ho2.out, Hb2.out⟩
end Go.Proofs.Ytpopbcmfbcmojaa

namespace Go.Proofs.Ytpopbcmfbcmojaa
set_option maxRecDepth 100000
open Go.RowKit

set_option maxRecDepth 100000 in
set_option maxHeartbeats 8000000 in
theorem s_pat0 (s p : Int) (w : World) (B : Nat) (A : Option Addr) (n c : Nat) (cs : List Int) (h : Ints w B A n cs) (hB : B ≤ w.heap.size) (hv : Bd.okB s cs = true) (h3 : 0 ≤ p) (h4 : p < s * s) :
    Calls Try.prog 51 #[.agg #[.int .i64 s, .slice A n c], .int .i64 p] w fun e w' => e = .returned (.int .i64 (Pa.pat s cs p)) ∧ Below w.heap.size w w' := by
  obtain ⟨h1, h2, hl, _⟩ := (Bd.okB_iff s cs).1 hv
  have hsq := Pt.sq_bd s h1 h2
  have hn : (n : Int) = s * s := by rw [← hl, h.1]
  have hn49 : n ≤ 49 := by omega
  obtain ⟨b, o, rfl, hbB, hc⟩ : ∃ b o, A = some ⟨b, o, none⟩ ∧ b < B ∧ ∀ j, j < n → w.cell? ⟨b, o + j, none⟩ = some (.int .i64 (cs.getD j 0)) := by
    rcases h.2 with h | h
    · omega
    · exact h
  have hA : Pa.pat s cs p = Pk.hor (fun i => Pa.dg s cs p (Pa.ix i : Nat)) 8 := by rw [Pk.hor_all]; rfl
  have HA := Lib.hid hA
  have Hn := Lib.hid hn
  have Hc := Lib.hid hc
  obtain ⟨y1, hy1, hb1, z1, z2⟩ : ∃ y, y = w.alloc (.cells #[.int .i64 s, .slice (some ⟨b, o, none⟩) n c] 25) ∧ Below w.heap.size w y ∧ w.heap.size + 1 ≤ y.heap.size ∧ y.heap.size ≤ w.heap.size + 1 :=
    ⟨_, rfl, (Below.refl _ _).alloc (Nat.le_refl _) _, by simp, by simp⟩
  have X0 := Lib.hid (show Bx 25 y1 w.heap.size s (.slice (some ⟨b, o, none⟩) n c) by rw [hy1]; exact Bx.new _ _ _ _)
  clear hA h hc hl
  go_enter Try.func51, Try.ntmps51
  go_upto_region 1 with (fail)
  rw [← hy1]
  clear hy1
  have u0 := X0.out.cell0
  have u1 := X0.out.cell1
  have ul := X0.out.lt
  go_wp2_with fail
  refine (s_around s p _ h1 h2 h3 h4).mono ?_
  rintro e y2 ⟨A2, c2, rfl, ho, hb⟩
  have X0 := Lib.hid (X0.out.below hb ul)
  have HB := Lib.hid (hb1.trans (hb.mono (by omega)))
  obtain ⟨b2, o2, rfl, hb2, hc2⟩ : ∃ b o, A2 = some ⟨b, o, none⟩ ∧ b < y2.heap.size ∧ ∀ j, j < 8 → y2.cell? ⟨b, o + j, none⟩ = some (.int .i64 ((Pa.arl s p 9).getD j 0)) := by
    rcases ho.ints.2 with h | h
    · omega
    · exact h
  have Hc2 := Lib.hid hc2
  have z3 := hb.size
  clear ho hb u0 u1 ul hc2 hb1
  have u0 := X0.out.cell0
  have u1 := X0.out.cell1
  have ul := X0.out.lt
  go_wp2_with fail
  go_loopg [6, 7] 9 (fun q v6 v7 wr => ∃ k : Nat, k + q = 9 ∧ k ≤ 8 ∧ v6 = .int .i64 (Pk.hor (fun i => Pa.dg s cs p (Pa.ix i : Nat)) k) ∧ v7 = .int .i64 (7 - (k : Nat)) ∧ Below y2.heap.size y2 wr)
  case atStart => exact ⟨0, by omega, by omega, rfl, rfl, Below.refl _ _⟩
  case round =>
    obtain ⟨k, hk, hk8, rfl, rfl, hb⟩ := hrel
    obtain ⟨wi, rfl⟩ : ∃ wi : World, wi = wr := ⟨_, rfl⟩
    obtain ⟨b0, b1⟩ := Pk.hor_bd (f := fun i => Pa.dg s cs p (Pa.ix i : Nat)) (fun i => Pa.dg_bd hv) k hk8
    have Hbw := Lib.hid hb
    have X1 := Lib.hid (X0.out.below hb ul)
    have u0 := X1.out.cell0
    have u1 := X1.out.cell1
    by_cases hkk : k = 8
    · subst hkk
      have hlt : ¬ (0 : Int) ≤ 7 - (((8 : Nat) : Int)) := by omega
      clear hb
      go_wp2_with fail
      go_ret
      exact ⟨ret_int HA.out.symm, HB.out.trans (Hbw.out.mono (by omega))⟩
    · obtain ⟨i, hi⟩ : ∃ i, i = 7 - k := ⟨_, rfl⟩
      have hki : 7 - ((k : Nat) : Int) = (i : Nat) := by omega
      have hi7 : i ≤ 7 := by omega
      have hi8 : ((i : Nat) : Int) < 8 := by omega
      have hi0 : (0 : Int) ≤ (i : Nat) := by omega
      have hs : Pk.hor (fun i => Pa.dg s cs p (Pa.ix i : Nat)) (k + 1) = 4 * Pk.hor (fun i => Pa.dg s cs p (Pa.ix i : Nat)) k + Pa.dg s cs p (Pa.ix i : Nat) := by rw [hi]; rfl
      obtain ⟨H, hH⟩ : ∃ H, Pk.hor (fun i => Pa.dg s cs p (Pa.ix i : Nat)) k = H := ⟨_, rfl⟩
      have ck := (hb.cell (p := ⟨b2, o2 + i, none⟩) (by show b2 < _; omega)).trans (Hc2.out i (by omega))
      rw [Pa.arl_at s p (by omega)] at ck
      obtain ⟨t1, t2⟩ := Pa.pt_bd (s := s) (p := p) (i := (Pa.ix i : Nat)) h1 h2
      obtain ⟨g1, g2⟩ := Pa.pt_dg (s := s) (cs := cs) (p := p) (i := (Pa.ix i : Nat)) h1 h2
      obtain ⟨e1, e2⟩ := Pa.dg_bd (p := p) (i := (Pa.ix i : Nat)) hv
      obtain ⟨t, ht⟩ : ∃ t, Pa.pt s p (Pa.ix i : Nat) = t := ⟨_, rfl⟩
      obtain ⟨d, hd⟩ : ∃ d, Pa.dg s cs p (Pa.ix i : Nat) = d := ⟨_, rfl⟩
      rw [ht] at ck t1 t2 g1 g2
      rw [hd] at g1 g2 e1 e2 hs
      rw [hH] at b0 b1 hs ⊢
      rw [hki]
      have Hs := Lib.hid hs
      by_cases h0 : 0 ≤ t
      · obtain ⟨j, rfl⟩ := Int.eq_ofNat_of_zero_le h0
        have hjn : j < n := by have := Hn.out; omega
        have hjn' : ((j : Nat) : Int) < n := by omega
        have cj := ((HB.out.trans (hb.mono (by omega))).cell (p := ⟨b, o + j, none⟩) (by show b < _; omega)).trans (Hc.out j hjn)
        have hdj : cs.getD j 0 = d := by rw [g1 h0, Int.toNat_natCast]
        rw [hdj] at cj
        clear hs hH ht hd g1 g2 hi hdj t1 t2 hb
        go_wp2_with fail
        go_region
        all_goals go_wp2_with fail
        all_goals go_roundg (8 - k)
        all_goals try omega
        all_goals exact ⟨k + 1, by omega, by omega, by rw [Hs.out], by go_num, by first | exact Hbw.out | exact Hbw.out.drew⟩
      · have hd3 : d = 3 := g2 (by omega)
        have hm1 : t = -1 := by omega
        subst hd3 hm1
        have hn0 : ¬ (0 : Int) ≤ -1 := by omega
        clear hs hH ht hd g1 g2 hi t1 t2 hb h0
        go_wp2_with fail
        go_roundg (8 - k)
        case measure => omega
        case rel => exact ⟨k + 1, by omega, by omega, by rw [Hs.out], by go_num, Hbw.out⟩
end Go.Proofs.Ytpopbcmfbcmojaa

namespace Go.Proofs.Ytpopbcmfbcmojaa
set_option maxRecDepth 100000
open Go.RowKit

theorem s_patAt (s p : Int) (w : World) (B : Nat) (A : Option Addr) (n c : Nat) (cs : List Int) (h : Ints w B A n cs) (hB : B ≤ w.heap.size) (hn : n ≤ 1000000000) :
    Calls Try.prog 12 #[.agg #[.int .i64 s, .slice A n c], .int .i64 p] w fun e w' => e = .returned (.int .i64 (Pa.ans s cs p)) ∧ Below w.heap.size w w' := by
  obtain ⟨y1, hy1, hb1, z1, z2⟩ := new_box w (.cells #[.int .i64 s, .slice A n c] 25)
  have X1 := Lib.hid (show Bx 25 y1 w.heap.size s (.slice A n c) by rw [hy1]; exact Bx.new _ _ _ _)
  have I1 := Lib.hid (h.below hb1 hB)
  have HB := Lib.hid hb1
  clear h hb1
  go_enter Try.func12, Try.ntmps12
  go_upto_region 1 with (fail)
  rw [← hy1]
  clear hy1
  have u0 := X1.out.cell0
  have u1 := X1.out.cell1
  have ul := X1.out.lt
  go_wp2_with fail
  refine (s_validBoard s _ B A n c cs I1.out (by omega) hn).mono ?_
  rintro e y2 ⟨rfl, hb2⟩
  have X1 := Lib.hid (X1.out.below hb2 ul)
  have I1 := Lib.hid (I1.out.below hb2 (by omega))
  have HB := Lib.hid (HB.out.trans (hb2.mono HB.out.size))
  have z3 := hb2.size
  clear hb2 u0 u1 ul
  have u0 := X1.out.cell0
  have u1 := X1.out.cell1
  have ul := X1.out.lt
  by_cases hv : Bd.okB s cs = true
  · rw [hv]
    obtain ⟨v1, v2, _, _⟩ := (Bd.okB_iff s cs).1 hv
    have hpp : Pt.okP s p = (decide (0 ≤ p) && decide (p < s * s)) := by
      unfold Pt.okP
      rw [(Pt.okS_iff s).2 ⟨v1, v2⟩, Bool.true_and]
    by_cases hp : Pt.okP s p = true
    · have hf : Pa.ans s cs p = Pa.pat s cs p := by unfold Pa.ans; rw [hv, hp, if_pos (by decide)]
      have HF := Lib.hid hf
      obtain ⟨_, _, p3, p4⟩ := (Pt.okP_iff s p).1 hp
      rw [hpp] at hp
      have Hp := Lib.hid hp
      clear hf hp hpp
      go_wp2_with fail
      refine (s_vpoint s p _ v1 v2).mono ?_
      rintro e y3 ⟨rfl, rfl⟩
      rw [Hp.out]
      go_wp2_with fail
      refine (s_pat0 s p _ B A n c cs I1.out (by omega) hv p3 p4).mono ?_
      rintro e y4 ⟨rfl, hb4⟩
      have HB := Lib.hid (HB.out.trans (hb4.mono HB.out.size))
      clear hb4
      go_wp2_with fail
      go_ret
      exact ⟨ret_int HF.out.symm, HB.out⟩
    · have hp' : Pt.okP s p = false := by simpa using hp
      have hf : Pa.ans s cs p = -1 := by unfold Pa.ans; rw [hv, hp', if_neg (by decide)]
      have HF := Lib.hid hf
      rw [hpp] at hp'
      have Hp := Lib.hid hp'
      clear hf hp hp' hpp
      go_wp2_with fail
      refine (s_vpoint s p _ v1 v2).mono ?_
      rintro e y3 ⟨rfl, rfl⟩
      rw [Hp.out]
      go_wp2_with fail
      go_ret
      exact ⟨ret_int HF.out.symm, HB.out⟩
  · have hv' : Bd.okB s cs = false := by simpa using hv
    have hf : Pa.ans s cs p = -1 := by unfold Pa.ans; rw [hv', Bool.false_and, if_neg (by decide)]
    have HF := Lib.hid hf
    rw [hv']
    clear hv hv' hf
    go_wp2_with fail
    go_ret
    exact ⟨ret_int HF.out.symm, HB.out⟩
end Go.Proofs.Ytpopbcmfbcmojaa

namespace Go.Proofs.Ytpopbcmfbcmojaa
set_option maxRecDepth 100000
open Go.RowKit

/-- The image of a place, on the board or not. -/
def Pa.T (s k r c : Int) : Int × Int := Pt.rot s (k % 4).toNat (r, if 4 ≤ k then s - 1 - c else c)
theorem Pa.img_T (s k p : Int) : Pt.img s k p = (Pa.T s k (p / s) (p % s)).1 * s + (Pa.T s k (p / s) (p % s)).2 := rfl
theorem Pa.T_in (s k r c : Int) (k0 : 0 ≤ k) (k1 : k < 8) : ((0 ≤ (Pa.T s k r c).1 ∧ (Pa.T s k r c).1 ≤ s - 1) ∧ (0 ≤ (Pa.T s k r c).2 ∧ (Pa.T s k r c).2 ≤ s - 1)) ↔ ((0 ≤ r ∧ r ≤ s - 1) ∧ (0 ≤ c ∧ c ≤ s - 1)) := by
  rcases Pk.k8 k0 k1 with rfl | rfl | rfl | rfl | rfl | rfl | rfl | rfl <;> simp [Pa.T, Pt.rot] <;> omega
theorem Pa.T_add (s k r c a b : Int) (k0 : 0 ≤ k) (k1 : k < 8) : Pa.T s k (r - 1 + a) (c - 1 + b) = ((Pa.T s k r c).1 - 1 + (Pa.T 3 k a b).1, (Pa.T s k r c).2 - 1 + (Pa.T 3 k a b).2) := by
  rcases Pk.k8 k0 k1 with rfl | rfl | rfl | rfl | rfl | rfl | rfl | rfl <;> simp [Pa.T, Pt.rot] <;> omega
theorem Pa.lin {s r c : Int} (c0 : 0 ≤ c) (c1 : c ≤ s - 1) : (r * s + c) / s = r ∧ (r * s + c) % s = c := by
  have hs : 0 < s := by omega
  constructor
  · rw [Int.add_comm, Int.add_mul_ediv_right _ _ (by omega), Int.ediv_eq_zero_of_lt c0 (by omega)]
    omega
  · rw [Int.add_comm, Int.add_mul_emod_self_right]
    exact Int.emod_eq_of_lt c0 (by omega)
theorem Pa.img_div {s k p : Int} (h1 : 1 ≤ s) (h2 : s ≤ 7) (h3 : 0 ≤ p) (h4 : p < s * s) (k0 : 0 ≤ k) (k1 : k < 8) : Pt.img s k p / s = (Pa.T s k (p / s) (p % s)).1 ∧ Pt.img s k p % s = (Pa.T s k (p / s) (p % s)).2 := by
  obtain ⟨d1, d2, d3, d4, _⟩ := Pt.dm s p h1 h2 h3 h4
  obtain ⟨⟨a1, a2⟩, a3, a4⟩ := (Pa.T_in s k (p / s) (p % s) k0 k1).2 ⟨⟨d1, d2⟩, d3, d4⟩
  rw [Pa.img_T]
  exact Pa.lin a3 a4
theorem Pa.dgt_mv {s k : Int} {cs : List Int} (h1 : 1 ≤ s) (h2 : s ≤ 7) (hn : (cs.length : Int) = s * s) (k0 : 0 ≤ k) (k1 : k < 8) (r c : Int) : Pa.dgt s (Bd.mv s k cs) (Pa.T s k r c).1 (Pa.T s k r c).2 = Pa.dgt s cs r c := by
  unfold Pa.dgt
  by_cases hin : (0 ≤ r ∧ r ≤ s - 1) ∧ (0 ≤ c ∧ c ≤ s - 1)
  · rw [if_pos hin, if_pos ((Pa.T_in s k r c k0 k1).2 hin)]
    obtain ⟨⟨a, b⟩, d, e⟩ := hin
    obtain ⟨l1, l2, l3, l4⟩ := Pt.lin_bd s r c h1 h2 a b d e
    obtain ⟨q1, q2⟩ := Pa.lin (r := r) d e
    obtain ⟨j, hj⟩ := Int.eq_ofNat_of_zero_le l3
    have hjn : j < cs.length := by omega
    have him : (Pa.T s k r c).1 * s + (Pa.T s k r c).2 = Pt.img s k (j : Int) := by
      rw [Pa.img_T, ← hj, q1, q2]
    have hN := (Bd.imgN_lt s k cs.length j h1 h2 hn hjn).2
    have hst := Bd.steps_at (f := Bd.imgN s k) (cs := cs) (l := cs) (j := cs.length) (fun a b ha hb e => Bd.imgN_inj s k _ h1 h2 hn k0 k1 a b ha hb e) (fun a ha => (Bd.imgN_lt s k _ a h1 h2 hn ha).1) (p := j) hjn
    rw [him, ← hN, Int.toNat_natCast, hj, Int.toNat_natCast]
    unfold Bd.mv
    rw [List.getD_eq_getElem?_getD, hst]
    rfl
  · rw [if_neg hin, if_neg (fun h => hin ((Pa.T_in s k r c k0 k1).1 h))]
theorem Pa.near_mv {s k p : Int} {cs : List Int} (h1 : 1 ≤ s) (h2 : s ≤ 7) (hn : (cs.length : Int) = s * s) (h3 : 0 ≤ p) (h4 : p < s * s) (k0 : 0 ≤ k) (k1 : k < 8) : Pa.near s (Bd.mv s k cs) (Pt.img s k p) = Bd.mv 3 k (Pa.near s cs p) := by
  have hl : (Pa.near s cs p).length = 9 := rfl
  have hl2 : (Bd.mv 3 k (Pa.near s cs p)).length = 9 := by rw [Bd.mv_len]; exact hl
  have hl3 : (Pa.near s (Bd.mv s k cs) (Pt.img s k p)).length = 9 := rfl
  obtain ⟨e1, e2⟩ := Pa.img_div h1 h2 h3 h4 k0 k1
  have key : ∀ q : Nat, q < 9 → (Pa.near s (Bd.mv s k cs) (Pt.img s k p)).getD (Bd.imgN 3 k q) 0 = (Bd.mv 3 k (Pa.near s cs p)).getD (Bd.imgN 3 k q) 0 := by
    intro q hq
    obtain ⟨b1, b2⟩ := Bd.imgN_lt 3 k 9 q (by omega) (by omega) (by omega) hq
    rw [Pk.mv_get hl k0 k1 hq, Pa.near_at _ _ _ b1, Pa.near_at _ _ _ hq, Pa.dg_dgt, Pa.dg_dgt, b2]
    obtain ⟨f1, f2⟩ := Pa.img_div (s := 3) (k := k) (p := (q : Int)) (by omega) (by omega) (by omega) (by omega) k0 k1
    have hT := Pa.T_add s k (p / s) (p % s) ((q : Int) / 3) ((q : Int) % 3) k0 k1
    have hrow : Pa.row s (Pt.img s k p) (Pt.img 3 k (q : Int)) = (Pa.T s k (Pa.row s p q) (Pa.col s p q)).1 := by
      unfold Pa.row Pa.col
      rw [hT, e1, f1]
    have hcol : Pa.col s (Pt.img s k p) (Pt.img 3 k (q : Int)) = (Pa.T s k (Pa.row s p q) (Pa.col s p q)).2 := by
      unfold Pa.row Pa.col
      rw [hT, e2, f2]
    rw [hrow, hcol, Pa.dgt_mv h1 h2 hn k0 k1]
  apply List.ext_getElem (by rw [hl2, hl3])
  intro i hi1 hi2
  obtain ⟨q, hq, rfl⟩ := Bd.imgN_sur 3 k 9 (by omega) (by omega) (by omega) k0 k1 i (by omega)
  have := key q hq
  simpa [List.getD_eq_getElem?_getD, List.getElem?_eq_getElem hi1, List.getElem?_eq_getElem hi2] using this
/-- The same cells but for the middle. -/
theorem Pk.hollow {cs : List Int} (hg : Pk.Nine cs) : ∃ ds, Pk.Good ds ∧ Pk.pat ds = Pk.pat cs ∧ (∀ k : Int, 0 ≤ k → k < 8 → Pk.pat (Bd.mv 3 k ds) = Pk.pat (Bd.mv 3 k cs)) ∧ ∀ f : Int → Int, Pk.pat (ds.map f) = Pk.pat (cs.map f) := by
  obtain ⟨a, b, c, d, m, e, f, g, h, rfl, ha, hb, hc, hd, hm, he, hf, hg, hh⟩ := hg
  refine ⟨[a, b, c, d, 0, e, f, g, h], ⟨_, _, _, _, _, _, _, _, rfl, ha, hb, hc, hd, he, hf, hg, hh⟩, rfl, ?_, fun _ => rfl⟩
  intro k k0 k1
  rcases Pk.k8 k0 k1 with rfl | rfl | rfl | rfl | rfl | rfl | rfl | rfl
  · rw [Pk.mv0, Pk.mv0]; rfl
  · rw [Pk.mv1, Pk.mv1]; rfl
  · rw [Pk.mv2, Pk.mv2]; rfl
  · rw [Pk.mv3, Pk.mv3]; rfl
  · rw [Pk.mv4, Pk.mv4]; rfl
  · rw [Pk.mv5, Pk.mv5]; rfl
  · rw [Pk.mv6, Pk.mv6]; rfl
  · rw [Pk.mv7, Pk.mv7]; rfl
/-- The pattern around the image of a point is an image of the pattern. -/
theorem Pa.pat_mv {s k p : Int} {cs : List Int} (hv : Bd.okB s cs = true) (h3 : 0 ≤ p) (h4 : p < s * s) (k0 : 0 ≤ k) (k1 : k < 8) : Pa.pat s (Bd.mv s k cs) (Pt.img s k p) = Pk.im k (Pa.pat s cs p) := by
  obtain ⟨h1, h2, hn, _⟩ := (Bd.okB_iff s cs).1 hv
  obtain ⟨ds, hd, e1, e2, _⟩ := Pk.hollow (Pa.near_nine (p := p) hv)
  unfold Pa.pat Pk.im
  rw [Pa.near_mv h1 h2 hn h3 h4 k0 k1, ← e1, (Pk.cells_pat hd).1, e2 k k0 k1]
theorem Pa.dg_oth {s p i : Int} {cs : List Int} (hv : Bd.okB s cs = true) : Pa.dg s (othCs cs) p i = oth (Pa.dg s cs p i) := by
  obtain ⟨h1, h2, hn, _⟩ := (Bd.okB_iff s cs).1 hv
  unfold Pa.dg
  cases hin : Pa.inB s p i with
  | true =>
    obtain ⟨⟨a, b⟩, c, d⟩ := Pa.inB_iff.1 hin
    have := Pt.lin_bd s _ _ h1 h2 a b c d
    rw [if_pos rfl, if_pos rfl, othCs_at (by omega)]
  | false => rw [if_neg (by decide), if_neg (by decide)]; decide
theorem Pa.pat_oth {s p : Int} {cs : List Int} (hv : Bd.okB s cs = true) : Pa.pat s (othCs cs) p = Pk.inv oth (Pa.pat s cs p) := by
  obtain ⟨ds, hd, e1, _, e3⟩ := Pk.hollow (Pa.near_nine (p := p) hv)
  have hnear : Pa.near s (othCs cs) p = (Pa.near s cs p).map oth := by
    unfold Pa.near
    simp only [List.map]
    rw [Pa.dg_oth hv, Pa.dg_oth hv, Pa.dg_oth hv, Pa.dg_oth hv, Pa.dg_oth hv, Pa.dg_oth hv, Pa.dg_oth hv, Pa.dg_oth hv, Pa.dg_oth hv]
  unfold Pa.pat Pk.inv
  rw [hnear, ← e1, (Pk.cells_pat hd).1, e3]
end Go.Proofs.Ytpopbcmfbcmojaa

namespace Go.Proofs.Ytpopbcmfbcmojaa
set_option maxRecDepth 100000
open Go.RowKit

/-- The call owns the row of n ints xs (in blocks from B on). -/
def OwU (w : World) (B : Nat) (A : Option Addr) (n c : Nat) (xs : List Int) : Prop :=
  xs.length = n ∧ w.ownsRow B 5 1 (.slice A n c) n (xs.map (Value.int .u8))

theorem OwU.nil (w : World) (B : Nat) : OwU w B none 0 0 [] := ⟨rfl, World.ownsRow_nil _ _ _ _⟩
theorem OwU.alloc {w : World} {B n c : Nat} {A : Option Addr} {xs : List Int} (h : OwU w B A n c xs) (o : Obj) : OwU (w.alloc o) B A n c xs := ⟨h.1, h.2.alloc o⟩
theorem OwU.drew {w : World} {B n c : Nat} {A : Option Addr} {xs : List Int} (h : OwU w B A n c xs) : OwU w.drew B A n c xs := h
theorem OwU.drewN {w : World} {B n c : Nat} {A : Option Addr} {xs : List Int} (h : OwU w B A n c xs) (k : Nat) : OwU (w.drewN k) B A n c xs := h
theorem OwU.kept {w w' : World} {B n c : Nat} {A : Option Addr} {xs : List Int} (h : OwU w B A n c xs) {row : Option Nat} (hg : w.grownBy w' row) (hne : ∀ g, A = some ⟨g, 0, none⟩ → row ≠ some g) : OwU w' B A n c xs := by
  refine ⟨h.1, h.2.kept hg ?_⟩
  rcases h.2.2 with ⟨hv, _⟩ | ⟨g, cap, cur, hv, _⟩
  · exact .inl (by rw [hv]; rfl)
  · refine .inr fun e => ?_
    have hA : A = some ⟨g, 0, none⟩ := by injection hv
    subst hA
    exact hne g rfl e.symm
theorem OwU.below {w w' : World} {B n c : Nat} {A : Option Addr} {xs : List Int} (h : OwU w B A n c xs) (hb : Below w.heap.size w w') : OwU w' B A n c xs :=
  h.kept (gbelow none hb (Nat.le_refl _)) (fun g _ => by simp)
/-- A new empty slice that is not nil. -/
theorem OwU.bare (w : World) (B : Nat) (hB : B ≤ w.heap.size) : OwU (w.alloc (.cells #[] 5)) B (some ⟨w.heap.size, 0, none⟩) 0 0 [] :=
  ⟨rfl, World.ownsRow_made w #[] 0 hB (by simp) rfl⟩

theorem info_u8 : (Try.prog.info? 5).map (fun i => (i.zero, i.size, i.bytes)) = some (some (.int .u8 0), 1, 1) := by kernel_rfl

/-- 'append(xs, y)' of one int: the row grows by it, in the same block or in a new one. -/
theorem appU1 {ops : Array Oper} {rest : List Oper} {o : Oper} {a : Act} {Q : Exit → Act → World → Prop} (hgd : o.guard = none) (s x : Operand)
    (ho : o.op = .call { callee := .builtin .append, args := #[s, x], argTypes := #[22, 22] })
    (w : World) (B : Nat) (A : Option Addr) (n c : Nat) (xs : List Int) (y : Int) (G : Nat) (hs : a.eval s = .slice A n c) (hx : a.eval x = .slice (some ⟨G, 0, none⟩) 1 1) (hG : w.heap.size = G)
    (hown : OwU w B A n c xs) (hB : B ≤ w.heap.size) (hn : n ≤ 1000000000)
    (h : ∀ A' c' w', OwU w' B A' (n + 1) c' (xs ++ [y]) → Below B w w' → w.heap.size < w'.heap.size → w.grownBy w' (Value.slice A n c).ownBlock → wpList Try.prog ops Q rest (a.put o.dst (.slice A' (n + 1) c')) w') :
    wpList Try.prog ops Q (o :: rest) a (w.alloc (.cells #[.int .u8 y] 5)) := by
  subst hG
  obtain ⟨i0, hi, hz0, hz1, hz2⟩ := info_parts info_u8
  refine wpList_append_own _ hgd s x 22 ho B 5 i0 (.int .u8 0) 1 1 Try.underlying22 hi hz0 hz1 hz2 rfl (by decide) _ n _ hs (hown.2.alloc _) ⟨w.heap.size, 0, none⟩ 1 1 [.int .u8 y] hx rfl ?_ ?_ ?_ ?_ ?_ ?_
  · intro j u hj
    match j, hj with
    | 0, hj => simp at hj; subst hj; simp [Addr.add]
  · intro u hu; simp at hu; subst hu; rfl
  · unfold maxLen; omega
  · omega
  · simp; omega
  · intro v' w' hown' hgrow hnil
    have hne : v' ≠ .slice none 0 0 := fun e => by have := (hnil.1 e).2; omega
    rcases hown'.2 with ⟨hv, _⟩ | ⟨g, cap, cur, hv, hr⟩
    · exact absurd hv hne
    · subst hv
      have hgr : w.grownBy w' (Value.slice A n c).ownBlock := gtrans (World.grownBy_alloc w _ _) hgrow
      refine h _ _ _ ⟨by simp [hown.1], by simpa using hown'⟩ (below_g hgr hB ?_) ?_ hgr
      · intro k hk
        exact (World.ownsRow.lt hown.2 k hk).1
      · have := hgrow.size; simp at this; omega

theorem OwU.far {w : World} {B n c : Nat} {A : Option Addr} {xs : List Int} (h : OwU w B A n c xs) (p : Addr) (hne : ∀ g, A = some ⟨g, 0, none⟩ → g ≠ p.block) (u : Value) : OwU (w.setCell p u) B A n c xs :=
  h.kept (row := some p.block) ⟨rfl, rfl, rfl, by simp [World.setCell], fun k _ hk => Below.heap_setCell w p u k (fun e => hk (by rw [e]))⟩ (fun g hA e => hne g hA (by injection e with e; exact e.symm))
/-- A row of the call's own that lies from B on is none of the blocks below B. -/
theorem OwU.ge {w : World} {B n c g : Nat} {A : Option Addr} {xs : List Int} (h : OwU w B A n c xs) (hA : A = some ⟨g, 0, none⟩) : B ≤ g ∧ g < w.heap.size := by
  subst hA
  exact World.ownsRow.lt h.2 g rfl
theorem OwU.weaken {w : World} {B B' n c : Nat} {A : Option Addr} {xs : List Int} (h : OwU w B A n c xs) (hB : B' ≤ B) : OwU w B' A n c xs := by
  refine ⟨h.1, h.2.1, ?_⟩
  rcases h.2.2 with h2 | ⟨g, cap, cur, hv, hg, r⟩
  · exact .inl h2
  · exact .inr ⟨g, cap, cur, hv, by omega, r⟩
end Go.Proofs.Ytpopbcmfbcmojaa

namespace Go.Proofs.Ytpopbcmfbcmojaa.Fm
set_option maxRecDepth 100000

def let_ (c : Int) : Int := if c = 1 then 88 else if c = 2 then 79 else 46
def col (b : Int) : Int := if b = 88 then 1 else if b = 79 then 2 else 0
/-- The byte at place i of the text of a board. -/
def at_ (s : Nat) (cs : List Int) (i : Nat) : Int := if i % (s + 1) = s then 47 else let_ (cs.getD ((s - 1 - i / (s + 1)) * s + i % (s + 1)) 0)
def fmt (s : Nat) (cs : List Int) : List Int := (List.range (s * (s + 1))).map (at_ s cs)

theorem fmt_len (s : Nat) (cs : List Int) : (fmt s cs).length = s * (s + 1) := by simp [fmt]
theorem fmt_take {s : Nat} {cs : List Int} {i : Nat} (h : i < s * (s + 1)) : (fmt s cs).take (i + 1) = (fmt s cs).take i ++ [at_ s cs i] := by
  rw [List.take_succ_eq_append_getElem (by rw [fmt_len]; exact h)]
  simp [fmt]
theorem let_bd (c : Int) : 46 ≤ let_ c ∧ let_ c ≤ 88 ∧ let_ c ≠ 47 := by unfold let_; split <;> (try split) <;> decide
theorem at_bd (s : Nat) (cs : List Int) (i : Nat) : 46 ≤ at_ s cs i ∧ at_ s cs i ≤ 88 := by
  unfold at_; split
  · decide
  · have := let_bd (cs.getD ((s - 1 - i / (s + 1)) * s + i % (s + 1)) 0); omega
theorem at_rc {s k c : Nat} (cs : List Int) (hc : c < s) : at_ s cs (k * (s + 1) + c) = let_ (cs.getD ((s - 1 - k) * s + c) 0) := by
  have e1 : (k * (s + 1) + c) % (s + 1) = c := by rw [Nat.mul_comm, Nat.mul_add_mod]; exact Nat.mod_eq_of_lt (by omega)
  have e2 : (k * (s + 1) + c) / (s + 1) = k := by rw [Nat.mul_comm, Nat.mul_add_div (by omega), Nat.div_eq_of_lt (by omega), Nat.add_zero]
  rw [at_, e1, e2, if_neg (by omega)]
theorem at_end {s k : Nat} (cs : List Int) : at_ s cs (k * (s + 1) + s) = 47 := by
  have e1 : (k * (s + 1) + s) % (s + 1) = s := by rw [Nat.mul_comm, Nat.mul_add_mod]; exact Nat.mod_eq_of_lt (by omega)
  rw [at_, if_pos e1]
theorem col_let {c : Int} (h : 0 ≤ c) (h2 : c ≤ 2) : col (let_ c) = c := by
  have : c = 0 ∨ c = 1 ∨ c = 2 := by omega
  rcases this with rfl | rfl | rfl <;> decide
theorem let_eq {c : Int} (h : 0 ≤ c) (h2 : c ≤ 2) : let_ c = if c = 0 then 46 else if c = 1 then 88 else 79 := by
  have : c = 0 ∨ c = 1 ∨ c = 2 := by omega
  rcases this with rfl | rfl | rfl <;> decide
end Go.Proofs.Ytpopbcmfbcmojaa.Fm

namespace Go.Proofs.Ytpopbcmfbcmojaa
set_option maxRecDepth 100000
open Go.RowKit

theorem OwU.head {w : World} {B n c : Nat} {A : Option Addr} {xs : List Int} (h : OwU w B A n c xs) (hn : 0 < n) : ∃ g, A = some ⟨g, 0, none⟩ ∧ B ≤ g ∧ ∀ j, j < n → w.cell? ⟨g, 0 + j, none⟩ = some (.int .u8 (xs.getD j 0)) := by
  obtain ⟨g, cap, hv, hg, hlt⟩ := World.ownsRow.form h.2 hn
  have hA : A = some ⟨g, 0, none⟩ := by injection hv
  subst hA
  refine ⟨g, rfl, hg, fun j hj => ?_⟩
  have hj' : j < xs.length := by have := h.1; omega
  have := World.ownsRow.cells h.2 (g := g) rfl j (.int .u8 (xs.getD j 0)) (by simp [List.getElem?_eq_getElem hj', List.getD_eq_getElem?_getD])
  have e : (⟨g, 0, none⟩ : Addr).add j = ⟨g, 0 + j, none⟩ := by by_cases hj0 : j = 0 <;> simp [Addr.add, hj0]
  rw [e] at this
  exact this

theorem let_of {c : Int} (h0 : 0 ≤ c) (h2 : c ≤ 2) : (c = 0 ∧ Fm.let_ c = 46) ∨ (c = 1 ∧ Fm.let_ c = 88) ∨ (c = 2 ∧ Fm.let_ c = 79) := by
  have : c = 0 ∨ c = 1 ∨ c = 2 := by omega
  rcases this with rfl | rfl | rfl <;> decide

set_option maxRecDepth 100000 in
set_option maxHeartbeats 4000000 in
theorem s_formatBoard (s : Nat) (w : World) (B : Nat) (A : Option Addr) (n c : Nat) (cs : List Int) (h : Ints w B A n cs) (hB : B ≤ w.heap.size) (h1 : 1 ≤ s) (h2 : s ≤ 7) (hn : n = s * s) (hok : OkL cs) :
    Calls Try.prog 107 #[.agg #[.int .i64 (s : Nat), .slice A n c]] w fun e w' => e = .returned (.string (strOfNums (Fm.fmt s cs))) ∧ Below w.heap.size w w' := by
  have hb1 : Below w.heap.size w (w.alloc (.cells #[.int .i64 (s : Nat), .slice A n c] 25)) := (Below.refl _ _).alloc (Nat.le_refl _) _
  have x0 := Bx.new 25 w (s : Nat) (.slice A n c)
  have hi := h.below hb1 hB
  have Hl := Lib.hid h.1
  have Hn := Lib.hid hn
  have Hok := Lib.hid hok
  clear h hn hok
  go_enter Try.func107, Try.ntmps107
  go_upto_region 1 with (fail)
  obtain ⟨y, hy⟩ : ∃ y, y = w.alloc (.cells #[.int .i64 (s : Nat), .slice A n c] 25) := ⟨_, rfl⟩
  have hyz : y.heap.size = w.heap.size + 1 := by rw [hy]; simp
  rw [← hy] at x0 hi hb1 ⊢
  have X0 := Lib.hid x0
  have Hi := Lib.hid hi
  have Hb := Lib.hid hb1
  have Hyz := Lib.hid hyz
  clear hy x0 hi hb1 hyz
  have t0 := X0.out.cell0
  have t1 := X0.out.cell1
  have t2 := X0.out.lt
  go_wp2_with fail
  have Ho := Lib.hid (OwU.bare y (w.heap.size + 1) (by rw [Hyz.out]; exact Nat.le_refl _))
  have Hb2 := Lib.hid ((Below.refl (w.heap.size + 1) y).alloc (by rw [Hyz.out]; exact Nat.le_refl _) (.cells #[] 5))
  go_loopw [3, 4] (fun v3 v4 wr => ∃ k A1 n1 c1, k ≤ s ∧ v3 = .slice A1 n1 c1 ∧ v4 = .int .i64 ((s : Int) - 1 - (k : Nat)) ∧ OwU wr (w.heap.size + 1) A1 n1 c1 ((Fm.fmt s cs).take (k * (s + 1))) ∧ Below (w.heap.size + 1) y wr) (fun _ v _ => (intOf v + 1).toNat)
  case atStart => exact ⟨0, _, _, _, by omega, rfl, by simp, by simpa using Ho.out, Hb2.out⟩
  case round =>
    clear Ho Hb2 t0 t1 t2
    obtain ⟨k, A1, n1, c1, hk, rfl, rfl, ho, hb⟩ := hrel
    have X0r := Lib.hid (X0.out.below hb (by omega))
    have Hir := Lib.hid (Hi.out.below hb (by omega))
    have Ho := Lib.hid ho
    have Hbr := Lib.hid hb
    have hzr := hb.size
    clear ho hb
    have t0 := X0r.out.cell0
    have t1 := X0r.out.cell1
    have t2 := X0r.out.lt
    by_cases hks : k < s
    · obtain ⟨r, hr⟩ : ∃ r : Nat, (s : Int) - 1 - (k : Nat) = (r : Nat) := ⟨s - 1 - k, by omega⟩
      have hrs : r < s := by omega
      have hrk : r = s - 1 - k := by omega
      have hrow : r * s + s ≤ s * s := by
        have := Nat.mul_le_mul_right s (show r + 1 ≤ s by omega)
        rw [Nat.add_mul, Nat.one_mul] at this
        exact this
      have hss : s * s ≤ 49 := Nat.le_trans (Nat.mul_le_mul h2 h2) (by decide)
      have hkk : k * (s + 1) + (s + 1) ≤ s * (s + 1) := by
        have := Nat.mul_le_mul_right (s + 1) (show k + 1 ≤ s by omega)
        rw [Nat.add_mul, Nat.one_mul] at this
        exact this
      have hb56 : s * (s + 1) ≤ 56 := Nat.le_trans (Nat.mul_le_mul h2 (show s + 1 ≤ 8 by omega)) (by decide)
      obtain ⟨m, hm⟩ : ∃ m : Nat, r * s = m := ⟨_, rfl⟩
      have hmi : ((r : Nat) : Int) * ((s : Nat) : Int) = (m : Nat) := by rw [← hm]; simp
      have Hm := Lib.hid hm
      have Hrk := Lib.hid hrk
      have hms : m + s ≤ n := by rw [← hm, Hn.out]; exact hrow
      have hm49 : n ≤ 49 := by rw [Hn.out]; exact hss
      obtain ⟨q, hq⟩ : ∃ q : Nat, k * (s + 1) = q := ⟨_, rfl⟩
      obtain ⟨L, hL⟩ : ∃ L : Nat, s * (s + 1) = L := ⟨_, rfl⟩
      rw [hq, hL] at hkk
      rw [hL] at hb56
      have Hq := Lib.hid hq
      have HL := Lib.hid hL
      rw [hr]
      have Hr := Lib.hid hr
      clear hr hm hrk hrow hss hq hL
      go_wp2_with fail
      go_loopw [3, 5] (fun v3 v5 wq => ∃ i A2 n2 c2, i ≤ s ∧ v5 = .int .i64 (i : Nat) ∧ v3 = .slice A2 n2 c2 ∧ OwU wq (w.heap.size + 1) A2 n2 c2 ((Fm.fmt s cs).take (q + i)) ∧ Below (w.heap.size + 1) y wq) (fun _ v _ => s - (intOf v).toNat)
      case atStart => exact ⟨0, _, _, _, by omega, rfl, rfl, by rw [← Hq.out]; exact Ho.out, Hbr.out⟩
      case round =>
        clear Ho Hbr X0r Hir t0 t1 t2 hzr
        obtain ⟨i, A2, n2, c2, hi, rfl, rfl, ho, hb⟩ := hrel
        have X0q := Lib.hid (X0.out.below hb (by omega))
        have Hiq := Lib.hid (Hi.out.below hb (by omega))
        have Ho := Lib.hid ho
        have Hbq := Lib.hid hb
        have hzq := hb.size
        have hn2 : n2 ≤ 56 := by have := ho.1; rw [List.length_take, Fm.fmt_len, HL.out] at this; omega
        have hzy : w.heap.size + 1 ≤ wr.heap.size := by have := Hyz.out; omega
        clear ho hb
        have t0 := X0q.out.cell0
        have t1 := X0q.out.cell1
        have t2 := X0q.out.lt
        by_cases his : i < s
        · obtain ⟨b, o, rfl, hbB, hc⟩ : ∃ b o, A = some ⟨b, o, none⟩ ∧ b < B ∧ ∀ j, j < n → wr.cell? ⟨b, o + j, none⟩ = some (.int .i64 (cs.getD j 0)) := by
            rcases Hiq.out.2 with h0 | ⟨b, o, hA, hbB, hc⟩
            · omega
            · exact ⟨b, o, hA, hbB, hc⟩
          have hck := hc (m + i) (by omega)
          have hx02 := Hok.out (m + i) (by rw [Hl.out]; omega)
          have hta : Fm.at_ s cs (q + i) = Fm.let_ (cs.getD (m + i) 0) := by rw [← Hq.out, Fm.at_rc cs his, ← Hrk.out, Hm.out]
          obtain ⟨x, hx⟩ : ∃ x, cs.getD (m + i) 0 = x := ⟨_, rfl⟩
          rw [hx] at hck hx02 hta
          have hmi2 : (m : Int) + (i : Nat) < n := by omega
          have htk := Fm.fmt_take (cs := cs) (show q + i < s * (s + 1) by rw [HL.out]; omega)
          rw [hta] at htk
          have Htk := Lib.hid htk
          clear hx hc hta htk
          rcases let_of hx02.1 hx02.2 with ⟨rfl, hl⟩ | ⟨rfl, hl⟩ | ⟨rfl, hl⟩
          all_goals
            rw [hl] at Htk
            clear hl hx02
            go_wp2_with (at_builtin; refine appU1 rfl _ _ rfl _ _ _ _ _ _ _ _ rfl rfl rfl Ho.out hzy (by omega) ?_; intro A' c' w9 hown' hb' hlt' hgrow')
            have Ho9 := Lib.hid hown'
            have Hb9 := Lib.hid (Hbq.out.trans hb')
            clear hown' hb' hlt' hgrow'
            go_roundw
            case rel => exact ⟨i + 1, _, _, _, by omega, by go_num, rfl, by rw [← Nat.add_assoc, Htk.out]; exact Ho9.out, Hb9.out⟩
            case measure => simp [intOf]; omega
        · obtain rfl : i = s := by omega
          have hta : Fm.at_ i cs (q + i) = 47 := by rw [← Hq.out]; exact Fm.at_end cs
          have htk := Fm.fmt_take (cs := cs) (show q + i < i * (i + 1) by rw [HL.out]; omega)
          rw [hta] at htk
          have Htk := Lib.hid htk
          clear hta htk
          go_wp2_with (at_builtin; refine appU1 rfl _ _ rfl _ _ _ _ _ _ _ _ rfl rfl rfl Ho.out hzy (by omega) ?_; intro A' c' w9 hown' hb' hlt' hgrow')
          have Ho9 := Lib.hid hown'
          have Hb9 := Lib.hid (Hbq.out.trans hb')
          have He : Hid ((r : Int) - 1 = (i : Int) - 1 - ((k + 1 : Nat) : Int)) := Lib.hid (by have := Hr.out; omega)
          clear hown' hb' hlt' hgrow'
          go_roundw
          case rel => exact ⟨k + 1, _, _, _, by omega, rfl, by rw [He.out], by rw [Nat.add_mul, Nat.one_mul, Hq.out, ← Nat.add_assoc, Htk.out]; exact Ho9.out, Hb9.out⟩
          case measure => simp [intOf]
    · obtain rfl : k = s := by omega
      have hfull : (Fm.fmt k cs).take (k * (k + 1)) = Fm.fmt k cs := List.take_of_length_le (by rw [Fm.fmt_len]; exact Nat.le_refl _)
      have ho := Ho.out
      rw [hfull] at ho
      have hlen := ho.1
      rw [Fm.fmt_len] at hlen
      have hpos : 0 < n1 := by rw [← hlen]; exact Nat.mul_pos (by omega) (by omega)
      obtain ⟨g, rfl, _, hcell⟩ := ho.head hpos
      have hconv := run_convert_bytes_arg (P := Try.prog) wr 22 5 Try.underlying22 Try.underlying5 g 0 n1 c1 (Fm.fmt k cs) ho.1 hcell 9 Try.underlying9
      have he : (k : Int) - 1 - (k : Nat) = -1 := by omega
      have Hfin := Lib.hid ((Hb.out.trans (Hbr.out.mono (by omega))))
      rw [he]
      clear ho hlen hcell hfull he
      go_wp2_with fail
      go_ret
      exact ⟨rfl, Hfin.out⟩
end Go.Proofs.Ytpopbcmfbcmojaa

namespace Go.Proofs.Ytpopbcmfbcmojaa
set_option maxRecDepth 100000
open Go.RowKit

/-- What a text leads to: where the answer is yes, a valid board of the call's own. -/
def ParsedB (S : ByteArray) (w : World) (e : Ending) (w' : World) : Prop :=
  ∃ (s' : Int) (A : Option Addr) (n c : Nat) (cs : List Int) (ok : Bool), e = .returned (.tuple #[.agg #[.int .i64 s', .slice A n c], .bool ok]) ∧
    (ok = true → Own w' w.heap.size A n c cs ∧ Bd.okB s' cs = true ∧ (strOfNums (Fm.fmt s'.toNat cs)).toList = S.toList) ∧ Below w.heap.size w w'

theorem quo_rem {s p : Nat} (h1 : 1 ≤ s) (hp : p < s * s) : p / s < s ∧ p % s < s := ⟨Nat.div_lt_of_lt_mul hp, Nat.mod_lt _ (by omega)⟩
theorem okL_zero' (n : Nat) : OkL (List.replicate n 0) := okL_mem.2 fun c hc => by rw [List.eq_of_mem_replicate hc]; omega

set_option maxRecDepth 100000 in
set_option maxHeartbeats 4000000 in
theorem s_ParseBoard (S : ByteArray) (w : World) (hS : S.size ≤ 1000000) :
    Calls Try.prog 100 #[.string S] w fun e w' => ParsedB S w e w' := by
  have hb1 : Below w.heap.size w (w.alloc (.cells #[.int .i64 0, .slice none 0 0] 25)) := (Below.refl _ _).alloc (Nat.le_refl _) _
  have x0 := Bx.new 25 w 0 (.slice none 0 0)
  go_enter Try.func100, Try.ntmps100
  go_upto_region 1 with (fail)
  obtain ⟨y, hy⟩ : ∃ y, y = w.alloc (.cells #[.int .i64 0, .slice none 0 0] 25) := ⟨_, rfl⟩
  have hyz : y.heap.size = w.heap.size + 1 := by rw [hy]; simp
  rw [← hy] at x0 hb1 ⊢
  have X0 := Lib.hid x0
  have Hb := Lib.hid hb1
  have Hyz := Lib.hid hyz
  clear hy x0 hb1 hyz
  have t0 := X0.out.cell0
  have t1 := X0.out.cell1
  have t2 := X0.out.frozen 0
  have t3 := X0.out.frozen 1
  have t4 := X0.out.lt
  go_wp2_with fail
  go_loop [4] (fun v => ∃ k : Nat, k ≤ 8 ∧ k ≤ S.size ∧ v = .int .i64 (k : Nat)) (fun v => 8 - (intOf v).toNat)
  case atStart => exact ⟨0, by omega, by omega, rfl⟩
  case round =>
    obtain ⟨k, hk, hkS, rfl⟩ := hrel
    have hround : ∀ P : Prop, (k < S.size ∧ k ≤ 7 ∧ ∃ h : k < S.size, (S[k].toNat : Int) ≠ 47) ∨ ¬ (k < S.size ∧ k ≤ 7 ∧ ∃ h : k < S.size, (S[k].toNat : Int) ≠ 47) := fun _ => Classical.em _
    rcases hround True with ⟨hlt, h7, _, hch⟩ | hno
    · have hb : ((S[k].toNat : Int) != 47) = true := by simpa using hch
      clear hround hch
      go_wp2_with fail
      go_round
      case rel => exact ⟨k + 1, by omega, by omega, by go_num⟩
      case measure => simp [intOf]; omega
    · have hno3 : (¬ k < S.size) ∨ (k < S.size ∧ 7 < k) ∨ (k < S.size ∧ k ≤ 7 ∧ ∃ h : k < S.size, (S[k].toNat : Int) = 47) := by
        by_cases h1 : k < S.size
        · by_cases h2 : k ≤ 7
          · refine .inr (.inr ⟨h1, h2, h1, ?_⟩)
            exact Classical.byContradiction fun h3 => hno ⟨h1, h2, h1, h3⟩
          · exact .inr (.inl ⟨h1, by omega⟩)
        · exact .inl h1
      clear hno hround
      obtain ⟨n, hkk⟩ : ∃ n : Nat, ((k : Nat) : Int) * ((k : Nat) : Int) = (n : Nat) := ⟨k * k, by simp⟩
      obtain ⟨L, hkL⟩ : ∃ L : Nat, ((k : Nat) : Int) * (((k : Nat) : Int) + 1) = (L : Nat) := ⟨k * (k + 1), by simp⟩
      have hnk : n = k * k := by have : ((n : Nat) : Int) = ((k * k : Nat) : Int) := by rw [← hkk]; simp
                                 omega
      have hLk : L = k * (k + 1) := by have : ((L : Nat) : Int) = ((k * (k + 1) : Nat) : Int) := by rw [← hkL]; simp
                                       omega
      have hn64 : n ≤ 64 := by rw [hnk]; exact Nat.le_trans (Nat.mul_le_mul hk hk) (by decide)
      have hL72 : L ≤ 72 := by rw [hLk]; exact Nat.le_trans (Nat.mul_le_mul hk (show k + 1 ≤ 9 by omega)) (by decide)
      have Hnk := Lib.hid hnk
      have HLk := Lib.hid hLk
      clear hnk hLk
      by_cases hv : 1 ≤ k ∧ k ≤ 7
      · have hno2 : (¬ k < S.size) ∨ (k < S.size ∧ ∃ h : k < S.size, (S[k].toNat : Int) = 47) := by
          rcases hno3 with h | ⟨_, h⟩ | ⟨h, _, h'⟩
          · exact .inl h
          · omega
          · exact .inr ⟨h, h'⟩
        clear hno3
        rcases hno2 with hlt | ⟨hlt, _, hch⟩
        all_goals try (have hb : ((S[k].toNat : Int) != 47) = false := by simpa using hch)
        all_goals try clear hch
        all_goals
          have hok : Pt.okS (k : Nat) = true := (Pt.okS_iff _).2 (by omega)
          by_cases hSL : S.size = L
          · have hd : decide ((S.size : Int) = (L : Int)) = true := by rw [hSL]; simp
            have hSn : ((S.size : Int) != (L : Int)) = false := by rw [hSL]; simp
            have hSL1 : S.size ≤ L ∧ L ≤ S.size := by omega
            clear hSL
            go_wp2_with fail
            refine (s_size _ _).mono ?_
            rintro e w' ⟨rfl, rfl⟩
            rw [hok]
            clear hok
            go_wp2_with (at_make; refine make0 rfl _ rfl _ (w.heap.size + 1) _ n rfl rfl (by omega) (by rw [Hyz.out]; exact Nat.le_refl _) ?_; intro w1 hown hbm hltm)
            have Ho := Lib.hid hown
            have zm := hbm.size
            have hyw : w.heap.size + 1 ≤ y.heap.size ∧ y.heap.size ≤ w.heap.size + 1 := by have := Hyz.out; omega
            have X0 := Lib.hid (X0.out.below hbm X0.out.lt)
            have Hb := Lib.hid (Hb.out.trans (hbm.mono (by omega)))
            have Hokz := Lib.hid (okL_zero' n)
            clear hown hbm t0 t1 t2 t3 t4 hSn hd
            obtain ⟨y3, hy3, hb3, z3, z4⟩ := new_box w1 (.cells #[.int .i64 (k : Nat), .slice (some ⟨y.heap.size, 0, none⟩) n n] 25)
            have X5 : Hid (Bx 25 y3 w1.heap.size (k : Nat) (.slice (some ⟨y.heap.size, 0, none⟩) n n)) := Lib.hid (by rw [hy3]; exact Bx.new _ _ _ _)
            rw [← hy3]
            clear hy3
            have X0 := Lib.hid (X0.out.below hb3 X0.out.lt)
            have Ho := Lib.hid (Ho.out.below hb3)
            have Hb := Lib.hid (Hb.out.trans (hb3.mono (by omega)))
            clear hb3
            go_loopw [6] (fun v wr => ∃ (p : Nat) (cs : List Int), p ≤ n ∧ v = .int .i64 (p : Nat) ∧ Own wr (w.heap.size + 1) (some ⟨y.heap.size, 0, none⟩) n n cs ∧ OkL cs ∧ Bx 25 wr w1.heap.size (k : Nat) (.slice (some ⟨y.heap.size, 0, none⟩) n n) ∧ Below (w.heap.size + 1) y3 wr) (fun v _ => n - (intOf v).toNat)
            case atStart => exact ⟨0, _, by omega, rfl, Ho.out, Hokz.out, X5.out, Below.refl _ _⟩
            case round =>
              clear Ho Hokz X5
              obtain ⟨p, cs, hp, rfl, ho, hok, hx5, hbr⟩ := hrel
              have X0 := Lib.hid (X0.out.below hbr (by omega))
              have X5 := Lib.hid hx5
              have Ho := Lib.hid ho
              have Hok := Lib.hid hok
              have Hbr := Lib.hid hbr
              have zr := hbr.size
              clear ho hok hx5 hbr
              have t0 := X5.out.cell0
              have t1 := X5.out.cell1
              have t2 := X5.out.lt
              by_cases hpn : p < n
              · obtain ⟨q, hq⟩ : ∃ q, p / k = q := ⟨_, rfl⟩
                obtain ⟨r, hr⟩ : ∃ r, p % k = r := ⟨_, rfl⟩
                obtain ⟨hq1, hr1⟩ := quo_rem (s := k) (p := p) (by omega) (by rw [← Hnk.out]; exact hpn)
                rw [hq] at hq1
                rw [hr] at hr1
                obtain ⟨j, hj⟩ : ∃ j, (k - 1 - q) * (k + 1) + r = j := ⟨_, rfl⟩
                have hjL : j < L := by
                  have h3 := Nat.mul_le_mul_right (k + 1) (show k - 1 - q + 1 ≤ k by omega)
                  rw [Nat.add_mul, Nat.one_mul] at h3
                  rw [HLk.out, ← hj]
                  omega
                have hjS : j < S.size := by omega
                have e1 : ((p : Nat) : Int).tdiv ((k : Nat) : Int) = (q : Nat) := by rw [Int.tdiv_eq_ediv_of_nonneg (by omega), ← hq]; rfl
                have e1' : ((p : Nat) : Int) / ((k : Nat) : Int) = (q : Nat) := by rw [← hq]; rfl
                have e2 : ((p : Nat) : Int).tmod ((k : Nat) : Int) = (r : Nat) := by rw [Int.tmod_eq_emod_of_nonneg (by omega), ← hr]; rfl
                have e2' : ((p : Nat) : Int) % ((k : Nat) : Int) = (r : Nat) := by rw [← hr]; rfl
                have e3 : IntKind.i64.wrap ((k : Nat) - 1 : Int) = (k : Nat) - 1 := IntWalk.i64_in _ (by omega)
                have e6 : IntKind.i64.wrap (((k : Nat) : Int) + 1) = (k : Nat) + 1 := IntWalk.i64_in _ (by omega)
                have hjc : (j : Int) < S.size := by omega
                obtain ⟨a, ha⟩ : ∃ a, k - 1 - q = a := ⟨_, rfl⟩
                obtain ⟨M, hM⟩ : ∃ M, a * (k + 1) = M := ⟨_, rfl⟩
                have hMj : M + r = j := by rw [← hj, ← hM, ← ha]
                have hMi : ((a : Nat) : Int) * (((k : Nat) : Int) + 1) = (M : Nat) := by rw [← hM]; simp
                have e4 : IntKind.i64.wrap ((k : Nat) - 1 - (q : Nat) : Int) = (a : Nat) := by
                  rw [show ((k : Nat) - 1 - (q : Nat) : Int) = (a : Nat) by omega]
                  exact IntWalk.i64_in _ (by omega)
                have e7 : IntKind.i64.wrap (((a : Nat) : Int) * (((k : Nat) : Int) + 1)) = (M : Nat) := by
                  rw [hMi]
                  exact IntWalk.i64_in _ (by omega)
                have e8 : IntKind.i64.wrap (((M : Nat) : Int) + (r : Nat)) = (j : Nat) := by
                  rw [show ((M : Nat) : Int) + (r : Nat) = (j : Nat) by omega]
                  exact IntWalk.i64_in _ (by omega)
                obtain ⟨v, hv0⟩ : ∃ v, wr.cell? ⟨y.heap.size, p, none⟩ = some v := by
                  have := World.ownsRow.cellAt Ho.out.2 p (by omega)
                  rw [this]
                  exact ⟨_, List.getElem?_eq_getElem (by rw [List.length_map, Ho.out.1]; exact hpn)⟩
                have hf := World.ownsRow.frozenAt Ho.out.2 p
                clear hq hr hj ha hM hMj hMi
                have Hbd : Hid (Below w.heap.size w wr) := Lib.hid (Hb.out.trans (Hbr.out.mono (by omega)))
                by_cases h88 : (S[j].toNat : Int) = 88
                · have hb88 : ((S[j].toNat : Int) == 88) = true := by simpa using h88
                  clear h88
                  go_wp2_with fail
                  go_quiet (fail)
                  clear e1 e1' e2 e2' e3 e4 e6 e7 e8
                  go_wp2_with fail
                  go_roundw
                  case rel => exact ⟨p + 1, _, by omega, by go_num, (Own.stored (Ho.out.drewN nq) p 1).1, Hok.out.set p (by omega) (by omega), (X5.out.drewN nq).far (p := ⟨y.heap.size, p, none⟩) (by show w1.heap.size ≠ y.heap.size; omega) _, (drew_below Hbr.out nq).setCell (by show w.heap.size + 1 ≤ y.heap.size; omega) _⟩
                  case measure => simp [intOf]; omega
                · have hb88 : ((S[j].toNat : Int) == 88) = false := by simpa using h88
                  clear h88
                  by_cases h79 : (S[j].toNat : Int) = 79
                  · have hb79 : ((S[j].toNat : Int) == 79) = true := by simpa using h79
                    clear h79
                    go_wp2_with fail
                    go_quiet (fail)
                    clear e1 e1' e2 e2' e3 e4 e6 e7 e8
                    go_wp2_with fail
                    go_roundw
                    case rel => exact ⟨p + 1, _, by omega, by go_num, (Own.stored (Ho.out.drewN nq) p 2).1, Hok.out.set p (by omega) (by omega), (X5.out.drewN nq).far (p := ⟨y.heap.size, p, none⟩) (by show w1.heap.size ≠ y.heap.size; omega) _, (drew_below Hbr.out nq).setCell (by show w.heap.size + 1 ≤ y.heap.size; omega) _⟩
                    case measure => simp [intOf]; omega
                  · have hb79 : ((S[j].toNat : Int) == 79) = false := by simpa using h79
                    clear h79
                    go_wp2_with fail
                    go_quiet (fail)
                    clear e1 e1' e2 e2' e3 e4 e6 e7 e8
                    go_wp2_with fail
                    go_roundw
                    case rel => exact ⟨p + 1, cs, by omega, by go_num, Ho.out.drewN nq, Hok.out, X5.out.drewN nq, drew_below Hbr.out nq⟩
                    case measure => simp [intOf]; omega
              · obtain rfl : p = n := by omega
                have Hv := Lib.hid ((Bd.okB_iff (k : Nat) cs).2 ⟨by omega, by omega, by rw [Ho.out.1, Hnk.out]; simp, okL_mem.1 Hok.out⟩)
                go_wp2_with fail
                refine (s_formatBoard k _ _ _ p p cs Ho.out.ints (Nat.le_refl _) hv.1 hv.2 Hnk.out Hok.out).mono ?_
                rintro e yf ⟨rfl, hbf⟩
                have X0 := Lib.hid (X0.out.below hbf X0.out.lt)
                have X5 := Lib.hid (X5.out.below hbf X5.out.lt)
                have Ho := Lib.hid (Ho.out.below hbf)
                have Hb := Lib.hid (Hb.out.trans ((Hbr.out.trans (hbf.mono (by omega))).mono (by omega)))
                clear hbf t0 t1 t2
                have t0 := X5.out.cell0
                have t1 := X5.out.cell1
                have t2 := X5.out.lt
                have r0 := X0.out.cell0
                have r1 := X0.out.cell1
                have r2 := X0.out.frozen 0
                have r3 := X0.out.frozen 1
                have r4 := X0.out.lt
                by_cases heq : ((strOfNums (Fm.fmt k cs)).toList == S.toList) = true
                · have hbe : (!(strOfNums (Fm.fmt k cs)).toList == S.toList) = false := by rw [heq]; rfl
                  have Heq := Lib.hid (eq_of_beq heq)
                  have K0 := Lib.hid ((X0.out.set0 (k : Nat)).cell0)
                  have K1 := Lib.hid (((X0.out.set0 (k : Nat)).set1 (.slice (some ⟨y.heap.size, 0, none⟩) p p)).cell1)
                  have Hb3 := Lib.hid ((Hb.out.setCell (p := ⟨w.heap.size, 0, none⟩) (Nat.le_refl _) (.int .i64 (k : Nat))).setCell (p := ⟨w.heap.size, 1, none⟩) (Nat.le_refl _) (.slice (some ⟨y.heap.size, 0, none⟩) p p))
                  have Ho3 := Lib.hid ((Ho.out.far ⟨w.heap.size, 0, none⟩ (fun g hA => by have := (Ho.out.ge hA).1; show g ≠ w.heap.size; omega) (.int .i64 (k : Nat))).far ⟨w.heap.size, 1, none⟩ (fun g hA => by have := (Ho.out.ge hA).1; show g ≠ w.heap.size; omega) (.slice (some ⟨y.heap.size, 0, none⟩) p p))
                  clear heq
                  go_wp2_with fail
                  have k0 := K0.out
                  have k1 := K1.out
                  refine bodyPost_ret (v := .tuple #[.agg #[.int .i64 (k : Nat), .slice (some ⟨y.heap.size, 0, none⟩) p p], .bool true]) (by simp [results, Try.results100, go_sem, k0, k1]) rfl ?_
                  exact ⟨_, _, _, _, cs, _, rfl, fun _ => ⟨Ho3.out.weaken (by omega), Hv.out, Heq.out⟩, Hb3.out⟩
                · have hbe : (!(strOfNums (Fm.fmt k cs)).toList == S.toList) = true := by rw [Bool.eq_false_iff.2 heq]; rfl
                  clear heq
                  have K0 := Lib.hid ((X0.out.set0 0).cell0)
                  have K1 := Lib.hid (((X0.out.set0 0).set1 (.slice none 0 0)).cell1)
                  have Hb3 := Lib.hid ((Hb.out.setCell (p := ⟨w.heap.size, 0, none⟩) (Nat.le_refl _) (.int .i64 0)).setCell (p := ⟨w.heap.size, 1, none⟩) (Nat.le_refl _) (.slice none 0 0))
                  go_wp2_with fail
                  have k0 := K0.out
                  have k1 := K1.out
                  refine bodyPost_ret (v := .tuple #[.agg #[.int .i64 0, .slice none 0 0], .bool false]) (by simp [results, Try.results100, go_sem, k0, k1]) rfl ?_
                  exact ⟨_, _, _, _, [], _, rfl, fun h => (by cases h), Hb3.out⟩
          · have hSn : ((S.size : Int) != (L : Int)) = true := by simp; omega
            go_wp2_with fail
            refine (s_size _ _).mono ?_
            rintro e w' ⟨rfl, rfl⟩
            rw [hok]
            clear hok
            have K0 := Lib.hid ((X0.out.set0 0).cell0)
            have K1 := Lib.hid (((X0.out.set0 0).set1 (.slice none 0 0)).cell1)
            have Hb3 := Lib.hid ((Hb.out.setCell (p := ⟨w.heap.size, 0, none⟩) (Nat.le_refl _) (.int .i64 0)).setCell (p := ⟨w.heap.size, 1, none⟩) (Nat.le_refl _) (.slice none 0 0))
            go_wp2_with fail
            have k0 := K0.out
            have k1 := K1.out
            refine bodyPost_ret (v := .tuple #[.agg #[.int .i64 0, .slice none 0 0], .bool false]) (by simp [results, Try.results100, go_sem, k0, k1]) rfl ?_
            exact ⟨_, _, _, _, [], _, rfl, fun h => (by cases h), Hb3.out⟩
      · rcases hno3 with hlt | ⟨hlt, h7⟩ | ⟨hlt, h7, _, hch⟩
        all_goals try (have hb : ((S[k].toNat : Int) != 47) = false := by simpa using hch)
        all_goals try clear hch
        all_goals
          have hok : Pt.okS (k : Nat) = false := by
            rcases Bool.eq_false_or_eq_true (Pt.okS (k : Nat)) with h | h
            · have := (Pt.okS_iff _).1 h; omega
            · exact h
          go_wp2_with fail
          refine (s_size _ _).mono ?_
          rintro e w' ⟨rfl, rfl⟩
          rw [hok]
          clear hok
          have K0 := Lib.hid ((X0.out.set0 0).cell0)
          have K1 := Lib.hid (((X0.out.set0 0).set1 (.slice none 0 0)).cell1)
          have Hb3 := Lib.hid ((Hb.out.setCell (p := ⟨w.heap.size, 0, none⟩) (Nat.le_refl _) (.int .i64 0)).setCell (p := ⟨w.heap.size, 1, none⟩) (Nat.le_refl _) (.slice none 0 0))
          go_wp2_with fail
          have k0 := K0.out
          have k1 := K1.out
          refine bodyPost_ret (v := .tuple #[.agg #[.int .i64 0, .slice none 0 0], .bool false]) (by simp [results, Try.results100, go_sem, k0, k1]) rfl ?_
          exact ⟨_, _, _, _, [], _, rfl, fun h => (by cases h), Hb3.out⟩
end Go.Proofs.Ytpopbcmfbcmojaa

namespace Go.Proofs.Ytpopbcmfbcmojaa
set_option maxRecDepth 100000
open Go.RowKit

def trOk (s : Int) (cs : List Int) (k : Int) : Bool := Bd.okB s cs && Pt.okK k
def trS (s : Int) (cs : List Int) (k : Int) : Int := if trOk s cs k then s else 0
def trCs (s : Int) (cs : List Int) (k : Int) : List Int := if trOk s cs k then Bd.mv s k cs else []

set_option maxHeartbeats 4000000 in
theorem i_trB (s k : Int) (w : World) (B : Nat) (A : Option Addr) (n c : Nat) (cs : List Int) (h : Ints w B A n cs) (hB : B ≤ w.heap.size) (hn : n ≤ 1000000000) :
    Calls Try.prog 13 #[.agg #[.int .i64 s, .slice A n c], .int .i64 k] w fun e w' => Made (trS s cs k) (trCs s cs k) w e w' := by
  have e1 : (w.alloc (.cells #[.int .i64 s, .slice A n c] 25)).heap.size = w.heap.size + 1 := by simp
  have x0 := (Bx.new 25 w s (.slice A n c)).alloc (.cells #[.int .i64 0, .slice none 0 0] 25)
  have x1 := Bx.new 25 (w.alloc (.cells #[.int .i64 s, .slice A n c] 25)) 0 (.slice none 0 0)
  rw [e1] at x1
  have hb2 : Below w.heap.size w ((w.alloc (.cells #[.int .i64 s, .slice A n c] 25)).alloc (.cells #[.int .i64 0, .slice none 0 0] 25)) := ((Below.refl _ _).alloc (Nat.le_refl _) _).alloc (by simp) _
  have hl := h.1
  have H := Lib.hid (h.below hb2 hB)
  have X0 := Lib.hid x0
  have X1 := Lib.hid x1
  have Hb := Lib.hid hb2
  clear e1 x0 x1 hb2 h
  by_cases hv : Bd.okB s cs = true
  · obtain ⟨q1, q2, q3, _⟩ := (Bd.okB_iff s cs).1 hv
    have q4 := Pt.sq_bd s q1 q2
    have hn49 : n ≤ 49 := by omega
    have hns : (n : Int) = s * s := by omega
    have Hns := Lib.hid hns
    clear hns
    by_cases hk : Pt.okK k = true
    · have hall : trOk s cs k = true := by rw [trOk, hv, hk]; rfl
      have Hs := Lib.hid (show trS s cs k = s by rw [trS, hall]; rfl)
      have Hc := Lib.hid (show trCs s cs k = Bd.mv s k cs by rw [trCs, hall]; rfl)
      clear hall
      obtain ⟨k1, k2⟩ := (Pt.okK_iff k).1 hk
      go_enter Try.func13, Try.ntmps13
      go_wp2_with fail
      refine (i_validBoard _ _ _ _ _ _ _ H.out (by simp; omega) (by omega)).mono ?_
      rintro e y2 ⟨rfl, hb⟩
      rw [hv]
      have X0 := Lib.hid (X0.out.below hb X0.out.lt)
      have X1 := Lib.hid (X1.out.below hb X1.out.lt)
      have H := Lib.hid (H.out.below hb (by simp; omega))
      have Hb := Lib.hid (Hb.out.trans (hb.mono (by simp; omega)))
      clear hb hv
      have z2 := X1.out.lt
      have u00 := X0.out.cell0
      have u01 := X0.out.cell1
      have u02 := X0.out.lt
      go_wp2_with fail
      refine (i_sym _ _).mono ?_
      rintro e w' ⟨rfl, rfl⟩
      rw [hk]
      clear hk
      go_upto_region 3 with (fail)
      go_cut [] (fun wx => ∃ A' c', Bx 25 wx (w.heap.size + 1) s (.slice A' n c') ∧ Own wx y2.heap.size A' n c' (Bd.mv s k cs) ∧ Below w.heap.size w wx)
      case first =>
        go_region_with (first | (go_at_call 54; refine (i_imagesOf s k n _ q1 q2 Hns.out k1 k2).mono ?_; rintro e ya ⟨Aa, ca, rfl, hoa, hba⟩; have hbw : Below y2.heap.size y2 ya := ⟨hba.os, hba.tape, hba.output, hba.size, hba.block⟩; have za := hbw.size; have u0 := (X0.out.below hbw X0.out.lt).cell0; have u1 := (X0.out.below hbw X0.out.lt).cell1; have ul := (X0.out.below hbw X0.out.lt).lt; have Hoa := Lib.hid hoa.ints; have Ha := Lib.hid (H.out.below hbw (by omega)); have Hba := Lib.hid hbw; clear hoa hba hbw) | (go_at_call 53; refine (i_movedTo s k _ B ya.heap.size _ _ n _ _ cs (by exact Ha.out) (by exact Hoa.out) (by show B ≤ ya.heap.size; omega) (by exact Nat.le_refl _) q1 q2 Hns.out k1 k2).mono ?_; rintro e y ⟨A', c', rfl, ho, hb⟩; have hbw : Below y2.heap.size y2 y := Hba.out.trans ((show Below ya.heap.size ya y from ⟨hb.os, hb.tape, hb.output, hb.size, hb.block⟩).mono Hba.out.size); clear u0 u1; have w0 := (X0.out.below hbw X0.out.lt).cell0; have w1 := (X0.out.below hbw X0.out.lt).cell1; have v0 := (X1.out.below hbw X1.out.lt).cell0; have v1 := (X1.out.below hbw X1.out.lt).cell1; have v2 := (X1.out.below hbw X1.out.lt).frozen 0; have v3 := (X1.out.below hbw X1.out.lt).frozen 1; have v4 := (X1.out.below hbw X1.out.lt).lt; have HX1 := Lib.hid (X1.out.below hbw X1.out.lt); have Ho : Hid (Own y y2.heap.size A' n c' (Bd.mv s k cs)) := Lib.hid (Own.weaken ho za); have Hb' := Lib.hid hbw; clear ho hb hbw))
        all_goals go_wp2_with fail
        all_goals go_meet
        all_goals
          have ho2 := (Ho.out.far ⟨w.heap.size + 1, 0, none⟩ (fun g hA => by have := (Ho.out.ge hA).1; show g ≠ w.heap.size + 1; omega) (.int .i64 s)).far ⟨w.heap.size + 1, 1, none⟩ (fun g hA => by have := (Ho.out.ge hA).1; show g ≠ w.heap.size + 1; omega) (.slice A' n c')
          have hb3 := ((Hb.out.trans (Hb'.out.mono (by omega))).setCell (p := ⟨w.heap.size + 1, 0, none⟩) (by show w.heap.size ≤ w.heap.size + 1; omega) (.int .i64 s)).setCell (p := ⟨w.heap.size + 1, 1, none⟩) (by show w.heap.size ≤ w.heap.size + 1; omega) (.slice A' n c')
          exact ⟨A', c', (HX1.out.set0 s).set1 _, ho2, hb3⟩
      case rest =>
        obtain ⟨A', c', hx, ho, hb⟩ := hcut
        have Ho := Lib.hid ho
        have Hb2 := Lib.hid hb
        clear ho hb
        go_wp2_with fail
        have k0 := hx.cell0
        have k1 := hx.cell1
        refine bodyPost_ret (v := .agg #[.int .i64 s, .slice A' n c']) (by simp [results, Try.results13, go_sem, k0, k1]) rfl ?_
        exact ⟨_, _, _, by rw [Hs.out], by rw [Hc.out]; exact Ho.out.weaken (by omega), Hb2.out⟩
    · have hk0 : Pt.okK k = false := by simpa using hk
      have hall : trOk s cs k = false := by rw [trOk, hv, hk0]; rfl
      have Hs := Lib.hid (show trS s cs k = 0 by rw [trS, hall]; rfl)
      have Hc := Lib.hid (show trCs s cs k = [] by rw [trCs, hall]; rfl)
      clear hall
      clear hk
      go_enter Try.func13, Try.ntmps13
      go_wp2_with fail
      refine (i_validBoard _ _ _ _ _ _ _ H.out (by simp; omega) (by omega)).mono ?_
      rintro e y2 ⟨rfl, hb⟩
      rw [hv]
      have X0 := Lib.hid (X0.out.below hb X0.out.lt)
      have X1 := Lib.hid (X1.out.below hb X1.out.lt)
      have H := Lib.hid (H.out.below hb (by simp; omega))
      have Hb := Lib.hid (Hb.out.trans (hb.mono (by simp; omega)))
      clear hb hv
      have z2 := X1.out.lt
      have u00 := X0.out.cell0
      have u01 := X0.out.cell1
      have u02 := X0.out.lt
      go_wp2_with fail
      refine (i_sym _ _).mono ?_
      rintro e w' ⟨rfl, rfl⟩
      rw [hk0]
      clear hk0
      have v10 := X1.out.cell0
      have v11 := X1.out.cell1
      have v12 := X1.out.frozen 0
      have v13 := X1.out.frozen 1
      have v14 := X1.out.lt
      have K0 := Lib.hid ((X1.out.set0 0).cell0)
      have K1 := Lib.hid (((X1.out.set0 0).set1 (.slice none 0 0)).cell1)
      have Hb3 := Lib.hid ((Hb.out.setCell (p := ⟨w.heap.size + 1, 0, none⟩) (by show w.heap.size ≤ w.heap.size + 1; omega) (.int .i64 0)).setCell (p := ⟨w.heap.size + 1, 1, none⟩) (by show w.heap.size ≤ w.heap.size + 1; omega) (.slice none 0 0))
      clear u00 u01
      go_wp2_with fail
      have k0 := K0.out
      have k1 := K1.out
      refine bodyPost_ret (v := .agg #[.int .i64 0, .slice none 0 0]) (by simp [results, Try.results13, go_sem, k0, k1]) rfl ?_
      exact ⟨_, _, _, by rw [Hs.out], by rw [Hc.out]; exact Own.nil _ _, Hb3.out⟩
  · have hv0 : Bd.okB s cs = false := by simpa using hv
    have hall : trOk s cs k = false := by rw [trOk, hv0]; rfl
    have Hs := Lib.hid (show trS s cs k = 0 by rw [trS, hall]; rfl)
    have Hc := Lib.hid (show trCs s cs k = [] by rw [trCs, hall]; rfl)
    clear hall
    clear hv
    go_enter Try.func13, Try.ntmps13
    go_wp2_with fail
    refine (i_validBoard _ _ _ _ _ _ _ H.out (by simp; omega) (by omega)).mono ?_
    rintro e y2 ⟨rfl, hb⟩
    rw [hv0]
    have X0 := Lib.hid (X0.out.below hb X0.out.lt)
    have X1 := Lib.hid (X1.out.below hb X1.out.lt)
    have H := Lib.hid (H.out.below hb (by simp; omega))
    have Hb := Lib.hid (Hb.out.trans (hb.mono (by simp; omega)))
    clear hb hv0
    have z2 := X1.out.lt
    have u00 := X0.out.cell0
    have u01 := X0.out.cell1
    have u02 := X0.out.lt
    have v10 := X1.out.cell0
    have v11 := X1.out.cell1
    have v12 := X1.out.frozen 0
    have v13 := X1.out.frozen 1
    have v14 := X1.out.lt
    have K0 := Lib.hid ((X1.out.set0 0).cell0)
    have K1 := Lib.hid (((X1.out.set0 0).set1 (.slice none 0 0)).cell1)
    have Hb3 := Lib.hid ((Hb.out.setCell (p := ⟨w.heap.size + 1, 0, none⟩) (by show w.heap.size ≤ w.heap.size + 1; omega) (.int .i64 0)).setCell (p := ⟨w.heap.size + 1, 1, none⟩) (by show w.heap.size ≤ w.heap.size + 1; omega) (.slice none 0 0))
    clear u00 u01
    go_wp2_with fail
    have k0 := K0.out
    have k1 := K1.out
    refine bodyPost_ret (v := .agg #[.int .i64 0, .slice none 0 0]) (by simp [results, Try.results13, go_sem, k0, k1]) rfl ?_
    exact ⟨_, _, _, by rw [Hs.out], by rw [Hc.out]; exact Own.nil _ _, Hb3.out⟩
end Go.Proofs.Ytpopbcmfbcmojaa

namespace Go.Proofs.Ytpopbcmfbcmojaa
set_option maxRecDepth 100000
open Go.RowKit

theorem s_rangeK7 (k : Int) (w : World) : Calls Try.prog 70 #[.int .i64 k, .int .i64 0, .int .i64 7] w fun e w' => e = .returned (.bool (Pt.okK k)) ∧ w = w' :=
  (s_range k 0 7 w).mono fun e w' h => ⟨by rw [h.1]; exact ret_bool (by unfold Pt.okK; congr 1; exact decide_eq_decide.2 (by omega)), h.2⟩

set_option maxHeartbeats 1600000 in
theorem s_transformBoard (s k : Int) (w : World) (B : Nat) (A : Option Addr) (n c : Nat) (cs : List Int) (h : Ints w B A n cs) (hB : B ≤ w.heap.size) (h1 : 1 ≤ s) (h2 : s ≤ 7) (hns : (n : Int) = s * s) (k1 : 0 ≤ k) (k2 : k < 8) :
    Calls Try.prog 102 #[.agg #[.int .i64 s, .slice A n c], .int .i64 k] w fun e w' => Made s (Bd.mv s k cs) w e w' := by
  have e1 : (w.alloc (.cells #[.int .i64 s, .slice A n c] 25)).heap.size = w.heap.size + 1 := by simp
  have x0 := (Bx.new 25 w s (.slice A n c)).alloc (.cells #[.int .i64 0, .slice none 0 0] 25)
  have x1 := Bx.new 25 (w.alloc (.cells #[.int .i64 s, .slice A n c] 25)) 0 (.slice none 0 0)
  rw [e1] at x1
  have hb2 : Below w.heap.size w ((w.alloc (.cells #[.int .i64 s, .slice A n c] 25)).alloc (.cells #[.int .i64 0, .slice none 0 0] 25)) := ((Below.refl _ _).alloc (Nat.le_refl _) _).alloc (by simp) _
  have hl := h.1
  have H := Lib.hid (h.below hb2 hB)
  have X0 := Lib.hid x0
  have X1 := Lib.hid x1
  have Hb := Lib.hid hb2
  clear e1 x0 x1 hb2 h
  have hsq := Pt.sq_bd s h1 h2
  have hn49 : n ≤ 49 := by omega
  have hn1 : 0 < n := by omega
  have hle : (n : Int) ≤ s * s := by omega
  have Hns := Lib.hid hns
  have Hl := Lib.hid hl
  clear hns hl
  go_enter Try.func102, Try.ntmps102
  go_wp2_with fail
  refine (s_copyBoard _ _ _ _ _ _ _ H.out (by simp; omega) (by omega)).mono ?_
  rintro e y ⟨A1, c1, rfl, ho, hb⟩
  have X0 := Lib.hid (X0.out.below hb X0.out.lt)
  have X1 := Lib.hid (X1.out.below hb X1.out.lt)
  have H := Lib.hid (H.out.below hb (by simp; omega))
  have Hb := Lib.hid (Hb.out.trans (hb.mono (by simp; omega)))
  have Ho := Lib.hid (ho.weaken (B' := w.heap.size + 1 + 1) (by simp))
  have hA1 : ∃ g, A1 = some ⟨g, 0, none⟩ := by
    obtain ⟨g, cap, hv, _⟩ := World.ownsRow.form ho.2 (by omega)
    exact ⟨g, by injection hv⟩
  obtain ⟨g, hA1⟩ := hA1
  have hg1 := (Ho.out.ge hA1).1
  have hg2 := (ho.ge hA1).2
  rw [hA1] at Ho ⊢
  clear hb ho hA1
  have z1 := X1.out.lt
  have u00 := X0.out.cell0
  have u01 := X0.out.cell1
  have u02 := X0.out.lt
  go_wp2_with fail
  obtain ⟨y3, hy3, hb3, z3, z4⟩ := new_box y (.cells #[.int .i64 s, .slice (some ⟨g, 0, none⟩) n c1] 25)
  have X3 : Hid (Bx 25 y3 y.heap.size s (.slice (some ⟨g, 0, none⟩) n c1)) := Lib.hid (by rw [hy3]; exact Bx.new _ _ _ _)
  rw [← hy3]
  clear hy3 u00 u01
  have X0 := Lib.hid (X0.out.below hb3 X0.out.lt)
  have X1 := Lib.hid (X1.out.below hb3 X1.out.lt)
  have H := Lib.hid (H.out.below hb3 (by omega))
  have Ho := Lib.hid (Ho.out.below hb3)
  have Hb := Lib.hid (Hb.out.trans (hb3.mono (by omega)))
  clear hb3
  go_loopw [6] (fun i wr => ∃ j : Nat, j ≤ n ∧ i = .int .i64 j ∧ Own wr (w.heap.size + 1 + 1) (some ⟨g, 0, none⟩) n c1 (Bd.steps (Bd.imgN s k) cs j cs) ∧ Bx 25 wr y.heap.size s (.slice (some ⟨g, 0, none⟩) n c1) ∧ Below (w.heap.size + 1 + 1) y3 wr) (fun i _ => n - (intOf i).toNat)
  case atStart => exact ⟨0, by omega, rfl, Ho.out, X3.out, Below.refl _ _⟩
  case round =>
    clear X3 Ho
    obtain ⟨j, hj, rfl, ho, hx3, hbr⟩ := hrel
    have X0r := Lib.hid (X0.out.below hbr (by omega))
    have X1r := Lib.hid (X1.out.below hbr (by omega))
    have Hir := Lib.hid (H.out.below hbr (by omega))
    have Hbw := Lib.hid (Hb.out.trans (hbr.mono (by omega)))
    have Ho := Lib.hid ho
    have X3 := Lib.hid hx3
    have Hbr := Lib.hid hbr
    clear ho hx3 hbr
    have v00 := X0r.out.cell0
    have v01 := X0r.out.cell1
    have v02 := X0r.out.lt
    have v30 := X3.out.cell0
    have v31 := X3.out.cell1
    have v32 := X3.out.lt
    by_cases hjn : j < n
    · have hA : ∃ b o, A = some ⟨b, o, none⟩ ∧ b < B ∧ wr.cell? ⟨b, o + j, none⟩ = some (.int .i64 (cs.getD j 0)) := by
        rcases Hir.out.2 with h0 | ⟨b, o, hA, hbB, hc⟩
        · omega
        · exact ⟨b, o, hA, hbB, hc j hjn⟩
      obtain ⟨b, o, hA, hbB, hck⟩ := hA
      have HA := Lib.hid hA
      rw [hA] at v01
      clear hA
      obtain ⟨m1, m2⟩ := Bd.imgN_lt s k n j h1 h2 Hns.out hjn
      have hjs : (j : Int) < s * s := by omega
      have hcell : ∃ u, wr.cell? ⟨g, Bd.imgN s k j, none⟩ = some u := by
        have := World.ownsRow.cellAt Ho.out.2 (Bd.imgN s k j) (by omega)
        rw [this]
        exact ⟨_, List.getElem?_eq_getElem (by rw [List.length_map, Ho.out.1]; exact m1)⟩
      obtain ⟨u, hu⟩ := hcell
      have hf := World.ownsRow.frozenAt Ho.out.2 (Bd.imgN s k j)
      have hst : Own (wr.setCell ⟨g, Bd.imgN s k j, none⟩ (.int .i64 (cs.getD j 0))) (w.heap.size + 1 + 1) (some ⟨g, 0, none⟩) n c1 (Bd.steps (Bd.imgN s k) cs (j + 1) cs) := (Ho.out.stored (Bd.imgN s k j) (cs.getD j 0)).1
      obtain ⟨x, hx⟩ : ∃ x, cs.getD j 0 = x := ⟨_, rfl⟩
      obtain ⟨q, hq⟩ : ∃ q, Bd.imgN s k j = q := ⟨_, rfl⟩
      rw [hx] at hst hck
      rw [hq] at hst hu hf m1 m2
      have hqn : (q : Int) < n := by omega
      have hjn' : (j : Int) < n := by omega
      have Hst := Lib.hid hst
      have M2 := Lib.hid m2
      clear hx hq m2 hst
      go_wp2_with fail
      go_region_with (go_at_call 104; refine (s_transform s k j _ h1 h2 (by omega) hjs k1 k2).mono ?_; rintro e w9 ⟨rfl, rfl⟩; rw [← M2.out])
      all_goals go_wp2_with fail
      all_goals go_roundw
      all_goals try (simp [intOf]; omega)
      all_goals exact ⟨j + 1, by omega, by go_num, Own.drew Hst.out, X3.out.far (p := ⟨g, q, none⟩) (by show y.heap.size ≠ g; omega) (.int .i64 x), Below.drew (Hbr.out.setCell hg1 _)⟩
    · have hjn2 : j = n := by omega
      have hfin : Own wr (w.heap.size + 1 + 1) (some ⟨g, 0, none⟩) n c1 (Bd.mv s k cs) := by
        have := Ho.out
        rw [hjn2, ← Hl.out] at this
        rw [← Hl.out]
        exact this
      clear hjn2
      have ho2 := (hfin.far ⟨w.heap.size + 1, 0, none⟩ (fun g hA => by have := (hfin.ge hA).1; show g ≠ w.heap.size + 1; omega) (.int .i64 s)).far ⟨w.heap.size + 1, 1, none⟩ (fun g hA => by have := (hfin.ge hA).1; show g ≠ w.heap.size + 1; omega) (.slice (some ⟨g, 0, none⟩) n c1)
      have hb3 := (Hbw.out.setCell (p := ⟨w.heap.size + 1, 0, none⟩) (by show w.heap.size ≤ w.heap.size + 1; omega) (.int .i64 s)).setCell (p := ⟨w.heap.size + 1, 1, none⟩) (by show w.heap.size ≤ w.heap.size + 1; omega) (.slice (some ⟨g, 0, none⟩) n c1)
      have Ho2 := Lib.hid ho2
      have Hb3 := Lib.hid hb3
      have K0 := Lib.hid ((X1r.out.set0 s).cell0)
      have K1 := Lib.hid (((X1r.out.set0 s).set1 (.slice (some ⟨g, 0, none⟩) n c1)).cell1)
      have v10 := X1r.out.cell0
      have v11 := X1r.out.cell1
      have v12 := X1r.out.frozen 0
      have v13 := X1r.out.frozen 1
      have v14 := X1r.out.lt
      clear hfin ho2 hb3
      go_wp2_with fail
      have k0 := K0.out
      have k1 := K1.out
      refine bodyPost_ret (v := .agg #[.int .i64 s, .slice (some ⟨g, 0, none⟩) n c1]) (by simp [results, Try.results102, go_sem, k0, k1]) rfl ?_
      exact ⟨_, _, _, rfl, Ho2.out.weaken (by omega), Hb3.out⟩

end Go.Proofs.Ytpopbcmfbcmojaa

namespace Go.Proofs.Ytpopbcmfbcmojaa
set_option maxRecDepth 100000
open Go.RowKit

theorem okL_steps {f : Nat → Nat} {cs l : List Int} (hc : OkL cs) (hl : OkL l) (j : Nat) (hj : j ≤ cs.length) : OkL (Bd.steps f cs j l) := by
  induction j with
  | zero => exact hl
  | succ j ih =>
    have h1 := hc j (by omega)
    exact (ih (by omega)).set _ h1.1 h1.2
theorem okL_mv {s k : Int} {cs : List Int} (hc : OkL cs) : OkL (Bd.mv s k cs) := okL_steps hc hc _ (Nat.le_refl _)
theorem okL_oth {cs : List Int} (hc : OkL cs) : OkL (othCs cs) := by
  rw [okL_mem] at hc ⊢
  intro c hm
  unfold othCs at hm
  obtain ⟨x, hx, rfl⟩ := List.mem_map.1 hm
  have := hc x hx
  have h3 : x = 0 ∨ x = 1 ∨ x = 2 := by omega
  rcases h3 with rfl | rfl | rfl <;> decide
theorem okB_oth {s : Int} {cs : List Int} (h : Bd.okB s cs = true) : Bd.okB s (othCs cs) = true := by
  obtain ⟨a, b, c, d⟩ := (Bd.okB_iff s cs).1 h
  exact (Bd.okB_iff s _).2 ⟨a, b, by rw [othCs_len]; exact c, okL_mem.1 (okL_oth (okL_mem.2 d))⟩
theorem okB_mv {s k : Int} {cs : List Int} (h : Bd.okB s cs = true) : Bd.okB s (Bd.mv s k cs) = true := by
  obtain ⟨a, b, c, d⟩ := (Bd.okB_iff s cs).1 h
  exact (Bd.okB_iff s _).2 ⟨a, b, by rw [Bd.mv_len]; exact c, okL_mem.1 (okL_mv (okL_mem.2 d))⟩
theorem okB_new {s : Int} (h1 : 1 ≤ s) (h2 : s ≤ 7) : Bd.okB s (List.replicate (s * s).toNat 0) = true := by
  have := Pt.sq_bd s h1 h2
  exact (Bd.okB_iff s _).2 ⟨h1, h2, by rw [List.length_replicate]; omega, okL_mem.1 (okL_zero _)⟩

/-- The texts of the corners. -/
def Nine (w : World) (g : Nat) : Prop := ∀ j, j < 9 → ∃ S : ByteArray, w.cell? ⟨g, j, none⟩ = some (.string S) ∧ S.size ≤ 100

theorem r_corners (w : World) : Calls Try.prog 99 #[] w fun e w' => e = .returned (.slice (some ⟨w.heap.size, 0, none⟩) 9 9) ∧ Nine w' w.heap.size ∧ Below w.heap.size w w' := by
  go_enter Try.func99, Try.ntmps99
  go_wp2_with fail
  go_ret
  refine ⟨rfl, fun j hj => ?_, (Below.refl _ _).alloc (Nat.le_refl _) _⟩
  rw [World.cell?_alloc_at _ _ _ _ rfl]
  match j, hj with
  | 0, _ => exact ⟨_, rfl, by decide⟩
  | 1, _ => exact ⟨_, rfl, by decide⟩
  | 2, _ => exact ⟨_, rfl, by decide⟩
  | 3, _ => exact ⟨_, rfl, by decide⟩
  | 4, _ => exact ⟨_, rfl, by decide⟩
  | 5, _ => exact ⟨_, rfl, by decide⟩
  | 6, _ => exact ⟨_, rfl, by decide⟩
  | 7, _ => exact ⟨_, rfl, by decide⟩
  | 8, _ => exact ⟨_, rfl, by decide⟩

set_option maxRecDepth 100000 in
set_option maxHeartbeats 8000000 in
theorem r_random (B g q : Nat) (w : World) (h : Rdr w B g q) (hq : q ≤ 10000000000) :
    Calls Try.prog 87 #[.pointer (some ⟨g, 0, none⟩)] w fun e w' => DrawnB w B g w.heap.size (q + 200) e w' := by
  have hlt := h.lt
  have hb1 : Below w.heap.size w (w.alloc (.cells #[.int .i64 0, .slice none 0 0] 25)) := (Below.refl _ _).alloc (Nat.le_refl _) _
  have X2 := Lib.hid (Bx.new 25 w 0 (.slice none 0 0))
  have Hr := Lib.hid (h.below hb1 hlt)
  have Hb := Lib.hid hb1
  clear h hb1
  go_enter Try.func87, Try.ntmps87
  go_wp2_with fail
  refine (r_pick B g q _ _ Hr.out (by omega)).mono ?_
  rintro e y ⟨x0, rfl, k1, k2, hr, hg⟩
  have X2 := Lib.hid (X2.out.grown hg (fun e => by have := Option.some.inj e; omega))
  have Hg := Lib.hid (gtrans (gbelow (some g) Hb.out (Nat.le_refl _)) hg)
  have Hr := Lib.hid hr
  have z2 := X2.out.lt
  clear hr hg Hb
  by_cases h0 : x0 = 0
  · subst h0
    clear k1 k2
    go_wp2_with fail
    refine (r_smallSize B g (q + 1) _ Hr.out (by omega)).mono ?_
    rintro e y2 ⟨s, rfl, ⟨s1, s2⟩, hr, hg⟩
    have X2 := Lib.hid (X2.out.grown hg (fun e => by have := Option.some.inj e; omega))
    have Hg := Lib.hid (gtrans Hg.out hg)
    have Hr := Lib.hid hr
    have z3 := X2.out.lt
    have hsq := Pt.sq_bd s s1 s2
    clear hr hg
    go_wp2_with fail
    refine (s_new s _).mono ?_
    rintro e y3 ⟨A1, n, c1, rfl, ho, hb⟩
    have hs1 : newS s = s := by rw [newS, if_pos ((Pt.okS_iff s).2 ⟨s1, s2⟩)]
    have hc1 : newCs s = List.replicate (s * s).toNat 0 := by rw [newCs, if_pos ((Pt.okS_iff s).2 ⟨s1, s2⟩)]
    rw [hc1] at ho
    rw [hs1]
    have hn : (s * s).toNat = n := by have := ho.1; simpa using this
    rw [hn] at ho
    have Hn : Hid (((n : Nat) : Int) = s * s) := Lib.hid (by omega)
    have hn49 : n ≤ 49 := by omega
    have zz := hb.size
    have X2 := Lib.hid (X2.out.below hb X2.out.lt)
    have Ho := Lib.hid ho
    have Hr := Lib.hid (Hr.out.below hb Hr.out.lt)
    have Hg := Lib.hid (gtrans Hg.out (gbelow (some g) hb (Nat.le_refl _)))
    clear hb hs1 hc1 ho hn
    go_upto_region 4 with (fail)
    obtain ⟨y4, hy4, hb4, z4, z5⟩ := new_box y3 (.cells #[.int .i64 s, .slice A1 n c1] 25)
    have X3 : Hid (Bx 25 y4 y3.heap.size s (.slice A1 n c1)) := Lib.hid (by rw [hy4]; exact Bx.new _ _ _ _)
    rw [← hy4]
    clear hy4
    have X2 := Lib.hid (X2.out.below hb4 X2.out.lt)
    have Hr := Lib.hid (Hr.out.below hb4 Hr.out.lt)
    have Hra := Lib.hid (fun g' (hA : A1 = some ⟨g', 0, none⟩) => (Ho.out.ge hA).2)
    have Ho := Lib.hid (Ho.out.below hb4)
    have Hg := Lib.hid (gtrans Hg.out (gbelow (some g) hb4 (Nat.le_refl _)))
    clear hb4
    go_wp2_with fail
    go_loopw [4] (fun v wr => ∃ (p q1 : Nat) (cs : List Int), p ≤ n ∧ v = .int .i64 (p : Nat) ∧ q1 = q + 2 + p ∧ Own wr y2.heap.size A1 n c1 cs ∧ OkL cs ∧ Bx 25 wr w.heap.size 0 (.slice none 0 0) ∧ Bx 25 wr y3.heap.size s (.slice A1 n c1) ∧ Rdr wr B g q1 ∧ w.grownBy wr (some g)) (fun v _ => n - (intOf v).toNat)
    case atStart => exact ⟨0, q + 2, _, by omega, rfl, rfl, Ho.out, okL_zero n, X2.out, X3.out, Hr.out, Hg.out⟩
    case round =>
      clear X2 X3 Ho Hr Hg
      obtain ⟨p, q1, cs, hp, rfl, hq1, ho, hok, hx2, hx3, hr, hg⟩ := hrel
      have X2 := Lib.hid hx2
      have X3 := Lib.hid hx3
      have Ho := Lib.hid ho
      have Hok := Lib.hid hok
      have Hr := Lib.hid hr
      have Hg := Lib.hid hg
      have hq2 : q1 ≤ q + 60 := by omega
      have Hq1 := Lib.hid hq1
      clear ho hok hx2 hx3 hr hg hq1
      have t0 := X3.out.cell0
      have t1 := X3.out.cell1
      have t2 := X3.out.lt
      by_cases hpn : p < n
      · obtain ⟨ga, hA1⟩ : ∃ ga, A1 = some ⟨ga, 0, none⟩ := by
          obtain ⟨ga, cap, hv, _⟩ := World.ownsRow.form Ho.out.2 (by omega)
          exact ⟨ga, by injection hv⟩
        subst hA1
        have hga1 := (Ho.out.ge rfl).1
        have hga2 := Hra.out ga rfl
        have hpi : (p : Int) < n := by omega
        go_wp2_with fail
        go_region_with (go_at_call 68; refine (r_pick B g q1 _ _ (by exact Hr.out) (by omega)).mono ?_; rintro e yp ⟨x, rfl, x1, x2, hr, hg⟩; have hgw : wr.grownBy yp (some g) := ⟨hg.os, hg.tape, hg.output, hg.size, hg.block⟩; have zp := hgw.size; have HX3 := Lib.hid (X3.out.grown hgw (fun e => by have := Option.some.inj e; omega)); have HX2 := Lib.hid (X2.out.grown hgw (fun e => by have := Option.some.inj e; omega)); have u0 := HX3.out.cell0; have u1 := HX3.out.cell1; have u2 := HX3.out.lt; have HO := Lib.hid (Ho.out.kept hgw (fun g' hA e => by have := (Ho.out.ge hA).1; have := Option.some.inj e; omega)); have u3 := World.ownsRow.cellAt HO.out.2 p (by omega); rw [List.getElem?_eq_getElem (by rw [List.length_map, HO.out.1]; exact hpn)] at u3; have u4 := World.ownsRow.frozenAt HO.out.2 p; have HR := Lib.hid hr; have HG := Lib.hid (gtrans Hg.out hgw); clear hr hg hgw)
        all_goals go_wp2_with fail
        all_goals go_roundw
        all_goals try (simp [intOf]; omega)
        all_goals
          have hr3 := HR.out.far ⟨ga, p, none⟩ (by show g ≠ ga; omega) (by have := HR.out.1; show B ≤ ga; omega) (.int .i64 x)
          have hg3 := gset HG.out ⟨ga, p, none⟩ (by show w.heap.size ≤ ga; omega) (.int .i64 x)
          exact ⟨p + 1, q1 + 1, _, by omega, by go_num, by have := Hq1.out; omega, (HO.out.stored p x).1, Hok.out.set p x1 (by omega), HX2.out.far (p := ⟨ga, p, none⟩) (by show w.heap.size ≠ ga; omega) _, HX3.out.far (p := ⟨ga, p, none⟩) (by show y3.heap.size ≠ ga; omega) _, hr3, hg3⟩
      · obtain rfl : p = n := by omega
        have Hv := Lib.hid (okB_mk s1 s2 (by rw [Ho.out.1]; exact Hn.out) Hok.out)
        have K0 := Lib.hid ((X2.out.set0 s).cell0)
        have K1 := Lib.hid (((X2.out.set0 s).set1 (.slice A1 p c1)).cell1)
        have r0 := X2.out.cell0
        have r1 := X2.out.cell1
        have r2 := X2.out.frozen 0
        have r3 := X2.out.frozen 1
        have r4 := X2.out.lt
        have hBg := Hr.out.1
        have Hr3 := Lib.hid ((Hr.out.far ⟨w.heap.size, 0, none⟩ (by show g ≠ w.heap.size; omega) (by show B ≤ w.heap.size; omega) (.int .i64 s)).far ⟨w.heap.size, 1, none⟩ (by show g ≠ w.heap.size; omega) (by show B ≤ w.heap.size; omega) (.slice A1 p c1))
        have Hg3 := Lib.hid (gset (gset Hg.out ⟨w.heap.size, 0, none⟩ (Nat.le_refl _) (.int .i64 s)) ⟨w.heap.size, 1, none⟩ (Nat.le_refl _) (.slice A1 p c1))
        have Ho3 := Lib.hid ((Ho.out.far ⟨w.heap.size, 0, none⟩ (fun g' hA => by have := (Ho.out.ge hA).1; show g' ≠ w.heap.size; omega) (.int .i64 s)).far ⟨w.heap.size, 1, none⟩ (fun g' hA => by have := (Ho.out.ge hA).1; show g' ≠ w.heap.size; omega) (.slice A1 p c1))
        go_wp2_with fail
        have k0 := K0.out
        have k1 := K1.out
        refine bodyPost_ret (v := .agg #[.int .i64 s, .slice A1 p c1]) (by simp [results, Try.results87, go_sem, k0, k1]) rfl ?_
        exact ⟨_, _, _, _, _, _, rfl, Ho3.out.weaken (by omega), Hv.out, Hr3.out, by omega, Hg3.out⟩
  · have e0 : (x0 == 0) = false := by simpa using h0
    by_cases h1 : x0 = 1
    · subst h1
      clear k1 k2 h0 e0
      go_wp2_with fail
      refine (r_corners _).mono ?_
      rintro e y2 ⟨rfl, hN, hb⟩
      have X2 := Lib.hid (X2.out.below hb X2.out.lt)
      have Hg := Lib.hid (gtrans Hg.out (gbelow (some g) hb (Nat.le_refl _)))
      have Hrl := Hr.out.lt
      have Hr := Lib.hid (Hr.out.below hb Hr.out.lt)
      have HN := Lib.hid hN
      have z3 := hb.size
      clear hN hb
      have zy : y.heap.size < y2.heap.size := by
        obtain ⟨S, h1, _⟩ := HN.out 0 (by omega)
        exact World.block_lt_of_cell? _ _ h1
      go_wp2_with fail
      refine (r_pick B g (q + 1) _ _ Hr.out (by omega)).mono ?_
      rintro e y3 ⟨j, rfl, j1, j2, hr, hg⟩
      obtain ⟨j, rfl⟩ := Int.eq_ofNat_of_zero_le j1
      have hj9 : j < 9 := by omega
      obtain ⟨S, hS1, hS2⟩ := HN.out j hj9
      have hc := (World.cell?_of_block (w' := y3) (w := y2) (a := ⟨y.heap.size, j, none⟩) (hg.block y.heap.size zy (by intro e; have := Option.some.inj e; omega))).trans hS1
      have X2 := Lib.hid (X2.out.grown hg (fun e => by have := Option.some.inj e; omega))
      have Hg := Lib.hid (gtrans Hg.out hg)
      have Hr := Lib.hid hr
      have z4 := hg.size
      have hj9' : (j : Int) < 9 := by omega
      clear hr hg hS1 HN j2
      go_wp2_with fail
      refine (s_ParseBoard S _ (by omega)).mono ?_
      rintro e y4 ⟨s', A, n, c, cs, ok, rfl, hwhat, hb⟩
      have X2 := Lib.hid (X2.out.below hb X2.out.lt)
      have Hg := Lib.hid (gtrans Hg.out (gbelow (some g) hb (Nat.le_refl _)))
      have Hr := Lib.hid (Hr.out.below hb Hr.out.lt)
      have Hwhat := Lib.hid hwhat
      have z5 := hb.size
      clear hwhat hb hc
      go_upto_region 13 with (fail)
      obtain ⟨y5, hy5, hb5, z6, z7⟩ := new_box y4 (.cells #[.int .i64 s', .slice A n c] 25)
      have X6 : Hid (Bx 25 y5 y4.heap.size s' (.slice A n c)) := Lib.hid (by rw [hy5]; exact Bx.new _ _ _ _)
      rw [← hy5]
      clear hy5
      have X2 := Lib.hid (X2.out.below hb5 X2.out.lt)
      have Hr := Lib.hid (Hr.out.below hb5 Hr.out.lt)
      have Hg := Lib.hid (gtrans Hg.out (gbelow (some g) hb5 (Nat.le_refl _)))
      cases ok with
      | false =>
        clear hb5 Hwhat
        go_wp2_with fail
        refine (s_new 3 _).mono ?_
        rintro e y6 ⟨A6, n6, c6, rfl, ho, hb⟩
        have hs1 : newS 3 = 3 := rfl
        have hc1 : newCs 3 = List.replicate (3 * 3 : Int).toNat 0 := rfl
        rw [hc1] at ho
        rw [hs1]
        have X2 := Lib.hid (X2.out.below hb X2.out.lt)
        have Hg := Lib.hid (gtrans Hg.out (gbelow (some g) hb (Nat.le_refl _)))
        have Hr := Lib.hid (Hr.out.below hb Hr.out.lt)
        have Ho := Lib.hid ho
        clear ho hb hs1 hc1
        have K0 := Lib.hid ((X2.out.set0 3).cell0)
        have K1 := Lib.hid (((X2.out.set0 3).set1 (.slice A6 n6 c6)).cell1)
        have r0 := X2.out.cell0
        have r1 := X2.out.cell1
        have r2 := X2.out.frozen 0
        have r3 := X2.out.frozen 1
        have r4 := X2.out.lt
        have hBg := Hr.out.1
        have Hr3 := Lib.hid ((Hr.out.far ⟨w.heap.size, 0, none⟩ (by show g ≠ w.heap.size; omega) (by show B ≤ w.heap.size; omega) (.int .i64 3)).far ⟨w.heap.size, 1, none⟩ (by show g ≠ w.heap.size; omega) (by show B ≤ w.heap.size; omega) (.slice A6 n6 c6))
        have Hg3 := Lib.hid (gset (gset Hg.out ⟨w.heap.size, 0, none⟩ (Nat.le_refl _) (.int .i64 3)) ⟨w.heap.size, 1, none⟩ (Nat.le_refl _) (.slice A6 n6 c6))
        have Ho3 := Lib.hid ((Ho.out.far ⟨w.heap.size, 0, none⟩ (fun g' hA => by have := (Ho.out.ge hA).1; show g' ≠ w.heap.size; omega) (.int .i64 3)).far ⟨w.heap.size, 1, none⟩ (fun g' hA => by have := (Ho.out.ge hA).1; show g' ≠ w.heap.size; omega) (.slice A6 n6 c6))
        go_wp2_with fail
        have k0 := K0.out
        have k1 := K1.out
        refine bodyPost_ret (v := .agg #[.int .i64 3, .slice A6 n6 c6]) (by simp [results, Try.results87, go_sem, k0, k1]) rfl ?_
        exact ⟨_, _, _, _, _, _, rfl, Ho3.out.weaken (by omega), okB_new (by omega) (by omega), Hr3.out, by omega, Hg3.out⟩
      | true =>
        obtain ⟨ho, hv, _⟩ := Hwhat.out rfl
        have Ho := Lib.hid (ho.below hb5)
        have Hv := Lib.hid hv
        have Hra := Lib.hid (fun g' (hA : A = some ⟨g', 0, none⟩) => (ho.ge hA).2)
        clear Hwhat ho hv hb5
        go_wp2_with fail
        refine (r_pick B g (q + 2) _ _ Hr.out (by omega)).mono ?_
        rintro e y7 ⟨f, rfl, f1, f2, hr, hg⟩
        have X2 := Lib.hid (X2.out.grown hg (fun e => by have := Option.some.inj e; omega))
        have X6 := Lib.hid (X6.out.grown hg (fun e => by have := Option.some.inj e; omega))
        have Ho := Lib.hid (Ho.out.kept hg (fun g' hA e => by have := (Ho.out.ge hA).1; have := Option.some.inj e; omega))
        have Hg := Lib.hid (gtrans Hg.out hg)
        have Hr := Lib.hid hr
        have z8 := hg.size
        clear hr hg f2
        by_cases hf : f = 0
        · have hbf : (f == 0) = true := by simpa using hf
          clear hf
          have t0 := X6.out.cell0
          have t1 := X6.out.cell1
          have t2 := X6.out.lt
          go_wp2_with fail
          refine (s_invertBoard s' _ _ _ n c cs Ho.out.ints (Nat.le_refl _) (by have := Ho.out.1; obtain ⟨a1, a2, a3, _⟩ := (Bd.okB_iff s' cs).1 Hv.out; have := Pt.sq_bd s' a1 a2; omega) ((Bd.okB_iff s' cs).1 Hv.out).2.2.2).mono ?_
          rintro e y8 ⟨A8, n8, c8, rfl, ho8, hb⟩
          have X2 := Lib.hid (X2.out.below hb X2.out.lt)
          have X6 := Lib.hid (X6.out.below hb X6.out.lt)
          have Hg := Lib.hid (gtrans Hg.out (gbelow (some g) hb (Nat.le_refl _)))
          have Hr := Lib.hid (Hr.out.below hb Hr.out.lt)
          have Ho8 := Lib.hid ho8
          have Hv8 := Lib.hid (okB_oth Hv.out)
          have z9 := hb.size
          clear ho8 hb t0 t1 t2
          have t0 := X6.out.cell0
          have t1 := X6.out.cell1
          have t2 := X6.out.lt
          have t3 := X6.out.frozen 0
          have t4 := X6.out.frozen 1
          go_upto_region 17 with (fail)
          obtain ⟨y9, hy9⟩ : ∃ y9, y9 = (y8.setCell ⟨y4.heap.size, 0, none⟩ (.int .i64 s')).setCell ⟨y4.heap.size, 1, none⟩ (.slice A8 n8 c8) := ⟨_, rfl⟩
          have es : y9.heap.size = y8.heap.size := by rw [hy9]; simp [World.setCell]
          have hBg := Hr.out.1
          have hgl := Hr.out.lt
          have X2 : Hid (Bx 25 y9 w.heap.size 0 (.slice none 0 0)) := Lib.hid (by rw [hy9]; exact (X2.out.far (p := ⟨y4.heap.size, 0, none⟩) (by show w.heap.size ≠ y4.heap.size; omega) (.int .i64 s')).far (p := ⟨y4.heap.size, 1, none⟩) (by show w.heap.size ≠ y4.heap.size; omega) (.slice A8 n8 c8))
          have X6 : Hid (Bx 25 y9 y4.heap.size s' (.slice A8 n8 c8)) := Lib.hid (by rw [hy9]; exact (X6.out.set0 s').set1 (.slice A8 n8 c8))
          have Ho8 : Hid (Own y9 y7.heap.size A8 n8 c8 (othCs cs)) := Lib.hid (by rw [hy9]; exact (Ho8.out.far ⟨y4.heap.size, 0, none⟩ (fun g' hA => by have := (Ho8.out.ge hA).1; show g' ≠ y4.heap.size; omega) (.int .i64 s')).far ⟨y4.heap.size, 1, none⟩ (fun g' hA => by have := (Ho8.out.ge hA).1; show g' ≠ y4.heap.size; omega) (.slice A8 n8 c8))
          have Hr : Hid (Rdr y9 B g (q + 2 + 1)) := Lib.hid (by rw [hy9]; exact (Hr.out.far ⟨y4.heap.size, 0, none⟩ (by show g ≠ y4.heap.size; omega) (by show B ≤ y4.heap.size; omega) (.int .i64 s')).far ⟨y4.heap.size, 1, none⟩ (by show g ≠ y4.heap.size; omega) (by show B ≤ y4.heap.size; omega) (.slice A8 n8 c8))
          have Hg : Hid (w.grownBy y9 (some g)) := Lib.hid (by rw [hy9]; exact gset (gset Hg.out ⟨y4.heap.size, 0, none⟩ (by show w.heap.size ≤ y4.heap.size; omega) (.int .i64 s')) ⟨y4.heap.size, 1, none⟩ (by show w.heap.size ≤ y4.heap.size; omega) (.slice A8 n8 c8))
          rw [← hy9]
          clear hy9 t0 t1 t2 t3 t4
          obtain ⟨v1, v2, v3, v4⟩ := (Bd.okB_iff s' (othCs cs)).1 Hv8.out
          have hlcs := Ho8.out.1
          have Hns : Hid (((n8 : Nat) : Int) = s' * s') := Lib.hid (by rw [← v3, hlcs])
          clear v3 v4 hlcs
          have t0 := X6.out.cell0
          have t1 := X6.out.cell1
          have t2 := X6.out.lt
          go_upto_region 17 with (fail)
          go_region_with (first | (go_at_call 68; refine (r_pick B g (q + 2 + 1) _ _ (by exact Hr.out) (by omega)).mono ?_; rintro e yp ⟨kk, rfl, kk1, kk2, hr, hg⟩; have hgw : y9.grownBy yp (some g) := ⟨hg.os, hg.tape, hg.output, hg.size, hg.block⟩; have zp := hgw.size; have HX6 := Lib.hid (X6.out.grown hgw (fun e => by have := Option.some.inj e; omega)); have HX2 := Lib.hid (X2.out.grown hgw (fun e => by have := Option.some.inj e; omega)); have u0 := HX6.out.cell0; have u1 := HX6.out.cell1; have u2 := HX6.out.lt; have HO := Lib.hid (Ho8.out.kept hgw (fun g' hA e => by have := (Ho8.out.ge hA).1; have := Option.some.inj e; omega)); have HR := Lib.hid hr; have HG := Lib.hid (gtrans Hg.out hgw); have kk3 : kk < 8 := (by omega); clear hr hg hgw kk2) | (go_at_call 102; refine (s_transformBoard s' kk _ yp.heap.size _ _ _ (othCs cs) (by exact HO.out.ints) ?_ v1 v2 Hns.out kk1 kk3).mono ?_; (show yp.heap.size ≤ yp.heap.size; omega); rintro e yt ⟨A3, n3, c3, rfl, ho, hb⟩; have hbw : Below yp.heap.size yp yt := ⟨hb.os, hb.tape, hb.output, hb.size, hb.block⟩; have HX2t := Lib.hid (HX2.out.below hbw HX2.out.lt); have u3 := (HX6.out.below hbw HX6.out.lt).cell0; have u4 := (HX6.out.below hbw HX6.out.lt).cell1; have r0 := HX2t.out.cell0; have r1 := HX2t.out.cell1; have r2 := HX2t.out.frozen 0; have r3 := HX2t.out.frozen 1; have r4 := HX2t.out.lt; have HO3 : Hid (Own yt yp.heap.size A3 n3 c3 (Bd.mv s' kk (othCs cs))) := Lib.hid ho; have HRt := Lib.hid (HR.out.below hbw HR.out.lt); have HGt := Lib.hid (gtrans HG.out (gbelow (some g) hbw (Nat.le_refl _))); clear ho hb hbw))
          all_goals go_wp2_with fail
          all_goals
            have k0 := (HX2t.out.set0 s').cell0
            have k1 := ((HX2t.out.set0 s').set1 (.slice A3 n3 c3)).cell1
            refine bodyPost_ret (v := .agg #[.int .i64 s', .slice A3 n3 c3]) (by simp [results, Try.results87, go_sem, k0, k1]) rfl ?_
            have hBg := HRt.out.1
            have hr3 := (HRt.out.far ⟨w.heap.size, 0, none⟩ (by show g ≠ w.heap.size; omega) (by show B ≤ w.heap.size; omega) (.int .i64 s')).far ⟨w.heap.size, 1, none⟩ (by show g ≠ w.heap.size; omega) (by show B ≤ w.heap.size; omega) (.slice A3 n3 c3)
            have hg3 := gset (gset HGt.out ⟨w.heap.size, 0, none⟩ (Nat.le_refl _) (.int .i64 s')) ⟨w.heap.size, 1, none⟩ (Nat.le_refl _) (.slice A3 n3 c3)
            have ho3 := (HO3.out.far ⟨w.heap.size, 0, none⟩ (fun g' hA => by have := (HO3.out.ge hA).1; show g' ≠ w.heap.size; omega) (.int .i64 s')).far ⟨w.heap.size, 1, none⟩ (fun g' hA => by have := (HO3.out.ge hA).1; show g' ≠ w.heap.size; omega) (.slice A3 n3 c3)
            exact ⟨_, _, _, _, _, _, rfl, ho3.weaken (by omega), okB_mv Hv8.out, hr3, by omega, hg3⟩
        · have hbf : (f == 0) = false := by simpa using hf
          clear hf
          obtain ⟨v1, v2, v3, v4⟩ := (Bd.okB_iff s' cs).1 Hv.out
          have hlcs := Ho.out.1
          have Hns : Hid (((n : Nat) : Int) = s' * s') := Lib.hid (by rw [← v3, hlcs])
          clear v3 v4 hlcs
          have t0 := X6.out.cell0
          have t1 := X6.out.cell1
          have t2 := X6.out.lt
          go_upto_region 17 with (fail)
          go_region_with (first | (go_at_call 68; refine (r_pick B g (q + 2 + 1) _ _ (by exact Hr.out) (by omega)).mono ?_; rintro e yp ⟨kk, rfl, kk1, kk2, hr, hg⟩; have hgw : y7.grownBy yp (some g) := ⟨hg.os, hg.tape, hg.output, hg.size, hg.block⟩; have zp := hgw.size; have HX6 := Lib.hid (X6.out.grown hgw (fun e => by have := Option.some.inj e; omega)); have HX2 := Lib.hid (X2.out.grown hgw (fun e => by have := Option.some.inj e; omega)); have u0 := HX6.out.cell0; have u1 := HX6.out.cell1; have u2 := HX6.out.lt; have HO := Lib.hid (Ho.out.kept hgw (fun g' hA e => by have := (Ho.out.ge hA).1; have := Option.some.inj e; omega)); have HR := Lib.hid hr; have HG := Lib.hid (gtrans Hg.out hgw); have kk3 : kk < 8 := (by omega); clear hr hg hgw kk2) | (go_at_call 102; refine (s_transformBoard s' kk _ yp.heap.size _ _ _ cs (by exact HO.out.ints) ?_ v1 v2 Hns.out kk1 kk3).mono ?_; (show yp.heap.size ≤ yp.heap.size; omega); rintro e yt ⟨A3, n3, c3, rfl, ho, hb⟩; have hbw : Below yp.heap.size yp yt := ⟨hb.os, hb.tape, hb.output, hb.size, hb.block⟩; have HX2t := Lib.hid (HX2.out.below hbw HX2.out.lt); have u3 := (HX6.out.below hbw HX6.out.lt).cell0; have u4 := (HX6.out.below hbw HX6.out.lt).cell1; have r0 := HX2t.out.cell0; have r1 := HX2t.out.cell1; have r2 := HX2t.out.frozen 0; have r3 := HX2t.out.frozen 1; have r4 := HX2t.out.lt; have HO3 : Hid (Own yt yp.heap.size A3 n3 c3 (Bd.mv s' kk cs)) := Lib.hid ho; have HRt := Lib.hid (HR.out.below hbw HR.out.lt); have HGt := Lib.hid (gtrans HG.out (gbelow (some g) hbw (Nat.le_refl _))); clear ho hb hbw))
          all_goals go_wp2_with fail
          all_goals
            have k0 := (HX2t.out.set0 s').cell0
            have k1 := ((HX2t.out.set0 s').set1 (.slice A3 n3 c3)).cell1
            refine bodyPost_ret (v := .agg #[.int .i64 s', .slice A3 n3 c3]) (by simp [results, Try.results87, go_sem, k0, k1]) rfl ?_
            have hBg := HRt.out.1
            have hr3 := (HRt.out.far ⟨w.heap.size, 0, none⟩ (by show g ≠ w.heap.size; omega) (by show B ≤ w.heap.size; omega) (.int .i64 s')).far ⟨w.heap.size, 1, none⟩ (by show g ≠ w.heap.size; omega) (by show B ≤ w.heap.size; omega) (.slice A3 n3 c3)
            have hg3 := gset (gset HGt.out ⟨w.heap.size, 0, none⟩ (Nat.le_refl _) (.int .i64 s')) ⟨w.heap.size, 1, none⟩ (Nat.le_refl _) (.slice A3 n3 c3)
            have ho3 := (HO3.out.far ⟨w.heap.size, 0, none⟩ (fun g' hA => by have := (HO3.out.ge hA).1; show g' ≠ w.heap.size; omega) (.int .i64 s')).far ⟨w.heap.size, 1, none⟩ (fun g' hA => by have := (HO3.out.ge hA).1; show g' ≠ w.heap.size; omega) (.slice A3 n3 c3)
            exact ⟨_, _, _, _, _, _, rfl, ho3.weaken (by omega), okB_mv Hv.out, hr3, by omega, hg3⟩
    · have e1 : (x0 == 1) = false := by simpa using h1
      by_cases h2 : x0 = 2
      · subst h2
        clear k1 k2 h0 h1 e0 e1
        go_wp2_with fail
        refine (r_corners _).mono ?_
        rintro e y2 ⟨rfl, hN, hb⟩
        have X2 := Lib.hid (X2.out.below hb X2.out.lt)
        have Hg := Lib.hid (gtrans Hg.out (gbelow (some g) hb (Nat.le_refl _)))
        have Hrl := Hr.out.lt
        have Hr := Lib.hid (Hr.out.below hb Hr.out.lt)
        have HN := Lib.hid hN
        have z3 := hb.size
        clear hN hb
        have zy : y.heap.size < y2.heap.size := by
          obtain ⟨S, h1, _⟩ := HN.out 0 (by omega)
          exact World.block_lt_of_cell? _ _ h1
        go_wp2_with fail
        refine (r_pick B g (q + 1) _ _ Hr.out (by omega)).mono ?_
        rintro e y3 ⟨j, rfl, j1, j2, hr, hg⟩
        obtain ⟨j, rfl⟩ := Int.eq_ofNat_of_zero_le j1
        have hj9 : j < 9 := by omega
        obtain ⟨S, hS1, hS2⟩ := HN.out j hj9
        have hc := (World.cell?_of_block (w' := y3) (w := y2) (a := ⟨y.heap.size, j, none⟩) (hg.block y.heap.size zy (by intro e; have := Option.some.inj e; omega))).trans hS1
        have X2 := Lib.hid (X2.out.grown hg (fun e => by have := Option.some.inj e; omega))
        have Hg := Lib.hid (gtrans Hg.out hg)
        have Hr := Lib.hid hr
        have z4 := hg.size
        have hj9' : (j : Int) < 9 := by omega
        clear hr hg hS1 HN j2
        go_wp2_with fail
        refine (s_ParseBoard S _ (by omega)).mono ?_
        rintro e y4 ⟨s', A, n, c, cs, ok, rfl, hwhat, hb⟩
        have X2 := Lib.hid (X2.out.below hb X2.out.lt)
        have Hg := Lib.hid (gtrans Hg.out (gbelow (some g) hb (Nat.le_refl _)))
        have Hr := Lib.hid (Hr.out.below hb Hr.out.lt)
        have Hwhat := Lib.hid hwhat
        have z5 := hb.size
        clear hwhat hb hc
        go_upto_region 13 with (fail)
        obtain ⟨y5, hy5, hb5, z6, z7⟩ := new_box y4 (.cells #[.int .i64 s', .slice A n c] 25)
        have X6 : Hid (Bx 25 y5 y4.heap.size s' (.slice A n c)) := Lib.hid (by rw [hy5]; exact Bx.new _ _ _ _)
        rw [← hy5]
        clear hy5
        have X2 := Lib.hid (X2.out.below hb5 X2.out.lt)
        have Hr := Lib.hid (Hr.out.below hb5 Hr.out.lt)
        have Hg := Lib.hid (gtrans Hg.out (gbelow (some g) hb5 (Nat.le_refl _)))
        cases ok with
        | false =>
          clear hb5 Hwhat
          go_wp2_with fail
          refine (s_new 3 _).mono ?_
          rintro e y6 ⟨A6, n6, c6, rfl, ho, hb⟩
          have hs1 : newS 3 = 3 := rfl
          have hc1 : newCs 3 = List.replicate (3 * 3 : Int).toNat 0 := rfl
          rw [hc1] at ho
          rw [hs1]
          have X2 := Lib.hid (X2.out.below hb X2.out.lt)
          have Hg := Lib.hid (gtrans Hg.out (gbelow (some g) hb (Nat.le_refl _)))
          have Hr := Lib.hid (Hr.out.below hb Hr.out.lt)
          have Ho := Lib.hid ho
          clear ho hb hs1 hc1
          have K0 := Lib.hid ((X2.out.set0 3).cell0)
          have K1 := Lib.hid (((X2.out.set0 3).set1 (.slice A6 n6 c6)).cell1)
          have r0 := X2.out.cell0
          have r1 := X2.out.cell1
          have r2 := X2.out.frozen 0
          have r3 := X2.out.frozen 1
          have r4 := X2.out.lt
          have hBg := Hr.out.1
          have Hr3 := Lib.hid ((Hr.out.far ⟨w.heap.size, 0, none⟩ (by show g ≠ w.heap.size; omega) (by show B ≤ w.heap.size; omega) (.int .i64 3)).far ⟨w.heap.size, 1, none⟩ (by show g ≠ w.heap.size; omega) (by show B ≤ w.heap.size; omega) (.slice A6 n6 c6))
          have Hg3 := Lib.hid (gset (gset Hg.out ⟨w.heap.size, 0, none⟩ (Nat.le_refl _) (.int .i64 3)) ⟨w.heap.size, 1, none⟩ (Nat.le_refl _) (.slice A6 n6 c6))
          have Ho3 := Lib.hid ((Ho.out.far ⟨w.heap.size, 0, none⟩ (fun g' hA => by have := (Ho.out.ge hA).1; show g' ≠ w.heap.size; omega) (.int .i64 3)).far ⟨w.heap.size, 1, none⟩ (fun g' hA => by have := (Ho.out.ge hA).1; show g' ≠ w.heap.size; omega) (.slice A6 n6 c6))
          go_wp2_with fail
          have k0 := K0.out
          have k1 := K1.out
          refine bodyPost_ret (v := .agg #[.int .i64 3, .slice A6 n6 c6]) (by simp [results, Try.results87, go_sem, k0, k1]) rfl ?_
          exact ⟨_, _, _, _, _, _, rfl, Ho3.out.weaken (by omega), okB_new (by omega) (by omega), Hr3.out, by omega, Hg3.out⟩
        | true =>
          obtain ⟨ho, hv, _⟩ := Hwhat.out rfl
          have Ho := Lib.hid (ho.below hb5)
          have Hv := Lib.hid hv
          have Hra := Lib.hid (fun g' (hA : A = some ⟨g', 0, none⟩) => (ho.ge hA).2)
          clear Hwhat ho hv hb5
          go_wp2_with fail
          refine (r_pick B g (q + 2) _ _ Hr.out (by omega)).mono ?_
          rintro e y7 ⟨f, rfl, f1, f2, hr, hg⟩
          have X2 := Lib.hid (X2.out.grown hg (fun e => by have := Option.some.inj e; omega))
          have X6 := Lib.hid (X6.out.grown hg (fun e => by have := Option.some.inj e; omega))
          have Ho := Lib.hid (Ho.out.kept hg (fun g' hA e => by have := (Ho.out.ge hA).1; have := Option.some.inj e; omega))
          have Hg := Lib.hid (gtrans Hg.out hg)
          have Hr := Lib.hid hr
          have z8 := hg.size
          clear hr hg f2
          by_cases hf : f = 0
          · have hbf : (f == 0) = true := by simpa using hf
            clear hf
            have t0 := X6.out.cell0
            have t1 := X6.out.cell1
            have t2 := X6.out.lt
            go_wp2_with fail
            refine (s_invertBoard s' _ _ _ n c cs Ho.out.ints (Nat.le_refl _) (by have := Ho.out.1; obtain ⟨a1, a2, a3, _⟩ := (Bd.okB_iff s' cs).1 Hv.out; have := Pt.sq_bd s' a1 a2; omega) ((Bd.okB_iff s' cs).1 Hv.out).2.2.2).mono ?_
            rintro e y8 ⟨A8, n8, c8, rfl, ho8, hb⟩
            have X2 := Lib.hid (X2.out.below hb X2.out.lt)
            have X6 := Lib.hid (X6.out.below hb X6.out.lt)
            have Hg := Lib.hid (gtrans Hg.out (gbelow (some g) hb (Nat.le_refl _)))
            have Hr := Lib.hid (Hr.out.below hb Hr.out.lt)
            have Ho8 := Lib.hid ho8
            have Hv8 := Lib.hid (okB_oth Hv.out)
            have z9 := hb.size
            clear ho8 hb t0 t1 t2
            have t0 := X6.out.cell0
            have t1 := X6.out.cell1
            have t2 := X6.out.lt
            have t3 := X6.out.frozen 0
            have t4 := X6.out.frozen 1
            go_upto_region 17 with (fail)
            obtain ⟨y9, hy9⟩ : ∃ y9, y9 = (y8.setCell ⟨y4.heap.size, 0, none⟩ (.int .i64 s')).setCell ⟨y4.heap.size, 1, none⟩ (.slice A8 n8 c8) := ⟨_, rfl⟩
            have es : y9.heap.size = y8.heap.size := by rw [hy9]; simp [World.setCell]
            have hBg := Hr.out.1
            have hgl := Hr.out.lt
            have X2 : Hid (Bx 25 y9 w.heap.size 0 (.slice none 0 0)) := Lib.hid (by rw [hy9]; exact (X2.out.far (p := ⟨y4.heap.size, 0, none⟩) (by show w.heap.size ≠ y4.heap.size; omega) (.int .i64 s')).far (p := ⟨y4.heap.size, 1, none⟩) (by show w.heap.size ≠ y4.heap.size; omega) (.slice A8 n8 c8))
            have X6 : Hid (Bx 25 y9 y4.heap.size s' (.slice A8 n8 c8)) := Lib.hid (by rw [hy9]; exact (X6.out.set0 s').set1 (.slice A8 n8 c8))
            have Ho8 : Hid (Own y9 y7.heap.size A8 n8 c8 (othCs cs)) := Lib.hid (by rw [hy9]; exact (Ho8.out.far ⟨y4.heap.size, 0, none⟩ (fun g' hA => by have := (Ho8.out.ge hA).1; show g' ≠ y4.heap.size; omega) (.int .i64 s')).far ⟨y4.heap.size, 1, none⟩ (fun g' hA => by have := (Ho8.out.ge hA).1; show g' ≠ y4.heap.size; omega) (.slice A8 n8 c8))
            have Hr : Hid (Rdr y9 B g (q + 2 + 1)) := Lib.hid (by rw [hy9]; exact (Hr.out.far ⟨y4.heap.size, 0, none⟩ (by show g ≠ y4.heap.size; omega) (by show B ≤ y4.heap.size; omega) (.int .i64 s')).far ⟨y4.heap.size, 1, none⟩ (by show g ≠ y4.heap.size; omega) (by show B ≤ y4.heap.size; omega) (.slice A8 n8 c8))
            have Hg : Hid (w.grownBy y9 (some g)) := Lib.hid (by rw [hy9]; exact gset (gset Hg.out ⟨y4.heap.size, 0, none⟩ (by show w.heap.size ≤ y4.heap.size; omega) (.int .i64 s')) ⟨y4.heap.size, 1, none⟩ (by show w.heap.size ≤ y4.heap.size; omega) (.slice A8 n8 c8))
            rw [← hy9]
            clear hy9 t0 t1 t2 t3 t4
            obtain ⟨v1, v2, v3, v4⟩ := (Bd.okB_iff s' (othCs cs)).1 Hv8.out
            have hlcs := Ho8.out.1
            have Hns : Hid (((n8 : Nat) : Int) = s' * s') := Lib.hid (by rw [← v3, hlcs])
            clear v3 v4 hlcs
            have t0 := X6.out.cell0
            have t1 := X6.out.cell1
            have t2 := X6.out.lt
            go_upto_region 17 with (fail)
            go_region_with (first | (go_at_call 68; refine (r_pick B g (q + 2 + 1) _ _ (by exact Hr.out) (by omega)).mono ?_; rintro e yp ⟨kk, rfl, kk1, kk2, hr, hg⟩; have hgw : y9.grownBy yp (some g) := ⟨hg.os, hg.tape, hg.output, hg.size, hg.block⟩; have zp := hgw.size; have HX6 := Lib.hid (X6.out.grown hgw (fun e => by have := Option.some.inj e; omega)); have HX2 := Lib.hid (X2.out.grown hgw (fun e => by have := Option.some.inj e; omega)); have u0 := HX6.out.cell0; have u1 := HX6.out.cell1; have u2 := HX6.out.lt; have HO := Lib.hid (Ho8.out.kept hgw (fun g' hA e => by have := (Ho8.out.ge hA).1; have := Option.some.inj e; omega)); have HR := Lib.hid hr; have HG := Lib.hid (gtrans Hg.out hgw); have kk3 : kk < 8 := (by omega); clear hr hg hgw kk2) | (go_at_call 102; refine (s_transformBoard s' kk _ yp.heap.size _ _ _ (othCs cs) (by exact HO.out.ints) ?_ v1 v2 Hns.out kk1 kk3).mono ?_; (show yp.heap.size ≤ yp.heap.size; omega); rintro e yt ⟨A3, n3, c3, rfl, ho, hb⟩; have hbw : Below yp.heap.size yp yt := ⟨hb.os, hb.tape, hb.output, hb.size, hb.block⟩; have HX2t := Lib.hid (HX2.out.below hbw HX2.out.lt); have u3 := (HX6.out.below hbw HX6.out.lt).cell0; have u4 := (HX6.out.below hbw HX6.out.lt).cell1; have r0 := HX2t.out.cell0; have r1 := HX2t.out.cell1; have r2 := HX2t.out.frozen 0; have r3 := HX2t.out.frozen 1; have r4 := HX2t.out.lt; have HO3 : Hid (Own yt yp.heap.size A3 n3 c3 (Bd.mv s' kk (othCs cs))) := Lib.hid ho; have HRt := Lib.hid (HR.out.below hbw HR.out.lt); have HGt := Lib.hid (gtrans HG.out (gbelow (some g) hbw (Nat.le_refl _))); clear ho hb hbw))
            all_goals go_wp2_with fail
            all_goals
              have k0 := (HX2t.out.set0 s').cell0
              have k1 := ((HX2t.out.set0 s').set1 (.slice A3 n3 c3)).cell1
              refine bodyPost_ret (v := .agg #[.int .i64 s', .slice A3 n3 c3]) (by simp [results, Try.results87, go_sem, k0, k1]) rfl ?_
              have hBg := HRt.out.1
              have hr3 := (HRt.out.far ⟨w.heap.size, 0, none⟩ (by show g ≠ w.heap.size; omega) (by show B ≤ w.heap.size; omega) (.int .i64 s')).far ⟨w.heap.size, 1, none⟩ (by show g ≠ w.heap.size; omega) (by show B ≤ w.heap.size; omega) (.slice A3 n3 c3)
              have hg3 := gset (gset HGt.out ⟨w.heap.size, 0, none⟩ (Nat.le_refl _) (.int .i64 s')) ⟨w.heap.size, 1, none⟩ (Nat.le_refl _) (.slice A3 n3 c3)
              have ho3 := (HO3.out.far ⟨w.heap.size, 0, none⟩ (fun g' hA => by have := (HO3.out.ge hA).1; show g' ≠ w.heap.size; omega) (.int .i64 s')).far ⟨w.heap.size, 1, none⟩ (fun g' hA => by have := (HO3.out.ge hA).1; show g' ≠ w.heap.size; omega) (.slice A3 n3 c3)
              exact ⟨_, _, _, _, _, _, rfl, ho3.weaken (by omega), okB_mv Hv8.out, hr3, by omega, hg3⟩
          · have hbf : (f == 0) = false := by simpa using hf
            clear hf
            obtain ⟨v1, v2, v3, v4⟩ := (Bd.okB_iff s' cs).1 Hv.out
            have hlcs := Ho.out.1
            have Hns : Hid (((n : Nat) : Int) = s' * s') := Lib.hid (by rw [← v3, hlcs])
            clear v3 v4 hlcs
            have t0 := X6.out.cell0
            have t1 := X6.out.cell1
            have t2 := X6.out.lt
            go_upto_region 17 with (fail)
            go_region_with (first | (go_at_call 68; refine (r_pick B g (q + 2 + 1) _ _ (by exact Hr.out) (by omega)).mono ?_; rintro e yp ⟨kk, rfl, kk1, kk2, hr, hg⟩; have hgw : y7.grownBy yp (some g) := ⟨hg.os, hg.tape, hg.output, hg.size, hg.block⟩; have zp := hgw.size; have HX6 := Lib.hid (X6.out.grown hgw (fun e => by have := Option.some.inj e; omega)); have HX2 := Lib.hid (X2.out.grown hgw (fun e => by have := Option.some.inj e; omega)); have u0 := HX6.out.cell0; have u1 := HX6.out.cell1; have u2 := HX6.out.lt; have HO := Lib.hid (Ho.out.kept hgw (fun g' hA e => by have := (Ho.out.ge hA).1; have := Option.some.inj e; omega)); have HR := Lib.hid hr; have HG := Lib.hid (gtrans Hg.out hgw); have kk3 : kk < 8 := (by omega); clear hr hg hgw kk2) | (go_at_call 102; refine (s_transformBoard s' kk _ yp.heap.size _ _ _ cs (by exact HO.out.ints) ?_ v1 v2 Hns.out kk1 kk3).mono ?_; (show yp.heap.size ≤ yp.heap.size; omega); rintro e yt ⟨A3, n3, c3, rfl, ho, hb⟩; have hbw : Below yp.heap.size yp yt := ⟨hb.os, hb.tape, hb.output, hb.size, hb.block⟩; have HX2t := Lib.hid (HX2.out.below hbw HX2.out.lt); have u3 := (HX6.out.below hbw HX6.out.lt).cell0; have u4 := (HX6.out.below hbw HX6.out.lt).cell1; have r0 := HX2t.out.cell0; have r1 := HX2t.out.cell1; have r2 := HX2t.out.frozen 0; have r3 := HX2t.out.frozen 1; have r4 := HX2t.out.lt; have HO3 : Hid (Own yt yp.heap.size A3 n3 c3 (Bd.mv s' kk cs)) := Lib.hid ho; have HRt := Lib.hid (HR.out.below hbw HR.out.lt); have HGt := Lib.hid (gtrans HG.out (gbelow (some g) hbw (Nat.le_refl _))); clear ho hb hbw))
            all_goals go_wp2_with fail
            all_goals
              have k0 := (HX2t.out.set0 s').cell0
              have k1 := ((HX2t.out.set0 s').set1 (.slice A3 n3 c3)).cell1
              refine bodyPost_ret (v := .agg #[.int .i64 s', .slice A3 n3 c3]) (by simp [results, Try.results87, go_sem, k0, k1]) rfl ?_
              have hBg := HRt.out.1
              have hr3 := (HRt.out.far ⟨w.heap.size, 0, none⟩ (by show g ≠ w.heap.size; omega) (by show B ≤ w.heap.size; omega) (.int .i64 s')).far ⟨w.heap.size, 1, none⟩ (by show g ≠ w.heap.size; omega) (by show B ≤ w.heap.size; omega) (.slice A3 n3 c3)
              have hg3 := gset (gset HGt.out ⟨w.heap.size, 0, none⟩ (Nat.le_refl _) (.int .i64 s')) ⟨w.heap.size, 1, none⟩ (Nat.le_refl _) (.slice A3 n3 c3)
              have ho3 := (HO3.out.far ⟨w.heap.size, 0, none⟩ (fun g' hA => by have := (HO3.out.ge hA).1; show g' ≠ w.heap.size; omega) (.int .i64 s')).far ⟨w.heap.size, 1, none⟩ (fun g' hA => by have := (HO3.out.ge hA).1; show g' ≠ w.heap.size; omega) (.slice A3 n3 c3)
              exact ⟨_, _, _, _, _, _, rfl, ho3.weaken (by omega), okB_mv Hv.out, hr3, by omega, hg3⟩
      · have e2 : (x0 == 2) = false := by simpa using h2
        clear h0 h1 h2
        go_wp2_with fail
        refine (r_smallSize B g (q + 1) _ Hr.out (by omega)).mono ?_
        rintro e y2 ⟨s, rfl, ⟨s1, s2⟩, hr, hg⟩
        have X2 := Lib.hid (X2.out.grown hg (fun e => by have := Option.some.inj e; omega))
        have Hg := Lib.hid (gtrans Hg.out hg)
        have Hr := Lib.hid hr
        have z3 := X2.out.lt
        clear hr hg
        go_wp2_with fail
        refine (r_played s B g (q + 1 + 1) _ Hr.out (by omega) s1 s2).mono ?_
        rintro e y3 ⟨s', A, n, c, cs, q', rfl, ho, hv, hr, hq', hg⟩
        have X2 := Lib.hid (X2.out.grown hg (fun e => by have := Option.some.inj e; omega))
        have Hg := Lib.hid (gtrans Hg.out hg)
        have Hr := Lib.hid hr
        have Ho := Lib.hid ho
        have Hv := Lib.hid hv
        have z4 := X2.out.lt
        clear hr hg ho hv
        have K0 := Lib.hid ((X2.out.set0 s').cell0)
        have K1 := Lib.hid (((X2.out.set0 s').set1 (.slice A n c)).cell1)
        have r0 := X2.out.cell0
        have r1 := X2.out.cell1
        have r2 := X2.out.frozen 0
        have r3 := X2.out.frozen 1
        have r4 := X2.out.lt
        have hBg := Hr.out.1
        have Hr3 := Lib.hid ((Hr.out.far ⟨w.heap.size, 0, none⟩ (by show g ≠ w.heap.size; omega) (by show B ≤ w.heap.size; omega) (.int .i64 s')).far ⟨w.heap.size, 1, none⟩ (by show g ≠ w.heap.size; omega) (by show B ≤ w.heap.size; omega) (.slice A n c))
        have Hg3 := Lib.hid (gset (gset Hg.out ⟨w.heap.size, 0, none⟩ (Nat.le_refl _) (.int .i64 s')) ⟨w.heap.size, 1, none⟩ (Nat.le_refl _) (.slice A n c))
        have Ho3 := Lib.hid ((Ho.out.far ⟨w.heap.size, 0, none⟩ (fun g' hA => by have := (Ho.out.ge hA).1; show g' ≠ w.heap.size; omega) (.int .i64 s')).far ⟨w.heap.size, 1, none⟩ (fun g' hA => by have := (Ho.out.ge hA).1; show g' ≠ w.heap.size; omega) (.slice A n c))
        go_wp2_with fail
        have k0 := K0.out
        have k1 := K1.out
        refine bodyPost_ret (v := .agg #[.int .i64 s', .slice A n c]) (by simp [results, Try.results87, go_sem, k0, k1]) rfl ?_
        exact ⟨_, _, _, _, _, _, rfl, Ho3.out.weaken (by omega), Hv.out, Hr3.out, by omega, Hg3.out⟩
end Go.Proofs.Ytpopbcmfbcmojaa

namespace Go.Proofs.Ytpopbcmfbcmojaa
set_option maxRecDepth 100000
open Go.RowKit

/-- The slice at A of n elements reads as the ints xs, and its memory lies from block lo on. -/
def IntsF (w : World) (lo : Nat) (A : Option Addr) (n : Nat) (xs : List Int) : Prop :=
  xs.length = n ∧ (n = 0 ∨ ∃ b o, A = some ⟨b, o, none⟩ ∧ lo ≤ b ∧ b < w.heap.size ∧ ∀ j, j < n → w.cell? ⟨b, o + j, none⟩ = some (.int .i64 (xs.getD j 0)))
theorem IntsF.ints {w : World} {lo n : Nat} {A : Option Addr} {xs : List Int} (h : IntsF w lo A n xs) : Ints w w.heap.size A n xs := by
  refine ⟨h.1, ?_⟩
  rcases h.2 with h | ⟨b, o, hA, _, hb, hc⟩
  · exact .inl h
  · exact .inr ⟨b, o, hA, hb, hc⟩
theorem IntsF.of {w : World} {lo n c : Nat} {A : Option Addr} {xs : List Int} (h : Own w lo A n c xs) : IntsF w lo A n xs := by
  refine ⟨h.1, ?_⟩
  rcases h.ints.2 with h0 | ⟨b, o, hA, hb, hc⟩
  · exact .inl h0
  · by_cases hn : n = 0
    · exact .inl hn
    · obtain ⟨g, cap, hv, hg, hlt⟩ := World.ownsRow.form h.2 (by omega)
      have hA2 : A = some ⟨g, 0, none⟩ := by injection hv
      have : b = g := by rw [hA] at hA2; injection hA2 with e; injection e
      exact .inr ⟨b, o, hA, by omega, hb, hc⟩
theorem IntsF.weaken {w : World} {lo lo' n : Nat} {A : Option Addr} {xs : List Int} (h : IntsF w lo A n xs) (hl : lo' ≤ lo) : IntsF w lo' A n xs := by
  refine ⟨h.1, ?_⟩
  rcases h.2 with h | ⟨b, o, hA, h1, h2, hc⟩
  · exact .inl h
  · exact .inr ⟨b, o, hA, by omega, h2, hc⟩
theorem IntsF.far {w : World} {lo n : Nat} {A : Option Addr} {xs : List Int} (h : IntsF w lo A n xs) (p : Addr) (hp : p.block < lo) (u : Value) : IntsF (w.setCell p u) lo A n xs := by
  refine ⟨h.1, ?_⟩
  rcases h.2 with h | ⟨b, o, hA, h1, h2, hc⟩
  · exact .inl h
  · exact .inr ⟨b, o, hA, h1, by simpa [World.setCell] using h2, fun j hj => (World.cell?_of_block (w' := w.setCell p u) (w := w) (a := ⟨b, o + j, none⟩) (Below.heap_setCell w p u b (by omega))).trans (hc j hj)⟩
theorem IntsF.grown {w w' : World} {lo n g : Nat} {A : Option Addr} {xs : List Int} (h : IntsF w lo A n xs) (hg : w.grownBy w' (some g)) (hl : g < lo) : IntsF w' lo A n xs := by
  refine ⟨h.1, ?_⟩
  rcases h.2 with h | ⟨b, o, hA, h1, h2, hc⟩
  · exact .inl h
  · exact .inr ⟨b, o, hA, h1, Nat.lt_of_lt_of_le h2 hg.size, fun j hj => (World.cell?_of_block (w' := w') (w := w) (a := ⟨b, o + j, none⟩) (hg.block b h2 (fun e => by have := Option.some.inj e; omega))).trans (hc j hj)⟩
theorem IntsF.below {w w' : World} {lo n : Nat} {A : Option Addr} {xs : List Int} (h : IntsF w lo A n xs) (hb : Below w.heap.size w w') : IntsF w' lo A n xs := by
  refine ⟨h.1, ?_⟩
  rcases h.2 with h | ⟨b, o, hA, h1, h2, hc⟩
  · exact .inl h
  · exact .inr ⟨b, o, hA, h1, Nat.lt_of_lt_of_le h2 hb.size, fun j hj => (World.cell?_of_block (w' := w') (w := w) (a := ⟨b, o + j, none⟩) (hb.block b h2)).trans (hc j hj)⟩
theorem IntsF.tail {w : World} {lo n b o : Nat} {xs : List Int} (h : IntsF w lo (some ⟨b, o, none⟩) (n + 1) xs) : IntsF w lo (some ⟨b, o + 1, none⟩) n xs.tail := by
  refine ⟨by rw [List.length_tail, h.1]; rfl, ?_⟩
  rcases h.2 with h0 | ⟨b', o', hA, h1, h2, hc⟩
  · omega
  · injection hA with hA
    injection hA with e1 e2
    subst e1; subst e2
    refine .inr ⟨b, o + 1, rfl, h1, h2, fun j hj => ?_⟩
    have := hc (j + 1) (by omega)
    rw [show o + 1 + j = o + (j + 1) by omega, this]
    cases xs <;> simp [List.getD_eq_getElem?_getD]

theorem Own.cap_le {w : World} {B n c : Nat} {A : Option Addr} {xs : List Int} (h : Own w B A n c xs) : n ≤ c := by
  rcases h.2.2 with ⟨e, _⟩ | ⟨g, cap, cur, e, _, _, h, _⟩
  · injection e with _ e1 e2; omega
  · injection e with _ _ e2; omega

/-- A board that a draw made: of any size from 0 to 8, any cells, at most 49. -/
def DrawnA (w : World) (B g lo q : Nat) (e : Ending) (w' : World) : Prop :=
  ∃ (s : Int) (A : Option Addr) (n c : Nat) (cs : List Int) (q' : Nat), e = .returned (.agg #[.int .i64 s, .slice A n c]) ∧ IntsF w' lo A n cs ∧ n ≤ 49 ∧ 0 ≤ s ∧ s ≤ 8 ∧ Rdr w' B g q' ∧ q' ≤ q ∧ w.grownBy w' (some g)

set_option maxRecDepth 100000 in
set_option maxHeartbeats 8000000 in
theorem r_any (B g q : Nat) (w : World) (h : Rdr w B g q) (hq : q ≤ 1000000000) :
    Calls Try.prog 66 #[.pointer (some ⟨g, 0, none⟩)] w fun e w' => DrawnA w B g w.heap.size (q + 202) e w' := by
  have hlt := h.lt
  have hb1 : Below w.heap.size w (w.alloc (.cells #[.int .i64 0, .slice none 0 0] 25)) := (Below.refl _ _).alloc (Nat.le_refl _) _
  have X2 := Lib.hid (Bx.new 25 w 0 (.slice none 0 0))
  have Hr := Lib.hid (h.below hb1 hlt)
  have Hb := Lib.hid hb1
  have hsz : (w.alloc (.cells #[.int .i64 0, .slice none 0 0] 25)).heap.size = w.heap.size + 1 := by simp
  have Hsz := Lib.hid hsz
  clear h hb1 hsz
  go_enter Try.func66, Try.ntmps66
  go_wp2_with fail
  refine (r_random B g q _ Hr.out (by omega)).mono ?_
  rintro e y ⟨s, A, n, c, cs, q1, rfl, ho, hv, hr, hq1, hg⟩
  rw [Hsz.out] at ho
  have X2 := Lib.hid (X2.out.grown hg (fun e => by have := Option.some.inj e; omega))
  have Hg := Lib.hid (gtrans (gbelow (some g) Hb.out (Nat.le_refl _)) hg)
  have Hr := Lib.hid hr
  obtain ⟨s1, s2, hsn, _⟩ := (Bd.okB_iff s cs).1 hv
  have hsq := Pt.sq_bd s s1 s2
  have hl := ho.1
  have hn49 : n ≤ 49 := by omega
  have hn1 : 1 ≤ n := by omega
  have z2 := X2.out.lt
  obtain ⟨ga, cap, hvv, _⟩ := World.ownsRow.form ho.2 (by omega)
  have hA : A = some ⟨ga, 0, none⟩ := by injection hvv
  subst hA
  have hga := ho.ge rfl
  have Ho := Lib.hid ho
  have hcap : n ≤ c := ho.cap_le
  clear hr hg hsn hl hv ho Hb hvv
  go_upto_region 2 with (fail)
  obtain ⟨y3, hy3, hb3, z3, z4⟩ := new_box y (.cells #[.int .i64 s, .slice (some ⟨ga, 0, none⟩) n c] 25)
  have X3 : Hid (Bx 25 y3 y.heap.size s (.slice (some ⟨ga, 0, none⟩) n c)) := Lib.hid (by rw [hy3]; exact Bx.new _ _ _ _)
  rw [← hy3]
  clear hy3
  have X2 := Lib.hid (X2.out.below hb3 X2.out.lt)
  have Hr := Lib.hid (Hr.out.below hb3 Hr.out.lt)
  have Ho := Lib.hid (Ho.out.below hb3)
  have Hg := Lib.hid (gtrans Hg.out (gbelow (some g) hb3 (Nat.le_refl _)))
  clear hb3
  go_wp2_with fail
  refine (r_pick B g q1 _ _ Hr.out (by omega)).mono ?_
  rintro e y4 ⟨x0, rfl, k1, k2, hr, hg⟩
  have X2 := Lib.hid (X2.out.grown hg (fun e => by have := Option.some.inj e; omega))
  have X3 := Lib.hid (X3.out.grown hg (fun e => by have := Option.some.inj e; omega))
  have Ho := Lib.hid (Ho.out.kept hg (fun g' hA e => by have := (Ho.out.ge hA).1; have := Option.some.inj e; omega))
  have Hg := Lib.hid (gtrans Hg.out hg)
  have Hr := Lib.hid hr
  have z5 := X3.out.lt
  clear hr hg
  by_cases h0 : x0 = 0
  · subst h0
    clear k1 k2
    have t0 := X3.out.cell0
    have t1 := X3.out.cell1
    have t2 := X3.out.lt
    have hlt4 := Hr.out.lt
    go_wp2_with fail
    have hl := Ints.lit y4 3 [0, 8, s + 1]
    refine (r_one B g (q1 + 1) _ _ [0, 8, s + 1] _ _ (Hr.out.below ((Below.refl _ _).alloc (Nat.le_refl _) _) Hr.out.lt) (by omega) hl (by simp) (by simp) (by simp) (by rintro b o e; injection e with e; injection e; omega)).mono ?_
    rintro e y5 ⟨x, rfl, hx, hr, hg⟩
    have hx8 : 0 ≤ x ∧ x ≤ 8 := by simp at hx; omega
    have hg5 := gtrans (World.grownBy_alloc y4 _ (some g)) hg
    have X2 := Lib.hid (X2.out.grown hg5 (fun e => by have := Option.some.inj e; omega))
    have X3 := Lib.hid (X3.out.grown hg5 (fun e => by have := Option.some.inj e; omega))
    have Ho := Lib.hid (Ho.out.kept hg5 (fun g' hA e => by have := (Ho.out.ge hA).1; have := Option.some.inj e; omega))
    have Hg := Lib.hid (gtrans Hg.out hg5)
    have Hr := Lib.hid hr
    clear hl hx hg hg5 hr t0 t1 t2
    have t0 := X3.out.cell0
    have t1 := X3.out.cell1
    have t2 := X3.out.lt
    have t3 := X3.out.frozen 0
    go_upto_region 9 with (fail)
    obtain ⟨y6, hy6⟩ : ∃ y6, y6 = y5.setCell ⟨y.heap.size, 0, none⟩ (.int .i64 x) := ⟨_, rfl⟩
    have hBg := Hr.out.1
    have X2 : Hid (Bx 25 y6 w.heap.size 0 (.slice none 0 0)) := Lib.hid (by rw [hy6]; exact X2.out.far (p := ⟨y.heap.size, 0, none⟩) (by show w.heap.size ≠ y.heap.size; omega) _)
    have X3 : Hid (Bx 25 y6 y.heap.size x (.slice (some ⟨ga, 0, none⟩) n c)) := Lib.hid (by rw [hy6]; exact X3.out.set0 x)
    have Ho : Hid (Own y6 (w.heap.size + 1) (some ⟨ga, 0, none⟩) n c cs) := Lib.hid (by rw [hy6]; exact Ho.out.far ⟨y.heap.size, 0, none⟩ (fun g' hA => by injection hA with hA; injection hA; show g' ≠ y.heap.size; omega) _)
    have Hr : Hid (Rdr y6 B g (q1 + 1 + 1)) := Lib.hid (by rw [hy6]; exact Hr.out.far ⟨y.heap.size, 0, none⟩ (by show g ≠ y.heap.size; omega) (by show B ≤ y.heap.size; omega) _)
    have Hg : Hid (w.grownBy y6 (some g)) := Lib.hid (by rw [hy6]; exact gset Hg.out ⟨y.heap.size, 0, none⟩ (by show w.heap.size ≤ y.heap.size; omega) _)
    rw [← hy6]
    clear hy6 t0 t1 t2 t3
    have Hi := Lib.hid (IntsF.of Ho.out)
    have K0 := Lib.hid ((X2.out.set0 x).cell0)
    have K1 := Lib.hid (((X2.out.set0 x).set1 (.slice (some ⟨ga, 0, none⟩) n c)).cell1)
    have t0 := X3.out.cell0
    have t1 := X3.out.cell1
    have t2 := X3.out.lt
    have r0 := X2.out.cell0
    have r1 := X2.out.cell1
    have r2 := X2.out.frozen 0
    have r3 := X2.out.frozen 1
    have r4 := X2.out.lt
    have hBg := Hr.out.1
    have Hr3 := Lib.hid ((Hr.out.far ⟨w.heap.size, 0, none⟩ (by show g ≠ w.heap.size; omega) (by show B ≤ w.heap.size; omega) (.int .i64 x)).far ⟨w.heap.size, 1, none⟩ (by show g ≠ w.heap.size; omega) (by show B ≤ w.heap.size; omega) (.slice (some ⟨ga, 0, none⟩) n c))
    have Hg3 := Lib.hid (gset (gset Hg.out ⟨w.heap.size, 0, none⟩ (Nat.le_refl _) (.int .i64 x)) ⟨w.heap.size, 1, none⟩ (Nat.le_refl _) (.slice (some ⟨ga, 0, none⟩) n c))
    have Hi3 := Lib.hid ((Hi.out.far ⟨w.heap.size, 0, none⟩ (Nat.lt_succ_self _) (.int .i64 x)).far ⟨w.heap.size, 1, none⟩ (Nat.lt_succ_self _) (.slice (some ⟨ga, 0, none⟩) n c))
    go_wp2_with fail
    have k0 := K0.out
    have k1 := K1.out
    refine bodyPost_ret (v := .agg #[.int .i64 x, .slice (some ⟨ga, 0, none⟩) n c]) (by simp [results, Try.results66, go_sem, k0, k1]) rfl ?_
    exact ⟨_, _, _, _, _, _, rfl, Hi3.out.weaken (by omega), by omega, by omega, by omega, Hr3.out, by omega, Hg3.out⟩
  · have e0 : (x0 == 0) = false := by simpa using h0
    by_cases h1 : x0 = 1
    · subst h1
      clear k1 k2 h0 e0
      obtain ⟨m, rfl⟩ : ∃ m, n = m + 1 := ⟨n - 1, by omega⟩
      obtain ⟨d, rfl⟩ : ∃ d, c = d + 1 := ⟨c - 1, by omega⟩
      have t0 := X3.out.cell0
      have t1 := X3.out.cell1
      have t2 := X3.out.lt
      have t3 := X3.out.frozen 1
      by_cases hd : d = 0
      · subst hd
        obtain rfl : m = 0 := by omega
        go_upto_region 9 with (fail)
        obtain ⟨y6, hy6⟩ : ∃ y6, y6 = y4.setCell ⟨y.heap.size, 1, none⟩ (.slice (some ⟨ga, 0, none⟩) 0 0) := ⟨_, rfl⟩
        have hBg := Hr.out.1
        have hgl := Hr.out.lt
        have X2 : Hid (Bx 25 y6 w.heap.size 0 (.slice none 0 0)) := Lib.hid (by rw [hy6]; exact X2.out.far (p := ⟨y.heap.size, 1, none⟩) (by show w.heap.size ≠ y.heap.size; omega) _)
        have X3 : Hid (Bx 25 y6 y.heap.size s (.slice (some ⟨ga, 0, none⟩) 0 0)) := Lib.hid (by rw [hy6]; exact X3.out.set1 _)
        have Ho : Hid (Own y6 (w.heap.size + 1) (some ⟨ga, 0, none⟩) (0 + 1) (0 + 1) cs) := Lib.hid (by rw [hy6]; exact Ho.out.far ⟨y.heap.size, 1, none⟩ (fun g' hA => by injection hA with hA; injection hA; show g' ≠ y.heap.size; omega) _)
        have Hr : Hid (Rdr y6 B g (q1 + 1)) := Lib.hid (by rw [hy6]; exact Hr.out.far ⟨y.heap.size, 1, none⟩ (by show g ≠ y.heap.size; omega) (by show B ≤ y.heap.size; omega) _)
        have Hg : Hid (w.grownBy y6 (some g)) := Lib.hid (by rw [hy6]; exact gset Hg.out ⟨y.heap.size, 1, none⟩ (by show w.heap.size ≤ y.heap.size; omega) _)
        rw [← hy6]
        clear hy6 t0 t1 t2 t3
        have Hi : Hid (IntsF y6 (w.heap.size + 1) (some ⟨ga, 0, none⟩) 0 []) := Lib.hid ⟨rfl, .inl rfl⟩
        have K0 := Lib.hid ((X2.out.set0 s).cell0)
        have K1 := Lib.hid (((X2.out.set0 s).set1 (.slice (some ⟨ga, 0, none⟩) 0 0)).cell1)
        have t0 := X3.out.cell0
        have t1 := X3.out.cell1
        have t2 := X3.out.lt
        have r0 := X2.out.cell0
        have r1 := X2.out.cell1
        have r2 := X2.out.frozen 0
        have r3 := X2.out.frozen 1
        have r4 := X2.out.lt
        have hBg := Hr.out.1
        have Hr3 := Lib.hid ((Hr.out.far ⟨w.heap.size, 0, none⟩ (by show g ≠ w.heap.size; omega) (by show B ≤ w.heap.size; omega) (.int .i64 s)).far ⟨w.heap.size, 1, none⟩ (by show g ≠ w.heap.size; omega) (by show B ≤ w.heap.size; omega) (.slice (some ⟨ga, 0, none⟩) 0 0))
        have Hg3 := Lib.hid (gset (gset Hg.out ⟨w.heap.size, 0, none⟩ (Nat.le_refl _) (.int .i64 s)) ⟨w.heap.size, 1, none⟩ (Nat.le_refl _) (.slice (some ⟨ga, 0, none⟩) 0 0))
        have Hi3 := Lib.hid ((Hi.out.far ⟨w.heap.size, 0, none⟩ (Nat.lt_succ_self _) (.int .i64 s)).far ⟨w.heap.size, 1, none⟩ (Nat.lt_succ_self _) (.slice (some ⟨ga, 0, none⟩) 0 0))
        go_wp2_with fail
        have k0 := K0.out
        have k1 := K1.out
        refine bodyPost_ret (v := .agg #[.int .i64 s, .slice (some ⟨ga, 0, none⟩) 0 0]) (by simp [results, Try.results66, go_sem, k0, k1]) rfl ?_
        exact ⟨_, _, _, _, _, _, rfl, Hi3.out.weaken (by omega), by omega, by omega, by omega, Hr3.out, by omega, Hg3.out⟩
      · have hd' : ¬ (d + 1 = 1) := by omega
        go_upto_region 9 with (fail)
        obtain ⟨y6, hy6⟩ : ∃ y6, y6 = y4.setCell ⟨y.heap.size, 1, none⟩ (.slice (some ⟨ga, 1, none⟩) m d) := ⟨_, rfl⟩
        have hBg := Hr.out.1
        have hgl := Hr.out.lt
        have X2 : Hid (Bx 25 y6 w.heap.size 0 (.slice none 0 0)) := Lib.hid (by rw [hy6]; exact X2.out.far (p := ⟨y.heap.size, 1, none⟩) (by show w.heap.size ≠ y.heap.size; omega) _)
        have X3 : Hid (Bx 25 y6 y.heap.size s (.slice (some ⟨ga, 1, none⟩) m d)) := Lib.hid (by rw [hy6]; exact X3.out.set1 _)
        have Ho : Hid (Own y6 (w.heap.size + 1) (some ⟨ga, 0, none⟩) (m + 1) (d + 1) cs) := Lib.hid (by rw [hy6]; exact Ho.out.far ⟨y.heap.size, 1, none⟩ (fun g' hA => by injection hA with hA; injection hA; show g' ≠ y.heap.size; omega) _)
        have Hr : Hid (Rdr y6 B g (q1 + 1)) := Lib.hid (by rw [hy6]; exact Hr.out.far ⟨y.heap.size, 1, none⟩ (by show g ≠ y.heap.size; omega) (by show B ≤ y.heap.size; omega) _)
        have Hg : Hid (w.grownBy y6 (some g)) := Lib.hid (by rw [hy6]; exact gset Hg.out ⟨y.heap.size, 1, none⟩ (by show w.heap.size ≤ y.heap.size; omega) _)
        rw [← hy6]
        clear hy6 t0 t1 t2 t3
        have Hi := Lib.hid (IntsF.tail (IntsF.of Ho.out))
        have K0 := Lib.hid ((X2.out.set0 s).cell0)
        have K1 := Lib.hid (((X2.out.set0 s).set1 (.slice (some ⟨ga, 1, none⟩) m d)).cell1)
        have t0 := X3.out.cell0
        have t1 := X3.out.cell1
        have t2 := X3.out.lt
        have r0 := X2.out.cell0
        have r1 := X2.out.cell1
        have r2 := X2.out.frozen 0
        have r3 := X2.out.frozen 1
        have r4 := X2.out.lt
        have hBg := Hr.out.1
        have Hr3 := Lib.hid ((Hr.out.far ⟨w.heap.size, 0, none⟩ (by show g ≠ w.heap.size; omega) (by show B ≤ w.heap.size; omega) (.int .i64 s)).far ⟨w.heap.size, 1, none⟩ (by show g ≠ w.heap.size; omega) (by show B ≤ w.heap.size; omega) (.slice (some ⟨ga, 1, none⟩) m d))
        have Hg3 := Lib.hid (gset (gset Hg.out ⟨w.heap.size, 0, none⟩ (Nat.le_refl _) (.int .i64 s)) ⟨w.heap.size, 1, none⟩ (Nat.le_refl _) (.slice (some ⟨ga, 1, none⟩) m d))
        have Hi3 := Lib.hid ((Hi.out.far ⟨w.heap.size, 0, none⟩ (Nat.lt_succ_self _) (.int .i64 s)).far ⟨w.heap.size, 1, none⟩ (Nat.lt_succ_self _) (.slice (some ⟨ga, 1, none⟩) m d))
        go_wp2_with fail
        have k0 := K0.out
        have k1 := K1.out
        refine bodyPost_ret (v := .agg #[.int .i64 s, .slice (some ⟨ga, 1, none⟩) m d]) (by simp [results, Try.results66, go_sem, k0, k1]) rfl ?_
        exact ⟨_, _, _, _, _, _, rfl, Hi3.out.weaken (by omega), by omega, by omega, by omega, Hr3.out, by omega, Hg3.out⟩
    · have e1 : (x0 == 1) = false := by simpa using h1
      by_cases h2 : x0 = 2
      · subst h2
        clear k1 k2 h0 h1 e0 e1
        have t0 := X3.out.cell0
        have t1 := X3.out.cell1
        have t2 := X3.out.lt
        have hlt4 := Hr.out.lt
        have hn0 : (0 : Int) < n := by omega
        go_wp2_with fail
        go_region_with (first | (go_at_call 88; refine (r_one B g (q1 + 1) _ _ [-1, 3] (y4.heap.size + 1) _ (by exact (show Rdr (y4.alloc (.cells #[.int .i64 (-1), .int .i64 3] 3)) B g (q1 + 1) from Hr.out.below ((Below.refl _ _).alloc (Nat.le_refl _) _) Hr.out.lt)) (by omega) (by exact Ints.lit y4 3 [-1, 3]) (by show y4.heap.size + 1 ≤ (y4.alloc (.cells #[.int .i64 (-1), .int .i64 3] 3)).heap.size; simp) (by simp) (by simp) (by rintro b o e; injection e with e; injection e; omega)).mono ?_; rintro e y5 ⟨x, rfl, hx, hr, hg⟩; have hg5 : y4.grownBy y5 (some g) := gtrans (World.grownBy_alloc y4 (.cells #[.int .i64 (-1), .int .i64 3] 3) (some g)) ⟨hg.os, hg.tape, hg.output, hg.size, hg.block⟩; have HX2 := Lib.hid (X2.out.grown hg5 (fun e => by have := Option.some.inj e; omega)); have HX3 := Lib.hid (X3.out.grown hg5 (fun e => by have := Option.some.inj e; omega)); have HO := Lib.hid (Ho.out.kept hg5 (fun g' hA e => by have := (Ho.out.ge hA).1; have := Option.some.inj e; omega)); have u0 := HX3.out.cell0; have u1 := HX3.out.cell1; have u2 := HX3.out.lt; have u3 := World.ownsRow.cellAt HO.out.2 0 (by omega); rw [List.getElem?_eq_getElem (by rw [List.length_map, HO.out.1]; omega)] at u3; have u4 := World.ownsRow.frozenAt HO.out.2 0; have HR := Lib.hid hr; have HG := Lib.hid (gtrans Hg.out hg5); clear hr hg hg5 hx))
        all_goals go_upto_region 9 with (fail)
        all_goals
          obtain ⟨y6, hy6⟩ : ∃ y6, y6 = y5.setCell ⟨ga, 0, none⟩ (.int .i64 x) := ⟨_, rfl⟩
          have hBg := HR.out.1
          have X2 : Hid (Bx 25 y6 w.heap.size 0 (.slice none 0 0)) := Lib.hid (by rw [hy6]; exact HX2.out.far (p := ⟨ga, 0, none⟩) (by show w.heap.size ≠ ga; omega) _)
          have X3 : Hid (Bx 25 y6 y.heap.size s (.slice (some ⟨ga, 0, none⟩) n c)) := Lib.hid (by rw [hy6]; exact HX3.out.far (p := ⟨ga, 0, none⟩) (by show y.heap.size ≠ ga; omega) _)
          have Ho : Hid (Own y6 (w.heap.size + 1) (some ⟨ga, 0, none⟩) n c (cs.set 0 x)) := Lib.hid (by rw [hy6]; exact (HO.out.stored 0 x).1)
          have Hr : Hid (Rdr y6 B g (q1 + 1 + 1)) := Lib.hid (by rw [hy6]; exact HR.out.far ⟨ga, 0, none⟩ (by show g ≠ ga; omega) (by show B ≤ ga; omega) _)
          have Hg : Hid (w.grownBy y6 (some g)) := Lib.hid (by rw [hy6]; exact gset HG.out ⟨ga, 0, none⟩ (by show w.heap.size ≤ ga; omega) _)
          rw [← hy6]
          clear hy6 u0 u1 u2 u3 u4 t0 t1 t2
          have Hi := Lib.hid (IntsF.of Ho.out)
          have K0 := Lib.hid ((X2.out.set0 s).cell0)
          have K1 := Lib.hid (((X2.out.set0 s).set1 (.slice (some ⟨ga, 0, none⟩) n c)).cell1)
          have t0 := X3.out.cell0
          have t1 := X3.out.cell1
          have t2 := X3.out.lt
          have r0 := X2.out.cell0
          have r1 := X2.out.cell1
          have r2 := X2.out.frozen 0
          have r3 := X2.out.frozen 1
          have r4 := X2.out.lt
          have hBg := Hr.out.1
          have Hr3 := Lib.hid ((Hr.out.far ⟨w.heap.size, 0, none⟩ (by show g ≠ w.heap.size; omega) (by show B ≤ w.heap.size; omega) (.int .i64 s)).far ⟨w.heap.size, 1, none⟩ (by show g ≠ w.heap.size; omega) (by show B ≤ w.heap.size; omega) (.slice (some ⟨ga, 0, none⟩) n c))
          have Hg3 := Lib.hid (gset (gset Hg.out ⟨w.heap.size, 0, none⟩ (Nat.le_refl _) (.int .i64 s)) ⟨w.heap.size, 1, none⟩ (Nat.le_refl _) (.slice (some ⟨ga, 0, none⟩) n c))
          have Hi3 := Lib.hid ((Hi.out.far ⟨w.heap.size, 0, none⟩ (Nat.lt_succ_self _) (.int .i64 s)).far ⟨w.heap.size, 1, none⟩ (Nat.lt_succ_self _) (.slice (some ⟨ga, 0, none⟩) n c))
          go_wp2_with fail
          have k0 := K0.out
          have k1 := K1.out
          refine bodyPost_ret (v := .agg #[.int .i64 s, .slice (some ⟨ga, 0, none⟩) n c]) (by simp [results, Try.results66, go_sem, k0, k1]) rfl ?_
          exact ⟨_, _, _, _, _, _, rfl, Hi3.out.weaken (by omega), by omega, by omega, by omega, Hr3.out, by omega, Hg3.out⟩
      · have e2 : (x0 == 2) = false := by simpa using h2
        clear h0 h1 h2
        have Hi := Lib.hid (IntsF.of Ho.out)
        have K0 := Lib.hid ((X2.out.set0 s).cell0)
        have K1 := Lib.hid (((X2.out.set0 s).set1 (.slice (some ⟨ga, 0, none⟩) n c)).cell1)
        have t0 := X3.out.cell0
        have t1 := X3.out.cell1
        have t2 := X3.out.lt
        have r0 := X2.out.cell0
        have r1 := X2.out.cell1
        have r2 := X2.out.frozen 0
        have r3 := X2.out.frozen 1
        have r4 := X2.out.lt
        have hBg := Hr.out.1
        have Hr3 := Lib.hid ((Hr.out.far ⟨w.heap.size, 0, none⟩ (by show g ≠ w.heap.size; omega) (by show B ≤ w.heap.size; omega) (.int .i64 s)).far ⟨w.heap.size, 1, none⟩ (by show g ≠ w.heap.size; omega) (by show B ≤ w.heap.size; omega) (.slice (some ⟨ga, 0, none⟩) n c))
        have Hg3 := Lib.hid (gset (gset Hg.out ⟨w.heap.size, 0, none⟩ (Nat.le_refl _) (.int .i64 s)) ⟨w.heap.size, 1, none⟩ (Nat.le_refl _) (.slice (some ⟨ga, 0, none⟩) n c))
        have Hi3 := Lib.hid ((Hi.out.far ⟨w.heap.size, 0, none⟩ (Nat.lt_succ_self _) (.int .i64 s)).far ⟨w.heap.size, 1, none⟩ (Nat.lt_succ_self _) (.slice (some ⟨ga, 0, none⟩) n c))
        go_wp2_with fail
        have k0 := K0.out
        have k1 := K1.out
        refine bodyPost_ret (v := .agg #[.int .i64 s, .slice (some ⟨ga, 0, none⟩) n c]) (by simp [results, Try.results66, go_sem, k0, k1]) rfl ?_
        exact ⟨_, _, _, _, _, _, rfl, Hi3.out.weaken (by omega), by omega, by omega, by omega, Hr3.out, by omega, Hg3.out⟩
end Go.Proofs.Ytpopbcmfbcmojaa

namespace Go.Proofs.Ytpopbcmfbcmojaa
set_option maxRecDepth 100000
open Go.RowKit

theorem undrew {a b : World} (h : Below a.drew.heap.size a.drew b) : Below a.heap.size a b := ⟨h.os, h.tape, h.output, h.size, h.block⟩
theorem Ints.step {w w' : World} {n : Nat} {A : Option Addr} {xs : List Int} (h : Ints w w.heap.size A n xs) (hb : Below w.heap.size w w') : Ints w' w'.heap.size A n xs := (h.below hb (Nat.le_refl _)).more hb.size
theorem Bx.step {t : TypeId} {w w' : World} {g : Nat} {s : Int} {v : Value} (h : Bx t w g s v) (hb : Below w.heap.size w w') : Bx t w' g s v := h.below hb h.lt
theorem bstep {a w w' : World} (h : Below a.heap.size a w) (hb : Below w.heap.size w w') : Below a.heap.size a w' := h.trans (hb.mono h.size)

theorem IsRow.below {k : IntKind} {w w' : World} {a : Option Addr} {len cap : Nat} {zs : List Int} (h : IsRow k w a len cap zs) (hb : Below w.heap.size w w') : IsRow k w' a len cap zs := by
  rcases h with h | ⟨x, hx, h1, h2, h3, h4, h5⟩
  · exact .inl h
  · refine .inr ⟨x, hx, h1, h2, h3, fun i hi => ?_, h5⟩
    have := h4 i hi
    exact (World.cell?_of_block (w := w) (a := x.add i) (hb.block _ (World.block_lt_of_cell? w _ this))).trans this

/-- What a law's draw of a board gives. -/
def DrawnL (w : World) (e : Ending) (w' : World) : Prop :=
  ∃ (s : Int) (A : Option Addr) (n c : Nat) (cs : List Int), e = .returned (.agg #[.int .i64 s, .slice A n c]) ∧ Ints w' w'.heap.size A n cs ∧ n ≤ 49 ∧ 0 ≤ s ∧ s ≤ 8 ∧ Below w.heap.size w w'
/-- The same with an int. -/
def DrawnLI (P : Int → Prop) (w : World) (e : Ending) (w' : World) : Prop :=
  ∃ (s : Int) (A : Option Addr) (n c : Nat) (cs : List Int) (x : Int), e = .returned (.tuple #[.agg #[.int .i64 s, .slice A n c], .int .i64 x]) ∧ Ints w' w'.heap.size A n cs ∧ n ≤ 49 ∧ 0 ≤ s ∧ s ≤ 8 ∧ P x ∧ Below w.heap.size w w'

end Go.Proofs.Ytpopbcmfbcmojaa

namespace Go.Proofs.Ytpopbcmfbcmojaa
set_option maxRecDepth 100000
open Go.RowKit

def cnt (x : Int) (cs : List Int) : Int := ((cs.filter fun c => c == x).length : Nat)
theorem cnt_bd (x : Int) (cs : List Int) : 0 ≤ cnt x cs ∧ cnt x cs ≤ cs.length := by
  unfold cnt
  have := List.length_filter_le (fun c => c == x) cs
  omega
theorem cnt_yes {x : Int} {cs : List Int} {k : Nat} (h : k < cs.length) (hx : (cs.getD k 0 == x) = true) : cnt x (cs.take (k + 1)) = cnt x (cs.take k) + 1 := by
  have e : cs.getD k 0 = cs[k] := by simp [List.getD_eq_getElem?_getD, List.getElem?_eq_getElem h]
  rw [e] at hx
  unfold cnt
  rw [List.take_succ_eq_append_getElem h, List.filter_append, List.length_append, List.filter_cons, hx]
  simp
theorem cnt_no {x : Int} {cs : List Int} {k : Nat} (h : k < cs.length) (hx : (cs.getD k 0 == x) = false) : cnt x (cs.take (k + 1)) = cnt x (cs.take k) := by
  have e : cs.getD k 0 = cs[k] := by simp [List.getD_eq_getElem?_getD, List.getElem?_eq_getElem h]
  rw [e] at hx
  unfold cnt
  rw [List.take_succ_eq_append_getElem h, List.filter_append, List.length_append, List.filter_cons, hx]
  simp

def cntB (s : Int) (cs : List Int) (x : Int) : Int := if Bd.okB s cs then cnt x cs else -1

end Go.Proofs.Ytpopbcmfbcmojaa

namespace Go.Proofs.Ytpopbcmfbcmojaa
set_option maxRecDepth 100000
open Go.RowKit

section
variable (s : Int) (w : World) (A : Option Addr) (n c : Nat) (cs : List Int)
theorem i_invV (h : Ints w w.heap.size A n cs) (hn : n ≤ 49) (hv : Bd.okB s cs = true) : Calls Try.prog 16 #[.agg #[.int .i64 s, .slice A n c]] w fun e w' => Made s (othCs cs) w e w' := by
  have := i_inv s w w.heap.size A n c cs h (Nat.le_refl _) (by omega)
  rwa [invS, invCs, if_pos hv, if_pos hv] at this
theorem i_invN (h : Ints w w.heap.size A n cs) (hn : n ≤ 49) (hv : Bd.okB s cs = false) : Calls Try.prog 16 #[.agg #[.int .i64 s, .slice A n c]] w fun e w' => Made 0 [] w e w' := by
  have := i_inv s w w.heap.size A n c cs h (Nat.le_refl _) (by omega)
  rwa [invS, invCs, if_neg (by rw [hv]; decide), if_neg (by rw [hv]; decide)] at this
variable (k : Int)
theorem i_trV (h : Ints w w.heap.size A n cs) (hn : n ≤ 49) (hv : Bd.okB s cs = true) (hk : Pt.okK k = true) : Calls Try.prog 13 #[.agg #[.int .i64 s, .slice A n c], .int .i64 k] w fun e w' => Made s (Bd.mv s k cs) w e w' := by
  have := i_trB s k w w.heap.size A n c cs h (Nat.le_refl _) (by omega)
  rwa [trS, trCs, show trOk s cs k = true by rw [trOk, hv, hk]; rfl, if_pos rfl, if_pos rfl] at this
theorem i_trN (h : Ints w w.heap.size A n cs) (hn : n ≤ 49) (hv : trOk s cs k = false) : Calls Try.prog 13 #[.agg #[.int .i64 s, .slice A n c], .int .i64 k] w fun e w' => Made 0 [] w e w' := by
  have := i_trB s k w w.heap.size A n c cs h (Nat.le_refl _) (by omega)
  rwa [trS, trCs, hv, if_neg (by decide), if_neg (by decide)] at this
end

theorem len_of {cs : List Int} {n m : Nat} (h : (othCs cs).length = m) (h0 : cs.length = n) : n = m := by rw [othCs_len] at h; omega
theorem len_mv {s k : Int} {cs : List Int} {n m : Nat} (h : (Bd.mv s k cs).length = m) (h0 : cs.length = n) : n = m := by rw [Bd.mv_len] at h; omega
theorem oth_oth {x : Int} (h0 : 0 ≤ x) (h2 : x ≤ 2) : oth (oth x) = x := by
  have h3 : x = 0 ∨ x = 1 ∨ x = 2 := by omega
  rcases h3 with rfl | rfl | rfl <;> decide
theorem othCs_twice {cs : List Int} (h : OkL cs) : othCs (othCs cs) = cs := by
  rw [okL_mem] at h
  unfold othCs
  rw [List.map_map]
  conv => rhs; rw [← List.map_id cs]
  exact List.map_congr_left fun x hx => oth_oth (h x hx).1 (h x hx).2
theorem othCs_set (l : List Int) (p : Nat) (x : Int) : othCs (l.set p x) = (othCs l).set p (oth x) := by
  unfold othCs; rw [List.map_set]
theorem othCs_getD (cs : List Int) (j : Nat) : oth (cs.getD j 0) = (othCs cs).getD j 0 := by
  unfold othCs
  rw [List.getD_eq_getElem?_getD, List.getD_eq_getElem?_getD, List.getElem?_map]
  cases cs[j]? <;> rfl
theorem steps_oth (f : Nat → Nat) (cs : List Int) (j : Nat) (l : List Int) : othCs (Bd.steps f cs j l) = Bd.steps f (othCs cs) j (othCs l) := by
  induction j with
  | zero => rfl
  | succ j ih => rw [Bd.steps, Bd.steps, othCs_set, ih, othCs_getD]
theorem mv_oth (s k : Int) (cs : List Int) : Bd.mv s k (othCs cs) = othCs (Bd.mv s k cs) := by
  unfold Bd.mv
  rw [steps_oth, othCs_len]
end Go.Proofs.Ytpopbcmfbcmojaa

namespace Go.Proofs.Ytpopbcmfbcmojaa
set_option maxRecDepth 100000

theorem perm_of_sub {l r : List Nat} (hn : l.Nodup) (hs : ∀ x ∈ l, x ∈ r) (hl : r.length ≤ l.length) : List.Perm l r := by
  induction l generalizing r with
  | nil =>
    have e : r = [] := List.eq_nil_of_length_eq_zero (by simpa using hl)
    subst e
    exact .refl _
  | cons x l ih =>
    have hx : x ∈ r := hs x (by simp)
    obtain ⟨hxl, hnl⟩ := List.nodup_cons.1 hn
    refine List.Perm.trans ?_ (List.perm_cons_erase hx).symm
    refine List.Perm.cons x (ih hnl (fun y hy => ?_) ?_)
    · have hne : y ≠ x := fun e => hxl (e ▸ hy)
      exact (List.mem_erase_of_ne hne).2 (hs y (by simp [hy]))
    · rw [List.length_erase_of_mem hx]
      simp at hl
      omega

theorem nodup_map {f : Nat → Nat} {l : List Nat} (hn : l.Nodup) (hf : ∀ a ∈ l, ∀ b ∈ l, f a = f b → a = b) : (l.map f).Nodup := by
  induction l with
  | nil => simp
  | cons x l ih =>
    obtain ⟨hx, hl⟩ := List.nodup_cons.1 hn
    rw [List.map_cons, List.nodup_cons]
    refine ⟨fun hm => ?_, ih hl fun a ha b hb => hf a (by simp [ha]) b (by simp [hb])⟩
    obtain ⟨y, hy, he⟩ := List.mem_map.1 hm
    have := hf y (by simp [hy]) x (by simp) he
    exact hx (this ▸ hy)

theorem list_as_map (cs : List Int) : cs = (List.range cs.length).map fun p => cs.getD p 0 := by
  apply List.ext_getElem
  · simp
  · intro i h1 h2
    simp [List.getD_eq_getElem?_getD, List.getElem?_eq_getElem h1]

theorem mv_perm {s k : Int} {cs : List Int} (h1 : 1 ≤ s) (h2 : s ≤ 7) (hn : (cs.length : Int) = s * s) (k1 : 0 ≤ k) (k2 : k < 8) : List.Perm (Bd.mv s k cs) cs := by
  have hp : List.Perm ((List.range cs.length).map (Bd.imgN s k)) (List.range cs.length) := by
    refine perm_of_sub (nodup_map List.nodup_range fun a ha b hb he => ?_) (fun x hx => ?_) (by simp)
    · exact Bd.imgN_inj s k cs.length h1 h2 hn k1 k2 a b (List.mem_range.1 ha) (List.mem_range.1 hb) he
    · obtain ⟨p, hp, rfl⟩ := List.mem_map.1 hx
      exact List.mem_range.2 (Bd.imgN_lt s k cs.length p h1 h2 hn (List.mem_range.1 hp)).1
  have e1 := list_as_map (Bd.mv s k cs)
  rw [Bd.mv_len] at e1
  rw [e1]
  refine ((hp.map fun q => (Bd.mv s k cs).getD q 0).symm).trans ?_
  rw [List.map_map]
  conv => rhs; rw [list_as_map cs]
  have : (List.range cs.length).map ((fun q => (Bd.mv s k cs).getD q 0) ∘ Bd.imgN s k) = (List.range cs.length).map fun p => cs.getD p 0 := by
    apply List.map_congr_left
    intro p hp
    have hp' := List.mem_range.1 hp
    have := Bd.steps_at (f := Bd.imgN s k) (cs := cs) (l := cs) (j := cs.length) (fun a b ha hb he => Bd.imgN_inj s k cs.length h1 h2 hn k1 k2 a b ha hb he) (fun a ha => (Bd.imgN_lt s k cs.length a h1 h2 hn ha).1) hp'
    show (Bd.mv s k cs).getD (Bd.imgN s k p) 0 = _
    unfold Bd.mv
    rw [List.getD_eq_getElem?_getD, this]
    rfl
  rw [this]

theorem cnt_perm {a b : List Int} (h : List.Perm a b) (x : Int) : cnt x a = cnt x b := by
  unfold cnt
  rw [(h.filter _).length_eq]
theorem cnt_mv {s k : Int} {cs : List Int} (hv : Bd.okB s cs = true) (hk : Pt.okK k = true) (x : Int) : cnt x (Bd.mv s k cs) = cnt x cs := by
  obtain ⟨a, b, c, _⟩ := (Bd.okB_iff s cs).1 hv
  obtain ⟨k1, k2⟩ := (Pt.okK_iff k).1 hk
  exact cnt_perm (mv_perm a b c k1 k2) x
theorem cnt_oth {cs : List Int} (h : OkL cs) {x : Int} (x1 : 1 ≤ x) (x2 : x ≤ 2) : cnt (3 - x) (othCs cs) = cnt x cs := by
  rw [okL_mem] at h
  unfold cnt othCs
  rw [List.filter_map, List.length_map]
  congr 2
  apply List.filter_congr
  intro c hc
  have h3 : c = 0 ∨ c = 1 ∨ c = 2 := by have := h c hc; omega
  have h4 : x = 1 ∨ x = 2 := by omega
  rcases h3 with rfl | rfl | rfl <;> rcases h4 with rfl | rfl <;> rfl
theorem cnt_nonneg (x : Int) (cs : List Int) : 0 ≤ cnt x cs := by unfold cnt; omega
end Go.Proofs.Ytpopbcmfbcmojaa

namespace Go.Proofs.Ytpopbcmfbcmojaa
set_option maxRecDepth 100000
open Go.RowKit

end Go.Proofs.Ytpopbcmfbcmojaa

namespace Go.Proofs.Ytpopbcmfbcmojaa
set_option maxRecDepth 100000
open Go.RowKit

theorem cntB_mv {s k x N : Int} {cs : List Int} (hv : Bd.okB s cs = true) (hk : Pt.okK k = true) (hN : cntB s cs x = N) : cntB s (Bd.mv s k cs) x = N := by
  rw [← hN, cntB, cntB, if_pos hv, if_pos (okB_mv hv), cnt_mv hv hk]
theorem cntB_oth {s x N : Int} {cs : List Int} (hv : Bd.okB s cs = true) (x1 : 1 ≤ x) (x2 : x ≤ 2) (hN : cntB s cs x = N) : cntB s (othCs cs) (3 - x) = N := by
  rw [← hN, cntB, cntB, if_pos hv, if_pos (okB_oth hv), cnt_oth (okL_mem.2 ((Bd.okB_iff s cs).1 hv).2.2.2) x1 x2]
theorem cntB_ok {s x N : Int} {cs : List Int} (hN : cntB s cs x = N) (h0 : 0 ≤ N) : Bd.okB s cs = true := by
  rcases Bool.eq_false_or_eq_true (Bd.okB s cs) with h | h
  · exact h
  · rw [cntB, h] at hN
    have : (-1 : Int) = N := hN
    omega

theorem mv_at {s k : Int} {cs : List Int} (h1 : 1 ≤ s) (h2 : s ≤ 7) (hn : (cs.length : Int) = s * s) (k1 : 0 ≤ k) (k2 : k < 8) {p : Nat} (hp : p < cs.length) : (Bd.mv s k cs)[Bd.imgN s k p]? = some (cs.getD p 0) :=
  Bd.steps_at (f := Bd.imgN s k) (cs := cs) (l := cs) (j := cs.length) (fun a b ha hb he => Bd.imgN_inj s k cs.length h1 h2 hn k1 k2 a b ha hb he) (fun a ha => (Bd.imgN_lt s k cs.length a h1 h2 hn ha).1) hp
theorem imgN_comp {s a b : Int} {n p : Nat} (h1 : 1 ≤ s) (h2 : s ≤ 7) (hn : (n : Int) = s * s) (a1 : 0 ≤ a) (a2 : a < 8) (b1 : 0 ≤ b) (b2 : b < 8) (hp : p < n) : Bd.imgN s (Pt.comp a b) p = Bd.imgN s b (Bd.imgN s a p) := by
  obtain ⟨c1, c2⟩ := Pt.comp_bd a b a1 a2 b1 b2
  obtain ⟨l1, e1⟩ := Bd.imgN_lt s a n p h1 h2 hn hp
  have hc := Pt.comp_tr a b s p a1 a2 b1 b2 h1 h2 (by omega) (by omega)
  rw [Pt.tr_in s a p h1 h2 (by omega) (by omega) a1 a2, ← e1, Pt.tr_in s b _ h1 h2 (by omega) (by omega) b1 b2, Pt.tr_in s (Pt.comp a b) p h1 h2 (by omega) (by omega) c1 c2] at hc
  unfold Bd.imgN at hc ⊢
  rw [hc]
theorem mv_mv {s a b : Int} {cs : List Int} (h1 : 1 ≤ s) (h2 : s ≤ 7) (hn : (cs.length : Int) = s * s) (a1 : 0 ≤ a) (a2 : a < 8) (b1 : 0 ≤ b) (b2 : b < 8) : Bd.mv s b (Bd.mv s a cs) = Bd.mv s (Pt.comp a b) cs := by
  obtain ⟨c1, c2⟩ := Pt.comp_bd a b a1 a2 b1 b2
  have hl : (Bd.mv s a cs).length = cs.length := Bd.mv_len _ _ _
  apply List.ext_getElem?
  intro q
  by_cases hq : q < cs.length
  · obtain ⟨p, hp, rfl⟩ := Bd.imgN_sur s (Pt.comp a b) cs.length h1 h2 hn c1 c2 q hq
    obtain ⟨l1, _⟩ := Bd.imgN_lt s a cs.length p h1 h2 hn hp
    rw [mv_at h1 h2 hn c1 c2 hp, imgN_comp h1 h2 hn a1 a2 b1 b2 hp, mv_at h1 h2 (by rw [hl]; exact hn) b1 b2 (by rw [hl]; exact l1), List.getD_eq_getElem?_getD, mv_at h1 h2 hn a1 a2 hp]
    rfl
  · rw [List.getElem?_eq_none (by rw [Bd.mv_len, hl]; omega), List.getElem?_eq_none (by rw [Bd.mv_len]; omega)]

theorem Ints.dr {w : World} {n : Nat} {A : Option Addr} {xs : List Int} (h : Ints w w.heap.size A n xs) : Ints w.drew w.drew.heap.size A n xs := h
/-- An image whose size and cells have names. -/
theorem i_trW (s k : Int) (w : World) (A : Option Addr) (n c : Nat) (cs ds : List Int) (h : Ints w w.heap.size A n cs) (hn : n ≤ 49) (hv : Bd.okB s cs = true) (hk : Pt.okK k = true) (hd : Bd.mv s k cs = ds) :
    Calls Try.prog 13 #[.agg #[.int .i64 s, .slice A n c], .int .i64 k] w fun e w' => ∃ A1 c1, e = .returned (.agg #[.int .i64 s, .slice A1 n c1]) ∧ Own w' w.heap.size A1 n c1 ds ∧ Below w.heap.size w w' := by
  have hl := h.1
  refine (i_trV s w A n c cs k h hn hv hk).mono ?_
  rintro e w' ⟨A1, n1, c1, rfl, ho, hb⟩
  rw [hd] at ho
  have e1 := ho.1
  rw [← hd, Bd.mv_len] at e1
  obtain rfl : n1 = n := by omega
  exact ⟨_, _, rfl, ho, hb⟩
theorem len_comp {s k : Int} {cs : List Int} {n m : Nat} (h : (Bd.mv s k cs).length = m) (h0 : cs.length = n) : n = m := len_mv h h0
end Go.Proofs.Ytpopbcmfbcmojaa

namespace Go.Proofs.Ytpopbcmfbcmojaa
set_option maxRecDepth 100000
open Go.RowKit

theorem r_anyPtB (B g q : Nat) (s : Int) (w : World) (h : Rdr w B g q) (hq : q ≤ 100000000000) (s1 : 0 ≤ s) (s2 : s ≤ 8) :
    Calls Try.prog 81 #[.pointer (some ⟨g, 0, none⟩), .int .i64 s] w fun e w' => Got (fun x => -1 ≤ x ∧ x ≤ 64) w B g (q + 2) e w' := by
  have hlt := h.lt
  obtain ⟨m1, m2⟩ := sq8 s s1 s2
  go_enter Try.func81, Try.ntmps81
  go_wp2_with fail
  refine (r_pick B g q _ _ h (by omega)).mono ?_
  rintro e w1 ⟨x, rfl, x1, x2, hr, hw⟩
  have hz := hw.size
  have Hw := Lib.hid hw
  clear hw h
  by_cases h0 : x = 0
  · have hb : ((x : Int) == 0) = true := by simpa using h0
    clear h0
    go_wp2_with fail
    have hl := Ints.lit w1 3 [-1, s * s, 49]
    have hlt1 := hr.lt
    refine (r_one B g (q + 1) _ _ [-1, s * s, 49] _ _ (hr.below ((Below.refl _ _).alloc (Nat.le_refl _) _) hlt1) (by omega) hl (by simp) (by simp) (by simp) (by rintro b o e; injection e with e; injection e; omega)).mono ?_
    rintro e w2 ⟨y, rfl, hy, hr2, hw2⟩
    have Hr := Lib.hid hr2
    have Hy : Hid (-1 ≤ y ∧ y ≤ 64) := Lib.hid (by simp at hy; omega)
    have Hw2 := Lib.hid (gtrans Hw.out (gtrans (World.grownBy_alloc w1 _ (some g)) hw2))
    clear hr hw2 hl hy hr2
    go_wp2_with fail
    go_ret
    exact ⟨_, rfl, Hy.out, Hr.out, Hw2.out⟩
  · have hb : ((x : Int) == 0) = false := by simpa using h0
    clear h0
    go_wp2_with fail
    all_goals
      refine (r_pick B g (q + 1) _ _ hr (by omega)).mono ?_
      rintro e w2 ⟨y, rfl, y1, y2, hr2, hw2⟩
      have Hr := Lib.hid hr2
      have Hw2 := Lib.hid (gtrans Hw.out hw2)
      have Hy : Hid (-1 ≤ y ∧ y ≤ 64) := Lib.hid (by omega)
      clear hr hw2 hr2 y1 y2
      go_wp2_with fail
      go_ret
      exact ⟨_, rfl, Hy.out, Hr.out, Hw2.out⟩

/-- A drawn board and a point that may be wrong. -/
def DrawnAP (w : World) (B g lo q : Nat) (e : Ending) (w' : World) : Prop :=
  ∃ (s : Int) (A : Option Addr) (n c : Nat) (cs : List Int) (q' : Nat) (p : Int), e = .returned (.tuple #[.agg #[.int .i64 s, .slice A n c], .int .i64 p]) ∧ IntsF w' lo A n cs ∧ n ≤ 49 ∧ 0 ≤ s ∧ s ≤ 8 ∧ -1 ≤ p ∧ p ≤ 64 ∧ Rdr w' B g q' ∧ q' ≤ q ∧ w.grownBy w' (some g)

/-- The world when 'boardPoint' has stored its board. -/
theorem bp_end {w yf : World} {B g q' n c : Nat} {s : Int} {A : Option Addr} {cs : List Int} (X2 : Bx 25 yf w.heap.size 0 (.slice none 0 0)) (Hi : IntsF yf (w.heap.size + 1) A n cs) (Hr : Rdr yf B g q') (hBw : B ≤ w.heap.size) (hgw : g < w.heap.size) (Hg : w.grownBy yf (some g)) :
    ((yf.setCell ⟨w.heap.size, 0, none⟩ (.int .i64 s)).setCell ⟨w.heap.size, 1, none⟩ (.slice A n c)).cell? ⟨w.heap.size, 0, none⟩ = some (.int .i64 s) ∧
    ((yf.setCell ⟨w.heap.size, 0, none⟩ (.int .i64 s)).setCell ⟨w.heap.size, 1, none⟩ (.slice A n c)).cell? ⟨w.heap.size, 1, none⟩ = some (.slice A n c) ∧
    IntsF ((yf.setCell ⟨w.heap.size, 0, none⟩ (.int .i64 s)).setCell ⟨w.heap.size, 1, none⟩ (.slice A n c)) w.heap.size A n cs ∧
    Rdr ((yf.setCell ⟨w.heap.size, 0, none⟩ (.int .i64 s)).setCell ⟨w.heap.size, 1, none⟩ (.slice A n c)) B g q' ∧
    w.grownBy ((yf.setCell ⟨w.heap.size, 0, none⟩ (.int .i64 s)).setCell ⟨w.heap.size, 1, none⟩ (.slice A n c)) (some g) :=
  ⟨((X2.set0 s).set1 (.slice A n c)).cell0, ((X2.set0 s).set1 (.slice A n c)).cell1,
    ((Hi.far ⟨w.heap.size, 0, none⟩ (Nat.lt_succ_self _) (.int .i64 s)).far ⟨w.heap.size, 1, none⟩ (Nat.lt_succ_self _) (.slice A n c)).weaken (by omega),
    (Hr.far ⟨w.heap.size, 0, none⟩ (by show g ≠ w.heap.size; omega) (by show B ≤ w.heap.size; omega) (.int .i64 s)).far ⟨w.heap.size, 1, none⟩ (by show g ≠ w.heap.size; omega) (by show B ≤ w.heap.size; omega) (.slice A n c),
    gset (gset Hg ⟨w.heap.size, 0, none⟩ (Nat.le_refl _) (.int .i64 s)) ⟨w.heap.size, 1, none⟩ (Nat.le_refl _) (.slice A n c)⟩

set_option maxRecDepth 100000 in
set_option maxHeartbeats 8000000 in
theorem r_bp (B g q : Nat) (w : World) (h : Rdr w B g q) (hq : q ≤ 1000000000) :
    Calls Try.prog 44 #[.pointer (some ⟨g, 0, none⟩)] w fun e w' => DrawnAP w B g w.heap.size (q + 205) e w' := by
  have hlt := h.lt
  have hb1 : Below w.heap.size w (w.alloc (.cells #[.int .i64 0, .slice none 0 0] 25)) := (Below.refl _ _).alloc (Nat.le_refl _) _
  have X2 := Lib.hid (Bx.new 25 w 0 (.slice none 0 0))
  have Hr := Lib.hid (h.below hb1 hlt)
  have Hb := Lib.hid hb1
  have hsz : (w.alloc (.cells #[.int .i64 0, .slice none 0 0] 25)).heap.size = w.heap.size + 1 := by simp
  have Hsz := Lib.hid hsz
  clear h hb1 hsz
  go_enter Try.func44, Try.ntmps44
  go_wp2_with fail
  refine (r_any B g q _ Hr.out (by omega)).mono ?_
  rintro e y ⟨s, A, n, c, cs, q1, rfl, hi, hn, s0, s8, hr, hq1, hg⟩
  rw [Hsz.out] at hi
  have X2 := Lib.hid (X2.out.grown hg (fun e => by have := Option.some.inj e; omega))
  have Hg := Lib.hid (gtrans (gbelow (some g) Hb.out (Nat.le_refl _)) hg)
  have Hr := Lib.hid hr
  have Hi := Lib.hid hi
  have z2 := X2.out.lt
  clear hr hg hi Hb
  go_upto_region 2 with (fail)
  obtain ⟨y3, hy3, hb3, z3, z4⟩ := new_box y (.cells #[.int .i64 s, .slice A n c] 25)
  have X4 : Hid (Bx 25 y3 y.heap.size s (.slice A n c)) := Lib.hid (by rw [hy3]; exact Bx.new _ _ _ _)
  rw [← hy3]
  clear hy3
  have X2 := Lib.hid (X2.out.below hb3 X2.out.lt)
  have Hr := Lib.hid (Hr.out.below hb3 Hr.out.lt)
  have Hi := Lib.hid (Hi.out.below hb3)
  have Hg := Lib.hid (gtrans Hg.out (gbelow (some g) hb3 (Nat.le_refl _)))
  clear hb3
  have t0 := X4.out.cell0
  have t1 := X4.out.cell1
  have t2 := X4.out.lt
  go_wp2_with fail
  refine (r_anyPtB B g q1 s _ Hr.out (by omega) s0 s8).mono ?_
  rintro e y4 ⟨p, rfl, ⟨p1, p2⟩, hr, hg⟩
  have X2 := Lib.hid (X2.out.grown hg (fun e => by have := Option.some.inj e; omega))
  have X4 := Lib.hid (X4.out.grown hg (fun e => by have := Option.some.inj e; omega))
  have Hi := Lib.hid (Hi.out.grown hg (by omega))
  have Hg := Lib.hid (gtrans Hg.out hg)
  have Hr := Lib.hid hr
  clear hr hg t0 t1 t2
  have t0 := X4.out.cell0
  have t1 := X4.out.cell1
  have t2 := X4.out.lt
  go_wp2_with fail
  refine (r_pick B g (q1 + 2) _ _ Hr.out (by omega)).mono ?_
  rintro e y5 ⟨f, rfl, f1, f2, hr, hg⟩
  have X2 := Lib.hid (X2.out.grown hg (fun e => by have := Option.some.inj e; omega))
  have X4 := Lib.hid (X4.out.grown hg (fun e => by have := Option.some.inj e; omega))
  have Hi := Lib.hid (Hi.out.grown hg (by omega))
  have Hg := Lib.hid (gtrans Hg.out hg)
  have Hr := Lib.hid hr
  have z5 := X4.out.lt
  clear hr hg t0 t1 t2 f2
  by_cases hf : f = 0 ∧ 0 < n
  · obtain ⟨hf0, hn0⟩ := hf
    have hfb : ((f : Int) == 0) = true := by simpa using hf0
    have hnI : (0 : Int) < n := by omega
    have t0 := X4.out.cell0
    have t1 := X4.out.cell1
    have t2 := X4.out.lt
    clear hf0
    go_wp2_with fail
    go_loopw [5, 6] (fun v i wr => ∃ (k : Nat) (p : Int), k ≤ n ∧ i = .int .i64 (k : Nat) ∧ v = .int .i64 p ∧ -1 ≤ p ∧ p ≤ 64 ∧ Bx 25 wr w.heap.size 0 (.slice none 0 0) ∧ Bx 25 wr y.heap.size s (.slice A n c) ∧ IntsF wr (w.heap.size + 1) A n cs ∧ Rdr wr B g (q1 + 2 + 1) ∧ w.grownBy wr (some g)) (fun _ i _ => n - (intOf i).toNat)
    case atStart => exact ⟨0, p, by omega, rfl, rfl, p1, p2, X2.out, X4.out, Hi.out, Hr.out, Hg.out⟩
    case round =>
      clear t0 t1 t2 p1 p2 X2 X4 Hi Hr Hg
      obtain ⟨k, p9, hk, rfl, rfl, p1, p2, x2, x4, hi, hr, hg⟩ := hrel
      have X2 := Lib.hid x2
      have X4 := Lib.hid x4
      have Hi := Lib.hid hi
      have Hr := Lib.hid hr
      have Hg := Lib.hid hg
      clear x2 x4 hi hr hg
      have t0 := X4.out.cell0
      have t1 := X4.out.cell1
      have t2 := X4.out.lt
      by_cases hkn : k < n
      · have hkI : (k : Int) < n := by omega
        by_cases hp0 : 0 ≤ p9
        · obtain ⟨pn, rfl⟩ := Int.eq_ofNat_of_zero_le hp0
          obtain ⟨m, hm⟩ : ∃ m, pn % n = m := ⟨_, rfl⟩
          have hmn : m < n := by rw [← hm]; exact Nat.mod_lt _ hn0
          have hmod : Int.tmod (pn : Int) (n : Int) = (m : Int) := by rw [← hm]; rfl
          obtain ⟨m2, hm2⟩ : ∃ m, (pn + 1) % n = m := ⟨_, rfl⟩
          have hmn2 : m2 < n := by rw [← hm2]; exact Nat.mod_lt _ hn0
          have hmod2 : Int.tmod ((pn : Int) + 1) (n : Int) = (m2 : Int) := by rw [← hm2]; rfl
          obtain ⟨b, o, hA, hbl, hc⟩ : ∃ b o, A = some ⟨b, o, none⟩ ∧ b < wr.heap.size ∧ ∀ j, j < n → wr.cell? ⟨b, o + j, none⟩ = some (.int .i64 (cs.getD j 0)) := by
            rcases Hi.out.ints.2 with h0 | ⟨b, o, hA, hbB, hc⟩
            · omega
            · exact ⟨b, o, hA, hbB, hc⟩
          have ck := hc m hmn
          obtain ⟨e0, he0⟩ : ∃ e, cs.getD m 0 = e := ⟨_, rfl⟩
          rw [he0] at ck
          rw [hA] at t1
          clear hc he0 hm hm2
          by_cases he : e0 = 0
          · subst he
            go_wp2_with fail
            go_quiet (fail)
            go_wp2_with fail
            go_roundw
            case rel => exact ⟨k + 1, _, by omega, by go_num, rfl, by omega, by omega, X2.out.drewN _, X4.out.drewN _, Hi.out, Hr.out, ⟨Hg.out.os, Hg.out.tape, Hg.out.output, Hg.out.size, Hg.out.block⟩⟩
            case measure => simp [intOf]; omega
          · have heb : (e0 == 0) = false := by simpa using he
            go_wp2_with fail
            go_quiet (fail)
            clear ck
            obtain ⟨yf, hyf⟩ : ∃ y, y = wr.drewN nq := ⟨_, rfl⟩
            have X2 : Hid (Bx 25 yf w.heap.size 0 (.slice none 0 0)) := Lib.hid (by rw [hyf]; exact X2.out.drewN _)
            have X4 : Hid (Bx 25 yf y.heap.size s (.slice A n c)) := Lib.hid (by rw [hyf]; exact X4.out.drewN _)
            have Hi : Hid (IntsF yf (w.heap.size + 1) A n cs) := Lib.hid (by rw [hyf]; exact Hi.out)
            have Hr : Hid (Rdr yf B g (q1 + 2 + 1)) := Lib.hid (by rw [hyf]; exact Hr.out)
            have Hg : Hid (w.grownBy yf (some g)) := Lib.hid (by rw [hyf]; exact ⟨Hg.out.os, Hg.out.tape, Hg.out.output, Hg.out.size, Hg.out.block⟩)
            rw [← hyf]
            clear hyf t0 t1 t2
            have hBg := Hr.out.1
            obtain ⟨k0', k1', hi9, hr9, hg9⟩ := bp_end (s := s) (c := c) X2.out Hi.out Hr.out (by omega) (by omega) Hg.out
            have K0 := Lib.hid k0'
            have K1 := Lib.hid k1'
            have Hi9 := Lib.hid hi9
            have Hr9 := Lib.hid hr9
            have Hg9 := Lib.hid hg9
            have r0 := X2.out.cell0
            have r1 := X2.out.cell1
            have r2 := X2.out.frozen 0
            have r3 := X2.out.frozen 1
            have r4 := X2.out.lt
            have t0 := X4.out.cell0
            have t1 := X4.out.cell1
            have t2 := X4.out.lt
            clear k0' k1' hi9 hr9 hg9
            rw [hA] at K0 K1 Hi9 Hr9 Hg9
            go_wp2_with fail
            have k0 := K0.out
            have k1 := K1.out
            refine bodyPost_ret (v := .tuple #[.agg #[.int .i64 s, .slice (some ⟨b, o, none⟩) n c], .int .i64 (pn : Nat)]) (by simp [results, Try.results44, go_sem, k0, k1]) rfl ?_
            exact ⟨_, _, _, _, _, _, _, rfl, Hi9.out, hn, s0, s8, by omega, by omega, Hr9.out, by omega, Hg9.out⟩
        · obtain rfl : p9 = -1 := by omega
          clear hp0
          go_wp2_with fail
          go_quiet (fail)
          obtain ⟨yf, hyf⟩ : ∃ y, y = wr.drewN nq := ⟨_, rfl⟩
          have X2 : Hid (Bx 25 yf w.heap.size 0 (.slice none 0 0)) := Lib.hid (by rw [hyf]; exact X2.out.drewN _)
          have X4 : Hid (Bx 25 yf y.heap.size s (.slice A n c)) := Lib.hid (by rw [hyf]; exact X4.out.drewN _)
          have Hi : Hid (IntsF yf (w.heap.size + 1) A n cs) := Lib.hid (by rw [hyf]; exact Hi.out)
          have Hr : Hid (Rdr yf B g (q1 + 2 + 1)) := Lib.hid (by rw [hyf]; exact Hr.out)
          have Hg : Hid (w.grownBy yf (some g)) := Lib.hid (by rw [hyf]; exact ⟨Hg.out.os, Hg.out.tape, Hg.out.output, Hg.out.size, Hg.out.block⟩)
          rw [← hyf]
          clear hyf t0 t1 t2
          have hBg := Hr.out.1
          obtain ⟨k0', k1', hi9, hr9, hg9⟩ := bp_end (s := s) (c := c) X2.out Hi.out Hr.out (by omega) (by omega) Hg.out
          have K0 := Lib.hid k0'
          have K1 := Lib.hid k1'
          have Hi9 := Lib.hid hi9
          have Hr9 := Lib.hid hr9
          have Hg9 := Lib.hid hg9
          have r0 := X2.out.cell0
          have r1 := X2.out.cell1
          have r2 := X2.out.frozen 0
          have r3 := X2.out.frozen 1
          have r4 := X2.out.lt
          have t0 := X4.out.cell0
          have t1 := X4.out.cell1
          have t2 := X4.out.lt
          clear k0' k1' hi9 hr9 hg9
          go_wp2_with fail
          have k0 := K0.out
          have k1 := K1.out
          refine bodyPost_ret (v := .tuple #[.agg #[.int .i64 s, .slice A n c], .int .i64 (-1)]) (by simp [results, Try.results44, go_sem, k0, k1]) rfl ?_
          exact ⟨_, _, _, _, _, _, _, rfl, Hi9.out, hn, s0, s8, by omega, by omega, Hr9.out, by omega, Hg9.out⟩
      · have hkI : ¬ (k : Int) < n := by omega
        go_wp2_with fail
        go_quiet (fail)
        obtain ⟨yf, hyf⟩ : ∃ y, y = wr.drewN nq := ⟨_, rfl⟩
        have X2 : Hid (Bx 25 yf w.heap.size 0 (.slice none 0 0)) := Lib.hid (by rw [hyf]; exact X2.out.drewN _)
        have X4 : Hid (Bx 25 yf y.heap.size s (.slice A n c)) := Lib.hid (by rw [hyf]; exact X4.out.drewN _)
        have Hi : Hid (IntsF yf (w.heap.size + 1) A n cs) := Lib.hid (by rw [hyf]; exact Hi.out)
        have Hr : Hid (Rdr yf B g (q1 + 2 + 1)) := Lib.hid (by rw [hyf]; exact Hr.out)
        have Hg : Hid (w.grownBy yf (some g)) := Lib.hid (by rw [hyf]; exact ⟨Hg.out.os, Hg.out.tape, Hg.out.output, Hg.out.size, Hg.out.block⟩)
        rw [← hyf]
        clear hyf t0 t1 t2
        have hBg := Hr.out.1
        obtain ⟨k0', k1', hi9, hr9, hg9⟩ := bp_end (s := s) (c := c) X2.out Hi.out Hr.out (by omega) (by omega) Hg.out
        have K0 := Lib.hid k0'
        have K1 := Lib.hid k1'
        have Hi9 := Lib.hid hi9
        have Hr9 := Lib.hid hr9
        have Hg9 := Lib.hid hg9
        have r0 := X2.out.cell0
        have r1 := X2.out.cell1
        have r2 := X2.out.frozen 0
        have r3 := X2.out.frozen 1
        have r4 := X2.out.lt
        have t0 := X4.out.cell0
        have t1 := X4.out.cell1
        have t2 := X4.out.lt
        clear k0' k1' hi9 hr9 hg9
        go_wp2_with fail
        have k0 := K0.out
        have k1 := K1.out
        refine bodyPost_ret (v := .tuple #[.agg #[.int .i64 s, .slice A n c], .int .i64 p9]) (by simp [results, Try.results44, go_sem, k0, k1]) rfl ?_
        exact ⟨_, _, _, _, _, _, _, rfl, Hi9.out, hn, s0, s8, by omega, by omega, Hr9.out, by omega, Hg9.out⟩
  · by_cases hf0 : f = 0
    · have hn0 : n = 0 := by omega
      have hfb : ((f : Int) == 0) = true := by simpa using hf0
      have t0 := X4.out.cell0
      have t1 := X4.out.cell1
      have t2 := X4.out.lt
      subst hn0
      clear hf0
      have hBg := Hr.out.1
      obtain ⟨k0', k1', hi9, hr9, hg9⟩ := bp_end (s := s) (c := c) X2.out Hi.out Hr.out (by omega) (by omega) Hg.out
      have K0 := Lib.hid k0'
      have K1 := Lib.hid k1'
      have Hi9 := Lib.hid hi9
      have Hr9 := Lib.hid hr9
      have Hg9 := Lib.hid hg9
      have r0 := X2.out.cell0
      have r1 := X2.out.cell1
      have r2 := X2.out.frozen 0
      have r3 := X2.out.frozen 1
      have r4 := X2.out.lt
      have t0 := X4.out.cell0
      have t1 := X4.out.cell1
      have t2 := X4.out.lt
      clear k0' k1' hi9 hr9 hg9
      go_wp2_with fail
      have k0 := K0.out
      have k1 := K1.out
      refine bodyPost_ret (v := .tuple #[.agg #[.int .i64 s, .slice A 0 c], .int .i64 p]) (by simp [results, Try.results44, go_sem, k0, k1]) rfl ?_
      exact ⟨_, _, _, _, _, _, _, rfl, Hi9.out, hn, s0, s8, by omega, by omega, Hr9.out, by omega, Hg9.out⟩
    · have hfb : ((f : Int) == 0) = false := by simpa using hf0
      clear hf0
      have hBg := Hr.out.1
      obtain ⟨k0', k1', hi9, hr9, hg9⟩ := bp_end (s := s) (c := c) X2.out Hi.out Hr.out (by omega) (by omega) Hg.out
      have K0 := Lib.hid k0'
      have K1 := Lib.hid k1'
      have Hi9 := Lib.hid hi9
      have Hr9 := Lib.hid hr9
      have Hg9 := Lib.hid hg9
      have r0 := X2.out.cell0
      have r1 := X2.out.cell1
      have r2 := X2.out.frozen 0
      have r3 := X2.out.frozen 1
      have r4 := X2.out.lt
      have t0 := X4.out.cell0
      have t1 := X4.out.cell1
      have t2 := X4.out.lt
      clear k0' k1' hi9 hr9 hg9
      go_wp2_with fail
      have k0 := K0.out
      have k1 := K1.out
      refine bodyPost_ret (v := .tuple #[.agg #[.int .i64 s, .slice A n c], .int .i64 p]) (by simp [results, Try.results44, go_sem, k0, k1]) rfl ?_
      exact ⟨_, _, _, _, _, _, _, rfl, Hi9.out, hn, s0, s8, by omega, by omega, Hr9.out, by omega, Hg9.out⟩
end Go.Proofs.Ytpopbcmfbcmojaa

namespace Go.Proofs.Ytpopbcmfbcmojaa
set_option maxRecDepth 100000
open Go.RowKit

/-- A world behind another one, for loops. -/
def BelowY (Y w : World) : Prop := Below Y.heap.size Y w
theorem BelowY.step {Y w w' : World} (h : BelowY Y w) (hb : Below w.heap.size w w') : BelowY Y w' := bstep h hb
set_option maxHeartbeats 2000000 in
theorem d_hash (w : World) (a : Option Addr) (len cap : Nat) (zs : List Int) (h : IsRow .u8 w a len cap zs) :
    Calls Try.prog 32 #[.slice a len cap] w fun e w' => DrawnL w e w' := by
  have hb1 : Below w.heap.size w (w.alloc (.cells #[.int .i64 0, .slice none 0 0] 25)) := (Below.refl _ _).alloc (Nat.le_refl _) _
  have X2 := Lib.hid (Bx.new 25 w 0 (.slice none 0 0))
  have Hb := Lib.hid hb1
  have hsz : (w.alloc (.cells #[.int .i64 0, .slice none 0 0] 25)).heap.size = w.heap.size + 1 := by simp
  have Hsz := Lib.hid hsz
  have H := Lib.hid (h.below hb1)
  clear h hb1 hsz
  go_enter Try.func32, Try.ntmps32
  go_wp2_with fail
  refine (r_new _ _ _ _ zs H.out).mono ?_
  rintro e y ⟨g, rfl, hr, hb⟩
  have Hg := Lib.hid hr.1
  rw [Hsz.out] at Hg
  have hg1 := Hg.out
  have X2 := Lib.hid (X2.out.below hb X2.out.lt)
  have Hb := Lib.hid (Hb.out.trans (hb.mono (by rw [Hsz.out]; omega)))
  have zy := X2.out.lt
  have Hr := Lib.hid hr
  clear hr hb
  go_wp2_with fail
  refine (r_any _ g 0 _ Hr.out (by omega)).mono ?_
  rintro e y2 ⟨s, A, n, c, cs, q', rfl, hi, hn, s0, s8, hr, hq, hg⟩
  have X2 := Lib.hid (X2.out.grown hg (fun e => by have := Option.some.inj e; omega))
  have Hb := Lib.hid (Hb.out.trans (below_g hg (by omega) (fun k hk => by have := Option.some.inj hk; omega)))
  have Hi := Lib.hid (((hi.far ⟨w.heap.size, 0, none⟩ (by show w.heap.size < y.heap.size; omega) (.int .i64 s)).far ⟨w.heap.size, 1, none⟩ (by show w.heap.size < y.heap.size; omega) (.slice A n c)).ints)
  clear hi hr hg hq
  have r0 := X2.out.cell0
  have r1 := X2.out.cell1
  have r2 := X2.out.frozen 0
  have r3 := X2.out.frozen 1
  have r4 := X2.out.lt
  have K0 := Lib.hid ((X2.out.set0 s).cell0)
  have K1 := Lib.hid (((X2.out.set0 s).set1 (.slice A n c)).cell1)
  have Hb3 := Lib.hid ((Hb.out.setCell (p := ⟨w.heap.size, 0, none⟩) (Nat.le_refl _) (.int .i64 s)).setCell (p := ⟨w.heap.size, 1, none⟩) (Nat.le_refl _) (.slice A n c))
  go_wp2_with fail
  have k0 := K0.out
  have k1 := K1.out
  refine bodyPost_ret (v := .agg #[.int .i64 s, .slice A n c]) (by simp [results, Try.results32, go_sem, k0, k1]) rfl ?_
  exact ⟨_, _, _, _, _, rfl, Hi.out, hn, s0, s8, Hb3.out⟩

set_option maxRecDepth 100000 in
set_option maxHeartbeats 4000000 in
theorem d_patAt (w : World) (a : Option Addr) (len cap : Nat) (zs : List Int) (h : IsRow .u8 w a len cap zs) :
    Calls Try.prog 10 #[.slice a len cap] w fun e w' => DrawnLI (fun x => -1 ≤ x ∧ x ≤ 64) w e w' := by
  have hb1 : Below w.heap.size w (w.alloc (.cells #[.int .i64 0, .slice none 0 0] 25)) := (Below.refl _ _).alloc (Nat.le_refl _) _
  have X2 := Lib.hid (Bx.new 25 w 0 (.slice none 0 0))
  have Hb := Lib.hid hb1
  have hsz : (w.alloc (.cells #[.int .i64 0, .slice none 0 0] 25)).heap.size = w.heap.size + 1 := by simp
  have Hsz := Lib.hid hsz
  have H := Lib.hid (h.below hb1)
  clear h hb1 hsz
  go_enter Try.func10, Try.ntmps10
  go_wp2_with fail
  refine (r_new _ _ _ _ zs H.out).mono ?_
  rintro e y ⟨g, rfl, hr, hb⟩
  have Hg := Lib.hid hr.1
  rw [Hsz.out] at Hg
  have hg1 := Hg.out
  have X2 := Lib.hid (X2.out.below hb X2.out.lt)
  have Hb := Lib.hid (Hb.out.trans (hb.mono (by rw [Hsz.out]; omega)))
  have zy := X2.out.lt
  obtain ⟨Bq, Hr⟩ : ∃ Bq, Hid (Rdr y Bq g 0) := ⟨_, Lib.hid hr⟩
  clear hr hb
  go_wp2_with fail
  have hgy := Hr.out.lt
  refine (r_bp Bq g 0 _ Hr.out (by omega)).mono ?_
  rintro e y2 ⟨s, A, n, c, cs, q', p, rfl, hi, hn, s0, s8, p1, p2, hr, hq, hg⟩
  have X2 := Lib.hid (X2.out.grown hg (fun e => by have := Option.some.inj e; omega))
  have Hb := Lib.hid (Hb.out.trans (below_g hg (by omega) (fun k hk => by have := Option.some.inj hk; omega)))
  have Hi := Lib.hid (((hi.far ⟨w.heap.size, 0, none⟩ (by show w.heap.size < y.heap.size; omega) (.int .i64 s)).far ⟨w.heap.size, 1, none⟩ (by show w.heap.size < y.heap.size; omega) (.slice A n c)).ints)
  clear hi hr hg hq
  have r0 := X2.out.cell0
  have r1 := X2.out.cell1
  have r2 := X2.out.frozen 0
  have r3 := X2.out.frozen 1
  have r4 := X2.out.lt
  have K0 := Lib.hid ((X2.out.set0 s).cell0)
  have K1 := Lib.hid (((X2.out.set0 s).set1 (.slice A n c)).cell1)
  have Hb3 := Lib.hid ((Hb.out.setCell (p := ⟨w.heap.size, 0, none⟩) (Nat.le_refl _) (.int .i64 s)).setCell (p := ⟨w.heap.size, 1, none⟩) (Nat.le_refl _) (.slice A n c))
  go_wp2_with fail
  have k0 := K0.out
  have k1 := K1.out
  refine bodyPost_ret (v := .tuple #[.agg #[.int .i64 s, .slice A n c], .int .i64 p]) (by simp [results, Try.results10, go_sem, k0, k1]) rfl ?_
  exact ⟨_, _, _, _, _, _, rfl, Hi.out, hn, s0, s8, ⟨p1, p2⟩, Hb3.out⟩

theorem ixb (b o n c k : Nat) (hk : k < n) (w' : World) : (Instr.indexAt 23 (.slice (some ⟨b, o, none⟩) n c) (.int .i64 ((k : Nat) : Int))).run Try.prog w' = .ok (.pointer (some ⟨b, o + k, none⟩)) w' := by
  have h0 : (0 : Int) ≤ (k : Nat) := by omega
  have h1 : ((k : Nat) : Int) < n := by omega
  go_simp
end Go.Proofs.Ytpopbcmfbcmojaa

namespace Go.Proofs.Ytpopbcmfbcmojaa
set_option maxRecDepth 100000
open Go.RowKit

theorem i_patW (s p M : Int) (w : World) (A : Option Addr) (n c : Nat) (cs : List Int) (h : Ints w w.heap.size A n cs) (hn : n ≤ 49) (hm : Hid (Pa.ans s cs p = M)) :
    Calls Try.prog 11 #[.agg #[.int .i64 s, .slice A n c], .int .i64 p] w fun e w' => e = .returned (.int .i64 M) ∧ Below w.heap.size w w' := by
  have := i_patAt s p w w.heap.size A n c cs h (Nat.le_refl _) (by omega)
  rwa [hm.out] at this
theorem s_patW (s p M : Int) (w : World) (A : Option Addr) (n c : Nat) (cs : List Int) (h : Ints w w.heap.size A n cs) (hn : n ≤ 49) (hm : Hid (Pa.ans s cs p = M)) :
    Calls Try.prog 12 #[.agg #[.int .i64 s, .slice A n c], .int .i64 p] w fun e w' => e = .returned (.int .i64 M) ∧ Below w.heap.size w w' := by
  have := s_patAt s p w w.heap.size A n c cs h (Nat.le_refl _) (by omega)
  rwa [hm.out] at this
theorem i_trQ (s k p q : Int) (w : World) (hq : Hid (Pt.tr s k p = q)) : Calls Try.prog 14 #[.int .i64 s, .int .i64 k, .int .i64 p] w fun e w' => e = .returned (.int .i64 q) ∧ Below w.heap.size w w' := by
  have := i_tr s k p w
  rwa [hq.out] at this
theorem i_canN (n u : Int) (w : World) (hu : Hid (Pk.canA n = u)) : Calls Try.prog 15 #[.int .i64 n] w fun e w' => e = .returned (.int .i64 u) ∧ Below w.heap.size w w' := by
  have := i_canPat n w
  rwa [hu.out] at this
theorem i_ipN (n u : Int) (w : World) (hu : Hid (Pk.invA n = u)) : Calls Try.prog 17 #[.int .i64 n] w fun e w' => e = .returned (.int .i64 u) ∧ Below w.heap.size w w' := by
  have := i_invPat n w
  rwa [hu.out] at this
theorem Pa.ans_ok {s p : Int} {cs : List Int} (hv : Bd.okB s cs = true) (hp : Pt.okP s p = true) : Pa.ans s cs p = Pa.pat s cs p := by
  unfold Pa.ans
  rw [hv, hp, if_pos (by decide)]
theorem Pa.ans_no {s p : Int} {cs : List Int} (h : (Bd.okB s cs && Pt.okP s p) = false) : Pa.ans s cs p = -1 := by
  unfold Pa.ans
  rw [h, if_neg (by decide)]
end Go.Proofs.Ytpopbcmfbcmojaa

