/-
  The cells around a point in the program; its pattern.
-/
import Derived.Test.YtpopbcmfbcmojaaPaI
namespace Go.Proofs.Ytpopbcmfbcmojaa
set_option maxRecDepth 100000
open Go.RowKit

/-- What PatternAt answers. -/
def Pa.ans (s : Int) (cs : List Int) (p : Int) : Int := if (Bd.okB s cs && Pt.okP s p) = true then Pa.pat s cs p else -1
theorem near_len (s : Int) (cs : List Int) (p : Int) : (Pa.near s cs p).length = 9 := rfl
set_option maxRecDepth 100000 in
set_option maxHeartbeats 8000000 in
theorem i_aroundC (s p : Int) (w : World) (B : Nat) (A : Option Addr) (n cp : Nat) (cs : List Int) (h : Ints w B A n cs) (hB : B ≤ w.heap.size) (hv : Bd.okB s cs = true) (h3 : 0 ≤ p) (h4 : p < s * s) :
    Calls Try.prog 47 #[.agg #[.int .i64 s, .slice A n cp], .int .i64 p] w fun e w' => ∃ A' c', e = .returned (.slice A' 9 c') ∧ Own w' w.heap.size A' 9 c' (Pa.near s cs p) ∧ Below w.heap.size w w' := by
  obtain ⟨h1, h2, _, _⟩ := (Bd.okB_iff s cs).1 hv
  obtain ⟨d1, d2, d3, d4, _⟩ := Pt.dm s p h1 h2 h3 h4
  obtain ⟨R, hR⟩ : ∃ R, p / s = R := ⟨_, rfl⟩
  obtain ⟨C, hC⟩ : ∃ C, p % s = C := ⟨_, rfl⟩
  obtain ⟨y1, hy1, hb1, z1, z2⟩ := new_box w (.cells #[.int .i64 s, .slice A n cp] 25)
  have X1 := Lib.hid (show Bx 25 y1 w.heap.size s (.slice A n cp) by rw [hy1]; exact Bx.new _ _ _ _)
  have I1 := Lib.hid (h.below hb1 hB)
  have HB := Lib.hid hb1
  have Hv := Lib.hid hv
  have HR := Lib.hid hR
  have HC := Lib.hid hC
  rw [hR] at d1 d2
  rw [hC] at d3 d4
  clear h hb1 hv hR hC
  go_enter Try.func47, Try.ntmps47
  go_upto_region 1 with (fail)
  rw [← hy1]
  clear hy1
  have u0 := X1.out.cell0
  have u1 := X1.out.cell1
  have ul := X1.out.lt
  go_wp2_with fail
  refine (i_place s p _ h1 h2 h3 h4).mono ?_
  rintro e y2 ⟨rfl, hb2⟩
  rw [HR.out, HC.out]
  have X1 := Lib.hid (X1.out.below hb2 ul)
  have I1 := Lib.hid (I1.out.below hb2 (by omega))
  have HB := Lib.hid (HB.out.trans (hb2.mono HB.out.size))
  have z3 := hb2.size
  clear hb2 u0 u1 ul
  go_wp2_with fail
  refine (i_place 3 4 _ (by omega) (by omega) (by omega) (by omega)).mono ?_
  rintro e y3 ⟨rfl, hb3⟩
  rw [show (4 : Int) / 3 = 1 from rfl, show (4 : Int) % 3 = 1 from rfl]
  have X1 := Lib.hid (X1.out.below hb3 X1.out.lt)
  have I1 := Lib.hid (I1.out.below hb3 (by omega))
  have HB := Lib.hid (HB.out.trans (hb3.mono HB.out.size))
  have z4 := hb3.size
  clear hb3
  go_upto_region 2 with (fail)
  obtain ⟨y4, hy4, hb4, z5, z6⟩ := new_box y3 (.cells #[.int .i64 R, .int .i64 C] 64)
  have X5 := Lib.hid (show Bx 64 y4 y3.heap.size R (.int .i64 C) by rw [hy4]; exact Bx.new _ _ _ _)
  obtain ⟨y5, hy5, hb5, z7, z8⟩ := new_box y4 (.cells #[.int .i64 1, .int .i64 1] 64)
  have X6 := Lib.hid (show Bx 64 y5 y4.heap.size 1 (.int .i64 1) by rw [hy5]; exact Bx.new _ _ _ _)
  have X5 := Lib.hid (X5.out.below hb5 X5.out.lt)
  have X1 := Lib.hid (X1.out.below (hb4.trans (hb5.mono (by omega))) X1.out.lt)
  have I1 := Lib.hid (I1.out.below (hb4.trans (hb5.mono (by omega))) (by omega))
  have HB := Lib.hid (HB.out.trans ((hb4.trans (hb5.mono (by omega))).mono HB.out.size))
  have Hy : Hid ((y3.alloc (.cells #[.int .i64 R, .int .i64 C] 64)).alloc (.cells #[.int .i64 1, .int .i64 1] 64) = y5) := Lib.hid (by rw [hy5, hy4])
  obtain ⟨G5, hG5⟩ : ∃ G, y3.heap.size = G := ⟨_, rfl⟩
  have e4 : y4.heap.size = G5 + 1 := by omega
  rw [e4] at X6
  rw [hG5] at X5
  clear hy4 hy5 hb4 hb5
  rw [Hy.out, hG5]
  go_wp2_with (at_make; refine make0t 58 Try.underlying58 rfl _ rfl _ y5.heap.size _ 9 rfl (by omega) (by omega) (Nat.le_refl _) ?_; intro y6 hown hb6 hlt6)
  have Ho := Lib.hid hown
  have X1 := Lib.hid (X1.out.below hb6 X1.out.lt)
  have X5 := Lib.hid (X5.out.below hb6 X5.out.lt)
  have X6 := Lib.hid (X6.out.below hb6 X6.out.lt)
  have I1 := Lib.hid (I1.out.below hb6 (by omega))
  have HB := Lib.hid (HB.out.trans (hb6.mono HB.out.size))
  have zG := X6.out.lt
  have z9 : G5 + 2 ≤ y5.heap.size := by omega
  have z10 : w.heap.size < G5 := by omega
  obtain ⟨GR, hGR⟩ : ∃ G, y5.heap.size = G := ⟨_, rfl⟩
  rw [hGR] at Ho z9
  rw [hGR]
  clear hown hb6 z1 z2 z3 z4 z5 z6 z7 z8 hG5 e4 hlt6 hGR Hy
  go_loopg [18] 10 (fun q v18 wr => ∃ k : Nat, k + q = 10 ∧ k ≤ 9 ∧ v18 = .int .i64 (k : Nat) ∧ Own wr GR (some ⟨GR, 0, none⟩) 9 9 ((Pa.near s cs p).take k ++ List.replicate (9 - k) 0) ∧ Bx 25 wr w.heap.size s (.slice A n cp) ∧ Bx 64 wr G5 R (.int .i64 C) ∧ Bx 64 wr (G5 + 1) 1 (.int .i64 1) ∧ Ints wr B A n cs ∧ Below w.heap.size w wr)
  case atStart => exact ⟨0, by omega, by omega, rfl, by simpa using Ho.out, X1.out, X5.out, X6.out, I1.out, HB.out⟩
  case round =>
    clear Ho X1 X5 X6 I1 HB zG
    obtain ⟨k, hk, hk9, rfl, ho, x1, x5, x6, i1, hb⟩ := hrel
    obtain ⟨wi, rfl⟩ : ∃ wi : World, wi = wr := ⟨_, rfl⟩
    have Ho := Lib.hid ho
    have X1 := Lib.hid x1
    have X5 := Lib.hid x5
    have X6 := Lib.hid x6
    have I1 := Lib.hid i1
    have HB := Lib.hid hb
    have gl := (ho.ge rfl).2
    clear ho x1 x5 x6 i1 hb
    by_cases hkk : k = 9
    · subst hkk
      have hlt : ¬ (((9 : Nat) : Int)) < 9 := by omega
      have ho2 : Own wi GR (some ⟨GR, 0, none⟩) 9 9 (Pa.near s cs p) := by
        have := Ho.out
        rw [Nat.sub_self, List.take_of_length_le (by rw [near_len]; exact Nat.le_refl _)] at this
        simpa using this
      have Ho2 := Lib.hid (ho2.weaken (B' := w.heap.size) (by omega))
      clear ho2
      go_wp2_with fail
      go_ret
      exact ⟨_, _, rfl, Ho2.out, HB.out⟩
    · have hlt : ((k : Nat) : Int) < 9 := by omega
      have hk0 : (0 : Int) ≤ (k : Nat) := by omega
      have u0 := X1.out.cell0
      have u1 := X1.out.cell1
      have ul := X1.out.lt
      obtain ⟨r3, hr3⟩ : ∃ r, ((k : Nat) : Int) / 3 = r := ⟨_, rfl⟩
      obtain ⟨c3, hc3⟩ : ∃ c, ((k : Nat) : Int) % 3 = c := ⟨_, rfl⟩
      have r30 : 0 ≤ r3 := by omega
      have r32 : r3 ≤ 2 := by omega
      have c30 : 0 ≤ c3 := by omega
      have c32 : c3 ≤ 2 := by omega
      have Hr3 := Lib.hid hr3
      have Hc3 := Lib.hid hc3
      have hrow : Pa.row s p (k : Nat) = R + r3 - 1 := by unfold Pa.row; rw [HR.out, hr3]; omega
      have hcol : Pa.col s p (k : Nat) = C + c3 - 1 := by unfold Pa.col; rw [HC.out, hc3]; omega
      obtain ⟨rr, hrr⟩ : ∃ r, R + r3 - 1 = r := ⟨_, rfl⟩
      obtain ⟨cc, hcc⟩ : ∃ c, C + c3 - 1 = c := ⟨_, rfl⟩
      obtain ⟨d, hd⟩ : ∃ d, Pa.dgt s cs rr cc = d := ⟨_, rfl⟩
      have hnear : (Pa.near s cs p).getD k 0 = d := by rw [Pa.near_at _ _ _ (by omega), Pa.dg_dgt, hrow, hcol, hrr, hcc, hd]
      have Hd := Lib.hid hd
      have Hnear := Lib.hid hnear
      clear hr3 hc3 hrow hcol hd hnear
      go_wp2_with fail
      refine (i_place 3 (k : Nat) _ (by omega) (by omega) (by omega) (by omega)).mono ?_
      rintro e v1 ⟨rfl, hb1⟩
      rw [Hr3.out, Hc3.out]
      have Ho := Lib.hid (Ho.out.below hb1)
      have X1 := Lib.hid (X1.out.below hb1 ul)
      have X5 := Lib.hid (X5.out.below hb1 X5.out.lt)
      have X6 := Lib.hid (X6.out.below hb1 X6.out.lt)
      have I1 := Lib.hid (I1.out.below hb1 (by omega))
      have HB := Lib.hid (HB.out.trans (hb1.mono HB.out.size))
      have gl1 := hb1.size
      clear hb1 u0 u1 ul
      go_upto_region 7 with (fail)
      obtain ⟨v2, hy2, hb2, z1, z2⟩ := new_box v1 (.cells #[.int .i64 r3, .int .i64 c3] 64)
      have X9 := Lib.hid (show Bx 64 v2 v1.heap.size r3 (.int .i64 c3) by rw [hy2]; exact Bx.new _ _ _ _)
      have Ho := Lib.hid (Ho.out.below hb2)
      have X1 := Lib.hid (X1.out.below hb2 X1.out.lt)
      have X5 := Lib.hid (X5.out.below hb2 X5.out.lt)
      have X6 := Lib.hid (X6.out.below hb2 X6.out.lt)
      have I1 := Lib.hid (I1.out.below hb2 (by omega))
      have HB := Lib.hid (HB.out.trans (hb2.mono HB.out.size))
      rw [← hy2]
      clear hy2 hb2
      have u0 := X1.out.cell0
      have u1 := X1.out.cell1
      have ul := X1.out.lt
      have a0 := X5.out.cell0
      have a1 := X5.out.cell1
      have al := X5.out.lt
      have b0 := X6.out.cell0
      have b1 := X6.out.cell1
      have bl := X6.out.lt
      have e0 := X9.out.cell0
      have e1 := X9.out.cell1
      have el := X9.out.lt
      go_wp2_with fail
      refine (i_digit s rr cc _ B A n cp cs I1.out (by omega) Hv.out).mono ?_
      rintro e v3 ⟨rfl, hb3⟩
      rw [Hd.out]
      have Ho := Lib.hid (Ho.out.below hb3)
      have X1 := Lib.hid (X1.out.below hb3 X1.out.lt)
      have X5 := Lib.hid (X5.out.below hb3 X5.out.lt)
      have X6 := Lib.hid (X6.out.below hb3 X6.out.lt)
      have I1 := Lib.hid (I1.out.below hb3 (by omega))
      have HB := Lib.hid (HB.out.trans (hb3.mono HB.out.size))
      clear hb3 u0 u1 ul a0 a1 al b0 b1 bl e0 e1 el X9
      have hcell : ∃ u, v3.cell? ⟨GR, k, none⟩ = some u := by
        have := World.ownsRow.cellAt Ho.out.2 k (by omega)
        rw [this]
        exact ⟨_, List.getElem?_eq_getElem (by rw [List.length_map, Ho.out.1]; omega)⟩
      obtain ⟨u, hu⟩ := hcell
      have hf := World.ownsRow.frozenAt Ho.out.2 k
      have hst := (Ho.out.stored k ((Pa.near s cs p).getD k 0)).1
      rw [fill_succ (near_len s cs p) (by omega), Hnear.out] at hst
      have Hs := Lib.hid hst
      have X1 := Lib.hid (X1.out.far (p := ⟨GR, k, none⟩) (by show w.heap.size ≠ GR; omega) (.int .i64 d))
      have X5 := Lib.hid (X5.out.far (p := ⟨GR, k, none⟩) (by show G5 ≠ GR; omega) (.int .i64 d))
      have X6 := Lib.hid (X6.out.far (p := ⟨GR, k, none⟩) (by show G5 + 1 ≠ GR; omega) (.int .i64 d))
      have I1 := Lib.hid (show Ints (v3.setCell ⟨GR, k, none⟩ (.int .i64 d)) B A n cs from I1.out.keep (fun q hq => Below.heap_setCell _ _ _ q (by show q ≠ GR; omega)))
      have HB := Lib.hid (HB.out.setCell (p := ⟨GR, k, none⟩) (by show w.heap.size ≤ GR; omega) (.int .i64 d))
      clear hst
      go_wp2_with fail
      go_roundg (9 - k)
      case measure => omega
      case rel => exact ⟨k + 1, by omega, by omega, by go_num, Hs.out, X1.out, X5.out, X6.out, I1.out, HB.out⟩
theorem i_patAt (s p : Int) (w : World) (B : Nat) (A : Option Addr) (n c : Nat) (cs : List Int) (h : Ints w B A n cs) (hB : B ≤ w.heap.size) (hn : n ≤ 1000000000) :
    Calls Try.prog 11 #[.agg #[.int .i64 s, .slice A n c], .int .i64 p] w fun e w' => e = .returned (.int .i64 (Pa.ans s cs p)) ∧ Below w.heap.size w w' := by
  obtain ⟨y1, hy1, hb1, z1, z2⟩ := new_box w (.cells #[.int .i64 s, .slice A n c] 25)
  have X1 := Lib.hid (show Bx 25 y1 w.heap.size s (.slice A n c) by rw [hy1]; exact Bx.new _ _ _ _)
  have I1 := Lib.hid (h.below hb1 hB)
  have HB := Lib.hid hb1
  clear h hb1
  go_enter Try.func11, Try.ntmps11
  go_upto_region 1 with (fail)
  rw [← hy1]
  clear hy1
  have u0 := X1.out.cell0
  have u1 := X1.out.cell1
  have ul := X1.out.lt
  go_wp2_with fail
  refine (i_validBoard s _ B A n c cs I1.out (by omega) hn).mono ?_
  rintro e y2 ⟨rfl, hb2⟩
  have X1 := Lib.hid (X1.out.below hb2 ul)
  have I1 := Lib.hid (I1.out.below hb2 (by omega))
  have HB := Lib.hid (HB.out.trans (hb2.mono HB.out.size))
  have z3 := hb2.size
  clear hb2 u0 u1 ul
  have u0 := X1.out.cell0
  have u1 := X1.out.cell1
  have ul := X1.out.lt
  by_cases hv : Bd.okB s cs = true
  · rw [hv]
    by_cases hp : Pt.okP s p = true
    · have hf : Pa.ans s cs p = Pk.pat (Pa.near s cs p) := by unfold Pa.ans; rw [hv, hp, if_pos (by decide)]; rfl
      have HF := Lib.hid hf
      obtain ⟨_, _, p3, p4⟩ := (Pt.okP_iff s p).1 hp
      have Hp := Lib.hid hp
      clear hf hp
      go_wp2_with fail
      refine (i_point s p _).mono ?_
      rintro e y3 ⟨rfl, rfl⟩
      rw [Hp.out]
      go_wp2_with fail
      refine (i_aroundC s p _ B A n c cs I1.out (by omega) hv p3 p4).mono ?_
      rintro e y4 ⟨A4, c4, rfl, ho, hb4⟩
      have I4 := Lib.hid ho.ints
      have HB := Lib.hid (HB.out.trans (hb4.mono HB.out.size))
      clear ho hb4
      go_wp2_with fail
      refine (i_pattern _ (Pa.near_nine hv) _ _ _ _ I4.out).mono ?_
      rintro e y5 ⟨rfl, rfl⟩
      go_wp2_with fail
      go_ret
      exact ⟨ret_int HF.out.symm, HB.out⟩
    · have hp' : Pt.okP s p = false := by simpa using hp
      have hf : Pa.ans s cs p = -1 := by unfold Pa.ans; rw [hv, hp', if_neg (by decide)]
      have HF := Lib.hid hf
      have Hp := Lib.hid hp'
      clear hf hp hp'
      go_wp2_with fail
      refine (i_point s p _).mono ?_
      rintro e y3 ⟨rfl, rfl⟩
      rw [Hp.out]
      go_wp2_with fail
      go_ret
      exact ⟨ret_int HF.out.symm, HB.out⟩
  · have hv' : Bd.okB s cs = false := by simpa using hv
    have hf : Pa.ans s cs p = -1 := by unfold Pa.ans; rw [hv', Bool.false_and, if_neg (by decide)]
    have HF := Lib.hid hf
    rw [hv']
    clear hv hv' hf
    go_wp2_with fail
    go_ret
    exact ⟨ret_int HF.out.symm, HB.out⟩
end Go.Proofs.Ytpopbcmfbcmojaa
