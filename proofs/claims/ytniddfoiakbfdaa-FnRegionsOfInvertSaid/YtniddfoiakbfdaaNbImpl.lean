/-
  The program's neighbours: a row of the call's own, the list of PurePt; for every two ints.
-/
import Derived.Test.YtniddfoiakbfdaaImplPtB
import Derived.Test.YtniddfoiakbfdaaNbSpec
namespace Go.Proofs.Ytniddfoiakbfdaa
set_option maxRecDepth 100000
open Go.RowKit

theorem i_nbs (s p : Int) (w : World) (h1 : 1 ≤ s) (h2 : s ≤ 7) (h3 : 0 ≤ p) (h4 : p < s * s) :
    Calls Try.prog 67 #[.int .i64 s, .int .i64 p] w fun e w' => ∃ A n c, e = .returned (.slice A n c) ∧ Own w' w.heap.size A n c (Pt.nbs s p) ∧ Below w.heap.size w w' := by
  have hp : Pt.okP s p = true := (Pt.okP_iff s p).2 ⟨h1, h2, h3, h4⟩
  have hb := Pt.sq_bd s h1 h2
  obtain ⟨d1, d2, d3, d4, d5⟩ := Pt.dm s p h1 h2 h3 h4
  have hrow := Pt.row_pos s p h1 h2 h3 h4
  clear d5
  go_enter Try.func67, Try.ntmps67
  go_wp2_with fail
  refine (i_point _ _ _).mono ?_
  rintro e w' ⟨rfl, rfl⟩
  go_wp2_with fail
  refine (i_place _ _ _ h1 h2 h3 h4).mono ?_
  rintro e w1 ⟨rfl, hb1⟩
  have hz1 := hb1.size
  go_upto_if 16 with (fail)
  have At := Lib.hid (At2.new w1 (p / s) (p % s))
  have Hw := Lib.hid (hb1.alloc hz1 (.cells #[.int .i64 (p / s), .int .i64 (p % s)] 87))
  clear hb1
  obtain ⟨wb, hwb⟩ : ∃ wb, wb = w1.alloc (.cells #[.int .i64 (p / s), .int .i64 (p % s)] 87) := ⟨_, rfl⟩
  rw [← hwb] at At Hw
  have hzb : wb.heap.size = w1.heap.size + 1 := by rw [hwb]; simp
  have Hzb := Lib.hid hzb
  have hlb : w1.heap.size < wb.heap.size := by omega
  rw [← hwb]
  clear hwb hzb
  have Ho := Lib.hid (Own.nil wb wb.heap.size)
  have Hb := Lib.hid (Below.refl wb.heap.size wb)
  have c0 := At.out.cell0
  have c1 := At.out.cell1
  go_cut [6] (fun v wx => Slc wb.heap.size wb v wx (Pt.nbL s p))
  case first =>
    by_cases hA : s ≤ p
    · have hA' : 0 < p / s := hrow.1.2 hA
      go_wp2_with (at_builtin; refine app1 rfl _ _ rfl _ _ _ _ _ _ _ _ rfl rfl (by simp) Ho.out (Nat.le_refl _) (by omega) ?_; intro A' c' w' hown' hb' hlt' _)
      go_meet
      exact ⟨_, _, _, rfl, by rw [Pt.nbL, if_pos hA]; exact hown', hb'⟩
    · have hA' : ¬ 0 < p / s := fun h => hA (hrow.1.1 h)
      go_wp2_with fail
      go_meet
      exact ⟨_, _, _, rfl, by rw [Pt.nbL, if_neg (by omega)]; exact Ho.out, Hb.out⟩
  case rest =>
    clear Ho Hb c0 c1
    obtain ⟨A, n, c, rfl, ho, hbe⟩ := hcut
    have hn := ho.1
    have hz := hbe.size
    have hn1 : n ≤ 1 := by rw [← hn]; exact len_if _
    have Ho := Lib.hid ho
    have Hb := Lib.hid hbe
    clear hn ho hbe
    have c0 := (At.out.below Hb.out hlb).cell0
    have c1 := (At.out.below Hb.out hlb).cell1
    go_upto_if 25 with (fail)
    go_cut [6] (fun v wx => Slc wb.heap.size wb v wx (Pt.nbL s p ++ Pt.nbA s p))
    case first =>
      by_cases hA : 0 < p % s
      · go_wp2_with (at_builtin; refine app1 rfl _ _ rfl _ _ _ _ _ _ _ _ rfl rfl (by simp) Ho.out hz (by omega) ?_; intro A' c' w' hown' hb' hlt' _)
        go_meet
        exact ⟨_, _, _, rfl, by rw [Pt.nbA, if_pos hA]; exact hown', Hb.out.trans (hb'.mono (by omega))⟩
      · go_wp2_with fail
        go_meet
        exact ⟨_, _, _, rfl, by rw [Pt.nbA, if_neg (by omega), List.append_nil]; exact Ho.out, Hb.out⟩
    case rest =>
      clear Ho Hb hz c0 c1
      obtain ⟨A, n, c, rfl, ho, hbe⟩ := hcut
      have hn := ho.1
      have hz := hbe.size
      have hn2 : n ≤ 2 := by rw [← hn, List.length_append]; exact Nat.add_le_add (len_if _) (len_if _)
      have Ho := Lib.hid ho
      have Hb := Lib.hid hbe
      clear hn ho hbe
      have c0 := (At.out.below Hb.out hlb).cell0
      have c1 := (At.out.below Hb.out hlb).cell1
      go_upto_if 35 with (fail)
      go_cut [6] (fun v wx => Slc wb.heap.size wb v wx (Pt.nbL s p ++ Pt.nbA s p ++ Pt.nbB s p))
      case first =>
        by_cases hA : p % s < s - 1
        · go_wp2_with (at_builtin; refine app1 rfl _ _ rfl _ _ _ _ _ _ _ _ rfl rfl (by simp) Ho.out hz (by omega) ?_; intro A' c' w' hown' hb' hlt' _)
          go_meet
          exact ⟨_, _, _, rfl, by rw [Pt.nbB, if_pos hA]; exact hown', Hb.out.trans (hb'.mono (by omega))⟩
        · go_wp2_with fail
          go_meet
          exact ⟨_, _, _, rfl, by rw [Pt.nbB, if_neg (by omega), List.append_nil]; exact Ho.out, Hb.out⟩
      case rest =>
        clear Ho Hb hz c0 c1
        obtain ⟨A, n, c, rfl, ho, hbe⟩ := hcut
        have hn := ho.1
        have hz := hbe.size
        have hn3 : n ≤ 3 := by rw [← hn, List.length_append, List.length_append]; exact Nat.add_le_add (Nat.add_le_add (len_if _) (len_if _)) (len_if _)
        have Ho := Lib.hid ho
        have Hb := Lib.hid hbe
        clear hn ho hbe
        have c0 := (At.out.below Hb.out hlb).cell0
        have c1 := (At.out.below Hb.out hlb).cell1
        by_cases hA : p + s < s * s
        · have hA' : p / s < s - 1 := hrow.2.2 hA
          have Hf : Hid (Pt.nbs s p = Pt.nbL s p ++ Pt.nbA s p ++ Pt.nbB s p ++ [p + s]) := Lib.hid (by rw [Pt.nbs, Pt.nbU, if_pos hA])
          go_wp2_with (at_builtin; refine app1 rfl _ _ rfl _ _ _ _ _ _ _ _ rfl rfl (by simp) Ho.out hz (by omega) ?_; intro A' c' w' hown' hb' hlt' _)
          go_ret
          exact ⟨_, _, _, rfl, by rw [Hf.out]; exact hown'.weaken (by omega), Hw.out.trans ((Hb.out.trans (hb'.mono (by omega))).mono (by omega))⟩
        · have hA' : ¬ p / s < s - 1 := fun h => hA (hrow.2.1 h)
          have Hf : Hid (Pt.nbs s p = Pt.nbL s p ++ Pt.nbA s p ++ Pt.nbB s p) := Lib.hid (by rw [Pt.nbs, Pt.nbU, if_neg hA, List.append_nil])
          go_wp2_with fail
          go_ret
          exact ⟨_, _, _, rfl, by rw [Hf.out]; exact Ho.out.weaken (by omega), Hw.out.trans (Hb.out.mono (by omega))⟩

theorem nb_no {s p : Int} (h : Pt.okP s p = false) : Pt.nb s p = [] := by rw [Pt.nb, h]; rfl
theorem nb_yes {s p : Int} (h : Pt.okP s p = true) : Pt.nb s p = Pt.nbs s p := by rw [Pt.nb, if_pos h]

theorem i_nb (s p : Int) (w : World) :
    Calls Try.prog 67 #[.int .i64 s, .int .i64 p] w fun e w' => ∃ A n c, e = .returned (.slice A n c) ∧ Own w' w.heap.size A n c (Pt.nb s p) ∧ Below w.heap.size w w' := by
  by_cases h : Pt.okP s p = true
  · obtain ⟨h1, h2, h3, h4⟩ := (Pt.okP_iff s p).1 h
    rw [nb_yes h]
    exact i_nbs s p w h1 h2 h3 h4
  · have h' : Pt.okP s p = false := by simpa using h
    have H := Lib.hid (nb_no h')
    go_enter Try.func67, Try.ntmps67
    go_wp2_with fail
    refine (i_point _ _ _).mono ?_
    rintro e w' ⟨rfl, rfl⟩
    go_wp2_with fail
    go_ret
    exact ⟨_, _, _, rfl, by rw [H.out]; exact Own.nil _ _, Below.refl _ _⟩

end Go.Proofs.Ytniddfoiakbfdaa
