/-
  The model's neighbours: a row of the call's own, the list of PurePt.
-/
import Derived.Test.YteldfjibmaigiaaDoorSpecA
import Derived.Test.YteldfjibmaigiaaDoorWords
import Derived.Deep.DeepCutAuto
namespace Go.Proofs.YteldfjibmaigiaaDoor
set_option maxRecDepth 100000
open Go.RowKit

def Slc (B : Nat) (w0 : World) (v : Value) (w : World) (xs : List Int) : Prop := ∃ A n c, v = .slice A n c ∧ Own w B A n c xs ∧ Below w0.heap.size w0 w

theorem len_if {P : Prop} [Decidable P] (x : Int) : (if P then [x] else []).length ≤ 1 := by split <;> simp

theorem s_nbs (s p : Int) (w : World) (h1 : 1 ≤ s) (h2 : s ≤ 7) (h3 : 0 ≤ p) (h4 : p < s * s) :
    Calls Tryd.prog 91 #[.int .i64 s, .int .i64 p] w fun e w' => ∃ A n c, e = .returned (.slice A n c) ∧ Own w' w.heap.size A n c (Pt.nbs s p) ∧ Below w.heap.size w w' := by
  have hb := Pt.sq_bd s h1 h2
  obtain ⟨d1, d2, d3, d4, d5⟩ := Pt.dm s p h1 h2 h3 h4
  clear d5
  go_enter Tryd.func91, Tryd.ntmps91
  go_upto_if 9 with (fail)
  have Ho := Lib.hid (Own.bare w w.heap.size (Nat.le_refl _))
  have Hb := Lib.hid ((Below.refl w.heap.size w).alloc (Nat.le_refl _) (.cells #[] 3))
  go_cut [5] (fun v wx => Slc w.heap.size w v wx (Pt.nbL s p))
  case first =>
    by_cases hA : s ≤ p
    · have hz : w.heap.size ≤ (w.alloc (.cells #[] 3)).heap.size := by simp
      go_wp2_with (at_builtin; refine app1 rfl _ _ rfl _ _ _ _ _ _ _ _ rfl rfl (by simp) Ho.out hz (by omega) ?_; intro A' c' w' hown' hb' hlt' _)
      go_meet
      exact ⟨_, _, _, rfl, by rw [Pt.nbL, if_pos hA]; exact hown', Hb.out.trans (hb'.mono (by omega))⟩
    · go_wp2_with fail
      go_meet
      exact ⟨_, _, _, rfl, by rw [Pt.nbL, if_neg (by omega)]; exact Ho.out, Hb.out⟩
  case rest =>
    clear Ho Hb
    obtain ⟨A, n, c, rfl, ho, hbe⟩ := hcut
    have hn := ho.1
    have hz := hbe.size
    have hn1 : n ≤ 1 := by rw [← hn]; exact len_if _
    have Ho := Lib.hid ho
    clear hn ho
    go_upto_if 19 with (fail)
    go_cut [5] (fun v wx => Slc w.heap.size w v wx (Pt.nbL s p ++ Pt.nbA s p))
    case first =>
      by_cases hA : 0 < p % s
      · go_wp2_with (at_builtin; refine app1 rfl _ _ rfl _ _ _ _ _ _ _ _ rfl rfl (by simp) Ho.out hz (by omega) ?_; intro A' c' w' hown' hb' hlt' _)
        go_meet
        exact ⟨_, _, _, rfl, by rw [Pt.nbA, if_pos hA]; exact hown', hbe.trans (hb'.mono (by omega))⟩
      · go_wp2_with fail
        go_meet
        exact ⟨_, _, _, rfl, by rw [Pt.nbA, if_neg (by omega), List.append_nil]; exact Ho.out, hbe⟩
    case rest =>
      clear Ho hbe hz
      obtain ⟨A, n, c, rfl, ho, hbe⟩ := hcut
      have hn := ho.1
      have hz := hbe.size
      have hn2 : n ≤ 2 := by rw [← hn, List.length_append]; exact Nat.add_le_add (len_if _) (len_if _)
      have Ho := Lib.hid ho
      clear hn ho
      go_upto_if 30 with (fail)
      go_cut [5] (fun v wx => Slc w.heap.size w v wx (Pt.nbL s p ++ Pt.nbA s p ++ Pt.nbB s p))
      case first =>
        by_cases hA : p % s < s - 1
        · go_wp2_with (at_builtin; refine app1 rfl _ _ rfl _ _ _ _ _ _ _ _ rfl rfl (by simp) Ho.out hz (by omega) ?_; intro A' c' w' hown' hb' hlt' _)
          go_meet
          exact ⟨_, _, _, rfl, by rw [Pt.nbB, if_pos hA]; exact hown', hbe.trans (hb'.mono (by omega))⟩
        · go_wp2_with fail
          go_meet
          exact ⟨_, _, _, rfl, by rw [Pt.nbB, if_neg (by omega), List.append_nil]; exact Ho.out, hbe⟩
      case rest =>
        clear Ho hbe hz
        obtain ⟨A, n, c, rfl, ho, hbe⟩ := hcut
        have hn := ho.1
        have hz := hbe.size
        have hn3 : n ≤ 3 := by rw [← hn, List.length_append, List.length_append]; exact Nat.add_le_add (Nat.add_le_add (len_if _) (len_if _)) (len_if _)
        have Ho := Lib.hid ho
        clear hn ho
        by_cases hA : p + s < s * s
        · have Hf : Hid (Pt.nbs s p = Pt.nbL s p ++ Pt.nbA s p ++ Pt.nbB s p ++ [p + s]) := Lib.hid (by rw [Pt.nbs, Pt.nbU, if_pos hA])
          go_wp2_with (at_builtin; refine app1 rfl _ _ rfl _ _ _ _ _ _ _ _ rfl rfl (by simp) Ho.out hz (by omega) ?_; intro A' c' w' hown' hb' hlt' _)
          go_ret
          exact ⟨_, _, _, rfl, by rw [Hf.out]; exact hown', hbe.trans (hb'.mono (by omega))⟩
        · have Hf : Hid (Pt.nbs s p = Pt.nbL s p ++ Pt.nbA s p ++ Pt.nbB s p) := Lib.hid (by rw [Pt.nbs, Pt.nbU, if_neg hA, List.append_nil])
          go_wp2_with fail
          go_ret
          exact ⟨_, _, _, rfl, by rw [Hf.out]; exact Ho.out, hbe⟩
end Go.Proofs.YteldfjibmaigiaaDoor
