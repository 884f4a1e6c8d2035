/-
  The model's exchange of colors: the same board as the program's.
-/
import Derived.Test.YteldfjibmaigiaaDoorInvB
namespace Go.Proofs.YteldfjibmaigiaaDoor
set_option maxRecDepth 100000
open Go.RowKit

theorem oth_zero : oth 0 = 0 := rfl
theorem mix_keep {cs : List Int} {k : Nat} (hk : k < cs.length) (h0 : cs.getD k 0 = 0) : (othCs cs).take k ++ cs.drop k = (othCs cs).take (k + 1) ++ cs.drop (k + 1) := by
  have e : cs.getD k 0 = cs[k] := by simp [List.getD_eq_getElem?_getD, List.getElem?_eq_getElem hk]
  have hk' : k < (othCs cs).length := by rw [othCs_len]; exact hk
  have e2 : (othCs cs)[k] = oth cs[k] := by simp [othCs]
  rw [List.take_succ_eq_append_getElem hk', List.drop_eq_getElem_cons hk, e2, ← e, h0, List.append_assoc]
  rfl
theorem mix_set {cs : List Int} {k : Nat} (hk : k < cs.length) : ((othCs cs).take k ++ cs.drop k).set k (oth (cs.getD k 0)) = (othCs cs).take (k + 1) ++ cs.drop (k + 1) := by
  have e : cs.getD k 0 = cs[k] := by simp [List.getD_eq_getElem?_getD, List.getElem?_eq_getElem hk]
  have hk' : k < (othCs cs).length := by rw [othCs_len]; exact hk
  have e2 : (othCs cs)[k] = oth cs[k] := by simp [othCs]
  have hl : ((othCs cs).take k).length = k := by rw [List.length_take]; omega
  rw [List.set_append_right _ _ (by omega), hl, Nat.sub_self, List.drop_eq_getElem_cons hk, List.set_cons_zero, List.take_succ_eq_append_getElem hk', e2, e, List.append_assoc]
  rfl

set_option maxHeartbeats 1000000 in
theorem s_invertBoard (s : Int) (w : World) (B : Nat) (A : Option Addr) (n c : Nat) (cs : List Int) (h : Ints w B A n cs) (hB : B ≤ w.heap.size) (hn : n ≤ 1000000) (hv : ∀ x ∈ cs, 0 ≤ x ∧ x ≤ 2) :
    Calls Tryd.prog 78 #[.agg #[.int .i64 s, .slice A n c]] w fun e w' => Made s (othCs cs) w e w' := by
  have e1 : (w.alloc (.cells #[.int .i64 s, .slice A n c] 25)).heap.size = w.heap.size + 1 := by simp
  have x0 := (Bx.new 25 w s (.slice A n c)).alloc (.cells #[.int .i64 0, .slice none 0 0] 25)
  have x1 := Bx.new 25 (w.alloc (.cells #[.int .i64 s, .slice A n c] 25)) 0 (.slice none 0 0)
  rw [e1] at x1
  have hb2 : Below w.heap.size w ((w.alloc (.cells #[.int .i64 s, .slice A n c] 25)).alloc (.cells #[.int .i64 0, .slice none 0 0] 25)) := ((Below.refl _ _).alloc (Nat.le_refl _) _).alloc (by simp) _
  have hl := h.1
  have H := Lib.hid (h.below hb2 hB)
  have X0 := Lib.hid x0
  have X1 := Lib.hid x1
  have Hb := Lib.hid hb2
  have Hl := Lib.hid hl
  have hv2 : ∀ k, k < cs.length → 0 ≤ cs.getD k 0 ∧ cs.getD k 0 ≤ 2 := fun k hk => hv _ (by rw [List.getD_eq_getElem?_getD, List.getElem?_eq_getElem hk]; exact List.getElem_mem _)
  have Hv := Lib.hid hv2
  clear e1 x0 x1 hb2 h hl hv hv2
  go_enter Tryd.func78, Tryd.ntmps78
  go_wp2_with fail
  refine (s_copyBoard _ _ _ _ _ _ _ H.out (by simp; omega) (by omega)).mono ?_
  rintro e y ⟨A1, c1, rfl, ho, hb⟩
  have X0 := Lib.hid (X0.out.below hb X0.out.lt)
  have X1 := Lib.hid (X1.out.below hb X1.out.lt)
  have H := Lib.hid (H.out.below hb (by simp; omega))
  have Hb := Lib.hid (Hb.out.trans (hb.mono (by simp; omega)))
  have Ho := Lib.hid (ho.weaken (B' := w.heap.size + 1 + 1) (by simp))
  have Hr := Lib.hid (fun g (hA : A1 = some ⟨g, 0, none⟩) => (ho.ge hA).2)
  clear hb ho
  have z1 := X1.out.lt
  have u00 := X0.out.cell0
  have u01 := X0.out.cell1
  have u02 := X0.out.lt
  go_wp2_with fail
  obtain ⟨y3, hy3, hb3, z3, z4⟩ := new_box y (.cells #[.int .i64 s, .slice A1 n c1] 25)
  have X3 : Hid (Bx 25 y3 y.heap.size s (.slice A1 n c1)) := Lib.hid (by rw [hy3]; exact Bx.new _ _ _ _)
  rw [← hy3]
  clear hy3 u00 u01
  have X0 := Lib.hid (X0.out.below hb3 X0.out.lt)
  have X1 := Lib.hid (X1.out.below hb3 X1.out.lt)
  have H := Lib.hid (H.out.below hb3 (by omega))
  have Ho := Lib.hid (Ho.out.below hb3)
  have Hb := Lib.hid (Hb.out.trans (hb3.mono (by omega)))
  clear hb3
  go_loopw [4] (fun i wr => ∃ k : Nat, k ≤ n ∧ i = .int .i64 k ∧ Own wr (w.heap.size + 1 + 1) A1 n c1 ((othCs cs).take k ++ cs.drop k) ∧ Bx 25 wr y.heap.size s (.slice A1 n c1) ∧ Below (w.heap.size + 1 + 1) y3 wr) (fun i _ => n - (intOf i).toNat)
  case atStart => exact ⟨0, by omega, rfl, by simpa using Ho.out, X3.out, Below.refl _ _⟩
  case round =>
    clear X3 Ho
    obtain ⟨k, hk, rfl, ho, hx3, hbr⟩ := hrel
    have X0r := Lib.hid (X0.out.below hbr (by omega))
    have X1r := Lib.hid (X1.out.below hbr (by omega))
    have Hir := Lib.hid (H.out.below hbr (by omega))
    have Hbw := Lib.hid (Hb.out.trans (hbr.mono (by omega)))
    have Ho := Lib.hid ho
    have X3 := Lib.hid hx3
    have Hbr := Lib.hid hbr
    clear ho hx3 hbr
    have v00 := X0r.out.cell0
    have v01 := X0r.out.cell1
    have v02 := X0r.out.lt
    have v30 := X3.out.cell0
    have v31 := X3.out.cell1
    have v32 := X3.out.lt
    by_cases hkn : k < n
    · rcases Hir.out.2 with h0 | ⟨b, o, rfl, hbB, hc⟩
      · omega
      · have hck := hc k hkn
        have hkl : k < cs.length := by rw [Hl.out]; exact hkn
        obtain ⟨q1, q2⟩ := Hv.out k hkl
        have Mk := Lib.hid (mix_keep hkl)
        have Ms := Lib.hid (mix_set hkl)
        obtain ⟨x, hx⟩ : ∃ x, cs.getD k 0 = x := ⟨_, rfl⟩
        rw [hx] at hck q1 q2 Mk Ms
        clear hx hc
        by_cases hx0 : x = 0
        · have hbx : (x != 0) = false := by simpa using hx0
          have Mk2 := Lib.hid (Mk.out hx0)
          clear hx0 Mk
          go_wp2_with fail
          go_roundw
          case rel => exact ⟨k + 1, by omega, by go_num, by rw [← Mk2.out]; exact Ho.out, X3.out, Hbr.out⟩
          case measure => simp [intOf]; omega
        · have hbx : (x != 0) = true := by simpa using hx0
          have hx1 : 1 ≤ x := by omega
          clear hx0 Mk
          have hA1 : ∃ g, A1 = some ⟨g, 0, none⟩ := by
            obtain ⟨g, cap, hv, _⟩ := World.ownsRow.form Ho.out.2 (by omega)
            exact ⟨g, by injection hv⟩
          obtain ⟨g, rfl⟩ := hA1
          have hg1 := (Ho.out.ge rfl).1
          have hg2 := Hr.out g rfl
          have hcell : ∃ u, wr.cell? ⟨g, k, none⟩ = some u := by
            have := World.ownsRow.cellAt Ho.out.2 k (by omega)
            rw [this]
            exact ⟨_, List.getElem?_eq_getElem (by rw [List.length_map, Ho.out.1]; exact hkn)⟩
          obtain ⟨u, hu⟩ := hcell
          have hf := World.ownsRow.frozenAt Ho.out.2 k
          have Hst := Lib.hid (Ho.out.stored k (oth x))
          have hkk : (k : Int) < n := by omega
          go_wp2_with fail
          go_region_with (go_at_call 65; refine (s_opp _ _ hx1 q2).mono ?_; rintro e w9 ⟨rfl, rfl⟩)
          all_goals go_wp2_with fail
          all_goals go_roundw
          all_goals try (simp [intOf]; omega)
          all_goals exact ⟨k + 1, by omega, by go_num, by rw [← Ms.out]; exact Own.drew Hst.out.1, X3.out.far (p := ⟨g, k, none⟩) (by show y.heap.size ≠ g; omega) (.int .i64 (oth x)), Below.drew (Hbr.out.setCell hg1 _)⟩
    · obtain rfl : k = n := by omega
      have hfin : Own wr (w.heap.size + 1 + 1) A1 k c1 (othCs cs) := by
        have := Ho.out
        rw [List.take_of_length_le (by rw [othCs_len, Hl.out]; exact Nat.le_refl _), List.drop_of_length_le (by rw [Hl.out]; exact Nat.le_refl _), List.append_nil] at this
        exact this
      have ho2 := (hfin.far ⟨w.heap.size + 1, 0, none⟩ (fun g hA => by have := (hfin.ge hA).1; show g ≠ w.heap.size + 1; omega) (.int .i64 s)).far ⟨w.heap.size + 1, 1, none⟩ (fun g hA => by have := (hfin.ge hA).1; show g ≠ w.heap.size + 1; omega) (.slice A1 k c1)
      have hb3 := (Hbw.out.setCell (p := ⟨w.heap.size + 1, 0, none⟩) (by show w.heap.size ≤ w.heap.size + 1; omega) (.int .i64 s)).setCell (p := ⟨w.heap.size + 1, 1, none⟩) (by show w.heap.size ≤ w.heap.size + 1; omega) (.slice A1 k c1)
      have Ho2 := Lib.hid ho2
      have Hb3 := Lib.hid hb3
      have K0 := Lib.hid ((X1r.out.set0 s).cell0)
      have K1 := Lib.hid (((X1r.out.set0 s).set1 (.slice A1 k c1)).cell1)
      have v10 := X1r.out.cell0
      have v11 := X1r.out.cell1
      have v12 := X1r.out.frozen 0
      have v13 := X1r.out.frozen 1
      have v14 := X1r.out.lt
      clear hfin ho2 hb3
      go_wp2_with fail
      have k0 := K0.out
      have k1 := K1.out
      refine bodyPost_ret (v := .agg #[.int .i64 s, .slice A1 k c1]) (by simp [results, Tryd.results78, go_sem, k0, k1]) rfl ?_
      exact ⟨_, _, _, rfl, Ho2.out.weaken (by omega), Hb3.out⟩

end Go.Proofs.YteldfjibmaigiaaDoor
