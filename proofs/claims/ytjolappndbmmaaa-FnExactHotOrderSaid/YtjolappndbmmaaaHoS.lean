/-
  The library's insertion sort of indices by the closure that compares switches by heat.
-/
import Derived.Test.YtjolappndbmmaaaHoI
namespace Go.Proofs.Ytjolappndbmmaaa
set_option maxRecDepth 100000
open Go.RowKit

/-- What the closure reads: a list of n valid switches, of heat H. -/
def Clo (w : World) (gb b o n c : Nat) (H : Int → Int) : Prop :=
  w.cell? ⟨gb, 0, none⟩ = some (.slice (some ⟨b, o, none⟩) n c) ∧ ∀ k : Nat, k < n → ∃ l r, w.cell? ⟨b, o + k * 2, none⟩ = some (.int .i64 l) ∧ w.cell? ⟨b, o + k * 2 + 1, none⟩ = some (.int .i64 r) ∧ Sw.ok l r = true ∧ l - r = H (k : Nat)
theorem Clo.below {w w' : World} {gb b o n c B : Nat} {H : Int → Int} (h : Clo w gb b o n c H) (hb : Below B w w') (h1 : gb < B) (h2 : b < B) : Clo w' gb b o n c H := by
  refine ⟨(World.cell?_of_block (w := w) (hb.block _ h1)).trans h.1, fun k hk => ?_⟩
  obtain ⟨l, r, c0, c1, ho, hH⟩ := h.2 k hk
  exact ⟨l, r, (World.cell?_of_block (w := w) (hb.block _ h2)).trans c0, (World.cell?_of_block (w := w) (hb.block _ h2)).trans c1, ho, hH⟩
theorem i_clH (w : World) (gb b o n c i j : Nat) (H : Int → Int) (k : Int) (h : Clo w gb b o n c H) (hi : i < n) (hj : j < n) (hk : (if H (j : Nat) < H (i : Nat) then -1 else if H (i : Nat) < H (j : Nat) then 1 else 0) = k) :
    Calls Try.prog 58 #[.int .i64 (i : Nat), .int .i64 (j : Nat), .pointer (some ⟨gb, 0, none⟩)] w fun e w' => e = .returned (.int .i64 k) ∧ Below w.heap.size w w' := by
  obtain ⟨li, ri, ci0, ci1, oi, hHi⟩ := h.2 i hi
  obtain ⟨lj, rj, cj0, cj1, oj, hHj⟩ := h.2 j hj
  exact i_cl w gb b o n c i j li ri lj rj k h.1 hi hj ci0 ci1 cj0 cj1 oi oj (by rw [hHi, hHj]; exact hk)
/-- What is not yet sorted. -/
def Ho.rest (n i : Nat) : List Int := (Ho.rng n).drop i
theorem Ho.rng_get {n k : Nat} (hk : k < n) : (Ho.rng n)[k]? = some (k : Int) := by simp [Ho.rng, hk]
theorem Ho.rest_cons {n i : Nat} (hi : i < n) : Ho.rest n i = (i : Int) :: Ho.rest n (i + 1) := by
  unfold Ho.rest
  have hl : i < (Ho.rng n).length := by rw [Ho.rng_len]; exact hi
  rw [List.drop_eq_getElem_cons hl]
  have := Ho.rng_get hi
  rw [List.getElem?_eq_getElem hl] at this
  rw [Option.some.inj this]
theorem Ho.rest_end (n : Nat) : Ho.rest n n = [] := by
  unfold Ho.rest; rw [List.drop_eq_nil_iff, Ho.rng_len]; exact Nat.le_refl _
theorem Ho.first {H : Int → Int} : Ho.Ord H 1 [0] := ⟨List.Perm.refl _, by simp⟩

theorem Own.storedH {w : World} {B n c g : Nat} {xs : List Int} (h : Own w B (some ⟨g, 0, none⟩) n c xs) (j : Nat) (x : Int) :
    Own (w.setCell ⟨g, j, none⟩ (.int .i64 x)) B (some ⟨g, 0, none⟩) n c (xs.set j x) ∧ w.grownBy (w.setCell ⟨g, j, none⟩ (.int .i64 x)) (some g) := by
  have := World.ownsRow.stored h.2 j (.int .i64 x)
  exact ⟨⟨by simpa using h.1, by rw [List.map_set]; exact this.1⟩, this.2⟩
theorem Clo.dr {w : World} {gb b o n c : Nat} {H : Int → Int} (h : Clo w gb b o n c H) : Clo w.drew gb b o n c H := h
set_option maxRecDepth 100000 in
set_option maxHeartbeats 8000000 in
theorem i_ins (w : World) (Bq g n c gb b o cl : Nat) (H : Int → Int) (hn1 : 1 ≤ n) (hn : n ≤ 1000000) (ho : Own w Bq (some ⟨g, 0, none⟩) n c (Ho.rng n)) (hcl : Clo w gb b o n cl H) (hgb : gb < Bq) (hbb : b < Bq) :
    Calls Try.prog 90 #[.slice (some ⟨g, 0, none⟩) n c, .int .i64 0, .int .i64 n, .func (.func 58) #[] #[.pointer (some ⟨gb, 0, none⟩)]] w fun e w' => e = .returned (.tuple #[]) ∧ ∃ d, Ho.Ord H n d ∧ Own w' Bq (some ⟨g, 0, none⟩) n c d ∧ Below Bq w w' := by
  have hgq := (ho.ge rfl).1
  have Hcl := Lib.hid hcl
  have Ho0 := Lib.hid (show Own w Bq (some ⟨g, 0, none⟩) n c ([0] ++ Ho.rest n 1) from by
    have := ho
    rw [show Ho.rng n = Ho.rest n 0 from rfl, Ho.rest_cons (by omega)] at this
    exact this)
  clear ho hcl
  go_enter Try.func90, Try.ntmps90
  go_wp2_with fail
  go_loopg [8] (n + 1) (fun q v wr => ∃ (i : Nat) (s : List Int), i + q = n + 2 ∧ 1 ≤ i ∧ i ≤ n ∧ v = .int .i64 (i : Nat) ∧ Ho.Ord H i s ∧ Own wr Bq (some ⟨g, 0, none⟩) n c (s ++ Ho.rest n i) ∧ Below Bq w wr)
  case atStart => exact ⟨1, [0], by omega, by omega, by omega, rfl, Ho.first, Ho0.out, Below.refl _ _⟩
  case round =>
    clear Ho0
    obtain ⟨i, s, hq, hi1, hin, rfl, hs, ho, hb⟩ := hrel
    obtain ⟨wo, rfl⟩ : ∃ wo : World, wo = wr := ⟨_, rfl⟩
    have Hs := Lib.hid hs
    have HO := Lib.hid ho
    have Hb := Lib.hid hb
    have hsl := hs.len
    clear hs ho hb
    by_cases hi : i < n
    · have hii : ((i : Nat) : Int) < n := by omega
      have Hst : Hid (Own wo Bq (some ⟨g, 0, none⟩) n c (Ho.put s (i : Int) i ++ Ho.rest n (i + 1))) := Lib.hid (by
        have := HO.out
        rw [Ho.rest_cons hi] at this
        rw [← hsl, Ho.put_end, List.append_assoc, hsl]
        exact this)
      go_wp2_with fail
      go_loopg [9] (i + 1) (fun q v wi => ∃ j : Nat, j + 1 = q ∧ j ≤ i ∧ v = .int .i64 (j : Nat) ∧ Own wi Bq (some ⟨g, 0, none⟩) n c (Ho.put s (i : Int) j ++ Ho.rest n (i + 1)) ∧ (∀ x ∈ s.drop j, Ho.R H (i : Int) x) ∧ Below Bq w wi)
      case atStart => exact ⟨i, rfl, Nat.le_refl _, rfl, Hst.out, (by rw [List.drop_eq_nil_of_le (by omega)]; intro x hx; cases hx), Hb.out⟩
      case round =>
        clear HO Hst Hb
        obtain ⟨j, hjq, hji, rfl, ho, hr, hb⟩ := hrel
        obtain ⟨wi, rfl⟩ : ∃ wi : World, wi = wr := ⟨_, rfl⟩
        have hzl := ho.1
        have HO := Lib.hid ho
        have Hr := Lib.hid hr
        have Hb := Lib.hid hb
        clear ho hr hb
        by_cases hj0 : j = 0
        · subst hj0
          have Hst := Lib.hid (Ho.put_ord Hs.out 0 (by omega) Hr.out (.inl rfl))
          go_wp2_with fail
          go_quiet (fail)
          go_wp2_with fail
          go_roundg (n - i + 1)
          case measure => omega
          case rel => exact ⟨i + 1, _, by omega, by omega, by omega, by go_num, Hst.out, Own.drewN HO.out _, ⟨Hb.out.os, Hb.out.tape, Hb.out.output, Hb.out.size, Hb.out.block⟩⟩
        · obtain ⟨m, rfl⟩ : ∃ m, j = m + 1 := ⟨j - 1, by omega⟩
          have hms : m < s.length := by omega
          obtain ⟨y, hy⟩ : ∃ y, s.getD m 0 = y := ⟨_, rfl⟩
          have hym : 0 ≤ y ∧ y < i := by
            rw [← Hs.out.mem, ← hy, List.getD_eq_getElem?_getD, List.getElem?_eq_getElem hms]; exact List.getElem_mem hms
          obtain ⟨yn, rfl⟩ := Int.eq_ofNat_of_zero_le hym.1
          have hyn : yn < n := by omega
          obtain ⟨cs, hcs⟩ : ∃ l, Ho.put s (i : Int) (m + 1) ++ Ho.rest n (i + 1) = l := ⟨_, rfl⟩
          have hg1 : cs.getD (m + 1) 0 = (i : Int) := by rw [← hcs]; exact Ho.put_get s _ (m + 1) (by omega) _
          have hg0 : cs.getD m 0 = (yn : Int) := by rw [← hcs, ← hy]; exact Ho.put_prev s _ m hms _
          have hstep : (cs.set (m + 1) (yn : Int)).set m (i : Int) = Ho.put s (i : Int) m ++ Ho.rest n (i + 1) := by rw [← hcs, ← hy]; exact Ho.put_step s _ m hms _
          rw [hcs] at hzl
          have HO := Lib.hid (show Own wi Bq (some ⟨g, 0, none⟩) n c cs from by rw [← hcs]; exact HO.out)
          have c1' : wi.cell? ⟨g, m + 1, none⟩ = some (.int .i64 (i : Nat)) := by
            rw [World.ownsRow.cellAt HO.out.2 (m + 1) (by omega)]
            simp [List.getElem?_eq_getElem (show m + 1 < cs.length by omega)]
            rw [List.getD_eq_getElem?_getD, List.getElem?_eq_getElem (show m + 1 < cs.length by omega)] at hg1
            exact hg1
          have c0' : wi.cell? ⟨g, m, none⟩ = some (.int .i64 (yn : Nat)) := by
            rw [World.ownsRow.cellAt HO.out.2 m (by omega)]
            simp [List.getElem?_eq_getElem (show m < cs.length by omega)]
            rw [List.getD_eq_getElem?_getD, List.getElem?_eq_getElem (show m < cs.length by omega)] at hg0
            exact hg0
          have f1 := World.ownsRow.frozenAt HO.out.2 (m + 1)
          have f0 := World.ownsRow.frozenAt HO.out.2 m
          have HClo := Lib.hid (Hcl.out.below Hb.out hgb hbb)
          obtain ⟨k, hk⟩ : ∃ k : Int, (if H (yn : Nat) < H (i : Nat) then -1 else if H (i : Nat) < H (yn : Nat) then 1 else 0) = k := ⟨_, rfl⟩
          have Hk := Lib.hid hk
          have hm0 : (0 : Int) ≤ (m : Nat) := by omega
          have hmn : ((m : Nat) : Int) < n := by omega
          have hm1n : ((m : Nat) : Int) + 1 < n := by omega
          have hm10 : (0 : Int) ≤ ((m : Nat) : Int) + 1 := by omega
          have ht1 : (((m : Nat) : Int) + 1).toNat = m + 1 := by omega
          have hw1 : IntKind.i64.wrap ((m : Nat) : Int) = m := IntWalk.i64_in _ (by omega)
          have hw2 : IntKind.i64.wrap (((m : Nat) : Int) + 1 - 1) = m := by rw [IntWalk.i64_in _ (by omega)]; omega
          have hw3 : IntKind.i64.wrap (((m : Nat) : Int) + 1) = ((m : Nat) : Int) + 1 := IntWalk.i64_in _ (by omega)
          have HC := Lib.hid (Below.refl wi.heap.size wi)
          have Hstep := Lib.hid hstep
          have hgl : g < wi.heap.size := (HO.out.ge rfl).2
          have Hcs := Lib.hid hcs
          clear hcs hg1 hg0 hstep hym
          by_cases hlt : H (yn : Nat) < H (i : Nat)
          · have hkv : k < 0 := by rw [← hk, if_pos hlt]; decide
            have Hnx := Lib.hid (Ho.put_next hms Hr.out (by rw [hy]; exact hlt))
            clear hk hy
            go_wp2_with fail
            go_cut [34] (fun v wx => v = .bool true ∧ Below wi.heap.size wi wx)
            case first =>
              go_region_held3 (fun w' => w'.cell? ⟨g, m + 1, none⟩ = some (.int .i64 (i : Nat)) ∧ w'.cell? ⟨g, m, none⟩ = some (.int .i64 (yn : Nat))) (first | exact ⟨c1', c0'⟩ | go_keep) (first | (go_at_call 58; refine (i_clH _ gb b o n cl i yn H k (by first | (with_reducible exact HClo.out) | (with_reducible exact HClo.out.dr)) hi hyn Hk.out).mono ?_; rintro e yc ⟨rfl, hb9⟩; (try replace hb9 := undrew hb9); have HC := Lib.hid (bstep HC.out hb9); have c1' := cell_below (by exact c1') hb9; have c0' := cell_below (by exact c0') hb9; clear hb9))
              all_goals go_wp2_with fail
              all_goals go_meet
              all_goals exact ⟨rfl, HC.out⟩
            case rest =>
              obtain ⟨rfl, hbx⟩ := hcut
              have HO := Lib.hid (HO.out.below hbx)
              have Hb := Lib.hid (Hb.out.trans (hbx.mono (by omega)))
              have c1' := cell_below c1' hbx
              have c0' := cell_below c0' hbx
              have f1 := World.ownsRow.frozenAt HO.out.2 (m + 1)
              have f0 := World.ownsRow.frozenAt HO.out.2 m
              clear HC hbx
              have hst := (HO.out.storedH (m + 1) (yn : Int)).1
              have hst2 := (hst.storedH m (i : Int)).1
              rw [Hstep.out] at hst2
              have Hst2 := Lib.hid hst2
              have Hb2 := Lib.hid ((Hb.out.setCell (p := ⟨g, m + 1, none⟩) hgq (.int .i64 (yn : Int))).setCell (p := ⟨g, m, none⟩) hgq (.int .i64 (i : Int)))
              clear hst hst2
              go_wp2_with fail
              go_region
              all_goals go_wp2_with fail
              all_goals (go_roundg (m + 1); (case measure => omega); (case rel => exact ⟨m, rfl, by omega, by go_num, (by first | exact Hst2.out | exact Own.drewN Hst2.out 1), Hnx.out, (by first | exact Hb2.out | exact ⟨Hb2.out.os, Hb2.out.tape, Hb2.out.output, Hb2.out.size, Hb2.out.block⟩)⟩))
          · have hkv : ¬ k < 0 := by
              rw [← hk, if_neg hlt]
              split <;> decide
            have Hst := Lib.hid (Ho.put_ord Hs.out (m + 1) hji Hr.out (.inr (by rw [show m + 1 - 1 = m from rfl, hy]; exact hlt)))
            clear hk hy
            go_wp2_with fail
            go_cut [34] (fun v wx => v = .bool false ∧ Below wi.heap.size wi wx)
            case first =>
              go_region_held3 (fun w' => w'.cell? ⟨g, m + 1, none⟩ = some (.int .i64 (i : Nat)) ∧ w'.cell? ⟨g, m, none⟩ = some (.int .i64 (yn : Nat))) (first | exact ⟨c1', c0'⟩ | go_keep) (first | (go_at_call 58; refine (i_clH _ gb b o n cl i yn H k (by first | (with_reducible exact HClo.out) | (with_reducible exact HClo.out.dr)) hi hyn Hk.out).mono ?_; rintro e yc ⟨rfl, hb9⟩; (try replace hb9 := undrew hb9); have HC := Lib.hid (bstep HC.out hb9); have c1' := cell_below (by exact c1') hb9; have c0' := cell_below (by exact c0') hb9; clear hb9))
              all_goals go_wp2_with fail
              all_goals go_meet
              all_goals exact ⟨by rw [decide_eq_false (by omega)], HC.out⟩
            case rest =>
              obtain ⟨rfl, hbx⟩ := hcut
              have HO := Lib.hid (HO.out.below hbx)
              have Hb := Lib.hid (Hb.out.trans (hbx.mono (by omega)))
              have HO2 := Lib.hid (show Own wc Bq (some ⟨g, 0, none⟩) n c (Ho.put s (i : Int) (m + 1) ++ Ho.rest n (i + 1)) from by rw [Hcs.out]; exact HO.out)
              have c1' := cell_below c1' hbx
              have c0' := cell_below c0' hbx
              have f1 := World.ownsRow.frozenAt HO.out.2 (m + 1)
              have f0 := World.ownsRow.frozenAt HO.out.2 m
              clear HC hbx
              go_wp2_with fail
              go_roundg (n - i + 1)
              case measure => omega
              case rel => exact ⟨i + 1, _, by omega, by omega, by omega, by go_num, Hst.out, HO2.out, Hb.out⟩
    · obtain rfl : i = n := by omega
      have Hf : Hid (Own wo Bq (some ⟨g, 0, none⟩) i c s) := Lib.hid (by have := HO.out; rw [Ho.rest_end, List.append_nil] at this; exact this)
      go_wp2_with fail
      go_end0
      exact ⟨rfl, _, Hs.out, Hf.out, Hb.out⟩
end Go.Proofs.Ytjolappndbmmaaa
