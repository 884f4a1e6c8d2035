/-
  The program's RegionsOf, and the model's.
-/
import Derived.Test.YtkjlcokbgpnejaaRgP
import Derived.Test.YtkjlcokbgpnejaaErI
namespace Go.Proofs.Ytkjlcokbgpnejaa
set_option maxRecDepth 100000
open Go.RowKit

theorem i_isOther (x z : Int) (w : World) (gc : Nat) (hc : w.cell? ⟨gc, 0, none⟩ = some (.int .i64 x)) : Calls Try.prog 46 #[.int .i64 z, .pointer (some ⟨gc, 0, none⟩)] w fun e w' => e = .returned (.bool (!(z == x))) ∧ w' = w := by
  go_enter Try.func46, Try.ntmps46
  go_wp2_with fail
  go_ret
  exact ⟨rfl, rfl⟩

set_option maxRecDepth 100000 in
set_option maxHeartbeats 4000000 in
theorem i_partsR (s x : Int) (w : World) (gc : Nat) (hgc : gc < w.heap.size) (hcc : w.cell? ⟨gc, 0, none⟩ = some (.int .i64 x)) (B : Nat) (A : Option Addr) (n c : Nat) (cs : List Int) (h : Ints w B A n cs) (hB : B ≤ w.heap.size) (hv : Bd.okB s cs = true) (ls : List (List Int)) (Hls : Hid (PL s n (notCol x cs) n ls)) :
    Calls Try.prog 45 #[.agg #[.int .i64 s, .slice A n c], .func (Fn.func 46) #[] #[.pointer (some ⟨gc, 0, none⟩)]] w fun e w' => Lists w ls e w' := by
  obtain ⟨h1, h2, h3, _⟩ := (Bd.okB_iff s cs).1 hv
  have hsq := Pt.sq_bd s h1 h2
  have hcl := h.1
  have hn : (n : Int) = s * s := by omega
  have hn49 : n ≤ 49 := by omega
  have hb1 : Below w.heap.size w (w.alloc (.cells #[.int .i64 s, .slice A n c] 28)) := (Below.refl _ _).alloc (Nat.le_refl _) _
  have X0 := Lib.hid (Bx.new 28 w s (.slice A n c))
  have H := Lib.hid (h.below hb1 hB)
  have Hb := Lib.hid hb1
  have Hcc := Lib.hid ((hb1.cell (p := ⟨gc, 0, none⟩) hgc).trans hcc)
  have Hcl := Lib.hid hcl
  have Hn := Lib.hid hn
  clear h hb1 hv h3 hn hcl hcc
  go_enter Try.func45, Try.ntmps45
  go_upto_region 1 with (fail)
  obtain ⟨y0, hy⟩ : ∃ y, y = w.alloc (.cells #[.int .i64 s, .slice A n c] 28) := ⟨_, rfl⟩
  have hyz : w.heap.size < y0.heap.size := by rw [hy]; simp
  rw [← hy] at X0 H Hb Hcc ⊢
  clear hy
  have u0 := X0.out.cell0
  have u1 := X0.out.cell1
  have ul := X0.out.lt
  go_upto_region 2 with (at_make; refine makeB rfl _ rfl _ _ n rfl rfl (by omega) ?_; intro y1 hbl hb hlt)
  have Hbl := Lib.hid hbl
  have Hb1 := Lib.hid hb
  have X1 := Lib.hid (X0.out.below hb ul)
  clear hbl hb u0 u1
  have u0 := X1.out.cell0
  have u1 := X1.out.cell1
  go_wp2_with fail
  go_loopw [15] (fun i wr => ∃ k S, k ≤ n ∧ i = .int .i64 (k : Nat) ∧ Bl wr y0.heap.size S ∧ S.length = n ∧ (∀ j, j < k → S.getD j false = (!(cs.getD j 0 == x))) ∧ Below y0.heap.size y0 wr) (fun i _ => n - (intOf i).toNat)
  case atStart => exact ⟨0, _, by omega, rfl, Hbl.out, by simp, (fun j hj => absurd hj (Nat.not_lt_zero j)), Hb1.out⟩
  case round =>
    clear Hbl Hb1 X1
    obtain ⟨k, S, hk, rfl, hbl, hsl, hs, hbr⟩ := hrel
    have hz := hbr.size
    have hgl := hbl.lt
    have X0r := Lib.hid (X0.out.below hbr ul)
    have Hr := Lib.hid (H.out.below hbr (by omega))
    have Hbl := Lib.hid hbl
    have Hsl := Lib.hid hsl
    have Hs := Lib.hid hs
    have Hbr := Lib.hid hbr
    have cgc := (hbr.cell (p := ⟨gc, 0, none⟩) (by show gc < _; omega)).trans Hcc.out
    clear hbl hsl hs hbr
    have v0 := X0r.out.cell0
    have v1 := X0r.out.cell1
    have vl := X0r.out.lt
    by_cases hkn : k < n
    · obtain ⟨b, o, rfl, hbB, hc⟩ : ∃ b o, A = some ⟨b, o, none⟩ ∧ b < B ∧ ∀ j, j < n → wr.cell? ⟨b, o + j, none⟩ = some (.int .i64 (cs.getD j 0)) := by
        rcases Hr.out.2 with h0 | ⟨b, o, hA, hbB, hc⟩
        · omega
        · exact ⟨b, o, hA, hbB, hc⟩
      have ck := hc k hkn
      obtain ⟨z, hx⟩ : ∃ z, cs.getD k 0 = z := ⟨_, rfl⟩
      rw [hx] at ck
      have Hx := Lib.hid hx
      have hkI : (k : Int) < n := by omega
      obtain ⟨u, hu⟩ : ∃ u, wr.cell? ⟨y0.heap.size, k, none⟩ = some u := ⟨_, Hbl.out.cell (by rw [Hsl.out]; exact hkn)⟩
      have hf := Hbl.out.frozen k
      have Hbl2 := Lib.hid (Hbl.out.set_ k (!(z == x)))
      have Hs2 : Hid (∀ j, j < k + 1 → (S.set k (!(z == x))).getD j false = (!(cs.getD j 0 == x))) := Lib.hid (fun j hj => by
        rw [Pa.set_getD S k j _ (by rw [Hsl.out]; exact hkn)]
        by_cases e : j = k
        · subst e; rw [if_pos rfl, Hx.out]
        · rw [if_neg e]; exact Hs.out j (by omega))
      have Hb2 := Lib.hid (Hbr.out.setCell (p := ⟨y0.heap.size, k, none⟩) (Nat.le_refl _) (.bool (!(z == x))))
      have Hsl2 : Hid ((S.set k (!(z == x))).length = n) := Lib.hid (by rw [List.length_set]; exact Hsl.out)
      clear hc hx
      go_wp2_with fail
      refine (i_isOther x z _ gc cgc).mono ?_
      rintro e w' ⟨rfl, rfl⟩
      go_wp2_with fail
      go_roundw
      case rel => exact ⟨k + 1, _, by omega, by go_num, Hbl2.out, Hsl2.out, Hs2.out, Hb2.out⟩
      case measure => simp [intOf]; omega
    · have hkn2 : k = n := by omega
      have hSK : S = notCol x cs := by
        refine List.ext_getElem (by rw [notCol_len, Hcl.out, Hsl.out]) fun i i1 i2 => ?_
        have h9 := Hs.out i (by have := Hsl.out; omega)
        rw [← notCol_at (by have := Hsl.out; have := Hcl.out; omega), List.getD_eq_getElem?_getD, List.getD_eq_getElem?_getD, List.getElem?_eq_getElem i1, List.getElem?_eq_getElem i2] at h9
        simpa using h9
      have Hbl2 : Hid (Bl wr y0.heap.size (notCol x cs)) := Lib.hid (by rw [← hSK]; exact Hbl.out)
      have Hkl : Hid ((notCol x cs).length = n) := Lib.hid (by rw [notCol_len]; exact Hcl.out)
      have Hbw := Lib.hid (Hb.out.trans (Hbr.out.mono (by omega)))
      clear hkn2 hSK
      go_wp2_with fail
      refine (i_connectedParts s _ y0.heap.size n (notCol x cs) h1 h2 Hn.out Hkl.out Hbl2.out).mono ?_
      rintro e w' ⟨A1, m1, c1, l1, rfl, hss, hpl, hg⟩
      obtain rfl := Hls.out.one hpl
      have Hss := Lib.hid (hss.weakB (B' := w.heap.size) (by omega))
      have Hf := Lib.hid (Hbw.out.grown hg (by omega) (fun q e => by injection e; omega))
      clear hss hpl hg
      go_wp2_with fail
      go_ret
      exact ⟨_, _, _, rfl, Hss.out, Hf.out⟩


theorem i_stoneR (x : Int) (w : World) : Calls Try.prog 44 #[.int .i64 x] w fun e w' => e = .returned (.bool (decide (1 ≤ x) && decide (x ≤ 2))) ∧ w = w' := by
  refine (i_isStone x w).mono ?_
  rintro e w' ⟨rfl, rfl⟩
  have : (x == 1 || x == 2) = (decide (1 ≤ x) && decide (x ≤ 2)) := by
    rw [Bool.eq_iff_iff]
    simp
    omega
  exact ⟨by rw [this], rfl⟩

set_option maxRecDepth 100000 in
set_option maxHeartbeats 4000000 in
theorem i_Rg (s x : Int) (w : World) (B : Nat) (A : Option Addr) (n c : Nat) (cs : List Int) (h : Ints w B A n cs) (hB : B ≤ w.heap.size) (hn : n ≤ 1000000000) (ls : List (List Int)) (Hls : Hid (RgIs s n cs x ls)) :
    Calls Try.prog 14 #[.agg #[.int .i64 s, .slice A n c], .int .i64 x] w fun e w' => Lists w ls e w' := by
  obtain ⟨w1, hw1, hb1, z1, z1'⟩ := new_box w (.cells #[.int .i64 s, .slice A n c] 28)
  obtain ⟨w2, hw2, hb2, z2, z2'⟩ := new_box w1 (.cells #[.int .i64 x] 3)
  have s1 : w1.heap.size = w.heap.size + 1 := by omega
  have v1 : Bx 28 w1 w.heap.size s (.slice A n c) := by rw [hw1]; exact Bx.new _ _ _ _
  have X0 := Lib.hid (v1.below hb2 (by omega))
  have c2 : w2.cell? ⟨w.heap.size + 1, 0, none⟩ = some (.int .i64 x) := by
    rw [hw2, ← s1]
    exact World.cell?_alloc_at _ _ _ _ rfl
  have bb := hb1.trans (hb2.mono (by omega))
  have H := Lib.hid (h.below bb hB)
  have Hb := Lib.hid bb
  have Hcl := Lib.hid h.1
  have hw : w2 = (w.alloc (.cells #[.int .i64 s, .slice A n c] 28)).alloc (.cells #[.int .i64 x] 3) := by rw [hw2, hw1]
  have C2 := Lib.hid c2
  clear h hb1 hb2 v1 bb hw1 hw2 c2
  rcases Bool.eq_false_or_eq_true (Bd.okB s cs) with hv | hv
  · have Hv := Lib.hid hv
    have hn49 : n ≤ 49 := by
      obtain ⟨q1, q2, q3, _⟩ := (Bd.okB_iff s cs).1 hv
      have := Pt.sq_bd s q1 q2
      have := Hcl.out
      omega
    rcases Bool.eq_false_or_eq_true (decide (1 ≤ x) && decide (x ≤ 2)) with hx | hx
    · have Hpl := Lib.hid (Hls.out.1 (by unfold okGs; rw [hv, hx]; rfl))
      go_enter Try.func14, Try.ntmps14
      go_upto_region 1 with (fail)
      rw [← hw]
      clear hw
      have u0 := X0.out.cell0
      have u1 := X0.out.cell1
      go_wp2_with fail
      refine (i_validBoard _ _ _ _ _ _ _ H.out (by omega) (by omega)).mono ?_
      rintro e y ⟨rfl, hb⟩
      rw [hv]
      clear hv
      have X2 := Lib.hid (X0.out.below hb (by omega))
      have H2 := Lib.hid (H.out.below hb (by omega))
      have Hb2 := Lib.hid (Hb.out.trans (hb.mono (by omega)))
      have c2 := (hb.cell (p := ⟨w.heap.size + 1, 0, none⟩) (by show w.heap.size + 1 < _; omega)).trans C2.out
      have hz := hb.size
      clear hb u0 u1 X0 H Hb C2
      have u0 := X2.out.cell0
      have u1 := X2.out.cell1
      go_wp2_with fail
      refine (i_stoneR _ _).mono ?_
      rintro e w' ⟨rfl, rfl⟩
      rw [hx]
      clear hx
      go_wp2_with fail
      refine (i_partsR s x _ (w.heap.size + 1) (by omega) c2 B A n c cs H2.out (by omega) Hv.out ls Hpl).mono ?_
      rintro e y2 ⟨A1, m1, c1, rfl, hss, hb⟩
      have Hss := Lib.hid (hss.weakB (B' := w.heap.size) (by omega))
      have Hf := Lib.hid (Hb2.out.trans (hb.mono (by omega)))
      clear hss hb
      go_wp2_with fail
      go_ret
      exact ⟨_, _, _, rfl, Hss.out, Hf.out⟩
    · have Hnil := Lib.hid (Hls.out.2 (by unfold okGs; rw [hx, Bool.and_false]))
      go_enter Try.func14, Try.ntmps14
      go_upto_region 1 with (fail)
      rw [← hw]
      clear hw
      have u0 := X0.out.cell0
      have u1 := X0.out.cell1
      go_wp2_with fail
      refine (i_validBoard _ _ _ _ _ _ _ H.out (by omega) (by omega)).mono ?_
      rintro e y ⟨rfl, hb⟩
      rw [hv]
      clear hv
      have Hb2 := Lib.hid (Hb.out.trans (hb.mono (by omega)))
      have c2 := (hb.cell (p := ⟨w.heap.size + 1, 0, none⟩) (by show w.heap.size + 1 < _; omega)).trans C2.out
      clear hb u0 u1 X0 H Hb C2
      go_wp2_with fail
      refine (i_stoneR _ _).mono ?_
      rintro e w' ⟨rfl, rfl⟩
      rw [hx]
      clear hx
      go_wp2_with fail
      go_ret
      exact ⟨_, _, _, rfl, by rw [Hnil.out]; exact SS.nil _ _ _, Hb2.out⟩
  · have Hnil := Lib.hid (Hls.out.2 (by unfold okGs; rw [hv, Bool.false_and]))
    have hnb : n ≤ 1000000000 := hn
    go_enter Try.func14, Try.ntmps14
    go_upto_region 1 with (fail)
    rw [← hw]
    clear hw
    have u0 := X0.out.cell0
    have u1 := X0.out.cell1
    go_wp2_with fail
    refine (i_validBoard _ _ _ _ _ _ _ H.out (by omega) (by omega)).mono ?_
    rintro e y ⟨rfl, hb⟩
    rw [hv]
    clear hv
    have Hb2 := Lib.hid (Hb.out.trans (hb.mono (by omega)))
    clear hb u0 u1 X0 H Hb C2
    go_wp2_with fail
    go_ret
    exact ⟨_, _, _, rfl, by rw [Hnil.out]; exact SS.nil _ _ _, Hb2.out⟩
end Go.Proofs.Ytkjlcokbgpnejaa
