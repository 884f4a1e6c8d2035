/-
  Texts that laws over drawn boards stand on: OpenB, RgI, GsI, RgS.
-/
import Derived.Test.YtkjlcokbgpnejaaWords
import Derived.ProofKit
import Derived.OpenShut
import Derived.Lib.SmallJoins
import Derived.Test.YtkjlcokbgpnejaaRgP
import Derived.Test.YtkjlcokbgpnejaaErI
import Derived.Test.YtkjlcokbgpnejaaGs
namespace Go.Proofs.Ytkjlcokbgpnejaa
set_option maxRecDepth 100000
open Go.RowKit Go.ChangeShapes Go.WideShapes Go.ChangeAt Go.Joins

theorem cellsBoard : Try.prog.cellsOf 24 = 2 := by kernel_rfl

theorem open_board {H : Type} {enc : TypeId × Value → H} {w : World} {base : Nat} {spare : Nat → Bool} {held : Bool} {r : Reach} {b0 : Nat} {v : Value} {d : DataW H} {p : List MemPlace}
    (hv : Value.okWide Try.prog w r b0 24 v) (h : DataW.Trod enc Try.prog w base spare held 24 v d p) :
    ∃ (s : Int) (A : Option Addr) (n c : Nat) (cs : List Int), v = .agg #[.int .i64 s, .slice A n c] ∧ Ints w w.heap.size A n cs ∧ n ≤ 9223372036854775807 := by
  obtain ⟨v0, v1, y0, y1, m, rfl, _, _, h0, h1⟩ := open_agg2 Try.underlying24 (by kernel_rfl) cellsBoard hv h
  obtain ⟨s, e0, _, _⟩ := DataW.trod_int Try.underlying3 h0
  simp at e0
  subst e0
  rcases open_ints Try.underlying22 Try.underlying3 (by kernel_rfl) h1 with ⟨hcs, _⟩ | ⟨x, l, c, zs, hcs, _, hl, hm, hz, _, hcell, _⟩
  · simp at hcs
    subst hcs
    exact ⟨s, none, 0, 0, [], rfl, ⟨rfl, .inl rfl⟩, by omega⟩
  · simp at hcs
    subst hcs
    have hlz : l ≤ zs.length := by rw [hz]; split <;> omega
    refine ⟨s, some x, l, c, zs.take l, rfl, ⟨by rw [List.length_take]; omega, ?_⟩, by unfold maxLen at hm; omega⟩
    by_cases h0 : l = 0
    · exact .inl h0
    · obtain ⟨b, off, spot⟩ := x
      have hc := hcell 0 (by omega)
      have hspot : spot = none := by simpa [Addr.add] using World.cell?_spot hc
      subst hspot
      refine .inr ⟨b, off, rfl, World.block_lt_of_cell? w _ hc, fun j hj => ?_⟩
      have hj' := hcell j (by omega)
      have e : (⟨b, off, none⟩ : Addr).add j = ⟨b, off + j, none⟩ := by by_cases hj0 : j = 0 <;> simp [Addr.add, hj0]
      rw [e] at hj'
      rw [hj']
      simp [List.getD_eq_getElem?_getD, hj]
end Go.Proofs.Ytkjlcokbgpnejaa

namespace Go.Proofs.Ytkjlcokbgpnejaa
set_option maxRecDepth 100000
open Go.RowKit

theorem i_isOther (x z : Int) (w : World) (gc : Nat) (hc : w.cell? ⟨gc, 0, none⟩ = some (.int .i64 x)) : Calls Try.prog 46 #[.int .i64 z, .pointer (some ⟨gc, 0, none⟩)] w fun e w' => e = .returned (.bool (!(z == x))) ∧ w' = w := by
  go_enter Try.func46, Try.ntmps46
  go_wp2_with fail
  go_ret
  exact ⟨rfl, rfl⟩

set_option maxRecDepth 100000 in
set_option maxHeartbeats 4000000 in
theorem i_partsR (s x : Int) (w : World) (gc : Nat) (hgc : gc < w.heap.size) (hcc : w.cell? ⟨gc, 0, none⟩ = some (.int .i64 x)) (B : Nat) (A : Option Addr) (n c : Nat) (cs : List Int) (h : Ints w B A n cs) (hB : B ≤ w.heap.size) (hv : Bd.okB s cs = true) (ls : List (List Int)) (Hls : Hid (PL s n (notCol x cs) n ls)) :
    Calls Try.prog 45 #[.agg #[.int .i64 s, .slice A n c], .func (Fn.func 46) #[] #[.pointer (some ⟨gc, 0, none⟩)]] w fun e w' => Lists w ls e w' := by
  obtain ⟨h1, h2, h3, _⟩ := (Bd.okB_iff s cs).1 hv
  have hsq := Pt.sq_bd s h1 h2
  have hcl := h.1
  have hn : (n : Int) = s * s := by omega
  have hn49 : n ≤ 49 := by omega
  have hb1 : Below w.heap.size w (w.alloc (.cells #[.int .i64 s, .slice A n c] 28)) := (Below.refl _ _).alloc (Nat.le_refl _) _
  have X0 := Lib.hid (Bx.new 28 w s (.slice A n c))
  have H := Lib.hid (h.below hb1 hB)
  have Hb := Lib.hid hb1
  have Hcc := Lib.hid ((hb1.cell (p := ⟨gc, 0, none⟩) hgc).trans hcc)
  have Hcl := Lib.hid hcl
  have Hn := Lib.hid hn
  clear h hb1 hv h3 hn hcl hcc
  go_enter Try.func45, Try.ntmps45
  go_upto_region 1 with (fail)
  obtain ⟨y0, hy⟩ : ∃ y, y = w.alloc (.cells #[.int .i64 s, .slice A n c] 28) := ⟨_, rfl⟩
  have hyz : w.heap.size < y0.heap.size := by rw [hy]; simp
  rw [← hy] at X0 H Hb Hcc ⊢
  clear hy
  have u0 := X0.out.cell0
  have u1 := X0.out.cell1
  have ul := X0.out.lt
  go_upto_region 2 with (at_make; refine makeB rfl _ rfl _ _ n rfl rfl (by omega) ?_; intro y1 hbl hb hlt)
  have Hbl := Lib.hid hbl
  have Hb1 := Lib.hid hb
  have X1 := Lib.hid (X0.out.below hb ul)
  clear hbl hb u0 u1
  have u0 := X1.out.cell0
  have u1 := X1.out.cell1
  go_wp2_with fail
  go_loopw [15] (fun i wr => ∃ k S, k ≤ n ∧ i = .int .i64 (k : Nat) ∧ Bl wr y0.heap.size S ∧ S.length = n ∧ (∀ j, j < k → S.getD j false = (!(cs.getD j 0 == x))) ∧ Below y0.heap.size y0 wr) (fun i _ => n - (intOf i).toNat)
  case atStart => exact ⟨0, _, by omega, rfl, Hbl.out, by simp, (fun j hj => absurd hj (Nat.not_lt_zero j)), Hb1.out⟩
  case round =>
    clear Hbl Hb1 X1
    obtain ⟨k, S, hk, rfl, hbl, hsl, hs, hbr⟩ := hrel
    have hz := hbr.size
    have hgl := hbl.lt
    have X0r := Lib.hid (X0.out.below hbr ul)
    have Hr := Lib.hid (H.out.below hbr (by omega))
    have Hbl := Lib.hid hbl
    have Hsl := Lib.hid hsl
    have Hs := Lib.hid hs
    have Hbr := Lib.hid hbr
    have cgc := (hbr.cell (p := ⟨gc, 0, none⟩) (by show gc < _; omega)).trans Hcc.out
    clear hbl hsl hs hbr
    have v0 := X0r.out.cell0
    have v1 := X0r.out.cell1
    have vl := X0r.out.lt
    by_cases hkn : k < n
    · obtain ⟨b, o, rfl, hbB, hc⟩ : ∃ b o, A = some ⟨b, o, none⟩ ∧ b < B ∧ ∀ j, j < n → wr.cell? ⟨b, o + j, none⟩ = some (.int .i64 (cs.getD j 0)) := by
        rcases Hr.out.2 with h0 | ⟨b, o, hA, hbB, hc⟩
        · omega
        · exact ⟨b, o, hA, hbB, hc⟩
      have ck := hc k hkn
      obtain ⟨z, hx⟩ : ∃ z, cs.getD k 0 = z := ⟨_, rfl⟩
      rw [hx] at ck
      have Hx := Lib.hid hx
      have hkI : (k : Int) < n := by omega
      obtain ⟨u, hu⟩ : ∃ u, wr.cell? ⟨y0.heap.size, k, none⟩ = some u := ⟨_, Hbl.out.cell (by rw [Hsl.out]; exact hkn)⟩
      have hf := Hbl.out.frozen k
      have Hbl2 := Lib.hid (Hbl.out.set_ k (!(z == x)))
      have Hs2 : Hid (∀ j, j < k + 1 → (S.set k (!(z == x))).getD j false = (!(cs.getD j 0 == x))) := Lib.hid (fun j hj => by
        rw [Pa.set_getD S k j _ (by rw [Hsl.out]; exact hkn)]
        by_cases e : j = k
        · subst e; rw [if_pos rfl, Hx.out]
        · rw [if_neg e]; exact Hs.out j (by omega))
      have Hb2 := Lib.hid (Hbr.out.setCell (p := ⟨y0.heap.size, k, none⟩) (Nat.le_refl _) (.bool (!(z == x))))
      have Hsl2 : Hid ((S.set k (!(z == x))).length = n) := Lib.hid (by rw [List.length_set]; exact Hsl.out)
      clear hc hx
      go_wp2_with fail
      refine (i_isOther x z _ gc cgc).mono ?_
      rintro e w' ⟨rfl, rfl⟩
      go_wp2_with fail
      go_roundw
      case rel => exact ⟨k + 1, _, by omega, by go_num, Hbl2.out, Hsl2.out, Hs2.out, Hb2.out⟩
      case measure => simp [intOf]; omega
    · have hkn2 : k = n := by omega
      have hSK : S = notCol x cs := by
        refine List.ext_getElem (by rw [notCol_len, Hcl.out, Hsl.out]) fun i i1 i2 => ?_
        have h9 := Hs.out i (by have := Hsl.out; omega)
        rw [← notCol_at (by have := Hsl.out; have := Hcl.out; omega), List.getD_eq_getElem?_getD, List.getD_eq_getElem?_getD, List.getElem?_eq_getElem i1, List.getElem?_eq_getElem i2] at h9
        simpa using h9
      have Hbl2 : Hid (Bl wr y0.heap.size (notCol x cs)) := Lib.hid (by rw [← hSK]; exact Hbl.out)
      have Hkl : Hid ((notCol x cs).length = n) := Lib.hid (by rw [notCol_len]; exact Hcl.out)
      have Hbw := Lib.hid (Hb.out.trans (Hbr.out.mono (by omega)))
      clear hkn2 hSK
      go_wp2_with fail
      refine (i_connectedParts s _ y0.heap.size n (notCol x cs) h1 h2 Hn.out Hkl.out Hbl2.out).mono ?_
      rintro e w' ⟨A1, m1, c1, l1, rfl, hss, hpl, hg⟩
      obtain rfl := Hls.out.one hpl
      have Hss := Lib.hid (hss.weakB (B' := w.heap.size) (by omega))
      have Hf := Lib.hid (Hbw.out.grown hg (by omega) (fun q e => by injection e; omega))
      clear hss hpl hg
      go_wp2_with fail
      go_ret
      exact ⟨_, _, _, rfl, Hss.out, Hf.out⟩


theorem i_stoneR (x : Int) (w : World) : Calls Try.prog 44 #[.int .i64 x] w fun e w' => e = .returned (.bool (decide (1 ≤ x) && decide (x ≤ 2))) ∧ w = w' := by
  refine (i_isStone x w).mono ?_
  rintro e w' ⟨rfl, rfl⟩
  have : (x == 1 || x == 2) = (decide (1 ≤ x) && decide (x ≤ 2)) := by
    rw [Bool.eq_iff_iff]
    simp
    omega
  exact ⟨by rw [this], rfl⟩

set_option maxRecDepth 100000 in
set_option maxHeartbeats 4000000 in
theorem i_Rg (s x : Int) (w : World) (B : Nat) (A : Option Addr) (n c : Nat) (cs : List Int) (h : Ints w B A n cs) (hB : B ≤ w.heap.size) (hn : n ≤ 1000000000) (ls : List (List Int)) (Hls : Hid (RgIs s n cs x ls)) :
    Calls Try.prog 14 #[.agg #[.int .i64 s, .slice A n c], .int .i64 x] w fun e w' => Lists w ls e w' := by
  obtain ⟨w1, hw1, hb1, z1, z1'⟩ := new_box w (.cells #[.int .i64 s, .slice A n c] 28)
  obtain ⟨w2, hw2, hb2, z2, z2'⟩ := new_box w1 (.cells #[.int .i64 x] 3)
  have s1 : w1.heap.size = w.heap.size + 1 := by omega
  have v1 : Bx 28 w1 w.heap.size s (.slice A n c) := by rw [hw1]; exact Bx.new _ _ _ _
  have X0 := Lib.hid (v1.below hb2 (by omega))
  have c2 : w2.cell? ⟨w.heap.size + 1, 0, none⟩ = some (.int .i64 x) := by
    rw [hw2, ← s1]
    exact World.cell?_alloc_at _ _ _ _ rfl
  have bb := hb1.trans (hb2.mono (by omega))
  have H := Lib.hid (h.below bb hB)
  have Hb := Lib.hid bb
  have Hcl := Lib.hid h.1
  have hw : w2 = (w.alloc (.cells #[.int .i64 s, .slice A n c] 28)).alloc (.cells #[.int .i64 x] 3) := by rw [hw2, hw1]
  have C2 := Lib.hid c2
  clear h hb1 hb2 v1 bb hw1 hw2 c2
  rcases Bool.eq_false_or_eq_true (Bd.okB s cs) with hv | hv
  · have Hv := Lib.hid hv
    have hn49 : n ≤ 49 := by
      obtain ⟨q1, q2, q3, _⟩ := (Bd.okB_iff s cs).1 hv
      have := Pt.sq_bd s q1 q2
      have := Hcl.out
      omega
    rcases Bool.eq_false_or_eq_true (decide (1 ≤ x) && decide (x ≤ 2)) with hx | hx
    · have Hpl := Lib.hid (Hls.out.1 (by unfold okGs; rw [hv, hx]; rfl))
      go_enter Try.func14, Try.ntmps14
      go_upto_region 1 with (fail)
      rw [← hw]
      clear hw
      have u0 := X0.out.cell0
      have u1 := X0.out.cell1
      go_wp2_with fail
      refine (i_validBoard _ _ _ _ _ _ _ H.out (by omega) (by omega)).mono ?_
      rintro e y ⟨rfl, hb⟩
      rw [hv]
      clear hv
      have X2 := Lib.hid (X0.out.below hb (by omega))
      have H2 := Lib.hid (H.out.below hb (by omega))
      have Hb2 := Lib.hid (Hb.out.trans (hb.mono (by omega)))
      have c2 := (hb.cell (p := ⟨w.heap.size + 1, 0, none⟩) (by show w.heap.size + 1 < _; omega)).trans C2.out
      have hz := hb.size
      clear hb u0 u1 X0 H Hb C2
      have u0 := X2.out.cell0
      have u1 := X2.out.cell1
      go_wp2_with fail
      refine (i_stoneR _ _).mono ?_
      rintro e w' ⟨rfl, rfl⟩
      rw [hx]
      clear hx
      go_wp2_with fail
      refine (i_partsR s x _ (w.heap.size + 1) (by omega) c2 B A n c cs H2.out (by omega) Hv.out ls Hpl).mono ?_
      rintro e y2 ⟨A1, m1, c1, rfl, hss, hb⟩
      have Hss := Lib.hid (hss.weakB (B' := w.heap.size) (by omega))
      have Hf := Lib.hid (Hb2.out.trans (hb.mono (by omega)))
      clear hss hb
      go_wp2_with fail
      go_ret
      exact ⟨_, _, _, rfl, Hss.out, Hf.out⟩
    · have Hnil := Lib.hid (Hls.out.2 (by unfold okGs; rw [hx, Bool.and_false]))
      go_enter Try.func14, Try.ntmps14
      go_upto_region 1 with (fail)
      rw [← hw]
      clear hw
      have u0 := X0.out.cell0
      have u1 := X0.out.cell1
      go_wp2_with fail
      refine (i_validBoard _ _ _ _ _ _ _ H.out (by omega) (by omega)).mono ?_
      rintro e y ⟨rfl, hb⟩
      rw [hv]
      clear hv
      have Hb2 := Lib.hid (Hb.out.trans (hb.mono (by omega)))
      have c2 := (hb.cell (p := ⟨w.heap.size + 1, 0, none⟩) (by show w.heap.size + 1 < _; omega)).trans C2.out
      clear hb u0 u1 X0 H Hb C2
      go_wp2_with fail
      refine (i_stoneR _ _).mono ?_
      rintro e w' ⟨rfl, rfl⟩
      rw [hx]
      clear hx
      go_wp2_with fail
      go_ret
      exact ⟨_, _, _, rfl, by rw [Hnil.out]; exact SS.nil _ _ _, Hb2.out⟩
  · have Hnil := Lib.hid (Hls.out.2 (by unfold okGs; rw [hv, Bool.false_and]))
    have hnb : n ≤ 1000000000 := hn
    go_enter Try.func14, Try.ntmps14
    go_upto_region 1 with (fail)
    rw [← hw]
    clear hw
    have u0 := X0.out.cell0
    have u1 := X0.out.cell1
    go_wp2_with fail
    refine (i_validBoard _ _ _ _ _ _ _ H.out (by omega) (by omega)).mono ?_
    rintro e y ⟨rfl, hb⟩
    rw [hv]
    clear hv
    have Hb2 := Lib.hid (Hb.out.trans (hb.mono (by omega)))
    clear hb u0 u1 X0 H Hb C2
    go_wp2_with fail
    go_ret
    exact ⟨_, _, _, rfl, by rw [Hnil.out]; exact SS.nil _ _ _, Hb2.out⟩
end Go.Proofs.Ytkjlcokbgpnejaa

namespace Go.Proofs.Ytkjlcokbgpnejaa
set_option maxRecDepth 100000
open Go.RowKit

theorem SS.weaken {w : World} {B B' hi n c : Nat} {A : Option Addr} {xss : List (List Int)} (h : SS w B hi A n c xss) (hB : B' ≤ B) : SS w B' hi A n c xss := by
  obtain ⟨a1, a2, vs, ra, rn, rc, a3, a4, a5, a6, a7⟩ := h
  refine ⟨a1, a2, vs, ra, rn, rc, a3, ⟨a4.1, ?_⟩, fun j hj => ⟨(a5 j hj).1, (a5 j hj).2.weaken hB⟩, a6, a7⟩
  rcases a4.2 with e | ⟨g, cap, cur, e, hg, r⟩
  · exact .inl e
  · exact .inr ⟨g, cap, cur, e, by omega, r⟩

theorem i_stone (x : Int) (w : World) : Calls Try.prog 44 #[.int .i64 x] w fun e w' => e = .returned (.bool (decide (1 ≤ x) && decide (x ≤ 2))) ∧ w = w' := by
  refine (i_isStone x w).mono ?_
  rintro e w' ⟨rfl, rfl⟩
  refine ⟨?_, rfl⟩
  have : (x == 1 || x == 2) = (decide (1 ≤ x) && decide (x ≤ 2)) := by
    rw [Bool.eq_iff_iff]
    simp only [Bool.or_eq_true, beq_iff_eq, Bool.and_eq_true, decide_eq_true_eq]
    omega
  rw [this]

end Go.Proofs.Ytkjlcokbgpnejaa

namespace Go.Proofs.Ytkjlcokbgpnejaa
set_option maxRecDepth 100000
open Go.RowKit

theorem OwnB.stored {w : World} {B n c g : Nat} {bs : List Bool} (h : OwnB w B (some ⟨g, 0, none⟩) n c bs) (j : Nat) (x : Bool) :
    OwnB (w.setCell ⟨g, j, none⟩ (.bool x)) B (some ⟨g, 0, none⟩) n c (bs.set j x) ∧ w.grownBy (w.setCell ⟨g, j, none⟩ (.bool x)) (some g) := by
  have := World.ownsRow.stored h.2 j (.bool x)
  exact ⟨⟨by rw [List.length_set]; exact h.1, by rw [List.map_set]; exact this.1⟩, this.2⟩

theorem OwnB.kept {w w' : World} {B n c g : Nat} {bs : List Bool} (h : OwnB w B (some ⟨g, 0, none⟩) n c bs) {row : Option Nat} (hg : w.grownBy w' row) (hne : row ≠ some g) : OwnB w' B (some ⟨g, 0, none⟩) n c bs :=
  ⟨h.1, h.2.kept hg (.inr fun e => hne e.symm)⟩
theorem SS.block {w : World} {B hi n c g : Nat} {A : Option Addr} {xss : List (List Int)} (h : SS w B hi A n c xss) (hg : (Value.slice A n c).ownBlock = some g) : B ≤ g ∧ ∃ cur, w.heap[g]? = some (.cells cur 22 (0, 0)) := by
  obtain ⟨_, _, vs, ra, rn, rc, _, a4, _⟩ := h
  rcases a4.2 with ⟨e, _⟩ | ⟨g', cap, cur, e, hB, hh, _⟩
  · rw [e] at hg; cases hg
  · rw [e] at hg
    have : g' = g := by simpa [Value.ownBlock] using hg
    subst this
    exact ⟨hB, cur, hh⟩
theorem SS.apartB {w : World} {B B' hi n c n' c' g : Nat} {A : Option Addr} {xss : List (List Int)} {bs : List Bool} (h : SS w B hi A n c xss) (h' : OwnB w B' (some ⟨g, 0, none⟩) n' c' bs) : (Value.slice A n c).ownBlock ≠ some g := by
  intro e
  obtain ⟨_, cur, hh⟩ := h.block e
  rcases h'.2.2 with ⟨e2, _⟩ | ⟨g', cap, cur', e2, _, hh', _⟩
  · cases e2
  · injection e2 with e2
    injection e2 with e2
    injection e2 with e2
    subst e2
    rw [hh] at hh'
    injection hh' with hh'
    injection hh' with _ h9
    exact absurd h9 (by decide)

set_option maxRecDepth 100000 in
set_option maxHeartbeats 8000000 in
theorem s_regionsOf (s x : Int) (w : World) (B : Nat) (A : Option Addr) (n c : Nat) (cs : List Int) (h : Ints w B A n cs) (hB : B ≤ w.heap.size) (h1 : 1 ≤ s) (h2 : s ≤ 7) (hn : (n : Int) = s * s) (ls : List (List Int)) (Hls : Hid (PL s n (notCol x cs) n ls)) :
    Calls Try.prog 43 #[.agg #[.int .i64 s, .slice A n c], .int .i64 x] w fun e w' => ∃ A' m' c', e = .returned (.slice A' m' c') ∧ SS w' w.heap.size w'.heap.size A' m' c' ls ∧ Below w.heap.size w w' := by
  have hsq := Pt.sq_bd s h1 h2
  have hn49 : n ≤ 49 := by omega
  have hn1 : 0 < n := by omega
  have hb1 : Below w.heap.size w (w.alloc (.cells #[.int .i64 s, .slice A n c] 28)) := (Below.refl _ _).alloc (Nat.le_refl _) _
  have X0 := Lib.hid (Bx.new 28 w s (.slice A n c))
  have H := Lib.hid (h.below hb1 hB)
  have Hb := Lib.hid hb1
  have Hn := Lib.hid hn
  have Hcl := Lib.hid h.1
  clear h hb1 hn
  go_enter Try.func43, Try.ntmps43
  go_upto_region 1 with (fail)
  obtain ⟨y0, hy⟩ : ∃ y, y = w.alloc (.cells #[.int .i64 s, .slice A n c] 28) := ⟨_, rfl⟩
  have hyz : w.heap.size < y0.heap.size := by rw [hy]; simp
  rw [← hy] at X0 H Hb ⊢
  clear hy
  have ul := X0.out.lt
  go_upto_region 2 with (fail)
  obtain ⟨y1, hy1, hb01, z1, z1'⟩ := new_box y0 (.cells #[] 22)
  have Hss0 : Hid (SS y1 y0.heap.size (y0.heap.size + 1) (some ⟨y0.heap.size, 0, none⟩) 0 0 []) := Lib.hid (by rw [hy1]; exact SS.bare y0 y0.heap.size (Nat.le_refl _))
  have X1 := Lib.hid (X0.out.below hb01 ul)
  have H1 := Lib.hid (H.out.below hb01 (by omega))
  have Hb1 := Lib.hid (Hb.out.trans (hb01.mono (by omega)))
  rw [← hy1]
  clear hy1 hb01
  have u0 := X1.out.cell0
  have u1 := X1.out.cell1
  go_wp2_with fail
  refine (s_ofColor s x _ B A n c cs H1.out (by omega) (by omega)).mono ?_
  rintro e y2 ⟨Af, cf, rfl, hof, hb⟩
  obtain ⟨gf, hAf, hgf1, hgf2, _⟩ := hof.read hn1
  subst hAf
  have Hof := Lib.hid hof
  have X2 := Lib.hid (X1.out.below hb (by omega))
  have H2 := Lib.hid (H1.out.below hb (by omega))
  have Hb2 := Lib.hid (Hb1.out.trans (hb.mono (by omega)))
  have Hss2 := Lib.hid (Hss0.out.under hb (by omega))
  have z2 := hb.size
  clear hof hb u0 u1
  have Hr0 := Lib.hid (World.grownBy.refl y2 (some gf))
  have Hst0 : Hid (∀ j, j < n → (hasCol x cs).getD j false = if j < 0 then !(cs.getD j 0 == x) else (cs.getD j 0 == x)) := Lib.hid (fun j hj => by rw [if_neg (Nat.not_lt_zero j)]; exact hasCol_at (by rw [Hcl.out]; exact hj))
  go_wp2_with fail
  go_loopw [7] (fun i wr => ∃ (k : Nat) (S : List Bool), k ≤ n ∧ i = .int .i64 (k : Nat) ∧ OwnB wr y1.heap.size (some ⟨gf, 0, none⟩) n cf S ∧ (∀ j, j < n → S.getD j false = if j < k then !(cs.getD j 0 == x) else (cs.getD j 0 == x)) ∧ y2.grownBy wr (some gf)) (fun i _ => n - (intOf i).toNat)
  case atStart => exact ⟨0, _, by omega, rfl, Hof.out, Hst0.out, Hr0.out⟩
  case round =>
    clear Hof Hr0 Hst0
    obtain ⟨wo, rfl⟩ : ∃ wo : World, wo = wr := ⟨_, rfl⟩
    obtain ⟨k, S, hk, rfl, hof, hs, hg⟩ := hrel
    have Hof := Lib.hid hof
    have Hs := Lib.hid hs
    have Hg := Lib.hid hg
    have hz := hg.size
    clear hof hs hg
    by_cases hkn : k < n
    · have hkI : (k : Int) < n := by omega
      obtain ⟨_, hA, _, _, hcell⟩ := Hof.out.read hn1
      injection hA with hA
      injection hA with hA
      subst hA
      have ck := hcell k hkn
      rw [Nat.zero_add] at ck
      have hf := World.ownsRow.frozenAt Hof.out.2 k
      obtain ⟨bv, hbv⟩ : ∃ bv, S.getD k false = bv := ⟨_, rfl⟩
      rw [hbv] at ck
      have Hbv : Hid ((!bv) = !(cs.getD k 0 == x)) := Lib.hid (by have h9 := Hs.out k hkn; rw [if_neg (Nat.lt_irrefl k), hbv] at h9; rw [h9])
      have Hsv := Lib.hid (Hof.out.stored k (!bv))
      have Hs2 : Hid (∀ j, j < n → (S.set k (!bv)).getD j false = if j < k + 1 then !(cs.getD j 0 == x) else (cs.getD j 0 == x)) := Lib.hid (fun j hj => by
        rw [Pa.set_getD S k j _ (by rw [Hof.out.1]; exact hkn)]
        by_cases e : j = k
        · subst e; rw [if_pos rfl, if_pos (by omega)]; exact Hbv.out
        · rw [if_neg e, Hs.out j hj]
          by_cases e2 : j < k
          · rw [if_pos e2, if_pos (by omega)]
          · rw [if_neg e2, if_neg (by omega)])
      clear hcell hbv
      go_wp2_with fail
      go_roundw
      case rel => exact ⟨k + 1, _, by omega, by go_num, Hsv.out.1, Hs2.out, gtrans Hg.out Hsv.out.2⟩
      case measure => simp [intOf]; omega
    · have hkn2 : k = n := by omega
      have hSK : S = notCol x cs := by
        refine List.ext_getElem (by rw [notCol_len, Hcl.out, Hof.out.1]) fun i i1 i2 => ?_
        have hin : i < n := by have := Hof.out.1; omega
        have h9 := Hs.out i hin
        rw [if_pos (by omega), ← notCol_at (by rw [Hcl.out]; exact hin), List.getD_eq_getElem?_getD, List.getD_eq_getElem?_getD, List.getElem?_eq_getElem i1, List.getElem?_eq_getElem i2] at h9
        simpa using h9
      subst hSK
      have X3 := Lib.hid (X2.out.grown Hg.out (fun e => by injection e; omega))
      have Hss3 := Lib.hid (Hss2.out.kept Hg.out (fun g e => by injection e with e; subst e; exact .inr (by omega)))
      have Hb3 := Lib.hid (Hb2.out.grown Hg.out (by omega) (fun g e => by injection e; omega))
      have Hof3 := Lib.hid Hof.out
      have ul3 := X3.out.lt
      clear hkn2
      go_wp2_with fail
      go_loopw [5, 8] (fun v i wr => ∃ (k m c' : Nat) (A' : Option Addr) (l0 : List (List Int)), k ≤ n ∧ i = .int .i64 (k : Nat) ∧ v = .slice A' m c' ∧ SS wr y0.heap.size wr.heap.size A' m c' l0 ∧ PL s n (notCol x cs) k l0 ∧ OwnB wr y1.heap.size (some ⟨gf, 0, none⟩) n cf (notCol x cs) ∧ Bx 28 wr w.heap.size s (.slice A n c) ∧ Below w.heap.size w wr) (fun _ i _ => n - (intOf i).toNat)
      case atStart => exact ⟨0, 0, 0, _, [], by omega, rfl, rfl, Hss3.out.top, rfl, Hof3.out, X3.out, Hb3.out⟩
      case round =>
        clear Hss3 Hof3 X3 Hb3 ul3
        obtain ⟨wp, rfl⟩ : ∃ wp : World, wp = wr := ⟨_, rfl⟩
        obtain ⟨k, m, c', A', l0, hk, rfl, rfl, hss, hpl, hof, hx, hbr⟩ := hrel
        have hz3 := hbr.size
        have hm := hss.len
        have hm2 := hpl.small
        have hm3 : m ≤ 49 := by omega
        have X4 := Lib.hid hx
        have Hof := Lib.hid hof
        have Hss := Lib.hid hss
        have Hpl := Lib.hid hpl
        have Hbr := Lib.hid hbr
        have v0 := X4.out.cell0
        have vl := X4.out.lt
        clear hss hpl hbr hm hm2 hx hof
        by_cases hkn : k < n
        · have hkI : (k : Int) < n := by omega
          obtain ⟨gf', hAf, _, hgf9, hkf⟩ := Hof.out.read hn1
          injection hAf with hAf
          injection hAf with hAf
          subst hAf
          have Hkf2 := Lib.hid hkf
          have ck := hkf k hkn
          rw [Nat.zero_add] at ck
          clear hkf
          rcases Bool.eq_false_or_eq_true ((notCol x cs).getD k false) with hv | hv
          · have Hv := Lib.hid hv
            rw [hv] at ck
            clear hv
            go_wp2_with fail
            refine (s_flood s k _ gf 0 n cf (notCol x cs) h1 h2 Hn.out (by omega) hkI (by rw [notCol_len, Hcl.out]) (by omega) Hkf2.out).mono ?_
            rintro e yl ⟨A5, m5, c5, S5, rfl, hol, hsl, hall, hbl⟩
            have Hrl : Hid (Reached s n (notCol x cs) (k : Int) (Fl.pts S5 n)) := Lib.hid ⟨S5, hsl, hall, rfl⟩
            obtain ⟨f1, f2⟩ := Hrl.out.starts hkn Hv.out
            have hm5 := hol.1
            have hzl := hbl.size
            have Hssl := Lib.hid (Hss.out.below hbl)
            have Hofl := Lib.hid (Hof.out.kept (gbelow none hbl (Nat.le_refl _)) (by simp))
            have Xl := Lib.hid (X4.out.below hbl vl)
            have Hbl := Lib.hid (Hbr.out.trans (hbl.mono (by omega)))
            obtain ⟨gb, hA5⟩ : ∃ gb, A5 = some ⟨gb, 0, none⟩ := by
              obtain ⟨q, cap, hv, _⟩ := World.ownsRow.form hol.2 (by omega)
              exact ⟨q, by injection hv⟩
            rw [hA5] at hol ⊢
            have c0 := hol.cellD 0 (by omega)
            obtain ⟨z, hz0⟩ : ∃ z, (Fl.pts S5 n).getD 0 0 = z := ⟨_, rfl⟩
            rw [hz0] at c0 f2
            have Hol := Lib.hid hol
            have Hf2 := Lib.hid f2
            have hm5p : (0 : Int) < m5 := by omega
            clear hol hbl v0 ck hz0 f2 f1 hA5 hsl hall hm5
            by_cases hzk : z = (k : Int)
            · have Hgf := Lib.hid (Hf2.out.1 hzk)
              subst hzk
              go_wp2_with (at_builtin; refine app1S rfl _ _ rfl _ _ _ _ _ _ _ _ _ _ _ _ rfl rfl rfl Hssl.out Hol.out (by omega) (by omega) (by omega) ?_; intro A6 c6 w6 hss6 hlt6 hb6 hg6)
              have Hss6 := Lib.hid hss6
              have Hof6 := Lib.hid (Hofl.out.kept hg6 (Hssl.out.apartB Hofl.out))
              have X6 := Lib.hid (Xl.out.grown hg6 (fun e => by have := (Hssl.out.block e.symm).1; omega))
              have Hb6 := Lib.hid (Hbl.out.grown hg6 (by omega) (fun q e => by have := (Hssl.out.block e).1; omega))
              clear hss6 hb6 hg6
              go_roundw
              case rel => exact ⟨k + 1, _, _, _, _, by omega, by go_num, rfl, Hss6.out, ⟨_, Hpl.out, .inl ⟨Hgf.out, _, Hrl.out, rfl⟩⟩, Hof6.out, X6.out, Hb6.out⟩
              case measure => simp [intOf]; omega
            · have Hgf : Hid (¬ Pa.PF s (notCol x cs) k) := Lib.hid (fun h => hzk (Hf2.out.2 h))
              go_wp2_with fail
              go_roundw
              case rel => exact ⟨k + 1, _, _, _, _, by omega, by go_num, rfl, Hssl.out.top, ⟨_, Hpl.out, .inr ⟨Hgf.out, rfl⟩⟩, Hofl.out, Xl.out, Hbl.out⟩
              case measure => simp [intOf]; omega
          · have Hgf : Hid (¬ Pa.PF s (notCol x cs) k) := Lib.hid (fun h => by rw [h.1] at hv; cases hv)
            rw [hv] at ck
            clear hv
            go_wp2_with fail
            go_roundw
            case rel => exact ⟨k + 1, _, _, _, _, by omega, by go_num, rfl, Hss.out, ⟨_, Hpl.out, .inr ⟨Hgf.out, rfl⟩⟩, Hof.out, X4.out, Hbr.out⟩
            case measure => simp [intOf]; omega
        · have hkn3 : k = n := by omega
          have hl0 : l0 = ls := by have h9 := Hpl.out; rw [hkn3] at h9; exact h9.one Hls.out
          rw [hl0] at Hss
          have Hf := Lib.hid Hbr.out
          clear hl0 hkn3
          go_wp2_with fail
          go_ret
          exact ⟨_, _, _, rfl, Hss.out.weakB (by omega), Hf.out⟩

set_option maxRecDepth 100000 in
set_option maxHeartbeats 4000000 in
theorem s_RegionsOf (s x : Int) (w : World) (B : Nat) (A : Option Addr) (n c : Nat) (cs : List Int) (h : Ints w B A n cs) (hB : B ≤ w.heap.size) (hn : n ≤ 1000000000) (ls : List (List Int)) (Hls : Hid (RgIs s n cs x ls)) :
    Calls Try.prog 12 #[.agg #[.int .i64 s, .slice A n c], .int .i64 x] w fun e w' => ∃ A' m' c', e = .returned (.slice A' m' c') ∧ SS w' w.heap.size w'.heap.size A' m' c' ls ∧ Below w.heap.size w w' := by
  have hb1 : Below w.heap.size w (w.alloc (.cells #[.int .i64 s, .slice A n c] 28)) := (Below.refl _ _).alloc (Nat.le_refl _) _
  have hl := h.1
  have X0 := Lib.hid (Bx.new 28 w s (.slice A n c))
  have H := Lib.hid (h.below hb1 hB)
  have Hb := Lib.hid hb1
  clear h hb1
  by_cases hv : Bd.okB s cs = true
  · obtain ⟨q1, q2, q3, _⟩ := (Bd.okB_iff s cs).1 hv
    have q4 := Pt.sq_bd s q1 q2
    have hn49 : n ≤ 49 := by omega
    by_cases hx : (decide (1 ≤ x) && decide (x ≤ 2)) = true
    · have hh : okGs s cs x = true := by unfold okGs; rw [hv, hx]; rfl
      have Hh := Lib.hid hh
      clear hh
      go_enter Try.func12, Try.ntmps12
      go_wp2_with fail
      refine (s_validBoard _ _ _ _ _ _ _ H.out (by simp; omega) (by omega)).mono ?_
      rintro e y2 ⟨rfl, hb⟩
      rw [hv]
      have X2 := Lib.hid (X0.out.below hb X0.out.lt)
      have H2 := Lib.hid (H.out.below hb (by simp; omega))
      have Hb2 := Lib.hid (Hb.out.trans (hb.mono (by simp)))
      have zy2 := hb.size
      clear hb X0 H Hb
      have u00 := X2.out.cell0
      have u01 := X2.out.cell1
      have u02 := X2.out.lt
      clear hv
      go_wp2_with fail
      refine (s_vcolor _ _).mono ?_
      rintro e w' ⟨rfl, rfl⟩
      rw [hx]
      clear hx
      go_wp2_with fail
      refine (s_regionsOf s x _ B _ n _ cs H2.out (by omega) q1 q2 (by omega) ls (Lib.hid (Hls.out.1 Hh.out))).mono ?_
      rintro e y3 ⟨A3, m3, c3, rfl, hss, hb⟩
      have Hss := Lib.hid hss
      have Hb3 := Lib.hid (Hb2.out.trans (hb.mono (by omega)))
      clear hss hb
      go_wp2_with fail
      go_ret
      exact ⟨_, _, _, rfl, Hss.out.weaken (by omega), Hb3.out⟩
    · have hx' : (decide (1 ≤ x) && decide (x ≤ 2)) = false := by simpa using hx
      have hh : okGs s cs x = false := by unfold okGs; rw [hx']; simp
      have Hh := Lib.hid hh
      clear hh hx
      have hx := hx'
      clear hx'
      go_enter Try.func12, Try.ntmps12
      go_wp2_with fail
      refine (s_validBoard _ _ _ _ _ _ _ H.out (by simp; omega) (by omega)).mono ?_
      rintro e y2 ⟨rfl, hb⟩
      rw [hv]
      have X2 := Lib.hid (X0.out.below hb X0.out.lt)
      have H2 := Lib.hid (H.out.below hb (by simp; omega))
      have Hb2 := Lib.hid (Hb.out.trans (hb.mono (by simp)))
      have zy2 := hb.size
      clear hb X0 H Hb
      have u00 := X2.out.cell0
      have u01 := X2.out.cell1
      have u02 := X2.out.lt
      clear hv
      go_wp2_with fail
      refine (s_vcolor _ _).mono ?_
      rintro e w' ⟨rfl, rfl⟩
      rw [hx]
      clear hx
      go_wp2_with fail
      go_ret
      exact ⟨_, _, _, rfl, by rw [Hls.out.2 Hh.out]; exact SS.nil _ _ _, Hb2.out⟩
  · have hv' : Bd.okB s cs = false := by simpa using hv
    have hh : okGs s cs x = false := by unfold okGs; rw [hv']; rfl
    have Hh := Lib.hid hh
    clear hh hv
    have hv := hv'
    clear hv'
    go_enter Try.func12, Try.ntmps12
    go_wp2_with fail
    refine (s_validBoard _ _ _ _ _ _ _ H.out (by simp; omega) (by omega)).mono ?_
    rintro e y2 ⟨rfl, hb⟩
    rw [hv]
    have X2 := Lib.hid (X0.out.below hb X0.out.lt)
    have H2 := Lib.hid (H.out.below hb (by simp; omega))
    have Hb2 := Lib.hid (Hb.out.trans (hb.mono (by simp)))
    have zy2 := hb.size
    clear hb X0 H Hb
    have u00 := X2.out.cell0
    have u01 := X2.out.cell1
    have u02 := X2.out.lt
    clear hv
    go_wp2_with fail
    go_ret
    exact ⟨_, _, _, rfl, by rw [Hls.out.2 Hh.out]; exact SS.nil _ _ _, Hb2.out⟩

end Go.Proofs.Ytkjlcokbgpnejaa

