/-
  The program's EmptyRegions.
-/
import Derived.Test.YtkjlcokbgpnejaaCoP
import Derived.Test.YtkjlcokbgpnejaaBoardI
import Derived.Test.YtkjlcokbgpnejaaRows2
import Derived.Test.YtkjlcokbgpnejaaPlayP
import Derived.Deep.QuietTactic
import Derived.Deep.DeepCutAuto
namespace Go.Proofs.Ytkjlcokbgpnejaa
set_option maxRecDepth 100000
open Go.RowKit

theorem i_emptyIs (x : Int) (w : World) : Calls Try.prog 78 #[.int .i64 x] w fun e w' => e = .returned (.bool (x == 0)) ∧ w' = w := by
  go_enter Try.func78, Try.ntmps78
  go_wp2_with fail
  go_ret
  exact ⟨rfl, rfl⟩

theorem SS.weakB {w : World} {B B' hi n c : Nat} {A : Option Addr} {xss : List (List Int)} (h : SS w B hi A n c xss) (hB : B' ≤ B) : SS w B' hi A n c xss := by
  obtain ⟨a1, a2, vs, ra, rn, rc, a3, a4, a5, a6, a7⟩ := h
  exact ⟨a1, a2, vs, ra, rn, rc, a3, ⟨a4.1, by rcases a4.2 with e | ⟨g, cap, cur, e, hg, r⟩; exact .inl e; exact .inr ⟨g, cap, cur, e, by omega, r⟩⟩, fun j hj => ⟨(a5 j hj).1, (a5 j hj).2.weaken (by omega)⟩, a6, a7⟩

/-- The lists of lists that a call hands back. -/
def Lists (w : World) (ls : List (List Int)) (e : Ending) (w' : World) : Prop := ∃ A m c, e = .returned (.slice A m c) ∧ SS w' w.heap.size w'.heap.size A m c ls ∧ Below w.heap.size w w'

set_option maxRecDepth 100000 in
set_option maxHeartbeats 4000000 in
theorem i_partsW (s : Int) (w : World) (B : Nat) (A : Option Addr) (n c : Nat) (cs : List Int) (h : Ints w B A n cs) (hB : B ≤ w.heap.size) (hv : Bd.okB s cs = true) (ls : List (List Int)) (Hls : Hid (PL s n (hasCol 0 cs) n ls)) :
    Calls Try.prog 45 #[.agg #[.int .i64 s, .slice A n c], .func (Fn.func 78) #[] #[]] w fun e w' => Lists w ls e w' := by
  obtain ⟨h1, h2, h3, _⟩ := (Bd.okB_iff s cs).1 hv
  have hsq := Pt.sq_bd s h1 h2
  have hcl := h.1
  have hn : (n : Int) = s * s := by omega
  have hn49 : n ≤ 49 := by omega
  have hb1 : Below w.heap.size w (w.alloc (.cells #[.int .i64 s, .slice A n c] 28)) := (Below.refl _ _).alloc (Nat.le_refl _) _
  have X0 := Lib.hid (Bx.new 28 w s (.slice A n c))
  have H := Lib.hid (h.below hb1 hB)
  have Hb := Lib.hid hb1
  have Hcl := Lib.hid hcl
  have Hn := Lib.hid hn
  clear h hb1 hv h3 hn hcl
  go_enter Try.func45, Try.ntmps45
  go_upto_region 1 with (fail)
  obtain ⟨y0, hy⟩ : ∃ y, y = w.alloc (.cells #[.int .i64 s, .slice A n c] 28) := ⟨_, rfl⟩
  have hyz : w.heap.size < y0.heap.size := by rw [hy]; simp
  rw [← hy] at X0 H Hb ⊢
  clear hy
  have u0 := X0.out.cell0
  have u1 := X0.out.cell1
  have ul := X0.out.lt
  go_upto_region 2 with (at_make; refine makeB rfl _ rfl _ _ n rfl rfl (by omega) ?_; intro y1 hbl hb hlt)
  have Hbl := Lib.hid hbl
  have Hb1 := Lib.hid hb
  have X1 := Lib.hid (X0.out.below hb ul)
  clear hbl hb u0 u1
  have u0 := X1.out.cell0
  have u1 := X1.out.cell1
  go_wp2_with fail
  go_loopw [15] (fun i wr => ∃ k S, k ≤ n ∧ i = .int .i64 (k : Nat) ∧ Bl wr y0.heap.size S ∧ S.length = n ∧ (∀ j, j < k → S.getD j false = (cs.getD j 0 == 0)) ∧ Below y0.heap.size y0 wr) (fun i _ => n - (intOf i).toNat)
  case atStart => exact ⟨0, _, by omega, rfl, Hbl.out, by simp, (fun j hj => absurd hj (Nat.not_lt_zero j)), Hb1.out⟩
  case round =>
    clear Hbl Hb1 X1
    obtain ⟨k, S, hk, rfl, hbl, hsl, hs, hbr⟩ := hrel
    have hz := hbr.size
    have hgl := hbl.lt
    have X0r := Lib.hid (X0.out.below hbr ul)
    have Hr := Lib.hid (H.out.below hbr (by omega))
    have Hbl := Lib.hid hbl
    have Hsl := Lib.hid hsl
    have Hs := Lib.hid hs
    have Hbr := Lib.hid hbr
    clear hbl hsl hs hbr
    have v0 := X0r.out.cell0
    have v1 := X0r.out.cell1
    have vl := X0r.out.lt
    by_cases hkn : k < n
    · obtain ⟨b, o, rfl, hbB, hc⟩ : ∃ b o, A = some ⟨b, o, none⟩ ∧ b < B ∧ ∀ j, j < n → wr.cell? ⟨b, o + j, none⟩ = some (.int .i64 (cs.getD j 0)) := by
        rcases Hr.out.2 with h0 | ⟨b, o, hA, hbB, hc⟩
        · omega
        · exact ⟨b, o, hA, hbB, hc⟩
      have ck := hc k hkn
      obtain ⟨x, hx⟩ : ∃ x, cs.getD k 0 = x := ⟨_, rfl⟩
      rw [hx] at ck
      have Hx := Lib.hid hx
      have hkI : (k : Int) < n := by omega
      obtain ⟨u, hu⟩ : ∃ u, wr.cell? ⟨y0.heap.size, k, none⟩ = some u := ⟨_, Hbl.out.cell (by rw [Hsl.out]; exact hkn)⟩
      have hf := Hbl.out.frozen k
      have Hbl2 := Lib.hid (Hbl.out.set_ k (x == 0))
      have Hs2 : Hid (∀ j, j < k + 1 → (S.set k (x == 0)).getD j false = (cs.getD j 0 == 0)) := Lib.hid (fun j hj => by
        rw [Pa.set_getD S k j _ (by rw [Hsl.out]; exact hkn)]
        by_cases e : j = k
        · subst e; rw [if_pos rfl, Hx.out]
        · rw [if_neg e]; exact Hs.out j (by omega))
      have Hb2 := Lib.hid (Hbr.out.setCell (p := ⟨y0.heap.size, k, none⟩) (Nat.le_refl _) (.bool (x == 0)))
      have Hsl2 : Hid ((S.set k (x == 0)).length = n) := Lib.hid (by rw [List.length_set]; exact Hsl.out)
      clear hc hx
      go_wp2_with fail
      refine (i_emptyIs _ _).mono ?_
      rintro e w' ⟨rfl, rfl⟩
      go_wp2_with fail
      go_roundw
      case rel => exact ⟨k + 1, _, by omega, by go_num, Hbl2.out, Hsl2.out, Hs2.out, Hb2.out⟩
      case measure => simp [intOf]; omega
    · have hkn2 : k = n := by omega
      have hSK : S = hasCol 0 cs := by
        refine List.ext_getElem (by rw [hasCol_len, Hcl.out, Hsl.out]) fun i i1 i2 => ?_
        have h9 := Hs.out i (by have := Hsl.out; omega)
        rw [← hasCol_at (by have := Hsl.out; have := Hcl.out; omega), List.getD_eq_getElem?_getD, List.getD_eq_getElem?_getD, List.getElem?_eq_getElem i1, List.getElem?_eq_getElem i2] at h9
        simpa using h9
      have Hbl2 : Hid (Bl wr y0.heap.size (hasCol 0 cs)) := Lib.hid (by rw [← hSK]; exact Hbl.out)
      have Hkl : Hid ((hasCol 0 cs).length = n) := Lib.hid (by rw [hasCol_len]; exact Hcl.out)
      have Hbw := Lib.hid (Hb.out.trans (Hbr.out.mono (by omega)))
      clear hkn2 hSK
      go_wp2_with fail
      refine (i_connectedParts s _ y0.heap.size n (hasCol 0 cs) h1 h2 Hn.out Hkl.out Hbl2.out).mono ?_
      rintro e w' ⟨A1, m1, c1, l1, rfl, hss, hpl, hg⟩
      obtain rfl := Hls.out.one hpl
      have Hss := Lib.hid (hss.weakB (B' := w.heap.size) (by omega))
      have Hf := Lib.hid (Hbw.out.grown hg (by omega) (fun q e => by injection e; omega))
      clear hss hpl hg
      go_wp2_with fail
      go_ret
      exact ⟨_, _, _, rfl, Hss.out, Hf.out⟩

/-- The empty regions of a board: nothing where it is not valid. -/
def ErIs (s : Int) (n : Nat) (cs : List Int) (ls : List (List Int)) : Prop := (Bd.okB s cs = true → GL s n cs 0 n ls) ∧ (Bd.okB s cs = false → ls = [])
theorem ErIs.make (s : Int) (n : Nat) (cs : List Int) (hn : cs.length = n) : ∃ ls, ErIs s n cs ls := by
  rcases Bool.eq_false_or_eq_true (Bd.okB s cs) with e | e
  · obtain ⟨q1, q2, q3, _⟩ := (Bd.okB_iff s cs).1 e
    obtain ⟨l, hl⟩ := GL.make (x := 0) (cs := cs) q1 q2 (n := n) (by omega) n (Nat.le_refl _)
    exact ⟨l, ⟨fun _ => hl, fun h => absurd (e.symm.trans h) (by decide)⟩⟩
  · exact ⟨[], ⟨fun h => absurd (e.symm.trans h) (by decide), fun _ => rfl⟩⟩
theorem ErIs.small {s : Int} {n : Nat} {cs : List Int} {ls : List (List Int)} (h : ErIs s n cs ls) (hn : cs.length = n) : ls.length ≤ 49 ∧ ∀ j, (ls.getD j []).length ≤ 49 := by
  have key : ls.length ≤ 49 ∧ ∀ g ∈ ls, g.length ≤ 49 := by
    rcases Bool.eq_false_or_eq_true (Bd.okB s cs) with e | e
    · obtain ⟨q1, q2, q3, _⟩ := (Bd.okB_iff s cs).1 e
      have := Pt.sq_bd s q1 q2
      obtain ⟨a, b⟩ := (h.1 e).small
      exact ⟨by omega, fun g hg => by have := b g hg; omega⟩
    · rw [h.2 e]; exact ⟨by simp, fun g hg => by cases hg⟩
  refine ⟨key.1, fun j => ?_⟩
  by_cases hj : j < ls.length
  · rw [List.getD_eq_getElem?_getD, List.getElem?_eq_getElem hj]
    exact key.2 _ (List.getElem_mem _)
  · rw [List.getD_eq_getElem?_getD, List.getElem?_eq_none (by omega)]
    exact Nat.zero_le _

set_option maxHeartbeats 4000000 in
theorem i_Er (s : Int) (w : World) (B : Nat) (A : Option Addr) (n c : Nat) (cs : List Int) (h : Ints w B A n cs) (hB : B ≤ w.heap.size) (hn : n ≤ 1000000000) (ls : List (List Int)) (Hls : Hid (ErIs s n cs ls)) :
    Calls Try.prog 48 #[.agg #[.int .i64 s, .slice A n c]] w fun e w' => Lists w ls e w' := by
  have hb1 : Below w.heap.size w (w.alloc (.cells #[.int .i64 s, .slice A n c] 28)) := (Below.refl _ _).alloc (Nat.le_refl _) _
  have hl := h.1
  have X0 := Lib.hid (Bx.new 28 w s (.slice A n c))
  have H := Lib.hid (h.below hb1 hB)
  have Hb := Lib.hid hb1
  have Hcl := Lib.hid hl
  clear h hb1 hl
  rcases Bool.eq_false_or_eq_true (Bd.okB s cs) with hv | hv
  · have Hv := Lib.hid hv
    have Hpl : Hid (PL s n (hasCol 0 cs) n ls) := Lib.hid (PL.ofGL Hcl.out (Nat.le_refl _) (Hls.out.1 hv))
    go_enter Try.func48, Try.ntmps48
    go_wp2_with fail
    refine (i_validBoard _ _ _ _ _ _ _ H.out (by simp; omega) (by omega)).mono ?_
    rintro e y ⟨rfl, hb⟩
    rw [hv]
    clear hv
    have X0 := Lib.hid (X0.out.below hb X0.out.lt)
    have H := Lib.hid (H.out.below hb (by simp; omega))
    have Hb := Lib.hid (Hb.out.trans (hb.mono (by simp)))
    have hz := X0.out.lt
    clear hb
    have u0 := X0.out.cell0
    have u1 := X0.out.cell1
    go_wp2_with fail
    refine (i_partsW s _ B A n c cs H.out (by omega) Hv.out ls Hpl).mono ?_
    rintro e y2 ⟨A1, m1, c1, rfl, hss, hb⟩
    have Hss := Lib.hid (hss.weakB (B' := w.heap.size) (by omega))
    have Hf := Lib.hid (Hb.out.trans (hb.mono (by omega)))
    clear hss hb
    go_wp2_with fail
    go_ret
    exact ⟨_, _, _, rfl, Hss.out, Hf.out⟩
  · have Hnil := Lib.hid (Hls.out.2 hv)
    go_enter Try.func48, Try.ntmps48
    go_wp2_with fail
    refine (i_validBoard _ _ _ _ _ _ _ H.out (by simp; omega) (by omega)).mono ?_
    rintro e y ⟨rfl, hb⟩
    rw [hv]
    clear hv
    have Hb := Lib.hid (Hb.out.trans (hb.mono (by simp)))
    clear hb
    go_wp2_with fail
    go_ret
    exact ⟨_, _, _, rfl, by rw [Hnil.out]; exact SS.nil _ _ _, Hb.out⟩

end Go.Proofs.Ytkjlcokbgpnejaa
