/-
  Texts that laws over drawn boards stand on: SpecVB, CanS, CanB, Step, Count, Valid, CntP, DrawLI, LawP, CanM, CanW.
-/
import Derived.Test.YtfpibldknjcehaaBoard
import Derived.Test.YtfpibldknjcehaaCan
import Derived.Test.YtfpibldknjcehaaAny
import Derived.Test.YtfpibldknjcehaaLists
import Derived.Test.YtfpibldknjcehaaBoardI
import Derived.Test.YtfpibldknjcehaaTrS
namespace Go.Proofs.Ytfpibldknjcehaa
set_option maxRecDepth 100000
open Go.RowKit

end Go.Proofs.Ytfpibldknjcehaa

namespace Go.Proofs.Ytfpibldknjcehaa
set_option maxRecDepth 100000
open Go.RowKit

theorem s_trX (s k : Int) (w : World) (B : Nat) (A : Option Addr) (n c : Nat) (cs : List Int) (h : Ints w B A n cs) (hB : B ≤ w.heap.size) (hv : Bd.okB s cs = true) (k1 : 0 ≤ k) (k2 : k < 8) :
    Calls Try.prog 107 #[.agg #[.int .i64 s, .slice A n c], .int .i64 k] w fun e w' => ∃ A1 c1, e = .returned (.agg #[.int .i64 s, .slice A1 n c1]) ∧ Own w' w.heap.size A1 n c1 (Bd.mv s k cs) ∧ Below w.heap.size w w' := by
  have hl := h.1
  obtain ⟨s1, s7, hsn, _⟩ := (Bd.okB_iff s cs).1 hv
  refine (s_transformBoard s k w B A n c cs h hB s1 s7 (by omega) k1 k2).mono ?_
  rintro e w' ⟨A1, n1, c1, rfl, ho, hb⟩
  have e1 := ho.1
  rw [Bd.mv_len] at e1
  obtain rfl : n1 = n := by omega
  exact ⟨_, _, rfl, ho, hb⟩

set_option maxRecDepth 100000 in
set_option maxHeartbeats 4000000 in
theorem s_canonical (s : Int) (w : World) (B : Nat) (A : Option Addr) (n c : Nat) (cs : List Int) (h : Ints w B A n cs) (hB : B ≤ w.heap.size) (hv : Bd.okB s cs = true) (ds : List Int) (a : Int) (Hd : Hid (Cn s n cs 7 ds a)) :
    Calls Try.prog 61 #[.agg #[.int .i64 s, .slice A n c]] w fun e w' => MadeI s ds a w e w' := by
  have hl := h.1
  obtain ⟨s1, s7, hsn, _⟩ := (Bd.okB_iff s cs).1 hv
  have hsq := Pt.sq_bd s s1 s7
  have hn49 : n ≤ 49 := by omega
  have Hv := Lib.hid hv
  have Hz := Lib.hid (mv_zero s1 s7 hsn)
  have e1 : (w.alloc (.cells #[.int .i64 s, .slice A n c] 25)).heap.size = w.heap.size + 1 := by simp
  have x0 := (Bx.new 25 w s (.slice A n c)).alloc (.cells #[.int .i64 0, .slice none 0 0] 25)
  have x1 := Bx.new 25 (w.alloc (.cells #[.int .i64 s, .slice A n c] 25)) 0 (.slice none 0 0)
  rw [e1] at x1
  have hb2 : Below w.heap.size w ((w.alloc (.cells #[.int .i64 s, .slice A n c] 25)).alloc (.cells #[.int .i64 0, .slice none 0 0] 25)) := ((Below.refl _ _).alloc (Nat.le_refl _) _).alloc (by simp) _
  have H := Lib.hid (h.below hb2 hB)
  have X0 := Lib.hid x0
  have X1 := Lib.hid x1
  have Hb := Lib.hid hb2
  clear e1 x0 x1 hb2 h hv hsn
  go_enter Try.func61, Try.ntmps61
  go_wp2_with fail
  refine (s_copyBoard _ _ _ _ _ _ _ H.out (by simp; omega) (by omega)).mono ?_
  rintro e y3 ⟨A3, c3, rfl, ho, hb⟩
  have X0 := Lib.hid (X0.out.below hb X0.out.lt)
  have X1 := Lib.hid (X1.out.below hb X1.out.lt)
  have H := Lib.hid (H.out.below hb (by simp; omega))
  have Hb := Lib.hid (Hb.out.trans (hb.mono (by simp; omega)))
  have Ho := Lib.hid (ho.weaken (B' := w.heap.size + 2) (by simp))
  have z2 := X1.out.lt
  have Hfar : Hid (∀ g, A3 = some ⟨g, 0, none⟩ → g ≠ y3.heap.size) := Lib.hid (fun g e => by have := (ho.ge e).2; omega)
  have z3 := hb.size
  have z32 : w.heap.size + 2 ≤ y3.heap.size := by simpa using z3
  clear hb ho
  go_upto_region 2 with (fail)
  obtain ⟨y4, hy4, hb4, z4, z4'⟩ := new_box y3 (.cells #[.int .i64 s, .slice A3 n c3] 25)
  have X4 : Hid (Bx 25 y4 y3.heap.size s (.slice A3 n c3)) := Lib.hid (by rw [hy4]; exact Bx.new _ _ _ _)
  rw [← hy4]
  clear hy4
  have X0 := Lib.hid (X0.out.below hb4 X0.out.lt)
  have X1 := Lib.hid (X1.out.below hb4 X1.out.lt)
  have H := Lib.hid (H.out.below hb4 (by omega))
  have Ho := Lib.hid (Ho.out.below hb4)
  have Hb := Lib.hid (Hb.out.trans (hb4.mono (by omega)))
  clear hb4
  go_wp2_with fail
  go_loopw [5, 6] (fun v i wr => ∃ (m : Nat) (Am : Option Addr) (cm : Nat) (d0 : List Int) (a0 : Int), m ≤ 7 ∧ i = .int .i64 ((m : Int) + 1) ∧ v = .int .i64 a0 ∧ Cn s n cs m d0 a0 ∧ Bx 25 wr y3.heap.size s (.slice Am n cm) ∧ Own wr (w.heap.size + 2) Am n cm d0 ∧ (∀ g, Am = some ⟨g, 0, none⟩ → g ≠ y3.heap.size) ∧ Below (w.heap.size + 2) y4 wr) (fun _ i _ => 8 - (intOf i).toNat)
  case atStart => exact ⟨0, _, _, _, _, by omega, by simp, rfl, ⟨rfl, rfl⟩, X4.out, Ho.out, Hfar.out, Below.refl _ _⟩
  case round =>
    clear X4 Ho Hfar
    obtain ⟨wo, rfl⟩ : ∃ wo : World, wo = wr := ⟨_, rfl⟩
    obtain ⟨m, Am, cm, d0, a0, hm, rfl, rfl, hcn, x4, ho, hfar, hbr⟩ := hrel
    have hz := hbr.size
    have X0r := Lib.hid (X0.out.below hbr (by omega))
    have X1r := Lib.hid (X1.out.below hbr (by omega))
    have Hr := Lib.hid (H.out.below hbr (by omega))
    have Hbw := Lib.hid (Hb.out.trans (hbr.mono (by omega)))
    have Hcn := Lib.hid hcn
    have X4 := Lib.hid x4
    have Ho := Lib.hid ho
    have Hfar := Lib.hid hfar
    have Hbr := Lib.hid hbr
    have z41 := x4.lt
    have u00 := X0r.out.cell0
    have u01 := X0r.out.cell1
    have u02 := X0r.out.lt
    clear hcn x4 ho hfar hbr
    by_cases hm7 : m = 7
    · subst hm7
      obtain ⟨e1, e2⟩ := Hcn.out.one Hd.out
      have Hds := Lib.hid e1
      have Ha := Lib.hid e2
      clear e1 e2
      have v40 := X4.out.cell0
      have v41 := X4.out.cell1
      have v10 := X1r.out.cell0
      have v11 := X1r.out.cell1
      have v12 := X1r.out.frozen 0
      have v13 := X1r.out.frozen 1
      have v14 := X1r.out.lt
      have K0 := Lib.hid ((X1r.out.set0 s).cell0)
      have K1 := Lib.hid (((X1r.out.set0 s).set1 (.slice Am n cm)).cell1)
      have Ho2 := Lib.hid ((Ho.out.far ⟨w.heap.size + 1, 0, none⟩ (fun g hA => by have := (Ho.out.ge hA).1; show g ≠ w.heap.size + 1; omega) (.int .i64 s)).far ⟨w.heap.size + 1, 1, none⟩ (fun g hA => by have := (Ho.out.ge hA).1; show g ≠ w.heap.size + 1; omega) (.slice Am n cm))
      have Hb3 := Lib.hid ((Hbw.out.setCell (p := ⟨w.heap.size + 1, 0, none⟩) (by show w.heap.size ≤ w.heap.size + 1; omega) (.int .i64 s)).setCell (p := ⟨w.heap.size + 1, 1, none⟩) (by show w.heap.size ≤ w.heap.size + 1; omega) (.slice Am n cm))
      go_wp2_with fail
      have k0 := K0.out
      have k1 := K1.out
      refine bodyPost_ret (v := .tuple #[.agg #[.int .i64 s, .slice Am n cm], .int .i64 a0]) (by simp [results, Try.results61, go_sem, k0, k1]) rfl ?_
      exact ⟨_, _, _, by rw [Ha.out], by rw [← Hds.out]; exact Ho2.out.weaken (by omega), Hb3.out⟩
    · have hmI : (m : Int) + 1 < 8 := by omega
      go_wp2_with fail
      refine (s_trX s ((m : Int) + 1) _ B _ n _ cs Hr.out (by omega) Hv.out (by omega) (by omega)).mono ?_
      rintro e y5 ⟨A5, c5, rfl, ho5, hb5⟩
      have z5 := hb5.size
      have X4 := Lib.hid (X4.out.below hb5 X4.out.lt)
      have Ho := Lib.hid (Ho.out.below hb5)
      have Ho5 := Lib.hid ho5
      have Hf5 : Hid (∀ g, A5 = some ⟨g, 0, none⟩ → g ≠ y3.heap.size ∧ g < y5.heap.size) := Lib.hid (fun g e => by have := ho5.ge e; omega)
      have Hbr := Lib.hid (Hbr.out.trans (hb5.mono (by omega)))
      clear ho5 hb5 u00 u01
      go_upto_region 7 with (fail)
      obtain ⟨y6, hy6, hb6, z6, z6'⟩ := new_box y5 (.cells #[.int .i64 s, .slice A5 n c5] 25)
      have X7 : Hid (Bx 25 y6 y5.heap.size s (.slice A5 n c5)) := Lib.hid (by rw [hy6]; exact Bx.new _ _ _ _)
      rw [← hy6]
      clear hy6
      have X4 := Lib.hid (X4.out.below hb6 X4.out.lt)
      have Ho := Lib.hid (Ho.out.below hb6)
      have Ho5 := Lib.hid ((Ho5.out.below hb6).weaken (B' := w.heap.size + 2) (by omega))
      have Hbr := Lib.hid (Hbr.out.trans (hb6.mono (by omega)))
      clear hb6
      have t70 := X7.out.cell0
      have t71 := X7.out.cell1
      have t72 := X7.out.lt
      have t40 := X4.out.cell0
      have t41 := X4.out.cell1
      have t42 := X4.out.frozen 0
      have t43 := X4.out.frozen 1
      have t44 := X4.out.lt
      obtain ⟨b, hb⟩ := Lx.make n (Bd.mv s ((m : Int) + 1) cs) d0
      have HL := Lib.hid hb
      clear hb
      go_wp2_with fail
      refine (s_less _ _ _ _ _ n _ _ _ _ Ho5.out.ints Ho.out.ints (by omega) b HL).mono ?_
      rintro e y7 ⟨rfl, hb7⟩
      have X7 := Lib.hid (X7.out.below hb7 X7.out.lt)
      have Hf5 : Hid (∀ g, A5 = some ⟨g, 0, none⟩ → g ≠ y3.heap.size) := Lib.hid (fun g e => (Hf5.out g e).1)
      have X4 := Lib.hid (X4.out.below hb7 X4.out.lt)
      have Ho := Lib.hid (Ho.out.below hb7)
      have Ho5 := Lib.hid (Ho5.out.below hb7)
      have Hbr := Lib.hid (Hbr.out.trans (hb7.mono (by omega)))
      clear hb7 t70 t71 t72 t40 t41 t42 t43 t44
      have t70 := X7.out.cell0
      have t71 := X7.out.cell1
      have t72 := X7.out.lt
      have t40 := X4.out.cell0
      have t41 := X4.out.cell1
      have t42 := X4.out.frozen 0
      have t43 := X4.out.frozen 1
      have t44 := X4.out.lt
      cases b
      · go_wp2_with fail
        go_roundw
        case rel => exact ⟨m + 1, _, _, d0, a0, by omega, by simp, rfl, ⟨d0, a0, false, Hcn.out, HL.out, .inr ⟨rfl, rfl, rfl⟩⟩, X4.out, Ho.out, Hfar.out, Hbr.out⟩
        case measure => simp [intOf]; omega
      · have X4s := Lib.hid ((X4.out.set0 s).set1 (.slice A5 n c5))
        have Ho5s := Lib.hid ((Ho5.out.far ⟨y3.heap.size, 0, none⟩ (fun g hA => Hf5.out g hA) (.int .i64 s)).far ⟨y3.heap.size, 1, none⟩ (fun g hA => Hf5.out g hA) (.slice A5 n c5))
        have Hbrs := Lib.hid ((Hbr.out.setCell (p := ⟨y3.heap.size, 0, none⟩) (by show w.heap.size + 2 ≤ y3.heap.size; omega) (.int .i64 s)).setCell (p := ⟨y3.heap.size, 1, none⟩) (by show w.heap.size + 2 ≤ y3.heap.size; omega) (.slice A5 n c5))
        go_wp2_with fail
        go_roundw
        case rel => exact ⟨m + 1, _, _, _, _, by omega, by simp, rfl, ⟨d0, a0, true, Hcn.out, HL.out, .inl ⟨rfl, rfl, rfl⟩⟩, X4s.out, Ho5s.out, Hf5.out, Hbrs.out⟩
        case measure => simp [intOf]; omega
end Go.Proofs.Ytfpibldknjcehaa

namespace Go.Proofs.Ytfpibldknjcehaa
set_option maxRecDepth 100000
open Go.RowKit

/-- What CanonicalBoard answers. -/
def CanIs (s : Int) (n : Nat) (cs : List Int) (s' : Int) (ds : List Int) (a : Int) : Prop :=
  (Bd.okB s cs = true → s' = s ∧ Cn s n cs 7 ds a) ∧ (Bd.okB s cs = false → s' = 0 ∧ ds = [] ∧ a = -1)
theorem CanIs.make (s : Int) (n : Nat) (cs : List Int) : ∃ s' ds a, CanIs s n cs s' ds a := by
  rcases Bool.eq_false_or_eq_true (Bd.okB s cs) with e | e
  · obtain ⟨ds, a, h⟩ := Cn.make s n cs 7
    exact ⟨s, ds, a, ⟨fun _ => ⟨rfl, h⟩, fun h => absurd (e.symm.trans h) (by decide)⟩⟩
  · exact ⟨0, [], -1, ⟨fun h => absurd (e.symm.trans h) (by decide), fun _ => ⟨rfl, rfl, rfl⟩⟩⟩
theorem CanIs.few {s : Int} {n : Nat} {cs : List Int} {s' : Int} {ds : List Int} {a : Int} (h : CanIs s n cs s' ds a) (hl : cs.length = n) : ds.length ≤ n := by
  rcases Bool.eq_false_or_eq_true (Bd.okB s cs) with e | e
  · rw [(h.1 e).2.len hl]; exact Nat.le_refl _
  · rw [(h.2 e).2.1]; exact Nat.zero_le _

section
variable (s : Int) (w : World) (B : Nat) (A : Option Addr) (n c : Nat) (cs : List Int) (h : Ints w B A n cs) (hB : B ≤ w.heap.size) (hn : n ≤ 1000000000) (s' : Int) (ds : List Int) (a : Int) (Hd : Hid (CanIs s n cs s' ds a))
include h hB hn Hd

set_option maxRecDepth 100000 in
set_option maxHeartbeats 4000000 in
theorem i_Can : Calls Try.prog 14 #[.agg #[.int .i64 s, .slice A n c]] w fun e w' => MadeI s' ds a w e w' := by
  rcases Bool.eq_false_or_eq_true (Bd.okB s cs) with hv | hv
  · obtain ⟨rfl, h1⟩ := Hd.out.1 hv
    exact i_canV s' w B A n c cs h hB hv ds a (Lib.hid h1)
  · obtain ⟨rfl, rfl, rfl⟩ := Hd.out.2 hv
    have e1 : (w.alloc (.cells #[.int .i64 s, .slice A n c] 25)).heap.size = w.heap.size + 1 := by simp
    have x0 := (Bx.new 25 w s (.slice A n c)).alloc (.cells #[.int .i64 0, .slice none 0 0] 25)
    have x1 := Bx.new 25 (w.alloc (.cells #[.int .i64 s, .slice A n c] 25)) 0 (.slice none 0 0)
    rw [e1] at x1
    have hb2 : Below w.heap.size w ((w.alloc (.cells #[.int .i64 s, .slice A n c] 25)).alloc (.cells #[.int .i64 0, .slice none 0 0] 25)) := ((Below.refl _ _).alloc (Nat.le_refl _) _).alloc (by simp) _
    have H := Lib.hid (h.below hb2 hB)
    have X0 := Lib.hid x0
    have X1 := Lib.hid x1
    have Hb := Lib.hid hb2
    clear e1 x0 x1 hb2 h
    go_enter Try.func14, Try.ntmps14
    go_wp2_with fail
    refine (i_validBoard _ _ _ _ _ _ _ H.out (by simp; omega) hn).mono ?_
    rintro e y2 ⟨rfl, hb⟩
    rw [hv]
    have X1 := Lib.hid (X1.out.below hb X1.out.lt)
    have Hb := Lib.hid (Hb.out.trans (hb.mono (by simp; omega)))
    clear hb hv
    have v10 := X1.out.cell0
    have v11 := X1.out.cell1
    have v12 := X1.out.frozen 0
    have v13 := X1.out.frozen 1
    have v14 := X1.out.lt
    have K0 := Lib.hid ((X1.out.set0 0).cell0)
    have K1 := Lib.hid (((X1.out.set0 0).set1 (.slice none 0 0)).cell1)
    have Hb3 := Lib.hid ((Hb.out.setCell (p := ⟨w.heap.size + 1, 0, none⟩) (by show w.heap.size ≤ w.heap.size + 1; omega) (.int .i64 0)).setCell (p := ⟨w.heap.size + 1, 1, none⟩) (by show w.heap.size ≤ w.heap.size + 1; omega) (.slice none 0 0))
    go_wp2_with fail
    have k0 := K0.out
    have k1 := K1.out
    refine bodyPost_ret (v := .tuple #[.agg #[.int .i64 0, .slice none 0 0], .int .i64 (-1)]) (by simp [results, Try.results14, go_sem, k0, k1]) rfl ?_
    exact ⟨_, _, _, rfl, Own.nil _ _, Hb3.out⟩

set_option maxRecDepth 100000 in
set_option maxHeartbeats 4000000 in
theorem s_Can : Calls Try.prog 15 #[.agg #[.int .i64 s, .slice A n c]] w fun e w' => MadeI s' ds a w e w' := by
  have hl := h.1
  have e1 : (w.alloc (.cells #[.int .i64 s, .slice A n c] 25)).heap.size = w.heap.size + 1 := by simp
  have x0 := (Bx.new 25 w s (.slice A n c)).alloc (.cells #[.int .i64 0, .slice none 0 0] 25)
  have x1 := Bx.new 25 (w.alloc (.cells #[.int .i64 s, .slice A n c] 25)) 0 (.slice none 0 0)
  rw [e1] at x1
  have hb2 : Below w.heap.size w ((w.alloc (.cells #[.int .i64 s, .slice A n c] 25)).alloc (.cells #[.int .i64 0, .slice none 0 0] 25)) := ((Below.refl _ _).alloc (Nat.le_refl _) _).alloc (by simp) _
  have H := Lib.hid (h.below hb2 hB)
  have X0 := Lib.hid x0
  have X1 := Lib.hid x1
  have Hb := Lib.hid hb2
  clear e1 x0 x1 hb2 h
  go_enter Try.func15, Try.ntmps15
  go_wp2_with fail
  refine (s_validBoard _ _ _ _ _ _ _ H.out (by simp; omega) hn).mono ?_
  rintro e y2 ⟨rfl, hb⟩
  have X0 := Lib.hid (X0.out.below hb X0.out.lt)
  have X1 := Lib.hid (X1.out.below hb X1.out.lt)
  have H := Lib.hid (H.out.below hb (by simp; omega))
  have Hb := Lib.hid (Hb.out.trans (hb.mono (by simp; omega)))
  have z2 := X1.out.lt
  clear hb
  rcases Bool.eq_false_or_eq_true (Bd.okB s cs) with hv | hv
  · obtain ⟨hs', h1⟩ := Hd.out.1 hv
    have Hs' := Lib.hid hs'
    have H1 := Lib.hid h1
    have Hv := Lib.hid hv
    rw [hv]
    have u00 := X0.out.cell0
    have u01 := X0.out.cell1
    have u02 := X0.out.lt
    clear hv h1 hs'
    go_wp2_with fail
    refine (s_canonical _ _ B _ n _ cs H.out (by omega) Hv.out ds a H1).mono ?_
    rintro e y3 ⟨A3, n3, c3, rfl, ho, hb⟩
    have X1 := Lib.hid (X1.out.below hb X1.out.lt)
    have Hb := Lib.hid (Hb.out.trans (hb.mono (by omega)))
    have Ho := Lib.hid (ho.weaken (B' := w.heap.size + 2) (by omega))
    clear hb ho u00 u01
    have v10 := X1.out.cell0
    have v11 := X1.out.cell1
    have v12 := X1.out.frozen 0
    have v13 := X1.out.frozen 1
    have v14 := X1.out.lt
    have K0 := Lib.hid ((X1.out.set0 s).cell0)
    have K1 := Lib.hid (((X1.out.set0 s).set1 (.slice A3 n3 c3)).cell1)
    have Ho2 := Lib.hid ((Ho.out.far ⟨w.heap.size + 1, 0, none⟩ (fun g hA => by have := (Ho.out.ge hA).1; show g ≠ w.heap.size + 1; omega) (.int .i64 s)).far ⟨w.heap.size + 1, 1, none⟩ (fun g hA => by have := (Ho.out.ge hA).1; show g ≠ w.heap.size + 1; omega) (.slice A3 n3 c3))
    have Hb3 := Lib.hid ((Hb.out.setCell (p := ⟨w.heap.size + 1, 0, none⟩) (by show w.heap.size ≤ w.heap.size + 1; omega) (.int .i64 s)).setCell (p := ⟨w.heap.size + 1, 1, none⟩) (by show w.heap.size ≤ w.heap.size + 1; omega) (.slice A3 n3 c3))
    go_wp2_with fail
    have k0 := K0.out
    have k1 := K1.out
    refine bodyPost_ret (v := .tuple #[.agg #[.int .i64 s, .slice A3 n3 c3], .int .i64 a]) (by simp [results, Try.results15, go_sem, k0, k1]) rfl ?_
    exact ⟨_, _, _, by rw [Hs'.out], Ho2.out.weaken (by omega), Hb3.out⟩
  · obtain ⟨hs', hds, ha⟩ := Hd.out.2 hv
    have Hs' := Lib.hid hs'
    have Hds := Lib.hid hds
    have Ha := Lib.hid ha
    clear hs' hds ha
    rw [hv]
    clear hv
    have v10 := X1.out.cell0
    have v11 := X1.out.cell1
    have v12 := X1.out.frozen 0
    have v13 := X1.out.frozen 1
    have v14 := X1.out.lt
    have K0 := Lib.hid ((X1.out.set0 0).cell0)
    have K1 := Lib.hid (((X1.out.set0 0).set1 (.slice none 0 0)).cell1)
    have Hb3 := Lib.hid ((Hb.out.setCell (p := ⟨w.heap.size + 1, 0, none⟩) (by show w.heap.size ≤ w.heap.size + 1; omega) (.int .i64 0)).setCell (p := ⟨w.heap.size + 1, 1, none⟩) (by show w.heap.size ≤ w.heap.size + 1; omega) (.slice none 0 0))
    go_wp2_with fail
    have k0 := K0.out
    have k1 := K1.out
    refine bodyPost_ret (v := .tuple #[.agg #[.int .i64 0, .slice none 0 0], .int .i64 (-1)]) (by simp [results, Try.results15, go_sem, k0, k1]) rfl ?_
    exact ⟨_, _, _, by rw [Hs'.out, Ha.out], by rw [Hds.out]; exact Own.nil _ _, Hb3.out⟩
end
end Go.Proofs.Ytfpibldknjcehaa

namespace Go.Proofs.Ytfpibldknjcehaa
set_option maxRecDepth 100000
open Go.RowKit

theorem undrew {a b : World} (h : Below a.drew.heap.size a.drew b) : Below a.heap.size a b := ⟨h.os, h.tape, h.output, h.size, h.block⟩
theorem Ints.step {w w' : World} {n : Nat} {A : Option Addr} {xs : List Int} (h : Ints w w.heap.size A n xs) (hb : Below w.heap.size w w') : Ints w' w'.heap.size A n xs := (h.below hb (Nat.le_refl _)).more hb.size
theorem Bx.step {t : TypeId} {w w' : World} {g : Nat} {s : Int} {v : Value} (h : Bx t w g s v) (hb : Below w.heap.size w w') : Bx t w' g s v := h.below hb h.lt
theorem bstep {a w w' : World} (h : Below a.heap.size a w) (hb : Below w.heap.size w w') : Below a.heap.size a w' := h.trans (hb.mono h.size)

theorem l_eqB (s : Int) (w : World) (A A' : Option Addr) (n c c' : Nat) (xs : List Int) (h : Ints w w.heap.size A n xs) (h' : Ints w w.heap.size A' n xs) (hn : n ≤ 1000000) :
    Calls Try.prog 16 #[.agg #[.int .i64 s, .slice A n c], .agg #[.int .i64 s, .slice A' n c']] w fun e w' => e = .returned (.bool true) ∧ Below w.heap.size w w' := by
  have hb2 : Below w.heap.size w ((w.alloc (.cells #[.int .i64 s, .slice A n c] 25)).alloc (.cells #[.int .i64 s, .slice A' n c'] 25)) := ((Below.refl _ _).alloc (Nat.le_refl _) _).alloc (by simp) _
  have H := Lib.hid (h.below hb2 (Nat.le_refl _))
  have H' := Lib.hid (h'.below hb2 (Nat.le_refl _))
  have Hb := Lib.hid hb2
  clear h h' hb2
  go_enter Try.func16, Try.ntmps16
  go_wp2_with fail
  refine (eqi_t _ _ _ _ _ n _ _ xs H.out H'.out (by omega)).mono ?_
  rintro e w' ⟨k, rfl, rfl⟩
  go_wp2_with fail
  go_ret
  exact ⟨rfl, drew_below Hb.out k⟩

theorem IsRow.below {k : IntKind} {w w' : World} {a : Option Addr} {len cap : Nat} {zs : List Int} (h : IsRow k w a len cap zs) (hb : Below w.heap.size w w') : IsRow k w' a len cap zs := by
  rcases h with h | ⟨x, hx, h1, h2, h3, h4, h5⟩
  · exact .inl h
  · refine .inr ⟨x, hx, h1, h2, h3, fun i hi => ?_, h5⟩
    have := h4 i hi
    exact (World.cell?_of_block (w := w) (a := x.add i) (hb.block _ (World.block_lt_of_cell? w _ this))).trans this

/-- What a law's draw of a board gives. -/
def DrawnL (w : World) (e : Ending) (w' : World) : Prop :=
  ∃ (s : Int) (A : Option Addr) (n c : Nat) (cs : List Int), e = .returned (.agg #[.int .i64 s, .slice A n c]) ∧ Ints w' w'.heap.size A n cs ∧ n ≤ 49 ∧ 0 ≤ s ∧ s ≤ 8 ∧ Below w.heap.size w w'
/-- The same with an int. -/
def DrawnLI (P : Int → Prop) (w : World) (e : Ending) (w' : World) : Prop :=
  ∃ (s : Int) (A : Option Addr) (n c : Nat) (cs : List Int) (x : Int), e = .returned (.tuple #[.agg #[.int .i64 s, .slice A n c], .int .i64 x]) ∧ Ints w' w'.heap.size A n cs ∧ n ≤ 49 ∧ 0 ≤ s ∧ s ≤ 8 ∧ P x ∧ Below w.heap.size w w'

end Go.Proofs.Ytfpibldknjcehaa

namespace Go.Proofs.Ytfpibldknjcehaa
set_option maxRecDepth 100000
open Go.RowKit

def cnt (x : Int) (cs : List Int) : Int := ((cs.filter fun c => c == x).length : Nat)
theorem cnt_bd (x : Int) (cs : List Int) : 0 ≤ cnt x cs ∧ cnt x cs ≤ cs.length := by
  unfold cnt
  have := List.length_filter_le (fun c => c == x) cs
  omega
theorem cnt_yes {x : Int} {cs : List Int} {k : Nat} (h : k < cs.length) (hx : (cs.getD k 0 == x) = true) : cnt x (cs.take (k + 1)) = cnt x (cs.take k) + 1 := by
  have e : cs.getD k 0 = cs[k] := by simp [List.getD_eq_getElem?_getD, List.getElem?_eq_getElem h]
  rw [e] at hx
  unfold cnt
  rw [List.take_succ_eq_append_getElem h, List.filter_append, List.length_append, List.filter_cons, hx]
  simp
theorem cnt_no {x : Int} {cs : List Int} {k : Nat} (h : k < cs.length) (hx : (cs.getD k 0 == x) = false) : cnt x (cs.take (k + 1)) = cnt x (cs.take k) := by
  have e : cs.getD k 0 = cs[k] := by simp [List.getD_eq_getElem?_getD, List.getElem?_eq_getElem h]
  rw [e] at hx
  unfold cnt
  rw [List.take_succ_eq_append_getElem h, List.filter_append, List.length_append, List.filter_cons, hx]
  simp

theorem i_cnt (w : World) (B : Nat) (A : Option Addr) (n c : Nat) (cs : List Int) (x : Int) (h : Ints w B A n cs) (hn : n ≤ 1000000000) :
    Calls Try.prog 152 #[.slice A n c, .int .i64 x] w fun e w' => e = .returned (.int .i64 (cnt x cs)) ∧ w = w' := by
  have hl := h.1
  rcases h.2 with rfl | ⟨b, o, rfl, hlt, hc⟩
  · have hx : cs = [] := List.eq_nil_of_length_eq_zero hl
    subst hx
    clear h hl
    go_enter Try.func152, Try.ntmps152
    go_wp2_with fail
    go_rounds 1
    go_ret
    exact ⟨rfl, rfl⟩
  · have Hc := Lib.hid hc
    have Hl := Lib.hid hl
    clear hc h hl
    go_enter Try.func152, Try.ntmps152
    go_wp2_with fail
    go_loop [5, 10] (fun m i => ∃ k : Nat, k ≤ n ∧ i = .int .i64 k ∧ m = .int .i64 (cnt x (cs.take k))) (fun _ i => n - (intOf i).toNat)
    case atStart => exact ⟨0, by omega, rfl, rfl⟩
    case round =>
      obtain ⟨k, hk, rfl, rfl⟩ := hrel
      obtain ⟨b1, b2⟩ := cnt_bd x (cs.take k)
      have b3 : ((cs.take k).length : Int) ≤ k := by rw [List.length_take]; omega
      by_cases hlt : k < n
      · have c1 := Hc.out k hlt
        have hy := Lib.hid (cnt_yes (x := x) (cs := cs) (k := k) (by rw [Hl.out]; exact hlt))
        have hno := Lib.hid (cnt_no (x := x) (cs := cs) (k := k) (by rw [Hl.out]; exact hlt))
        obtain ⟨y, hyy⟩ : ∃ y, cs.getD k 0 = y := ⟨_, rfl⟩
        rw [hyy] at c1 hy hno
        clear hyy
        rcases Bool.eq_false_or_eq_true (y == x) with ht | ht
        · have Hy := Lib.hid (hy.out ht)
          clear hy hno
          go_wp2_with fail
          go_round
          case rel => exact ⟨k + 1, by omega, by go_num, by rw [Hy.out]⟩
          case measure => simp [intOf]; omega
        · have Hy := Lib.hid (hno.out ht)
          clear hy hno
          go_wp2_with fail
          go_round
          case rel => exact ⟨k + 1, by omega, by go_num, by rw [Hy.out]⟩
          case measure => simp [intOf]; omega
      · have hf : cnt x (cs.take k) = cnt x cs := by rw [List.take_of_length_le (by rw [Hl.out]; omega)]
        have Hf := Lib.hid hf
        clear hf
        go_wp2_with fail
        go_ret
        exact ⟨ret_int Hf.out, rfl⟩

theorem s_cnt (s : Int) (w : World) (B : Nat) (A : Option Addr) (n c : Nat) (cs : List Int) (x : Int) (h : Ints w B A n cs) (hB : B ≤ w.heap.size) (hn : n ≤ 1000000000) :
    Calls Try.prog 86 #[.agg #[.int .i64 s, .slice A n c], .int .i64 x] w fun e w' => e = .returned (.int .i64 (cnt x cs)) ∧ Below w.heap.size w w' := by
  have hb1 : Below w.heap.size w (w.alloc (.cells #[.int .i64 s, .slice A n c] 25)) := (Below.refl _ _).alloc (Nat.le_refl _) _
  have h1 := h.below hb1 hB
  have Hb := Lib.hid hb1
  have hl := h.1
  clear hb1
  rcases h1.2 with h0 | ⟨b, o, hA, hlt, hc⟩
  · subst h0
    have hx : cs = [] := List.eq_nil_of_length_eq_zero hl
    subst hx
    clear h hl h1
    go_enter Try.func86, Try.ntmps86
    go_wp2_with fail
    go_rounds 1
    go_ret
    exact ⟨rfl, Hb.out⟩
  · have HA := Lib.hid hA
    subst hA
    have Hc := Lib.hid hc
    have Hl := Lib.hid hl
    have Bxx := Lib.hid (Bx.new 25 w s (.slice (some ⟨b, o, none⟩) n c))
    clear hc h hl h1 HA
    go_enter Try.func86, Try.ntmps86
    go_wp2_with fail
    have v1 := Bxx.out.cell1
    go_loop [5, 6] (fun m i => ∃ k : Nat, k ≤ n ∧ i = .int .i64 k ∧ m = .int .i64 (cnt x (cs.take k))) (fun _ i => n - (intOf i).toNat)
    case atStart => exact ⟨0, by omega, rfl, rfl⟩
    case round =>
      obtain ⟨k, hk, rfl, rfl⟩ := hrel
      obtain ⟨b1, b2⟩ := cnt_bd x (cs.take k)
      have b3 : ((cs.take k).length : Int) ≤ k := by rw [List.length_take]; omega
      by_cases hlt : k < n
      · have c1 := Hc.out k hlt
        have hy := Lib.hid (cnt_yes (x := x) (cs := cs) (k := k) (by rw [Hl.out]; exact hlt))
        have hno := Lib.hid (cnt_no (x := x) (cs := cs) (k := k) (by rw [Hl.out]; exact hlt))
        obtain ⟨y, hyy⟩ : ∃ y, cs.getD k 0 = y := ⟨_, rfl⟩
        rw [hyy] at c1 hy hno
        clear hyy
        rcases Bool.eq_false_or_eq_true (y == x) with ht | ht
        · have Hy := Lib.hid (hy.out ht)
          clear hy hno
          go_wp2_with fail
          go_round
          case rel => exact ⟨k + 1, by omega, by go_num, by rw [Hy.out]⟩
          case measure => simp [intOf]; omega
        · have Hy := Lib.hid (hno.out ht)
          clear hy hno
          go_wp2_with fail
          go_round
          case rel => exact ⟨k + 1, by omega, by go_num, by rw [Hy.out]⟩
          case measure => simp [intOf]; omega
      · have hf : cnt x (cs.take k) = cnt x cs := by rw [List.take_of_length_le (by rw [Hl.out]; omega)]
        have Hf := Lib.hid hf
        clear hf
        go_wp2_with fail
        go_ret
        exact ⟨ret_int Hf.out, Hb.out⟩

def cntB (s : Int) (cs : List Int) (x : Int) : Int := if Bd.okB s cs then cnt x cs else -1

theorem i_count (s : Int) (w : World) (B : Nat) (A : Option Addr) (n c : Nat) (cs : List Int) (x : Int) (h : Ints w B A n cs) (hB : B ≤ w.heap.size) (hn : n ≤ 1000000000) :
    Calls Try.prog 119 #[.agg #[.int .i64 s, .slice A n c], .int .i64 x] w fun e w' => e = .returned (.int .i64 (cntB s cs x)) ∧ Below w.heap.size w w' := by
  have hb1 : Below w.heap.size w (w.alloc (.cells #[.int .i64 s, .slice A n c] 25)) := (Below.refl _ _).alloc (Nat.le_refl _) _
  have H := Lib.hid (h.below hb1 hB)
  have Hb := Lib.hid hb1
  have Bxx := Lib.hid (Bx.new 25 w s (.slice A n c))
  clear hb1 h
  by_cases hv : Bd.okB s cs = true
  · have Hf := Lib.hid (show cntB s cs x = cnt x cs by rw [cntB, if_pos hv])
    go_enter Try.func119, Try.ntmps119
    go_wp2_with fail
    refine (i_validBoard _ _ _ _ _ _ _ H.out (by simp; omega) hn).mono ?_
    rintro e y ⟨rfl, hb⟩
    have v0 := (Bxx.out.below hb (by simp)).cell0
    have v1 := (Bxx.out.below hb (by simp)).cell1
    have H2 := Lib.hid (H.out.below hb (by simp; omega))
    have Hb2 := Lib.hid (Hb.out.trans (hb.mono (by simp)))
    clear hb
    rw [hv]
    go_wp2_with fail
    refine (i_cnt _ _ _ _ _ _ _ H2.out hn).mono ?_
    rintro e y2 ⟨rfl, rfl⟩
    go_wp2_with fail
    go_ret
    exact ⟨ret_int Hf.out.symm, Hb2.out⟩
  · have hv' : Bd.okB s cs = false := by simpa using hv
    have Hf := Lib.hid (show cntB s cs x = -1 by rw [cntB, if_neg hv])
    go_enter Try.func119, Try.ntmps119
    go_wp2_with fail
    refine (i_validBoard _ _ _ _ _ _ _ H.out (by simp; omega) hn).mono ?_
    rintro e y ⟨rfl, hb⟩
    have Hb2 := Lib.hid (Hb.out.trans (hb.mono (by simp)))
    clear hb hv
    rw [hv']
    go_wp2_with fail
    go_ret
    exact ⟨ret_int Hf.out.symm, Hb2.out⟩
end Go.Proofs.Ytfpibldknjcehaa

namespace Go.Proofs.Ytfpibldknjcehaa
set_option maxRecDepth 100000
open Go.RowKit

section
variable (s : Int) (w : World) (A : Option Addr) (n c : Nat) (cs : List Int)
variable (k : Int)
theorem i_trV (h : Ints w w.heap.size A n cs) (hn : n ≤ 49) (hv : Bd.okB s cs = true) (hk : Pt.okK k = true) : Calls Try.prog 17 #[.agg #[.int .i64 s, .slice A n c], .int .i64 k] w fun e w' => Made s (Bd.mv s k cs) w e w' := by
  have := i_trB s k w w.heap.size A n c cs h (Nat.le_refl _) (by omega)
  rwa [trS, trCs, show trOk s cs k = true by rw [trOk, hv, hk]; rfl, if_pos rfl, if_pos rfl] at this
theorem i_trN (h : Ints w w.heap.size A n cs) (hn : n ≤ 49) (hv : trOk s cs k = false) : Calls Try.prog 17 #[.agg #[.int .i64 s, .slice A n c], .int .i64 k] w fun e w' => Made 0 [] w e w' := by
  have := i_trB s k w w.heap.size A n c cs h (Nat.le_refl _) (by omega)
  rwa [trS, trCs, hv, if_neg (by decide), if_neg (by decide)] at this
end

theorem len_of {cs : List Int} {n m : Nat} (h : (othCs cs).length = m) (h0 : cs.length = n) : n = m := by rw [othCs_len] at h; omega
theorem len_mv {s k : Int} {cs : List Int} {n m : Nat} (h : (Bd.mv s k cs).length = m) (h0 : cs.length = n) : n = m := by rw [Bd.mv_len] at h; omega
theorem oth_oth {x : Int} (h0 : 0 ≤ x) (h2 : x ≤ 2) : oth (oth x) = x := by
  have h3 : x = 0 ∨ x = 1 ∨ x = 2 := by omega
  rcases h3 with rfl | rfl | rfl <;> decide
theorem othCs_twice {cs : List Int} (h : OkL cs) : othCs (othCs cs) = cs := by
  rw [okL_mem] at h
  unfold othCs
  rw [List.map_map]
  conv => rhs; rw [← List.map_id cs]
  exact List.map_congr_left fun x hx => oth_oth (h x hx).1 (h x hx).2
theorem othCs_set (l : List Int) (p : Nat) (x : Int) : othCs (l.set p x) = (othCs l).set p (oth x) := by
  unfold othCs; rw [List.map_set]
theorem othCs_getD (cs : List Int) (j : Nat) : oth (cs.getD j 0) = (othCs cs).getD j 0 := by
  unfold othCs
  rw [List.getD_eq_getElem?_getD, List.getD_eq_getElem?_getD, List.getElem?_map]
  cases cs[j]? <;> rfl
theorem steps_oth (f : Nat → Nat) (cs : List Int) (j : Nat) (l : List Int) : othCs (Bd.steps f cs j l) = Bd.steps f (othCs cs) j (othCs l) := by
  induction j with
  | zero => rfl
  | succ j ih => rw [Bd.steps, Bd.steps, othCs_set, ih, othCs_getD]
theorem mv_oth (s k : Int) (cs : List Int) : Bd.mv s k (othCs cs) = othCs (Bd.mv s k cs) := by
  unfold Bd.mv
  rw [steps_oth, othCs_len]
end Go.Proofs.Ytfpibldknjcehaa

namespace Go.Proofs.Ytfpibldknjcehaa
set_option maxRecDepth 100000

theorem perm_of_sub {l r : List Nat} (hn : l.Nodup) (hs : ∀ x ∈ l, x ∈ r) (hl : r.length ≤ l.length) : List.Perm l r := by
  induction l generalizing r with
  | nil =>
    have e : r = [] := List.eq_nil_of_length_eq_zero (by simpa using hl)
    subst e
    exact .refl _
  | cons x l ih =>
    have hx : x ∈ r := hs x (by simp)
    obtain ⟨hxl, hnl⟩ := List.nodup_cons.1 hn
    refine List.Perm.trans ?_ (List.perm_cons_erase hx).symm
    refine List.Perm.cons x (ih hnl (fun y hy => ?_) ?_)
    · have hne : y ≠ x := fun e => hxl (e ▸ hy)
      exact (List.mem_erase_of_ne hne).2 (hs y (by simp [hy]))
    · rw [List.length_erase_of_mem hx]
      simp at hl
      omega

theorem nodup_map {f : Nat → Nat} {l : List Nat} (hn : l.Nodup) (hf : ∀ a ∈ l, ∀ b ∈ l, f a = f b → a = b) : (l.map f).Nodup := by
  induction l with
  | nil => simp
  | cons x l ih =>
    obtain ⟨hx, hl⟩ := List.nodup_cons.1 hn
    rw [List.map_cons, List.nodup_cons]
    refine ⟨fun hm => ?_, ih hl fun a ha b hb => hf a (by simp [ha]) b (by simp [hb])⟩
    obtain ⟨y, hy, he⟩ := List.mem_map.1 hm
    have := hf y (by simp [hy]) x (by simp) he
    exact hx (this ▸ hy)

theorem list_as_map (cs : List Int) : cs = (List.range cs.length).map fun p => cs.getD p 0 := by
  apply List.ext_getElem
  · simp
  · intro i h1 h2
    simp [List.getD_eq_getElem?_getD, List.getElem?_eq_getElem h1]

theorem mv_perm {s k : Int} {cs : List Int} (h1 : 1 ≤ s) (h2 : s ≤ 7) (hn : (cs.length : Int) = s * s) (k1 : 0 ≤ k) (k2 : k < 8) : List.Perm (Bd.mv s k cs) cs := by
  have hp : List.Perm ((List.range cs.length).map (Bd.imgN s k)) (List.range cs.length) := by
    refine perm_of_sub (nodup_map List.nodup_range fun a ha b hb he => ?_) (fun x hx => ?_) (by simp)
    · exact Bd.imgN_inj s k cs.length h1 h2 hn k1 k2 a b (List.mem_range.1 ha) (List.mem_range.1 hb) he
    · obtain ⟨p, hp, rfl⟩ := List.mem_map.1 hx
      exact List.mem_range.2 (Bd.imgN_lt s k cs.length p h1 h2 hn (List.mem_range.1 hp)).1
  have e1 := list_as_map (Bd.mv s k cs)
  rw [Bd.mv_len] at e1
  rw [e1]
  refine ((hp.map fun q => (Bd.mv s k cs).getD q 0).symm).trans ?_
  rw [List.map_map]
  conv => rhs; rw [list_as_map cs]
  have : (List.range cs.length).map ((fun q => (Bd.mv s k cs).getD q 0) ∘ Bd.imgN s k) = (List.range cs.length).map fun p => cs.getD p 0 := by
    apply List.map_congr_left
    intro p hp
    have hp' := List.mem_range.1 hp
    have := Bd.steps_at (f := Bd.imgN s k) (cs := cs) (l := cs) (j := cs.length) (fun a b ha hb he => Bd.imgN_inj s k cs.length h1 h2 hn k1 k2 a b ha hb he) (fun a ha => (Bd.imgN_lt s k cs.length a h1 h2 hn ha).1) hp'
    show (Bd.mv s k cs).getD (Bd.imgN s k p) 0 = _
    unfold Bd.mv
    rw [List.getD_eq_getElem?_getD, this]
    rfl
  rw [this]

theorem cnt_perm {a b : List Int} (h : List.Perm a b) (x : Int) : cnt x a = cnt x b := by
  unfold cnt
  rw [(h.filter _).length_eq]
theorem cnt_mv {s k : Int} {cs : List Int} (hv : Bd.okB s cs = true) (hk : Pt.okK k = true) (x : Int) : cnt x (Bd.mv s k cs) = cnt x cs := by
  obtain ⟨a, b, c, _⟩ := (Bd.okB_iff s cs).1 hv
  obtain ⟨k1, k2⟩ := (Pt.okK_iff k).1 hk
  exact cnt_perm (mv_perm a b c k1 k2) x
theorem cnt_oth {cs : List Int} (h : OkL cs) {x : Int} (x1 : 1 ≤ x) (x2 : x ≤ 2) : cnt (3 - x) (othCs cs) = cnt x cs := by
  rw [okL_mem] at h
  unfold cnt othCs
  rw [List.filter_map, List.length_map]
  congr 2
  apply List.filter_congr
  intro c hc
  have h3 : c = 0 ∨ c = 1 ∨ c = 2 := by have := h c hc; omega
  have h4 : x = 1 ∨ x = 2 := by omega
  rcases h3 with rfl | rfl | rfl <;> rcases h4 with rfl | rfl <;> rfl
theorem cnt_nonneg (x : Int) (cs : List Int) : 0 ≤ cnt x cs := by unfold cnt; omega
end Go.Proofs.Ytfpibldknjcehaa

namespace Go.Proofs.Ytfpibldknjcehaa
set_option maxRecDepth 100000
open Go.RowKit

theorem r_anyColor (B g q : Nat) (w : World) (h : Rdr w B g q) (hq : q ≤ 1000000000000) :
    Calls Try.prog 123 #[.pointer (some ⟨g, 0, none⟩)] w fun e w' => Got (fun x => -1 ≤ x ∧ x ≤ 3) w B g (q + 1) e w' := by
  have hlt := h.lt
  go_enter Try.func123, Try.ntmps123
  go_wp2_with fail
  have hl := Ints.lit w 3 [1, 2, 1, 2, 1, 2, 1, 2, 1, 2, 0, 3, -1]
  refine (r_one B g q _ _ [1, 2, 1, 2, 1, 2, 1, 2, 1, 2, 0, 3, -1] _ _ (h.below ((Below.refl _ _).alloc (Nat.le_refl _) _) hlt) hq hl (by simp) (by simp) (by simp) (by rintro b o e; injection e with e; injection e; omega)).mono ?_
  rintro e w1 ⟨x, rfl, hx, hr, hw⟩
  have Hr := Lib.hid hr
  have Hw := Lib.hid (gtrans (World.grownBy_alloc w _ (some g)) hw)
  have Hx := Lib.hid hx
  clear hr hw hl hx
  go_wp2_with fail
  go_ret
  refine ⟨_, rfl, ?_, Hr.out, Hw.out⟩
  have := Hx.out
  simp at this
  omega

set_option maxRecDepth 100000 in
set_option maxHeartbeats 2000000 in
theorem d_cnt (w : World) (a : Option Addr) (len cap : Nat) (zs : List Int) (h : IsRow .u8 w a len cap zs) :
    Calls Try.prog 96 #[.slice a len cap] w fun e w' => DrawnLI (fun x => -1 ≤ x ∧ x ≤ 8) w e w' := by
  have hb1 : Below w.heap.size w (w.alloc (.cells #[.int .i64 0, .slice none 0 0] 25)) := (Below.refl _ _).alloc (Nat.le_refl _) _
  have X2 := Lib.hid (Bx.new 25 w 0 (.slice none 0 0))
  have Hb := Lib.hid hb1
  have hsz : (w.alloc (.cells #[.int .i64 0, .slice none 0 0] 25)).heap.size = w.heap.size + 1 := by simp
  have Hsz := Lib.hid hsz
  have H := Lib.hid (h.below hb1)
  clear h hb1 hsz
  go_enter Try.func96, Try.ntmps96
  go_wp2_with fail
  refine (r_new _ _ _ _ zs H.out).mono ?_
  rintro e y ⟨g, rfl, hr, hb⟩
  have Hg := Lib.hid hr.1
  rw [Hsz.out] at Hg
  have hg1 := Hg.out
  have X2 := Lib.hid (X2.out.below hb X2.out.lt)
  have Hb := Lib.hid (Hb.out.trans (hb.mono (by rw [Hsz.out]; omega)))
  have zy := X2.out.lt
  obtain ⟨Bq, Hr⟩ : ∃ Bq, Hid (Rdr y Bq g 0) := ⟨_, Lib.hid hr⟩
  clear hr hb
  go_wp2_with fail
  have hgy := Hr.out.lt
  refine (r_any Bq g 0 _ Hr.out (by omega)).mono ?_
  rintro e y2 ⟨s, A, n, c, cs, q', rfl, hi, hn, s0, s8, hr, hq, hg⟩
  have X2 := Lib.hid (X2.out.grown hg (fun e => by have := Option.some.inj e; omega))
  have Hb := Lib.hid (Hb.out.trans (below_g hg (by omega) (fun k hk => by have := Option.some.inj hk; omega)))
  have Hi := Lib.hid hi
  have Hr := Lib.hid hr
  have hgl := hr.lt
  have zz := hg.size
  clear hi hr hg
  go_upto_region 3 with (fail)
  obtain ⟨y3, hy3, hb3, z3, z4⟩ := new_box y2 (.cells #[.int .i64 s, .slice A n c] 25)
  have X5 : Hid (Bx 25 y3 y2.heap.size s (.slice A n c)) := Lib.hid (by rw [hy3]; exact Bx.new _ _ _ _)
  rw [← hy3]
  clear hy3
  have X2 := Lib.hid (X2.out.below hb3 X2.out.lt)
  have Hr := Lib.hid (Hr.out.below hb3 Hr.out.lt)
  have Hi := Lib.hid (Hi.out.below hb3)
  have Hb := Lib.hid (Hb.out.trans (hb3.mono (by omega)))
  clear hb3
  have t0 := X5.out.cell0
  have t1 := X5.out.cell1
  have t2 := X5.out.lt
  go_region_with (first | (go_at_call 123; refine (r_anyColor Bq g q' _ (by exact Hr.out) (by omega)).mono ?_; rintro e y5 ⟨x, rfl, hx, hr, hg⟩; have hg5 : y3.grownBy y5 (some g) := ⟨hg.os, hg.tape, hg.output, hg.size, hg.block⟩; have hx8 : -1 ≤ x ∧ x ≤ 8 := (by omega); have HX2 := Lib.hid (X2.out.grown hg5 (fun e => by have := Option.some.inj e; omega)); have HX5 := Lib.hid (X5.out.grown hg5 (fun e => by have := Option.some.inj e; omega)); have HI := Lib.hid (Hi.out.grown hg5 (by omega)); have HB := Lib.hid (Hb.out.trans (below_g hg5 (by omega) (fun k hk => by have := Option.some.inj hk; omega))); have u0 := HX5.out.cell0; have u1 := HX5.out.cell1; have u2 := HX5.out.lt; have r0 := HX2.out.cell0; have r1 := HX2.out.cell1; have r2 := HX2.out.frozen 0; have r3 := HX2.out.frozen 1; have r4 := HX2.out.lt; clear hr hg hg5))
  all_goals go_wp2_with fail
  all_goals
    have k0 := (HX2.out.set0 s).cell0
    have k1 := ((HX2.out.set0 s).set1 (.slice A n c)).cell1
    refine bodyPost_ret (v := .tuple #[.agg #[.int .i64 s, .slice A n c], .int .i64 x]) (by simp [results, Try.results96, go_sem, k0, k1]) rfl ?_
    have hi3 := ((HI.out.far ⟨w.heap.size, 0, none⟩ (by show w.heap.size < y.heap.size; omega) (.int .i64 s)).far ⟨w.heap.size, 1, none⟩ (by show w.heap.size < y.heap.size; omega) (.slice A n c)).ints
    have hb3 := (HB.out.setCell (p := ⟨w.heap.size, 0, none⟩) (Nat.le_refl _) (.int .i64 s)).setCell (p := ⟨w.heap.size, 1, none⟩) (Nat.le_refl _) (.slice A n c)
    exact ⟨_, _, _, _, _, _, rfl, hi3, hn, s0, s8, hx8, hb3⟩

end Go.Proofs.Ytfpibldknjcehaa

namespace Go.Proofs.Ytfpibldknjcehaa
set_option maxRecDepth 100000
open Go.RowKit

theorem i_cntV (s : Int) (w : World) (A : Option Addr) (n c : Nat) (cs : List Int) (x N : Int) (h : Ints w w.heap.size A n cs) (hn : n ≤ 49) (hN : cntB s cs x = N) :
    Calls Try.prog 119 #[.agg #[.int .i64 s, .slice A n c], .int .i64 x] w fun e w' => e = .returned (.int .i64 N) ∧ Below w.heap.size w w' := by
  have := i_count s w w.heap.size A n c cs x h (Nat.le_refl _) (by omega)
  rwa [hN] at this
theorem cntB_mv {s k x N : Int} {cs : List Int} (hv : Bd.okB s cs = true) (hk : Pt.okK k = true) (hN : cntB s cs x = N) : cntB s (Bd.mv s k cs) x = N := by
  rw [← hN, cntB, cntB, if_pos hv, if_pos (okB_mv hv), cnt_mv hv hk]
theorem cntB_oth {s x N : Int} {cs : List Int} (hv : Bd.okB s cs = true) (x1 : 1 ≤ x) (x2 : x ≤ 2) (hN : cntB s cs x = N) : cntB s (othCs cs) (3 - x) = N := by
  rw [← hN, cntB, cntB, if_pos hv, if_pos (okB_oth hv), cnt_oth (okL_mem.2 ((Bd.okB_iff s cs).1 hv).2.2.2) x1 x2]
theorem cntB_ok {s x N : Int} {cs : List Int} (hN : cntB s cs x = N) (h0 : 0 ≤ N) : Bd.okB s cs = true := by
  rcases Bool.eq_false_or_eq_true (Bd.okB s cs) with h | h
  · exact h
  · rw [cntB, h] at hN
    have : (-1 : Int) = N := hN
    omega

theorem mv_at {s k : Int} {cs : List Int} (h1 : 1 ≤ s) (h2 : s ≤ 7) (hn : (cs.length : Int) = s * s) (k1 : 0 ≤ k) (k2 : k < 8) {p : Nat} (hp : p < cs.length) : (Bd.mv s k cs)[Bd.imgN s k p]? = some (cs.getD p 0) :=
  Bd.steps_at (f := Bd.imgN s k) (cs := cs) (l := cs) (j := cs.length) (fun a b ha hb he => Bd.imgN_inj s k cs.length h1 h2 hn k1 k2 a b ha hb he) (fun a ha => (Bd.imgN_lt s k cs.length a h1 h2 hn ha).1) hp
theorem imgN_comp {s a b : Int} {n p : Nat} (h1 : 1 ≤ s) (h2 : s ≤ 7) (hn : (n : Int) = s * s) (a1 : 0 ≤ a) (a2 : a < 8) (b1 : 0 ≤ b) (b2 : b < 8) (hp : p < n) : Bd.imgN s (Pt.comp a b) p = Bd.imgN s b (Bd.imgN s a p) := by
  obtain ⟨c1, c2⟩ := Pt.comp_bd a b a1 a2 b1 b2
  obtain ⟨l1, e1⟩ := Bd.imgN_lt s a n p h1 h2 hn hp
  have hc := Pt.comp_tr a b s p a1 a2 b1 b2 h1 h2 (by omega) (by omega)
  rw [Pt.tr_in s a p h1 h2 (by omega) (by omega) a1 a2, ← e1, Pt.tr_in s b _ h1 h2 (by omega) (by omega) b1 b2, Pt.tr_in s (Pt.comp a b) p h1 h2 (by omega) (by omega) c1 c2] at hc
  unfold Bd.imgN at hc ⊢
  rw [hc]
theorem mv_mv {s a b : Int} {cs : List Int} (h1 : 1 ≤ s) (h2 : s ≤ 7) (hn : (cs.length : Int) = s * s) (a1 : 0 ≤ a) (a2 : a < 8) (b1 : 0 ≤ b) (b2 : b < 8) : Bd.mv s b (Bd.mv s a cs) = Bd.mv s (Pt.comp a b) cs := by
  obtain ⟨c1, c2⟩ := Pt.comp_bd a b a1 a2 b1 b2
  have hl : (Bd.mv s a cs).length = cs.length := Bd.mv_len _ _ _
  apply List.ext_getElem?
  intro q
  by_cases hq : q < cs.length
  · obtain ⟨p, hp, rfl⟩ := Bd.imgN_sur s (Pt.comp a b) cs.length h1 h2 hn c1 c2 q hq
    obtain ⟨l1, _⟩ := Bd.imgN_lt s a cs.length p h1 h2 hn hp
    rw [mv_at h1 h2 hn c1 c2 hp, imgN_comp h1 h2 hn a1 a2 b1 b2 hp, mv_at h1 h2 (by rw [hl]; exact hn) b1 b2 (by rw [hl]; exact l1), List.getD_eq_getElem?_getD, mv_at h1 h2 hn a1 a2 hp]
    rfl
  · rw [List.getElem?_eq_none (by rw [Bd.mv_len, hl]; omega), List.getElem?_eq_none (by rw [Bd.mv_len]; omega)]

theorem Ints.dr {w : World} {n : Nat} {A : Option Addr} {xs : List Int} (h : Ints w w.heap.size A n xs) : Ints w.drew w.drew.heap.size A n xs := h
/-- An image whose size and cells have names. -/
theorem i_trW (s k : Int) (w : World) (A : Option Addr) (n c : Nat) (cs ds : List Int) (h : Ints w w.heap.size A n cs) (hn : n ≤ 49) (hv : Bd.okB s cs = true) (hk : Pt.okK k = true) (hd : Bd.mv s k cs = ds) :
    Calls Try.prog 17 #[.agg #[.int .i64 s, .slice A n c], .int .i64 k] w fun e w' => ∃ A1 c1, e = .returned (.agg #[.int .i64 s, .slice A1 n c1]) ∧ Own w' w.heap.size A1 n c1 ds ∧ Below w.heap.size w w' := by
  have hl := h.1
  refine (i_trV s w A n c cs k h hn hv hk).mono ?_
  rintro e w' ⟨A1, n1, c1, rfl, ho, hb⟩
  rw [hd] at ho
  have e1 := ho.1
  rw [← hd, Bd.mv_len] at e1
  obtain rfl : n1 = n := by omega
  exact ⟨_, _, rfl, ho, hb⟩
theorem len_comp {s k : Int} {cs : List Int} {n m : Nat} (h : (Bd.mv s k cs).length = m) (h0 : cs.length = n) : n = m := len_mv h h0
end Go.Proofs.Ytfpibldknjcehaa

namespace Go.Proofs.Ytfpibldknjcehaa
set_option maxRecDepth 100000
open Go.RowKit

theorem Lx.self {n : Nat} {xs : List Int} {b : Bool} (h : Lx n xs xs b) : b = false := h.end_ fun _ _ => rfl
theorem Lx.trans {n : Nat} {xs ys zs : List Int} (h : Lx n xs ys true) (h' : Lx n ys zs true) : Lx n xs zs true := by
  rcases h with ⟨k, k1, k2, k3, k4⟩ | ⟨_, h2⟩
  · rcases h' with ⟨m, m1, m2, m3, m4⟩ | ⟨_, h2⟩
    · have a1 : xs.getD k 0 < ys.getD k 0 := of_decide_eq_true k4.symm
      have a2 : ys.getD m 0 < zs.getD m 0 := of_decide_eq_true m4.symm
      rcases Nat.lt_trichotomy k m with e | e | e
      · have := m2 k e
        exact .inl ⟨k, k1, fun j hj => (k2 j hj).trans (m2 j (by omega)), by rw [← this]; exact k3, by rw [← this]; exact k4⟩
      · subst e
        exact .inl ⟨k, k1, fun j hj => (k2 j hj).trans (m2 j hj), by omega, by rw [eq_comm, decide_eq_true_eq]; omega⟩
      · have := k2 m e
        exact .inl ⟨m, m1, fun j hj => (k2 j (by omega)).trans (m2 j hj), by rw [this]; exact m3, by rw [this]; exact m4⟩
    · cases h2
  · cases h2
theorem Lx.total {n : Nat} {xs ys : List Int} (hx : xs.length = n) (hy : ys.length = n) (h : Lx n xs ys false) (h' : Lx n ys xs false) : xs = ys := by
  rcases h with ⟨k, k1, k2, k3, k4⟩ | ⟨h1, _⟩
  · have e := h'.at_ k1 (fun j hj => (k2 j hj).symm) (fun e => k3 e.symm)
    have a1 : ¬ xs.getD k 0 < ys.getD k 0 := of_decide_eq_false k4.symm
    have a2 : ¬ ys.getD k 0 < xs.getD k 0 := of_decide_eq_false e.symm
    exact absurd (show xs.getD k 0 = ys.getD k 0 by omega) k3
  · refine List.ext_getElem? fun i => ?_
    by_cases hi : i < n
    · have := h1 i hi
      rw [List.getD_eq_getElem?_getD, List.getD_eq_getElem?_getD, List.getElem?_eq_getElem (by omega), List.getElem?_eq_getElem (by omega)] at this
      rw [List.getElem?_eq_getElem (by omega), List.getElem?_eq_getElem (by omega)]
      simpa using this
    · rw [List.getElem?_eq_none (by omega), List.getElem?_eq_none (by omega)]

/-- ds is one of the images 0 .. m, and none of them is smaller. -/
theorem Cn.min {s : Int} {n : Nat} {cs : List Int} (h1 : 1 ≤ s) (h2 : s ≤ 7) (hn : (cs.length : Int) = s * s) : ∀ {m : Nat} {ds : List Int} {a : Int}, Cn s n cs m ds a →
    (ds = Bd.mv s a cs ∧ 0 ≤ a ∧ a ≤ (m : Int)) ∧ ∀ (k : Nat) (b : Bool), k ≤ m → Lx n (Bd.mv s (k : Int) cs) ds b → b = false := by
  intro m
  induction m with
  | zero =>
    intro ds a h
    obtain ⟨rfl, rfl⟩ := h
    refine ⟨⟨(mv_zero h1 h2 hn).symm, by omega, by omega⟩, fun k b hk hb => ?_⟩
    obtain rfl : k = 0 := by omega
    rw [show ((0 : Nat) : Int) = 0 from rfl, mv_zero h1 h2 hn] at hb
    exact hb.self
  | succ m ih =>
    intro ds a h
    obtain ⟨d0, a0, b, c1, c2, c3⟩ := h
    obtain ⟨⟨i1, i2, i3⟩, i4⟩ := ih c1
    rcases c3 with ⟨rfl, rfl, rfl⟩ | ⟨rfl, rfl, rfl⟩
    · refine ⟨⟨rfl, by omega, by omega⟩, fun k b hk hb => ?_⟩
      cases b
      · rfl
      · by_cases e : k = m + 1
        · subst e
          exact hb.self
        · have := hb.trans c2
          exact i4 k true (by omega) this
    · refine ⟨⟨i1, i2, by omega⟩, fun k b hk hb => ?_⟩
      by_cases e : k = m + 1
      · subst e
        exact hb.one c2
      · exact i4 k b (by omega) hb

theorem comp_sur (a b : Int) (a1 : 0 ≤ a) (a2 : a < 8) (b1 : 0 ≤ b) (b2 : b < 8) : ∃ c : Int, 0 ≤ c ∧ c < 8 ∧ Pt.comp a c = b := by
  have h := Pt.all_k (P := fun a => ∀ b : Fin 8, ∃ c : Fin 8, Pt.comp a ((c : Nat) : Int) = ((b : Nat) : Int)) (by decide +kernel) a a1 a2
  obtain ⟨k, rfl⟩ := Int.eq_ofNat_of_zero_le b1
  obtain ⟨c, hc⟩ := h ⟨k, by omega⟩
  exact ⟨((c : Nat) : Int), by omega, by have := c.isLt; omega, hc⟩

/-- Images have one smallest image. -/
theorem Cn.image {s k : Int} {n : Nat} {cs : List Int} (h1 : 1 ≤ s) (h2 : s ≤ 7) (hn : (cs.length : Int) = s * s) (hl : cs.length = n) (k1 : 0 ≤ k) (k2 : k < 8) {ds ds' : List Int} {a a' : Int}
    (h : Cn s n cs 7 ds a) (h' : Cn s n (Bd.mv s k cs) 7 ds' a') : ds' = ds := by
  have hn' : ((Bd.mv s k cs).length : Int) = s * s := by rw [Bd.mv_len]; exact hn
  obtain ⟨⟨e1, e2, e3⟩, m1⟩ := h.min h1 h2 hn
  obtain ⟨⟨e4, e5, e6⟩, m2⟩ := h'.min h1 h2 hn'
  have hd := h.len hl
  have hd' := h'.len (show (Bd.mv s k cs).length = n by rw [Bd.mv_len]; exact hl)
  refine Lx.total hd' hd ?_ ?_
  · obtain ⟨b, hb⟩ := Lx.make n ds' ds
    have hc := Pt.comp_bd k a' k1 k2 e5 (by omega)
    obtain ⟨j, hj⟩ := Int.eq_ofNat_of_zero_le hc.1
    have e7 : ds' = Bd.mv s (j : Nat) cs := by rw [e4, mv_mv h1 h2 hn k1 k2 e5 (by omega), hj]
    have := m1 j b (by omega) (by rw [← e7]; exact hb)
    rw [← this]; exact hb
  · obtain ⟨b, hb⟩ := Lx.make n ds ds'
    obtain ⟨c, c1, c2, c3⟩ := comp_sur k a k1 k2 e2 (by omega)
    obtain ⟨j, hj⟩ := Int.eq_ofNat_of_zero_le c1
    have e7 : ds = Bd.mv s (j : Nat) (Bd.mv s k cs) := by
      rw [show ((j : Nat) : Int) = c from hj.symm, mv_mv h1 h2 hn k1 k2 c1 c2, c3]; exact e1
    have := m2 j b (by omega) (by rw [← e7]; exact hb)
    rw [← this]; exact hb

/-- The smallest image is its own smallest image, by symmetry 0. -/
theorem Cn.own {s : Int} {n : Nat} {cs : List Int} (h1 : 1 ≤ s) (h2 : s ≤ 7) (hn : (cs.length : Int) = s * s) {ds : List Int} {a : Int} (h : Cn s n cs 7 ds a) : ∀ m : Nat, m ≤ 7 → Cn s n ds m ds 0 := by
  obtain ⟨⟨e1, e2, e3⟩, m1⟩ := h.min h1 h2 hn
  intro m
  induction m with
  | zero => intro _; exact ⟨rfl, rfl⟩
  | succ m ih =>
    intro hm
    obtain ⟨b, hb⟩ := Lx.make n (Bd.mv s ((m : Int) + 1) ds) ds
    have hc := Pt.comp_bd a ((m : Int) + 1) e2 (by omega) (by omega) (by omega)
    obtain ⟨j, hj⟩ := Int.eq_ofNat_of_zero_le hc.1
    have e7 : Bd.mv s ((m : Int) + 1) ds = Bd.mv s (j : Nat) cs := by rw [e1, mv_mv h1 h2 hn e2 (by omega) (by omega) (by omega), hj]
    have := m1 j b (by omega) (by rw [← e7]; exact hb)
    subst this
    exact ⟨ds, 0, false, ih (by omega), hb, .inr ⟨rfl, rfl, rfl⟩⟩
end Go.Proofs.Ytfpibldknjcehaa

namespace Go.Proofs.Ytfpibldknjcehaa
set_option maxRecDepth 100000
open Go.RowKit

set_option maxHeartbeats 2000000 in
theorem d_can (w : World) (a : Option Addr) (len cap : Nat) (zs : List Int) (h : IsRow .u8 w a len cap zs) :
    Calls Try.prog 13 #[.slice a len cap] w fun e w' => DrawnL w e w' := by
  have hb1 : Below w.heap.size w (w.alloc (.cells #[.int .i64 0, .slice none 0 0] 25)) := (Below.refl _ _).alloc (Nat.le_refl _) _
  have X2 := Lib.hid (Bx.new 25 w 0 (.slice none 0 0))
  have Hb := Lib.hid hb1
  have hsz : (w.alloc (.cells #[.int .i64 0, .slice none 0 0] 25)).heap.size = w.heap.size + 1 := by simp
  have Hsz := Lib.hid hsz
  have H := Lib.hid (h.below hb1)
  clear h hb1 hsz
  go_enter Try.func13, Try.ntmps13
  go_wp2_with fail
  refine (r_new _ _ _ _ zs H.out).mono ?_
  rintro e y ⟨g, rfl, hr, hb⟩
  have Hg := Lib.hid hr.1
  rw [Hsz.out] at Hg
  have hg1 := Hg.out
  have X2 := Lib.hid (X2.out.below hb X2.out.lt)
  have Hb := Lib.hid (Hb.out.trans (hb.mono (by rw [Hsz.out]; omega)))
  have zy := X2.out.lt
  have Hr := Lib.hid hr
  clear hr hb
  go_wp2_with fail
  refine (r_any _ g 0 _ Hr.out (by omega)).mono ?_
  rintro e y2 ⟨s, A, n, c, cs, q', rfl, hi, hn, s0, s8, hr, hq, hg⟩
  have X2 := Lib.hid (X2.out.grown hg (fun e => by have := Option.some.inj e; omega))
  have Hb := Lib.hid (Hb.out.trans (below_g hg (by omega) (fun k hk => by have := Option.some.inj hk; omega)))
  have Hi := Lib.hid (((hi.far ⟨w.heap.size, 0, none⟩ (by show w.heap.size < y.heap.size; omega) (.int .i64 s)).far ⟨w.heap.size, 1, none⟩ (by show w.heap.size < y.heap.size; omega) (.slice A n c)).ints)
  clear hi hr hg hq
  have r0 := X2.out.cell0
  have r1 := X2.out.cell1
  have r2 := X2.out.frozen 0
  have r3 := X2.out.frozen 1
  have r4 := X2.out.lt
  have K0 := Lib.hid ((X2.out.set0 s).cell0)
  have K1 := Lib.hid (((X2.out.set0 s).set1 (.slice A n c)).cell1)
  have Hb3 := Lib.hid ((Hb.out.setCell (p := ⟨w.heap.size, 0, none⟩) (Nat.le_refl _) (.int .i64 s)).setCell (p := ⟨w.heap.size, 1, none⟩) (Nat.le_refl _) (.slice A n c))
  go_wp2_with fail
  have k0 := K0.out
  have k1 := K1.out
  refine bodyPost_ret (v := .agg #[.int .i64 s, .slice A n c]) (by simp [results, Try.results13, go_sem, k0, k1]) rfl ?_
  exact ⟨_, _, _, _, _, rfl, Hi.out, hn, s0, s8, Hb3.out⟩


section
variable (s : Int) (w : World) (A : Option Addr) (n c : Nat) (cs : List Int) (h : Ints w w.heap.size A n cs) (hn : n ≤ 49) (hv : Bd.okB s cs = true) (ds : List Int) (a : Int) (Hd : Hid (Cn s n cs 7 ds a))
include h hn hv Hd
theorem i_CanW : Calls Try.prog 14 #[.agg #[.int .i64 s, .slice A n c]] w fun e w' => ∃ A1 c1, e = .returned (.tuple #[.agg #[.int .i64 s, .slice A1 n c1], .int .i64 a]) ∧ Own w' w.heap.size A1 n c1 ds ∧ Below w.heap.size w w' := by
  have hl := Hd.out.len h.1
  refine (i_Can s w _ A n c cs h (Nat.le_refl _) (by omega) s ds a (Lib.hid ⟨fun _ => ⟨rfl, Hd.out⟩, fun e => absurd (hv.symm.trans e) (by decide)⟩)).mono ?_
  rintro e w' ⟨A1, n1, c1, rfl, ho, hb⟩
  have e1 := ho.1
  obtain rfl : n1 = n := by omega
  exact ⟨_, _, rfl, ho, hb⟩
theorem s_CanW : Calls Try.prog 15 #[.agg #[.int .i64 s, .slice A n c]] w fun e w' => ∃ A1 c1, e = .returned (.tuple #[.agg #[.int .i64 s, .slice A1 n c1], .int .i64 a]) ∧ Own w' w.heap.size A1 n c1 ds ∧ Below w.heap.size w w' := by
  have hl := Hd.out.len h.1
  refine (s_Can s w _ A n c cs h (Nat.le_refl _) (by omega) s ds a (Lib.hid ⟨fun _ => ⟨rfl, Hd.out⟩, fun e => absurd (hv.symm.trans e) (by decide)⟩)).mono ?_
  rintro e w' ⟨A1, n1, c1, rfl, ho, hb⟩
  have e1 := ho.1
  obtain rfl : n1 = n := by omega
  exact ⟨_, _, rfl, ho, hb⟩
end

section
variable (s : Int) (w : World) (A : Option Addr) (n c : Nat) (cs : List Int) (h : Ints w w.heap.size A n cs) (hn : n ≤ 49) (hv : Bd.okB s cs = false)
include h hn hv
theorem i_CanN : Calls Try.prog 14 #[.agg #[.int .i64 s, .slice A n c]] w fun e w' => ∃ A1 c1, e = .returned (.tuple #[.agg #[.int .i64 0, .slice A1 0 c1], .int .i64 (-1)]) ∧ Own w' w.heap.size A1 0 c1 [] ∧ Below w.heap.size w w' := by
  refine (i_Can s w _ A n c cs h (Nat.le_refl _) (by omega) 0 [] (-1) (Lib.hid ⟨fun e => absurd (hv.symm.trans e) (by decide), fun _ => ⟨rfl, rfl, rfl⟩⟩)).mono ?_
  rintro e w' ⟨A1, n1, c1, rfl, ho, hb⟩
  obtain rfl : 0 = n1 := ho.1
  exact ⟨_, _, rfl, ho, hb⟩
theorem s_CanN : Calls Try.prog 15 #[.agg #[.int .i64 s, .slice A n c]] w fun e w' => ∃ A1 c1, e = .returned (.tuple #[.agg #[.int .i64 0, .slice A1 0 c1], .int .i64 (-1)]) ∧ Own w' w.heap.size A1 0 c1 [] ∧ Below w.heap.size w w' := by
  refine (s_Can s w _ A n c cs h (Nat.le_refl _) (by omega) 0 [] (-1) (Lib.hid ⟨fun e => absurd (hv.symm.trans e) (by decide), fun _ => ⟨rfl, rfl, rfl⟩⟩)).mono ?_
  rintro e w' ⟨A1, n1, c1, rfl, ho, hb⟩
  obtain rfl : 0 = n1 := ho.1
  exact ⟨_, _, rfl, ho, hb⟩
end
end Go.Proofs.Ytfpibldknjcehaa

