/-
  The canonical board in both packages: the smallest image, and the first symmetry that leads to it.
-/
import Derived.Test.YtfpibldknjcehaaCmp
import Derived.Test.YtfpibldknjcehaaTrS
namespace Go.Proofs.Ytfpibldknjcehaa
set_option maxRecDepth 100000
open Go.RowKit

theorem Lx.one {n : Nat} {xs ys : List Int} {b b' : Bool} (h : Lx n xs ys b) (h' : Lx n xs ys b') : b = b' := by
  rcases h with ⟨k, h1, h2, h3, h4⟩ | ⟨h1, h2⟩
  · rw [h4, h'.at_ h1 h2 h3]
  · rw [h2, h'.end_ h1]

theorem img_zero (s p : Int) : Pt.img s 0 p = p := by
  unfold Pt.img Pt.beg
  simp [Pt.rot]
  have := Int.mul_ediv_add_emod p s
  rw [Int.mul_comm] at this
  exact this
theorem mv_zero {s : Int} {cs : List Int} (h1 : 1 ≤ s) (h2 : s ≤ 7) (hn : (cs.length : Int) = s * s) : Bd.mv s 0 cs = cs := by
  refine List.ext_getElem? fun i => ?_
  by_cases hi : i < cs.length
  · have hi0 : Bd.imgN s 0 i = i := by unfold Bd.imgN; rw [img_zero s i]; simp
    have := Bd.steps_at (f := Bd.imgN s 0) (cs := cs) (l := cs) (j := cs.length) (fun a b ha hb he => Bd.imgN_inj s 0 cs.length h1 h2 hn (by omega) (by omega) a b ha hb he) (fun a ha => (Bd.imgN_lt s 0 cs.length a h1 h2 hn ha).1) hi
    rw [hi0] at this
    have e : (Bd.mv s 0 cs)[i]? = some (cs.getD i 0) := this
    rw [e]
    simp [List.getD_eq_getElem?_getD, List.getElem?_eq_getElem hi]
  · rw [List.getElem?_eq_none (by rw [Bd.mv_len]; omega), List.getElem?_eq_none (by omega)]

/-- The smallest of the images 0 .. m, and its number. -/
def Cn (s : Int) (n : Nat) (cs : List Int) : Nat → List Int → Int → Prop
  | 0, ds, a => ds = cs ∧ a = 0
  | m + 1, ds, a => ∃ d0 a0 b, Cn s n cs m d0 a0 ∧ Lx n (Bd.mv s ((m : Int) + 1) cs) d0 b ∧ ((b = true ∧ ds = Bd.mv s ((m : Int) + 1) cs ∧ a = ((m : Int) + 1)) ∨ (b = false ∧ ds = d0 ∧ a = a0))
theorem Cn.make (s : Int) (n : Nat) (cs : List Int) : ∀ m, ∃ ds a, Cn s n cs m ds a := by
  intro m
  induction m with
  | zero => exact ⟨cs, 0, rfl, rfl⟩
  | succ m ih =>
    obtain ⟨d0, a0, h⟩ := ih
    obtain ⟨b, hb⟩ := Lx.make n (Bd.mv s ((m : Int) + 1) cs) d0
    cases b
    · exact ⟨d0, a0, d0, a0, false, h, hb, .inr ⟨rfl, rfl, rfl⟩⟩
    · exact ⟨_, _, d0, a0, true, h, hb, .inl ⟨rfl, rfl, rfl⟩⟩
theorem Cn.one {s : Int} {n : Nat} {cs : List Int} : ∀ {m : Nat} {ds ds' : List Int} {a a' : Int}, Cn s n cs m ds a → Cn s n cs m ds' a' → ds = ds' ∧ a = a' := by
  intro m
  induction m with
  | zero => intro ds ds' a a' h h'; exact ⟨h.1.trans h'.1.symm, h.2.trans h'.2.symm⟩
  | succ m ih =>
    intro ds ds' a a' h h'
    obtain ⟨d0, a0, b, h1, h2, h3⟩ := h
    obtain ⟨d1, a1, b', h4, h5, h6⟩ := h'
    obtain ⟨e1, e2⟩ := ih h1 h4
    subst e1
    subst e2
    have e3 := h2.one h5
    subst e3
    rcases h3 with ⟨r1, r2, r3⟩ | ⟨r1, r2, r3⟩ <;> rcases h6 with ⟨t1, t2, t3⟩ | ⟨t1, t2, t3⟩
    · exact ⟨r2.trans t2.symm, r3.trans t3.symm⟩
    · rw [r1] at t1; cases t1
    · rw [r1] at t1; cases t1
    · exact ⟨r2.trans t2.symm, r3.trans t3.symm⟩
theorem Cn.len {s : Int} {n : Nat} {cs : List Int} (hl : cs.length = n) : ∀ {m : Nat} {ds : List Int} {a : Int}, Cn s n cs m ds a → ds.length = n := by
  intro m
  induction m with
  | zero => intro ds a h; rw [h.1]; exact hl
  | succ m ih =>
    intro ds a h
    obtain ⟨d0, a0, b, h1, h2, h3⟩ := h
    rcases h3 with ⟨_, r2, _⟩ | ⟨_, r2, _⟩
    · rw [r2, Bd.mv_len]; exact hl
    · rw [r2]; exact ih h1

theorem i_trX (s k : Int) (w : World) (B : Nat) (A : Option Addr) (n c : Nat) (cs : List Int) (h : Ints w B A n cs) (hB : B ≤ w.heap.size) (hn : n ≤ 49) (hv : Bd.okB s cs = true) (k1 : 0 ≤ k) (k2 : k < 8) :
    Calls Try.prog 17 #[.agg #[.int .i64 s, .slice A n c], .int .i64 k] w fun e w' => ∃ A1 c1, e = .returned (.agg #[.int .i64 s, .slice A1 n c1]) ∧ Own w' w.heap.size A1 n c1 (Bd.mv s k cs) ∧ Below w.heap.size w w' := by
  have hl := h.1
  have hk : Pt.okK k = true := (Pt.okK_iff k).2 ⟨k1, k2⟩
  refine (i_trB s k w B A n c cs h hB (by omega)).mono ?_
  rintro e w' ⟨A1, n1, c1, rfl, ho, hb⟩
  rw [trCs, show trOk s cs k = true by rw [trOk, hv, hk]; rfl, if_pos rfl] at ho
  rw [trS, show trOk s cs k = true by rw [trOk, hv, hk]; rfl, if_pos rfl]
  have e1 := ho.1
  rw [Bd.mv_len] at e1
  obtain rfl : n1 = n := by omega
  exact ⟨_, _, rfl, ho, hb⟩

/-- What CanonicalBoard returns. -/
def MadeI (s : Int) (ds : List Int) (a : Int) (w : World) (e : Ending) (w' : World) : Prop :=
  ∃ A n c, e = .returned (.tuple #[.agg #[.int .i64 s, .slice A n c], .int .i64 a]) ∧ Own w' w.heap.size A n c ds ∧ Below w.heap.size w w'

set_option maxRecDepth 100000 in
set_option maxHeartbeats 4000000 in
theorem i_canV (s : Int) (w : World) (B : Nat) (A : Option Addr) (n c : Nat) (cs : List Int) (h : Ints w B A n cs) (hB : B ≤ w.heap.size) (hv : Bd.okB s cs = true) (ds : List Int) (a : Int) (Hd : Hid (Cn s n cs 7 ds a)) :
    Calls Try.prog 14 #[.agg #[.int .i64 s, .slice A n c]] w fun e w' => MadeI s ds a w e w' := by
  have hl := h.1
  obtain ⟨s1, s7, hsn, _⟩ := (Bd.okB_iff s cs).1 hv
  have hsq := Pt.sq_bd s s1 s7
  have hn49 : n ≤ 49 := by omega
  have Hv := Lib.hid hv
  have Hz := Lib.hid (mv_zero s1 s7 hsn)
  have e1 : (w.alloc (.cells #[.int .i64 s, .slice A n c] 25)).heap.size = w.heap.size + 1 := by simp
  have x0 := (Bx.new 25 w s (.slice A n c)).alloc (.cells #[.int .i64 0, .slice none 0 0] 25)
  have x1 := Bx.new 25 (w.alloc (.cells #[.int .i64 s, .slice A n c] 25)) 0 (.slice none 0 0)
  rw [e1] at x1
  have hb2 : Below w.heap.size w ((w.alloc (.cells #[.int .i64 s, .slice A n c] 25)).alloc (.cells #[.int .i64 0, .slice none 0 0] 25)) := ((Below.refl _ _).alloc (Nat.le_refl _) _).alloc (by simp) _
  have H := Lib.hid (h.below hb2 hB)
  have X0 := Lib.hid x0
  have X1 := Lib.hid x1
  have Hb := Lib.hid hb2
  clear e1 x0 x1 hb2 h hv hsn
  go_enter Try.func14, Try.ntmps14
  go_wp2_with fail
  refine (i_validBoard _ _ _ _ _ _ _ H.out (by simp; omega) (by omega)).mono ?_
  rintro e y2 ⟨rfl, hb⟩
  rw [Hv.out]
  have X0 := Lib.hid (X0.out.below hb X0.out.lt)
  have X1 := Lib.hid (X1.out.below hb X1.out.lt)
  have H := Lib.hid (H.out.below hb (by simp; omega))
  have Hb := Lib.hid (Hb.out.trans (hb.mono (by simp; omega)))
  have z2 := X1.out.lt
  clear hb
  have u00 := X0.out.cell0
  have u01 := X0.out.cell1
  have u02 := X0.out.lt
  go_wp2_with fail
  refine (i_trX s 0 _ B _ n _ cs H.out (by omega) hn49 Hv.out (by omega) (by omega)).mono ?_
  rintro e y3 ⟨A3, c3, rfl, ho, hb⟩
  rw [Hz.out] at ho
  have X0 := Lib.hid (X0.out.below hb X0.out.lt)
  have X1 := Lib.hid (X1.out.below hb X1.out.lt)
  have H := Lib.hid (H.out.below hb (by omega))
  have Hb := Lib.hid (Hb.out.trans (hb.mono (by omega)))
  have Ho := Lib.hid (ho.weaken (B' := w.heap.size + 2) (by omega))
  have Hfar : Hid (∀ g, A3 = some ⟨g, 0, none⟩ → g ≠ y3.heap.size) := Lib.hid (fun g e => by have := (ho.ge e).2; omega)
  have z3 := hb.size
  clear hb ho u00 u01
  go_upto_region 4 with (fail)
  obtain ⟨y4, hy4, hb4, z4, z4'⟩ := new_box y3 (.cells #[.int .i64 s, .slice A3 n c3] 25)
  have X4 : Hid (Bx 25 y4 y3.heap.size s (.slice A3 n c3)) := Lib.hid (by rw [hy4]; exact Bx.new _ _ _ _)
  rw [← hy4]
  clear hy4
  have X0 := Lib.hid (X0.out.below hb4 X0.out.lt)
  have X1 := Lib.hid (X1.out.below hb4 X1.out.lt)
  have H := Lib.hid (H.out.below hb4 (by omega))
  have Ho := Lib.hid (Ho.out.below hb4)
  have Hb := Lib.hid (Hb.out.trans (hb4.mono (by omega)))
  clear hb4
  go_wp2_with fail
  go_loopw [5, 6] (fun v i wr => ∃ (m : Nat) (Am : Option Addr) (cm : Nat) (d0 : List Int) (a0 : Int), m ≤ 7 ∧ i = .int .i64 ((m : Int) + 1) ∧ v = .int .i64 a0 ∧ Cn s n cs m d0 a0 ∧ Bx 25 wr y3.heap.size s (.slice Am n cm) ∧ Own wr (w.heap.size + 2) Am n cm d0 ∧ (∀ g, Am = some ⟨g, 0, none⟩ → g ≠ y3.heap.size) ∧ Below (w.heap.size + 2) y4 wr) (fun _ i _ => 8 - (intOf i).toNat)
  case atStart => exact ⟨0, _, _, _, _, by omega, by simp, rfl, ⟨rfl, rfl⟩, X4.out, Ho.out, Hfar.out, Below.refl _ _⟩
  case round =>
    clear X4 Ho Hfar
    obtain ⟨wo, rfl⟩ : ∃ wo : World, wo = wr := ⟨_, rfl⟩
    obtain ⟨m, Am, cm, d0, a0, hm, rfl, rfl, hcn, x4, ho, hfar, hbr⟩ := hrel
    have hz := hbr.size
    have X0r := Lib.hid (X0.out.below hbr (by omega))
    have X1r := Lib.hid (X1.out.below hbr (by omega))
    have Hr := Lib.hid (H.out.below hbr (by omega))
    have Hbw := Lib.hid (Hb.out.trans (hbr.mono (by omega)))
    have Hcn := Lib.hid hcn
    have X4 := Lib.hid x4
    have Ho := Lib.hid ho
    have Hfar := Lib.hid hfar
    have Hbr := Lib.hid hbr
    have z41 := x4.lt
    have u00 := X0r.out.cell0
    have u01 := X0r.out.cell1
    have u02 := X0r.out.lt
    clear hcn x4 ho hfar hbr
    by_cases hm7 : m = 7
    · subst hm7
      obtain ⟨e1, e2⟩ := Hcn.out.one Hd.out
      have Hds := Lib.hid e1
      have Ha := Lib.hid e2
      clear e1 e2
      have v40 := X4.out.cell0
      have v41 := X4.out.cell1
      have v10 := X1r.out.cell0
      have v11 := X1r.out.cell1
      have v12 := X1r.out.frozen 0
      have v13 := X1r.out.frozen 1
      have v14 := X1r.out.lt
      have K0 := Lib.hid ((X1r.out.set0 s).cell0)
      have K1 := Lib.hid (((X1r.out.set0 s).set1 (.slice Am n cm)).cell1)
      have Ho2 := Lib.hid ((Ho.out.far ⟨w.heap.size + 1, 0, none⟩ (fun g hA => by have := (Ho.out.ge hA).1; show g ≠ w.heap.size + 1; omega) (.int .i64 s)).far ⟨w.heap.size + 1, 1, none⟩ (fun g hA => by have := (Ho.out.ge hA).1; show g ≠ w.heap.size + 1; omega) (.slice Am n cm))
      have Hb3 := Lib.hid ((Hbw.out.setCell (p := ⟨w.heap.size + 1, 0, none⟩) (by show w.heap.size ≤ w.heap.size + 1; omega) (.int .i64 s)).setCell (p := ⟨w.heap.size + 1, 1, none⟩) (by show w.heap.size ≤ w.heap.size + 1; omega) (.slice Am n cm))
      go_wp2_with fail
      have k0 := K0.out
      have k1 := K1.out
      refine bodyPost_ret (v := .tuple #[.agg #[.int .i64 s, .slice Am n cm], .int .i64 a0]) (by simp [results, Try.results14, go_sem, k0, k1]) rfl ?_
      exact ⟨_, _, _, by rw [Ha.out], by rw [← Hds.out]; exact Ho2.out.weaken (by omega), Hb3.out⟩
    · have hmI : (m : Int) + 1 < 8 := by omega
      go_wp2_with fail
      refine (i_trX s ((m : Int) + 1) _ B _ n _ cs Hr.out (by omega) hn49 Hv.out (by omega) (by omega)).mono ?_
      rintro e y5 ⟨A5, c5, rfl, ho5, hb5⟩
      have z5 := hb5.size
      have X4 := Lib.hid (X4.out.below hb5 X4.out.lt)
      have Ho := Lib.hid (Ho.out.below hb5)
      have Ho5 := Lib.hid ho5
      have Hf5 : Hid (∀ g, A5 = some ⟨g, 0, none⟩ → g ≠ y3.heap.size ∧ g < y5.heap.size) := Lib.hid (fun g e => by have := ho5.ge e; omega)
      have Hbr := Lib.hid (Hbr.out.trans (hb5.mono (by omega)))
      clear ho5 hb5 u00 u01
      go_upto_region 8 with (fail)
      obtain ⟨y6, hy6, hb6, z6, z6'⟩ := new_box y5 (.cells #[.int .i64 s, .slice A5 n c5] 25)
      have X7 : Hid (Bx 25 y6 y5.heap.size s (.slice A5 n c5)) := Lib.hid (by rw [hy6]; exact Bx.new _ _ _ _)
      rw [← hy6]
      clear hy6
      have X4 := Lib.hid (X4.out.below hb6 X4.out.lt)
      have Ho := Lib.hid (Ho.out.below hb6)
      have Ho5 := Lib.hid ((Ho5.out.below hb6).weaken (B' := w.heap.size + 2) (by omega))
      have Hbr := Lib.hid (Hbr.out.trans (hb6.mono (by omega)))
      clear hb6
      have t70 := X7.out.cell0
      have t71 := X7.out.cell1
      have t72 := X7.out.lt
      have t40 := X4.out.cell0
      have t41 := X4.out.cell1
      have t42 := X4.out.frozen 0
      have t43 := X4.out.frozen 1
      have t44 := X4.out.lt
      obtain ⟨b, hb⟩ := Lx.make n (Bd.mv s ((m : Int) + 1) cs) d0
      have HL := Lib.hid hb
      clear hb
      go_wp2_with fail
      refine (i_compare _ _ _ _ _ n _ _ _ _ Ho5.out.ints Ho.out.ints (by omega) b HL).mono ?_
      rintro e w' ⟨d, rfl, hd, rfl⟩
      cases b
      · have hd0 : ¬ d < 0 := by simpa using hd
        clear hd
        go_wp2_with fail
        go_roundw
        case rel => exact ⟨m + 1, _, _, d0, a0, by omega, by simp, rfl, ⟨d0, a0, false, Hcn.out, HL.out, .inr ⟨rfl, rfl, rfl⟩⟩, X4.out, Ho.out, Hfar.out, Hbr.out⟩
        case measure => simp [intOf]; omega
      · have hd0 : d < 0 := by simpa using hd
        have X4s := Lib.hid ((X4.out.set0 s).set1 (.slice A5 n c5))
        have Ho5s := Lib.hid ((Ho5.out.far ⟨y3.heap.size, 0, none⟩ (fun g hA => (Hf5.out g hA).1) (.int .i64 s)).far ⟨y3.heap.size, 1, none⟩ (fun g hA => (Hf5.out g hA).1) (.slice A5 n c5))
        have Hbrs := Lib.hid ((Hbr.out.setCell (p := ⟨y3.heap.size, 0, none⟩) (by show w.heap.size + 2 ≤ y3.heap.size; omega) (.int .i64 s)).setCell (p := ⟨y3.heap.size, 1, none⟩) (by show w.heap.size + 2 ≤ y3.heap.size; omega) (.slice A5 n c5))
        clear hd
        go_wp2_with fail
        go_roundw
        case rel => exact ⟨m + 1, _, _, _, _, by omega, by simp, rfl, ⟨d0, a0, true, Hcn.out, HL.out, .inl ⟨rfl, rfl, rfl⟩⟩, X4s.out, Ho5s.out, (fun g e => (Hf5.out g e).1), Hbrs.out⟩
        case measure => simp [intOf]; omega
end Go.Proofs.Ytfpibldknjcehaa
