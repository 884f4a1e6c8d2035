/-
  The eyes and the false eyes, in both packages.
-/
import Derived.Test.YtfpibldknjcehaaDoorEyeW
namespace Go.Proofs.YtfpibldknjcehaaDoor
set_option maxRecDepth 100000
open Go.RowKit

def eyOk (s : Int) (cs : List Int) (x : Int) : Bool := Bd.okB s cs && (decide (1 ≤ x) && decide (x ≤ 2))
def eyL (s : Int) (cs : List Int) (x : Int) : List Int := if eyOk s cs x then ((List.range cs.length).filter fun q => eyeS s cs (q : Nat) x).map fun (q : Nat) => (q : Int) else []
def eyW (s : Int) (cs : List Int) (x : Int) : List Int := if eyOk s cs x then ((List.range cs.length).filter fun q => encS s cs (q : Nat) x && !eyeS s cs (q : Nat) x).map fun (q : Nat) => (q : Int) else []
theorem eyL_len (s : Int) (cs : List Int) (x : Int) : (eyL s cs x).length ≤ cs.length := by
  unfold eyL; split
  · rw [List.length_map]; exact Nat.le_trans (List.length_filter_le _ _) (by simp)
  · simp
theorem eyW_len (s : Int) (cs : List Int) (x : Int) : (eyW s cs x).length ≤ cs.length := by
  unfold eyW; split
  · rw [List.length_map]; exact Nat.le_trans (List.length_filter_le _ _) (by simp)
  · simp
theorem pts_sel {m n : Nat} {g : Nat → Bool} (h : ∀ q, q < n → m.testBit q = g q) : Bt.pts m n = ((List.range n).filter g).map fun (q : Nat) => (q : Int) := by
  unfold Bt.pts
  congr 1
  exact List.filter_congr fun q hq => h q (List.mem_range.1 hq)

theorem ey_ltY {s Y O m k : Nat} (h : IsEy s Y O m) (hY : Y < 2 ^ k) : m < 2 ^ k := by
  refine Nat.lt_pow_two_of_testBit _ fun j hj => ?_
  rw [h j, Bt.high hY hj, Bool.false_and]
theorem i_eyesY (t : Nat) (cs : List Int) (x : Int) (n : Nat) (t1 : 1 ≤ t) (t2 : t ≤ 7) (hnn : n = t * t) (hl : cs.length = n) (hok : ∀ c ∈ cs, 0 ≤ c ∧ c ≤ 2) (hx : x = 1 ∨ x = 2) :
    ∃ m Y : Nat, m < 2 ^ 49 ∧ Y < 2 ^ (t * t) ∧ m < 2 ^ (t * t) ∧ (∀ q, q < t * t → m.testBit q = eyeS t cs q x) ∧ (∀ q, q < t * t → Y.testBit q = encS t cs q x) ∧
      ∀ w, Tab w → Calls Tryd.prog 26 #[.agg #[.int .i64 (t : Nat), .int .u64 (Bt.msk cs 0 n : Nat), .int .u64 (Bt.msk cs 1 n : Nat), .int .u64 (Bt.msk cs 2 n : Nat)], .int .i64 x] w fun e w' => e = .returned (.tuple #[.int .u64 (m : Nat), .int .u64 ((Y &&& (18446744073709551615 - m) : Nat) : Int)]) ∧ Below w.heap.size w w' := by
  have h7 := (Bt.masks t t1 t2).2.2.2.2.2.2
  have l0 : Bt.msk cs 0 n < 2 ^ (t * t) := by rw [← hnn]; exact Bt.msk_lt cs 0 n
  have l1 : Bt.msk cs 1 n < 2 ^ (t * t) := by rw [← hnn]; exact Bt.msk_lt cs 1 n
  have l2 : Bt.msk cs 2 n < 2 ^ (t * t) := by rw [← hnn]; exact Bt.msk_lt cs 2 n
  rcases hx with rfl | rfl
  · have hY := encM_lt (s := t) (M := Bt.msk cs 1 n) (O := Bt.msk cs 2 n) l0
    obtain ⟨m, hm⟩ := ey_ex t (encM t (Bt.msk cs 0 n) (Bt.msk cs 1 n) (Bt.msk cs 2 n)) (Bt.msk cs 2 n) (by omega)
    refine ⟨m, _, ey_lt hm (Nat.lt_of_lt_of_le hY h7), hY, ey_ltY hm hY, fun q hq => eye_bit t q cs 1 2 n m t1 t2 hnn hl hok (by simp) hq hm, fun q hq => enc_eq t cs 1 2 n t1 t2 hnn hl hok (by simp) q hq, fun w ht => (i_eyes1 t _ _ _ w ht t1 t2 l0 l1 l2).mono ?_⟩
    rintro e w' ⟨m', rfl, hm', hb⟩
    rw [hm'.one hm]
    exact ⟨rfl, hb⟩
  · have hY := encM_lt (s := t) (M := Bt.msk cs 2 n) (O := Bt.msk cs 1 n) l0
    obtain ⟨m, hm⟩ := ey_ex t (encM t (Bt.msk cs 0 n) (Bt.msk cs 2 n) (Bt.msk cs 1 n)) (Bt.msk cs 1 n) (by omega)
    refine ⟨m, _, ey_lt hm (Nat.lt_of_lt_of_le hY h7), hY, ey_ltY hm hY, fun q hq => eye_bit t q cs 2 1 n m t1 t2 hnn hl hok (by simp) hq hm, fun q hq => enc_eq t cs 2 1 n t1 t2 hnn hl hok (by simp) q hq, fun w ht => (i_eyes2 t _ _ _ w ht t1 t2 l0 l2 l1).mono ?_⟩
    rintro e w' ⟨m', rfl, hm', hb⟩
    rw [hm'.one hm]
    exact ⟨rfl, hb⟩

/-- What the program's sets say of the model's lists. -/
theorem ey_lists (t : Nat) (cs : List Int) (x : Int) (n : Nat) (t1 : 1 ≤ t) (t2 : t ≤ 7) (hnn : n = t * t) (hl : cs.length = n) (ho : Bd.okB t cs = true) (x1 : 1 ≤ x) (x2 : x ≤ 2) :
    ∃ m f : Nat, m < 2 ^ 49 ∧ f < 2 ^ 49 ∧ (∀ q, q < n → m.testBit q = eyeS t cs q x) ∧ (∀ q, q < n → f.testBit q = (encS t cs q x && !eyeS t cs q x)) ∧ eyL t cs x = Bt.pts m n ∧ eyW t cs x = Bt.pts f n ∧ eyL t cs x = Bt.pts m 64 ∧ eyW t cs x = Bt.pts f 64 ∧
      ∀ w, Tab w → Calls Tryd.prog 26 #[.agg #[.int .i64 (t : Nat), .int .u64 (Bt.msk cs 0 n : Nat), .int .u64 (Bt.msk cs 1 n : Nat), .int .u64 (Bt.msk cs 2 n : Nat)], .int .i64 x] w fun e w' => e = .returned (.tuple #[.int .u64 (m : Nat), .int .u64 (f : Nat)]) ∧ Below w.heap.size w w' := by
  obtain ⟨_, _, _, q4⟩ := (Bd.okB_iff (t : Int) cs).1 ho
  obtain ⟨m, Y, hml, hYl, hmn', hmb, hYb, cE⟩ := i_eyesY t cs x n t1 t2 hnn hl q4 (by omega)
  have h7 := (Bt.masks t t1 t2).2.2.2.2.2.2
  have hY64 : Y < 18446744073709551616 := by omega
  have hfb : ∀ q, (Y &&& (18446744073709551615 - m)).testBit q = (Y.testBit q && !m.testBit q) := fun q => Bt.andNot_bit hY64 (by omega)
  have hok : eyOk t cs x = true := by rw [eyOk, ho]; simp [x1, x2]
  have e1 : eyL t cs x = Bt.pts m n := by
    rw [eyL, if_pos hok, hl, pts_sel (g := fun q => eyeS t cs q x) fun q hq => hmb q (by omega)]
  have e2 : eyW t cs x = Bt.pts (Y &&& (18446744073709551615 - m)) n := by
    rw [eyW, if_pos hok, hl, pts_sel (g := fun q => encS t cs q x && !eyeS t cs q x) fun q hq => by rw [hfb, hYb q (by omega), hmb q (by omega)]]
  have fl : (Y &&& (18446744073709551615 - m)) < 2 ^ n := by rw [hnn]; exact Nat.lt_of_le_of_lt Nat.and_le_left hYl
  have hn49 : n ≤ 49 := by rw [hnn]; exact (Bt.sq_nat t t1 t2).2.1
  have hmn : ∀ q, n ≤ q → m.testBit q = false := fun q hq => Bt.high hmn' (by omega)
  refine ⟨m, _, hml, Nat.lt_of_lt_of_le fl (Nat.pow_le_pow_right (by decide) hn49), fun q hq => hmb q (by omega), fun q hq => by rw [hfb, hYb q (by omega), hmb q (by omega)], e1, e2, ?_, ?_, cE⟩
  · rw [e1]; exact (Bt.pts_gap (by omega) fun i hi _ => hmn i hi).symm
  · rw [e2]; exact (Bt.pts_more fl (by omega)).symm

section
variable (s x : Int) (w : World) (B : Nat) (A : Option Addr) (n c : Nat) (cs : List Int) (h : Ints w B A n cs) (hB : B ≤ w.heap.size) (hn : n ≤ 1000000000)
include h hB hn

set_option maxHeartbeats 2000000 in
theorem s_EyesOf : Calls Tryd.prog 10 #[.agg #[.int .i64 s, .slice A n c], .int .i64 x] w fun e w' => ∃ A n1 c1 D n2 c2, e = .returned (.tuple #[.slice A n1 c1, .slice D n2 c2]) ∧ TwoL w' w.heap.size A n1 c1 (eyL s cs x) D n2 c2 (eyW s cs x) ∧ Below w.heap.size w w' := by
  have hl := h.1
  by_cases hok : eyOk s cs x = true
  · rw [eyOk, Bool.and_eq_true, Bool.and_eq_true, decide_eq_true_eq, decide_eq_true_eq] at hok
    obtain ⟨ho, x1, x2⟩ := hok
    obtain ⟨q1, q2, q3, q4⟩ := (Bd.okB_iff s cs).1 ho
    obtain ⟨t, rfl⟩ := Int.eq_ofNat_of_zero_le (show 0 ≤ s by omega)
    have hnn : n = t * t := by
      have : (n : Int) = (t : Int) * t := by omega
      exact_mod_cast this
    obtain ⟨m, f, _, _, hm, hf, e1, e2, _, _, _⟩ := ey_lists t cs x n (by omega) (by omega) hnn hl ho x1 x2
    rw [e1, e2]
    exact s_EyesV t x w B A n c cs h hB (by omega) (by omega) hnn ho x1 x2 m f hm hf
  · have hok' : eyOk s cs x = false := by simpa using hok
    have HL := Lib.hid (show eyL s cs x = [] by rw [eyL, hok']; rfl)
    have HW := Lib.hid (show eyW s cs x = [] by rw [eyW, hok']; rfl)
    have hb0 : Below w.heap.size w (w.alloc (.cells #[.int .i64 s, .slice A n c] 27)) := (Below.refl _ _).alloc (Nat.le_refl _) _
    have hbb : Below w.heap.size w (((w.alloc (.cells #[.int .i64 s, .slice A n c] 27)).alloc (.cells #[] 3)).alloc (.cells #[] 3)) := (hb0.alloc (by simp) _).alloc (by simp; omega) _
    have Bxx := Lib.hid (((Bx.new 27 w s (.slice A n c)).alloc (.cells #[] 3)).alloc (.cells #[] 3))
    have H := Lib.hid (h.below hbb hB)
    have Hb := Lib.hid hbb
    have v0 := Bxx.out.cell0
    have v1 := Bxx.out.cell1
    have HO := Lib.hid hok'
    clear h hl hok hok' hb0 hbb
    obtain ⟨b1, e1⟩ : ∃ b, Bd.okB s cs = b := ⟨_, rfl⟩
    have He1 := Lib.hid e1
    clear e1
    cases b1
    · go_enter Tryd.func10, Tryd.ntmps10
      go_wp2_with fail
      refine (s_validBoard _ _ _ _ _ _ _ H.out (by simp; omega) hn).mono ?_
      rintro e y ⟨rfl, hb⟩
      have Hb2 := Lib.hid (Hb.out.trans (hb.mono (by simp; omega)))
      clear hb v0 v1
      rw [He1.out]
      go_wp2_with fail
      go_ret2
      exact ⟨_, _, _, _, _, _, rfl, ⟨by rw [HL.out]; exact Own.nil _ _, by rw [HW.out]; exact Own.nil _ _, fun g e => by cases e⟩, Hb2.out⟩
    · have He2 := Lib.hid (show (decide (1 ≤ x) && decide (x ≤ 2)) = false by have := HO.out; rw [eyOk, He1.out] at this; simpa using this)
      go_enter Tryd.func10, Tryd.ntmps10
      go_wp2_with fail
      refine (s_validBoard _ _ _ _ _ _ _ H.out (by simp; omega) hn).mono ?_
      rintro e y ⟨rfl, hb⟩
      have Hb2 := Lib.hid (Hb.out.trans (hb.mono (by simp; omega)))
      clear hb v0 v1
      rw [He1.out]
      go_wp2_with fail
      refine (s_eyeColor _ _).mono ?_
      rintro e w' ⟨rfl, rfl⟩
      rw [He2.out]
      go_wp2_with fail
      go_ret2
      exact ⟨_, _, _, _, _, _, rfl, ⟨by rw [HL.out]; exact Own.nil _ _, by rw [HW.out]; exact Own.nil _ _, fun g e => by cases e⟩, Hb2.out⟩

/-- The program's two lists: the second lies behind the first. -/
def TwoA (w : World) (xs ys : List Int) (e : Ending) (w' : World) : Prop := ∃ A n1 c1 D n2 c2 mid, e = .returned (.tuple #[.slice A n1 c1, .slice D n2 c2]) ∧ Own w' w.heap.size A n1 c1 xs ∧ (∀ g, A = some ⟨g, 0, none⟩ → g < mid) ∧ Own w' mid D n2 c2 ys ∧ w.heap.size ≤ mid ∧ mid ≤ w'.heap.size ∧ Below w.heap.size w w'

variable (ht : Tab w)
include ht
set_option maxHeartbeats 2000000 in
theorem i_EyesOf : Calls Tryd.prog 11 #[.agg #[.int .i64 s, .slice A n c], .int .i64 x] w (TwoA w (eyL s cs x) (eyW s cs x)) := by
  have hl := h.1
  have hb1 : Below w.heap.size w (w.alloc (.cells #[.int .i64 s, .slice A n c] 27)) := (Below.refl _ _).alloc (Nat.le_refl _) _
  have H := Lib.hid (h.below hb1 hB)
  have Hb := Lib.hid hb1
  have Bxx := Lib.hid (Bx.new 27 w s (.slice A n c))
  have HT := Lib.hid (ht.alloc (.cells #[.int .i64 s, .slice A n c] 27))
  clear h hb1 ht
  by_cases hok : eyOk s cs x = true
  · rw [eyOk, Bool.and_eq_true, Bool.and_eq_true, decide_eq_true_eq, decide_eq_true_eq] at hok
    obtain ⟨ho, x1, x2⟩ := hok
    obtain ⟨q1, q2, q3, q4⟩ := (Bd.okB_iff s cs).1 ho
    obtain ⟨t, rfl⟩ := Int.eq_ofNat_of_zero_le (show 0 ≤ s by omega)
    have hnn : n = t * t := by
      have : (n : Int) = (t : Int) * t := by omega
      exact_mod_cast this
    obtain ⟨m, f, hm49, hf49, _, _, _, _, e1, e2, cE⟩ := ey_lists t cs x n (by omega) (by omega) hnn hl ho x1 x2
    rw [e1, e2]
    have He1 := Lib.hid ho
    have He2 : Hid ((decide (1 ≤ x) && decide (x ≤ 2)) = true) := Lib.hid (by simp [x1, x2])
    have CE := Lib.hid cE
    have CP : Hid (∀ w, Ints w B A n cs → B ≤ w.heap.size → Calls Tryd.prog 25 #[.agg #[.int .i64 (t : Nat), .slice A n c]] w fun e w' => e = .returned (.agg #[.int .i64 (t : Nat), .int .u64 (Bt.msk cs 0 n : Nat), .int .u64 (Bt.msk cs 1 n : Nat), .int .u64 (Bt.msk cs 2 n : Nat)]) ∧ Below w.heap.size w w') := Lib.hid fun w h hB => i_positionOf t w B A n c cs h hB ho
    have CM : Hid (∀ w, Tab w → Calls Tryd.prog 29 #[.int .u64 (m : Nat)] w fun e w' => ∃ A n c, e = .returned (.slice A n c) ∧ Own w' w.heap.size A n c (Bt.pts m 64) ∧ Below w.heap.size w w') := Lib.hid fun w ht => i_list m w ht (by omega)
    have CF : Hid (∀ w, Tab w → Calls Tryd.prog 29 #[.int .u64 (f : Nat)] w fun e w' => ∃ A n c, e = .returned (.slice A n c) ∧ Own w' w.heap.size A n c (Bt.pts f 64) ∧ Below w.heap.size w w') := Lib.hid fun w ht => i_list f w ht (by omega)
    obtain ⟨E0, h0⟩ : ∃ E, Bt.msk cs 0 n = E := ⟨_, rfl⟩
    obtain ⟨E1, h1⟩ : ∃ E, Bt.msk cs 1 n = E := ⟨_, rfl⟩
    obtain ⟨E2, h2⟩ : ∃ E, Bt.msk cs 2 n = E := ⟨_, rfl⟩
    rw [h0, h1, h2] at CP CE
    clear ho x1 x2 q1 q2 q3 q4 hl hnn e1 e2 cE h0 h1 h2
    go_enter Tryd.func11, Tryd.ntmps11
    go_wp2_with fail
    refine (i_validBoard _ _ _ _ _ _ _ H.out (by simp; omega) hn).mono ?_
    rintro e y ⟨rfl, hb⟩
    have v0 := (Bxx.out.below hb (by simp)).cell0
    have v1 := (Bxx.out.below hb (by simp)).cell1
    have H2 := Lib.hid (H.out.below hb (by simp; omega))
    have HT2 := Lib.hid (HT.out.below hb)
    have Hb2 := Lib.hid (Hb.out.trans (hb.mono (by simp)))
    clear hb
    rw [He1.out]
    go_wp2_with fail
    refine (i_eyeStone _ _).mono ?_
    rintro e w' ⟨rfl, rfl⟩
    rw [He2.out]
    go_wp2_with fail
    refine (CP.out _ H2.out (by have := Hb2.out.size; omega)).mono ?_
    rintro e y2 ⟨rfl, hb⟩
    have HT3 := Lib.hid (HT2.out.below hb)
    have Hb3 := Lib.hid (Hb2.out.trans (hb.mono Hb2.out.size))
    clear hb v0 v1
    go_wp2_with fail
    refine (CE.out _ HT3.out).mono ?_
    rintro e y3 ⟨rfl, hb⟩
    have HT4 := Lib.hid (HT3.out.below hb)
    have Hb4 := Lib.hid (Hb3.out.trans (hb.mono Hb3.out.size))
    clear hb
    go_wp2_with fail
    refine (CM.out _ HT4.out).mono ?_
    rintro e y4 ⟨A1, n1, c1, rfl, ho1, hb⟩
    have HT5 := Lib.hid (HT4.out.below hb)
    have Hb5 := Lib.hid (Hb4.out.trans (hb.mono Hb4.out.size))
    have Ho1 := Lib.hid ho1
    clear hb ho1
    go_wp2_with fail
    refine (CF.out _ HT5.out).mono ?_
    rintro e y5 ⟨A2, n2, c2, rfl, ho2, hb⟩
    have Hb6 := Lib.hid (Hb5.out.trans (hb.mono Hb5.out.size))
    have Ho2 := Lib.hid ho2
    have Ho3 := Lib.hid (Ho1.out.below hb)
    have Hz := Lib.hid hb.size
    clear hb ho2
    go_wp2_with fail
    go_ret2
    exact ⟨_, _, _, _, _, _, y4.heap.size, rfl, Ho3.out.weaken Hb4.out.size, fun g e => (Ho1.out.ge e).2, Ho2.out, Hb5.out.size, Hz.out, Hb6.out⟩
  · have hok' : eyOk s cs x = false := by simpa using hok
    have HL := Lib.hid (show eyL s cs x = [] by rw [eyL, hok']; rfl)
    have HW := Lib.hid (show eyW s cs x = [] by rw [eyW, hok']; rfl)
    have HO := Lib.hid hok'
    clear hl hok hok'
    obtain ⟨b1, e1⟩ : ∃ b, Bd.okB s cs = b := ⟨_, rfl⟩
    have He1 := Lib.hid e1
    clear e1
    cases b1
    · go_enter Tryd.func11, Tryd.ntmps11
      go_wp2_with fail
      refine (i_validBoard _ _ _ _ _ _ _ H.out (by simp; omega) hn).mono ?_
      rintro e y ⟨rfl, hb⟩
      have Hb2 := Lib.hid (Hb.out.trans (hb.mono (by simp)))
      clear hb
      rw [He1.out]
      go_wp2_with fail
      go_ret2
      exact ⟨_, _, _, _, _, _, w.heap.size, rfl, by rw [HL.out]; exact Own.nil _ _, (fun g e => by cases e), by rw [HW.out]; exact Own.nil _ _, Nat.le_refl _, Hb2.out.size, Hb2.out⟩
    · have He2 := Lib.hid (show (decide (1 ≤ x) && decide (x ≤ 2)) = false by have := HO.out; rw [eyOk, He1.out] at this; simpa using this)
      go_enter Tryd.func11, Tryd.ntmps11
      go_wp2_with fail
      refine (i_validBoard _ _ _ _ _ _ _ H.out (by simp; omega) hn).mono ?_
      rintro e y ⟨rfl, hb⟩
      have Hb2 := Lib.hid (Hb.out.trans (hb.mono (by simp)))
      clear hb
      rw [He1.out]
      go_wp2_with fail
      refine (i_eyeStone _ _).mono ?_
      rintro e w' ⟨rfl, rfl⟩
      rw [He2.out]
      go_wp2_with fail
      go_ret2
      exact ⟨_, _, _, _, _, _, w.heap.size, rfl, by rw [HL.out]; exact Own.nil _ _, (fun g e => by cases e), by rw [HW.out]; exact Own.nil _ _, Nat.le_refl _, Hb2.out.size, Hb2.out⟩
end
end Go.Proofs.YtfpibldknjcehaaDoor
