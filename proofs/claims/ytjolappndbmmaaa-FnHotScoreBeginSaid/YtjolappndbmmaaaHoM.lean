/-
  HotOrder of the model: the same order as the program's.
-/
import Derived.Test.YtjolappndbmmaaaHoH
namespace Go.Proofs.Ytjolappndbmmaaa
set_option maxRecDepth 100000
open Go.RowKit

def drk : List Bool → Nat
  | [] => 0
  | b :: bs => (if b = true then 0 else 1) + drk bs
theorem drk_set : ∀ (S : List Bool) (i : Nat), i < S.length → S.getD i true = false → drk (S.set i true) + 1 = drk S
  | [], i, h, _ => by simp at h
  | b :: bs, 0, _, h => by
    have hb : b = false := by simpa using h
    subst hb
    simp [drk]; omega
  | b :: bs, i + 1, h, hf => by
    have ih := drk_set bs i (by simpa using h) (by simpa using hf)
    simp only [List.set_cons_succ, drk]
    omega
theorem drk_le : ∀ S : List Bool, drk S ≤ S.length
  | [] => Nat.le_refl _
  | b :: bs => by
    have := drk_le bs
    simp only [drk, List.length_cons]
    split <;> omega
theorem own_row {w : World} {B n c g : Nat} {A : Option Addr} {xs : List Int} (h : Own w B A n c xs) (hr : (Value.slice A n c).ownBlock = some g) : A = some ⟨g, 0, none⟩ := by
  rcases h.2.2 with ⟨hv, _⟩ | ⟨g', cap, cur, hv, _⟩
  · rw [hv] at hr; cases hr
  · have hA : A = some ⟨g', 0, none⟩ := by injection hv
    subst hA
    have : g' = g := Option.some.inj hr
    rw [this]
theorem getD_tf {S : List Bool} {i : Nat} (h : i < S.length) : S.getD i true = S.getD i false := by
  rw [List.getD_eq_getElem?_getD, List.getD_eq_getElem?_getD, List.getElem?_eq_getElem h]; rfl
theorem getD_setB {S : List Bool} {i j : Nat} (h : i < S.length) : (S.set i true).getD j false = if i = j then true else S.getD j false := by
  rw [List.getD_eq_getElem?_getD, List.getD_eq_getElem?_getD, List.getElem?_set]
  by_cases e : i = j
  · rw [if_pos e, if_pos h, if_pos e]; rfl
  · rw [if_neg e, if_neg e]
/-- What the model has taken so far. -/
def Tk (H : Int → Int) (n : Nat) (S : List Bool) (d : List Int) : Prop := S.length = n ∧ Ho.Sel H n d ∧ ∀ j : Nat, j < n → (S.getD j false = true ↔ (j : Int) ∈ d)
theorem Tk.start (H : Int → Int) (n : Nat) : Tk H n (List.replicate n false) [] := by
  refine ⟨by simp, Ho.Sel.nil H n, fun j hj => ?_⟩
  simp [List.getD_eq_getElem?_getD, hj]
theorem Tk.next {H : Int → Int} {n : Nat} {S : List Bool} {d : List Int} {a : Nat} (h : Tk H n S d) (hb : HB H S n (a : Int)) : Tk H n (S.set a true) (d ++ [(a : Int)]) ∧ drk (S.set a true) + 1 = drk S ∧ a < n := by
  obtain ⟨h1, h2, h3⟩ := h
  rcases hb with ⟨hb, _⟩ | ⟨a', ha, b1, b2, b3⟩
  · omega
  · obtain rfl : a = a' := by omega
    have hnd : (a : Int) ∉ d := fun hm => by
      have := (h3 a b1).2 hm
      rw [b2] at this; exact absurd this (by decide)
    refine ⟨⟨by simpa using h1, h2.next (by omega) (by omega) hnd ?_, fun j hj => ?_⟩, drk_set S a (by omega) (by rw [getD_tf (by omega)]; exact b2), b1⟩
    · intro k k1 k2 hk hne
      obtain ⟨kn, rfl⟩ := Int.eq_ofNat_of_zero_le k1
      refine b3 kn (by omega) ?_ (by omega)
      cases hs : S.getD kn false with
      | false => rfl
      | true => exact absurd ((h3 kn (by omega)).1 hs) hk
    · rw [getD_setB (by omega), List.mem_append, List.mem_singleton]
      by_cases e : a = j
      · subst e; simp
      · rw [if_neg e, h3 j hj]
        constructor
        · exact .inl
        · rintro (h | h)
          · exact h
          · omega
theorem Tk.done {H : Int → Int} {n : Nat} {S : List Bool} {d : List Int} {v : Int} (h : Tk H n S d) (hb : HB H S n v) (hv : v < 0) : Ho.Ord H n d := by
  rcases hb with ⟨_, hb⟩ | ⟨a, rfl, _⟩
  · refine h.2.1.done fun k k1 k2 => ?_
    obtain ⟨kn, rfl⟩ := Int.eq_ofNat_of_zero_le k1
    exact (h.2.2 kn (by omega)).1 (hb kn (by omega))
  · omega

set_option maxRecDepth 100000 in
set_option maxHeartbeats 4000000 in
theorem s_hot (w : World) (B : Nat) (A : Option Addr) (n c : Nat) (ls : List (Int × Int)) (h : Sws w B A n ls) (hn : n ≤ 1048576) :
    Calls Try.prog 25 #[.slice A n c] w fun e w' => ∃ A' m c' d, e = .returned (.slice A' m c') ∧ HotIs ls n d ∧ Own w' w.heap.size A' m c' d ∧ Below w.heap.size w w' := by
  have H := Lib.hid h
  clear h
  obtain ⟨y, hy⟩ : ∃ y, w.alloc (.cells #[] 3) = y := ⟨_, rfl⟩
  have Hy := Lib.hid hy
  have Hob := Lib.hid (show Own y w.heap.size (some ⟨w.heap.size, 0, none⟩) 0 0 [] from by rw [← hy]; exact Own.bare w _ (Nat.le_refl _))
  have hb1 : Below w.heap.size w y := by rw [← hy]; exact (Below.refl _ _).alloc (Nat.le_refl _) _
  have hyz : y.heap.size = w.heap.size + 1 := by rw [← hy]; simp
  have Hb1 := Lib.hid hb1
  have HS := Lib.hid (H.out.below hb1)
  clear hy hb1
  go_enter Try.func25, Try.ntmps25
  go_wp2_with fail
  rw [Hy.out]
  go_wp2_with fail
  refine (s_vsw y B A n c ls HS.out hn).mono ?_
  rintro e y2 ⟨rfl, hb2⟩
  rw [Bool.and_comm]
  have HS2 := Lib.hid (HS.out.below hb2)
  have Hob2 := Lib.hid (Hob.out.below hb2)
  have hz2 := hb2.size
  have Hb2 := Lib.hid (Hb1.out.trans (hb2.mono (by omega)))
  clear hb2
  by_cases hv : (decide (n ≤ 6) && Sw.all ls) = true
  · rw [hv]
    have hv2 := hv
    rw [Bool.and_eq_true, decide_eq_true_eq] at hv2
    obtain ⟨h6, hall⟩ := hv2
    have Hv := Lib.hid hv
    have Hall := Lib.hid hall
    clear hv hall
    go_wp2_with (at_make; refine makeB rfl _ rfl _ _ n rfl rfl (by omega) ?_; intro y3 hbl hb hlt)
    have HS3 := Lib.hid (HS2.out.below hb)
    have Hob3 := Lib.hid (Hob2.out.below hb)
    have Hb3 := Lib.hid (Hb2.out.trans (hb.mono (by omega)))
    have Hbl := Lib.hid hbl
    clear hbl hb
    go_wp2_with fail
    refine (s_hottest y3 B A n c _ n ls _ HS3.out Hall.out Hbl.out (by simp) h6).mono ?_
    rintro e y4 ⟨v, rfl, hhb, hb4⟩
    have HS4 := Lib.hid (HS3.out.below hb4)
    have Hob4 := Lib.hid (Hob3.out.below hb4)
    have Hbl4 := Lib.hid (Hbl.out.below hb4 Hbl.out.lt)
    have hz4 := hb4.size
    have Hb4 := Lib.hid (Hb3.out.trans (hb4.mono (by omega)))
    have Hhb := Lib.hid hhb
    clear hb4 hhb
    go_wp2_with fail
    go_loopg [3, 5] (drk (List.replicate n false) + 1) (fun q v3 v5 wr => ∃ (S : List Bool) (d : List Int) (A1 : Option Addr) (m c1 : Nat) (a : Int), drk S + 1 = q ∧ m ≤ 1000000 ∧ m + drk S ≤ drk (List.replicate n false) ∧ v3 = .slice A1 m c1 ∧ v5 = .int .i64 a ∧ Tk (Ho.heat ls) n S d ∧ HB (Ho.heat ls) S n a ∧ Own wr w.heap.size A1 m c1 d ∧ (∀ g, A1 = some ⟨g, 0, none⟩ → g ≠ y2.heap.size) ∧ Bl wr y2.heap.size S ∧ Below w.heap.size w wr)
    case atStart => exact ⟨_, [], _, 0, 0, v, rfl, by omega, by omega, rfl, rfl, Tk.start _ n, Hhb.out, Hob4.out, (fun g e => by have := Option.some.inj e; injection this; omega), Hbl4.out, Hb4.out⟩
    case round =>
      obtain ⟨S, d, A1, m, c1, a, hq, hm6, hmd, rfl, rfl, htk, hhb, ho, hne, hbl, hb⟩ := hrel
      obtain ⟨wi, rfl⟩ : ∃ wi : World, wi = wr := ⟨_, rfl⟩
      have hdn := drk_le (List.replicate n false)
      rw [List.length_replicate] at hdn
      have Htk := Lib.hid htk
      have Hhb2 := Lib.hid hhb
      have HO := Lib.hid ho
      have HBl := Lib.hid hbl
      have HB9 := Lib.hid hb
      have hml := ho.1
      clear htk hhb ho hbl hb
      by_cases ha : a < 0
      · have Hd := Lib.hid (Htk.out.done Hhb2.out ha)
        have ha2 : ¬ 0 ≤ a := by omega
        go_wp2_with fail
        go_ret
        exact ⟨_, _, _, rfl, d, ⟨fun _ => Hd.out, fun hf => absurd (Hv.out.symm.trans hf) (by decide)⟩, HO.out, HB9.out⟩
      · obtain ⟨an, rfl⟩ := Int.eq_ofNat_of_zero_le (show 0 ≤ a by omega)
        obtain ⟨htk2, hdr, han⟩ := Htk.out.next Hhb2.out
        have Htk2 := Lib.hid htk2
        have han1 : ((an : Nat) : Int) < n := by omega
        have han2 : (0 : Int) ≤ (an : Nat) := by omega
        have hSn := Htk.out.1
        have cta := HBl.out.cell (j := an) (by omega)
        have fta := HBl.out.frozen an
        have hbs := HBl.out.set_ an true
        obtain ⟨wj, hwj⟩ : ∃ wj, wi.setCell ⟨y2.heap.size, an, none⟩ (.bool true) = wj := ⟨_, rfl⟩
        have HOj := Lib.hid (show Own wj w.heap.size A1 m c1 d from by rw [← hwj]; exact HO.out.far _ (fun g e => hne g e) _)
        have HBj := Lib.hid (show Below w.heap.size w wj from by rw [← hwj]; exact HB9.out.setCell (by show w.heap.size ≤ y2.heap.size; omega) _)
        rw [hwj] at hbs
        have Hwj := Lib.hid hwj
        have HBlj := Lib.hid hbs
        have HSj := Lib.hid (H.out.below HBj.out)
        have hzj := HBj.out.size
        have hyl := HBlj.out.lt
        clear hwj hbs htk2
        go_upto_region 9 with (fail)
        rw [Hwj.out]
        go_wp2_with (at_builtin; refine app1at rfl _ _ rfl _ _ _ _ _ _ _ _ rfl rfl (by simp) HOj.out (by omega) (by omega) ?_; intro A' c' w5 hown' hlt' hgr hat)
        have hne' : ∀ g, A' = some ⟨g, 0, none⟩ → g ≠ y2.heap.size := by
          intro g e
          rcases hat g e with h | h
          · exact hne g (own_row HOj.out h)
          · omega
        have HBl5 := Lib.hid (HBlj.out.grown hgr (fun e => hne _ (own_row HOj.out e.symm) rfl))
        have HB5 := Lib.hid (HBj.out.grown hgr (by omega) (fun k e => (HOj.out.ge (own_row HOj.out e)).1))
        have HS5 := Lib.hid (H.out.below HB5.out)
        have HO5 := Lib.hid hown'
        clear hown' hgr hat
        go_wp2_with fail
        refine (s_hottest w5 B A n c _ n ls _ HS5.out Hall.out HBl5.out (by rw [List.length_set]; exact hSn) h6).mono ?_
        rintro e w6 ⟨v6, rfl, hhb6, hb6⟩
        have hz6 := hb6.size
        have HB6 := Lib.hid (HB5.out.trans (hb6.mono (by have := HB5.out.size; omega)))
        have HO6 := Lib.hid (HO5.out.below hb6)
        have HBl6 := Lib.hid (HBl5.out.below hb6 HBl5.out.lt)
        have Hh6 := Lib.hid hhb6
        clear hb6 hhb6
        go_wp2_with fail
        go_roundg (drk (S.set an true) + 1)
        case measure => omega
        case rel => exact ⟨_, _, A', m + 1, c', v6, rfl, by omega, by omega, rfl, rfl, Htk2.out, Hh6.out, HO6.out, hne', HBl6.out, HB6.out⟩
  · have hv' : (decide (n ≤ 6) && Sw.all ls) = false := by simpa using hv
    rw [hv']
    have Hv := Lib.hid hv'
    clear hv hv'
    go_wp2_with fail
    go_ret
    exact ⟨_, _, _, [], rfl, ⟨fun hf => absurd (Hv.out.symm.trans hf) (by decide), fun _ => rfl⟩, Own.nil _ _, Hb2.out⟩
end Go.Proofs.Ytjolappndbmmaaa
