/-
  The point with a name, in both packages.
-/
import Derived.Test.YtcloolldnjhljaaDoorPnI
import Derived.LoopTactic
import Derived.Laws.StructEq
namespace Go.Proofs.YtcloolldnjhljaaDoor
set_option maxRecDepth 100000
open Go.RowKit

def inB (s x : Int) : Bool := decide (0 ≤ x) && decide (x ≤ s - 1)
/-- What ParsePoint answers. -/
def ppL (s : Int) : List UInt8 → Int
  | [x, y] => if inB s ((x.toNat : Int) - 65) && inB s ((y.toNat : Int) - 49) then ((y.toNat : Int) - 49) * s + ((x.toNat : Int) - 65) else -1
  | _ => -1
def pp (s : Int) (t : ByteArray) : Int := if Pt.okS s then ppL s t.data.toList else -1

theorem ba_eq {a b : ByteArray} (h : a.data.toList = b.data.toList) : a = b := by
  apply ByteArray.ext
  apply Array.ext'
  exact h
theorem str_beq {a b : ByteArray} : (a.toList == b.toList) = true ↔ a = b := by
  rw [beq_iff_eq, ByteArray.toList_eq, ByteArray.toList_eq]
  exact ⟨ba_eq, fun h => by rw [h]⟩

theorem pp_nm {s p : Int} (hp : Pt.okP s p = true) : pp s (nm s p) = p := by
  obtain ⟨h1, h2, h3, h4⟩ := (Pt.okP_iff s p).1 hp
  obtain ⟨d1, d2, d3, d4, d5⟩ := Pt.dm s p h1 h2 h3 h4
  have hs : Pt.okS s = true := (Pt.okS_iff s).2 ⟨h1, h2⟩
  have e1 : (UInt8.ofNat (65 + p % s).toNat).toNat = (65 + p % s).toNat := by simp; omega
  have e2 : (UInt8.ofNat (49 + p / s).toNat).toNat = (49 + p / s).toNat := by simp; omega
  have hl : (nm s p).data.toList = [UInt8.ofNat (65 + p % s).toNat, UInt8.ofNat (49 + p / s).toNat] := by rw [nm, if_pos hp]; rfl
  rw [pp, if_pos hs, hl, ppL, e1, e2]
  have c1 : (((65 + p % s).toNat : Nat) : Int) - 65 = p % s := by omega
  have c2 : (((49 + p / s).toNat : Nat) : Int) - 49 = p / s := by omega
  rw [c1, c2]
  have b1 : inB s (p % s) = true := by simp [inB]; omega
  have b2 : inB s (p / s) = true := by simp [inB]; omega
  rw [b1, b2]
  exact d5
theorem pp_yes {s : Int} {t : ByteArray} (h : pp s t ≠ -1) : Pt.okP s (pp s t) = true ∧ nm s (pp s t) = t := by
  unfold pp at h ⊢
  by_cases hs : Pt.okS s = true
  · rw [if_pos hs] at h ⊢
    obtain ⟨h1, h2⟩ := (Pt.okS_iff s).1 hs
    generalize hL : t.data.toList = L at h ⊢
    match L, h, hL with
    | [x, y], h, hL =>
      rw [ppL] at h ⊢
      by_cases hb : (inB s ((x.toNat : Int) - 65) && inB s ((y.toNat : Int) - 49)) = true
      · rw [if_pos hb] at h ⊢
        simp only [inB, Bool.and_eq_true, decide_eq_true_eq] at hb
        obtain ⟨⟨c1, c2⟩, r1, r2⟩ := hb
        obtain ⟨c, hc⟩ : ∃ c, (x.toNat : Int) - 65 = c := ⟨_, rfl⟩
        obtain ⟨r, hr⟩ : ∃ r, (y.toNat : Int) - 49 = r := ⟨_, rfl⟩
        rw [hc] at c1 c2 ⊢
        rw [hr] at r1 r2 ⊢
        have hl := Pt.lin_bd s r c h1 h2 r1 r2 c1 c2
        have hp : Pt.okP s (r * s + c) = true := (Pt.okP_iff _ _).2 ⟨h1, h2, hl.2.2.1, hl.2.2.2⟩
        have hdm : (r * s + c) / s = r ∧ (r * s + c) % s = c := by
          have : s = 1 ∨ s = 2 ∨ s = 3 ∨ s = 4 ∨ s = 5 ∨ s = 6 ∨ s = 7 := by omega
          rcases this with rfl | rfl | rfl | rfl | rfl | rfl | rfl <;> omega
        refine ⟨hp, ba_eq ?_⟩
        rw [nm, if_pos hp, hdm.1, hdm.2, hL]
        show [UInt8.ofNat (65 + c).toNat, UInt8.ofNat (49 + r).toNat] = [x, y]
        have e1 : (65 + c).toNat = x.toNat := by omega
        have e2 : (49 + r).toNat = y.toNat := by omega
        rw [e1, e2]
        simp
      · rw [if_neg hb] at h; exact absurd rfl h
    | [], h, _ => exact absurd rfl h
    | [_], h, _ => exact absurd rfl h
    | _ :: _ :: _ :: _, h, _ => exact absurd rfl h
  · rw [if_neg hs] at h; exact absurd rfl h
theorem pp_at {s p : Int} {t : ByteArray} (hp : Pt.okP s p = true) (h : nm s p = t) : pp s t = p := by rw [← h]; exact pp_nm hp
theorem pp_no {s : Int} {t : ByteArray} (h : ∀ p, Pt.okP s p = true → nm s p ≠ t) : pp s t = -1 := by
  rcases Classical.em (pp s t = -1) with e | e
  · exact e
  · obtain ⟨a, b⟩ := pp_yes e
    exact absurd b (h _ a)

set_option maxHeartbeats 1000000 in
theorem i_PP (s : Int) (t : ByteArray) (w : World) :
    Calls Tryd.prog 25 #[.int .i64 s, .string t] w fun e w' => e = .returned (.int .i64 (pp s t)) ∧ Below w.heap.size w w' := by
  by_cases hs : Pt.okS s = true
  · obtain ⟨h1, h2⟩ := (Pt.okS_iff s).1 hs
    have hb49 := Pt.sq_bd s h1 h2
    have HS := Lib.hid hs
    clear hs
    go_enter Tryd.func25, Tryd.ntmps25
    go_wp2_with fail
    refine (i_size _ _).mono ?_
    rintro e w' ⟨rfl, rfl⟩
    rw [HS.out]
    go_wp2_with fail
    go_loopw [12] (fun i wr => ∃ k : Nat, (k : Int) ≤ s * s ∧ i = .int .i64 (k : Nat) ∧ (∀ j : Nat, j < k → nm s j ≠ t) ∧ Below w.heap.size w wr) (fun i _ => (s * s).toNat - (intOf i).toNat)
    case atStart => exact ⟨0, by omega, rfl, fun j hj => absurd hj (Nat.not_lt_zero _), Below.refl _ _⟩
    case round =>
      obtain ⟨k, hk, rfl, hne, hb⟩ := hrel
      have Hne := Lib.hid hne
      have Hb := Lib.hid hb
      clear hne hb
      by_cases hlt : (k : Int) < s * s
      · have hp : Pt.okP s k = true := (Pt.okP_iff _ _).2 ⟨h1, h2, by omega, hlt⟩
        have HP := Lib.hid hp
        clear hp
        rcases Bool.eq_false_or_eq_true ((nm s k).toList == t.toList) with hq | hq
        · have Hq := Lib.hid (str_beq.1 hq)
          go_wp2_with fail
          refine (i_PN _ _ _).mono ?_
          rintro e w2 ⟨rfl, hb⟩
          have Hb := Lib.hid (Hb.out.trans (hb.mono Hb.out.size))
          clear hb
          go_wp2_with fail
          go_ret
          exact ⟨ret_int (pp_at HP.out Hq.out).symm, Hb.out⟩
        · have Hq : Hid (nm s k ≠ t) := Lib.hid (fun e => by rw [str_beq.2 e] at hq; cases hq)
          go_wp2_with fail
          refine (i_PN _ _ _).mono ?_
          rintro e w2 ⟨rfl, hb⟩
          have Hb := Lib.hid (Hb.out.trans (hb.mono Hb.out.size))
          clear hb
          go_wp2_with fail
          go_roundw
          case rel => exact ⟨k + 1, by omega, by go_num, fun j hj => by
            by_cases e : j = k
            · subst e; exact Hq.out
            · exact Hne.out j (by omega), Hb.out⟩
          case measure => simp [intOf]; omega
      · have hfin : pp s t = -1 := pp_no fun p hp => by
          obtain ⟨_, _, p1, p2⟩ := (Pt.okP_iff _ _).1 hp
          obtain ⟨j, rfl⟩ := Int.eq_ofNat_of_zero_le p1
          exact Hne.out j (by omega)
        have HF := Lib.hid hfin
        clear hfin
        go_wp2_with fail
        go_ret
        exact ⟨ret_int HF.out.symm, Hb.out⟩
  · have hs' : Pt.okS s = false := by simpa using hs
    have hfin : pp s t = -1 := by rw [pp, if_neg hs]
    have HF := Lib.hid hfin
    have HS := Lib.hid hs'
    clear hs hs' hfin
    go_enter Tryd.func25, Tryd.ntmps25
    go_wp2_with fail
    refine (i_size _ _).mono ?_
    rintro e w' ⟨rfl, rfl⟩
    rw [HS.out]
    go_wp2_with fail
    go_ret
    exact ⟨ret_int HF.out.symm, Below.refl _ _⟩
end Go.Proofs.YtcloolldnjhljaaDoor
