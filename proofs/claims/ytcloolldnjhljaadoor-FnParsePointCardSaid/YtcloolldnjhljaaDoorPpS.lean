/-
  The model's point with a name.
-/
import Derived.Test.YtcloolldnjhljaaDoorPp
namespace Go.Proofs.YtcloolldnjhljaaDoor
set_option maxRecDepth 100000
open Go.RowKit

theorem two_of {t : ByteArray} (h : t.size = 2) : ∃ x y, t = ⟨#[x, y]⟩ := by
  obtain ⟨⟨l⟩⟩ := t
  match l, h with
  | [x, y], _ => exact ⟨x, y, rfl⟩
theorem ppL_no {s : Int} {l : List UInt8} (h : l.length ≠ 2) : ppL s l = -1 := by
  match l, h with
  | [], _ => rfl
  | [_], _ => rfl
  | [_, _], h => exact absurd rfl h
  | _ :: _ :: _ :: _, _ => rfl

set_option maxHeartbeats 1000000 in
theorem s_PP (s : Int) (t : ByteArray) (w : World) (ht : t.size ≤ 9223372036854775807) :
    Calls Tryd.prog 24 #[.int .i64 s, .string t] w fun e w' => e = .returned (.int .i64 (pp s t)) ∧ w = w' := by
  by_cases hs : Pt.okS s = true
  · obtain ⟨h1, h2⟩ := (Pt.okS_iff s).1 hs
    have hb49 := Pt.sq_bd s h1 h2
    by_cases h2t : t.size = 2
    · obtain ⟨x, y, rfl⟩ := two_of h2t
      have hx : x.toNat < 256 := x.toNat_lt
      have hy : y.toNat < 256 := y.toNat_lt
      obtain ⟨X, hX⟩ : ∃ X, x.toNat = X := ⟨_, rfl⟩
      obtain ⟨Y, hY⟩ : ∃ Y, y.toNat = Y := ⟨_, rfl⟩
      have i0 : ((⟨#[x, y]⟩ : ByteArray)[0]'(by decide : 0 < 2)).toNat = X := hX
      have i1 : ((⟨#[x, y]⟩ : ByteArray)[1]'(by decide : 1 < 2)).toNat = Y := hY
      obtain ⟨c, hc⟩ : ∃ c, (X : Int) - 65 = c := ⟨_, rfl⟩
      obtain ⟨r, hr⟩ : ∃ r, (Y : Int) - 49 = r := ⟨_, rfl⟩
      have hfin : pp s ⟨#[x, y]⟩ = if inB s c && inB s r then r * s + c else -1 := by rw [pp, if_pos hs, ← hc, ← hr, ← hX, ← hY]; rfl
      rw [hX] at hx
      rw [hY] at hy
      clear hX hY
      have HF := Lib.hid hfin
      have HS := Lib.hid hs
      have hc1 : -65 ≤ c := by omega
      have hc2 : c ≤ 200 := by omega
      have hr1 : -65 ≤ r := by omega
      have hr2 : r ≤ 210 := by omega
      clear hs hfin h2t ht
      by_cases hcb : inB s c = true
      · have hcc : 0 ≤ c ∧ c ≤ s - 1 := by simpa [inB] using hcb
        have HCb : Hid ((decide (0 ≤ c) && decide (c ≤ s - 1)) = true) := Lib.hid hcb
        by_cases hrb : inB s r = true
        · have hrr : 0 ≤ r ∧ r ≤ s - 1 := by simpa [inB] using hrb
          have HRb : Hid ((decide (0 ≤ r) && decide (r ≤ s - 1)) = true) := Lib.hid hrb
          have HF : Hid (pp s ⟨#[x, y]⟩ = r * s + c) := Lib.hid (by rw [HF.out, hcb, hrb]; rfl)
          obtain ⟨l1, l2, l3, l4⟩ := Pt.lin_bd s r c h1 h2 hrr.1 hrr.2 hcc.1 hcc.2
          clear hcb hrb hcc hrr
          go_enter Tryd.func24, Tryd.ntmps24
          go_wp2_with fail
          refine (s_size _ _).mono ?_
          rintro e w' ⟨rfl, rfl⟩
          rw [HS.out]
          go_wp2_with fail
          refine (s_range _ _ _ _).mono ?_
          rintro e w' ⟨rfl, rfl⟩
          rw [HCb.out]
          go_wp2_with fail
          refine (s_range _ _ _ _).mono ?_
          rintro e w' ⟨rfl, rfl⟩
          rw [HRb.out]
          go_wp2_with fail
          go_ret
          exact ⟨ret_int HF.out.symm, rfl⟩
        · have hrb' : inB s r = false := by simpa using hrb
          have HRb : Hid ((decide (0 ≤ r) && decide (r ≤ s - 1)) = false) := Lib.hid hrb'
          have HF : Hid (pp s ⟨#[x, y]⟩ = -1) := Lib.hid (by rw [HF.out, hcb, hrb']; rfl)
          clear hcb hrb hcc hrb'
          go_enter Tryd.func24, Tryd.ntmps24
          go_wp2_with fail
          refine (s_size _ _).mono ?_
          rintro e w' ⟨rfl, rfl⟩
          rw [HS.out]
          go_wp2_with fail
          refine (s_range _ _ _ _).mono ?_
          rintro e w' ⟨rfl, rfl⟩
          rw [HCb.out]
          go_wp2_with fail
          refine (s_range _ _ _ _).mono ?_
          rintro e w' ⟨rfl, rfl⟩
          rw [HRb.out]
          go_wp2_with fail
          go_ret
          exact ⟨ret_int HF.out.symm, rfl⟩
      · have hcb' : inB s c = false := by simpa using hcb
        have HCb : Hid ((decide (0 ≤ c) && decide (c ≤ s - 1)) = false) := Lib.hid hcb'
        have HF : Hid (pp s ⟨#[x, y]⟩ = -1) := Lib.hid (by rw [HF.out, hcb']; rfl)
        clear hcb hcb'
        go_enter Tryd.func24, Tryd.ntmps24
        go_wp2_with fail
        refine (s_size _ _).mono ?_
        rintro e w' ⟨rfl, rfl⟩
        rw [HS.out]
        go_wp2_with fail
        refine (s_range _ _ _ _).mono ?_
        rintro e w' ⟨rfl, rfl⟩
        rw [HCb.out]
        go_wp2_with fail
        go_ret
        exact ⟨ret_int HF.out.symm, rfl⟩
    · have hfin : pp s t = -1 := by rw [pp, if_pos hs]; exact ppL_no h2t
      have HF := Lib.hid hfin
      have HS := Lib.hid hs
      have hb : ((t.size : Int) != 2) = true := by simp; omega
      clear hs hfin h2t
      go_enter Tryd.func24, Tryd.ntmps24
      go_wp2_with fail
      refine (s_size _ _).mono ?_
      rintro e w' ⟨rfl, rfl⟩
      rw [HS.out]
      go_wp2_with fail
      go_ret
      exact ⟨ret_int HF.out.symm, rfl⟩
  · have hs' : Pt.okS s = false := by simpa using hs
    have hfin : pp s t = -1 := by rw [pp, if_neg hs]
    have HF := Lib.hid hfin
    have HS := Lib.hid hs'
    clear hs hs' hfin
    go_enter Tryd.func24, Tryd.ntmps24
    go_wp2_with fail
    refine (s_size _ _).mono ?_
    rintro e w' ⟨rfl, rfl⟩
    rw [HS.out]
    go_wp2_with fail
    go_ret
    exact ⟨ret_int HF.out.symm, rfl⟩
end Go.Proofs.YtcloolldnjhljaaDoor
