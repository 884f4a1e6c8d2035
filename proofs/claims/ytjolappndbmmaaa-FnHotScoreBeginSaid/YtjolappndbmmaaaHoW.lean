/-
  HotScore of the model.
-/
import Derived.Test.YtjolappndbmmaaaHoV
namespace Go.Proofs.Ytjolappndbmmaaa
set_option maxRecDepth 100000
open Go.RowKit

set_option maxRecDepth 100000 in
set_option maxHeartbeats 4000000 in
theorem s_hotScore (w : World) (B : Nat) (A : Option Addr) (n c : Nat) (ls : List (Int × Int)) (left : Bool) (h : Sws w B A n ls) (hn : n ≤ 1048576) :
    Calls Try.prog 37 #[.slice A n c, .bool left] w fun e w' => HsPost ls left n w e w' := by
  have H := Lib.hid h
  have hln := h.1
  clear h
  go_enter Try.func37, Try.ntmps37
  go_wp2_with fail
  refine (s_vsw w B A n c ls H.out hn).mono ?_
  rintro e y ⟨rfl, hb⟩
  rw [Bool.and_comm]
  have HS := Lib.hid (H.out.below hb)
  have Hb := Lib.hid hb
  have hzy := hb.size
  clear hb
  by_cases hv : (decide (n ≤ 6) && Sw.all ls) = true
  · rw [hv]
    have hv2 := hv
    rw [Bool.and_eq_true, decide_eq_true_eq] at hv2
    obtain ⟨h6, hall⟩ := hv2
    have Hv := Lib.hid hv
    have Hall := Lib.hid hall
    clear hv hall
    go_wp2_with fail
    refine (s_hot y B A n c ls HS.out hn).mono ?_
    rintro e y2 ⟨A1, m, c1, d, rfl, hd, ho, hb2⟩
    have hd2 := hd.1 Hv.out
    have hdl := hd2.len
    have hom := ho.1
    obtain rfl : m = n := by omega
    have Hd := Lib.hid hd2
    have Ho1 := Lib.hid (Own.weaken ho (B' := w.heap.size) (by omega))
    have Hb2 := Lib.hid (Hb.out.trans (hb2.mono (by omega)))
    clear hd hd2 ho hb2
    go_wp2_with fail
    go_loopg [6, 8] (m + 1) (fun q v6 v8 wr => ∃ k : Nat, k + q = m + 1 ∧ k ≤ m ∧ v6 = .int .i64 (Ho.part ls left d k) ∧ v8 = .int .i64 (k : Nat) ∧ Own wr w.heap.size A1 m c1 d ∧ Below w.heap.size w wr)
    case atStart => exact ⟨0, by omega, by omega, rfl, rfl, Ho1.out, Hb2.out⟩
    case round =>
      clear Ho1 Hb2
      obtain ⟨k, hk, hkn, rfl, rfl, ho, hb⟩ := hrel
      obtain ⟨wi, rfl⟩ : ∃ wi : World, wi = wr := ⟨_, rfl⟩
      have HO := Lib.hid ho
      have HB9 := Lib.hid hb
      have Hsw := Lib.hid (H.out.below hb)
      clear ho hb
      by_cases hkk : k = m
      · have hlt : ¬ ((k : Nat) : Int) < m := by omega
        subst hkk
        go_wp2_with fail
        go_ret2
        exact ⟨_, _, rfl, ⟨fun _ => ⟨rfl, d, Hd.out, rfl⟩, fun hf => absurd (Hv.out.symm.trans hf) (by decide)⟩, HB9.out⟩
      · have hlt : ((k : Nat) : Int) < m := by omega
        have hk0 : (0 : Int) ≤ (k : Nat) := by omega
        obtain ⟨g, rfl⟩ : ∃ g, A1 = some ⟨g, 0, none⟩ := by
          obtain ⟨g, cap, hvv, _⟩ := World.ownsRow.form HO.out.2 (by omega)
          exact ⟨g, by injection hvv⟩
        obtain ⟨i, hi, him⟩ := Ho.get Hd.out (show k < m by omega)
        have ck : wi.cell? ⟨g, k, none⟩ = some (.int .i64 (i : Nat)) := by
          rw [World.ownsRow.cellAt HO.out.2 k (by omega)]
          simp [List.getElem?_eq_getElem (show k < d.length by omega)]
          rw [List.getD_eq_getElem?_getD, List.getElem?_eq_getElem (show k < d.length by omega)] at hi
          exact hi
        rcases Hsw.out.2 with h0 | ⟨b, o, rfl, hbB, hc⟩
        · omega
        · obtain ⟨c0, c1'⟩ := hc i him
          obtain ⟨⟨l, r⟩, hlr⟩ : ∃ x, ls.getD i (0, 0) = x := ⟨_, rfl⟩
          rw [hlr] at c0 c1'
          simp only at c0 c1'
          have hin : ((i : Nat) : Int) < m := by omega
          have hi0 : (0 : Int) ≤ (i : Nat) := by omega
          obtain ⟨P, hP⟩ : ∃ P, Ho.part ls left d k = P := ⟨_, rfl⟩
          obtain ⟨C, hC⟩ : ∃ C, (if Ho.turn left k = true then l else r) = C := ⟨_, rfl⟩
          have hcnt : Ho.cnt ls (Ho.turn left k) (d.getD k 0) = C := by rw [hi, Ho.cnt, Int.toNat_natCast, hlr]; exact hC
          have hPb := Ho.part_bd (left := left) Hall.out hln Hd.out k (by omega)
          rw [hP] at hPb
          obtain ⟨hp1, hp2⟩ := hPb
          have hcb := Ho.cnt_bd Hall.out (show i < ls.length by omega) (Ho.turn left k)
          rw [← hi, hcnt] at hcb
          obtain ⟨hc1, hc2⟩ := hcb
          have Hnext := Lib.hid (show Ho.part ls left d (k + 1) = P + C by rw [Ho.part, hP, hcnt])
          have hmd : ((k : Nat) : Int).tmod 2 = ((k % 2 : Nat) : Int) := by rw [Int.tmod_eq_emod_of_nonneg (by omega)]; omega
          obtain ⟨z, hz⟩ : ∃ z, k % 2 = z := ⟨_, rfl⟩
          rw [hz] at hmd
          have hz2 : z < 2 := by omega
          have hturn : Ho.turn left k = if z = 0 then left else !left := by rw [Ho.turn, hz]
          rw [hturn] at hC
          rw [hP]
          clear hc hP hcnt hlr hi hz hturn
          rcases (show z = 0 ∨ z = 1 by omega) with rfl | rfl
          · cases left with
            | true =>
              obtain rfl : l = C := by simpa using hC
              go_wp2_with fail
              go_roundg (m - k)
              case measure => omega
              case rel => exact ⟨k + 1, by omega, by omega, by rw [Hnext.out], by go_num, HO.out, HB9.out⟩
            | false =>
              obtain rfl : r = C := by simpa using hC
              go_wp2_with fail
              go_roundg (m - k)
              case measure => omega
              case rel => exact ⟨k + 1, by omega, by omega, by rw [Hnext.out], by go_num, HO.out, HB9.out⟩
          · cases left with
            | true =>
              obtain rfl : r = C := by simpa using hC
              go_wp2_with fail
              go_roundg (m - k)
              case measure => omega
              case rel => exact ⟨k + 1, by omega, by omega, by rw [Hnext.out], by go_num, HO.out, HB9.out⟩
            | false =>
              obtain rfl : l = C := by simpa using hC
              go_wp2_with fail
              go_roundg (m - k)
              case measure => omega
              case rel => exact ⟨k + 1, by omega, by omega, by rw [Hnext.out], by go_num, HO.out, HB9.out⟩
  · have hv' : (decide (n ≤ 6) && Sw.all ls) = false := by simpa using hv
    rw [hv']
    have Hv := Lib.hid hv'
    clear hv hv'
    go_wp2_with fail
    go_ret2
    exact ⟨_, _, rfl, ⟨fun hf => absurd (Hv.out.symm.trans hf) (by decide), fun _ => ⟨rfl, rfl⟩⟩, Hb.out⟩
end Go.Proofs.Ytjolappndbmmaaa
