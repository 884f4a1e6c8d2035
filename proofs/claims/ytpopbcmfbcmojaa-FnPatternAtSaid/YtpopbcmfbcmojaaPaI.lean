/-
  The program's pattern around a point.
-/
import Derived.Test.YtpopbcmfbcmojaaPaQ
import Derived.Test.YtpopbcmfbcmojaaPkL
import Derived.Test.YtpopbcmfbcmojaaRows2
import Derived.Deep.QuietTactic
import Derived.Deep.RegionWith
import Derived.Deep.DeepCutAuto
namespace Go.Proofs.Ytpopbcmfbcmojaa
set_option maxRecDepth 100000
open Go.RowKit

/-- The digit at a place. -/
def Pa.dgt (s : Int) (cs : List Int) (r c : Int) : Int := if (0 ≤ r ∧ r ≤ s - 1) ∧ (0 ≤ c ∧ c ≤ s - 1) then cs.getD (r * s + c).toNat 0 else 3
theorem Pa.dg_dgt (s : Int) (cs : List Int) (p i : Int) : Pa.dg s cs p i = Pa.dgt s cs (Pa.row s p i) (Pa.col s p i) := by
  unfold Pa.dg Pa.dgt
  cases h : Pa.inB s p i with
  | true => rw [if_pos rfl, if_pos (Pa.inB_iff.1 h)]
  | false =>
    rw [if_neg (by decide), if_neg]
    intro h2
    rw [Pa.inB_iff.2 h2] at h
    cases h
set_option maxRecDepth 100000 in
set_option maxHeartbeats 4000000 in
theorem i_digit (s r c : Int) (w : World) (B : Nat) (A : Option Addr) (n cp : Nat) (cs : List Int) (h : Ints w B A n cs) (hB : B ≤ w.heap.size) (hv : Bd.okB s cs = true) :
    Calls Try.prog 82 #[.agg #[.int .i64 s, .slice A n cp], .agg #[.int .i64 r, .int .i64 c]] w fun e w' => e = .returned (.int .i64 (Pa.dgt s cs r c)) ∧ Below w.heap.size w w' := by
  obtain ⟨h1, h2, hl, _⟩ := (Bd.okB_iff s cs).1 hv
  have hsq := Pt.sq_bd s h1 h2
  have hn : (n : Int) = s * s := by rw [← hl, h.1]
  have hn49 : n ≤ 49 := by omega
  obtain ⟨b, o, rfl, hbB, hc⟩ : ∃ b o, A = some ⟨b, o, none⟩ ∧ b < B ∧ ∀ j, j < n → w.cell? ⟨b, o + j, none⟩ = some (.int .i64 (cs.getD j 0)) := by
    rcases h.2 with h | h
    · omega
    · exact h
  have Hc := Lib.hid hc
  have Hn := Lib.hid hn
  clear h hc hl hn hv
  obtain ⟨y1, hy1, hb1, z1, z2⟩ := new_box w (.cells #[.int .i64 s, .slice (some ⟨b, o, none⟩) n cp] 25)
  have X1 := Lib.hid (show Bx 25 y1 w.heap.size s (.slice (some ⟨b, o, none⟩) n cp) by rw [hy1]; exact Bx.new _ _ _ _)
  obtain ⟨y2, hy2, hb2, z3, z4⟩ := new_box y1 (.cells #[.int .i64 r, .int .i64 c] 64)
  have X2 := Lib.hid (show Bx 64 y2 y1.heap.size r (.int .i64 c) by rw [hy2]; exact Bx.new _ _ _ _)
  have X1 := Lib.hid (X1.out.below hb2 X1.out.lt)
  have HB := Lib.hid (hb1.trans (hb2.mono (by omega)))
  have e1 : y1.heap.size = w.heap.size + 1 := by omega
  rw [e1] at X2
  have Hy : Hid ((w.alloc (.cells #[.int .i64 s, .slice (some ⟨b, o, none⟩) n cp] 25)).alloc (.cells #[.int .i64 r, .int .i64 c] 64) = y2) := Lib.hid (by rw [hy2, hy1])
  clear hy1 hy2 hb1 hb2 z1 z2 z3 z4 e1
  by_cases hin : (0 ≤ r ∧ r ≤ s - 1) ∧ (0 ≤ c ∧ c ≤ s - 1)
  · have hd : Pa.dgt s cs r c = cs.getD (r * s + c).toNat 0 := by unfold Pa.dgt; rw [if_pos hin]
    obtain ⟨⟨a1, a2⟩, a3, a4⟩ := hin
    obtain ⟨l1, l2, l3, l4⟩ := Pt.lin_bd s r c h1 h2 a1 a2 a3 a4
    have q1 : ¬ r < 0 := by omega
    have q2 : ¬ s ≤ r := by omega
    have q3 : ¬ c < 0 := by omega
    have q4 : ¬ s ≤ c := by omega
    obtain ⟨j, hj⟩ := Int.eq_ofNat_of_zero_le l3
    have hjn : j < n := by have := Hn.out; omega
    have hjn' : ((j : Nat) : Int) < n := by omega
    have hj0 : (0 : Int) ≤ (j : Nat) := by omega
    have cj := HB.out.cell (p := ⟨b, o + j, none⟩) (by show b < _; omega) |>.trans (Hc.out j hjn)
    rw [hj, Int.toNat_natCast] at hd
    obtain ⟨d, hdd⟩ : ∃ d, cs.getD j 0 = d := ⟨_, rfl⟩
    rw [hdd] at hd cj
    have Hd := Lib.hid hd
    have Hj := Lib.hid hj
    clear hd hdd hj l3 l4
    go_enter Try.func82, Try.ntmps82
    go_upto_region 1 with (fail)
    rw [Hy.out]
    have u0 := X1.out.cell0
    have u1 := X1.out.cell1
    have ul := X1.out.lt
    have v0 := X2.out.cell0
    have v1 := X2.out.cell1
    have vl := X2.out.lt
    go_upto_region 3 with (fail)
    go_region_with (first | (go_at_call 58; refine (i_pointOn s r c _ h1 h2 a1 a2 a3 a4).mono ?_; rintro e ya ⟨rfl, hb⟩; rw [Hj.out]; have HY : Hid (Below y2.heap.size y2 ya) := Lib.hid ⟨hb.os, hb.tape, hb.output, hb.size, hb.block⟩; have cj2 := (HY.out.cell (p := ⟨b, o + j, none⟩) (by show b < y2.heap.size; have := HB.out.size; omega)).trans cj; have u0 := (X1.out.below HY.out ul).cell0; have u1 := (X1.out.below HY.out ul).cell1; have ul := (X1.out.below HY.out ul).lt; have v0 := (X2.out.below HY.out vl).cell0; have v1 := (X2.out.below HY.out vl).cell1; have vl := (X2.out.below HY.out vl).lt; clear hb))
    all_goals go_wp2_with fail
    all_goals go_ret
    all_goals exact ⟨ret_int Hd.out.symm, HB.out.trans (HY.out.mono HB.out.size)⟩
  · have hd : Pa.dgt s cs r c = 3 := by unfold Pa.dgt; rw [if_neg hin]
    have Hd := Lib.hid hd
    have u0 := X1.out.cell0
    have u1 := X1.out.cell1
    have ul := X1.out.lt
    have v0 := X2.out.cell0
    have v1 := X2.out.cell1
    have vl := X2.out.lt
    by_cases q1 : r < 0
    · clear hin hd
      go_enter Try.func82, Try.ntmps82
      go_upto_region 1 with (fail)
      rw [Hy.out]
      go_wp2_with fail
      go_ret
      exact ⟨ret_int Hd.out.symm, HB.out⟩
    · by_cases q2 : s ≤ r
      · clear hin hd
        go_enter Try.func82, Try.ntmps82
        go_upto_region 1 with (fail)
        rw [Hy.out]
        go_wp2_with fail
        go_ret
        exact ⟨ret_int Hd.out.symm, HB.out⟩
      · by_cases q3 : c < 0
        · clear hin hd
          go_enter Try.func82, Try.ntmps82
          go_upto_region 1 with (fail)
          rw [Hy.out]
          go_wp2_with fail
          go_ret
          exact ⟨ret_int Hd.out.symm, HB.out⟩
        · have q4 : s ≤ c := by omega
          clear hin hd
          go_enter Try.func82, Try.ntmps82
          go_upto_region 1 with (fail)
          rw [Hy.out]
          go_wp2_with fail
          go_ret
          exact ⟨ret_int Hd.out.symm, HB.out⟩
end Go.Proofs.Ytpopbcmfbcmojaa
