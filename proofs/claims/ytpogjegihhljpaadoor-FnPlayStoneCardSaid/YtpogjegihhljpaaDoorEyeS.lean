/-
  The model's enclosed points and eyes.
-/
import Derived.Test.YtpogjegihhljpaaDoorEyeP
import Derived.Test.YtpogjegihhljpaaDoorDia
namespace Go.Proofs.YtpogjegihhljpaaDoor
set_option maxRecDepth 100000
open Go.RowKit

theorem nbs_le (s p : Int) : (Pt.nbs s p).length ≤ 4 := by
  unfold Pt.nbs Pt.nbL Pt.nbA Pt.nbB Pt.nbU
  simp only [List.length_append]
  split <;> split <;> split <;> split <;> simp

theorem s_toIntT (w : World) : Calls Tryd.prog 96 #[.bool true] w fun e w' => e = .returned (.int .i64 1) ∧ w' = w := by
  go_enter Tryd.func96, Tryd.ntmps96
  go_wp2_with fail
  go_ret
  exact ⟨rfl, rfl⟩
theorem s_toIntF (w : World) : Calls Tryd.prog 96 #[.bool false] w fun e w' => e = .returned (.int .i64 0) ∧ w' = w := by
  go_enter Tryd.func96, Tryd.ntmps96
  go_wp2_with fail
  go_ret
  exact ⟨rfl, rfl⟩
theorem s_opp3 (c y : Int) (w : World) (h : y = 3 - c) (h1 : 1 ≤ c) (h2 : c ≤ 2) : Calls Tryd.prog 85 #[.int .i64 c] w fun e w' => e = .returned (.int .i64 y) ∧ w' = w := by
  have H := Lib.hid h
  clear h
  go_enter Tryd.func85, Tryd.ntmps85
  go_wp2_with fail
  go_ret
  exact ⟨ret_int H.out.symm, rfl⟩
theorem s_eyeColor (x : Int) (w : World) : Calls Tryd.prog 53 #[.int .i64 x] w fun e w' => e = .returned (.bool (decide (1 ≤ x) && decide (x ≤ 2))) ∧ w = w' := by
  go_enter Tryd.func53, Tryd.ntmps53
  go_wp2_with fail
  refine (s_range _ _ _ _).mono ?_
  rintro e w' ⟨rfl, rfl⟩
  go_wp2_with fail
  go_ret
  exact ⟨rfl, rfl⟩

section
variable (s p : Nat) (x : Int) (w : World) (B : Nat) (A : Option Addr) (n c : Nat) (cs : List Int) (h : Ints w B A n cs) (hB : B ≤ w.heap.size) (h1 : 1 ≤ s) (h2 : s ≤ 7) (hn : n = s * s) (hp : p < s * s)
include h hB h1 h2 hn hp

set_option maxHeartbeats 2000000 in
theorem s_enclosed : Calls Tryd.prog 69 #[.agg #[.int .i64 (s : Nat), .slice A n c], .int .i64 (p : Nat), .int .i64 x] w fun e w' => e = .returned (.bool (encS s cs p x)) ∧ Below w.heap.size w w' := by
  have hb1 : Below w.heap.size w (w.alloc (.cells #[.int .i64 (s : Nat), .slice A n c] 25)) := (Below.refl _ _).alloc (Nat.le_refl _) _
  have H := Lib.hid (h.below hb1 hB)
  have Hb := Lib.hid hb1
  have Bxx := Lib.hid (Bx.new 25 w (s : Nat) (.slice A n c))
  have hs : ((n : Nat) : Int) = (s : Int) * s := by rw [hn]; push_cast; rfl
  have hin := nbs_at (n := n) (by omega) (by omega) hs (p : Int) (by omega) (by omega)
  obtain ⟨g1, g2, g3⟩ := Bt.sq_nat s h1 h2
  have hpI : (p : Int) < (s : Int) * s := by exact_mod_cast hp
  have hp0 : (0 : Int) ≤ (p : Int) := by omega
  have hpn : (p : Int) < (n : Int) := by omega
  have hpn' : p < n := by omega
  have hn49 : n ≤ 49 := by omega
  have hs1 : (1 : Int) ≤ (s : Int) := by omega
  have hs7 : (s : Int) ≤ 7 := by omega
  have he : encS s cs p x = (encA cs x (Pt.nbs s p) && ((cs.getD p 0 == 0) && decide (0 < (Pt.nbs s p).length))) := rfl
  have cN : ∀ w, Calls Tryd.prog 97 #[.int .i64 (s : Nat), .int .i64 (p : Nat)] w fun e w' => ∃ A n c, e = .returned (.slice A n c) ∧ Own w' w.heap.size A n c (Pt.nbs s p) ∧ Below w.heap.size w w' := fun w => s_nbs s p w hs1 hs7 hp0 hpI
  have hln := nbs_le (s : Int) (p : Int)
  obtain ⟨l, hl⟩ : ∃ l, Pt.nbs s p = l := ⟨_, rfl⟩
  rw [hl] at hin he cN hln
  have Hin := Lib.hid hin
  have He := Lib.hid he
  have CN := Lib.hid cN
  have v0 := Bxx.out.cell0
  have v1 := Bxx.out.cell1
  clear hb1 h hn hp hs g1 g2 g3 hpI hin he cN hl hs1 hs7
  go_enter Tryd.func69, Tryd.ntmps69
  go_wp2_with fail
  refine (CN.out _).mono ?_
  rintro e y ⟨D, m, d, rfl, ho, hb⟩
  have H2 := Lib.hid (H.out.below hb (by simp; omega))
  have Bx2 := Lib.hid (Bxx.out.below hb (by simp))
  have Hb2 := Lib.hid (Hb.out.trans (hb.mono (by simp)))
  have Hi := Lib.hid ho.ints
  have hlm := ho.1
  have Hlm := Lib.hid hlm
  have hm4 : m ≤ 4 := by omega
  clear hb ho v0 v1 hln hlm
  go_wp2_with fail
  go_loopw [8] (fun i wr => ∃ k : Nat, k ≤ m ∧ i = .int .i64 (k : Nat) ∧ encA cs x (l.take k) = true ∧ ∃ d, wr = y.drewN d) (fun i _ => m - (intOf i).toNat)
  case atStart => exact ⟨0, by omega, rfl, rfl, 0, rfl⟩
  case round =>
    obtain ⟨k, hk, rfl, hok, dd, rfl⟩ := hrel
    have Hok := Lib.hid hok
    have v0 := Bx2.out.cell0
    have v1 := Bx2.out.cell1
    obtain ⟨b0, o0, rfl, _, hcc⟩ : ∃ b o, A = some ⟨b, o, none⟩ ∧ b < B ∧ ∀ j, j < n → y.cell? ⟨b, o + j, none⟩ = some (.int .i64 (cs.getD j 0)) := by
      rcases H2.out.2 with h0 | ⟨b, o, hA, hbB, hc⟩
      · omega
      · exact ⟨b, o, hA, hbB, hc⟩
    have HCC := Lib.hid hcc
    clear hok hcc
    by_cases hkm : k < m
    · rcases Hi.out.2 with h0 | ⟨b1, o1, rfl, _, hc1⟩
      · omega
      · have hkl : k < l.length := by have := Hlm.out; omega
        obtain ⟨q, hq⟩ : ∃ q : Nat, l.getD k 0 = (q : Int) := by
          have := (Hin.out (l.getD k 0) (by rw [List.getD_eq_getElem?_getD, List.getElem?_eq_getElem hkl]; exact List.getElem_mem _)).1
          exact ⟨(l.getD k 0).toNat, by omega⟩
        have hqn : q < n := by
          have := (Hin.out (l.getD k 0) (by rw [List.getD_eq_getElem?_getD, List.getElem?_eq_getElem hkl]; exact List.getElem_mem _)).2
          omega
        have ck := hc1 k hkm
        rw [hq] at ck
        have cq := HCC.out q hqn
        have hS := Lib.hid (encA_succ (cs := cs) (x := x) hkl)
        have hBd := Lib.hid (encA_bad (cs := cs) (x := x) hkl)
        rw [hq, Int.toNat_natCast] at hS hBd
        obtain ⟨z, hz⟩ : ∃ z, cs.getD q 0 = z := ⟨_, rfl⟩
        rw [hz] at cq hS hBd
        have hkI : (k : Int) < m := by omega
        have hqI : (q : Int) < n := by omega
        clear hc1 hq hz hkl
        rcases Bool.eq_false_or_eq_true (z == x) with e | e
        · have e' : (z != x) = false := by rw [bne, e]; rfl
          have HS := Lib.hid (hS.out.trans (by rw [Hok.out, e, Bool.true_and]))
          clear hS hBd e
          go_wp2_with fail
          go_quiet (fail)
          go_wp2_with fail
          go_roundw
          case rel => exact ⟨k + 1, by omega, by go_num, HS.out, _, rfl⟩
          case measure => (simp [intOf] <;> omega)
        · have e' : (z != x) = true := by rw [bne, e]; rfl
          have HS := Lib.hid (show encS s cs p x = false by rw [He.out, hBd.out e]; rfl)
          clear hS hBd e
          go_wp2_with fail
          go_quiet (fail)
          go_wp2_with fail
          go_ret
          exact ⟨ret_bool HS.out.symm, Hb2.out.os, Hb2.out.tape, Hb2.out.output, Hb2.out.size, Hb2.out.block⟩
    · have hfull : l.take k = l := List.take_of_length_le (by have := Hlm.out; omega)
      have cp := HCC.out p hpn'
      have hf : encS s cs p x = ((cs.getD p 0 == 0) && decide (0 < m)) := by
        have := Hok.out
        rw [hfull] at this
        rw [He.out, this, Bool.true_and]
        congr 1
        exact decide_eq_decide.2 (by have := Hlm.out; omega)
      obtain ⟨z, hz⟩ : ∃ z, cs.getD p 0 = z := ⟨_, rfl⟩
      rw [hz] at cp hf
      have Hf := Lib.hid hf
      clear hfull hf hz
      rcases Bool.eq_false_or_eq_true (z == 0) with e | e
      · have HS := Lib.hid (Hf.out.trans (by rw [e, Bool.true_and]))
        go_wp2_with fail
        go_ret
        exact ⟨ret_bool HS.out.symm, Hb2.out.os, Hb2.out.tape, Hb2.out.output, Hb2.out.size, Hb2.out.block⟩
      · have HS := Lib.hid (Hf.out.trans (by rw [e, Bool.false_and]))
        go_wp2_with fail
        go_ret
        exact ⟨ret_bool HS.out.symm, Hb2.out.os, Hb2.out.tape, Hb2.out.output, Hb2.out.size, Hb2.out.block⟩
end
end Go.Proofs.YtpogjegihhljpaaDoor
