/-
  The model's eyes.
-/
import Derived.Test.YtpogjegihhljpaaDoorEyeS
namespace Go.Proofs.YtpogjegihhljpaaDoor
set_option maxRecDepth 100000
open Go.RowKit

def eyeS (s : Int) (cs : List Int) (p x : Int) : Bool := encS s cs p x && holdS s cs p (3 - x)

section
variable (s p : Nat) (x : Int) (w : World) (B : Nat) (A : Option Addr) (n c : Nat) (cs : List Int) (h : Ints w B A n cs) (hB : B ≤ w.heap.size) (h1 : 1 ≤ s) (h2 : s ≤ 7) (hn : n = s * s) (hp : p < s * s) (x1 : 1 ≤ x) (x2 : x ≤ 2)
include h hB h1 h2 hn hp x1 x2

set_option maxHeartbeats 2000000 in
theorem s_isEye : Calls Tryd.prog 68 #[.agg #[.int .i64 (s : Nat), .slice A n c], .int .i64 (p : Nat), .int .i64 x] w fun e w' => e = .returned (.bool (eyeS s cs p x)) ∧ Below w.heap.size w w' := by
  have hb1 : Below w.heap.size w (w.alloc (.cells #[.int .i64 (s : Nat), .slice A n c] 25)) := (Below.refl _ _).alloc (Nat.le_refl _) _
  have H := Lib.hid (h.below hb1 hB)
  have Hb := Lib.hid hb1
  have Bxx := Lib.hid (Bx.new 25 w (s : Nat) (.slice A n c))
  obtain ⟨hd, _⟩ := Bt.dia_bits s p h1 h2 hp
  have hlt := Bt.abv_lt s (Bt.bes s (2 ^ p))
  have hin : ∀ z ∈ Bt.dia s p, ∃ q : Nat, z = (q : Int) ∧ q < n := by
    intro z hz
    rw [← hd, Bt.pts_mem] at hz
    obtain ⟨q, e, _, hq⟩ := hz
    refine ⟨q, e, ?_⟩
    rw [hn]
    rcases Nat.lt_or_ge q (s * s) with h' | h'
    · exact h'
    · rw [Bt.high hlt h'] at hq; cases hq
  obtain ⟨g1, g2, g3⟩ := Bt.sq_nat s h1 h2
  have hpI : (p : Int) < (s : Int) * s := by exact_mod_cast hp
  have hn49 : n ≤ 49 := by omega
  have hn1 : 1 ≤ n := by omega
  obtain ⟨yc, hy⟩ : ∃ yc, yc = 3 - x := ⟨_, rfl⟩
  have cO : ∀ w, Calls Tryd.prog 85 #[.int .i64 x] w fun e w' => e = .returned (.int .i64 yc) ∧ w' = w := fun w => s_opp3 x yc w hy x1 x2
  have cD : ∀ w, Calls Tryd.prog 95 #[.int .i64 (s : Nat), .int .i64 (p : Nat)] w fun e w' => ∃ A n c, e = .returned (.slice A n c) ∧ Own w' w.heap.size A n c (Bt.dia s p) ∧ Below w.heap.size w w' := fun w => s_diagonals s p w (by omega) (by omega) (by omega) hpI
  have cE : ∀ w, Ints w B A n cs → B ≤ w.heap.size → Calls Tryd.prog 69 #[.agg #[.int .i64 (s : Nat), .slice A n c], .int .i64 (p : Nat), .int .i64 x] w fun e w' => e = .returned (.bool (encS s cs p x)) ∧ Below w.heap.size w w' := fun w h hB => s_enclosed s p x w B A n c cs h hB h1 h2 hn hp
  have hln : (Bt.dia s p).length ≤ 4 := Bt.dis_len s p 4
  have he : eyeS s cs p x = (encS s cs p x && ((cntS cs yc (Bt.dia s p) == 0) || ((cntS cs yc (Bt.dia s p) == 1) && ((Bt.dia s p).length == 4)))) := by rw [eyeS, ← hy]; rfl
  obtain ⟨l, hl⟩ : ∃ l, Bt.dia s p = l := ⟨_, rfl⟩
  rw [hl] at hin he cD hln
  have Hin := Lib.hid hin
  have He := Lib.hid he
  have CD := Lib.hid cD
  have CE := Lib.hid cE
  have CO := Lib.hid cO
  have v0 := Bxx.out.cell0
  have v1 := Bxx.out.cell1
  clear hb1 h hn hp g1 g2 g3 hpI hin he cD cE cO hl hd hlt hy
  go_enter Tryd.func68, Tryd.ntmps68
  go_wp2_with fail
  refine (CD.out _).mono ?_
  rintro e y ⟨D, m, d, rfl, ho, hb⟩
  have H2 := Lib.hid (H.out.below hb (by simp; omega))
  have Bx2 := Lib.hid (Bxx.out.below hb (by simp))
  have Hb2 := Lib.hid (Hb.out.trans (hb.mono (by simp)))
  have Hi := Lib.hid ho.ints
  have hlm := ho.1
  have Hlm := Lib.hid hlm
  have hm4 : m ≤ 4 := by omega
  clear hb ho v0 v1 hln hlm
  go_wp2_with fail
  go_loopw [8, 9] (fun v i wr => ∃ (k a : Nat), k ≤ m ∧ v = .int .i64 (a : Nat) ∧ i = .int .i64 (k : Nat) ∧ a ≤ k ∧ cntS cs yc (l.take k) = a ∧ Below y.heap.size y wr) (fun _ i _ => m - (intOf i).toNat)
  case atStart => exact ⟨0, 0, by omega, rfl, rfl, Nat.le_refl _, rfl, Below.refl _ _⟩
  case round =>
    obtain ⟨k, a, hk, rfl, rfl, hak, hok, hbr⟩ := hrel
    have Hbr := Lib.hid hbr
    have Hok := Lib.hid hok
    have HIr := Lib.hid (H2.out.below hbr (by have := Hb2.out.size; omega))
    have Bxr := Lib.hid (Bx2.out.below hbr Bx2.out.lt)
    have HDr := Lib.hid (Hi.out.below hbr (Nat.le_refl _))
    have v0 := Bxr.out.cell0
    have v1 := Bxr.out.cell1
    obtain ⟨b0, o0, rfl, _, hcc⟩ : ∃ b o, A = some ⟨b, o, none⟩ ∧ b < B ∧ ∀ j, j < n → wr.cell? ⟨b, o + j, none⟩ = some (.int .i64 (cs.getD j 0)) := by
      rcases HIr.out.2 with h0 | ⟨b, o, hA, hbB, hc⟩
      · omega
      · exact ⟨b, o, hA, hbB, hc⟩
    have HCC := Lib.hid hcc
    clear hok hcc hbr
    by_cases hkm : k < m
    · rcases HDr.out.2 with h0 | ⟨b1, o1, rfl, _, hc1⟩
      · omega
      · have hkl : k < l.length := by have := Hlm.out; omega
        obtain ⟨q, hq, hqn⟩ := Hin.out (l.getD k 0) (by rw [List.getD_eq_getElem?_getD, List.getElem?_eq_getElem hkl]; exact List.getElem_mem _)
        have ck := hc1 k hkm
        rw [hq] at ck
        have cq := HCC.out q hqn
        have hS := Lib.hid (cntS_succ (cs := cs) (y := yc) hkl)
        rw [hq, Int.toNat_natCast, Hok.out] at hS
        obtain ⟨z, hz⟩ : ∃ z, cs.getD q 0 = z := ⟨_, rfl⟩
        rw [hz] at cq hS
        have hkI : (k : Int) < m := by omega
        have hqI : (q : Int) < n := by omega
        clear hc1 hq hz hkl
        rcases Bool.eq_false_or_eq_true (z == yc) with e | e
        · have HS := Lib.hid (show cntS cs yc (l.take (k + 1)) = a + 1 from hS.out.trans (by rw [e]; rfl))
          clear hS
          go_wp2_with fail
          go_quiet ((first | (go_at_call 85; exact Calls.quiet_of_same (CO.out _)) | (go_at_call 96; exact Calls.quiet_of_same (s_toIntT _))))
          go_wp2_with fail
          go_roundw
          case rel => exact ⟨k + 1, a + 1, by omega, by go_num, by go_num, by omega, HS.out, ⟨Hbr.out.os, Hbr.out.tape, Hbr.out.output, Hbr.out.size, Hbr.out.block⟩⟩
          case measure => simp [intOf] <;> omega
        · have HS := Lib.hid (show cntS cs yc (l.take (k + 1)) = a from hS.out.trans (by rw [e]; rfl))
          clear hS
          go_wp2_with fail
          go_quiet ((first | (go_at_call 85; exact Calls.quiet_of_same (CO.out _)) | (go_at_call 96; exact Calls.quiet_of_same (s_toIntF _))))
          go_wp2_with fail
          go_roundw
          case rel => exact ⟨k + 1, a, by omega, by go_num, by go_num, by omega, HS.out, ⟨Hbr.out.os, Hbr.out.tape, Hbr.out.output, Hbr.out.size, Hbr.out.block⟩⟩
          case measure => simp [intOf] <;> omega
    · have hfull : l.take k = l := List.take_of_length_le (by have := Hlm.out; omega)
      have hf : eyeS s cs p x = (encS s cs p x && (((a : Int) == 0) || (((a : Int) == 1) && ((m : Int) == 4)))) := by
        have e1 := Hok.out
        have e2 := Hlm.out
        rw [hfull] at e1
        rw [He.out, e1, e2]
        congr 1
        rw [Bool.eq_iff_iff]
        simp
        omega
      obtain ⟨b, hbb⟩ : ∃ b, encS s cs p x = b := ⟨_, rfl⟩
      rw [hbb] at hf
      have Hf := Lib.hid hf
      have HBB := Lib.hid hbb
      have Hbw := Lib.hid (Hb2.out.trans (Hbr.out.mono Hb2.out.size))
      clear hfull hf hbb
      go_wp2_with fail
      refine (CE.out _ HIr.out (by have := Hbw.out.size; omega)).mono ?_
      rintro e y2 ⟨rfl, hb⟩
      have Hb3 := Lib.hid (Hbw.out.trans (hb.mono Hbw.out.size))
      rw [HBB.out]
      clear hb v0 v1
      cases b
      · have HS := Lib.hid (Hf.out.trans (Bool.false_and _))
        go_wp2_with fail
        go_ret
        exact ⟨ret_bool HS.out.symm, Hb3.out⟩
      · rcases Bool.eq_false_or_eq_true ((a : Int) == 0) with e | e
        · have HS := Lib.hid (Hf.out.trans (by rw [e, Bool.true_or, Bool.true_and]))
          go_wp2_with fail
          go_ret
          exact ⟨ret_bool HS.out.symm, Hb3.out⟩
        · rcases Bool.eq_false_or_eq_true ((a : Int) == 1) with e' | e'
          · have HS := Lib.hid (Hf.out.trans (show _ = ((m : Int) == 4) by rw [e, e']; rfl))
            go_wp2_with fail
            go_ret
            exact ⟨ret_bool HS.out.symm, Hb3.out⟩
          · have HS := Lib.hid (Hf.out.trans (by rw [e, e', Bool.false_and, Bool.false_or, Bool.and_false]))
            go_wp2_with fail
            go_ret
            exact ⟨ret_bool HS.out.symm, Hb3.out⟩
end
end Go.Proofs.YtpogjegihhljpaaDoor
