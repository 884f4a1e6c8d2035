/-
  The program's eyes of a color.
-/
import Derived.Test.YtpogjegihhljpaaDoorEyeC
namespace Go.Proofs.YtpogjegihhljpaaDoor
set_option maxRecDepth 100000
open Go.RowKit

theorem encM_lt {s E M O : Nat} (hE : E < 2 ^ (s * s)) : encM s E M O < 2 ^ (s * s) := Nat.lt_of_le_of_lt Nat.and_le_left (Nat.lt_of_le_of_lt Nat.and_le_left hE)

/-- The eyes among the enclosed points Y. -/
def IsEy (s Y O m : Nat) : Prop := ∀ q, m.testBit q = (Y.testBit q && holdB s q O)
theorem IsEy.one {s Y O m m' : Nat} (h : IsEy s Y O m) (h' : IsEy s Y O m') : m = m' := Nat.eq_of_testBit_eq fun q => (h q).trans (h' q).symm
def EyP (s O : Nat) (l : List Int) (m : Nat) : Prop := ∀ q : Nat, m.testBit q = (decide ((q : Int) ∈ l) && holdB s q O)
theorem EyP.yes {s O m q : Nat} {l : List Int} {k : Nat} (h : EyP s O (l.take k) m) (hk : k < l.length) (hq : l.getD k 0 = (q : Int)) (hh : holdB s q O = true) : EyP s O (l.take (k + 1)) (m ||| 2 ^ q) := by
  intro z
  have ht : l.take (k + 1) = l.take k ++ [(q : Int)] := by
    rw [List.take_succ_eq_append_getElem hk]
    congr 2
    rw [List.getD_eq_getElem?_getD, List.getElem?_eq_getElem hk] at hq
    exact hq
  rw [Nat.testBit_or, h z, Nat.testBit_two_pow, ht]
  by_cases e : q = z
  · subst e
    simp [hh]
  · have e2 : ((z : Int) = (q : Int)) = False := by simp; omega
    simp [e, e2]
theorem EyP.no {s O m q : Nat} {l : List Int} {k : Nat} (h : EyP s O (l.take k) m) (hk : k < l.length) (hq : l.getD k 0 = (q : Int)) (hh : holdB s q O = false) : EyP s O (l.take (k + 1)) m := by
  intro z
  have ht : l.take (k + 1) = l.take k ++ [(q : Int)] := by
    rw [List.take_succ_eq_append_getElem hk]
    congr 2
    rw [List.getD_eq_getElem?_getD, List.getElem?_eq_getElem hk] at hq
    exact hq
  rw [h z, ht]
  by_cases e : q = z
  · subst e
    simp [hh]
  · have e2 : ((z : Int) = (q : Int)) = False := by simp; omega
    simp [e2]
theorem EyP.done {s O m Y : Nat} (hY : Y < 2 ^ 64) (h : EyP s O (Bt.pts Y 64) m) : IsEy s Y O m := by
  intro q
  rw [h q]
  congr 1
  rw [Bool.eq_iff_iff, decide_eq_true_eq, Bt.pts_mem]
  constructor
  · rintro ⟨z, hz, _, h2⟩
    have : q = z := by omega
    rw [this]; exact h2
  · intro hb
    refine ⟨q, rfl, ?_, hb⟩
    rcases Nat.lt_or_ge q 64 with h' | h'
    · exact h'
    · rw [Bt.high hY h'] at hb; cases hb

section
variable (s E M O : Nat) (w : World) (ht : Tab w) (h1 : 1 ≤ s) (h2 : s ≤ 7) (hE : E < 2 ^ (s * s)) (hM : M < 2 ^ (s * s)) (hO : O < 2 ^ (s * s))
include ht h1 h2 hE hM hO

set_option maxRecDepth 100000 in
set_option maxHeartbeats 2000000 in
theorem i_eyes1 : Calls Tryd.prog 67 #[.agg #[.int .i64 (s : Nat), .int .u64 (E : Nat), .int .u64 (M : Nat), .int .u64 (O : Nat)], .int .i64 1] w fun e w' => ∃ m : Nat, e = .returned (.tuple #[.int .u64 (m : Nat), .int .u64 ((encM s E M O &&& (18446744073709551615 - m) : Nat) : Int)]) ∧ IsEy s (encM s E M O) O m ∧ Below w.heap.size w w' := by
  have h7 := (Bt.masks s h1 h2).2.2.2.2.2.2
  have hsq := (Bt.sq_nat s h1 h2).2.1
  have cE : ∀ w, Calls Tryd.prog 93 #[.agg #[.int .i64 (s : Nat), .int .u64 (E : Nat), .int .u64 (M : Nat), .int .u64 (O : Nat)], .int .i64 1] w fun e w' => e = .returned (.int .u64 ((encM s E M O : Nat) : Int)) ∧ Below w.heap.size w w' := fun w => i_enclosed1 s E M O w h1 h2 hE hM hO
  have hYl := encM_lt (M := M) (O := O) hE
  obtain ⟨Y, hY⟩ : ∃ Y, encM s E M O = Y := ⟨_, rfl⟩
  rw [hY] at cE hYl ⊢
  have hY64 : Y < 18446744073709551616 := by omega
  obtain ⟨l, hl⟩ : ∃ l, Bt.pts Y 64 = l := ⟨_, rfl⟩
  have cL : ∀ w, Tab w → Calls Tryd.prog 51 #[.int .u64 (Y : Nat)] w fun e w' => ∃ A n c, e = .returned (.slice A n c) ∧ Own w' w.heap.size A n c l ∧ Below w.heap.size w w' := fun w ht => by rw [← hl]; exact i_list Y w ht hY64
  have hpt : ∀ k, k < l.length → ∃ q : Nat, l.getD k 0 = (q : Int) ∧ q < s * s := fun k hk => by
    have hm : l.getD k 0 ∈ Bt.pts Y 64 := by rw [hl, List.getD_eq_getElem?_getD, List.getElem?_eq_getElem hk]; exact List.getElem_mem _
    obtain ⟨q, e1, _, e3⟩ := Bt.pts_mem.1 hm
    refine ⟨q, e1, ?_⟩
    rcases Nat.lt_or_ge q (s * s) with h' | h'
    · exact h'
    · rw [Bt.high hYl h'] at e3; cases e3
  have hll : l.length ≤ 64 := by rw [← hl]; exact Bt.pts_len Y 64
  have HL := Lib.hid hl
  have CE := Lib.hid cE
  have CL := Lib.hid cL
  have Hpt := Lib.hid hpt
  have HY64 := Lib.hid (show Y < 2 ^ 64 by omega)
  have CH : Hid (∀ q w, q < s * s → Calls Tryd.prog 94 #[.agg #[.int .i64 (s : Nat), .int .u64 (E : Nat), .int .u64 (M : Nat), .int .u64 (O : Nat)], .int .i64 (q : Nat), .int .i64 1] w fun e w' => e = .returned (.bool (holdB s q O)) ∧ Below w.heap.size w w') := Lib.hid fun q w hq => i_cornersHold1 s q E M O w h1 h2 hq hO
  have P0 := Lib.hid (Px.new w (s : Nat) E M O)
  have Hb := Lib.hid ((Below.refl w.heap.size w).alloc (Nat.le_refl _) (.cells #[.int .i64 (s : Nat), .int .u64 (E : Nat), .int .u64 (M : Nat), .int .u64 (O : Nat)] 67))
  have HT := Lib.hid (ht.alloc (.cells #[.int .i64 (s : Nat), .int .u64 (E : Nat), .int .u64 (M : Nat), .int .u64 (O : Nat)] 67))
  have c0 := P0.out.c0
  have c1 := P0.out.c1
  have c2 := P0.out.c2
  have c3 := P0.out.c3
  have h764 : 2 ^ (s * s) ≤ 2 ^ 49 := h7
  clear hY hl cE cL hpt hE hM hO ht h7 hY64
  go_enter Tryd.func67, Tryd.ntmps67
  go_wp2_with fail
  refine (CE.out _).mono ?_
  rintro e y ⟨rfl, hb⟩
  have P0 := Lib.hid (P0.out.step hb)
  have Hb := Lib.hid (Hb.out.trans (hb.mono (by simp)))
  have HT := Lib.hid (HT.out.below hb)
  clear hb c0 c1 c2 c3
  go_wp2_with fail
  refine (CL.out _ HT.out).mono ?_
  rintro e y2 ⟨A, n, c, rfl, ho, hb⟩
  have P0 := Lib.hid (P0.out.step hb)
  have Hb := Lib.hid (Hb.out.trans (hb.mono Hb.out.size))
  have HI := Lib.hid ho.ints
  have hln := ho.1
  have Hln := Lib.hid hln
  have hn64 : n ≤ 64 := by omega
  clear hb ho hln hll
  go_wp2_with fail
  go_loopw [7, 16] (fun v i wr => ∃ (k m : Nat), k ≤ n ∧ i = .int .i64 (k : Nat) ∧ v = .int .u64 (m : Nat) ∧ m < 2 ^ (s * s) ∧ EyP s O (l.take k) m ∧ Below y2.heap.size y2 wr) (fun _ i _ => n - (intOf i).toNat)
  case atStart => exact ⟨0, 0, by omega, rfl, rfl, Nat.two_pow_pos _, fun q => by simp, Below.refl _ _⟩
  case round =>
    obtain ⟨k, m, hk, rfl, rfl, hm, hey, hbr⟩ := hrel
    have Q0 := Lib.hid (P0.out.step hbr)
    have HIr := Lib.hid (HI.out.below hbr (Nat.le_refl _))
    have Hey := Lib.hid hey
    have Hbr := Lib.hid hbr
    have Hm := Lib.hid hm
    have c0 := Q0.out.c0
    have c1 := Q0.out.c1
    have c2 := Q0.out.c2
    have c3 := Q0.out.c3
    have hm64 : m < 18446744073709551616 := by omega
    clear hbr hey hm
    by_cases hkn : k < n
    · obtain ⟨q, hq, hqs⟩ := Hpt.out k (by have := Hln.out; omega)
      rcases HIr.out.2 with h0 | ⟨b, o, rfl, hbB, hc⟩
      · omega
      · have ck := hc k hkn
        rw [hq] at ck
        have Hq := Lib.hid hq
        have hkI : (k : Int) < n := by omega
        have hq49 : q < 64 := by omega
        clear hc hq
        rcases Bool.eq_false_or_eq_true (holdB s q O) with hh | hh
        · have HH := Lib.hid hh
          obtain ⟨P, hP⟩ : ∃ P, P = 2 ^ q := ⟨_, rfl⟩
          have hPl : P < 2 ^ (s * s) := by rw [hP]; exact Nat.pow_lt_pow_right (by decide) hqs
          have r1 : bits .or .u64 (m : Int) (P : Int) = ((m ||| P : Nat) : Int) := u64_or_nat _ _ hm64 (by omega)
          have hml := Bt.or_lt Hm.out hPl
          have R1 := Lib.hid r1
          have Hml := Lib.hid hml
          have HP := Lib.hid hP
          clear hh r1 hml hP hPl
          go_wp2_with fail
          refine (CH.out q _ hqs).mono ?_
          rintro e y3 ⟨rfl, hb⟩
          have Hb3 := Lib.hid (Hbr.out.trans (hb.mono Hbr.out.size))
          rw [HH.out]
          clear hb c0 c1 c2 c3 ck
          go_wp2_with fail
          refine (i_onlyN _ q P _ rfl HP.out hq49).mono ?_
          rintro e w' ⟨rfl, rfl⟩
          go_wp2_with fail
          go_roundw
          case rel => exact ⟨k + 1, m ||| P, by omega, by go_num, by rw [R1.out], Hml.out, by rw [HP.out]; exact Hey.out.yes (by have := Hln.out; omega) Hq.out HH.out, Hb3.out⟩
          case measure => simp [intOf]; omega
        · have HH := Lib.hid hh
          clear hh
          go_wp2_with fail
          refine (CH.out q _ hqs).mono ?_
          rintro e y3 ⟨rfl, hb⟩
          have Hb3 := Lib.hid (Hbr.out.trans (hb.mono Hbr.out.size))
          rw [HH.out]
          clear hb c0 c1 c2 c3 ck
          go_wp2_with fail
          go_roundw
          case rel => exact ⟨k + 1, m, by omega, by go_num, rfl, Hm.out, Hey.out.no (by have := Hln.out; omega) Hq.out HH.out, Hb3.out⟩
          case measure => simp [intOf]; omega
    · have hkn' : k = n := by omega
      have hfull : l.take k = l := List.take_of_length_le (by have := Hln.out; omega)
      have hdone : IsEy s Y O m := EyP.done HY64.out (by rw [HL.out, ← hfull]; exact Hey.out)
      have r1 : bits .andNot .u64 (Y : Int) (m : Int) = ((Y &&& (18446744073709551615 - m) : Nat) : Int) := u64_andNot_nat _ _ (by have := HY64.out; omega) hm64
      have Hd := Lib.hid hdone
      have R1 := Lib.hid r1
      have Hf := Lib.hid (Hb.out.trans (Hbr.out.mono Hb.out.size))
      clear hkn' hfull hdone r1
      go_wp2_with fail
      go_ret2
      exact ⟨m, by rw [← R1.out]; rfl, Hd.out, Hf.out⟩

set_option maxRecDepth 100000 in
set_option maxHeartbeats 2000000 in
theorem i_eyes2 : Calls Tryd.prog 67 #[.agg #[.int .i64 (s : Nat), .int .u64 (E : Nat), .int .u64 (O : Nat), .int .u64 (M : Nat)], .int .i64 2] w fun e w' => ∃ m : Nat, e = .returned (.tuple #[.int .u64 (m : Nat), .int .u64 ((encM s E M O &&& (18446744073709551615 - m) : Nat) : Int)]) ∧ IsEy s (encM s E M O) O m ∧ Below w.heap.size w w' := by
  have h7 := (Bt.masks s h1 h2).2.2.2.2.2.2
  have hsq := (Bt.sq_nat s h1 h2).2.1
  have cE : ∀ w, Calls Tryd.prog 93 #[.agg #[.int .i64 (s : Nat), .int .u64 (E : Nat), .int .u64 (O : Nat), .int .u64 (M : Nat)], .int .i64 2] w fun e w' => e = .returned (.int .u64 ((encM s E M O : Nat) : Int)) ∧ Below w.heap.size w w' := fun w => i_enclosed2 s E M O w h1 h2 hE hM hO
  have hYl := encM_lt (M := M) (O := O) hE
  obtain ⟨Y, hY⟩ : ∃ Y, encM s E M O = Y := ⟨_, rfl⟩
  rw [hY] at cE hYl ⊢
  have hY64 : Y < 18446744073709551616 := by omega
  obtain ⟨l, hl⟩ : ∃ l, Bt.pts Y 64 = l := ⟨_, rfl⟩
  have cL : ∀ w, Tab w → Calls Tryd.prog 51 #[.int .u64 (Y : Nat)] w fun e w' => ∃ A n c, e = .returned (.slice A n c) ∧ Own w' w.heap.size A n c l ∧ Below w.heap.size w w' := fun w ht => by rw [← hl]; exact i_list Y w ht hY64
  have hpt : ∀ k, k < l.length → ∃ q : Nat, l.getD k 0 = (q : Int) ∧ q < s * s := fun k hk => by
    have hm : l.getD k 0 ∈ Bt.pts Y 64 := by rw [hl, List.getD_eq_getElem?_getD, List.getElem?_eq_getElem hk]; exact List.getElem_mem _
    obtain ⟨q, e1, _, e3⟩ := Bt.pts_mem.1 hm
    refine ⟨q, e1, ?_⟩
    rcases Nat.lt_or_ge q (s * s) with h' | h'
    · exact h'
    · rw [Bt.high hYl h'] at e3; cases e3
  have hll : l.length ≤ 64 := by rw [← hl]; exact Bt.pts_len Y 64
  have HL := Lib.hid hl
  have CE := Lib.hid cE
  have CL := Lib.hid cL
  have Hpt := Lib.hid hpt
  have HY64 := Lib.hid (show Y < 2 ^ 64 by omega)
  have CH : Hid (∀ q w, q < s * s → Calls Tryd.prog 94 #[.agg #[.int .i64 (s : Nat), .int .u64 (E : Nat), .int .u64 (O : Nat), .int .u64 (M : Nat)], .int .i64 (q : Nat), .int .i64 2] w fun e w' => e = .returned (.bool (holdB s q O)) ∧ Below w.heap.size w w') := Lib.hid fun q w hq => i_cornersHold2 s q E M O w h1 h2 hq hO
  have P0 := Lib.hid (Px.new w (s : Nat) E O M)
  have Hb := Lib.hid ((Below.refl w.heap.size w).alloc (Nat.le_refl _) (.cells #[.int .i64 (s : Nat), .int .u64 (E : Nat), .int .u64 (O : Nat), .int .u64 (M : Nat)] 67))
  have HT := Lib.hid (ht.alloc (.cells #[.int .i64 (s : Nat), .int .u64 (E : Nat), .int .u64 (O : Nat), .int .u64 (M : Nat)] 67))
  have c0 := P0.out.c0
  have c1 := P0.out.c1
  have c2 := P0.out.c2
  have c3 := P0.out.c3
  have h764 : 2 ^ (s * s) ≤ 2 ^ 49 := h7
  clear hY hl cE cL hpt hE hM hO ht h7 hY64
  go_enter Tryd.func67, Tryd.ntmps67
  go_wp2_with fail
  refine (CE.out _).mono ?_
  rintro e y ⟨rfl, hb⟩
  have P0 := Lib.hid (P0.out.step hb)
  have Hb := Lib.hid (Hb.out.trans (hb.mono (by simp)))
  have HT := Lib.hid (HT.out.below hb)
  clear hb c0 c1 c2 c3
  go_wp2_with fail
  refine (CL.out _ HT.out).mono ?_
  rintro e y2 ⟨A, n, c, rfl, ho, hb⟩
  have P0 := Lib.hid (P0.out.step hb)
  have Hb := Lib.hid (Hb.out.trans (hb.mono Hb.out.size))
  have HI := Lib.hid ho.ints
  have hln := ho.1
  have Hln := Lib.hid hln
  have hn64 : n ≤ 64 := by omega
  clear hb ho hln hll
  go_wp2_with fail
  go_loopw [7, 16] (fun v i wr => ∃ (k m : Nat), k ≤ n ∧ i = .int .i64 (k : Nat) ∧ v = .int .u64 (m : Nat) ∧ m < 2 ^ (s * s) ∧ EyP s O (l.take k) m ∧ Below y2.heap.size y2 wr) (fun _ i _ => n - (intOf i).toNat)
  case atStart => exact ⟨0, 0, by omega, rfl, rfl, Nat.two_pow_pos _, fun q => by simp, Below.refl _ _⟩
  case round =>
    obtain ⟨k, m, hk, rfl, rfl, hm, hey, hbr⟩ := hrel
    have Q0 := Lib.hid (P0.out.step hbr)
    have HIr := Lib.hid (HI.out.below hbr (Nat.le_refl _))
    have Hey := Lib.hid hey
    have Hbr := Lib.hid hbr
    have Hm := Lib.hid hm
    have c0 := Q0.out.c0
    have c1 := Q0.out.c1
    have c2 := Q0.out.c2
    have c3 := Q0.out.c3
    have hm64 : m < 18446744073709551616 := by omega
    clear hbr hey hm
    by_cases hkn : k < n
    · obtain ⟨q, hq, hqs⟩ := Hpt.out k (by have := Hln.out; omega)
      rcases HIr.out.2 with h0 | ⟨b, o, rfl, hbB, hc⟩
      · omega
      · have ck := hc k hkn
        rw [hq] at ck
        have Hq := Lib.hid hq
        have hkI : (k : Int) < n := by omega
        have hq49 : q < 64 := by omega
        clear hc hq
        rcases Bool.eq_false_or_eq_true (holdB s q O) with hh | hh
        · have HH := Lib.hid hh
          obtain ⟨P, hP⟩ : ∃ P, P = 2 ^ q := ⟨_, rfl⟩
          have hPl : P < 2 ^ (s * s) := by rw [hP]; exact Nat.pow_lt_pow_right (by decide) hqs
          have r1 : bits .or .u64 (m : Int) (P : Int) = ((m ||| P : Nat) : Int) := u64_or_nat _ _ hm64 (by omega)
          have hml := Bt.or_lt Hm.out hPl
          have R1 := Lib.hid r1
          have Hml := Lib.hid hml
          have HP := Lib.hid hP
          clear hh r1 hml hP hPl
          go_wp2_with fail
          refine (CH.out q _ hqs).mono ?_
          rintro e y3 ⟨rfl, hb⟩
          have Hb3 := Lib.hid (Hbr.out.trans (hb.mono Hbr.out.size))
          rw [HH.out]
          clear hb c0 c1 c2 c3 ck
          go_wp2_with fail
          refine (i_onlyN _ q P _ rfl HP.out hq49).mono ?_
          rintro e w' ⟨rfl, rfl⟩
          go_wp2_with fail
          go_roundw
          case rel => exact ⟨k + 1, m ||| P, by omega, by go_num, by rw [R1.out], Hml.out, by rw [HP.out]; exact Hey.out.yes (by have := Hln.out; omega) Hq.out HH.out, Hb3.out⟩
          case measure => simp [intOf]; omega
        · have HH := Lib.hid hh
          clear hh
          go_wp2_with fail
          refine (CH.out q _ hqs).mono ?_
          rintro e y3 ⟨rfl, hb⟩
          have Hb3 := Lib.hid (Hbr.out.trans (hb.mono Hbr.out.size))
          rw [HH.out]
          clear hb c0 c1 c2 c3 ck
          go_wp2_with fail
          go_roundw
          case rel => exact ⟨k + 1, m, by omega, by go_num, rfl, Hm.out, Hey.out.no (by have := Hln.out; omega) Hq.out HH.out, Hb3.out⟩
          case measure => simp [intOf]; omega
    · have hkn' : k = n := by omega
      have hfull : l.take k = l := List.take_of_length_le (by have := Hln.out; omega)
      have hdone : IsEy s Y O m := EyP.done HY64.out (by rw [HL.out, ← hfull]; exact Hey.out)
      have r1 : bits .andNot .u64 (Y : Int) (m : Int) = ((Y &&& (18446744073709551615 - m) : Nat) : Int) := u64_andNot_nat _ _ (by have := HY64.out; omega) hm64
      have Hd := Lib.hid hdone
      have R1 := Lib.hid r1
      have Hf := Lib.hid (Hb.out.trans (Hbr.out.mono Hb.out.size))
      clear hkn' hfull hdone r1
      go_wp2_with fail
      go_ret2
      exact ⟨m, by rw [← R1.out]; rfl, Hd.out, Hf.out⟩

end
end Go.Proofs.YtpogjegihhljpaaDoor
