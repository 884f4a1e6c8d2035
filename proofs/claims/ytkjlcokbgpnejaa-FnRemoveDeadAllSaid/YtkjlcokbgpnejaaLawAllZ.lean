/-
  All stones can be dead: the law holds for every code. No condition.
-/
import Derived.Test.YtkjlcokbgpnejaaLawTmKitA
import Derived.Test.YtkjlcokbgpnejaaLawTmKitB
import Derived.Test.YtkjlcokbgpnejaaBoardI
import Derived.Test.YtkjlcokbgpnejaaRows
import Derived.Deep.RegionHeld3
import Derived.Deep.DeepCutAuto
import Derived.WalkKit
import Derived.ProofKit
import Derived.OpenShut
import Derived.ShutString
import Derived.ChangeOld
import Derived.Below
namespace Go.Proofs.Ytkjlcokbgpnejaa
set_option maxRecDepth 100000
open Go.RowKit

theorem Rmv.cells {s : Int} {cs ds : List Int} {s' : Int} {cs' : List Int} (h : Rmv s cs ds true s' cs') : Bd.okB s cs = true ∧ s' = s ∧ cs'.length = cs.length ∧ ∀ k : Nat, cs'.getD k 0 = if (k : Int) ∈ ds then 0 else cs.getD k 0 := by
  rcases h with ⟨_, h1, h2, h3, rfl⟩ | ⟨e, _⟩
  · refine ⟨h1, h3, clr_len ds cs, clr_getD ds cs fun d hd => ?_⟩
    obtain ⟨i, hi, rfl⟩ := mem_getD hd
    exact (h2.on i hi).1
  · cases e
theorem Rmv.none_ {s : Int} {cs : List Int} (h : Bd.okB s cs = true) : Rmv s cs [] true s cs :=
  .inl ⟨rfl, h, ⟨fun i hi => absurd hi (by simp), fun i hi => absurd hi (by simp), fun i hi => absurd hi (by simp), fun i hi => absurd hi (by simp)⟩, rfl, rfl⟩

section
variable (s : Int) (w : World) (A P : Option Addr) (n c m pc : Nat) (cs ds : List Int) (ok : Bool) (s' : Int) (cs' : List Int) (h : Ints w w.heap.size A n cs) (h' : Ints w w.heap.size P m ds) (hn : n ≤ 49) (hm : m ≤ 4803) (hR : Hid (Rmv s cs ds ok s' cs'))
include h h' hn hm hR
theorem i_RmA : Calls Try.prog 34 #[.agg #[.int .i64 s, .slice A n c], .slice P m pc] w fun e w' => ∃ A n c, e = .returned (.tuple #[.agg #[.int .i64 s', .slice A n c], .bool ok]) ∧ Own w' w.heap.size A n c cs' ∧ Below w.heap.size w w' :=
  i_RmvX s w _ _ A P n c m pc cs ds ok s' cs' h h' (Nat.le_refl _) (Nat.le_refl _) (by omega) (by omega) hR
theorem s_RmA : Calls Try.prog 35 #[.agg #[.int .i64 s, .slice A n c], .slice P m pc] w fun e w' => ∃ A n c, e = .returned (.tuple #[.agg #[.int .i64 s', .slice A n c], .bool ok]) ∧ Own w' w.heap.size A n c cs' ∧ Below w.heap.size w w' :=
  s_RmvX s w _ _ A P n c m pc cs ds ok s' cs' h h' (Nat.le_refl _) (Nat.le_refl _) (by omega) (by omega) hR
end
end Go.Proofs.Ytkjlcokbgpnejaa

namespace Go.Proofs.Ytkjlcokbgpnejaa
set_option maxRecDepth 100000
open Go.RowKit

/-- The points with stones, as marks. -/
def stn (cs : List Int) : List Bool := cs.map fun c => c != 0
theorem stn_at {cs : List Int} {k : Nat} (h : k < cs.length) : (stn cs).getD k false = (cs.getD k 0 != 0) := by
  simp [stn, List.getD_eq_getElem?_getD, List.getElem?_eq_getElem h]
theorem pts_ascA (S : List Bool) (n : Nat) : ∀ j, j + 1 < (Fl.pts S n).length → (Fl.pts S n).getD j 0 < (Fl.pts S n).getD (j + 1) 0 := by
  have hp : (Fl.pts S n).Pairwise (· < ·) := by
    unfold Fl.pts
    rw [List.pairwise_map]
    exact (List.pairwise_lt_range.filter _).imp fun h => by omega
  intro j hj
  have := List.pairwise_iff_getElem.1 hp j (j + 1) (by omega) hj (by omega)
  simpa [List.getD_eq_getElem?_getD, List.getElem?_eq_getElem hj, List.getElem?_eq_getElem (show j < (Fl.pts S n).length by omega)] using this
theorem all_mem {cs : List Int} {n : Nat} (hn : cs.length = n) {y : Int} : y ∈ Fl.pts (stn cs) n ↔ 0 ≤ y ∧ y < n ∧ cs.getD y.toNat 0 ≠ 0 := by
  rw [Pa.pts_mem]
  constructor
  · rintro ⟨q, hq, h, rfl⟩
    rw [stn_at (by omega)] at h
    exact ⟨by omega, by omega, by simpa using h⟩
  · rintro ⟨h1, h2, h3⟩
    exact ⟨y.toNat, by omega, by rw [stn_at (by omega)]; simpa using h3, by omega⟩
theorem all_at {cs : List Int} {n i : Nat} (hn : cs.length = n) (hi : i < (Fl.pts (stn cs) n).length) : 0 ≤ (Fl.pts (stn cs) n).getD i 0 ∧ (Fl.pts (stn cs) n).getD i 0 < n ∧ cs.getD ((Fl.pts (stn cs) n).getD i 0).toNat 0 ≠ 0 :=
  (all_mem hn).1 (getD_memR hi)
theorem all_dead {s : Int} {cs : List Int} {n : Nat} (h : Bd.okB s cs = true) (hn : cs.length = n) : Dead s cs (Fl.pts (stn cs) n) := by
  obtain ⟨h1, h2, h3, _⟩ := (Bd.okB_iff s cs).1 h
  refine ⟨pts_ascA _ _, fun i hi => ?_, fun i hi => (all_at hn hi).2.2, fun i hi q hq hc => ?_⟩
  · have := all_at hn hi
    omega
  · obtain ⟨a, b, c⟩ := all_at hn hi
    have := nbs_in h1 h2 (n := n) (by omega) _ a b q hq
    exact (all_mem hn).2 ⟨this.1, this.2, by rw [hc]; exact c⟩
theorem all_clr {cs : List Int} {n : Nat} (hn : cs.length = n) : clr cs (Fl.pts (stn cs) n) = List.replicate n 0 := by
  refine List.ext_getElem (by rw [clr_len, hn, List.length_replicate]) fun k h1 h2 => ?_
  have hk : k < n := by rw [List.length_replicate] at h2; exact h2
  have e := clr_getD (Fl.pts (stn cs) n) cs (fun d hd => ((all_mem hn).1 hd).1) k
  rw [List.getD_eq_getElem?_getD, List.getElem?_eq_getElem h1] at e
  rw [List.getElem_replicate]
  have e2 : (clr cs (Fl.pts (stn cs) n))[k] = if (k : Int) ∈ Fl.pts (stn cs) n then 0 else cs.getD k 0 := e
  rw [e2]
  by_cases hm : (k : Int) ∈ Fl.pts (stn cs) n
  · rw [if_pos hm]
  · rw [if_neg hm]
    refine Classical.byContradiction fun h9 => hm ((all_mem hn).2 ⟨by omega, by omega, by rw [Int.toNat_natCast]; exact h9⟩)
theorem zero_at (n k : Nat) : (List.replicate n (0 : Int)).getD k 0 = 0 := by
  rw [List.getD_eq_getElem?_getD, List.getElem?_replicate]
  split <;> rfl
theorem zero_cnt (n : Nat) (x : Int) (hx : x ≠ 0) : cnt x (List.replicate n 0) = 0 := by
  unfold cnt
  have : (List.replicate n (0 : Int)).filter (fun c => c == x) = [] := by
    rw [List.filter_eq_nil_iff]
    intro c hc
    rw [List.eq_of_mem_replicate hc]
    simpa using fun h => hx h.symm
  rw [this]; rfl
theorem zero_ter {s x : Int} {n : Nat} (hx : x ≠ 0) {l : List Int} (h : TrIs s n (List.replicate n 0) x l) : l = [] := by
  rcases Bool.eq_false_or_eq_true (okGs s (List.replicate n 0) x) with e | e
  · obtain ⟨ls, S, _, hS, rfl⟩ := h.1 e
    refine List.eq_nil_iff_forall_not_mem.2 fun y hy => ?_
    obtain ⟨q, hq, hqs, _⟩ := Pa.pts_mem.1 hy
    obtain ⟨g, _, ho, _⟩ := (hS.2 q hq).1 hqs
    have ht : tch s (List.replicate n 0) x g = true := by
      unfold ownR at ho
      rw [Bool.and_eq_true] at ho
      exact ho.1
    obtain ⟨_, _, z, _, hz⟩ := tch_iff.1 ht
    rw [zero_at] at hz
    exact hx hz.symm
  · exact h.2 e
theorem zero_area {s : Int} {n : Nat} (h : Bd.okB s (List.replicate n 0) = true) : ArIs s n (List.replicate n 0) 0 0 := by
  obtain ⟨l1, h1⟩ := TrIs.make s n (List.replicate n 0) 1 (List.length_replicate ..)
  obtain ⟨l2, h2⟩ := TrIs.make s n (List.replicate n 0) 2 (List.length_replicate ..)
  refine ⟨fun _ => ⟨⟨l1, h1, ?_⟩, l2, h2, ?_⟩, fun e => absurd (h.symm.trans e) (by decide)⟩
  · rw [zero_ter (by decide) h1, zero_cnt n 1 (by decide)]; rfl
  · rw [zero_ter (by decide) h2, zero_cnt n 2 (by decide)]; rfl
theorem all_rmv {s : Int} {cs : List Int} {n : Nat} (h : Bd.okB s cs = true) (hn : cs.length = n) : Rmv s cs (Fl.pts (stn cs) n) true s (List.replicate n 0) :=
  .inl ⟨rfl, h, all_dead h hn, rfl, (all_clr hn).symm⟩
theorem zero_ok {s : Int} {cs : List Int} {n : Nat} (h : Bd.okB s cs = true) (hn : cs.length = n) : Bd.okB s (List.replicate n 0) = true := by
  obtain ⟨h1, h2, h3, _⟩ := (Bd.okB_iff s cs).1 h
  refine (Bd.okB_iff s _).2 ⟨h1, h2, by rw [List.length_replicate]; omega, fun c hc => ?_⟩
  rw [List.eq_of_mem_replicate hc]
  omega

section
variable (s : Int) (w : World) (A : Option Addr) (n c : Nat) (cs : List Int) (h : Ints w w.heap.size A n cs) (hn : n ≤ 49)
include h hn
theorem i_vbD (b : Bool) (hb : Hid (Bd.okB s cs = b)) : Calls Try.prog 38 #[.agg #[.int .i64 s, .slice A n c]] w fun e w' => e = .returned (.bool b) ∧ Below w.heap.size w w' := by
  rw [← hb.out]
  exact i_validBoard s w _ A n c cs h (Nat.le_refl _) (by omega)
theorem i_ArD (x y : Int) (hx : Hid (ArIs s n cs x y)) : Calls Try.prog 26 #[.agg #[.int .i64 s, .slice A n c]] w fun e w' => e = .returned (.tuple #[.int .i64 x, .int .i64 y]) ∧ Below w.heap.size w w' :=
  i_Ar s w _ A n c cs h (Nat.le_refl _) (by omega) x y hx
end
theorem i_newD (s : Int) (w : World) (n : Nat) (h1 : 1 ≤ s) (h2 : s ≤ 7) (hn : (n : Int) = s * s) : Calls Try.prog 39 #[.int .i64 s] w fun e w' => ∃ A c, e = .returned (.agg #[.int .i64 s, .slice A n c]) ∧ Own w' w.heap.size A n c (List.replicate n 0) ∧ Below w.heap.size w w' := by
  refine (i_new s w).mono ?_
  rintro e w' ⟨A, m, c, rfl, ho, hb⟩
  have hk : Pt.okS s = true := (Pt.okS_iff s).2 ⟨h1, h2⟩
  have e1 : newS s = s := by rw [newS, if_pos hk]
  have e2 : newCs s = List.replicate n 0 := by rw [newCs, if_pos hk, show (s * s).toNat = n by omega]
  rw [e2] at ho
  have e3 : n = m := by have := ho.1; rw [List.length_replicate] at this; exact this
  subst e3
  rw [e1]
  exact ⟨_, _, rfl, ho, hb⟩
end Go.Proofs.Ytkjlcokbgpnejaa

namespace Go.Proofs.Ytkjlcokbgpnejaa.fnRemoveDeadAll
set_option maxRecDepth 100000
open Go.ChangeShapes Go.WideShapes Go.ChangeAt Go.RowKit
open Go.ChangeMaps (open_string shut_string)
set_option linter.unusedVariables false

theorem own : ownKnob Try.prog.godebug = none := by kernel_rfl
theorem laidOut : laidOutB Try.prog = true := by kernel_rfl


set_option maxRecDepth 100000 in
set_option maxHeartbeats 16000000 in
theorem walk (a0 : Option Addr) (len0 cap0 : Nat) (z0 : List Int) (w : World) (w0 : IsRow .u8 w a0 len0 cap0 z0) :
    Calls Try.prog 10 #[.slice a0 len0 cap0] w fun e w' => e = .returned (.bool true) ∧ Below w.heap.size w w' := by
  by_cases hl : 1048576 < len0
  · go_enter Try.func10, Try.ntmps10
    go_wp2_with fail
    go_ret
    exact ⟨rfl, Below.refl _ _⟩
  · have hl' : decide ((1048576 : Int) < (len0 : Int)) = false := by rw [decide_eq_false_iff_not]; omega
    go_enter Try.func10, Try.ntmps10
    go_wp2_with fail
    refine (d_rd w a0 len0 cap0 z0 w0).mono ?_
    rintro e y0 ⟨s, A, n, c, cs, P, m, pc, ds, rfl, hi, hn49, s0, s8, hip, hm, hb⟩
    have I0 := Lib.hid hi
    have HB := Lib.hid hb
    clear hi hb w0 hl'
    have I1 := Lib.hid hip
    clear hip
    obtain ⟨ok, s', cs', hR⟩ := Rmv.ex s cs ds
    have HR := Lib.hid hR
    have hl49 := hR.len
    clear hR
    go_wp2_with fail
    obtain ⟨x1, hy3, hb2, z4, z5⟩ := new_box y0 (.cells #[.int .i64 s, .slice A n c] 28)
    have X3 : Hid (Bx 28 x1 y0.heap.size s (.slice A n c)) := Lib.hid (by rw [hy3]; exact Bx.new _ _ _ _)
    rw [← hy3]
    clear hy3
    have I0 := Lib.hid (I0.out.step hb2)
    have I1 := Lib.hid (I1.out.step hb2)
    have HB := Lib.hid (bstep HB.out hb2)
    clear hb2
    have X3_0 := X3.out.cell0
    have X3_1 := X3.out.cell1
    have X3_l := X3.out.lt
    go_wp2_with fail
    refine (i_RmA s _ A P n c m pc cs ds ok s' cs' I0.out I1.out hn49 hm HR).mono ?_
    rintro e x6 ⟨A1, n1, c1, rfl, ho8, hb7⟩
    clear X3_0 X3_1 X3_l
    have X3 := Lib.hid (X3.out.step hb7)
    have I0 := Lib.hid (I0.out.step hb7)
    have I1 := Lib.hid (I1.out.step hb7)
    have HB := Lib.hid (bstep HB.out hb7)
    have R1 := Lib.hid ho8.ints
    have lenR1 := ho8.1
    clear hb7 ho8
    have X3_0 := X3.out.cell0
    have X3_1 := X3.out.cell1
    have X3_l := X3.out.lt
    go_wp2_with fail
    obtain ⟨x9, hy11, hb10, z12, z13⟩ := new_box x6 (.cells #[.int .i64 s', .slice A1 n1 c1] 28)
    have X5 : Hid (Bx 28 x9 x6.heap.size s' (.slice A1 n1 c1)) := Lib.hid (by rw [hy11]; exact Bx.new _ _ _ _)
    rw [← hy11]
    clear hy11
    clear X3_0 X3_1 X3_l
    have X3 := Lib.hid (X3.out.step hb10)
    have I0 := Lib.hid (I0.out.step hb10)
    have I1 := Lib.hid (I1.out.step hb10)
    have R1 := Lib.hid (R1.out.step hb10)
    have HB := Lib.hid (bstep HB.out hb10)
    clear hb10
    have X3_0 := X3.out.cell0
    have X3_1 := X3.out.cell1
    have X3_l := X3.out.lt
    have X5_0 := X5.out.cell0
    have X5_1 := X5.out.cell1
    have X5_l := X5.out.lt
    go_wp2_with fail
    refine (s_RmA s _ A P n c m pc cs ds ok s' cs' I0.out I1.out hn49 hm HR).mono ?_
    rintro e x14 ⟨A2, n2, c2, rfl, ho16, hb15⟩
    clear X3_0 X3_1 X3_l X5_0 X5_1 X5_l
    have X3 := Lib.hid (X3.out.step hb15)
    have X5 := Lib.hid (X5.out.step hb15)
    have I0 := Lib.hid (I0.out.step hb15)
    have I1 := Lib.hid (I1.out.step hb15)
    have R1 := Lib.hid (R1.out.step hb15)
    have HB := Lib.hid (bstep HB.out hb15)
    have R2 := Lib.hid ho16.ints
    have lenR2 := ho16.1
    clear hb15 ho16
    have X3_0 := X3.out.cell0
    have X3_1 := X3.out.cell1
    have X3_l := X3.out.lt
    have X5_0 := X5.out.cell0
    have X5_1 := X5.out.cell1
    have X5_l := X5.out.lt
    obtain rfl : n1 = n2 := lenR1.symm.trans lenR2
    clear lenR2
    go_wp2_with fail
    obtain ⟨x17, hy19, hb18, z20, z21⟩ := new_box x14 (.cells #[.int .i64 s', .slice A2 n1 c2] 28)
    have X7 : Hid (Bx 28 x17 x14.heap.size s' (.slice A2 n1 c2)) := Lib.hid (by rw [hy19]; exact Bx.new _ _ _ _)
    rw [← hy19]
    clear hy19
    clear X3_0 X3_1 X3_l X5_0 X5_1 X5_l
    have X3 := Lib.hid (X3.out.step hb18)
    have X5 := Lib.hid (X5.out.step hb18)
    have I0 := Lib.hid (I0.out.step hb18)
    have I1 := Lib.hid (I1.out.step hb18)
    have R1 := Lib.hid (R1.out.step hb18)
    have R2 := Lib.hid (R2.out.step hb18)
    have HB := Lib.hid (bstep HB.out hb18)
    clear hb18
    have X3_0 := X3.out.cell0
    have X3_1 := X3.out.cell1
    have X3_l := X3.out.lt
    have X5_0 := X5.out.cell0
    have X5_1 := X5.out.cell1
    have X5_l := X5.out.lt
    have X7_0 := X7.out.cell0
    have X7_1 := X7.out.cell1
    have X7_l := X7.out.lt
    go_wp2_with fail
    refine (l_eqB s' _ _ _ n1 _ _ cs' R1.out R2.out (by omega)).mono ?_
    rintro e x22 ⟨rfl, hb23⟩
    clear X3_0 X3_1 X3_l X5_0 X5_1 X5_l X7_0 X7_1 X7_l
    have X3 := Lib.hid (X3.out.step hb23)
    have X5 := Lib.hid (X5.out.step hb23)
    have X7 := Lib.hid (X7.out.step hb23)
    have I0 := Lib.hid (I0.out.step hb23)
    have I1 := Lib.hid (I1.out.step hb23)
    have R1 := Lib.hid (R1.out.step hb23)
    have R2 := Lib.hid (R2.out.step hb23)
    have HB := Lib.hid (bstep HB.out hb23)
    clear hb23
    have X3_0 := X3.out.cell0
    have X3_1 := X3.out.cell1
    have X3_l := X3.out.lt
    have X5_0 := X5.out.cell0
    have X5_1 := X5.out.cell1
    have X5_l := X5.out.lt
    have X7_0 := X7.out.cell0
    have X7_1 := X7.out.cell1
    have X7_l := X7.out.lt
    rcases Bool.eq_false_or_eq_true (Bd.okB s cs) with hv | hv
    · have Hv := Lib.hid hv
      obtain ⟨h1, h2, h3, _⟩ := (Bd.okB_iff s cs).1 hv
      have hl := I0.out.1
      have Hn : Hid ((n : Int) = s * s) := Lib.hid (by omega)
      have HRa := Lib.hid (all_rmv hv hl)
      have HAr := Lib.hid (zero_area (zero_ok hv hl))
      have Hl := Lib.hid hl
      clear hv h3 hl
      go_wp2_with fail
      refine (i_vbD s _ A n c cs I0.out hn49 true Hv).mono ?_
      rintro e x75 ⟨rfl, hb76⟩
      clear X3_0 X3_1 X3_l X5_0 X5_1 X5_l X7_0 X7_1 X7_l
      have X3 := Lib.hid (X3.out.step hb76)
      have X5 := Lib.hid (X5.out.step hb76)
      have X7 := Lib.hid (X7.out.step hb76)
      have I0 := Lib.hid (I0.out.step hb76)
      have I1 := Lib.hid (I1.out.step hb76)
      have R1 := Lib.hid (R1.out.step hb76)
      have R2 := Lib.hid (R2.out.step hb76)
      have HB := Lib.hid (bstep HB.out hb76)
      clear hb76
      have X3_0 := X3.out.cell0
      have X3_1 := X3.out.cell1
      have X3_l := X3.out.lt
      have X5_0 := X5.out.cell0
      have X5_1 := X5.out.cell1
      have X5_l := X5.out.lt
      have X7_0 := X7.out.cell0
      have X7_1 := X7.out.cell1
      have X7_l := X7.out.lt
      go_wp2_with fail
      have Hob := Lib.hid (Own.bare x75 x75.heap.size (Nat.le_refl _))
      have Hbb := Lib.hid ((Below.refl x75.heap.size x75).alloc (Nat.le_refl _) (.cells #[] 3))
      go_loopw [9, 10] (fun v i wr => ∃ j : Nat, j ≤ n ∧ i = .int .i64 j ∧ Slc x75.heap.size x75 v wr (Fl.pts (stn cs) j)) (fun _ i _ => n - (intOf i).toNat)
      case atStart => exact ⟨0, by omega, rfl, _, _, _, rfl, Hob.out, Hbb.out⟩
      case round =>
        clear Hob Hbb
        obtain ⟨wo, rfl⟩ : ∃ wo : World, wo = wr := ⟨_, rfl⟩
        obtain ⟨j, hj, rfl, A4, n4, c4, rfl, ho4, hbr⟩ := hrel
        have hn4 : n4 ≤ 49 := by have := ho4.1; have := Fl.pts_len (stn cs) j; omega
        have Ho4 := Lib.hid ho4
        have Hbr := Lib.hid hbr
        have hz4 := hbr.size
        clear X3_0 X3_1 X3_l X5_0 X5_1 X5_l X7_0 X7_1 X7_l
        have X3 := Lib.hid (X3.out.step hbr)
        have X5 := Lib.hid (X5.out.step hbr)
        have X7 := Lib.hid (X7.out.step hbr)
        have I0 := Lib.hid (I0.out.step hbr)
        have I1 := Lib.hid (I1.out.step hbr)
        have R1 := Lib.hid (R1.out.step hbr)
        have R2 := Lib.hid (R2.out.step hbr)
        have HB := Lib.hid (bstep HB.out hbr)
        clear ho4 hbr
        have X3_0 := X3.out.cell0
        have X3_1 := X3.out.cell1
        have X3_l := X3.out.lt
        have X5_0 := X5.out.cell0
        have X5_1 := X5.out.cell1
        have X5_l := X5.out.lt
        have X7_0 := X7.out.cell0
        have X7_1 := X7.out.cell1
        have X7_l := X7.out.lt
        by_cases hjn : j < n
        · obtain ⟨b, o, hA, _, hc⟩ : ∃ b o, A = some ⟨b, o, none⟩ ∧ b < wo.heap.size ∧ ∀ j, j < n → wo.cell? ⟨b, o + j, none⟩ = some (.int .i64 (cs.getD j 0)) := by
            rcases I0.out.2 with h0 | ⟨b, o, hA, hbB, hc⟩
            · omega
            · exact ⟨b, o, hA, hbB, hc⟩
          have ck := hc j hjn
          have hjI : (j : Int) < n := by omega
          have hst := stn_at (cs := cs) (k := j) (by rw [Hl.out]; exact hjn)
          obtain ⟨x, hx⟩ : ∃ x, cs.getD j 0 = x := ⟨_, rfl⟩
          rw [hx] at ck hst
          rw [hA] at X3_1
          clear hc hx hA
          rcases Bool.eq_false_or_eq_true (x != 0) with hne | hne
          · have Hy := Lib.hid (Fl.pts_yes (hst.trans hne))
            clear hst
            go_wp2_with (at_builtin; refine app1 rfl _ _ rfl _ _ _ _ _ _ _ _ rfl rfl rfl Ho4.out hz4 (by omega) ?_; intro A' c' w' hown' hb' hlt' _)
            go_roundw
            case rel => exact ⟨j + 1, by omega, by go_num, _, _, _, rfl, by rw [Hy.out]; exact hown', Hbr.out.trans (hb'.mono (by omega))⟩
            case measure => simp [intOf]; omega
          · have Hy := Lib.hid (Fl.pts_no (hst.trans hne))
            clear hst
            go_wp2_with fail
            go_roundw
            case rel => exact ⟨j + 1, by omega, by go_num, _, _, _, rfl, by rw [Hy.out]; exact Ho4.out, Hbr.out⟩
            case measure => simp [intOf]; omega
        · have hjn2 : j = n := by omega
          subst hjn2
          have IA := Lib.hid Ho4.out.ints
          go_wp2_with fail
          refine (i_RmA s _ A A4 j c n4 c4 cs (Fl.pts (stn cs) j) true s (List.replicate j 0) I0.out IA.out hn49 (by omega) HRa).mono ?_
          rintro e x378 ⟨A5, n5, c5, rfl, ho380, hb379⟩
          clear X3_0 X3_1 X3_l X5_0 X5_1 X5_l X7_0 X7_1 X7_l
          have X3 := Lib.hid (X3.out.step hb379)
          have X5 := Lib.hid (X5.out.step hb379)
          have X7 := Lib.hid (X7.out.step hb379)
          have I0 := Lib.hid (I0.out.step hb379)
          have I1 := Lib.hid (I1.out.step hb379)
          have R1 := Lib.hid (R1.out.step hb379)
          have R2 := Lib.hid (R2.out.step hb379)
          have IA := Lib.hid (IA.out.step hb379)
          have HB := Lib.hid (bstep HB.out hb379)
          have R4 := Lib.hid ho380.ints
          have lenR4 := ho380.1
          clear hb379 ho380
          have X3_0 := X3.out.cell0
          have X3_1 := X3.out.cell1
          have X3_l := X3.out.lt
          have X5_0 := X5.out.cell0
          have X5_1 := X5.out.cell1
          have X5_l := X5.out.lt
          have X7_0 := X7.out.cell0
          have X7_1 := X7.out.cell1
          have X7_l := X7.out.lt
          have hn5 : j = n5 := by have h9 := lenR4; rw [List.length_replicate] at h9; exact h9
          subst hn5
          go_wp2_with fail
          obtain ⟨x381, hy383, hb382, z384, z385⟩ := new_box x378 (.cells #[.int .i64 s, .slice A5 j c5] 28)
          have X11 : Hid (Bx 28 x381 x378.heap.size s (.slice A5 j c5)) := Lib.hid (by rw [hy383]; exact Bx.new _ _ _ _)
          rw [← hy383]
          clear hy383
          clear X3_0 X3_1 X3_l X5_0 X5_1 X5_l X7_0 X7_1 X7_l
          have X3 := Lib.hid (X3.out.step hb382)
          have X5 := Lib.hid (X5.out.step hb382)
          have X7 := Lib.hid (X7.out.step hb382)
          have I0 := Lib.hid (I0.out.step hb382)
          have I1 := Lib.hid (I1.out.step hb382)
          have R1 := Lib.hid (R1.out.step hb382)
          have R2 := Lib.hid (R2.out.step hb382)
          have IA := Lib.hid (IA.out.step hb382)
          have R4 := Lib.hid (R4.out.step hb382)
          have HB := Lib.hid (bstep HB.out hb382)
          clear hb382
          have X3_0 := X3.out.cell0
          have X3_1 := X3.out.cell1
          have X3_l := X3.out.lt
          have X5_0 := X5.out.cell0
          have X5_1 := X5.out.cell1
          have X5_l := X5.out.lt
          have X7_0 := X7.out.cell0
          have X7_1 := X7.out.cell1
          have X7_l := X7.out.lt
          have X11_0 := X11.out.cell0
          have X11_1 := X11.out.cell1
          have X11_l := X11.out.lt
          go_wp2_with fail
          refine (i_ArD s _ A5 j c5 (List.replicate j 0) R4.out hn49 0 0 HAr).mono ?_
          rintro e x386 ⟨rfl, hb387⟩
          clear X3_0 X3_1 X3_l X5_0 X5_1 X5_l X7_0 X7_1 X7_l X11_0 X11_1 X11_l
          have X3 := Lib.hid (X3.out.step hb387)
          have X5 := Lib.hid (X5.out.step hb387)
          have X7 := Lib.hid (X7.out.step hb387)
          have X11 := Lib.hid (X11.out.step hb387)
          have I0 := Lib.hid (I0.out.step hb387)
          have I1 := Lib.hid (I1.out.step hb387)
          have R1 := Lib.hid (R1.out.step hb387)
          have R2 := Lib.hid (R2.out.step hb387)
          have IA := Lib.hid (IA.out.step hb387)
          have R4 := Lib.hid (R4.out.step hb387)
          have HB := Lib.hid (bstep HB.out hb387)
          clear hb387
          have X3_0 := X3.out.cell0
          have X3_1 := X3.out.cell1
          have X3_l := X3.out.lt
          have X5_0 := X5.out.cell0
          have X5_1 := X5.out.cell1
          have X5_l := X5.out.lt
          have X7_0 := X7.out.cell0
          have X7_1 := X7.out.cell1
          have X7_l := X7.out.lt
          have X11_0 := X11.out.cell0
          have X11_1 := X11.out.cell1
          have X11_l := X11.out.lt
          go_wp2_with fail
          go_region_held3 (fun w' => w'.cell? ⟨y0.heap.size, 0, none⟩ = some (.int .i64 s) ∧ w'.cell? ⟨y0.heap.size, 1, none⟩ = some (.slice A j c) ∧ w'.cell? ⟨x378.heap.size, 0, none⟩ = some (.int .i64 s) ∧ w'.cell? ⟨x378.heap.size, 1, none⟩ = some (.slice A5 j c5)) (first | exact ⟨X3_0, X3_1, X11_0, X11_1⟩ | go_keep) (first | (have hq1 := hq1; go_at_call 36; refine (l_eqB s _ A5 A8 j c5 c8 (List.replicate j 0) R4.out R8.out (by omega)).mono ?_; rintro e yd ⟨rfl, hb9⟩; have X3 := Lib.hid (X3.out.step hb9); have X11 := Lib.hid (X11.out.step hb9); have R4 := Lib.hid (R4.out.step hb9); have HB := Lib.hid (bstep HB.out hb9); clear hb9 X3_0 X3_1 X11_0 X11_1; have X3_0 := X3.out.cell0; have X3_1 := X3.out.cell1; have X11_0 := X11.out.cell0; have X11_1 := X11.out.cell1) | (go_at_call 39; refine (i_newD s _ j h1 h2 Hn.out).mono ?_; rintro e yc ⟨A8, c8, rfl, ho9, hb9⟩; replace hb9 := undrew hb9; have X3 := Lib.hid (X3.out.step hb9); have X11 := Lib.hid (X11.out.step hb9); have R4 := Lib.hid (R4.out.step hb9); have HB := Lib.hid (bstep HB.out hb9); have R8 := Lib.hid ho9.ints; clear hb9 ho9 X3_0 X3_1 X11_0 X11_1; have X3_0 := X3.out.cell0; have X3_1 := X3.out.cell1; have X11_0 := X11.out.cell0; have X11_1 := X11.out.cell1; have hq1 : True := trivial))
          go_wp2_with fail
          go_ret
          exact ⟨by first | rfl | simp, HB.out⟩
    · have Hv := Lib.hid hv
      clear hv
      go_wp2_with fail
      refine (i_vbD s _ A n c cs I0.out hn49 false Hv).mono ?_
      rintro e x725 ⟨rfl, hb726⟩
      clear X3_0 X3_1 X3_l X5_0 X5_1 X5_l X7_0 X7_1 X7_l
      have X3 := Lib.hid (X3.out.step hb726)
      have X5 := Lib.hid (X5.out.step hb726)
      have X7 := Lib.hid (X7.out.step hb726)
      have I0 := Lib.hid (I0.out.step hb726)
      have I1 := Lib.hid (I1.out.step hb726)
      have R1 := Lib.hid (R1.out.step hb726)
      have R2 := Lib.hid (R2.out.step hb726)
      have HB := Lib.hid (bstep HB.out hb726)
      clear hb726
      have X3_0 := X3.out.cell0
      have X3_1 := X3.out.cell1
      have X3_l := X3.out.lt
      have X5_0 := X5.out.cell0
      have X5_1 := X5.out.cell1
      have X5_l := X5.out.lt
      have X7_0 := X7.out.cell0
      have X7_1 := X7.out.cell1
      have X7_l := X7.out.lt
      go_wp2_with fail
      refine (l_eqB s' _ _ _ n1 _ _ cs' R1.out R2.out (by omega)).mono ?_
      rintro e x728 ⟨rfl, hb729⟩
      clear X3_0 X3_1 X3_l X5_0 X5_1 X5_l X7_0 X7_1 X7_l
      have X3 := Lib.hid (X3.out.step hb729)
      have X5 := Lib.hid (X5.out.step hb729)
      have X7 := Lib.hid (X7.out.step hb729)
      have I0 := Lib.hid (I0.out.step hb729)
      have I1 := Lib.hid (I1.out.step hb729)
      have R1 := Lib.hid (R1.out.step hb729)
      have R2 := Lib.hid (R2.out.step hb729)
      have HB := Lib.hid (bstep HB.out hb729)
      clear hb729
      have X3_0 := X3.out.cell0
      have X3_1 := X3.out.cell1
      have X3_l := X3.out.lt
      have X5_0 := X5.out.cell0
      have X5_1 := X5.out.cell1
      have X5_l := X5.out.lt
      have X7_0 := X7.out.cell0
      have X7_1 := X7.out.cell1
      have X7_l := X7.out.lt
      go_wp2_with fail
      go_ret
      exact ⟨by first | rfl | simp, HB.out⟩


set_option maxRecDepth 100000 in
theorem lifted (os : Os) (started : os.Started) (H : Type) (enc : TypeId × Value → H) :
    ReturnsInHanded {} Try.checked os 10 .any (Rows.fnRemoveDeadAllSpec.pre6 enc Try.prog Try.f10 Rows.fnRemoveDeadAllRow.domain false) (Rows.fnRemoveDeadAllSpec.post enc Try.prog Try.f10 false true false false) := by
  refine returnsInHanded_of_change (C := Try.checked) own started (by kernel_rfl) Try.func10
    (ChangeSpec.witness6 (enc := enc) (C := Try.checked) false ⟨#[], #[.slice none 0 0], []⟩ 8 (by kernel_rfl) (by kernel_rfl) (by kernel_rfl) (by kernel_rfl)) ?_
  intro W base args ds gs before hval0 hW hcnd _
  have hval : ∀ (j : Nat) t v, Try.f10.params[j]? = some t → args[j]? = some v → Value.okWide Try.prog W .any base t v := hval0
  have hW' := hW
  obtain ⟨p, q, hA0, hV, rfl, hfz, hnd⟩ := hW
  have hA : DataW.TrodAll enc Try.prog W 0 (fun _ => true) true Try.f10.params.toList args.toList ds p := hA0
  rw [Try.params10] at hA hval
  obtain ⟨v0, vs0, d0, ds0, p0, q0, hargs, rfl, rfl, h0, r0⟩ := trodAll_cons hA
  obtain ⟨rfl, rfl, rfl⟩ := trodAll_nil r0
  obtain rfl : args = #[v0] := by cases args; simp_all
  obtain ⟨rfl, rfl⟩ := trodVars_none hV
  obtain ⟨a0, len0, cap0, rfl⟩ := okWide_slice Try.underlying41 (hval 0 41 v0 rfl rfl)
  have k0 := h0
  have lt0 : ∀ x ∈ p0, x.block < W.heap.size := by obtain ⟨m, hm⟩ := k0; exact DataW.trod_lt m _ _ _ hm
  obtain ⟨z0, w0⟩ : ∃ zs, IsRow .u8 W a0 len0 cap0 zs := by
    obtain ⟨fuel, hf⟩ := h0
    rcases open_ints Try.underlying41 Try.underlying5 (by kernel_rfl) hf with ⟨hcs, _⟩ | ⟨x, l, c, zs, hcs, _, hl, hm, hz, _, hcell, hwz⟩
    · simp [Value.cells] at hcs
      obtain ⟨rfl, rfl, rfl⟩ := hcs
      exact ⟨[], .inl ⟨rfl, rfl, rfl, rfl⟩⟩
    · simp [Value.cells] at hcs
      obtain ⟨rfl, rfl, rfl⟩ := hcs
      exact ⟨zs, .inr ⟨_, rfl, hl, hm, by simpa using hz, hcell, hwz⟩⟩
  clear hA0 hval0
  refine (walk a0 len0 cap0 z0 W w0).mono fun e W' ⟨he, bel⟩ => ?_
  subst he
  exact ⟨_, rfl, _, _, _, [], _, [], hW', trodAll_mk1 (shut_bool Try.underlying4 _), (trodAll_cons_mk (Below.trod laidOut (by kernel_rfl) (of_decide_eq_true (by kernel_rfl)) k0 bel lt0) trodAll_mk0), rfl, bel.frame _, fun h => by cases h⟩

theorem over : Rows.fnRemoveDeadAllRow.holds Try.pinned (OpenSpec.ofChange Rows.fnRemoveDeadAllSpec) :=
  OpenClaim.holds_of_wide 10 Try.f10 rfl rfl rfl rfl rfl rfl rfl ⟨rfl, rfl, rfl, rfl, rfl⟩ rfl rfl rfl rfl rfl (by kernel_rfl) Try.func10 (by kernel_rfl)
    (of_decide_eq_true (by kernel_rfl)) (by unfold Func.isWrapper; first | (rw [if_pos (by decide +kernel)]; kernel_rfl) | (rw [if_neg (by decide +kernel)]; exact ⟨rfl, rfl⟩))
    (fun os started H enc _ => lifted os started H enc)

theorem proved : Rows.FnRemoveDeadAllSaid := over
end Go.Proofs.Ytkjlcokbgpnejaa.fnRemoveDeadAll
