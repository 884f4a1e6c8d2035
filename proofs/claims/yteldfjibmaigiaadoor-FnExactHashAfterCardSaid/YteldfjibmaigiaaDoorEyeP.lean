/-
  Eyes: the sets of bits and the lists of points say the same.
-/
import Derived.Test.YteldfjibmaigiaaDoorEyeE
import Derived.Test.YteldfjibmaigiaaDoorWordsB
import Derived.Test.YteldfjibmaigiaaDoorFactPt
import Derived.Test.YteldfjibmaigiaaDoorNbSpec
namespace Go.Proofs.YteldfjibmaigiaaDoor
set_option maxRecDepth 100000
open Go.RowKit

theorem nbs_at {s : Int} {n : Nat} (h1 : 1 ≤ s) (h2 : s ≤ 7) (hn : (n : Int) = s * s) : ∀ x : Int, 0 ≤ x → x < n → ∀ y ∈ Pt.nbs s x, 0 ≤ y ∧ y < n := by
  intro x h0 hx y hy
  obtain ⟨m1, _, _⟩ := Pt.nbs_all s x h1 h2 h0 (by omega)
  have := List.all_eq_true.1 m1 y hy
  simp only [Bool.and_eq_true, decide_eq_true_eq] at this
  obtain ⟨_, _, a, b⟩ := (Pt.okP_iff s y).1 this.1.1
  exact ⟨a, by omega⟩

/-- All points of a list have a color. -/
def encA (cs : List Int) (x : Int) (l : List Int) : Bool := l.all fun q => cs.getD q.toNat 0 == x
/-- An enclosed point, by the list of its neighbours. -/
def encS (s : Int) (cs : List Int) (p x : Int) : Bool := encA cs x (Pt.nbs s p) && ((cs.getD p.toNat 0 == 0) && decide (0 < (Pt.nbs s p).length))
/-- How many points of a list have a color. -/
def cntS (cs : List Int) (y : Int) (l : List Int) : Nat := (l.filter fun q => cs.getD q.toNat 0 == y).length
def holdS (s : Int) (cs : List Int) (p y : Int) : Bool := (cntS cs y (Bt.dia s p) == 0) || ((cntS cs y (Bt.dia s p) == 1) && ((Bt.dia s p).length == 4))

theorem encA_succ {cs l : List Int} {x : Int} {k : Nat} (h : k < l.length) : encA cs x (l.take (k + 1)) = (encA cs x (l.take k) && (cs.getD (l.getD k 0).toNat 0 == x)) := by
  unfold encA
  rw [List.take_succ_eq_append_getElem h, List.all_append, List.getD_eq_getElem?_getD (l := l), List.getElem?_eq_getElem h]
  simp
theorem encA_bad {cs l : List Int} {x : Int} {k : Nat} (h : k < l.length) (hc : (cs.getD (l.getD k 0).toNat 0 == x) = false) : encA cs x l = false := by
  unfold encA
  rw [List.all_eq_false]
  refine ⟨l[k], List.getElem_mem _, ?_⟩
  rw [List.getD_eq_getElem?_getD (l := l), List.getElem?_eq_getElem h] at hc
  simpa using hc
theorem cntS_succ {cs l : List Int} {y : Int} {k : Nat} (h : k < l.length) : cntS cs y (l.take (k + 1)) = cntS cs y (l.take k) + (if (cs.getD (l.getD k 0).toNat 0 == y) then 1 else 0) := by
  unfold cntS
  rw [List.take_succ_eq_append_getElem h, List.filter_append, List.length_append, List.getD_eq_getElem?_getD (l := l), List.getElem?_eq_getElem h]
  congr 1
  show _ = if (cs.getD (l[k]).toNat 0 == y) then 1 else 0
  cases e : (cs.getD (l[k]).toNat 0 == y) <;> simp only [List.filter_cons, e, List.filter_nil] <;> rfl

theorem any_cong {l : List Int} {f g : Int → Bool} (h : ∀ z ∈ l, f z = g z) : l.any f = l.any g := by
  rw [Bool.eq_iff_iff, List.any_eq_true, List.any_eq_true]
  constructor
  · rintro ⟨z, hz, e⟩; exact ⟨z, hz, (h z hz) ▸ e⟩
  · rintro ⟨z, hz, e⟩; exact ⟨z, hz, (h z hz).symm ▸ e⟩

theorem pts_and (C O : Nat) (n : Nat) : Bt.pts (C &&& O) n = (Bt.pts C n).filter fun q => O.testBit q.toNat := by
  unfold Bt.pts
  rw [List.filter_map, List.filter_filter]
  congr 1
  apply List.filter_congr
  intro q _
  rw [Nat.testBit_and, Bool.and_comm]
  rfl

section
variable (s : Nat) (cs : List Int) (x y : Int) (n : Nat) (h1 : 1 ≤ s) (h2 : s ≤ 7) (hn : n = s * s)
include h1 h2 hn

theorem hold_eq (p : Nat) (hp : p < s * s) : holdB s p (Bt.msk cs y n) = holdS s cs p y := by
  obtain ⟨hd, _⟩ := Bt.dia_bits s p h1 h2 hp
  have hlt := Bt.abv_lt s (Bt.bes s (2 ^ p))
  have e : (Bt.pts (Bt.abv s (Bt.bes s (2 ^ p)) &&& Bt.msk cs y n) 64).length = cntS cs y (Bt.dia s p) := by
    rw [pts_and, hd, cntS]
    congr 1
    apply List.filter_congr
    intro q hq
    rw [← hd, Bt.pts_mem] at hq
    obtain ⟨z, rfl, _, hz⟩ := hq
    have hzn : z < n := by
      rw [hn]
      rcases Nat.lt_or_ge z (s * s) with h' | h'
      · exact h'
      · rw [Bt.high hlt h'] at hz; cases hz
    rw [Bt.msk_bit, Int.toNat_natCast, decide_eq_true hzn, Bool.true_and]
    rw [Bool.eq_iff_iff, decide_eq_true_eq, beq_iff_eq]
  have hle : cntS cs y (Bt.dia s p) ≤ (Bt.dia s p).length := List.length_filter_le _ _
  unfold holdB holdS
  rw [e, hd]
  generalize cntS cs y (Bt.dia s p) = a at *
  generalize (Bt.dia s p).length = b at *
  rw [Bool.eq_iff_iff]
  split
  · simp; omega
  · simp; omega

theorem enc_eq (hl : cs.length = n) (hok : ∀ c ∈ cs, 0 ≤ c ∧ c ≤ 2) (hx : (x = 1 ∧ y = 2) ∨ (x = 2 ∧ y = 1)) (p : Nat) (hp : p < s * s) : (encM s (Bt.msk cs 0 n) (Bt.msk cs x n) (Bt.msk cs y n)).testBit p = encS s cs p x := by
  have h7 := (Bt.masks s h1 h2).2.2.2.2.2.2
  have m0 : Bt.msk cs 0 n < 2 ^ (s * s) := by rw [← hn]; exact Bt.msk_lt cs 0 n
  have mx : Bt.msk cs x n < 2 ^ (s * s) := by rw [← hn]; exact Bt.msk_lt cs x n
  have my : Bt.msk cs y n < 2 ^ (s * s) := by rw [← hn]; exact Bt.msk_lt cs y n
  have mq := Bt.or_lt m0 my
  have a1 := Bt.aro_lt s _ h1 h2 mx
  have a2 := Bt.aro_lt s _ h1 h2 mq
  have hE : (Bt.msk cs 0 n &&& Bt.aro s (Bt.msk cs x n)) < 18446744073709551616 := Nat.lt_of_le_of_lt Nat.and_le_left (by omega)
  have hs : ((n : Nat) : Int) = (s : Int) * s := by rw [hn]; push_cast; rfl
  unfold encM
  rw [Bt.andNot_bit hE (by omega), Nat.testBit_and, Bt.aro_bit s _ _ h1 h2 mx, Bt.aro_bit s _ _ h1 h2 mq, Bt.msk_bit, decide_eq_true (show p < n by omega), decide_eq_true hp, Bool.true_and, Bool.true_and, Bool.true_and]
  have hin := nbs_at (n := n) (by omega) (by omega) hs (p : Int) (by omega) (by omega)
  have key : ∀ z ∈ Pt.nbs s p, (Bt.msk cs x n).testBit z.toNat = (cs.getD z.toNat 0 == x) ∧ (Bt.msk cs 0 n ||| Bt.msk cs y n).testBit z.toNat = !(cs.getD z.toNat 0 == x) := by
    intro z hz
    obtain ⟨z0, z1⟩ := hin z hz
    have hzn : z.toNat < n := by omega
    have hc := hok (cs.getD z.toNat 0) (by rw [List.getD_eq_getElem?_getD, List.getElem?_eq_getElem (by omega)]; exact List.getElem_mem _)
    rw [Nat.testBit_or, Bt.msk_bit, Bt.msk_bit, Bt.msk_bit, decide_eq_true hzn, Bool.true_and, Bool.true_and, Bool.true_and]
    generalize cs.getD z.toNat 0 = c at *
    constructor
    · rw [Bool.eq_iff_iff, decide_eq_true_eq, beq_iff_eq]
    · have : c = 0 ∨ c = 1 ∨ c = 2 := by omega
      rcases hx with ⟨rfl, rfl⟩ | ⟨rfl, rfl⟩ <;> rcases this with rfl | rfl | rfl <;> rfl
  unfold encS encA
  rw [Int.toNat_natCast]
  have e0 : decide (cs.getD p 0 = 0) = (cs.getD p 0 == 0) := by rw [Bool.eq_iff_iff, decide_eq_true_eq, beq_iff_eq]
  rw [e0]
  generalize (cs.getD p 0 == 0) = b0
  generalize Pt.nbs s p = l at *
  have e1 : (l.any fun z => (Bt.msk cs x n).testBit z.toNat) = l.any fun z => cs.getD z.toNat 0 == x := any_cong fun z hz => (key z hz).1
  have e2 : (l.any fun z => (Bt.msk cs 0 n ||| Bt.msk cs y n).testBit z.toNat) = l.any fun z => !(cs.getD z.toNat 0 == x) := any_cong fun z hz => (key z hz).2
  rw [e1, e2, List.not_any_eq_all_not]
  simp only [Bool.not_not]
  cases l with
  | nil => simp
  | cons z l =>
    rw [List.any_cons, List.all_cons, List.length_cons, decide_eq_true (Nat.succ_pos _)]
    generalize (cs.getD z.toNat 0 == x) = a
    generalize (l.any fun z => cs.getD z.toNat 0 == x) = b
    generalize (l.all fun z => cs.getD z.toNat 0 == x) = c
    cases a <;> cases b <;> cases c <;> cases b0 <;> rfl
end
end Go.Proofs.YteldfjibmaigiaaDoor
