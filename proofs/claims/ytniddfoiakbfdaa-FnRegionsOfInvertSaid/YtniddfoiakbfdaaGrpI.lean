/-
  The group of a stone in both packages: for every board and every int.
-/
import Derived.Test.YtniddfoiakbfdaaUnS
import Derived.Test.YtniddfoiakbfdaaSpecVB
import Derived.Test.YtniddfoiakbfdaaLibs
namespace Go.Proofs.Ytniddfoiakbfdaa
set_option maxRecDepth 100000
open Go.RowKit

/-- Is there a stone? -/
def hst (s : Int) (cs : List Int) (p : Int) : Bool := Bd.okB s cs && (Pt.okP s p && !(cs.getD p.toNat 0 == 0))

/-- The group of a stone, as a list; nothing where there is no stone. -/
def GrpIs (s : Int) (n : Nat) (cs : List Int) (p : Int) (l : List Int) : Prop := (hst s cs p = true → Reached s n (hasCol (cs.getD p.toNat 0) cs) p l) ∧ (hst s cs p = false → l = [])

theorem pts_ext {S T : List Bool} {n : Nat} (h : ∀ q, q < n → S.getD q false = T.getD q false) : Fl.pts S n = Fl.pts T n := by
  unfold Fl.pts
  congr 1
  refine List.filter_congr fun q hq => ?_
  exact h q (List.mem_range.1 hq)

theorem Reached.one {s : Int} {n : Nat} {keep : List Bool} {p : Int} {l l' : List Int} (h : Reached s n keep p l) (h' : Reached s n keep p l') : l = l' := by
  obtain ⟨S, _, hS, rfl⟩ := h
  obtain ⟨T, _, hT, rfl⟩ := h'
  refine pts_ext fun q _ => ?_
  have e1 := hS (q : Int) (by omega)
  have e2 := hT (q : Int) (by omega)
  unfold Fl.at_ at e1 e2
  rw [Int.toNat_natCast] at e1 e2
  rw [Bool.eq_iff_iff]
  exact e1.trans e2.symm

theorem GrpIs.one {s : Int} {n : Nat} {cs : List Int} {p : Int} {l l' : List Int} (h : GrpIs s n cs p l) (h' : GrpIs s n cs p l') : l = l' := by
  rcases Bool.eq_false_or_eq_true (hst s cs p) with e | e
  · exact (h.1 e).one (h'.1 e)
  · rw [h.2 e, h'.2 e]

/-- The marks of the points of a property. -/
theorem marks_of (n : Nat) (P : Nat → Prop) : ∃ S : List Bool, S.length = n ∧ ∀ q, q < n → (S.getD q false = true ↔ P q) := by
  induction n with
  | zero => exact ⟨[], rfl, fun q h => absurd h (by omega)⟩
  | succ n ih =>
    obtain ⟨S, hl, h⟩ := ih
    have key : ∀ b : Bool, (b = true ↔ P n) → ∃ S : List Bool, S.length = n + 1 ∧ ∀ q, q < n + 1 → (S.getD q false = true ↔ P q) := by
      intro b hb
      refine ⟨S ++ [b], by simp [hl], fun q hq => ?_⟩
      by_cases e : q = n
      · subst e
        simp [List.getD_eq_getElem?_getD, ← hl, hb]
      · rw [List.getD_eq_getElem?_getD, List.getElem?_append_left (by omega), ← List.getD_eq_getElem?_getD]
        exact h q (by omega)
    by_cases hp : P n
    · exact key true (by simp [hp])
    · exact key false (by simp [hp])

theorem Reached.make {s : Int} {n : Nat} (h1 : 1 ≤ s) (h2 : s ≤ 7) (hn : (n : Int) = s * s) (keep : List Bool) {p : Int} (hp : 0 ≤ p ∧ p < n) : ∃ l, Reached s n keep p l := by
  obtain ⟨S, hl, h⟩ := marks_of n fun q => Fl.Reach s keep p (q : Int)
  refine ⟨Fl.pts S n, S, hl, fun y hy => ?_, rfl⟩
  obtain ⟨q, rfl⟩ := Int.eq_ofNat_of_zero_le hy
  by_cases hq : q < n
  · have := h q hq
    unfold Fl.at_
    rw [Int.toNat_natCast]
    exact this
  · constructor
    · intro e
      unfold Fl.at_ at e
      rw [Int.toNat_natCast, List.getD_eq_getElem?_getD, List.getElem?_eq_none (by omega)] at e
      cases e
    · intro e
      have := (Fl.reach_in (nbs_in h1 h2 hn) hp e).2
      omega

theorem hst_iff {s : Int} {cs : List Int} {p : Int} (h : hst s cs p = true) : Bd.okB s cs = true ∧ Pt.okP s p = true ∧ cs.getD p.toNat 0 ≠ 0 := by
  unfold hst at h
  simp only [Bool.and_eq_true, Bool.not_eq_true', beq_eq_false_iff_ne] at h
  exact ⟨h.1, h.2.1, h.2.2⟩

theorem GrpIs.make (s : Int) (n : Nat) (cs : List Int) (p : Int) (hn : cs.length = n) : ∃ l, GrpIs s n cs p l := by
  rcases Bool.eq_false_or_eq_true (hst s cs p) with e | e
  · obtain ⟨a, b, _⟩ := hst_iff e
    obtain ⟨q1, q2, q3, _⟩ := (Bd.okB_iff s cs).1 a
    obtain ⟨_, _, p1, p2⟩ := (Pt.okP_iff s p).1 b
    obtain ⟨l, hl⟩ := Reached.make q1 q2 (n := n) (by omega) (hasCol (cs.getD p.toNat 0) cs) ⟨p1, by omega⟩
    exact ⟨l, ⟨fun _ => hl, fun h => absurd (e.symm.trans h) (by decide)⟩⟩
  · exact ⟨[], ⟨fun h => absurd (e.symm.trans h) (by decide), fun _ => rfl⟩⟩

theorem GrpIs.few {s : Int} {n : Nat} {cs : List Int} {p : Int} {l : List Int} (h : GrpIs s n cs p l) : l.length ≤ n := by
  rcases Bool.eq_false_or_eq_true (hst s cs p) with e | e
  · exact (h.1 e).few
  · rw [h.2 e]; exact Nat.zero_le _

set_option maxRecDepth 100000 in
set_option maxHeartbeats 4000000 in
theorem i_hasStone (s p : Int) (w : World) (B : Nat) (A : Option Addr) (n c : Nat) (cs : List Int) (h : Ints w B A n cs) (hB : B ≤ w.heap.size) (hn : n ≤ 1000000000) :
    Calls Try.prog 66 #[.agg #[.int .i64 s, .slice A n c], .int .i64 p] w fun e w' => e = .returned (.bool (hst s cs p)) ∧ Below w.heap.size w w' := by
  have hb1 : Below w.heap.size w (w.alloc (.cells #[.int .i64 s, .slice A n c] 25)) := (Below.refl _ _).alloc (Nat.le_refl _) _
  have hl := h.1
  have X0 := Lib.hid (Bx.new 25 w s (.slice A n c))
  have H := Lib.hid (h.below hb1 hB)
  have Hb := Lib.hid hb1
  clear h hb1
  by_cases hv : Bd.okB s cs = true
  · obtain ⟨q1, q2, q3, _⟩ := (Bd.okB_iff s cs).1 hv
    have q4 := Pt.sq_bd s q1 q2
    have hn49 : n ≤ 49 := by omega
    by_cases hp : Pt.okP s p = true
    · obtain ⟨_, _, p1, p2⟩ := (Pt.okP_iff s p).1 hp
      have hpp : (decide (0 ≤ p) && decide (p < s * s)) = true := by simp [p1, p2]
      obtain ⟨q, rfl⟩ := Int.eq_ofNat_of_zero_le p1
      have hqn : q < n := by omega
      by_cases hz : cs.getD q 0 = 0
      · have hh : hst s cs (q : Int) = false := by unfold hst; rw [hv, hp, Int.toNat_natCast, hz]; rfl
        have Hh := Lib.hid hh
        clear hh
        go_enter Try.func66, Try.ntmps66
        go_wp2_with fail
        refine (i_validBoard _ _ _ _ _ _ _ H.out (by simp; omega) (by omega)).mono ?_
        rintro e y2 ⟨rfl, hb⟩
        rw [hv]
        have X2 := Lib.hid (X0.out.below hb X0.out.lt)
        have H2 := Lib.hid (H.out.below hb (by simp; omega))
        have Hb2 := Lib.hid (Hb.out.trans (hb.mono (by simp)))
        have zy2 := hb.size
        clear hb X0 H Hb
        have u00 := X2.out.cell0
        have u01 := X2.out.cell1
        have u02 := X2.out.lt
        clear hv
        go_wp2_with fail
        refine (i_point _ _ _).mono ?_
        rintro e w' ⟨rfl, rfl⟩
        rw [hp]
        clear hp hpp
        obtain ⟨b, o, rfl, hbB, hc⟩ : ∃ b o, A = some ⟨b, o, none⟩ ∧ b < B ∧ ∀ j, j < n → y2.cell? ⟨b, o + j, none⟩ = some (.int .i64 (cs.getD j 0)) := by
          rcases H2.out.2 with h0 | ⟨b, o, hA, hbB, hc⟩
          · omega
          · exact ⟨b, o, hA, hbB, hc⟩
        have ck := hc q hqn
        rw [hz] at ck
        clear hc hz
        go_wp2_with fail
        go_ret
        exact ⟨by rw [Hh.out]; rfl, Hb2.out⟩
      · have hh : hst s cs (q : Int) = true := by unfold hst; rw [hv, hp, Int.toNat_natCast]; simpa using hz
        have Hh := Lib.hid hh
        clear hh
        go_enter Try.func66, Try.ntmps66
        go_wp2_with fail
        refine (i_validBoard _ _ _ _ _ _ _ H.out (by simp; omega) (by omega)).mono ?_
        rintro e y2 ⟨rfl, hb⟩
        rw [hv]
        have X2 := Lib.hid (X0.out.below hb X0.out.lt)
        have H2 := Lib.hid (H.out.below hb (by simp; omega))
        have Hb2 := Lib.hid (Hb.out.trans (hb.mono (by simp)))
        have zy2 := hb.size
        clear hb X0 H Hb
        have u00 := X2.out.cell0
        have u01 := X2.out.cell1
        have u02 := X2.out.lt
        clear hv
        go_wp2_with fail
        refine (i_point _ _ _).mono ?_
        rintro e w' ⟨rfl, rfl⟩
        rw [hp]
        clear hp hpp
        obtain ⟨b, o, rfl, hbB, hc⟩ : ∃ b o, A = some ⟨b, o, none⟩ ∧ b < B ∧ ∀ j, j < n → y2.cell? ⟨b, o + j, none⟩ = some (.int .i64 (cs.getD j 0)) := by
          rcases H2.out.2 with h0 | ⟨b, o, hA, hbB, hc⟩
          · omega
          · exact ⟨b, o, hA, hbB, hc⟩
        have ck := hc q hqn
        obtain ⟨x, hx⟩ : ∃ x, cs.getD q 0 = x := ⟨_, rfl⟩
        have Hx := Lib.hid hx
        rw [hx] at ck hz
        have hxb : (x != 0) = true := by simpa using hz
        have hxc : (x == 0) = false := by simpa using hz
        clear hc hx hz
        go_wp2_with fail
        go_ret
        exact ⟨by rw [Hh.out]; rfl, Hb2.out⟩
    · have hp' : Pt.okP s p = false := by simpa using hp
      have hh : hst s cs p = false := by unfold hst; rw [hp']; simp
      have Hh := Lib.hid hh
      clear hh hp
      have hp := hp'
      have hpp : (decide (0 ≤ p) && decide (p < s * s)) = false := by
        rcases Bool.eq_false_or_eq_true (decide (0 ≤ p) && decide (p < s * s)) with e | e
        · rw [Bool.and_eq_true, decide_eq_true_eq, decide_eq_true_eq] at e
          rw [(Pt.okP_iff s p).2 ⟨q1, q2, e.1, e.2⟩] at hp'
          cases hp'
        · exact e
      clear hp'
      go_enter Try.func66, Try.ntmps66
      go_wp2_with fail
      refine (i_validBoard _ _ _ _ _ _ _ H.out (by simp; omega) (by omega)).mono ?_
      rintro e y2 ⟨rfl, hb⟩
      rw [hv]
      have X2 := Lib.hid (X0.out.below hb X0.out.lt)
      have H2 := Lib.hid (H.out.below hb (by simp; omega))
      have Hb2 := Lib.hid (Hb.out.trans (hb.mono (by simp)))
      have zy2 := hb.size
      clear hb X0 H Hb
      have u00 := X2.out.cell0
      have u01 := X2.out.cell1
      have u02 := X2.out.lt
      clear hv
      go_wp2_with fail
      refine (i_point _ _ _).mono ?_
      rintro e w' ⟨rfl, rfl⟩
      rw [hp]
      clear hp hpp
      go_wp2_with fail
      go_ret
      exact ⟨by rw [Hh.out]; rfl, Hb2.out⟩
  · have hv' : Bd.okB s cs = false := by simpa using hv
    have hh : hst s cs p = false := by unfold hst; rw [hv']; rfl
    have Hh := Lib.hid hh
    clear hh hv
    have hv := hv'
    clear hv'
    go_enter Try.func66, Try.ntmps66
    go_wp2_with fail
    refine (i_validBoard _ _ _ _ _ _ _ H.out (by simp; omega) (by omega)).mono ?_
    rintro e y2 ⟨rfl, hb⟩
    rw [hv]
    have X2 := Lib.hid (X0.out.below hb X0.out.lt)
    have H2 := Lib.hid (H.out.below hb (by simp; omega))
    have Hb2 := Lib.hid (Hb.out.trans (hb.mono (by simp)))
    have zy2 := hb.size
    clear hb X0 H Hb
    have u00 := X2.out.cell0
    have u01 := X2.out.cell1
    have u02 := X2.out.lt
    clear hv
    go_wp2_with fail
    go_ret
    exact ⟨by rw [Hh.out]; rfl, Hb2.out⟩

theorem inSet_reached {s : Int} {n : Nat} {cs : List Int} {r : Nat → Nat} {q : Nat} (h1 : 1 ≤ s) (h2 : s ≤ 7) (hn : (n : Int) = s * s) (hl : cs.length = n) (h : Un.Jn s n cs r n 0) (hq : q < n) : Reached s n (hasCol (cs.getD q 0) cs) (q : Int) (Fl.pts (inSet r q n) n) := by
  refine ⟨inSet r q n, inSet_len _ _ _, fun y hy => ?_, rfl⟩
  obtain ⟨z, rfl⟩ := Int.eq_ofNat_of_zero_le hy
  have e : hasCol (cs.getD q 0) cs = Un.col cs q := rfl
  by_cases hz : z < n
  · have := h.iff (nbs_in h1 h2 hn) hl hq (z : Int) ⟨by omega, by omega⟩
    rw [e, ← this]
    unfold Fl.at_
    rw [Int.toNat_natCast, inSet_at hz]
    simp
  · constructor
    · intro e
      unfold Fl.at_ at e
      rw [Int.toNat_natCast, List.getD_eq_getElem?_getD, List.getElem?_eq_none (by rw [inSet_len]; omega)] at e
      cases e
    · intro e
      have := (Fl.reach_in (nbs_in h1 h2 hn) ⟨by omega, by omega⟩ e).2
      omega

end Go.Proofs.Ytniddfoiakbfdaa
