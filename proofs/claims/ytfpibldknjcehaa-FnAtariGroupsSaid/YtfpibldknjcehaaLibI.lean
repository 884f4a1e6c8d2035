/-
  The liberties of a stone in both packages: for every board and every int.
-/
import Derived.Test.YtfpibldknjcehaaNextTo
namespace Go.Proofs.Ytfpibldknjcehaa
set_option maxRecDepth 100000
open Go.RowKit

theorem bi_one {s x : Int} {n : Nat} {cs L : List Int} {S T : List Bool} (h : Bs.BI s n cs x L [] S) (h' : Bs.BI s n cs x L [] T) : Fl.pts S n = Fl.pts T n := by
  refine pts_ext fun q hq => ?_
  have e1 := h.all (q : Int) (by omega) (by omega)
  have e2 := h'.all (q : Int) (by omega) (by omega)
  unfold Fl.at_ at e1 e2
  rw [Int.toNat_natCast] at e1 e2
  rw [Bool.eq_iff_iff]
  exact e1.trans e2.symm

theorem bi_make (s x : Int) (n : Nat) (cs L : List Int) : ∃ S, Bs.BI s n cs x L [] S := by
  obtain ⟨S, hl, h⟩ := marks_of n fun q => (cs.getD q 0 == x) = true ∧ ∃ z ∈ L, (q : Int) ∈ Pt.nbs s z
  refine ⟨S, hl, fun y h0 hn => ?_⟩
  obtain ⟨q, rfl⟩ := Int.eq_ofNat_of_zero_le h0
  unfold Fl.at_
  rw [Int.toNat_natCast, h q (by omega)]
  simp

theorem bi_none {s x : Int} {n : Nat} {cs : List Int} {S : List Bool} (h : Bs.BI s n cs x [] [] S) : Fl.pts S n = [] := by
  rw [bi_one h (Bs.start s n cs x)]
  unfold Fl.pts
  rw [List.map_eq_nil_iff, List.filter_eq_nil_iff]
  intro q _
  rw [List.getD_eq_getElem?_getD, List.getElem?_replicate]
  split <;> simp

/-- The liberties of a stone, as a list; nothing where there is no stone. -/
def LibIs (s : Int) (n : Nat) (cs : List Int) (p : Int) (l : List Int) : Prop := ∃ g S, GrpIs s n cs p g ∧ Bs.BI s n cs 0 g [] S ∧ l = Fl.pts S n

theorem LibIs.make (s : Int) (n : Nat) (cs : List Int) (p : Int) (hn : cs.length = n) : ∃ l, LibIs s n cs p l := by
  obtain ⟨g, hg⟩ := GrpIs.make s n cs p hn
  obtain ⟨S, hS⟩ := bi_make s 0 n cs g
  exact ⟨_, g, S, hg, hS, rfl⟩

theorem LibIs.few {s : Int} {n : Nat} {cs : List Int} {p : Int} {l : List Int} (h : LibIs s n cs p l) : l.length ≤ n := by
  obtain ⟨_, S, _, _, rfl⟩ := h
  exact Fl.pts_len S n

theorem LibIs.of {s : Int} {n : Nat} {cs : List Int} {p : Int} {l g : List Int} {S : List Bool} (h : LibIs s n cs p l) (hg : GrpIs s n cs p g) (hS : Bs.BI s n cs 0 g [] S) : Fl.pts S n = l := by
  obtain ⟨g', S', hg', hS', rfl⟩ := h
  rw [hg'.one hg] at hS'
  exact bi_one hS hS'

theorem LibIs.nil {s : Int} {n : Nat} {cs : List Int} {p : Int} {l : List Int} (h : LibIs s n cs p l) (hh : hst s cs p = false) : l = [] := by
  obtain ⟨g', S', hg', hS', rfl⟩ := h
  rw [hg'.2 hh] at hS'
  exact bi_none hS'

theorem LibIs.one {s : Int} {n : Nat} {cs : List Int} {p : Int} {l l' : List Int} (h : LibIs s n cs p l) (h' : LibIs s n cs p l') : l = l' := by
  obtain ⟨g', S', hg', hS', rfl⟩ := h
  exact h'.of hg' hS'

theorem GrpIs.fit {s : Int} {n m : Nat} {cs g : List Int} {p : Int} (h : GrpIs s n cs p g) (hl : cs.length = n) (hm : g.length = m) (hn : n ≤ 1000000000) :
    (m = 0 ∨ (1 ≤ s ∧ s ≤ 7 ∧ (n : Int) = s * s)) ∧ (∀ j, j < m → 0 ≤ g.getD j 0 ∧ g.getD j 0 < n) ∧ m ≤ 1000 := by
  rcases Bool.eq_false_or_eq_true (hst s cs p) with e | e
  · obtain ⟨a, _, _⟩ := hst_iff e
    obtain ⟨q1, q2, q3, _⟩ := (Bd.okB_iff s cs).1 a
    have q4 := Pt.sq_bd s q1 q2
    have hf := (h.1 e).few
    exact ⟨.inr ⟨q1, q2, by omega⟩, fun j hj => (h.1 e).small j (by omega), by omega⟩
  · have := h.2 e
    subst this
    have : m = 0 := by simpa using hm.symm
    subst this
    exact ⟨.inl rfl, fun j hj => absurd hj (by omega), by omega⟩

set_option maxRecDepth 100000 in
set_option maxHeartbeats 4000000 in
theorem i_LibertiesOf (s p : Int) (w : World) (B : Nat) (A : Option Addr) (n c : Nat) (cs : List Int) (h : Ints w B A n cs) (hB : B ≤ w.heap.size) (hn : n ≤ 1048576) (l : List Int) (Hl : Hid (LibIs s n cs p l)) :
    Calls Try.prog 54 #[.agg #[.int .i64 s, .slice A n c], .int .i64 p] w fun e w' => ∃ A' m' c', e = .returned (.slice A' m' c') ∧ Own w' w.heap.size A' m' c' l ∧ Below w.heap.size w w' := by
  have hb1 : Below w.heap.size w (w.alloc (.cells #[.int .i64 s, .slice A n c] 25)) := (Below.refl _ _).alloc (Nat.le_refl _) _
  have hl := h.1
  obtain ⟨g, hg⟩ := GrpIs.make s n cs p hl
  have hf := hg.few
  have Hg := Lib.hid hg
  have X0 := Lib.hid (Bx.new 25 w s (.slice A n c))
  have H := Lib.hid (h.below hb1 hB)
  have Hb := Lib.hid hb1
  have HL := Lib.hid hl
  clear h hb1 hg hl
  go_enter Try.func54, Try.ntmps54
  go_upto_region 1 with (fail)
  obtain ⟨y0, hy⟩ : ∃ y, y = w.alloc (.cells #[.int .i64 s, .slice A n c] 25) := ⟨_, rfl⟩
  have hyz : w.heap.size < y0.heap.size := by rw [hy]; simp
  rw [← hy] at X0 H Hb ⊢
  clear hy
  have u0 := X0.out.cell0
  have u1 := X0.out.cell1
  have ul := X0.out.lt
  go_cut [4] (fun v wx => ∃ A' m' c', v = .slice A' m' c' ∧ Own wx w.heap.size A' m' c' l ∧ Below w.heap.size w wx)
  case first =>
    go_region_with (first | (go_at_call 42; refine (i_GroupOf s p _ B _ n _ cs (by exact H.out) ?_ (by omega) g Hg).mono ?_; (show B ≤ y0.heap.size; omega); rintro e ya ⟨Aa, ma, ca, rfl, hoa, hba⟩; have hbw : Below y0.heap.size y0 ya := ⟨hba.os, hba.tape, hba.output, hba.size, hba.block⟩; have za := hbw.size; have u2 := (X0.out.below hbw ul).cell0; have u3 := (X0.out.below hbw ul).cell1; have Hoa : Hid (Own ya y0.heap.size Aa ma ca g) := Lib.hid hoa; have Hba := Lib.hid hbw; clear hoa hba hbw) | (go_at_call 97; refine (i_emptyNextTo s _ B _ _ _ n _ ma ca cs g (by exact H.out.below Hba.out (by omega)) (by exact Hoa.out.ints) ?_ ?_ (Hg.out.fit HL.out Hoa.out.1 (by omega)).1 (Hg.out.fit HL.out Hoa.out.1 (by omega)).2.1 (Hg.out.fit HL.out Hoa.out.1 (by omega)).2.2 hn).mono ?_; (show B ≤ ya.heap.size; omega); (show ya.heap.size ≤ ya.heap.size; omega); rintro e yb ⟨Ab, mb, cb, S, rfl, hob, hS, hbb⟩; rw [Hl.out.of Hg.out hS] at hob; have Hob : Hid (Own yb y0.heap.size Ab mb cb l) := Lib.hid (Own.weaken hob za); have Hbb : Hid (Below y0.heap.size y0 yb) := Lib.hid (Hba.out.trans ((show Below ya.heap.size ya yb from ⟨hbb.os, hbb.tape, hbb.output, hbb.size, hbb.block⟩).mono za)); clear hob hS hbb))
    all_goals go_wp2_with fail
    all_goals go_meet
    all_goals exact ⟨_, _, _, rfl, Hob.out.weaken (by omega), Hb.out.trans (Hbb.out.mono (by omega))⟩
  case rest =>
    obtain ⟨A9, m9, c9, rfl, ho, hb⟩ := hcut
    have Ho := Lib.hid ho
    have Hb9 := Lib.hid hb
    clear ho hb
    go_wp2_with fail
    go_ret
    exact ⟨_, _, _, rfl, Ho.out, Hb9.out⟩
end Go.Proofs.Ytfpibldknjcehaa
