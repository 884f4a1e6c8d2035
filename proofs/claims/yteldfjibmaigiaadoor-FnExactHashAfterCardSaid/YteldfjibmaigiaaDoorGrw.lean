/-
  Growing a set of points in an area, as bits: what is reached at the end; stones without liberties.
-/
import Derived.Test.YteldfjibmaigiaaDoorRmPure
import Derived.Test.YteldfjibmaigiaaDoorPureMk
import Derived.Test.YteldfjibmaigiaaDoorPureBg
import Derived.Test.YteldfjibmaigiaaDoorPureUn
import Derived.Test.YteldfjibmaigiaaDoorSortP
import Derived.Test.YteldfjibmaigiaaDoorFactPt
namespace Go.Proofs.YteldfjibmaigiaaDoor
set_option maxRecDepth 100000

namespace Gw
theorem nin {s : Int} {n : Nat} (h1 : 1 ≤ s) (h2 : s ≤ 7) (hn : (n : Int) = s * s) : ∀ x : Int, 0 ≤ x → x < n → ∀ y ∈ Pt.nbs s x, 0 ≤ y ∧ y < n := by
  intro x h0 hx y hy
  obtain ⟨m1, _, _⟩ := Pt.nbs_all s x h1 h2 h0 (by omega)
  have := List.all_eq_true.1 m1 y hy
  simp only [Bool.and_eq_true, decide_eq_true_eq] at this
  obtain ⟨_, _, a, b⟩ := (Pt.okP_iff s y).1 this.1.1
  exact ⟨a, by omega⟩
theorem nsy {s : Int} {n : Nat} (h1 : 1 ≤ s) (h2 : s ≤ 7) (hn : (n : Int) = s * s) : ∀ x : Int, 0 ≤ x → x < n → ∀ y ∈ Pt.nbs s x, x ∈ Pt.nbs s y := by
  intro x h0 hx y hy
  obtain ⟨m1, _, _⟩ := Pt.nbs_all s x h1 h2 h0 (by omega)
  have := List.all_eq_true.1 m1 y hy
  simp only [Bool.and_eq_true, decide_eq_true_eq] at this
  simpa using this.1.2

/-- The set and the marks are the same points. -/
def Same (a : Nat) (keep : List Bool) : Prop := ∀ q : Nat, a.testBit q = Fl.at_ keep (q : Int)

/-- What a growing set keeps. -/
structure Gi (s : Nat) (a m : Nat) (keep : List Bool) (g : Nat) : Prop where
  sub : ∀ q, g.testBit q = true → a.testBit q = true
  start : ∀ q, m.testBit q = true → a.testBit q = true → g.testBit q = true
  sound : ∀ q : Nat, g.testBit q = true → ∃ y : Nat, m.testBit y = true ∧ a.testBit y = true ∧ Fl.Reach s keep (y : Int) (q : Int)

/-- All that is reached. -/
def Gr (s : Nat) (a m : Nat) (keep : List Bool) (g : Nat) : Prop :=
  ∀ q : Nat, g.testBit q = true ↔ ∃ y : Nat, m.testBit y = true ∧ a.testBit y = true ∧ Fl.Reach s keep (y : Int) (q : Int)

section
variable {s a m g : Nat} {keep : List Bool}
theorem Gi.begin : Gi s a m keep (m &&& a) := by
  refine ⟨fun q h => ?_, fun q h h' => ?_, fun q h => ?_⟩
  · rw [Nat.testBit_and, Bool.and_eq_true] at h; exact h.2
  · rw [Nat.testBit_and, h, h']; rfl
  · rw [Nat.testBit_and, Bool.and_eq_true] at h
    exact ⟨q, h.1, h.2, .base⟩
theorem Gi.lt (h : Gi s a m keep g) {n : Nat} (ha : a < 2 ^ n) : g < 2 ^ n := by
  apply Nat.lt_pow_two_of_testBit
  intro i hi
  rcases hb : g.testBit i with _ | _
  · rfl
  · have := h.sub i hb
    rw [Bt.high ha hi] at this
    cases this

theorem Gi.next (h : Gi s a m keep g) (h1 : 1 ≤ s) (h2 : s ≤ 7) (ha : a < 2 ^ (s * s)) (hk : Same a keep) : Gi s a m keep (g ||| (Bt.aro s g &&& a)) := by
  have hg := h.lt ha
  have hn : ((s * s : Nat) : Int) = (s : Int) * s := by push_cast; rfl
  refine ⟨fun q hq => ?_, fun q hm hq => ?_, fun q hq => ?_⟩
  · rw [Nat.testBit_or, Nat.testBit_and, Bool.or_eq_true, Bool.and_eq_true] at hq
    rcases hq with hq | hq
    · exact h.sub q hq
    · exact hq.2
  · rw [Nat.testBit_or, h.start q hm hq]; rfl
  · rw [Nat.testBit_or, Nat.testBit_and, Bool.or_eq_true, Bool.and_eq_true] at hq
    rcases hq with hq | ⟨hq, hqa⟩
    · exact h.sound q hq
    · rw [Bt.aro_bit s g q h1 h2 hg, Bool.and_eq_true, List.any_eq_true] at hq
      obtain ⟨hqn, z, hz, hzg⟩ := hq
      have hqn' : q < s * s := by simpa using hqn
      obtain ⟨z0, zn⟩ := nin (n := s * s) (by omega) (by omega) hn (q : Int) (by omega) (by omega) z hz
      obtain ⟨y, hy1, hy2, hy3⟩ := h.sound z.toNat hzg
      have ez : ((z.toNat : Nat) : Int) = z := by omega
      rw [ez] at hy3
      exact ⟨y, hy1, hy2, .step hy3 (nsy (n := s * s) (by omega) (by omega) hn (q : Int) (by omega) (by omega) z hz) (by rw [← hk q]; exact hqa)⟩

theorem Gi.stop (h : Gi s a m keep g) (h1 : 1 ≤ s) (h2 : s ≤ 7) (ha : a < 2 ^ (s * s)) (hk : Same a keep) (he : g ||| (Bt.aro s g &&& a) = g) : Gr s a m keep g := by
  have hg := h.lt ha
  have hn : ((s * s : Nat) : Int) = (s : Int) * s := by push_cast; rfl
  intro q
  refine ⟨h.sound q, ?_⟩
  rintro ⟨y, hm, hy, hr⟩
  have hyn : y < s * s := by
    rcases Nat.lt_or_ge y (s * s) with hlt | hge
    · exact hlt
    · rw [Bt.high ha hge] at hy; cases hy
  have key : ∀ x : Int, Fl.Reach s keep (y : Int) x → 0 ≤ x ∧ x < (s * s : Nat) ∧ g.testBit x.toNat = true := by
    intro x hx
    induction hx with
    | base => exact ⟨by omega, by omega, by simpa using h.start y hm hy⟩
    | @step x z hxr hz hkz ih =>
      obtain ⟨x0, xn, hxg⟩ := ih
      obtain ⟨z0, zn⟩ := nin (n := s * s) (by omega) (by omega) hn x x0 xn z hz
      refine ⟨z0, zn, ?_⟩
      rw [← he, Nat.testBit_or, Nat.testBit_and, Bt.aro_bit s g z.toNat h1 h2 hg]
      have ez : ((z.toNat : Nat) : Int) = z := by omega
      have e1 : (Pt.nbs (s : Int) ((z.toNat : Nat) : Int)).any (fun x => g.testBit x.toNat) = true := by
        rw [List.any_eq_true, ez]
        exact ⟨x, nsy (n := s * s) (by omega) (by omega) hn x x0 xn z hz, hxg⟩
      have e2 : a.testBit z.toNat = true := by rw [hk, ez]; exact hkz
      have e3 : decide (z.toNat < s * s) = true := by simp; omega
      rw [e1, e2, e3]; simp
  have := key _ hr
  simpa using this.2.2

theorem up (g x : Nat) : g ≤ g ||| x := Nat.left_le_or
end

section
variable {s n : Nat} {cs : List Int} {x : Int}
theorem same_msk (hl : cs.length = n) (x : Int) : Same (Bt.msk cs x n) (hasCol x cs) := by
  intro q
  rw [Bt.msk_bit]
  unfold Fl.at_
  by_cases h : q < n
  · have : ((q : Int)).toNat = q := by omega
    rw [this, hasCol_at (by omega), decide_eq_true h, Bool.true_and]
    by_cases e : cs.getD q 0 = x
    · rw [e]; simp
    · have e1 : decide (cs.getD q 0 = x) = false := by simpa using e
      have e2 : (cs.getD q 0 == x) = false := by simpa using e
      rw [e1, e2]
  · have : ((q : Int)).toNat = q := by omega
    rw [this, decide_eq_false h, Bool.false_and, List.getD_eq_getElem?_getD, List.getElem?_eq_none (by rw [hasCol_len]; omega)]
    rfl

/-- A stone's group has no liberty if the set grown from the points beside empty ones does not have it. -/
theorem noLib (h1 : 1 ≤ s) (h2 : s ≤ 7) (hn : n = s * s) (hl : cs.length = n) {g : Nat} (hg : Gr s (Bt.msk cs x n) (Bt.aro s (Bt.msk cs 0 n)) (hasCol x cs) g) {q : Nat} (hq : q < n) (hx : cs.getD q 0 = x) :
    g.testBit q = false ↔ NoLib s n cs (q : Nat) := by
  subst hn
  have hn : ((s * s : Nat) : Int) = (s : Int) * s := by push_cast; rfl
  have hnn := nin (n := s * s) (s := s) (by omega) (by omega) hn
  have hsy := nsy (n := s * s) (s := s) (by omega) (by omega) hn
  have hE := Bt.msk_lt cs 0 (s * s)
  have hk := same_msk hl x
  have ex : cs.getD ((q : Int)).toNat 0 = x := by simpa using hx
  have hself : Fl.at_ (hasCol x cs) (q : Int) = true := by
    rw [← hk q, Bt.msk_bit]; simp [hq]; exact hx
  constructor
  · intro hf y y0 yn hy z z0 zn hr hm
    rw [ex] at hr
    have : g.testBit q = true := by
      rw [hg q]
      have ez : ((z.toNat : Nat) : Int) = z := by omega
      refine ⟨z.toNat, ?_, ?_, ?_⟩
      · rw [Bt.aro_bit s _ _ h1 h2 hE, ez]
        have e1 : decide (z.toNat < s * s) = true := by simp; omega
        rw [e1, Bool.true_and, List.any_eq_true]
        refine ⟨y, hm, ?_⟩
        rw [Bt.msk_bit]
        have e2 : decide (y.toNat < s * s) = true := by simp; omega
        rw [e2, Bool.true_and, decide_eq_true_eq]
        simpa using hy
      · rw [hk, ez]; exact Un.reach_kept hself hr
      · rw [ez]; exact Un.reach_back hnn hsy ⟨by omega, by omega⟩ hself hr
    rw [hf] at this; cases this
  · intro h
    rcases hb : g.testBit q with _ | _
    · rfl
    · exfalso
      obtain ⟨z, hz, hza, hr⟩ := (hg q).1 hb
      rw [Bt.aro_bit s _ _ h1 h2 hE, Bool.and_eq_true, List.any_eq_true] at hz
      obtain ⟨hzn, y, hy, hyE⟩ := hz
      have hzn' : z < s * s := by simpa using hzn
      obtain ⟨y0, yn⟩ := hnn (z : Int) (by omega) (by omega) y hy
      rw [Bt.msk_bit, Bool.and_eq_true, decide_eq_true_eq, decide_eq_true_eq] at hyE
      have hkz : Fl.at_ (hasCol x cs) (z : Int) = true := by rw [← hk z]; exact hza
      exact h y y0 yn (by simpa using hyE.2) (z : Int) (by omega) (by omega) (by rw [ex]; exact Un.reach_back hnn hsy ⟨by omega, by omega⟩ hkz hr) hy

/-- The stones of a color whose groups have no liberty. -/
def Nl (s n : Nat) (cs : List Int) (x : Int) (m : Nat) : Prop := ∀ q : Nat, m.testBit q = true ↔ q < n ∧ cs.getD q 0 = x ∧ NoLib s n cs (q : Nat)

theorem nl_of (h1 : 1 ≤ s) (h2 : s ≤ 7) (hn : n = s * s) (hl : cs.length = n) {g : Nat} (hg : Gr s (Bt.msk cs x n) (Bt.aro s (Bt.msk cs 0 n)) (hasCol x cs) g) (hgl : g < 18446744073709551616) :
    Nl s n cs x (Bt.msk cs x n &&& (18446744073709551615 - g)) := by
  intro q
  have hml := Bt.msk_lt cs x n
  have h7 := (Bt.masks s h1 h2).2.2.2.2.2.2
  rw [Bt.andNot_bit (by rw [hn] at hml ⊢; omega) hgl, Bt.msk_bit]
  simp only [Bool.and_eq_true, decide_eq_true_eq, Bool.not_eq_true']
  constructor
  · rintro ⟨⟨a, b⟩, c⟩; exact ⟨a, b, (noLib h1 h2 hn hl hg a b).1 c⟩
  · rintro ⟨a, b, c⟩; exact ⟨⟨a, b⟩, (noLib h1 h2 hn hl hg a b).2 c⟩

theorem Nl.one {m m' : Nat} (h : Nl s n cs x m) (h' : Nl s n cs x m') : m = m' := Nat.eq_of_testBit_eq fun q => by
  have := (h q).trans (h' q).symm
  rcases h3 : m.testBit q with _ | _ <;> rcases h4 : m'.testBit q with _ | _ <;> simp_all
theorem Nl.lt {m : Nat} (h : Nl s n cs x m) : m < 2 ^ n := by
  apply Nat.lt_pow_two_of_testBit
  intro i hi
  rcases hb : m.testBit i with _ | _
  · rfl
  · have := ((h i).1 hb).1; omega

/-- The marks of a loop over the points and the set. -/
theorem Nl.marks {m : Nat} {S : List Bool} {os : List Int} (h : Nl s n cs x m) (hr : RI s n cs x n S os) : ∀ i, i < n → m.testBit i = S.getD i false := by
  intro i hi
  have a := h i
  have b := hr.yes i hi
  rcases h3 : m.testBit i with _ | _ <;> rcases h4 : S.getD i false with _ | _ <;> simp_all
theorem Nl.pts {m : Nat} {S : List Bool} {os : List Int} (h : Nl s n cs x m) (hr : RI s n cs x n S os) : Bt.pts m n = Fl.pts S n := by
  unfold Bt.pts Fl.pts
  congr 1
  apply List.filter_congr
  intro q hq
  exact h.marks hr q (List.mem_range.1 hq)

theorem Nl.empty {m : Nat} {S : List Bool} {os : List Int} (h : Nl s n cs x m) (hr : RI s n cs x n S os) : Bt.msk os 0 n = Bt.msk cs 0 n ||| m := by
  apply Nat.eq_of_testBit_eq
  intro q
  rw [Nat.testBit_or, Bt.msk_bit, Bt.msk_bit]
  by_cases hq : q < n
  · rw [hr.out q hq, h.marks hr q hq]
    rcases S.getD q false with _ | _ <;> simp [hq]
  · have := Bt.high h.lt (j := q) (by omega)
    rw [this]; simp [hq]
theorem Nl.own {m : Nat} {S : List Bool} {os : List Int} (h : Nl s n cs x m) (hr : RI s n cs x n S os) (hx : x ≠ 0) (hm : Bt.msk cs x n < 18446744073709551616) (hm2 : m < 18446744073709551616) : Bt.msk os x n = Bt.msk cs x n &&& (18446744073709551615 - m) := by
  apply Nat.eq_of_testBit_eq
  intro q
  rw [Bt.andNot_bit hm hm2, Bt.msk_bit, Bt.msk_bit]
  by_cases hq : q < n
  · rw [hr.out q hq, h.marks hr q hq]
    rcases S.getD q false with _ | _
    · simp [hq]
    · simp [hq]; exact fun e => hx e.symm
  · simp [hq]
theorem Nl.other {m : Nat} {S : List Bool} {os : List Int} {y : Int} (h : Nl s n cs x m) (hr : RI s n cs x n S os) (hy : y ≠ 0) (hyx : y ≠ x) : Bt.msk os y n = Bt.msk cs y n := by
  apply Nat.eq_of_testBit_eq
  intro q
  rw [Bt.msk_bit, Bt.msk_bit]
  by_cases hq : q < n
  · rw [hr.out q hq, ← h.marks hr q hq]
    rcases hb : m.testBit q with _ | _
    · simp
    · have := ((h q).1 hb).2.1
      rw [this, if_pos rfl, decide_eq_false (fun e : (0 : Int) = y => hy e.symm), decide_eq_false (fun e : x = y => hyx e.symm)]
  · simp [hq]

/-- A stone that is placed. -/
theorem set_same {p : Nat} (hl : cs.length = n) (hp : p < n) (x : Int) : Bt.msk (cs.set p x) x n = Bt.msk cs x n ||| 2 ^ p := by
  apply Nat.eq_of_testBit_eq
  intro q
  rw [Nat.testBit_or, Bt.msk_bit, Bt.msk_bit, Nat.testBit_two_pow, Un.getD_set _ _ _ _ (by omega)]
  by_cases e : q = p
  · subst e; simp [hp]
  · rw [if_neg e, decide_eq_false (fun h : p = q => e h.symm), Bool.or_false]
theorem set_gone {p : Nat} (hl : cs.length = n) (hp : p < n) {x z : Int} (hz : z ≠ x) (hm : Bt.msk cs z n < 18446744073709551616) (hp64 : p < 64) : Bt.msk (cs.set p x) z n = Bt.msk cs z n &&& (18446744073709551615 - 2 ^ p) := by
  have h2 : 2 ^ p < 18446744073709551616 := by
    have : 2 ^ p < 2 ^ 64 := Nat.pow_lt_pow_right (by decide) hp64
    omega
  apply Nat.eq_of_testBit_eq
  intro q
  rw [Bt.andNot_bit hm h2, Bt.msk_bit, Bt.msk_bit, Nat.testBit_two_pow, Un.getD_set _ _ _ _ (by omega)]
  by_cases e : q = p
  · subst e; rw [if_pos rfl, decide_eq_false (fun h : x = z => hz h.symm)]; simp
  · rw [if_neg e, decide_eq_false (fun h : p = q => e h.symm)]; simp
theorem set_other {p : Nat} (hl : cs.length = n) (hp : p < n) {x z : Int} (hz : z ≠ x) (hc : cs.getD p 0 ≠ z) : Bt.msk (cs.set p x) z n = Bt.msk cs z n := by
  apply Nat.eq_of_testBit_eq
  intro q
  rw [Bt.msk_bit, Bt.msk_bit, Un.getD_set _ _ _ _ (by omega)]
  by_cases e : q = p
  · subst e; rw [if_pos rfl, decide_eq_false hc, decide_eq_false (fun h : x = z => hz h.symm)]
  · rw [if_neg e]
end

/-- Two lists in ascending order with the same elements. -/
theorem asc_one {l l' : List Int} (hp : l.Perm l') (h : l.Pairwise (· ≤ ·)) (h' : l'.Pairwise (· ≤ ·)) : l = l' :=
  hp.eq_of_pairwise (fun a b _ _ h1 h2 => by omega) h h'
theorem pts_pair (m n : Nat) : (Bt.pts m n).Pairwise (· < ·) := by
  unfold Bt.pts
  rw [List.pairwise_map]
  exact (List.Pairwise.filter _ List.pairwise_lt_range).imp fun h => by omega
theorem pair_of {l : List Int} (h : ∀ a b, a < b → b < l.length → l.getD a 0 ≤ l.getD b 0) : l.Pairwise (· ≤ ·) := by
  rw [List.pairwise_iff_getElem]
  intro i j hi hj hij
  have := h i j hij hj
  rwa [List.getD_eq_getElem?_getD, List.getD_eq_getElem?_getD, List.getElem?_eq_getElem hi, List.getElem?_eq_getElem hj] at this
theorem perm_of {l l' : List Int} (h : l.Pairwise (· ≠ ·)) (h' : l'.Pairwise (· ≠ ·)) (hm : ∀ x, x ∈ l ↔ x ∈ l') : l.Perm l' :=
  (List.perm_ext_iff_of_nodup h h').2 hm
/-- The points of two sets without a common point, sorted. -/
theorem both {m m' n k : Nat} {gs : List Int} (hd : ∀ q, q < n → m.testBit q = true → m'.testBit q = true → False) (h : So.SO (Bt.pts m n ++ Bt.pts m' n) gs k) (hk : (Bt.pts m n ++ Bt.pts m' n).length = k) : gs = Bt.pts (m ||| m') n := by
  have e1 : gs.Pairwise (· ≤ ·) := pair_of fun a b hab hb => h.pair a b hab (by rw [h.len, hk] at hb; exact hb)
  have e2 : (Bt.pts (m ||| m') n).Pairwise (· ≤ ·) := (pts_pair _ _).imp fun h => by omega
  have n1 : (Bt.pts m n ++ Bt.pts m' n).Pairwise (· ≠ ·) := by
    rw [List.pairwise_append]
    refine ⟨(pts_pair _ _).imp fun h => by omega, (pts_pair _ _).imp fun h => by omega, ?_⟩
    rintro a ha b hb rfl
    obtain ⟨q, rfl, hq, hqm⟩ := Bt.pts_mem.1 ha
    obtain ⟨q', hq', _, hqm'⟩ := Bt.pts_mem.1 hb
    obtain rfl : q = q' := by omega
    exact hd q hq hqm hqm'
  have n2 : (Bt.pts (m ||| m') n).Pairwise (· ≠ ·) := (pts_pair _ _).imp fun h => by omega
  refine asc_one (h.perm.trans (perm_of n1 n2 fun x => ?_)) e1 e2
  rw [List.mem_append, Bt.pts_mem, Bt.pts_mem, Bt.pts_mem]
  constructor
  · rintro (⟨q, a, b, c⟩ | ⟨q, a, b, c⟩)
    · exact ⟨q, a, b, by rw [Nat.testBit_or, c]; rfl⟩
    · exact ⟨q, a, b, by rw [Nat.testBit_or, c, Bool.or_true]⟩
  · rintro ⟨q, a, b, c⟩
    rw [Nat.testBit_or, Bool.or_eq_true] at c
    rcases c with c | c
    · exact .inl ⟨q, a, b, c⟩
    · exact .inr ⟨q, a, b, c⟩
end Gw
end Go.Proofs.YteldfjibmaigiaaDoor
