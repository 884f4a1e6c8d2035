/-
  All groups of a color in both packages.
-/
import Derived.Test.YtniddfoiakbfdaaSS
import Derived.Test.YtniddfoiakbfdaaGrpI
import Derived.Test.YtniddfoiakbfdaaPlayS
namespace Go.Proofs.Ytniddfoiakbfdaa
set_option maxRecDepth 100000
open Go.RowKit

/-- A point that begins a group of a color. -/
def GF (s : Int) (cs : List Int) (x : Int) (k : Nat) : Prop := cs.getD k 0 = x ∧ ∀ y : Nat, Fl.Reach s (hasCol (cs.getD k 0) cs) (k : Int) (y : Int) → k ≤ y

/-- The groups of a color that begin at the first k points. -/
def GL (s : Int) (n : Nat) (cs : List Int) (x : Int) : Nat → List (List Int) → Prop
  | 0, ls => ls = []
  | k + 1, ls => ∃ l0, GL s n cs x k l0 ∧ ((GF s cs x k ∧ ∃ g, Reached s n (hasCol (cs.getD k 0) cs) k g ∧ ls = l0 ++ [g]) ∨ (¬ GF s cs x k ∧ ls = l0))

theorem GL.one {s x : Int} {n : Nat} {cs : List Int} : ∀ {k : Nat} {ls ls' : List (List Int)}, GL s n cs x k ls → GL s n cs x k ls' → ls = ls' := by
  intro k
  induction k with
  | zero => intro ls ls' h h'; exact h.trans h'.symm
  | succ k ih =>
    intro ls ls' h h'
    obtain ⟨l0, h0, h⟩ := h
    obtain ⟨l1, h1, h'⟩ := h'
    have e := ih h0 h1
    subst e
    rcases h with ⟨a, g, hg, rfl⟩ | ⟨a, rfl⟩ <;> rcases h' with ⟨b, g', hg', rfl⟩ | ⟨b, rfl⟩
    · rw [hg.one hg']
    · exact absurd a b
    · exact absurd b a
    · rfl

theorem GL.make {s x : Int} {n : Nat} {cs : List Int} (h1 : 1 ≤ s) (h2 : s ≤ 7) (hn : (n : Int) = s * s) : ∀ k, k ≤ n → ∃ ls, GL s n cs x k ls := by
  intro k
  induction k with
  | zero => intro _; exact ⟨[], rfl⟩
  | succ k ih =>
    intro hk
    obtain ⟨l0, h0⟩ := ih (by omega)
    by_cases e : GF s cs x k
    · obtain ⟨g, hg⟩ := Reached.make h1 h2 hn (hasCol (cs.getD k 0) cs) (p := (k : Int)) ⟨by omega, by omega⟩
      exact ⟨_, l0, h0, .inl ⟨e, g, hg, rfl⟩⟩
    · exact ⟨_, l0, h0, .inr ⟨e, rfl⟩⟩

theorem GL.small {s x : Int} {n : Nat} {cs : List Int} : ∀ {k : Nat} {ls : List (List Int)}, GL s n cs x k ls → ls.length ≤ k ∧ ∀ g ∈ ls, g.length ≤ n := by
  intro k
  induction k with
  | zero => intro ls h; cases (show ls = [] from h); exact ⟨Nat.le_refl _, fun g hg => by cases hg⟩
  | succ k ih =>
    intro ls h
    obtain ⟨l0, h0, h⟩ := h
    obtain ⟨a1, a2⟩ := ih h0
    rcases h with ⟨_, g, hg, rfl⟩ | ⟨_, rfl⟩
    · refine ⟨by simp; omega, fun q hq => ?_⟩
      rw [List.mem_append, List.mem_singleton] at hq
      rcases hq with hq | rfl
      · exact a2 q hq
      · exact hg.few
    · exact ⟨by omega, a2⟩

/-- All groups of a color, as lists; nothing for other arguments. -/
def okGs (s : Int) (cs : List Int) (x : Int) : Bool := Bd.okB s cs && (decide (1 ≤ x) && decide (x ≤ 2))
def GrpsIs (s : Int) (n : Nat) (cs : List Int) (x : Int) (ls : List (List Int)) : Prop := (okGs s cs x = true → GL s n cs x n ls) ∧ (okGs s cs x = false → ls = [])

theorem GrpsIs.make (s : Int) (n : Nat) (cs : List Int) (x : Int) (hn : cs.length = n) : ∃ ls, GrpsIs s n cs x ls := by
  rcases Bool.eq_false_or_eq_true (okGs s cs x) with e | e
  · have e2 := e
    unfold okGs at e2
    rw [Bool.and_eq_true] at e2
    obtain ⟨q1, q2, q3, _⟩ := (Bd.okB_iff s cs).1 e2.1
    obtain ⟨l, hl⟩ := GL.make (x := x) (cs := cs) q1 q2 (n := n) (by omega) n (Nat.le_refl _)
    exact ⟨l, ⟨fun _ => hl, fun h => absurd (e.symm.trans h) (by decide)⟩⟩
  · exact ⟨[], ⟨fun h => absurd (e.symm.trans h) (by decide), fun _ => rfl⟩⟩

theorem GrpsIs.small {s x : Int} {n : Nat} {cs : List Int} {ls : List (List Int)} (h : GrpsIs s n cs x ls) (hn : cs.length = n) : ls.length ≤ 49 ∧ ∀ j, (ls.getD j []).length ≤ 49 := by
  have key : ls.length ≤ 49 ∧ ∀ g ∈ ls, g.length ≤ 49 := by
    rcases Bool.eq_false_or_eq_true (okGs s cs x) with e | e
    · have e2 := e
      unfold okGs at e2
      rw [Bool.and_eq_true] at e2
      obtain ⟨q1, q2, q3, _⟩ := (Bd.okB_iff s cs).1 e2.1
      have := Pt.sq_bd s q1 q2
      obtain ⟨a, b⟩ := (h.1 e).small
      exact ⟨by omega, fun g hg => by have := b g hg; omega⟩
    · rw [h.2 e]; exact ⟨by simp, fun g hg => by cases hg⟩
  refine ⟨key.1, fun j => ?_⟩
  by_cases hj : j < ls.length
  · rw [List.getD_eq_getElem?_getD, List.getElem?_eq_getElem hj]
    exact key.2 _ (List.getElem_mem _)
  · rw [List.getD_eq_getElem?_getD, List.getElem?_eq_none (by omega)]
    exact Nat.zero_le _

/-- The first point of a list of marked points. -/
theorem pts_first {S : List Bool} {n p : Nat} (hp : p < n) (hS : S.getD p false = true) : 0 < (Fl.pts S n).length ∧ ((Fl.pts S n).getD 0 0 = (p : Int) ↔ ∀ q, q < p → S.getD q false = false) := by
  induction n with
  | zero => omega
  | succ n ih =>
    by_cases e : p < n
    · obtain ⟨a, b⟩ := ih e
      rcases Bool.eq_false_or_eq_true (S.getD n false) with h | h
      · rw [Fl.pts_yes h]
        refine ⟨by simp, ?_⟩
        rw [List.getD_eq_getElem?_getD, List.getElem?_append_left a, ← List.getD_eq_getElem?_getD]
        exact b
      · rw [Fl.pts_no h]
        exact ⟨a, b⟩
    · obtain rfl : p = n := by omega
      rw [Fl.pts_yes hS]
      refine ⟨by simp, ?_⟩
      by_cases hall : ∀ q, q < p → S.getD q false = false
      · have : Fl.pts S p = [] := by
          unfold Fl.pts
          rw [List.map_eq_nil_iff, List.filter_eq_nil_iff]
          intro q hq
          rw [hall q (List.mem_range.1 hq)]; simp
        rw [this]
        exact ⟨fun _ => hall, fun _ => by simp⟩
      · refine ⟨fun h => ?_, fun h => absurd h hall⟩
        exfalso
        apply hall
        have hlen : 0 < (Fl.pts S p).length := by
          rcases Nat.eq_zero_or_pos (Fl.pts S p).length with h0 | h0
          · exfalso
            apply hall
            intro q hq
            have h1 : Fl.pts S p = [] := List.eq_nil_of_length_eq_zero h0
            unfold Fl.pts at h1
            rw [List.map_eq_nil_iff, List.filter_eq_nil_iff] at h1
            have := h1 q (List.mem_range.2 hq)
            simpa using this
          · exact h0
        have hlt : (Fl.pts S p).getD 0 0 < (p : Int) := by
          have hm : (Fl.pts S p).getD 0 0 ∈ Fl.pts S p := by
            rw [List.getD_eq_getElem?_getD, List.getElem?_eq_getElem hlen]; exact List.getElem_mem _
          generalize (Fl.pts S p).getD 0 0 = y at hm
          unfold Fl.pts at hm
          obtain ⟨q, hq, rfl⟩ := List.mem_map.1 hm
          have := List.mem_range.1 (List.mem_filter.1 hq).1
          omega
        rw [List.getD_eq_getElem?_getD, List.getElem?_append_left hlen, ← List.getD_eq_getElem?_getD] at h
        omega

theorem Reached.first {s : Int} {n : Nat} {keep : List Bool} {k : Nat} {g : List Int} (h : Reached s n keep (k : Int) g) (hk : k < n) : 0 < g.length ∧ (g.getD 0 0 = (k : Int) ↔ ∀ y : Nat, Fl.Reach s keep (k : Int) (y : Int) → k ≤ y) := by
  obtain ⟨S, hl, hS, rfl⟩ := h
  have e : ∀ y : Nat, S.getD y false = true ↔ Fl.Reach s keep (k : Int) (y : Int) := fun y => by
    have := hS (y : Int) (by omega)
    unfold Fl.at_ at this
    rwa [Int.toNat_natCast] at this
  obtain ⟨a, b⟩ := pts_first hk ((e k).2 .base)
  refine ⟨a, b.trans ⟨fun h y hy => ?_, fun h q hq => ?_⟩⟩
  · rcases Nat.lt_or_ge y k with h1 | h1
    · have := h y h1
      rw [(e y).2 hy] at this
      cases this
    · exact h1
  · rcases Bool.eq_false_or_eq_true (S.getD q false) with h1 | h1
    · have := h q ((e q).1 h1)
      omega
    · exact h1

theorem root_first {s : Int} {n : Nat} {cs u : List Int} {r : Nat → Nat} {k : Nat} (h1 : 1 ≤ s) (h2 : s ≤ 7) (hn : (n : Int) = s * s) (hl : cs.length = n) (hj : Un.Jn s n cs r n 0) (hu : Un.Un u n r) (hk : k < n) :
    r k = k ↔ ∀ y : Nat, Fl.Reach s (hasCol (cs.getD k 0) cs) (k : Int) (y : Int) → k ≤ y := by
  have key := fun (y : Nat) (hy : y < n) => hj.iff (nbs_in h1 h2 hn) hl hk (y : Int) ⟨by omega, by omega⟩
  constructor
  · intro e y hy
    have hyn := (Fl.reach_in (nbs_in h1 h2 hn) ⟨by omega, by omega⟩ hy).2
    have := (key y (by omega)).2 hy
    rw [Int.toNat_natCast, e] at this
    have := (hu.fix y (by omega)).1
    omega
  · intro h
    obtain ⟨a, b⟩ := hu.fix k hk
    have := h (r k) ((key (r k) (by omega)).1 (by rw [Int.toNat_natCast]; exact b))
    omega

set_option maxRecDepth 100000 in
set_option maxHeartbeats 4000000 in
theorem s_groupsOf (s x : Int) (w : World) (B : Nat) (A : Option Addr) (n c : Nat) (cs : List Int) (h : Ints w B A n cs) (hB : B ≤ w.heap.size) (h1 : 1 ≤ s) (h2 : s ≤ 7) (hn : (n : Int) = s * s) (ls : List (List Int)) (Hls : Hid (GL s n cs x n ls)) :
    Calls Try.prog 38 #[.agg #[.int .i64 s, .slice A n c], .int .i64 x] w fun e w' => ∃ A' m' c', e = .returned (.slice A' m' c') ∧ SS w' w.heap.size w'.heap.size A' m' c' ls ∧ Below w.heap.size w w' := by
  have hsq := Pt.sq_bd s h1 h2
  have hn49 : n ≤ 49 := by omega
  have hn1 : 0 < n := by omega
  have hb1 : Below w.heap.size w (w.alloc (.cells #[.int .i64 s, .slice A n c] 25)) := (Below.refl _ _).alloc (Nat.le_refl _) _
  have X0 := Lib.hid (Bx.new 25 w s (.slice A n c))
  have H := Lib.hid (h.below hb1 hB)
  have Hb := Lib.hid hb1
  have Hn := Lib.hid hn
  clear h hb1 hn
  go_enter Try.func38, Try.ntmps38
  go_upto_region 1 with (fail)
  obtain ⟨y0, hy⟩ : ∃ y, y = w.alloc (.cells #[.int .i64 s, .slice A n c] 25) := ⟨_, rfl⟩
  have hyz : w.heap.size < y0.heap.size := by rw [hy]; simp
  rw [← hy] at X0 H Hb ⊢
  clear hy
  obtain ⟨b, o, rfl, hbB, hc⟩ : ∃ b o, A = some ⟨b, o, none⟩ ∧ b < B ∧ ∀ j, j < n → y0.cell? ⟨b, o + j, none⟩ = some (.int .i64 (cs.getD j 0)) := by
    rcases H.out.2 with h0 | ⟨b, o, hA, hbB, hc⟩
    · omega
    · exact ⟨b, o, hA, hbB, hc⟩
  have Hc := Lib.hid hc
  have ul := X0.out.lt
  clear hc
  go_upto_region 2 with (fail)
  have Ho := Lib.hid (SS.bare y0 y0.heap.size (Nat.le_refl _))
  have Hb1 := Lib.hid ((Below.refl y0.heap.size y0).alloc (Nat.le_refl _) (.cells #[] 23))
  go_wp2_with fail
  go_loopw [5, 6] (fun v i wr => ∃ (k m c' : Nat) (A' : Option Addr) (l0 : List (List Int)), k ≤ n ∧ i = .int .i64 (k : Nat) ∧ v = .slice A' m c' ∧ SS wr y0.heap.size wr.heap.size A' m c' l0 ∧ GL s n cs x k l0 ∧ Below y0.heap.size y0 wr) (fun _ i _ => n - (intOf i).toNat)
  case atStart => exact ⟨0, 0, 0, _, [], by omega, rfl, rfl, by have := Ho.out.top; simpa using this, rfl, Hb1.out⟩
  case round =>
    clear Ho Hb1
    obtain ⟨wo, rfl⟩ : ∃ wo : World, wo = wr := ⟨_, rfl⟩
    obtain ⟨k, m, c', A', l0, hk, rfl, rfl, hss, hgl, hbr⟩ := hrel
    have hz := hbr.size
    have hm := hss.len
    have hm2 := hgl.small.1
    have hm3 : m ≤ 49 := by omega
    have X0r := Lib.hid (X0.out.below hbr ul)
    have Hr := Lib.hid (H.out.below hbr (by omega))
    have Hss := Lib.hid hss
    have Hgl := Lib.hid hgl
    have Hbr := Lib.hid hbr
    have v0 := X0r.out.cell0
    have v1 := X0r.out.cell1
    have vl := X0r.out.lt
    clear hss hgl hbr hm hm2
    by_cases hkn : k < n
    · have ck := (Hbr.out.cell (p := ⟨b, o + k, none⟩) (by show b < _; omega)).trans (Hc.out k hkn)
      obtain ⟨x1, hx⟩ : ∃ x1, cs.getD k 0 = x1 := ⟨_, rfl⟩
      have Hx := Lib.hid hx
      rw [hx] at ck
      clear hx
      have hkI : (k : Int) < n := by omega
      by_cases hcol : x1 = x
      · go_wp2_with fail
        refine (s_groupOf s k _ B _ n _ cs Hr.out (by omega) h1 h2 Hn.out hkn).mono ?_
        rintro e yl ⟨A5, m5, c5, g, rfl, hol, hrl, hbl⟩
        obtain ⟨f1, f2⟩ := hrl.first hkn
        have hm5 := hol.1
        have hzl := hbl.size
        have Xl := Lib.hid (X0r.out.below hbl vl)
        have w0 := Xl.out.cell0
        have w1 := Xl.out.cell1
        have wl := Xl.out.lt
        have Hss2 := Lib.hid (Hss.out.below hbl)
        have Hbr2 := Lib.hid (Hbr.out.trans (hbl.mono (by omega)))
        obtain ⟨gb, hA5⟩ : ∃ gb, A5 = some ⟨gb, 0, none⟩ := by
          obtain ⟨q, cap, hv, _⟩ := World.ownsRow.form hol.2 (by omega)
          exact ⟨q, by injection hv⟩
        have hA5' := hA5
        rw [hA5] at hol ⊢
        have c0 := hol.cellD 0 (by omega)
        obtain ⟨z, hz0⟩ : ∃ z, g.getD 0 0 = z := ⟨_, rfl⟩
        rw [hz0] at c0 f2
        have Hol := Lib.hid hol
        have Hrl := Lib.hid hrl
        have Hf2 := Lib.hid f2
        have hm5p : (0 : Int) < m5 := by omega
        have Hm5 := Lib.hid hm5
        clear hol hrl hbl v0 v1 ck hz0 f2 f1 hA5 hA5' hm5
        by_cases hzk : z = (k : Int)
        · have Hgf : Hid (GF s cs x k) := Lib.hid ⟨Hx.out.trans hcol, Hf2.out.1 hzk⟩
          subst hzk
          go_wp2_with (at_builtin; refine app1S rfl _ _ rfl _ _ _ _ _ _ _ _ _ _ _ _ rfl rfl rfl Hss2.out Hol.out (by omega) (by omega) (by omega) ?_; intro A6 c6 w6 hss6 hlt6 hb6 hg6)
          have Hss6 := Lib.hid hss6
          have Hb6 := Lib.hid (Hbr2.out.trans (hb6.mono (by omega)))
          clear hss6 hb6 hg6
          go_roundw
          case rel => exact ⟨k + 1, _, _, _, _, by omega, by go_num, rfl, Hss6.out, ⟨_, Hgl.out, .inl ⟨Hgf.out, _, Hrl.out, rfl⟩⟩, Hb6.out⟩
          case measure => simp [intOf]; omega
        · have Hgf : Hid (¬ GF s cs x k) := Lib.hid (fun h => hzk (Hf2.out.2 h.2))
          go_wp2_with fail
          go_roundw
          case rel => exact ⟨k + 1, _, _, _, _, by omega, by go_num, rfl, Hss2.out.top, ⟨_, Hgl.out, .inr ⟨Hgf.out, rfl⟩⟩, Hbr2.out⟩
          case measure => simp [intOf]; omega
      · have Hgf : Hid (¬ GF s cs x k) := Lib.hid (fun h => hcol (Hx.out.symm.trans h.1))
        go_wp2_with fail
        go_roundw
        case rel => exact ⟨k + 1, _, _, _, _, by omega, by go_num, rfl, Hss.out, ⟨_, Hgl.out, .inr ⟨Hgf.out, rfl⟩⟩, Hbr.out⟩
        case measure => simp [intOf]; omega
    · obtain rfl : k = n := by omega
      have hl0 : l0 = ls := Hgl.out.one Hls.out
      rw [hl0] at Hss
      clear hl0
      go_wp2_with fail
      go_ret
      exact ⟨_, _, _, rfl, by
        obtain ⟨a1, a2, vs, ra, rn, rc, a3, a4, a5, a6, a7⟩ := Hss.out
        exact ⟨a1, a2, vs, ra, rn, rc, a3, ⟨a4.1, by rcases a4.2 with e | ⟨g, cap, cur, e, hg, r⟩; exact .inl e; exact .inr ⟨g, cap, cur, e, by omega, r⟩⟩, fun j hj => ⟨(a5 j hj).1, (a5 j hj).2.weaken (by omega)⟩, a6, a7⟩, Hb.out.trans (Hbr.out.mono (by omega))⟩
end Go.Proofs.Ytniddfoiakbfdaa
