/-
  All groups of a color: GroupsOf of both packages, for every board and every int.
-/
import Derived.Test.YtfpibldknjcehaaGs
namespace Go.Proofs.Ytfpibldknjcehaa
set_option maxRecDepth 100000
open Go.RowKit

theorem SS.weaken {w : World} {B B' hi n c : Nat} {A : Option Addr} {xss : List (List Int)} (h : SS w B hi A n c xss) (hB : B' ≤ B) : SS w B' hi A n c xss := by
  obtain ⟨a1, a2, vs, ra, rn, rc, a3, a4, a5, a6, a7⟩ := h
  refine ⟨a1, a2, vs, ra, rn, rc, a3, ⟨a4.1, ?_⟩, fun j hj => ⟨(a5 j hj).1, (a5 j hj).2.weaken hB⟩, a6, a7⟩
  rcases a4.2 with e | ⟨g, cap, cur, e, hg, r⟩
  · exact .inl e
  · exact .inr ⟨g, cap, cur, e, by omega, r⟩

theorem i_stone (x : Int) (w : World) : Calls Try.prog 80 #[.int .i64 x] w fun e w' => e = .returned (.bool (decide (1 ≤ x) && decide (x ≤ 2))) ∧ w = w' := by
  refine (i_isStone x w).mono ?_
  rintro e w' ⟨rfl, rfl⟩
  refine ⟨?_, rfl⟩
  have : (x == 1 || x == 2) = (decide (1 ≤ x) && decide (x ≤ 2)) := by
    rw [Bool.eq_iff_iff]
    simp only [Bool.or_eq_true, beq_iff_eq, Bool.and_eq_true, decide_eq_true_eq]
    omega
  rw [this]

set_option maxRecDepth 100000 in
set_option maxHeartbeats 4000000 in
theorem i_GroupsOf (s x : Int) (w : World) (B : Nat) (A : Option Addr) (n c : Nat) (cs : List Int) (h : Ints w B A n cs) (hB : B ≤ w.heap.size) (hn : n ≤ 1000000000) (ls : List (List Int)) (Hls : Hid (GrpsIs s n cs x ls)) :
    Calls Try.prog 53 #[.agg #[.int .i64 s, .slice A n c], .int .i64 x] w fun e w' => ∃ A' m' c', e = .returned (.slice A' m' c') ∧ SS w' w.heap.size w'.heap.size A' m' c' ls ∧ Below w.heap.size w w' := by
  have hb1 : Below w.heap.size w (w.alloc (.cells #[.int .i64 s, .slice A n c] 25)) := (Below.refl _ _).alloc (Nat.le_refl _) _
  have hl := h.1
  have X0 := Lib.hid (Bx.new 25 w s (.slice A n c))
  have H := Lib.hid (h.below hb1 hB)
  have Hb := Lib.hid hb1
  clear h hb1
  by_cases hv : Bd.okB s cs = true
  · obtain ⟨q1, q2, q3, _⟩ := (Bd.okB_iff s cs).1 hv
    have q4 := Pt.sq_bd s q1 q2
    have hn49 : n ≤ 49 := by omega
    by_cases hx : (decide (1 ≤ x) && decide (x ≤ 2)) = true
    · have hh : okGs s cs x = true := by unfold okGs; rw [hv, hx]; rfl
      have Hh := Lib.hid hh
      clear hh
      go_enter Try.func53, Try.ntmps53
      go_wp2_with fail
      refine (i_validBoard _ _ _ _ _ _ _ H.out (by simp; omega) (by omega)).mono ?_
      rintro e y2 ⟨rfl, hb⟩
      rw [hv]
      have X2 := Lib.hid (X0.out.below hb X0.out.lt)
      have H2 := Lib.hid (H.out.below hb (by simp; omega))
      have Hb2 := Lib.hid (Hb.out.trans (hb.mono (by simp)))
      have zy2 := hb.size
      clear hb X0 H Hb
      have u00 := X2.out.cell0
      have u01 := X2.out.cell1
      have u02 := X2.out.lt
      clear hv
      go_wp2_with fail
      refine (i_stone _ _).mono ?_
      rintro e w' ⟨rfl, rfl⟩
      rw [hx]
      clear hx
      go_wp2_with fail
      refine (i_joinEqual s _ B _ n _ cs H2.out (by omega) q1 q2 (by omega)).mono ?_
      rintro e y3 ⟨g, c3, u3, r, rfl, ho, hun, hjn, hb3⟩
      have Hgl := Lib.hid (Hls.out.1 Hh.out)
      have hz3 := hb3.size
      have hg1 := (ho.ge rfl).1
      have hg2 := (ho.ge rfl).2
      have X3 := Lib.hid (X2.out.below hb3 u02)
      have H3 := Lib.hid (H2.out.below hb3 (by omega))
      have Hb3 := Lib.hid (Hb2.out.trans (hb3.mono (by omega)))
      have Hrf := Lib.hid (fun k (hk : k < n) u (hu : Un.Un u n r) => root_first q1 q2 (by omega) hl hjn hu hk)
      have Hrr := Lib.hid (fun k (hk : k < n) => inSet_reached q1 q2 (by omega) hl hjn hk)
      have Ho := Lib.hid ho
      have Hun := Lib.hid hun
      have hn1 : 0 < n := by omega
      clear ho hun hb3 hjn u00 u01
      obtain ⟨b, o, rfl, hbB, hc⟩ : ∃ b o, A = some ⟨b, o, none⟩ ∧ b < B ∧ ∀ j, j < n → y3.cell? ⟨b, o + j, none⟩ = some (.int .i64 (cs.getD j 0)) := by
        rcases H3.out.2 with h0 | ⟨b, o, hA, hbB, hc⟩
        · omega
        · exact ⟨b, o, hA, hbB, hc⟩
      have Hc := Lib.hid hc
      clear hc
      go_wp2_with fail
      go_loopw [6, 20] (fun v i wr => ∃ (k m c' : Nat) (A' : Option Addr) (l0 : List (List Int)) (u : List Int), k ≤ n ∧ i = .int .i64 (k : Nat) ∧ v = .slice A' m c' ∧ SS wr y3.heap.size wr.heap.size A' m c' l0 ∧ GL s n cs x k l0 ∧ Own wr y2.heap.size (some ⟨g, 0, none⟩) n c3 u ∧ Un.Un u n r ∧ y3.grownBy wr (some g)) (fun _ i _ => n - (intOf i).toNat)
      case atStart => exact ⟨0, 0, 0, none, [], _, by omega, rfl, rfl, SS.nil _ _ _, rfl, Ho.out, Hun.out, World.grownBy.refl _ _⟩
      case round =>
        clear Ho Hun
        obtain ⟨wo, rfl⟩ : ∃ wo : World, wo = wr := ⟨_, rfl⟩
        obtain ⟨k, m, c', A', l0, u, hk, rfl, rfl, hss, hgl, ho, hun, hgr⟩ := hrel
        have hz := hgr.size
        have hm := hss.len
        have hm2 := hgl.small.1
        have hm3 : m ≤ 49 := by omega
        have X4 := Lib.hid (X3.out.grown hgr (by simp; omega))
        have Hss := Lib.hid hss
        have Hgl0 := Lib.hid hgl
        have Ho := Lib.hid ho
        have Hun := Lib.hid hun
        have Hgr := Lib.hid hgr
        have v0 := X4.out.cell0
        have v1 := X4.out.cell1
        have vl := X4.out.lt
        clear hss hgl hgr hm hm2 ho hun
        by_cases hkn : k < n
        · have ck := Hgr.out.cell (Hc.out k hkn) (by simp; omega)
          obtain ⟨x1, hx⟩ : ∃ x1, cs.getD k 0 = x1 := ⟨_, rfl⟩
          have Hx := Lib.hid hx
          rw [hx] at ck
          clear hx
          have hkI : (k : Int) < n := by omega
          by_cases hcol : x1 = x
          · go_wp2_with fail
            refine (i_firstOf _ _ _ _ _ _ _ _ Ho.out Hun.out hkn).mono ?_
            rintro e y4 ⟨rfl, u4, ho4, hun4, hg4⟩
            have hz4 := hg4.size
            have Hrf4 := Lib.hid (Hrf.out k hkn _ hun4)
            have Hss4 := Lib.hid (Hss.out.kept hg4 (fun q e => by injection e; omega))
            have Ho4 := Lib.hid ho4
            have Hun4 := Lib.hid hun4
            have Hgr4 := Lib.hid (gtrans Hgr.out hg4)
            clear ho4 hun4 hg4 v0 v1 ck Hss Ho Hun Hgr
            obtain ⟨f, hf⟩ : ∃ f, r k = f := ⟨_, rfl⟩
            have Hf := Lib.hid hf
            rw [hf]
            clear hf
            by_cases hfk : f = k
            · have Hgf : Hid (GF s cs x k) := Lib.hid ⟨Hx.out.trans hcol, Hrf4.out.1 (Hf.out.trans hfk)⟩
              subst hfk
              go_wp2_with fail
              refine (i_setOf _ _ _ _ _ _ r f Ho4.out Hun4.out hkn (by omega)).mono ?_
              rintro e y5 ⟨A5, m5, c5, rfl, ho5, u5, hu5, hun5, hg5⟩
              have hz5 := hg5.size
              have hg4' := (Ho4.out.ge rfl).2
              have Hss5 := Lib.hid (Hss4.out.top.kept hg5 (fun q e => by injection e; omega))
              have Hu5 := Lib.hid hu5
              have Hun5 := Lib.hid hun5
              have Hgr5 := Lib.hid (gtrans Hgr4.out hg5)
              have Ho5 := Lib.hid ho5
              clear ho5 hu5 hun5 hg5
              go_wp2_with (at_builtin; refine app1S rfl _ _ rfl _ _ _ _ _ _ _ _ _ _ _ _ rfl rfl rfl Hss5.out Ho5.out (by omega) (by omega) (by omega) ?_; intro A6 c6 w6 hss6 hlt6 hb6 hg6)
              have Hss6 := Lib.hid hss6
              have hbk : ∀ q, (Value.slice A' m c').ownBlock = some q → y3.heap.size ≤ q := fun q e => by
                obtain ⟨_, _, _, _, _, _, _, a4, _⟩ := Hss5.out
                have e2 := slice_block e (row_form a4)
                subst e2
                exact (World.ownsRow.lt a4 q rfl).1
              have Hu6 : Hid (Own w6 y2.heap.size (some ⟨g, 0, none⟩) n c3 u5) := Lib.hid (Hu5.out.kept hg6 (fun q e e2 => by injection e with e; injection e with e; have := hbk q e2; omega))
              have Hgr6 : Hid (y3.grownBy w6 (some g)) := Lib.hid ⟨hb6.os.trans Hgr5.out.os, hb6.tape.trans Hgr5.out.tape, hb6.output.trans Hgr5.out.output, Nat.le_trans Hgr5.out.size hb6.size, fun i hi hne => (hb6.block i hi).trans (Hgr5.out.block i hi hne)⟩
              clear hss6 hb6 hg6 hbk
              go_roundw
              case rel => exact ⟨f + 1, _, _, _, _, _, by omega, by go_num, rfl, Hss6.out, ⟨_, Hgl0.out, .inl ⟨Hgf.out, _, Hrr.out f hkn, rfl⟩⟩, Hu6.out, Hun5.out, Hgr6.out⟩
              case measure => simp [intOf]; omega
            · have Hgf : Hid (¬ GF s cs x k) := Lib.hid (fun h => hfk (Hf.out.symm.trans (Hrf4.out.2 h.2)))
              have hfk2 : ¬ (f : Int) = k := by omega
              go_wp2_with fail
              go_roundw
              case rel => exact ⟨k + 1, _, _, _, _, _, by omega, by go_num, rfl, Hss4.out.top, ⟨_, Hgl0.out, .inr ⟨Hgf.out, rfl⟩⟩, Ho4.out, Hun4.out, Hgr4.out⟩
              case measure => simp [intOf]; omega
          · have Hgf : Hid (¬ GF s cs x k) := Lib.hid (fun h => hcol (Hx.out.symm.trans h.1))
            go_wp2_with fail
            go_roundw
            case rel => exact ⟨k + 1, _, _, _, _, _, by omega, by go_num, rfl, Hss.out, ⟨_, Hgl0.out, .inr ⟨Hgf.out, rfl⟩⟩, Ho.out, Hun.out, Hgr.out⟩
            case measure => simp [intOf]; omega
        · obtain rfl : k = n := by omega
          have hl0 : l0 = ls := Hgl0.out.one Hgl.out
          rw [hl0] at Hss
          clear hl0
          go_wp2_with fail
          go_ret
          exact ⟨_, _, _, rfl, Hss.out.weaken (by omega), Hb3.out.grown Hgr.out (by omega) (fun q e => by injection e; omega)⟩
    · have hx' : (decide (1 ≤ x) && decide (x ≤ 2)) = false := by simpa using hx
      have hh : okGs s cs x = false := by unfold okGs; rw [hx']; simp
      have Hh := Lib.hid hh
      clear hh hx
      have hx := hx'
      clear hx'
      go_enter Try.func53, Try.ntmps53
      go_wp2_with fail
      refine (i_validBoard _ _ _ _ _ _ _ H.out (by simp; omega) (by omega)).mono ?_
      rintro e y2 ⟨rfl, hb⟩
      rw [hv]
      have X2 := Lib.hid (X0.out.below hb X0.out.lt)
      have H2 := Lib.hid (H.out.below hb (by simp; omega))
      have Hb2 := Lib.hid (Hb.out.trans (hb.mono (by simp)))
      have zy2 := hb.size
      clear hb X0 H Hb
      have u00 := X2.out.cell0
      have u01 := X2.out.cell1
      have u02 := X2.out.lt
      clear hv
      go_wp2_with fail
      refine (i_stone _ _).mono ?_
      rintro e w' ⟨rfl, rfl⟩
      rw [hx]
      clear hx
      go_wp2_with fail
      go_ret
      exact ⟨_, _, _, rfl, by rw [Hls.out.2 Hh.out]; exact SS.nil _ _ _, Hb2.out⟩
  · have hv' : Bd.okB s cs = false := by simpa using hv
    have hh : okGs s cs x = false := by unfold okGs; rw [hv']; rfl
    have Hh := Lib.hid hh
    clear hh hv
    have hv := hv'
    clear hv'
    go_enter Try.func53, Try.ntmps53
    go_wp2_with fail
    refine (i_validBoard _ _ _ _ _ _ _ H.out (by simp; omega) (by omega)).mono ?_
    rintro e y2 ⟨rfl, hb⟩
    rw [hv]
    have X2 := Lib.hid (X0.out.below hb X0.out.lt)
    have H2 := Lib.hid (H.out.below hb (by simp; omega))
    have Hb2 := Lib.hid (Hb.out.trans (hb.mono (by simp)))
    have zy2 := hb.size
    clear hb X0 H Hb
    have u00 := X2.out.cell0
    have u01 := X2.out.cell1
    have u02 := X2.out.lt
    clear hv
    go_wp2_with fail
    go_ret
    exact ⟨_, _, _, rfl, by rw [Hls.out.2 Hh.out]; exact SS.nil _ _ _, Hb2.out⟩
end Go.Proofs.Ytfpibldknjcehaa
