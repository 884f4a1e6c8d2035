/-
  The draw of a board of legal moves.
-/
import Derived.Test.YteldfjibmaigiaaDoorDrawSm
import Derived.Test.YteldfjibmaigiaaDoorPlayS
import Derived.IntWalk
namespace Go.Proofs.YteldfjibmaigiaaDoor
set_option maxRecDepth 100000
open Go.RowKit

/-- A valid board of the call's own that a draw made. -/
def DrawnB (w : World) (B g m : Nat) (q : Nat) (e : Ending) (w' : World) : Prop :=
  ∃ (s : Int) (A : Option Addr) (n c : Nat) (cs : List Int) (q' : Nat), e = .returned (.agg #[.int .i64 s, .slice A n c]) ∧ Own w' m A n c cs ∧ Bd.okB s cs = true ∧ Rdr w' B g q' ∧ q' ≤ q ∧ w.grownBy w' (some g)

theorem Rdr.far {w : World} {B g q : Nat} (h : Rdr w B g q) (p : Addr) (hp : g ≠ p.block) (hB : B ≤ p.block) (u : Value) : Rdr (w.setCell p u) B g q := by
  obtain ⟨hB', S, n, c, hh, hc⟩ := h
  exact ⟨hB', S, n, c, (Below.heap_setCell w p u g hp).trans hh, hc.keep fun j hj => Below.heap_setCell w p u j (by omega)⟩
theorem gset {w w' : World} {row : Option Nat} (h : w.grownBy w' row) (p : Addr) (hp : w.heap.size ≤ p.block) (u : Value) : w.grownBy (w'.setCell p u) row :=
  ⟨h.os, h.tape, h.output, by have := h.size; simpa [World.setCell] using this, fun k hk hne => (Below.heap_setCell w' p u k (by omega)).trans (h.block k hk hne)⟩
theorem okB_mk {s : Int} {cs : List Int} (h1 : 1 ≤ s) (h2 : s ≤ 7) (h3 : (cs.length : Int) = s * s) (h4 : OkL cs) : Bd.okB s cs = true := (Bd.okB_iff s cs).2 ⟨h1, h2, h3, okL_mem.1 h4⟩
theorem okL_zero (n : Nat) : OkL (List.replicate n 0) := okL_mem.2 fun c hc => by rw [List.eq_of_mem_replicate hc]; omega

theorem oth_bd {x : Int} (h1 : 1 ≤ x) (h2 : x ≤ 2) : 1 ≤ oth x ∧ oth x ≤ 2 := by
  have : x = 1 ∨ x = 2 := by omega
  rcases this with rfl | rfl <;> decide

/-- Behind one round's draw. -/
def RoundRel (y : World) (B g q : Nat) (s : Int) (n : Nat) (v8 v10 : Value) (wx : World) : Prop :=
  ∃ g8 ok s' A' n' c' cs', v8 = .pointer (some ⟨g8, 0, none⟩) ∧ v10 = .bool ok ∧ y.heap.size ≤ g8 ∧ Bx 25 wx g8 s' (.slice A' n' c') ∧ (ok = true → s' = s ∧ n' = n ∧ Own wx y.heap.size A' n' c' cs' ∧ OkL cs') ∧
    Rdr wx B g (q + 1) ∧ y.grownBy wx (some g)

set_option maxRecDepth 100000 in
set_option maxHeartbeats 4000000 in
theorem r_played (s : Int) (B g q : Nat) (w : World) (h : Rdr w B g q) (hq : q ≤ 100000000000) (h1 : 1 ≤ s) (h2 : s ≤ 7) :
    Calls Tryd.prog 80 #[.pointer (some ⟨g, 0, none⟩), .int .i64 s] w fun e w' => DrawnB w B g w.heap.size (q + 100) e w' := by
  have hlt := h.lt
  have hsq := Pt.sq_bd s h1 h2
  obtain ⟨n, hn⟩ : ∃ n : Nat, s * s = n := ⟨(s * s).toNat, by omega⟩
  have hn49 : n ≤ 49 := by omega
  have hn1 : 1 ≤ n := by omega
  have X4 := Lib.hid (Bx.new 25 w 0 (.slice none 0 0))
  have hb1 : Below w.heap.size w (w.alloc (.cells #[.int .i64 0, .slice none 0 0] 25)) := (Below.refl _ _).alloc (Nat.le_refl _) _
  have Hr := Lib.hid (h.below hb1 hlt)
  have Hb := Lib.hid hb1
  have Hn := Lib.hid hn
  have hsz : (w.alloc (.cells #[.int .i64 0, .slice none 0 0] 25)).heap.size = w.heap.size + 1 := by simp
  have Hsz := Lib.hid hsz
  clear h hb1 hn hsz
  go_enter Tryd.func80, Tryd.ntmps80
  go_wp2_with fail
  refine (s_new s _).mono ?_
  rintro e y ⟨A1, n1, c1, rfl, ho, hb⟩
  have hs1 : newS s = s := by rw [newS, if_pos ((Pt.okS_iff s).2 ⟨h1, h2⟩)]
  have hc1 : newCs s = List.replicate n 0 := by rw [newCs, if_pos ((Pt.okS_iff s).2 ⟨h1, h2⟩), Hn.out]; simp
  rw [hc1] at ho
  rw [hs1]
  obtain rfl : n1 = n := by have := ho.1; simpa using this.symm
  rw [Hsz.out] at ho
  have Ho := Lib.hid ho
  have X4 := Lib.hid (X4.out.below hb X4.out.lt)
  have Hr := Lib.hid (Hr.out.below hb Hr.out.lt)
  have Hb := Lib.hid (Hb.out.trans (hb.mono (by rw [Hsz.out]; omega)))
  have hzy := hb.size
  have Hne := Lib.hid (fun g' (hA : A1 = some ⟨g', 0, none⟩) => (ho.ge hA).2)
  rw [Hsz.out] at hzy
  clear ho hb hs1 hc1 Hsz
  go_upto_region 2 with (fail)
  obtain ⟨y3, hy3, hb3, z3, z4⟩ := new_box y (.cells #[.int .i64 s, .slice A1 n1 c1] 25)
  have X5 : Hid (Bx 25 y3 y.heap.size s (.slice A1 n1 c1)) := Lib.hid (by rw [hy3]; exact Bx.new _ _ _ _)
  rw [← hy3]
  clear hy3
  have X4 := Lib.hid (X4.out.below hb3 X4.out.lt)
  have Ho := Lib.hid (Ho.out.below hb3)
  have Hr := Lib.hid (Hr.out.below hb3 Hr.out.lt)
  have Hb := Lib.hid (Hb.out.trans (hb3.mono (by omega)))
  clear hb3
  go_wp2_with fail
  refine (r_pick B g q _ _ Hr.out (by omega)).mono ?_
  rintro e y4 ⟨k0, rfl, k1, k2, hr, hg⟩
  have X4 := Lib.hid (X4.out.grown hg (fun e => by have := Option.some.inj e; omega))
  have X5 := Lib.hid (X5.out.grown hg (fun e => by have := Option.some.inj e; omega))
  have Ho := Lib.hid (Ho.out.kept hg (fun g' hA e => by have := (Ho.out.ge hA).1; have := Option.some.inj e; omega))
  have Hg := Lib.hid (gtrans (gbelow (some g) Hb.out (Nat.le_refl _)) hg)
  have Hr := Lib.hid hr
  have z5 := X5.out.lt
  have hk0 : k0 ≤ 98 := by omega
  obtain ⟨k, rfl⟩ := Int.eq_ofNat_of_zero_le k1
  clear hr hg k2
  go_wp2_with fail
  go_loopw [6, 7] (fun v6 v7 wr => ∃ (x : Int) (k q1 : Nat) (A : Option Addr) (c : Nat) (cs : List Int), v6 = .int .i64 x ∧ 1 ≤ x ∧ x ≤ 2 ∧ v7 = .int .i64 (k : Nat) ∧ k + q1 ≤ q + 100 ∧ Bx 25 wr w.heap.size 0 (.slice none 0 0) ∧ Bx 25 wr y.heap.size s (.slice A n1 c) ∧
    Own wr (w.heap.size + 1) A n1 c cs ∧ (∀ g', A = some ⟨g', 0, none⟩ → g' ≠ y.heap.size) ∧ OkL cs ∧ Rdr wr B g q1 ∧ w.grownBy wr (some g)) (fun _ v _ => (intOf v).toNat)
  case atStart => exact ⟨1, k, q + 1, A1, c1, _, rfl, by omega, by omega, rfl, by omega, X4.out, X5.out, Ho.out, fun g' hA => by have := Hne.out g' hA; omega, okL_zero n1, Hr.out, Hg.out⟩
  case round =>
    clear X4 X5 Ho Hr Hg Hb Hne z5 hk0
    obtain ⟨x, r, q1, A, c, cs, rfl, x1, x2, rfl, hkq, hx4, hx5, ho, hne, hok, hr, hg⟩ := hrel
    have X4 := Lib.hid hx4
    have X5 := Lib.hid hx5
    have Hv := Lib.hid (okB_mk h1 h2 (by rw [ho.1]; exact Hn.out.symm) hok)
    have Ho := Lib.hid ho
    have Hne := Lib.hid hne
    have Hok := Lib.hid hok
    have Hr := Lib.hid hr
    have Hg := Lib.hid hg
    have z5 := X5.out.lt
    have zw := hg.size
    clear hx4 hx5 ho hne hok hr hg
    by_cases hk0 : r = 0
    · subst hk0
      have t0 := X5.out.cell0
      have t1 := X5.out.cell1
      have t2 := X4.out.cell0
      have t3 := X4.out.cell1
      have t4 := X4.out.frozen 0
      have t5 := X4.out.frozen 1
      have t6 := X4.out.lt
      go_wp2_with fail
      have k0 := (X4.out.set0 s).cell0
      have k1 := ((X4.out.set0 s).set1 (.slice A n1 c)).cell1
      refine bodyPost_ret (v := .agg #[.int .i64 s, .slice A n1 c]) (by simp [results, Tryd.results80, go_sem, k0, k1]) rfl ?_
      have ho2 := (Ho.out.far ⟨w.heap.size, 0, none⟩ (fun g' hA => by have := (Ho.out.ge hA).1; show g' ≠ w.heap.size; omega) (.int .i64 s)).far ⟨w.heap.size, 1, none⟩ (fun g' hA => by have := (Ho.out.ge hA).1; show g' ≠ w.heap.size; omega) (.slice A n1 c)
      have hB := Hr.out.1
      have hr2 := (Hr.out.far ⟨w.heap.size, 0, none⟩ (by show g ≠ w.heap.size; omega) (by show B ≤ w.heap.size; omega) (.int .i64 s)).far ⟨w.heap.size, 1, none⟩ (by show g ≠ w.heap.size; omega) (by show B ≤ w.heap.size; omega) (.slice A n1 c)
      have hg2 := gset (gset Hg.out ⟨w.heap.size, 0, none⟩ (Nat.le_refl _) (.int .i64 s)) ⟨w.heap.size, 1, none⟩ (Nat.le_refl _) (.slice A n1 c)
      exact ⟨_, _, _, _, _, q1, rfl, ho2.weaken (by omega), Hv.out, hr2, by omega, hg2⟩
    · obtain ⟨j, rfl⟩ : ∃ j, r = j + 1 := ⟨r - 1, by omega⟩
      have Kw := Lib.hid (show IntKind.i64.wrap (s * s) = s * s from IntWalk.i64_in _ (by omega))
      have t0 := X5.out.cell0
      have t1 := X5.out.cell1
      have t2 := X5.out.lt
      go_upto_region 6 with (fail)
      go_cut [8, 10] (fun v8 v10 wx => RoundRel wr B g q1 s n1 v8 v10 wx)
      case first =>
        go_region_with (first | (go_at_call 28; refine (r_pick B g q1 _ _ (by exact Hr.out) (by omega)).mono ?_; rintro e yp ⟨p0, rfl, p1, p2, hr, hg⟩; have hgw : wr.grownBy yp (some g) := ⟨hg.os, hg.tape, hg.output, hg.size, hg.block⟩; rw [Kw.out, Hn.out] at p2; obtain ⟨p, rfl⟩ := Int.eq_ofNat_of_zero_le p1; have zp := hgw.size; have s0 := (X5.out.grown hgw (fun e => by have := Option.some.inj e; omega)).cell0; have s1 := (X5.out.grown hgw (fun e => by have := Option.some.inj e; omega)).cell1; have s2 := (X5.out.grown hgw (fun e => by have := Option.some.inj e; omega)).lt; have Hop := Lib.hid (Ho.out.kept hgw (fun g' hA e => by have := (Ho.out.ge hA).1; have := Option.some.inj e; omega)); have hpn : p < n1 := (by omega); have Hrp := Lib.hid hr; have Hgp := Lib.hid hgw; clear hr hg hgw p2) | (go_at_call 28; refine (r_pick B g q1 _ _ (by exact (show Rdr (wr.alloc (.cells #[.int .i64 0, .slice none 0 0] 25)) B g q1 from Hr.out.below ((Below.refl wr.heap.size wr).alloc (Nat.le_refl _) _) Hr.out.lt)) (by omega)).mono ?_; rintro e yp ⟨p0, rfl, p1, p2, hr, hg⟩; have hg1 : (wr.alloc (.cells #[.int .i64 0, .slice none 0 0] 25)).grownBy yp (some g) := ⟨hg.os, hg.tape, hg.output, hg.size, hg.block⟩; have hgw : wr.grownBy yp (some g) := gtrans (World.grownBy_alloc wr (.cells #[.int .i64 0, .slice none 0 0] 25) (some g)) hg1; have H8p : Hid (Bx 25 yp wr.heap.size 0 (.slice none 0 0)) := Lib.hid ((Bx.new 25 wr 0 (.slice none 0 0)).grown hg1 (fun e => by have h1 := Option.some.inj e; have h2 := Hr.out.lt; omega)); rw [Kw.out, Hn.out] at p2; obtain ⟨p, rfl⟩ := Int.eq_ofNat_of_zero_le p1; have zp := hgw.size; have s0 := (X5.out.grown hgw (fun e => by have := Option.some.inj e; omega)).cell0; have s1 := (X5.out.grown hgw (fun e => by have := Option.some.inj e; omega)).cell1; have s2 := (X5.out.grown hgw (fun e => by have := Option.some.inj e; omega)).lt; have Hop := Lib.hid (Ho.out.kept hgw (fun g' hA e => by have := (Ho.out.ge hA).1; have := Option.some.inj e; omega)); have hpn : p < n1 := (by omega); have Hrp := Lib.hid hr; have Hgp := Lib.hid hgw; clear hr hg hgw p2) | (go_at_call 8; have H8q := Lib.hid H8p.out; have z8 := H8q.out.lt; refine (s_PlayStone1 s x p false _ yp.heap.size _ _ _ cs (by exact Hop.out.ints) ?_ Hv.out hpn x1 x2).mono ?_; (show yp.heap.size ≤ yp.heap.size; omega); rintro e yq ⟨s', A', n', c', A2, n2, c2, cs', ok, rfl, hwhat, hb⟩; have hbw : Below yp.heap.size yp yq := ⟨hb.os, hb.tape, hb.output, hb.size, hb.block⟩; have H8 := Lib.hid (H8q.out.below hbw H8q.out.lt); have k8a := H8.out.cell0; have k8b := H8.out.cell1; have k8c := H8.out.frozen 0; have k8d := H8.out.frozen 1; have k8e := H8.out.lt; have zq := hbw.size; have s3 := ((X5.out.grown Hgp.out (fun e => by have := Option.some.inj e; omega)).below hbw s2).cell0; have s4 := ((X5.out.grown Hgp.out (fun e => by have := Option.some.inj e; omega)).below hbw s2).cell1; have Hwhat := Lib.hid hwhat; have Hrq := Lib.hid (Hrp.out.below hbw Hrp.out.lt); have Hgq := Lib.hid (gtrans Hgp.out (gbelow (some g) hbw (Nat.le_refl _))); clear hwhat hb hbw) | (go_at_call 8; refine (s_PlayStone1 s x p false _ yp.heap.size _ _ _ cs (by exact Hop.out.ints) ?_ Hv.out hpn x1 x2).mono ?_; (show yp.heap.size ≤ yp.heap.size; omega); rintro e yq ⟨s', A', n', c', A2, n2, c2, cs', ok, rfl, hwhat, hb⟩; have hbw : Below yp.heap.size yp yq := ⟨hb.os, hb.tape, hb.output, hb.size, hb.block⟩; have zq := hbw.size; have s3 := ((X5.out.grown Hgp.out (fun e => by have := Option.some.inj e; omega)).below hbw s2).cell0; have s4 := ((X5.out.grown Hgp.out (fun e => by have := Option.some.inj e; omega)).below hbw s2).cell1; have Hwhat := Lib.hid hwhat; have Hrq := Lib.hid (Hrp.out.below hbw Hrp.out.lt); have Hgq := Lib.hid (gtrans Hgp.out (gbelow (some g) hbw (Nat.le_refl _))); clear hwhat hb hbw) | (go_at_call 8; refine (s_PlayStone1 s x p false (yp.alloc (.cells #[.int .i64 0, .slice none 0 0] 25)) yp.heap.size _ _ _ cs (by exact Hop.out.ints.below ((Below.refl yp.heap.size yp).alloc (Nat.le_refl _) _) (Nat.le_refl _)) ?_ Hv.out hpn x1 x2).mono ?_; (show yp.heap.size ≤ _; simp); rintro e yq ⟨s', A', n', c', A2, n2, c2, cs', ok, rfl, hwhat, hb⟩; have hbw : Below yp.heap.size yp yq := ((Below.refl yp.heap.size yp).alloc (Nat.le_refl _) (.cells #[.int .i64 0, .slice none 0 0] 25)).trans (hb.mono (by simp)); have H8 := Lib.hid ((Bx.new 25 yp 0 (.slice none 0 0)).below hb (by simp)); have Hwk : (yp.alloc (.cells #[.int .i64 0, .slice none 0 0] 25)).heap.size = yp.heap.size + 1 := (by simp); rw [Hwk] at hwhat; have k8a := H8.out.cell0; have k8b := H8.out.cell1; have k8c := H8.out.frozen 0; have k8d := H8.out.frozen 1; have k8e := H8.out.lt; have zq := hbw.size; have s3 := ((X5.out.grown Hgp.out (fun e => by have := Option.some.inj e; omega)).below hbw s2).cell0; have s4 := ((X5.out.grown Hgp.out (fun e => by have := Option.some.inj e; omega)).below hbw s2).cell1; have Hwhat := Lib.hid hwhat; have Hrq := Lib.hid (Hrp.out.below hbw Hrp.out.lt); have Hgq := Lib.hid (gtrans Hgp.out (gbelow (some g) hbw (Nat.le_refl _))); clear hwhat hb hbw))
        all_goals go_wp2_with fail
        all_goals go_meet
        all_goals first | exact ⟨yq.heap.size, ok, s', A', n', c', cs', rfl, rfl, by omega, Bx.new _ _ _ _, fun h => ⟨(Hwhat.out h).1, (Hwhat.out h).2.1, ((Hwhat.out h).2.2.1.weaken (by omega)).alloc _, (Hwhat.out h).2.2.2⟩, Hrq.out.below ((Below.refl _ _).alloc (Nat.le_refl _) _) Hrq.out.lt, gtrans Hgq.out (World.grownBy_alloc yq _ (some g))⟩ | exact ⟨wr.heap.size, ok, s', A', n', c', cs', rfl, rfl, by omega, (H8.out.set0 s').set1 _, fun h => ⟨(Hwhat.out h).1, (Hwhat.out h).2.1, Own.weaken ((((Hwhat.out h).2.2.1).far ⟨wr.heap.size, 0, none⟩ (fun g' hA => by have := ((Hwhat.out h).2.2.1.ge hA).1; show g' ≠ wr.heap.size; omega) (.int .i64 s')).far ⟨wr.heap.size, 1, none⟩ (fun g' hA => by have := ((Hwhat.out h).2.2.1.ge hA).1; show g' ≠ wr.heap.size; omega) (.slice A' n' c')) (by omega), (Hwhat.out h).2.2.2⟩, (Hrq.out.far ⟨wr.heap.size, 0, none⟩ (by have := Hr.out.lt; show g ≠ wr.heap.size; omega) (by have := Hr.out.lt; have := Hr.out.1; show B ≤ wr.heap.size; omega) (.int .i64 s')).far ⟨wr.heap.size, 1, none⟩ (by have := Hr.out.lt; show g ≠ wr.heap.size; omega) (by have := Hr.out.lt; have := Hr.out.1; show B ≤ wr.heap.size; omega) (.slice A' n' c'), gset (gset Hgq.out ⟨wr.heap.size, 0, none⟩ (by show wr.heap.size ≤ wr.heap.size; omega) (.int .i64 s')) ⟨wr.heap.size, 1, none⟩ (by show wr.heap.size ≤ wr.heap.size; omega) (.slice A' n' c')⟩ | exact ⟨yp.heap.size, ok, s', A', n', c', cs', rfl, rfl, by omega, (H8.out.set0 s').set1 _, fun h => ⟨(Hwhat.out h).1, (Hwhat.out h).2.1, Own.weaken ((((Hwhat.out h).2.2.1).far ⟨yp.heap.size, 0, none⟩ (fun g' hA => by have := ((Hwhat.out h).2.2.1.ge hA).1; show g' ≠ yp.heap.size; omega) (.int .i64 s')).far ⟨yp.heap.size, 1, none⟩ (fun g' hA => by have := ((Hwhat.out h).2.2.1.ge hA).1; show g' ≠ yp.heap.size; omega) (.slice A' n' c')) (by omega), (Hwhat.out h).2.2.2⟩, (Hrq.out.far ⟨yp.heap.size, 0, none⟩ (by have := Hr.out.lt; show g ≠ yp.heap.size; omega) (by have := Hr.out.lt; have := Hr.out.1; show B ≤ yp.heap.size; omega) (.int .i64 s')).far ⟨yp.heap.size, 1, none⟩ (by have := Hr.out.lt; show g ≠ yp.heap.size; omega) (by have := Hr.out.lt; have := Hr.out.1; show B ≤ yp.heap.size; omega) (.slice A' n' c'), gset (gset Hgq.out ⟨yp.heap.size, 0, none⟩ (by show wr.heap.size ≤ yp.heap.size; omega) (.int .i64 s')) ⟨yp.heap.size, 1, none⟩ (by show wr.heap.size ≤ yp.heap.size; omega) (.slice A' n' c')⟩
      case rest =>
        obtain ⟨g8, ok, s', A', n', c', cs', rfl, rfl, hg8, hx8, hwhat, hr, hg9⟩ := hcut
        have hBg := hr.1
        have Hr := Lib.hid hr
        have Hg9 := Lib.hid (gtrans Hg.out hg9)
        have X4 := Lib.hid (X4.out.grown hg9 (fun e => by have := Option.some.inj e; omega))
        have X5 := Lib.hid (X5.out.grown hg9 (fun e => by have := Option.some.inj e; omega))
        have X8 := Lib.hid hx8
        have Ho := Lib.hid (Ho.out.kept hg9 (fun g' hA e => by have := (Ho.out.ge hA).1; have := Option.some.inj e; omega))
        clear hx8 hr hg9 t0 t1 t2
        cases ok with
        | false =>
          clear hwhat
          go_wp2_with fail
          go_roundw
          case rel => exact ⟨x, j, q1 + 1, A, c, cs, rfl, x1, x2, by go_num, by omega, X4.out, X5.out, Ho.out, Hne.out, Hok.out, Hr.out, Hg9.out⟩
          case measure => simp [intOf]
        | true =>
          obtain ⟨rfl, rfl, ho', hok'⟩ := hwhat rfl
          have Ho' := Lib.hid ho'
          have Hok' := Lib.hid hok'
          clear hwhat ho' hok'
          have t0 := X8.out.cell0
          have t1 := X8.out.cell1
          have t2 := X8.out.lt
          have t3 := X5.out.cell0
          have t4 := X5.out.cell1
          have t5 := X5.out.frozen 0
          have t6 := X5.out.frozen 1
          have t7 := X5.out.lt
          go_wp2_with fail
          refine (s_opp _ _ x1 x2).mono ?_
          rintro e w9 ⟨rfl, rfl⟩
          go_wp2_with fail
          go_roundw
          case rel =>
            have hr3 := (Hr.out.far ⟨y.heap.size, 0, none⟩ (by show g ≠ y.heap.size; omega) (by show B ≤ y.heap.size; omega) (.int .i64 s')).far ⟨y.heap.size, 1, none⟩ (by show g ≠ y.heap.size; omega) (by show B ≤ y.heap.size; omega) (.slice A' n' c')
            have hg3 := gset (gset Hg9.out ⟨y.heap.size, 0, none⟩ (by show w.heap.size ≤ y.heap.size; omega) (.int .i64 s')) ⟨y.heap.size, 1, none⟩ (by show w.heap.size ≤ y.heap.size; omega) (.slice A' n' c')
            have ho3 := (Ho'.out.far ⟨y.heap.size, 0, none⟩ (fun g' hA => by have := (Ho'.out.ge hA).1; show g' ≠ y.heap.size; omega) (.int .i64 s')).far ⟨y.heap.size, 1, none⟩ (fun g' hA => by have := (Ho'.out.ge hA).1; show g' ≠ y.heap.size; omega) (.slice A' n' c')
            have hx4 := (X4.out.far (p := ⟨y.heap.size, 0, none⟩) (by show w.heap.size ≠ y.heap.size; omega) (.int .i64 s')).far (p := ⟨y.heap.size, 1, none⟩) (by show w.heap.size ≠ y.heap.size; omega) (.slice A' n' c')
            exact ⟨oth x, j, q1 + 1, A', c', cs', rfl, (oth_bd x1 x2).1, (oth_bd x1 x2).2, by go_num, by omega, hx4, (X5.out.set0 s').set1 _, ho3.weaken (by omega), fun g' hA => (by have := (Ho'.out.ge hA).1; omega), Hok'.out, hr3, hg3⟩
          case measure => simp [intOf]
end Go.Proofs.YteldfjibmaigiaaDoor
