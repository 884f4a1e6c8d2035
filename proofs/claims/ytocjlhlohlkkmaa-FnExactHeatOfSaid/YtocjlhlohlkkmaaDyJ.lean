/-
  The program's own dyadic numbers: numerators for an exponent, validity.
-/
import Derived.Test.YtocjlhlohlkkmaaDyI
import Derived.Test.YtocjlhlohlkkmaaDyB
namespace Go.Proofs.Ytocjlhlohlkkmaa
set_option maxRecDepth 100000
open Go.RowKit

theorem i_over (n e x : Int) (w : World) (hn1 : -9999 ≤ n) (hn2 : n ≤ 9999) (e1 : 0 ≤ e) (e2 : e ≤ x) (x2 : x ≤ 8) : Calls Try.prog 48 #[.agg #[.int .i64 n, .int .i64 e], .int .i64 x] w fun r w' => r = .returned (.int .i64 (n * 2 ^ (x - e).toNat)) ∧ Below w.heap.size w w' := by
  obtain ⟨b1, b2⟩ := Dy.mul_bd hn1 hn2 (d := x - e) (by omega) (by omega)
  go_enter Try.func48, Try.ntmps48
  go_wp2
  go_ret
  exact ⟨rfl, (Below.refl _ _).alloc (Nat.le_refl _) _⟩
theorem i_above (n e x : Int) (w : World) (hn1 : -9999 ≤ n) (hn2 : n ≤ 9999) (e1 : 0 ≤ e) (e2 : e ≤ 8) (x1 : 0 ≤ x) (x2 : x ≤ 8) : Calls Try.prog 52 #[.agg #[.int .i64 n, .int .i64 e], .int .i64 x] w fun r w' => r = .returned (.int .i64 (Dy.loN (Dy.sc n e) x.toNat)) ∧ Below w.heap.size w w' := by
  obtain ⟨b1, b2⟩ := Dy.mul_bd hn1 hn2 x1 x2
  have hfin := Dy.above_lo (n := n) e1 e2 x1 x2
  have hok := (Dy.sc_bd' (n := n) hn1 hn2 e1 e2)
  have hlb := Dy.lo_bd (A := Dy.sc n e) (e := x.toNat) (by omega) hok.1 hok.2
  have HF := Lib.hid hfin
  rw [← hfin] at hlb
  obtain ⟨l1, l2⟩ := hlb
  clear hok hfin
  rw [← HF.out]
  clear HF
  go_enter Try.func52, Try.ntmps52
  go_wp2
  go_quiet (fail)
  go_wp2
  go_ret
  exact ⟨rfl, (fun h => ⟨h.os, h.tape, h.output, h.size, h.block⟩) ((Below.refl w.heap.size w).alloc (Nat.le_refl _) (.cells #[.int .i64 n, .int .i64 e] 26))⟩
set_option maxRecDepth 100000 in
set_option maxHeartbeats 4000000 in
theorem i_ok (n e : Int) (w : World) : Calls Try.prog 47 #[.agg #[.int .i64 n, .int .i64 e]] w fun r w' => r = .returned (.bool (Dy.ok n e)) ∧ Below w.heap.size w w' := by
  by_cases hr : Dy.okR n e = true
  · obtain ⟨n1, n2, e1, e2⟩ := Dy.okR_iff.1 hr
    obtain ⟨k, rfl⟩ := Int.eq_ofNat_of_zero_le e1
    have Hk := Lib.hid (Dy.ok_prog hr)
    have Hr := Lib.hid hr
    clear hr
    obtain ⟨⟨x, y⟩, hp⟩ : ∃ p, Dy.low k n = p := ⟨_, rfl⟩
    have Hp := Lib.hid hp
    have hv : Dy.ok n (k : Nat) = decide ((x, y) = (n, ((k : Nat) : Int))) := by
      have := Hk.out
      rw [Int.toNat_natCast, Hp.out] at this
      exact this
    clear hp
    by_cases hx : x = n
    · by_cases hy : y = ((k : Nat) : Int)
      · have hok : Dy.ok n (k : Nat) = true := by rw [hv, hx, hy]; simp
        have Hv := Lib.hid hok
        clear hv hok
        subst hx hy
        have HB := Lib.hid (Below.refl w.heap.size w)
        go_enter Try.func47, Try.ntmps47
        go_wp2_with fail
        obtain ⟨x1, hy3, hb2, z4, z5⟩ := new_box w (.cells #[.int .i64 x, .int .i64 (k : Nat)] 26)
        have X0 : Hid (Bx 26 x1 w.heap.size x (.int .i64 (k : Nat))) := Lib.hid (by rw [hy3]; exact Bx.new _ _ _ _)
        rw [← hy3]
        clear hy3
        have HB := Lib.hid (bstep HB.out hb2)
        clear hb2
        have X0_0 := X0.out.cell0
        have X0_1 := X0.out.cell1
        have X0_l := X0.out.lt
        go_wp2_with fail
        have HC := Lib.hid (Below.refl x1.heap.size x1)
        go_cut [2] (fun v wx => v = .bool true ∧ Below x1.heap.size x1 wx)
        case first =>
          go_region_held3 (fun w' => w'.cell? ⟨w.heap.size, 0, none⟩ = some (.int .i64 x) ∧ w'.cell? ⟨w.heap.size, 1, none⟩ = some (.int .i64 (k : Nat))) (first | exact ⟨X0_0, X0_1⟩ | go_keep) (first | (go_at_call 42; refine (i_inR x (k : Nat) _).mono ?_; rintro e yc ⟨rfl, hb9⟩; (try replace hb9 := undrew hb9); (try (have X0 := Lib.hid (X0.out.step hb9))); have HC := Lib.hid (bstep HC.out hb9); have X0_0 := X0.out.cell0; have X0_1 := X0.out.cell1; have X0_l := X0.out.lt; rw [Hr.out]; clear hb9) | (go_at_call 43; refine (i_lowest x k _ (by omega) (by omega) (by omega)).mono ?_; rintro e yc ⟨rfl, hb9⟩; (try replace hb9 := undrew hb9); (try (have X0 := Lib.hid (X0.out.step hb9))); have HC := Lib.hid (bstep HC.out hb9); have X0_0 := X0.out.cell0; have X0_1 := X0.out.cell1; have X0_l := X0.out.lt; rw [Hp.out]; clear hb9))
          all_goals go_wp2_with fail
          all_goals go_meet
          all_goals exact ⟨rfl, HC.out⟩
        case rest =>
          clear HC
          obtain ⟨rfl, hb6⟩ := hcut
          clear X0_0 X0_1 X0_l
          have X0 := Lib.hid (X0.out.step hb6)
          have HB := Lib.hid (bstep HB.out hb6)
          clear hb6
          have X0_0 := X0.out.cell0
          have X0_1 := X0.out.cell1
          have X0_l := X0.out.lt
          go_wp2_with fail
          go_ret
          exact ⟨by rw [Hv.out]; rfl, HB.out⟩
      · have hok : Dy.ok n (k : Nat) = false := by rw [hv]; simp [hy]
        have Hv := Lib.hid hok
        have hq : (((k : Nat) : Int) == y) = false := by simp; omega
        clear hv hok
        subst hx
        have HB := Lib.hid (Below.refl w.heap.size w)
        go_enter Try.func47, Try.ntmps47
        go_wp2_with fail
        obtain ⟨x1, hy3, hb2, z4, z5⟩ := new_box w (.cells #[.int .i64 x, .int .i64 (k : Nat)] 26)
        have X0 : Hid (Bx 26 x1 w.heap.size x (.int .i64 (k : Nat))) := Lib.hid (by rw [hy3]; exact Bx.new _ _ _ _)
        rw [← hy3]
        clear hy3
        have HB := Lib.hid (bstep HB.out hb2)
        clear hb2
        have X0_0 := X0.out.cell0
        have X0_1 := X0.out.cell1
        have X0_l := X0.out.lt
        go_wp2_with fail
        have HC := Lib.hid (Below.refl x1.heap.size x1)
        go_cut [2] (fun v wx => v = .bool false ∧ Below x1.heap.size x1 wx)
        case first =>
          go_region_held3 (fun w' => w'.cell? ⟨w.heap.size, 0, none⟩ = some (.int .i64 x) ∧ w'.cell? ⟨w.heap.size, 1, none⟩ = some (.int .i64 (k : Nat))) (first | exact ⟨X0_0, X0_1⟩ | go_keep) (first | (go_at_call 42; refine (i_inR x (k : Nat) _).mono ?_; rintro e yc ⟨rfl, hb9⟩; (try replace hb9 := undrew hb9); (try (have X0 := Lib.hid (X0.out.step hb9))); have HC := Lib.hid (bstep HC.out hb9); have X0_0 := X0.out.cell0; have X0_1 := X0.out.cell1; have X0_l := X0.out.lt; rw [Hr.out]; clear hb9) | (go_at_call 43; refine (i_lowest x k _ (by omega) (by omega) (by omega)).mono ?_; rintro e yc ⟨rfl, hb9⟩; (try replace hb9 := undrew hb9); (try (have X0 := Lib.hid (X0.out.step hb9))); have HC := Lib.hid (bstep HC.out hb9); have X0_0 := X0.out.cell0; have X0_1 := X0.out.cell1; have X0_l := X0.out.lt; rw [Hp.out]; clear hb9))
          all_goals go_wp2_with fail
          all_goals go_meet
          all_goals exact ⟨rfl, HC.out⟩
        case rest =>
          clear HC
          obtain ⟨rfl, hb6⟩ := hcut
          clear X0_0 X0_1 X0_l
          have X0 := Lib.hid (X0.out.step hb6)
          have HB := Lib.hid (bstep HB.out hb6)
          clear hb6
          have X0_0 := X0.out.cell0
          have X0_1 := X0.out.cell1
          have X0_l := X0.out.lt
          go_wp2_with fail
          go_ret
          exact ⟨by rw [Hv.out]; rfl, HB.out⟩
    · have hok : Dy.ok n (k : Nat) = false := by rw [hv]; simp [hx]
      have Hv := Lib.hid hok
      have hq : (n == x) = false := by simp; omega
      clear hv hok
      have HB := Lib.hid (Below.refl w.heap.size w)
      go_enter Try.func47, Try.ntmps47
      go_wp2_with fail
      obtain ⟨x1, hy3, hb2, z4, z5⟩ := new_box w (.cells #[.int .i64 n, .int .i64 (k : Nat)] 26)
      have X0 : Hid (Bx 26 x1 w.heap.size n (.int .i64 (k : Nat))) := Lib.hid (by rw [hy3]; exact Bx.new _ _ _ _)
      rw [← hy3]
      clear hy3
      have HB := Lib.hid (bstep HB.out hb2)
      clear hb2
      have X0_0 := X0.out.cell0
      have X0_1 := X0.out.cell1
      have X0_l := X0.out.lt
      go_wp2_with fail
      have HC := Lib.hid (Below.refl x1.heap.size x1)
      go_cut [2] (fun v wx => v = .bool false ∧ Below x1.heap.size x1 wx)
      case first =>
        go_region_held3 (fun w' => w'.cell? ⟨w.heap.size, 0, none⟩ = some (.int .i64 n) ∧ w'.cell? ⟨w.heap.size, 1, none⟩ = some (.int .i64 (k : Nat))) (first | exact ⟨X0_0, X0_1⟩ | go_keep) (first | (go_at_call 42; refine (i_inR n (k : Nat) _).mono ?_; rintro e yc ⟨rfl, hb9⟩; (try replace hb9 := undrew hb9); (try (have X0 := Lib.hid (X0.out.step hb9))); have HC := Lib.hid (bstep HC.out hb9); have X0_0 := X0.out.cell0; have X0_1 := X0.out.cell1; have X0_l := X0.out.lt; rw [Hr.out]; clear hb9) | (go_at_call 43; refine (i_lowest n k _ (by omega) (by omega) (by omega)).mono ?_; rintro e yc ⟨rfl, hb9⟩; (try replace hb9 := undrew hb9); (try (have X0 := Lib.hid (X0.out.step hb9))); have HC := Lib.hid (bstep HC.out hb9); have X0_0 := X0.out.cell0; have X0_1 := X0.out.cell1; have X0_l := X0.out.lt; rw [Hp.out]; clear hb9))
        all_goals go_wp2_with fail
        all_goals go_meet
        all_goals exact ⟨rfl, HC.out⟩
      case rest =>
        clear HC
        obtain ⟨rfl, hb6⟩ := hcut
        clear X0_0 X0_1 X0_l
        have X0 := Lib.hid (X0.out.step hb6)
        have HB := Lib.hid (bstep HB.out hb6)
        clear hb6
        have X0_0 := X0.out.cell0
        have X0_1 := X0.out.cell1
        have X0_l := X0.out.lt
        go_wp2_with fail
        go_ret
        exact ⟨by rw [Hv.out]; rfl, HB.out⟩
  · have hr' : Dy.okR n e = false := by simpa using hr
    have Hk : Hid (Dy.ok n e = false) := Lib.hid (by rw [Dy.ok, hr']; rfl)
    have Hr := Lib.hid hr'
    clear hr hr'
    have HB := Lib.hid (Below.refl w.heap.size w)
    go_enter Try.func47, Try.ntmps47
    go_wp2_with fail
    obtain ⟨x1, hy3, hb2, z4, z5⟩ := new_box w (.cells #[.int .i64 n, .int .i64 e] 26)
    have X0 : Hid (Bx 26 x1 w.heap.size n (.int .i64 e)) := Lib.hid (by rw [hy3]; exact Bx.new _ _ _ _)
    rw [← hy3]
    clear hy3
    have HB := Lib.hid (bstep HB.out hb2)
    clear hb2
    have X0_0 := X0.out.cell0
    have X0_1 := X0.out.cell1
    have X0_l := X0.out.lt
    go_wp2_with fail
    have HC := Lib.hid (Below.refl x1.heap.size x1)
    go_cut [2] (fun v wx => v = .bool false ∧ Below x1.heap.size x1 wx)
    case first =>
      go_region_with (first | (go_at_call 42; refine (i_inR n e _).mono ?_; rintro e yc ⟨rfl, hb9⟩; (try replace hb9 := undrew hb9); (try (have X0 := Lib.hid (X0.out.step hb9))); have HC := Lib.hid (bstep HC.out hb9); have X0_0 := X0.out.cell0; have X0_1 := X0.out.cell1; have X0_l := X0.out.lt; rw [Hr.out]; clear hb9))
      all_goals go_wp2_with fail
      all_goals go_meet
      all_goals exact ⟨rfl, HC.out⟩
    case rest =>
      clear HC
      obtain ⟨rfl, hb6⟩ := hcut
      clear X0_0 X0_1 X0_l
      have X0 := Lib.hid (X0.out.step hb6)
      have HB := Lib.hid (bstep HB.out hb6)
      clear hb6
      have X0_0 := X0.out.cell0
      have X0_1 := X0.out.cell1
      have X0_l := X0.out.lt
      go_wp2_with fail
      go_ret
      exact ⟨by rw [Hk.out]; rfl, HB.out⟩
end Go.Proofs.Ytocjlhlohlkkmaa
