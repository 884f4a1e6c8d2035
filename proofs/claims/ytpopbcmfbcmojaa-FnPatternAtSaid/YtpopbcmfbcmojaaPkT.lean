/-
  The model's images of patterns and canonical patterns.
-/
import Derived.Test.YtpopbcmfbcmojaaPkS
namespace Go.Proofs.Ytpopbcmfbcmojaa
set_option maxRecDepth 100000
open Go.RowKit

theorem Pk.mv_get {k : Int} {cs : List Int} (hl : cs.length = 9) (k0 : 0 ≤ k) (k1 : k < 8) {p : Nat} (hp : p < 9) : (Bd.mv 3 k cs).getD (Bd.imgN 3 k p) 0 = cs.getD p 0 := by
  have hn : (cs.length : Int) = 3 * 3 := by rw [hl]; rfl
  have h := Bd.steps_at (f := Bd.imgN 3 k) (cs := cs) (l := cs) (j := cs.length) (fun a b ha hb e => Bd.imgN_inj 3 k _ (by omega) (by omega) hn k0 k1 a b ha hb e) (fun a ha => (Bd.imgN_lt 3 k _ a (by omega) (by omega) hn ha).1) (p := p) (by omega)
  unfold Bd.mv
  rw [List.getD_eq_getElem?_getD, h]
  rfl
theorem Pk.mid (k : Int) (k0 : 0 ≤ k) (k1 : k < 8) : Bd.imgN 3 k 4 = 4 := by
  rcases Pk.k8 k0 k1 with rfl | rfl | rfl | rfl | rfl | rfl | rfl | rfl <;> decide +kernel
/-- The place of a cell among the digits. -/
def Pk.pl (p : Nat) : Nat := if 4 < p then p - 1 else p
theorem Pk.cell_dg (n : Int) {p : Nat} (hp : p < 9) (h4 : p ≠ 4) : (Pk.cells n).getD p 0 = Pk.dg n (Pk.pl p) ∧ Pk.pl p ≤ 7 := by
  have h00 : n / 4 ^ 0 = n := by simp
  have : p = 0 ∨ p = 1 ∨ p = 2 ∨ p = 3 ∨ p = 5 ∨ p = 6 ∨ p = 7 ∨ p = 8 := by omega
  rcases this with rfl | rfl | rfl | rfl | rfl | rfl | rfl | rfl
  · refine ⟨?_, by decide⟩
    show n % 4 = n / 4 ^ 0 % 4
    rw [h00]
  all_goals exact ⟨rfl, by decide⟩
/-- Horner's sum over the cells 8, 7, .. -/
def Pk.hs (cs : List Int) : Nat → Int
  | 0 => 0
  | j + 1 => if j = 4 then Pk.hs cs j else 4 * Pk.hs cs j + cs.getD (8 - j) 0
theorem Pk.hs_all {cs : List Int} (hg : Pk.Good cs) : Pk.hs cs 9 = Pk.pat cs := by
  obtain ⟨a, b, c, d, e, f, g, h, rfl, _⟩ := hg
  simp [Pk.hs, Pk.pat, Pk.enc]
  omega
theorem Pk.hs_bd {cs : List Int} (hg : Pk.Good cs) {j : Nat} (hj : j ≤ 9) : 0 ≤ Pk.hs cs j ∧ Pk.hs cs j ≤ 65535 := by
  obtain ⟨a, b, c, d, e, f, g, h, rfl, ha, hb, hc, hd, he, hf, hg, hh⟩ := hg
  unfold Pk.d4 at *
  have : j = 0 ∨ j = 1 ∨ j = 2 ∨ j = 3 ∨ j = 4 ∨ j = 5 ∨ j = 6 ∨ j = 7 ∨ j = 8 ∨ j = 9 := by omega
  rcases this with rfl | rfl | rfl | rfl | rfl | rfl | rfl | rfl | rfl | rfl <;> simp [Pk.hs] <;> omega
set_option maxHeartbeats 4000000 in
theorem s_trPat (n k : Int) (w : World) (h0 : 0 ≤ n) (k0 : 0 ≤ k) (k1 : k < 8) : Calls Try.prog 90 #[.int .i64 n, .int .i64 k] w fun e w' => e = .returned (.int .i64 (Pk.im k n)) ∧ w' = w := by
  have hg : Pk.Good (Bd.mv 3 k (Pk.cells n)) := Pk.mv_good k0 k1 (Pk.good_cells n)
  have hA : Pk.im k n = Pk.hs (Bd.mv 3 k (Pk.cells n)) 9 := (Pk.hs_all hg).symm
  have HA := Lib.hid hA
  clear hA
  go_enter Try.func90, Try.ntmps90
  go_wp2_with fail
  go_loopg [5, 6] 10 (fun q v5 v6 wr => ∃ j : Nat, j + q = 10 ∧ j ≤ 9 ∧ v5 = .int .i64 (Pk.hs (Bd.mv 3 k (Pk.cells n)) j) ∧ v6 = .int .i64 (8 - (j : Nat)) ∧ wr = w)
  case atStart => exact ⟨0, by omega, by omega, rfl, rfl, rfl⟩
  case round =>
    obtain ⟨j, hj, hj9, rfl, rfl, rfl⟩ := hrel
    obtain ⟨b0, b1⟩ := Pk.hs_bd hg hj9
    by_cases hjj : j = 9
    · subst hjj
      have hlt : ¬ (0 : Int) ≤ 8 - (((9 : Nat) : Int)) := by omega
      go_wp2_with fail
      go_ret
      exact ⟨ret_int HA.out.symm, rfl⟩
    · obtain ⟨p, hp⟩ : ∃ p, p = 8 - j := ⟨_, rfl⟩
      have hkp : 8 - ((j : Nat) : Int) = (p : Nat) := by omega
      have hp8 : p ≤ 8 := by omega
      have hp0 : (0 : Int) ≤ (p : Nat) := by omega
      have hs1 : Pk.hs (Bd.mv 3 k (Pk.cells n)) (j + 1) = if j = 4 then Pk.hs (Bd.mv 3 k (Pk.cells n)) j else 4 * Pk.hs (Bd.mv 3 k (Pk.cells n)) j + (Bd.mv 3 k (Pk.cells n)).getD p 0 := by rw [hp]; rfl
      obtain ⟨H, hH⟩ : ∃ H, Pk.hs (Bd.mv 3 k (Pk.cells n)) j = H := ⟨_, rfl⟩
      rw [hH] at b0 b1 hs1 ⊢
      rw [hkp]
      by_cases h4 : j = 4
      · have hs2 : Pk.hs (Bd.mv 3 k (Pk.cells n)) (j + 1) = H := by rw [hs1, if_pos h4]
        have Hs := Lib.hid hs2
        have q4 : (((p : Nat) : Int) == 4) = true := by simp; omega
        have Hp := Lib.hid hp
        clear hs1 hs2 hH hp
        go_wp2_with fail
        go_roundg (9 - j)
        case measure => omega
        case rel => exact ⟨j + 1, by omega, by omega, by rw [Hs.out], by have := Hp.out; go_num, rfl⟩
      · obtain ⟨f, hf9, hfp⟩ := Bd.imgN_sur 3 k 9 (by omega) (by omega) (by omega) k0 k1 p (by omega)
        have hf4 : f ≠ 4 := by intro e; rw [e, Pk.mid k k0 k1] at hfp; omega
        have hcell : (Bd.mv 3 k (Pk.cells n)).getD p 0 = Pk.dg n (Pk.pl f) := by
          rw [← hfp, Pk.mv_get rfl k0 k1 hf9]
          exact (Pk.cell_dg n hf9 hf4).1
        have hi7 := (Pk.cell_dg n hf9 hf4).2
        obtain ⟨i, hi⟩ : ∃ i, Pk.pl f = i := ⟨_, rfl⟩
        rw [hi] at hcell hi7
        have hplace : (if (4 : Int) < (f : Nat) then ((f : Nat) : Int) - 1 else (f : Nat)) = (i : Nat) := by
          rw [← hi]
          unfold Pk.pl
          split <;> split <;> omega
        obtain ⟨d, hd⟩ : ∃ d, Pk.dg n i = d := ⟨_, rfl⟩
        obtain ⟨d0, d1⟩ := Pk.dg_bd n i
        have hsh := Pk.shr4 n hi7
        obtain ⟨Q, hQ⟩ : ∃ Q, n / 2 ^ (2 * i) = Q := ⟨_, rfl⟩
        have hQ0 : 0 ≤ Q := by rw [← hQ]; exact Int.ediv_nonneg h0 (Int.pow_nonneg (by decide))
        have hQd : Q.tmod 4 = d := by rw [Int.tmod_eq_emod_of_nonneg hQ0, ← hQ, hsh, ← hd]; rfl
        rw [hd] at d0 d1
        have hs2 : Pk.hs (Bd.mv 3 k (Pk.cells n)) (j + 1) = 4 * H + d := by rw [hs1, if_neg h4, hcell, hd]
        have Hs := Lib.hid hs2
        have q4 : (((p : Nat) : Int) == 4) = false := by simp; omega
        have hinj : ∀ x : Nat, x < f → Pt.img 3 k x ≠ (p : Nat) := by
          intro x hx e
          have h9 := (Bd.imgN_lt 3 k 9 x (by omega) (by omega) (by omega) (by omega)).2
          have h92 := (Bd.imgN_lt 3 k 9 f (by omega) (by omega) (by omega) (by omega)).2
          have : Bd.imgN 3 k x = Bd.imgN 3 k f := by omega
          have := Bd.imgN_inj 3 k 9 (by omega) (by omega) (by omega) k0 k1 x f (by omega) hf9 this
          omega
        have hat : Pt.img 3 k f = (p : Nat) := by
          have h92 := (Bd.imgN_lt 3 k 9 f (by omega) (by omega) (by omega) (by omega)).2
          omega
        have Hinj := Lib.hid hinj
        have Hat := Lib.hid hat
        have Hpl := Lib.hid hplace
        have Hp := Lib.hid hp
        have hi7' : ((i : Nat) : Int) ≤ 7 := by omega
        have hi0 : (0 : Int) ≤ (i : Nat) := by omega
        clear hs1 hs2 hH hp hcell hi hd hsh hfp hinj hat hplace
        go_wp2_with fail
        go_loopg [7] (f + 1) (fun q v7 wr' => ∃ x : Nat, x + q = f + 1 ∧ x ≤ f ∧ v7 = .int .i64 (x : Nat) ∧ wr' = wr)
        case atStart => exact ⟨0, by omega, by omega, rfl, rfl⟩
        case round =>
          obtain ⟨x, hx, hxf, rfl, rfl⟩ := hrel
          have hx0 : (0 : Int) ≤ (x : Nat) := by omega
          go_wp2_with fail
          refine (s_transform 3 k (x : Nat) _ (by omega) (by omega) (by omega) (by omega) k0 k1).mono ?_
          rintro e y ⟨rfl, rfl⟩
          by_cases hxx : x = f
          · subst hxx
            rw [Hat.out]
            have hbb : (((p : Nat) : Int) != ((p : Nat) : Int)) = false := by simp
            go_wp2_with fail
            refine (s_pplace (x : Nat) _ (by omega) (by omega)).mono ?_
            rintro e y ⟨rfl, rfl⟩
            rw [Hpl.out]
            go_wp2_with fail
            go_roundg (9 - j)
            case measure => omega
            case rel => exact ⟨j + 1, by omega, by omega, by rw [Hs.out], by have := Hp.out; go_num, rfl⟩
          · have hne := Hinj.out x (by omega)
            obtain ⟨z, hz⟩ : ∃ z, Pt.img 3 k (x : Nat) = z := ⟨_, rfl⟩
            rw [hz] at hne ⊢
            have hbb : (z != ((p : Nat) : Int)) = true := by simpa using hne
            clear hz hne
            go_wp2_with fail
            go_roundg (f - x)
            case measure => omega
            case rel => exact ⟨x + 1, by omega, by omega, by go_num, rfl⟩
theorem s_can0 (n : Int) (w : World) (h0 : 0 ≤ n) (h1 : n ≤ 65535) : Calls Try.prog 71 #[.int .i64 n] w fun e w' => e = .returned (.int .i64 (Pk.can n)) ∧ w' = w := by
  go_enter Try.func71, Try.ntmps71
  go_wp2_with fail
  go_loopg [3, 4] 8 (fun q v3 v4 wr => ∃ k : Nat, k + q = 8 ∧ k ≤ 7 ∧ v3 = .int .i64 (Pk.upto n k) ∧ v4 = .int .i64 ((k + 1 : Nat) : Int) ∧ wr = w)
  case atStart => exact ⟨0, by omega, by omega, by rw [show Pk.upto n 0 = Pk.im 0 n from rfl, Pk.im0 h0 h1], rfl, rfl⟩
  case round =>
    obtain ⟨k, hk, hk7, rfl, rfl, rfl⟩ := hrel
    by_cases hkk : k = 7
    · subst hkk
      have hlt : ¬ ((7 + 1 : Nat) : Int) < 8 := by omega
      go_wp2_with fail
      go_ret
      exact ⟨rfl, rfl⟩
    · have hlt : ((k + 1 : Nat) : Int) < 8 := by omega
      have hk0 : (0 : Int) ≤ ((k + 1 : Nat) : Int) := by omega
      have hs : Pk.upto n (k + 1) = min (Pk.upto n k) (Pk.im ((k + 1 : Nat) : Int) n) := by
        rw [show Pk.upto n (k + 1) = min (Pk.upto n k) (Pk.im ((k : Int) + 1) n) from rfl]
        rfl
      obtain ⟨x, hx⟩ : ∃ x, Pk.im ((k + 1 : Nat) : Int) n = x := ⟨_, rfl⟩
      obtain ⟨y, hy⟩ : ∃ y, Pk.upto n k = y := ⟨_, rfl⟩
      rw [hx, hy] at hs
      rw [hy]
      have Hx := Lib.hid hx
      clear hx hy
      by_cases hle : y ≤ x
      · have hm : Pk.upto n (k + 1) = y := by rw [hs]; omega
        have Hm := Lib.hid hm
        clear hs hm
        go_wp2_with fail
        refine (s_trPat n _ _ h0 hk0 hlt).mono ?_
        rintro e z ⟨rfl, rfl⟩
        rw [Hx.out]
        go_wp2_with fail
        go_roundg (7 - k)
        case measure => omega
        case rel => exact ⟨k + 1, by omega, by omega, by rw [Hm.out], by go_num, rfl⟩
      · have hm : Pk.upto n (k + 1) = x := by rw [hs]; omega
        have Hm := Lib.hid hm
        clear hs hm
        go_wp2_with fail
        refine (s_trPat n _ _ h0 hk0 hlt).mono ?_
        rintro e z ⟨rfl, rfl⟩
        rw [Hx.out]
        go_wp2_with fail
        go_roundg (7 - k)
        case measure => omega
        case rel => exact ⟨k + 1, by omega, by omega, by rw [Hm.out], by go_num, rfl⟩
end Go.Proofs.Ytpopbcmfbcmojaa
