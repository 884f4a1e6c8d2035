/-
  Texts that laws over drawn boards stand on: KyI, HaP, HaI, DrawLI, HaD, Count, Valid, CntP, LawP, ColAt, DrawP, SetS, CopyB, SetI, SetV.
-/
import Derived.Test.YtpopbcmfbcmojaaSpecA
import Derived.Test.YtpopbcmfbcmojaaBoardI
import Derived.Deep.LoopGhost
import Derived.Test.YtpopbcmfbcmojaaReader
import Derived.Test.YtpopbcmfbcmojaaRows2
import Derived.Deep.DeepCutAuto
import Derived.Test.YtpopbcmfbcmojaaStep
import Derived.Test.YtpopbcmfbcmojaaPoint
import Derived.Deep.RegionWith
import Derived.Test.YtpopbcmfbcmojaaTrS
import Derived.Test.YtpopbcmfbcmojaaInvS
import Derived.Laws.CopyOwn
import Derived.Test.YtpopbcmfbcmojaaCopy
namespace Go.Proofs.Ytpopbcmfbcmojaa
set_option maxRecDepth 100000
open Go.RowKit

def Ky.step (x : Int) : Int := (48271 * x + 11) % 1048576
def Ky.it : Nat → Int → Int
  | 0, x => x
  | k + 1, x => Ky.step (Ky.it k x)
def Ky.ok (p c : Int) : Bool := Pt.okP 7 p && (c == 1 || c == 2)
def Ky.key (p c : Int) : Int := if Ky.ok p c = true then Ky.it 4 (2 * p + c) else -1
theorem Ky.it_bd {x : Int} (h0 : 0 ≤ x) (h1 : x ≤ 98) : ∀ k, 0 ≤ Ky.it k x ∧ Ky.it k x ≤ 1048575
  | 0 => ⟨h0, by show x ≤ _; omega⟩
  | k + 1 => by
    unfold Ky.it Ky.step
    omega
theorem Ky.ok_iff {p c : Int} : Ky.ok p c = true ↔ 0 ≤ p ∧ p ≤ 48 ∧ (c = 1 ∨ c = 2) := by
  unfold Ky.ok
  rw [Bool.and_eq_true, Pt.okP_iff, Bool.or_eq_true, beq_iff_eq, beq_iff_eq]
  omega
theorem Ky.key_bd {p c : Int} (h : Ky.ok p c = true) : 0 ≤ Ky.key p c ∧ Ky.key p c ≤ 1048575 := by
  unfold Ky.key
  rw [if_pos h]
  obtain ⟨h1, h2, h3⟩ := Ky.ok_iff.1 h
  exact Ky.it_bd (by omega) (by omega) 4
theorem Ky.step_inj {x y : Int} (hx : 0 ≤ x) (hx1 : x ≤ 1048575) (hy : 0 ≤ y) (hy1 : y ≤ 1048575) (h : Ky.step x = Ky.step y) : x = y := by
  unfold Ky.step at h
  omega
theorem Ky.it_inj {x y : Int} (hx : 0 ≤ x) (hx1 : x ≤ 98) (hy : 0 ≤ y) (hy1 : y ≤ 98) : ∀ k, Ky.it k x = Ky.it k y → x = y
  | 0, h => h
  | k + 1, h => by
    obtain ⟨a1, a2⟩ := Ky.it_bd hx hx1 k
    obtain ⟨b1, b2⟩ := Ky.it_bd hy hy1 k
    exact Ky.it_inj hx hx1 hy hy1 k (Ky.step_inj a1 a2 b1 b2 h)
theorem Ky.differ {p c : Int} (h : Ky.ok p c = true) : Ky.ok p (3 - c) = true ∧ Ky.key p (3 - c) ≠ Ky.key p c := by
  obtain ⟨h1, h2, h3⟩ := Ky.ok_iff.1 h
  have h' : Ky.ok p (3 - c) = true := Ky.ok_iff.2 (by omega)
  refine ⟨h', ?_⟩
  unfold Ky.key
  rw [if_pos h, if_pos h']
  intro e
  have := Ky.it_inj (by omega) (by omega) (by omega) (by omega) 4 e
  omega

theorem s_kcolor (x : Int) (w : World) : Calls Try.prog 112 #[.int .i64 x] w fun e w' => e = .returned (.bool (decide (1 ≤ x) && decide (x ≤ 2))) ∧ w = w' := by
  go_enter Try.func112, Try.ntmps112
  go_wp2_with fail
  refine (s_range _ _ _ _).mono ?_
  rintro e y ⟨rfl, rfl⟩
  go_wp2_with fail
  go_ret
  exact ⟨rfl, rfl⟩
theorem i_kstone (c : Int) (w : World) : Calls Try.prog 76 #[.int .i64 c] w fun e w' => e = .returned (.bool (c == 1 || c == 2)) ∧ w = w' := i_isStone c w
theorem i_key (p c : Int) (w : World) : Calls Try.prog 36 #[.int .i64 p, .int .i64 c] w fun e w' => e = .returned (.int .i64 (Ky.key p c)) ∧ w = w' := by
  by_cases hp : Pt.okP 7 p = true
  · by_cases hc : (c == 1 || c == 2) = true
    · have hok : Ky.ok p c = true := by unfold Ky.ok; rw [hp, hc]; rfl
      have hk : Ky.key p c = Ky.it 4 (2 * p + c) := by unfold Ky.key; rw [if_pos hok]
      obtain ⟨p1, p2, c1⟩ := Ky.ok_iff.1 hok
      have c0 : 1 ≤ c := by omega
      have c2 : c ≤ 2 := by omega
      have Hk := Lib.hid hk
      have Hp := Lib.hid hp
      have Hc := Lib.hid hc
      clear hk hp hc hok c1
      go_enter Try.func36, Try.ntmps36
      go_wp2_with fail
      refine (i_point _ _ _).mono ?_
      rintro e y ⟨rfl, rfl⟩
      rw [Hp.out]
      go_wp2_with fail
      refine (i_kstone _ _).mono ?_
      rintro e y ⟨rfl, rfl⟩
      rw [Hc.out]
      obtain ⟨X, hX⟩ : ∃ X, 2 * p + c = X := ⟨_, rfl⟩
      have x0 : 0 ≤ X := by omega
      have x1 : X ≤ 98 := by omega
      rw [hX] at Hk
      go_wp2_with fail
      go_loopg [5, 18] 5 (fun q v5 v18 wr => ∃ k : Nat, k + q = 5 ∧ k ≤ 4 ∧ v5 = .int .i64 (Ky.it k X) ∧ v18 = .int .i64 (k : Nat) ∧ wr = w)
      case atStart => exact ⟨0, by omega, by omega, by rw [← hX]; rfl, rfl, rfl⟩
      case round =>
        obtain ⟨k, hk, hk4, rfl, rfl, rfl⟩ := hrel
        obtain ⟨b0, b1⟩ := Ky.it_bd x0 x1 k
        by_cases hkk : k = 4
        · subst hkk
          have hlt : ¬ (((4 : Nat) : Int)) < 4 := by omega
          clear hX
          go_wp2_with fail
          go_ret
          exact ⟨ret_int Hk.out.symm, rfl⟩
        · have hlt : ((k : Nat) : Int) < 4 := by omega
          obtain ⟨Y, hY⟩ : ∃ Y, Ky.it k X = Y := ⟨_, rfl⟩
          have hYs : Ky.it (k + 1) X = (48271 * Y + 11) % 1048576 := by rw [← hY]; rfl
          have Hs := Lib.hid hYs
          rw [hY] at b0 b1 ⊢
          clear hX hY hYs
          go_wp2_with fail
          go_roundg (4 - k)
          case measure => omega
          case rel => exact ⟨k + 1, by omega, by omega, by first | (rw [Hs.out]; done) | (rw [Hs.out]; rfl) | (rw [Hs.out]; go_num), by go_num, rfl⟩
    · have hc' : (c == 1 || c == 2) = false := by simpa using hc
      have hk : Ky.key p c = -1 := by unfold Ky.key Ky.ok; rw [hc', Bool.and_false, if_neg (by decide)]
      have Hk := Lib.hid hk
      have Hp := Lib.hid hp
      have Hc := Lib.hid hc'
      clear hk hp hc hc'
      go_enter Try.func36, Try.ntmps36
      go_wp2_with fail
      refine (i_point _ _ _).mono ?_
      rintro e y ⟨rfl, rfl⟩
      rw [Hp.out]
      go_wp2_with fail
      refine (i_kstone _ _).mono ?_
      rintro e y ⟨rfl, rfl⟩
      rw [Hc.out]
      go_wp2_with fail
      go_ret
      exact ⟨ret_int Hk.out.symm, rfl⟩
  · have hp' : Pt.okP 7 p = false := by simpa using hp
    have hk : Ky.key p c = -1 := by unfold Ky.key Ky.ok; rw [hp', Bool.false_and, if_neg (by decide)]
    have Hk := Lib.hid hk
    have Hp := Lib.hid hp'
    clear hk hp hp'
    go_enter Try.func36, Try.ntmps36
    go_wp2_with fail
    refine (i_point _ _ _).mono ?_
    rintro e y ⟨rfl, rfl⟩
    rw [Hp.out]
    go_wp2_with fail
    go_ret
    exact ⟨ret_int Hk.out.symm, rfl⟩
theorem s_key0 (p c : Int) (w : World) (p1 : 0 ≤ p) (p2 : p ≤ 48) (c0 : 1 ≤ c) (c2 : c ≤ 2) : Calls Try.prog 91 #[.int .i64 p, .int .i64 c] w fun e w' => e = .returned (.int .i64 (Ky.it 4 (2 * p + c))) ∧ w = w' := by
  obtain ⟨X, hX⟩ : ∃ X, 2 * p + c = X := ⟨_, rfl⟩
  have x0 : 0 ≤ X := by omega
  have x1 : X ≤ 98 := by omega
  have HX := Lib.hid hX
  go_enter Try.func91, Try.ntmps91
  go_wp2_with fail
  go_loopg [5, 6] 5 (fun q v5 v18 wr => ∃ k : Nat, k + q = 5 ∧ k ≤ 4 ∧ v5 = .int .i64 (Ky.it k X) ∧ v18 = .int .i64 (k : Nat) ∧ wr = w)
  case atStart => exact ⟨0, by omega, by omega, by rw [← hX]; rfl, rfl, rfl⟩
  case round =>
    obtain ⟨k, hk, hk4, rfl, rfl, rfl⟩ := hrel
    obtain ⟨b0, b1⟩ := Ky.it_bd x0 x1 k
    by_cases hkk : k = 4
    · subst hkk
      have hlt : ¬ (((4 : Nat) : Int)) < 4 := by omega
      clear hX
      go_wp2_with fail
      go_ret
      exact ⟨ret_int (by rw [HX.out]), rfl⟩
    · have hlt : ((k : Nat) : Int) < 4 := by omega
      obtain ⟨Y, hY⟩ : ∃ Y, Ky.it k X = Y := ⟨_, rfl⟩
      have hYs : Ky.it (k + 1) X = (48271 * Y + 11) % 1048576 := by rw [← hY]; rfl
      have Hs := Lib.hid hYs
      rw [hY] at b0 b1 ⊢
      clear hX hY hYs
      go_wp2_with fail
      go_roundg (4 - k)
      case measure => omega
      case rel => exact ⟨k + 1, by omega, by omega, by first | (rw [Hs.out]; done) | (rw [Hs.out, Int.mul_comm 48271]; done) | (rw [Hs.out]; go_num), by go_num, rfl⟩
end Go.Proofs.Ytpopbcmfbcmojaa

namespace Go.Proofs.Ytpopbcmfbcmojaa
set_option maxRecDepth 100000
open Go.RowKit

def Ha.xr (a b : Int) : Int := ((a.toNat ^^^ b.toNat : Nat) : Int)
theorem Ha.xr_bd {a b : Int} (a0 : 0 ≤ a) (a1 : a ≤ 1048575) (b0 : 0 ≤ b) (b1 : b ≤ 1048575) : 0 ≤ Ha.xr a b ∧ Ha.xr a b ≤ 1048575 := by
  have : a.toNat ^^^ b.toNat < 2 ^ 20 := Nat.xor_lt_two_pow (by omega) (by omega)
  unfold Ha.xr
  omega
theorem Ha.xor_val {a b : Int} (a0 : 0 ≤ a) (a1 : a ≤ 1048575) (b0 : 0 ≤ b) (b1 : b ≤ 1048575) : bits .xor .i64 a b = Ha.xr a b := by
  obtain ⟨x, rfl⟩ := Int.eq_ofNat_of_zero_le a0
  obtain ⟨y, rfl⟩ := Int.eq_ofNat_of_zero_le b0
  have hx : x ^^^ y < 2 ^ 20 := Nat.xor_lt_two_pow (by omega) (by omega)
  have h1 : (BitVec.ofInt 64 (x : Int)).toNat = x := by
    rw [BitVec.ofInt_natCast, BitVec.toNat_ofNat]; exact Nat.mod_eq_of_lt (by omega)
  have h2 : (BitVec.ofInt 64 (y : Int)).toNat = y := by
    rw [BitVec.ofInt_natCast, BitVec.toNat_ofNat]; exact Nat.mod_eq_of_lt (by omega)
  show IntKind.i64.wrap ((BitVec.ofInt 64 (x : Int) ^^^ BitVec.ofInt 64 (y : Int)).toNat : Int) = ((((x : Int).toNat ^^^ (y : Int).toNat : Nat)) : Int)
  rw [BitVec.toNat_xor, h1, h2, IntKind.wrap_i64, Int.toNat_natCast, Int.toNat_natCast]
  omega
theorem Ha.xr_swap (a b c : Int) : Ha.xr (Ha.xr a b) c = Ha.xr (Ha.xr a c) b := by
  unfold Ha.xr
  rw [Int.toNat_natCast, Int.toNat_natCast, Nat.xor_assoc, Nat.xor_assoc, Nat.xor_comm b.toNat]
/-- The keys of the stones at the first k points. -/
def Ha.upto (cs : List Int) : Nat → Int
  | 0 => 0
  | k + 1 => if cs.getD k 0 = 0 then Ha.upto cs k else Ha.xr (Ha.upto cs k) (Ky.key (k : Int) (cs.getD k 0))
theorem Ha.next (cs : List Int) (k : Nat) : Ha.upto cs (k + 1) = if cs.getD k 0 = 0 then Ha.upto cs k else Ha.xr (Ha.upto cs k) (Ky.key (k : Int) (cs.getD k 0)) := rfl
theorem Ha.bd {cs : List Int} (hv : ∀ x ∈ cs, 0 ≤ x ∧ x ≤ 2) : ∀ k, k ≤ 49 → k ≤ cs.length → 0 ≤ Ha.upto cs k ∧ Ha.upto cs k ≤ 1048575
  | 0, _, _ => by simp [Ha.upto]
  | k + 1, h49, hl => by
    have ih := Ha.bd hv k (by omega) (by omega)
    rw [Ha.next]
    split
    · exact ih
    · next h0 =>
      have hx : cs.getD k 0 ∈ cs := by
        rw [List.getD_eq_getElem?_getD, List.getElem?_eq_getElem (show k < cs.length by omega)]
        exact List.getElem_mem _
      have hb := hv _ hx
      have hk := Ky.key_bd (p := (k : Int)) (c := cs.getD k 0) (Ky.ok_iff.2 (by omega))
      exact Ha.xr_bd ih.1 ih.2 hk.1 hk.2
theorem Ha.zero (n : Nat) : ∀ k, Ha.upto (List.replicate n 0) k = 0
  | 0 => rfl
  | k + 1 => by
    rw [Ha.next, if_pos, Ha.zero n k]
    by_cases h : k < n <;> simp [List.getD_eq_getElem?_getD, h]
/-- One stone more. -/
theorem Ha.more {cs : List Int} {p : Nat} {c : Int} (hp : p < cs.length) (h0 : cs.getD p 0 = 0) (hc : c ≠ 0) : ∀ k, (k ≤ p → Ha.upto (cs.set p c) k = Ha.upto cs k) ∧ (p < k → Ha.upto (cs.set p c) k = Ha.xr (Ha.upto cs k) (Ky.key (p : Int) c))
  | 0 => ⟨fun _ => rfl, fun h => absurd h (by omega)⟩
  | k + 1 => by
    have ih := Ha.more hp h0 hc k
    refine ⟨fun h => ?_, fun h => ?_⟩
    · have hk : (cs.set p c).getD k 0 = cs.getD k 0 := by
        simp [List.getD_eq_getElem?_getD, show p ≠ k by omega]
      rw [Ha.next, Ha.next, hk, ih.1 (by omega)]
    · by_cases hkp : k = p
      · subst hkp
        have hk : (cs.set k c).getD k 0 = c := by
          simp [List.getD_eq_getElem?_getD, hp]
        rw [Ha.next, Ha.next, hk, if_neg hc, if_pos h0, ih.1 (Nat.le_refl _)]
      · have hk : (cs.set p c).getD k 0 = cs.getD k 0 := by
          simp [List.getD_eq_getElem?_getD, show p ≠ k by omega]
        rw [Ha.next, Ha.next, hk, ih.2 (by omega)]
        split
        · rfl
        · exact Ha.xr_swap _ _ _
/-- What HashOf answers. -/
def Ha.ans (s : Int) (cs : List Int) : Int := if Bd.okB s cs = true then Ha.upto cs cs.length else -1
end Go.Proofs.Ytpopbcmfbcmojaa

namespace Go.Proofs.Ytpopbcmfbcmojaa
set_option maxRecDepth 100000
open Go.RowKit

theorem bits_xr {a b : Int} (a0 : 0 ≤ a) (a1 : a ≤ 1048575) (b0 : 0 ≤ b) (b1 : b ≤ 1048575) : bits .xor .i64 a b = Ha.xr a b := Ha.xor_val a0 a1 b0 b1
set_option maxHeartbeats 4000000 in
theorem i_hash (s : Int) (w : World) (B : Nat) (A : Option Addr) (n c : Nat) (cs : List Int) (h : Ints w B A n cs) (hB : B ≤ w.heap.size) (hn : n ≤ 1000000000) : Calls Try.prog 33 #[.agg #[.int .i64 s, .slice A n c]] w fun e w' => e = .returned (.int .i64 (Ha.ans s cs)) ∧ Below w.heap.size w w' := by
  have hcl := h.1
  obtain ⟨y1, hy1, hb1, z1, z2⟩ := new_box w (.cells #[.int .i64 s, .slice A n c] 25)
  have X1 := Lib.hid (show Bx 25 y1 w.heap.size s (.slice A n c) by rw [hy1]; exact Bx.new _ _ _ _)
  have I1 := Lib.hid (h.below hb1 hB)
  have HB := Lib.hid hb1
  clear h hb1
  go_enter Try.func33, Try.ntmps33
  go_upto_region 1 with (fail)
  rw [← hy1]
  clear hy1
  have u0 := X1.out.cell0
  have u1 := X1.out.cell1
  have ul := X1.out.lt
  go_wp2_with fail
  refine (i_validBoard s _ B A n c cs I1.out (by omega) hn).mono ?_
  rintro e y2 ⟨rfl, hb2⟩
  have X1 := Lib.hid (X1.out.below hb2 ul)
  have I1 := Lib.hid (I1.out.below hb2 (by omega))
  have HB := Lib.hid (HB.out.trans (hb2.mono HB.out.size))
  have zhb2 := hb2.size
  clear hb2 u0 u1 ul
  have u0 := X1.out.cell0
  have u1 := X1.out.cell1
  have ul := X1.out.lt
  by_cases hv : Bd.okB s cs = true
  · rw [hv]
    have hf : Ha.ans s cs = Ha.upto cs n := by unfold Ha.ans; rw [if_pos hv, hcl]
    have HF := Lib.hid hf
    obtain ⟨hv1, hv2, hv3, hv4⟩ := (Bd.okB_iff s cs).1 hv
    have hsq := Pt.sq_bd s hv1 hv2
    have hn49 : n ≤ 49 := by omega
    clear hv hf hv3
    go_wp2_with fail
    obtain ⟨Y, hY⟩ : ∃ Y : World, Y = y2 := ⟨_, rfl⟩
    rw [← hY] at X1 I1 HB u0 u1 ul ⊢
    clear hY
    go_loopg [3, 12] (n + 1) (fun q va vb wr => ∃ k : Nat, k + q = n + 1 ∧ k ≤ n ∧ va = .int .i64 (Ha.upto cs k) ∧ vb = .int .i64 (k : Nat) ∧ wr = Y)
    case atStart => exact ⟨0, by omega, by omega, rfl, rfl, rfl⟩
    case round =>
      obtain ⟨k, hk, hkn, rfl, rfl, rfl⟩ := hrel
      obtain ⟨t0, t1⟩ := Ha.bd hv4 k (by omega) (by omega)
      by_cases hkk : k = n
      · subst hkk
        have hlt : ¬ ((k : Nat) : Int) < (k : Nat) := by omega
        go_wp2_with fail
        go_ret
        exact ⟨ret_int HF.out.symm, HB.out⟩
      · have hlt : ((k : Nat) : Int) < n := by omega
        have hk0 : (0 : Int) ≤ (k : Nat) := by omega
        obtain ⟨b, o, rfl, hbB, hc⟩ := I1.out.2.resolve_left (by omega)
        have ck := hc k (by omega)
        have hmem : cs.getD k 0 ∈ cs := by
          rw [List.getD_eq_getElem?_getD, List.getElem?_eq_getElem (show k < cs.length by omega)]
          exact List.getElem_mem _
        obtain ⟨x0, x2⟩ := hv4 _ hmem
        have hnx := Ha.next cs k
        obtain ⟨x, hx⟩ : ∃ x, cs.getD k 0 = x := ⟨_, rfl⟩
        obtain ⟨H, hH⟩ : ∃ H, Ha.upto cs k = H := ⟨_, rfl⟩
        rw [hx] at ck x0 x2 hnx
        rw [hH] at t0 t1 hnx ⊢
        clear hc hmem hx hH
        by_cases h0 : x = 0
        · rw [if_pos h0] at hnx
          have Hn := Lib.hid hnx
          have q0 : (x != 0) = false := by simpa using h0
          clear hnx h0
          go_wp2_with fail
          go_roundg (n - k)
          case measure => omega
          case rel => exact ⟨k + 1, by omega, by omega, by rw [Hn.out], by go_num, rfl⟩
        · rw [if_neg h0] at hnx
          have x1 : 1 ≤ x := by omega
          have hok : Ky.ok (k : Int) x = true := Ky.ok_iff.2 (by omega)
          obtain ⟨y0, y1'⟩ := Ky.key_bd hok
          have hkey : Ky.key (k : Int) x = Ky.it 4 (2 * (k : Int) + x) := by unfold Ky.key; rw [if_pos hok]
          have hxr := Ha.xr_bd t0 t1 y0 y1'
          have hval := bits_xr t0 t1 y0 y1'
          clear hkey; have hkey : True := trivial
          obtain ⟨K, hK⟩ : ∃ K, Ky.key (k : Int) x = K := ⟨_, rfl⟩
          rw [hK] at y0 y1' hxr hval hnx
          obtain ⟨V, hV⟩ : ∃ V, Ha.xr H K = V := ⟨_, rfl⟩
          rw [hV] at hxr hval hnx
          obtain ⟨v0, v1⟩ := hxr
          have Hn := Lib.hid hnx
          have HK := Lib.hid hK
          have q0 : (x != 0) = true := by simpa using h0
          clear hnx h0 hok hkey hV hK
          go_wp2_with fail
          refine (i_key (k : Nat) x _).mono ?_
          rintro e y ⟨rfl, rfl⟩
          rw [HK.out]
          go_wp2_with fail
          go_roundg (n - k)
          case measure => omega
          case rel => exact ⟨k + 1, by omega, by omega, by rw [Hn.out], by go_num, rfl⟩
  · have hv' : Bd.okB s cs = false := by simpa using hv
    have hf : Ha.ans s cs = -1 := by unfold Ha.ans; rw [if_neg hv]
    have HF := Lib.hid hf
    rw [hv']
    clear hv hv' hf
    go_wp2_with fail
    go_ret
    exact ⟨ret_int HF.out.symm, HB.out⟩
set_option maxHeartbeats 4000000 in
theorem s_hash0 (s : Int) (w : World) (B : Nat) (A : Option Addr) (n c : Nat) (cs : List Int) (h : Ints w B A n cs) (hB : B ≤ w.heap.size) (hv : Bd.okB s cs = true) : Calls Try.prog 74 #[.agg #[.int .i64 s, .slice A n c]] w fun e w' => e = .returned (.int .i64 (Ha.ans s cs)) ∧ Below w.heap.size w w' := by
  have hcl := h.1
  have hf : Ha.ans s cs = Ha.upto cs n := by unfold Ha.ans; rw [if_pos hv, hcl]
  have HF := Lib.hid hf
  obtain ⟨hv1, hv2, hv3, hv4⟩ := (Bd.okB_iff s cs).1 hv
  have hsq := Pt.sq_bd s hv1 hv2
  have hn49 : n ≤ 49 := by omega
  clear hv hf hv3
  obtain ⟨y1, hy1, hb1, z1, z2⟩ := new_box w (.cells #[.int .i64 s, .slice A n c] 25)
  have X1 := Lib.hid (show Bx 25 y1 w.heap.size s (.slice A n c) by rw [hy1]; exact Bx.new _ _ _ _)
  have I1 := Lib.hid (h.below hb1 hB)
  have HB := Lib.hid hb1
  clear h hb1
  go_enter Try.func74, Try.ntmps74
  go_upto_region 1 with (fail)
  rw [← hy1]
  clear hy1
  have u0 := X1.out.cell0
  have u1 := X1.out.cell1
  have ul := X1.out.lt
  go_wp2_with fail
  obtain ⟨Y, hY⟩ : ∃ Y : World, Y = y1 := ⟨_, rfl⟩
  rw [← hY] at X1 I1 HB u0 u1 ul ⊢
  clear hY
  go_loopg [3, 4] (n + 1) (fun q va vb wr => ∃ k : Nat, k + q = n + 1 ∧ k ≤ n ∧ va = .int .i64 (Ha.upto cs k) ∧ vb = .int .i64 (k : Nat) ∧ wr = Y)
  case atStart => exact ⟨0, by omega, by omega, rfl, rfl, rfl⟩
  case round =>
    obtain ⟨k, hk, hkn, rfl, rfl, rfl⟩ := hrel
    obtain ⟨t0, t1⟩ := Ha.bd hv4 k (by omega) (by omega)
    by_cases hkk : k = n
    · subst hkk
      have hlt : ¬ ((k : Nat) : Int) < (k : Nat) := by omega
      go_wp2_with fail
      go_ret
      exact ⟨ret_int HF.out.symm, HB.out⟩
    · have hlt : ((k : Nat) : Int) < n := by omega
      have hk0 : (0 : Int) ≤ (k : Nat) := by omega
      obtain ⟨b, o, rfl, hbB, hc⟩ := I1.out.2.resolve_left (by omega)
      have ck := hc k (by omega)
      have hmem : cs.getD k 0 ∈ cs := by
        rw [List.getD_eq_getElem?_getD, List.getElem?_eq_getElem (show k < cs.length by omega)]
        exact List.getElem_mem _
      obtain ⟨x0, x2⟩ := hv4 _ hmem
      have hnx := Ha.next cs k
      obtain ⟨x, hx⟩ : ∃ x, cs.getD k 0 = x := ⟨_, rfl⟩
      obtain ⟨H, hH⟩ : ∃ H, Ha.upto cs k = H := ⟨_, rfl⟩
      rw [hx] at ck x0 x2 hnx
      rw [hH] at t0 t1 hnx ⊢
      clear hc hmem hx hH
      by_cases h0 : x = 0
      · rw [if_pos h0] at hnx
        have Hn := Lib.hid hnx
        have q0 : (x != 0) = false := by simpa using h0
        clear hnx h0
        go_wp2_with fail
        go_roundg (n - k)
        case measure => omega
        case rel => exact ⟨k + 1, by omega, by omega, by rw [Hn.out], by go_num, rfl⟩
      · rw [if_neg h0] at hnx
        have x1 : 1 ≤ x := by omega
        have hok : Ky.ok (k : Int) x = true := Ky.ok_iff.2 (by omega)
        obtain ⟨y0, y1'⟩ := Ky.key_bd hok
        have hkey : Ky.key (k : Int) x = Ky.it 4 (2 * (k : Int) + x) := by unfold Ky.key; rw [if_pos hok]
        have hxr := Ha.xr_bd t0 t1 y0 y1'
        have hval := bits_xr t0 t1 y0 y1'
        rw [hkey] at y0 y1' hxr hval hnx
        obtain ⟨K, hK⟩ : ∃ K, Ky.it 4 (2 * (k : Int) + x) = K := ⟨_, rfl⟩
        rw [hK] at y0 y1' hxr hval hnx
        obtain ⟨V, hV⟩ : ∃ V, Ha.xr H K = V := ⟨_, rfl⟩
        rw [hV] at hxr hval hnx
        obtain ⟨v0, v1⟩ := hxr
        have Hn := Lib.hid hnx
        have HK := Lib.hid hK
        have q0 : (x != 0) = true := by simpa using h0
        clear hnx h0 hok hkey hV hK
        go_wp2_with fail
        refine (s_key0 (k : Nat) x _ (by omega) (by omega) (by omega) (by omega)).mono ?_
        rintro e y ⟨rfl, rfl⟩
        rw [HK.out]
        go_wp2_with fail
        go_roundg (n - k)
        case measure => omega
        case rel => exact ⟨k + 1, by omega, by omega, by rw [Hn.out], by go_num, rfl⟩
theorem s_hash (s : Int) (w : World) (B : Nat) (A : Option Addr) (n c : Nat) (cs : List Int) (h : Ints w B A n cs) (hB : B ≤ w.heap.size) (hn : n ≤ 1000000000) : Calls Try.prog 34 #[.agg #[.int .i64 s, .slice A n c]] w fun e w' => e = .returned (.int .i64 (Ha.ans s cs)) ∧ Below w.heap.size w w' := by
  obtain ⟨y1, hy1, hb1, z1, z2⟩ := new_box w (.cells #[.int .i64 s, .slice A n c] 25)
  have X1 := Lib.hid (show Bx 25 y1 w.heap.size s (.slice A n c) by rw [hy1]; exact Bx.new _ _ _ _)
  have I1 := Lib.hid (h.below hb1 hB)
  have HB := Lib.hid hb1
  clear h hb1
  go_enter Try.func34, Try.ntmps34
  go_upto_region 1 with (fail)
  rw [← hy1]
  clear hy1
  have u0 := X1.out.cell0
  have u1 := X1.out.cell1
  have ul := X1.out.lt
  go_wp2_with fail
  refine (s_validBoard s _ B A n c cs I1.out (by omega) hn).mono ?_
  rintro e y2 ⟨rfl, hb2⟩
  have X1 := Lib.hid (X1.out.below hb2 ul)
  have I1 := Lib.hid (I1.out.below hb2 (by omega))
  have HB := Lib.hid (HB.out.trans (hb2.mono HB.out.size))
  have zhb2 := hb2.size
  clear hb2 u0 u1 ul
  have u0 := X1.out.cell0
  have u1 := X1.out.cell1
  have ul := X1.out.lt
  by_cases hv : Bd.okB s cs = true
  · rw [hv]
    go_wp2_with fail
    refine (s_hash0 s _ B A n c cs I1.out (by omega) hv).mono ?_
    rintro e y3 ⟨rfl, hb3⟩
    have HB := Lib.hid (HB.out.trans (hb3.mono HB.out.size))
    clear hb3
    go_wp2_with fail
    go_ret
    exact ⟨rfl, HB.out⟩
  · have hv' : Bd.okB s cs = false := by simpa using hv
    have hf : Ha.ans s cs = -1 := by unfold Ha.ans; rw [if_neg hv]
    have HF := Lib.hid hf
    rw [hv']
    clear hv hv' hf
    go_wp2_with fail
    go_ret
    exact ⟨ret_int HF.out.symm, HB.out⟩
end Go.Proofs.Ytpopbcmfbcmojaa

namespace Go.Proofs.Ytpopbcmfbcmojaa
set_option maxRecDepth 100000
open Go.RowKit

end Go.Proofs.Ytpopbcmfbcmojaa

namespace Go.Proofs.Ytpopbcmfbcmojaa
set_option maxRecDepth 100000
open Go.RowKit

/-- A world behind another one, for loops. -/
def BelowY (Y w : World) : Prop := Below Y.heap.size Y w
theorem BelowY.step {Y w w' : World} (h : BelowY Y w) (hb : Below w.heap.size w w') : BelowY Y w' := bstep h hb
set_option maxHeartbeats 2000000 in
theorem d_hash (w : World) (a : Option Addr) (len cap : Nat) (zs : List Int) (h : IsRow .u8 w a len cap zs) :
    Calls Try.prog 32 #[.slice a len cap] w fun e w' => DrawnL w e w' := by
  have hb1 : Below w.heap.size w (w.alloc (.cells #[.int .i64 0, .slice none 0 0] 25)) := (Below.refl _ _).alloc (Nat.le_refl _) _
  have X2 := Lib.hid (Bx.new 25 w 0 (.slice none 0 0))
  have Hb := Lib.hid hb1
  have hsz : (w.alloc (.cells #[.int .i64 0, .slice none 0 0] 25)).heap.size = w.heap.size + 1 := by simp
  have Hsz := Lib.hid hsz
  have H := Lib.hid (h.below hb1)
  clear h hb1 hsz
  go_enter Try.func32, Try.ntmps32
  go_wp2_with fail
  refine (r_new _ _ _ _ zs H.out).mono ?_
  rintro e y ⟨g, rfl, hr, hb⟩
  have Hg := Lib.hid hr.1
  rw [Hsz.out] at Hg
  have hg1 := Hg.out
  have X2 := Lib.hid (X2.out.below hb X2.out.lt)
  have Hb := Lib.hid (Hb.out.trans (hb.mono (by rw [Hsz.out]; omega)))
  have zy := X2.out.lt
  have Hr := Lib.hid hr
  clear hr hb
  go_wp2_with fail
  refine (r_any _ g 0 _ Hr.out (by omega)).mono ?_
  rintro e y2 ⟨s, A, n, c, cs, q', rfl, hi, hn, s0, s8, hr, hq, hg⟩
  have X2 := Lib.hid (X2.out.grown hg (fun e => by have := Option.some.inj e; omega))
  have Hb := Lib.hid (Hb.out.trans (below_g hg (by omega) (fun k hk => by have := Option.some.inj hk; omega)))
  have Hi := Lib.hid (((hi.far ⟨w.heap.size, 0, none⟩ (by show w.heap.size < y.heap.size; omega) (.int .i64 s)).far ⟨w.heap.size, 1, none⟩ (by show w.heap.size < y.heap.size; omega) (.slice A n c)).ints)
  clear hi hr hg hq
  have r0 := X2.out.cell0
  have r1 := X2.out.cell1
  have r2 := X2.out.frozen 0
  have r3 := X2.out.frozen 1
  have r4 := X2.out.lt
  have K0 := Lib.hid ((X2.out.set0 s).cell0)
  have K1 := Lib.hid (((X2.out.set0 s).set1 (.slice A n c)).cell1)
  have Hb3 := Lib.hid ((Hb.out.setCell (p := ⟨w.heap.size, 0, none⟩) (Nat.le_refl _) (.int .i64 s)).setCell (p := ⟨w.heap.size, 1, none⟩) (Nat.le_refl _) (.slice A n c))
  go_wp2_with fail
  have k0 := K0.out
  have k1 := K1.out
  refine bodyPost_ret (v := .agg #[.int .i64 s, .slice A n c]) (by simp [results, Try.results32, go_sem, k0, k1]) rfl ?_
  exact ⟨_, _, _, _, _, rfl, Hi.out, hn, s0, s8, Hb3.out⟩

set_option maxRecDepth 100000 in
set_option maxHeartbeats 4000000 in
theorem d_patAt (w : World) (a : Option Addr) (len cap : Nat) (zs : List Int) (h : IsRow .u8 w a len cap zs) :
    Calls Try.prog 10 #[.slice a len cap] w fun e w' => DrawnLI (fun x => -1 ≤ x ∧ x ≤ 64) w e w' := by
  have hb1 : Below w.heap.size w (w.alloc (.cells #[.int .i64 0, .slice none 0 0] 25)) := (Below.refl _ _).alloc (Nat.le_refl _) _
  have X2 := Lib.hid (Bx.new 25 w 0 (.slice none 0 0))
  have Hb := Lib.hid hb1
  have hsz : (w.alloc (.cells #[.int .i64 0, .slice none 0 0] 25)).heap.size = w.heap.size + 1 := by simp
  have Hsz := Lib.hid hsz
  have H := Lib.hid (h.below hb1)
  clear h hb1 hsz
  go_enter Try.func10, Try.ntmps10
  go_wp2_with fail
  refine (r_new _ _ _ _ zs H.out).mono ?_
  rintro e y ⟨g, rfl, hr, hb⟩
  have Hg := Lib.hid hr.1
  rw [Hsz.out] at Hg
  have hg1 := Hg.out
  have X2 := Lib.hid (X2.out.below hb X2.out.lt)
  have Hb := Lib.hid (Hb.out.trans (hb.mono (by rw [Hsz.out]; omega)))
  have zy := X2.out.lt
  obtain ⟨Bq, Hr⟩ : ∃ Bq, Hid (Rdr y Bq g 0) := ⟨_, Lib.hid hr⟩
  clear hr hb
  go_wp2_with fail
  have hgy := Hr.out.lt
  refine (r_bp Bq g 0 _ Hr.out (by omega)).mono ?_
  rintro e y2 ⟨s, A, n, c, cs, q', p, rfl, hi, hn, s0, s8, p1, p2, hr, hq, hg⟩
  have X2 := Lib.hid (X2.out.grown hg (fun e => by have := Option.some.inj e; omega))
  have Hb := Lib.hid (Hb.out.trans (below_g hg (by omega) (fun k hk => by have := Option.some.inj hk; omega)))
  have Hi := Lib.hid (((hi.far ⟨w.heap.size, 0, none⟩ (by show w.heap.size < y.heap.size; omega) (.int .i64 s)).far ⟨w.heap.size, 1, none⟩ (by show w.heap.size < y.heap.size; omega) (.slice A n c)).ints)
  clear hi hr hg hq
  have r0 := X2.out.cell0
  have r1 := X2.out.cell1
  have r2 := X2.out.frozen 0
  have r3 := X2.out.frozen 1
  have r4 := X2.out.lt
  have K0 := Lib.hid ((X2.out.set0 s).cell0)
  have K1 := Lib.hid (((X2.out.set0 s).set1 (.slice A n c)).cell1)
  have Hb3 := Lib.hid ((Hb.out.setCell (p := ⟨w.heap.size, 0, none⟩) (Nat.le_refl _) (.int .i64 s)).setCell (p := ⟨w.heap.size, 1, none⟩) (Nat.le_refl _) (.slice A n c))
  go_wp2_with fail
  have k0 := K0.out
  have k1 := K1.out
  refine bodyPost_ret (v := .tuple #[.agg #[.int .i64 s, .slice A n c], .int .i64 p]) (by simp [results, Try.results10, go_sem, k0, k1]) rfl ?_
  exact ⟨_, _, _, _, _, _, rfl, Hi.out, hn, s0, s8, ⟨p1, p2⟩, Hb3.out⟩

theorem ixb (b o n c k : Nat) (hk : k < n) (w' : World) : (Instr.indexAt 23 (.slice (some ⟨b, o, none⟩) n c) (.int .i64 ((k : Nat) : Int))).run Try.prog w' = .ok (.pointer (some ⟨b, o + k, none⟩)) w' := by
  have h0 : (0 : Int) ≤ (k : Nat) := by omega
  have h1 : ((k : Nat) : Int) < n := by omega
  go_simp
end Go.Proofs.Ytpopbcmfbcmojaa

namespace Go.Proofs.Ytpopbcmfbcmojaa
set_option maxRecDepth 100000
open Go.RowKit

def cnt (x : Int) (cs : List Int) : Int := ((cs.filter fun c => c == x).length : Nat)
theorem cnt_bd (x : Int) (cs : List Int) : 0 ≤ cnt x cs ∧ cnt x cs ≤ cs.length := by
  unfold cnt
  have := List.length_filter_le (fun c => c == x) cs
  omega
theorem cnt_yes {x : Int} {cs : List Int} {k : Nat} (h : k < cs.length) (hx : (cs.getD k 0 == x) = true) : cnt x (cs.take (k + 1)) = cnt x (cs.take k) + 1 := by
  have e : cs.getD k 0 = cs[k] := by simp [List.getD_eq_getElem?_getD, List.getElem?_eq_getElem h]
  rw [e] at hx
  unfold cnt
  rw [List.take_succ_eq_append_getElem h, List.filter_append, List.length_append, List.filter_cons, hx]
  simp
theorem cnt_no {x : Int} {cs : List Int} {k : Nat} (h : k < cs.length) (hx : (cs.getD k 0 == x) = false) : cnt x (cs.take (k + 1)) = cnt x (cs.take k) := by
  have e : cs.getD k 0 = cs[k] := by simp [List.getD_eq_getElem?_getD, List.getElem?_eq_getElem h]
  rw [e] at hx
  unfold cnt
  rw [List.take_succ_eq_append_getElem h, List.filter_append, List.length_append, List.filter_cons, hx]
  simp

def cntB (s : Int) (cs : List Int) (x : Int) : Int := if Bd.okB s cs then cnt x cs else -1

end Go.Proofs.Ytpopbcmfbcmojaa

namespace Go.Proofs.Ytpopbcmfbcmojaa
set_option maxRecDepth 100000
open Go.RowKit

section
variable (s : Int) (w : World) (A : Option Addr) (n c : Nat) (cs : List Int)
theorem i_invV (h : Ints w w.heap.size A n cs) (hn : n ≤ 49) (hv : Bd.okB s cs = true) : Calls Try.prog 16 #[.agg #[.int .i64 s, .slice A n c]] w fun e w' => Made s (othCs cs) w e w' := by
  have := i_inv s w w.heap.size A n c cs h (Nat.le_refl _) (by omega)
  rwa [invS, invCs, if_pos hv, if_pos hv] at this
theorem i_invN (h : Ints w w.heap.size A n cs) (hn : n ≤ 49) (hv : Bd.okB s cs = false) : Calls Try.prog 16 #[.agg #[.int .i64 s, .slice A n c]] w fun e w' => Made 0 [] w e w' := by
  have := i_inv s w w.heap.size A n c cs h (Nat.le_refl _) (by omega)
  rwa [invS, invCs, if_neg (by rw [hv]; decide), if_neg (by rw [hv]; decide)] at this
variable (k : Int)
theorem i_trV (h : Ints w w.heap.size A n cs) (hn : n ≤ 49) (hv : Bd.okB s cs = true) (hk : Pt.okK k = true) : Calls Try.prog 13 #[.agg #[.int .i64 s, .slice A n c], .int .i64 k] w fun e w' => Made s (Bd.mv s k cs) w e w' := by
  have := i_trB s k w w.heap.size A n c cs h (Nat.le_refl _) (by omega)
  rwa [trS, trCs, show trOk s cs k = true by rw [trOk, hv, hk]; rfl, if_pos rfl, if_pos rfl] at this
theorem i_trN (h : Ints w w.heap.size A n cs) (hn : n ≤ 49) (hv : trOk s cs k = false) : Calls Try.prog 13 #[.agg #[.int .i64 s, .slice A n c], .int .i64 k] w fun e w' => Made 0 [] w e w' := by
  have := i_trB s k w w.heap.size A n c cs h (Nat.le_refl _) (by omega)
  rwa [trS, trCs, hv, if_neg (by decide), if_neg (by decide)] at this
end

theorem len_of {cs : List Int} {n m : Nat} (h : (othCs cs).length = m) (h0 : cs.length = n) : n = m := by rw [othCs_len] at h; omega
theorem len_mv {s k : Int} {cs : List Int} {n m : Nat} (h : (Bd.mv s k cs).length = m) (h0 : cs.length = n) : n = m := by rw [Bd.mv_len] at h; omega
theorem oth_oth {x : Int} (h0 : 0 ≤ x) (h2 : x ≤ 2) : oth (oth x) = x := by
  have h3 : x = 0 ∨ x = 1 ∨ x = 2 := by omega
  rcases h3 with rfl | rfl | rfl <;> decide
theorem othCs_twice {cs : List Int} (h : OkL cs) : othCs (othCs cs) = cs := by
  rw [okL_mem] at h
  unfold othCs
  rw [List.map_map]
  conv => rhs; rw [← List.map_id cs]
  exact List.map_congr_left fun x hx => oth_oth (h x hx).1 (h x hx).2
theorem othCs_set (l : List Int) (p : Nat) (x : Int) : othCs (l.set p x) = (othCs l).set p (oth x) := by
  unfold othCs; rw [List.map_set]
theorem othCs_getD (cs : List Int) (j : Nat) : oth (cs.getD j 0) = (othCs cs).getD j 0 := by
  unfold othCs
  rw [List.getD_eq_getElem?_getD, List.getD_eq_getElem?_getD, List.getElem?_map]
  cases cs[j]? <;> rfl
theorem steps_oth (f : Nat → Nat) (cs : List Int) (j : Nat) (l : List Int) : othCs (Bd.steps f cs j l) = Bd.steps f (othCs cs) j (othCs l) := by
  induction j with
  | zero => rfl
  | succ j ih => rw [Bd.steps, Bd.steps, othCs_set, ih, othCs_getD]
theorem mv_oth (s k : Int) (cs : List Int) : Bd.mv s k (othCs cs) = othCs (Bd.mv s k cs) := by
  unfold Bd.mv
  rw [steps_oth, othCs_len]
end Go.Proofs.Ytpopbcmfbcmojaa

namespace Go.Proofs.Ytpopbcmfbcmojaa
set_option maxRecDepth 100000

theorem perm_of_sub {l r : List Nat} (hn : l.Nodup) (hs : ∀ x ∈ l, x ∈ r) (hl : r.length ≤ l.length) : List.Perm l r := by
  induction l generalizing r with
  | nil =>
    have e : r = [] := List.eq_nil_of_length_eq_zero (by simpa using hl)
    subst e
    exact .refl _
  | cons x l ih =>
    have hx : x ∈ r := hs x (by simp)
    obtain ⟨hxl, hnl⟩ := List.nodup_cons.1 hn
    refine List.Perm.trans ?_ (List.perm_cons_erase hx).symm
    refine List.Perm.cons x (ih hnl (fun y hy => ?_) ?_)
    · have hne : y ≠ x := fun e => hxl (e ▸ hy)
      exact (List.mem_erase_of_ne hne).2 (hs y (by simp [hy]))
    · rw [List.length_erase_of_mem hx]
      simp at hl
      omega

theorem nodup_map {f : Nat → Nat} {l : List Nat} (hn : l.Nodup) (hf : ∀ a ∈ l, ∀ b ∈ l, f a = f b → a = b) : (l.map f).Nodup := by
  induction l with
  | nil => simp
  | cons x l ih =>
    obtain ⟨hx, hl⟩ := List.nodup_cons.1 hn
    rw [List.map_cons, List.nodup_cons]
    refine ⟨fun hm => ?_, ih hl fun a ha b hb => hf a (by simp [ha]) b (by simp [hb])⟩
    obtain ⟨y, hy, he⟩ := List.mem_map.1 hm
    have := hf y (by simp [hy]) x (by simp) he
    exact hx (this ▸ hy)

theorem list_as_map (cs : List Int) : cs = (List.range cs.length).map fun p => cs.getD p 0 := by
  apply List.ext_getElem
  · simp
  · intro i h1 h2
    simp [List.getD_eq_getElem?_getD, List.getElem?_eq_getElem h1]

theorem mv_perm {s k : Int} {cs : List Int} (h1 : 1 ≤ s) (h2 : s ≤ 7) (hn : (cs.length : Int) = s * s) (k1 : 0 ≤ k) (k2 : k < 8) : List.Perm (Bd.mv s k cs) cs := by
  have hp : List.Perm ((List.range cs.length).map (Bd.imgN s k)) (List.range cs.length) := by
    refine perm_of_sub (nodup_map List.nodup_range fun a ha b hb he => ?_) (fun x hx => ?_) (by simp)
    · exact Bd.imgN_inj s k cs.length h1 h2 hn k1 k2 a b (List.mem_range.1 ha) (List.mem_range.1 hb) he
    · obtain ⟨p, hp, rfl⟩ := List.mem_map.1 hx
      exact List.mem_range.2 (Bd.imgN_lt s k cs.length p h1 h2 hn (List.mem_range.1 hp)).1
  have e1 := list_as_map (Bd.mv s k cs)
  rw [Bd.mv_len] at e1
  rw [e1]
  refine ((hp.map fun q => (Bd.mv s k cs).getD q 0).symm).trans ?_
  rw [List.map_map]
  conv => rhs; rw [list_as_map cs]
  have : (List.range cs.length).map ((fun q => (Bd.mv s k cs).getD q 0) ∘ Bd.imgN s k) = (List.range cs.length).map fun p => cs.getD p 0 := by
    apply List.map_congr_left
    intro p hp
    have hp' := List.mem_range.1 hp
    have := Bd.steps_at (f := Bd.imgN s k) (cs := cs) (l := cs) (j := cs.length) (fun a b ha hb he => Bd.imgN_inj s k cs.length h1 h2 hn k1 k2 a b ha hb he) (fun a ha => (Bd.imgN_lt s k cs.length a h1 h2 hn ha).1) hp'
    show (Bd.mv s k cs).getD (Bd.imgN s k p) 0 = _
    unfold Bd.mv
    rw [List.getD_eq_getElem?_getD, this]
    rfl
  rw [this]

theorem cnt_perm {a b : List Int} (h : List.Perm a b) (x : Int) : cnt x a = cnt x b := by
  unfold cnt
  rw [(h.filter _).length_eq]
theorem cnt_mv {s k : Int} {cs : List Int} (hv : Bd.okB s cs = true) (hk : Pt.okK k = true) (x : Int) : cnt x (Bd.mv s k cs) = cnt x cs := by
  obtain ⟨a, b, c, _⟩ := (Bd.okB_iff s cs).1 hv
  obtain ⟨k1, k2⟩ := (Pt.okK_iff k).1 hk
  exact cnt_perm (mv_perm a b c k1 k2) x
theorem cnt_oth {cs : List Int} (h : OkL cs) {x : Int} (x1 : 1 ≤ x) (x2 : x ≤ 2) : cnt (3 - x) (othCs cs) = cnt x cs := by
  rw [okL_mem] at h
  unfold cnt othCs
  rw [List.filter_map, List.length_map]
  congr 2
  apply List.filter_congr
  intro c hc
  have h3 : c = 0 ∨ c = 1 ∨ c = 2 := by have := h c hc; omega
  have h4 : x = 1 ∨ x = 2 := by omega
  rcases h3 with rfl | rfl | rfl <;> rcases h4 with rfl | rfl <;> rfl
theorem cnt_nonneg (x : Int) (cs : List Int) : 0 ≤ cnt x cs := by unfold cnt; omega
end Go.Proofs.Ytpopbcmfbcmojaa

namespace Go.Proofs.Ytpopbcmfbcmojaa
set_option maxRecDepth 100000
open Go.RowKit

theorem cntB_mv {s k x N : Int} {cs : List Int} (hv : Bd.okB s cs = true) (hk : Pt.okK k = true) (hN : cntB s cs x = N) : cntB s (Bd.mv s k cs) x = N := by
  rw [← hN, cntB, cntB, if_pos hv, if_pos (okB_mv hv), cnt_mv hv hk]
theorem cntB_oth {s x N : Int} {cs : List Int} (hv : Bd.okB s cs = true) (x1 : 1 ≤ x) (x2 : x ≤ 2) (hN : cntB s cs x = N) : cntB s (othCs cs) (3 - x) = N := by
  rw [← hN, cntB, cntB, if_pos hv, if_pos (okB_oth hv), cnt_oth (okL_mem.2 ((Bd.okB_iff s cs).1 hv).2.2.2) x1 x2]
theorem cntB_ok {s x N : Int} {cs : List Int} (hN : cntB s cs x = N) (h0 : 0 ≤ N) : Bd.okB s cs = true := by
  rcases Bool.eq_false_or_eq_true (Bd.okB s cs) with h | h
  · exact h
  · rw [cntB, h] at hN
    have : (-1 : Int) = N := hN
    omega

theorem mv_at {s k : Int} {cs : List Int} (h1 : 1 ≤ s) (h2 : s ≤ 7) (hn : (cs.length : Int) = s * s) (k1 : 0 ≤ k) (k2 : k < 8) {p : Nat} (hp : p < cs.length) : (Bd.mv s k cs)[Bd.imgN s k p]? = some (cs.getD p 0) :=
  Bd.steps_at (f := Bd.imgN s k) (cs := cs) (l := cs) (j := cs.length) (fun a b ha hb he => Bd.imgN_inj s k cs.length h1 h2 hn k1 k2 a b ha hb he) (fun a ha => (Bd.imgN_lt s k cs.length a h1 h2 hn ha).1) hp
theorem imgN_comp {s a b : Int} {n p : Nat} (h1 : 1 ≤ s) (h2 : s ≤ 7) (hn : (n : Int) = s * s) (a1 : 0 ≤ a) (a2 : a < 8) (b1 : 0 ≤ b) (b2 : b < 8) (hp : p < n) : Bd.imgN s (Pt.comp a b) p = Bd.imgN s b (Bd.imgN s a p) := by
  obtain ⟨c1, c2⟩ := Pt.comp_bd a b a1 a2 b1 b2
  obtain ⟨l1, e1⟩ := Bd.imgN_lt s a n p h1 h2 hn hp
  have hc := Pt.comp_tr a b s p a1 a2 b1 b2 h1 h2 (by omega) (by omega)
  rw [Pt.tr_in s a p h1 h2 (by omega) (by omega) a1 a2, ← e1, Pt.tr_in s b _ h1 h2 (by omega) (by omega) b1 b2, Pt.tr_in s (Pt.comp a b) p h1 h2 (by omega) (by omega) c1 c2] at hc
  unfold Bd.imgN at hc ⊢
  rw [hc]
theorem mv_mv {s a b : Int} {cs : List Int} (h1 : 1 ≤ s) (h2 : s ≤ 7) (hn : (cs.length : Int) = s * s) (a1 : 0 ≤ a) (a2 : a < 8) (b1 : 0 ≤ b) (b2 : b < 8) : Bd.mv s b (Bd.mv s a cs) = Bd.mv s (Pt.comp a b) cs := by
  obtain ⟨c1, c2⟩ := Pt.comp_bd a b a1 a2 b1 b2
  have hl : (Bd.mv s a cs).length = cs.length := Bd.mv_len _ _ _
  apply List.ext_getElem?
  intro q
  by_cases hq : q < cs.length
  · obtain ⟨p, hp, rfl⟩ := Bd.imgN_sur s (Pt.comp a b) cs.length h1 h2 hn c1 c2 q hq
    obtain ⟨l1, _⟩ := Bd.imgN_lt s a cs.length p h1 h2 hn hp
    rw [mv_at h1 h2 hn c1 c2 hp, imgN_comp h1 h2 hn a1 a2 b1 b2 hp, mv_at h1 h2 (by rw [hl]; exact hn) b1 b2 (by rw [hl]; exact l1), List.getD_eq_getElem?_getD, mv_at h1 h2 hn a1 a2 hp]
    rfl
  · rw [List.getElem?_eq_none (by rw [Bd.mv_len, hl]; omega), List.getElem?_eq_none (by rw [Bd.mv_len]; omega)]

theorem Ints.dr {w : World} {n : Nat} {A : Option Addr} {xs : List Int} (h : Ints w w.heap.size A n xs) : Ints w.drew w.drew.heap.size A n xs := h
/-- An image whose size and cells have names. -/
theorem i_trW (s k : Int) (w : World) (A : Option Addr) (n c : Nat) (cs ds : List Int) (h : Ints w w.heap.size A n cs) (hn : n ≤ 49) (hv : Bd.okB s cs = true) (hk : Pt.okK k = true) (hd : Bd.mv s k cs = ds) :
    Calls Try.prog 13 #[.agg #[.int .i64 s, .slice A n c], .int .i64 k] w fun e w' => ∃ A1 c1, e = .returned (.agg #[.int .i64 s, .slice A1 n c1]) ∧ Own w' w.heap.size A1 n c1 ds ∧ Below w.heap.size w w' := by
  have hl := h.1
  refine (i_trV s w A n c cs k h hn hv hk).mono ?_
  rintro e w' ⟨A1, n1, c1, rfl, ho, hb⟩
  rw [hd] at ho
  have e1 := ho.1
  rw [← hd, Bd.mv_len] at e1
  obtain rfl : n1 = n := by omega
  exact ⟨_, _, rfl, ho, hb⟩
theorem len_comp {s k : Int} {cs : List Int} {n m : Nat} (h : (Bd.mv s k cs).length = m) (h0 : cs.length = n) : n = m := len_mv h h0
end Go.Proofs.Ytpopbcmfbcmojaa

namespace Go.Proofs.Ytpopbcmfbcmojaa
set_option maxRecDepth 100000
open Go.RowKit

theorem l_colorAt (s : Int) (w : World) (A : Option Addr) (n c : Nat) (cs : List Int) (q : Nat) (e : Int) (h : Ints w w.heap.size A n cs) (hq : q < n) (he : cs.getD q 0 = e) :
    Calls Try.prog 41 #[.agg #[.int .i64 s, .slice A n c], .int .i64 (q : Nat)] w fun e' w' => e' = .returned (.int .i64 e) ∧ Below w.heap.size w w' := by
  obtain ⟨b, o, rfl, hbB, hc⟩ : ∃ b o, A = some ⟨b, o, none⟩ ∧ b < w.heap.size ∧ ∀ j, j < n → w.cell? ⟨b, o + j, none⟩ = some (.int .i64 (cs.getD j 0)) := by
    rcases h.2 with h0 | ⟨b, o, hA, hbB, hc⟩
    · omega
    · exact ⟨b, o, hA, hbB, hc⟩
  have hb1 : Below w.heap.size w (w.alloc (.cells #[.int .i64 s, .slice (some ⟨b, o, none⟩) n c] 25)) := (Below.refl _ _).alloc (Nat.le_refl _) _
  have ck := (hb1.cell (p := ⟨b, o + q, none⟩) hbB).trans (hc q hq)
  rw [he] at ck
  have Hb := Lib.hid hb1
  have X0 := Lib.hid (Bx.new 25 w s (.slice (some ⟨b, o, none⟩) n c))
  have u0 := X0.out.cell0
  have u1 := X0.out.cell1
  have ul := X0.out.lt
  have hqI : (q : Int) < n := by omega
  clear hc h he hb1
  go_enter Try.func41, Try.ntmps41
  go_wp2_with fail
  go_ret
  exact ⟨rfl, Hb.out⟩
end Go.Proofs.Ytpopbcmfbcmojaa

namespace Go.Proofs.Ytpopbcmfbcmojaa
set_option maxRecDepth 100000
open Go.RowKit

/-- What a law's draw of a board and two ints gives. -/
def DrawnLII (P Q : Int → Prop) (w : World) (e : Ending) (w' : World) : Prop :=
  ∃ (s : Int) (A : Option Addr) (n c : Nat) (cs : List Int) (p x : Int), e = .returned (.tuple #[.agg #[.int .i64 s, .slice A n c], .int .i64 p, .int .i64 x]) ∧ Ints w' w'.heap.size A n cs ∧ n ≤ 49 ∧ 0 ≤ s ∧ s ≤ 8 ∧ P p ∧ Q x ∧ Below w.heap.size w w'

set_option maxRecDepth 100000 in
set_option maxHeartbeats 4000000 in
theorem d_grp (w : World) (a : Option Addr) (len cap : Nat) (zs : List Int) (h : IsRow .u8 w a len cap zs) :
    Calls Try.prog 38 #[.slice a len cap] w fun e w' => DrawnLI (fun x => -1 ≤ x ∧ x ≤ 64) w e w' := by
  have hb1 : Below w.heap.size w (w.alloc (.cells #[.int .i64 0, .slice none 0 0] 25)) := (Below.refl _ _).alloc (Nat.le_refl _) _
  have X2 := Lib.hid (Bx.new 25 w 0 (.slice none 0 0))
  have Hb := Lib.hid hb1
  have hsz : (w.alloc (.cells #[.int .i64 0, .slice none 0 0] 25)).heap.size = w.heap.size + 1 := by simp
  have Hsz := Lib.hid hsz
  have H := Lib.hid (h.below hb1)
  clear h hb1 hsz
  go_enter Try.func38, Try.ntmps38
  go_wp2_with fail
  refine (r_new _ _ _ _ zs H.out).mono ?_
  rintro e y ⟨g, rfl, hr, hb⟩
  have Hg := Lib.hid hr.1
  rw [Hsz.out] at Hg
  have hg1 := Hg.out
  have X2 := Lib.hid (X2.out.below hb X2.out.lt)
  have Hb := Lib.hid (Hb.out.trans (hb.mono (by rw [Hsz.out]; omega)))
  have zy := X2.out.lt
  obtain ⟨Bq, Hr⟩ : ∃ Bq, Hid (Rdr y Bq g 0) := ⟨_, Lib.hid hr⟩
  clear hr hb
  go_wp2_with fail
  have hgy := Hr.out.lt
  refine (r_bp Bq g 0 _ Hr.out (by omega)).mono ?_
  rintro e y2 ⟨s, A, n, c, cs, q', p, rfl, hi, hn, s0, s8, p1, p2, hr, hq, hg⟩
  have X2 := Lib.hid (X2.out.grown hg (fun e => by have := Option.some.inj e; omega))
  have Hb := Lib.hid (Hb.out.trans (below_g hg (by omega) (fun k hk => by have := Option.some.inj hk; omega)))
  have Hi := Lib.hid (((hi.far ⟨w.heap.size, 0, none⟩ (by show w.heap.size < y.heap.size; omega) (.int .i64 s)).far ⟨w.heap.size, 1, none⟩ (by show w.heap.size < y.heap.size; omega) (.slice A n c)).ints)
  clear hi hr hg hq
  have r0 := X2.out.cell0
  have r1 := X2.out.cell1
  have r2 := X2.out.frozen 0
  have r3 := X2.out.frozen 1
  have r4 := X2.out.lt
  have K0 := Lib.hid ((X2.out.set0 s).cell0)
  have K1 := Lib.hid (((X2.out.set0 s).set1 (.slice A n c)).cell1)
  have Hb3 := Lib.hid ((Hb.out.setCell (p := ⟨w.heap.size, 0, none⟩) (Nat.le_refl _) (.int .i64 s)).setCell (p := ⟨w.heap.size, 1, none⟩) (Nat.le_refl _) (.slice A n c))
  go_wp2_with fail
  have k0 := K0.out
  have k1 := K1.out
  refine bodyPost_ret (v := .tuple #[.agg #[.int .i64 s, .slice A n c], .int .i64 p]) (by simp [results, Try.results38, go_sem, k0, k1]) rfl ?_
  exact ⟨_, _, _, _, _, _, rfl, Hi.out, hn, s0, s8, ⟨p1, p2⟩, Hb3.out⟩

end Go.Proofs.Ytpopbcmfbcmojaa

namespace Go.Proofs.Ytpopbcmfbcmojaa
set_option maxRecDepth 100000
open Go.RowKit

def setB (s : Int) (cs : List Int) (p x : Int) : Bool := Bd.okB s cs && Pt.okP s p && Bd.okC x
def setS (s : Int) (cs : List Int) (p x : Int) : Int := if setB s cs p x then s else 0
def setCs (s : Int) (cs : List Int) (p x : Int) : List Int := if setB s cs p x then cs.set p.toNat x else []
/-- A board that the call made, and a bool. -/
def MadeB (s' : Int) (cs' : List Int) (b : Bool) (w : World) (e : Ending) (w' : World) : Prop :=
  ∃ A n c, e = .returned (.tuple #[.agg #[.int .i64 s', .slice A n c], .bool b]) ∧ Own w' w.heap.size A n c cs' ∧ Below w.heap.size w w'

end Go.Proofs.Ytpopbcmfbcmojaa

namespace Go.Proofs.Ytpopbcmfbcmojaa
set_option maxRecDepth 100000
open Go.RowKit

theorem size_int : (Try.prog.info? 3).map (·.size) = some 1 := by kernel_rfl

theorem copyFull {ops : Array Oper} {rest : List Oper} {o : Oper} {a : Act} {Q : Exit → Act → World → Prop} (hgd : o.guard = none) (d s : Operand)
    (ho : o.op = .call { callee := .builtin .copy, args := #[d, s], argTypes := #[23, 23] })
    (w : World) (B g n c : Nat) (ys : List Int) (B' : Nat) (A : Option Addr) (c' : Nat) (xs : List Int) (hd : a.eval d = .slice (some ⟨g, 0, none⟩) n c) (hs : a.eval s = .slice A n c')
    (hown : Own w B (some ⟨g, 0, none⟩) n c ys) (hin : Ints w B' A n xs) (hpos : 0 < n)
    (h : ∀ w', Own w' B (some ⟨g, 0, none⟩) n c xs → w.grownBy w' (some g) → wpList Try.prog ops Q rest (a.put o.dst (goInt n)) w') :
    wpList Try.prog ops Q (o :: rest) a w := by
  have hl := hin.1
  rcases hin.2 with h0 | ⟨b, off, rfl, hbB, hc⟩
  · omega
  rcases hown.2.2 with ⟨e, _⟩ | ⟨g', cap, cur, e, hb, hh, hnc, hcm, hcs, htake⟩
  · cases e
  · obtain ⟨rfl, rfl⟩ : g = g' ∧ c = cap := by
      injection e with e1 e2 e3
      injection e1 with e1
      injection e1 with e1
      exact ⟨e1, e3⟩
    have hlen : (xs.map (Value.int .i64)).length = n := by rw [List.length_map, hl]
    refine wpList_copy_own hgd d s 23 23 ho 3 Try.underlying23 size_int g 0 n c ⟨b, off, none⟩ n c' hd hs cur 3 hh (xs.map (Value.int .i64)) (by rw [hlen]; simp) ?_ (by rw [hlen, hcs]; omega) (ints_oneCell _ _) ?_
    · intro j u hj
      have hj' : j < xs.length := by
        rcases Nat.lt_or_ge j xs.length with h | h
        · exact h
        · rw [List.getElem?_eq_none (by rw [List.length_map]; exact h)] at hj; cases hj
      have e : (⟨b, off, none⟩ : Addr).add j = ⟨b, off + j, none⟩ := by by_cases hj0 : j = 0 <;> simp [Addr.add, hj0]
      rw [e, hc j (by omega), ← hj]
      simp [List.getElem?_eq_getElem hj', List.getD_eq_getElem?_getD]
    · rw [hlen]
      refine h _ ⟨hl, by rw [List.length_map, hl]; omega, .inr ⟨g, c, _, rfl, hb, setRow_heap w g _ _ _ _ hh, hnc, hcm, ?_, ?_⟩⟩ ⟨rfl, rfl, rfl, by simp [World.setRow], fun k _ hk => setRow_other w g k _ (fun e => hk (by rw [e]))⟩
      · simp [hl, hcs]; omega
      · simp [hl]
end Go.Proofs.Ytpopbcmfbcmojaa

namespace Go.Proofs.Ytpopbcmfbcmojaa
set_option maxRecDepth 100000
open Go.RowKit

set_option maxRecDepth 100000 in
set_option maxHeartbeats 1000000 in
theorem i_set (s p x : Int) (w : World) (B : Nat) (A : Option Addr) (n c : Nat) (cs : List Int) (h : Ints w B A n cs) (hB : B ≤ w.heap.size) (hn : n ≤ 1000000000) :
    Calls Try.prog 35 #[.agg #[.int .i64 s, .slice A n c], .int .i64 p, .int .i64 x] w fun e w' => MadeB (setS s cs p x) (setCs s cs p x) (setB s cs p x) w e w' := by
  have e1 : (w.alloc (.cells #[.int .i64 s, .slice A n c] 25)).heap.size = w.heap.size + 1 := by simp
  have x0 := (Bx.new 25 w s (.slice A n c)).alloc (.cells #[.int .i64 0, .slice none 0 0] 25)
  have x1 := Bx.new 25 (w.alloc (.cells #[.int .i64 s, .slice A n c] 25)) 0 (.slice none 0 0)
  rw [e1] at x1
  have hb2 : Below w.heap.size w ((w.alloc (.cells #[.int .i64 s, .slice A n c] 25)).alloc (.cells #[.int .i64 0, .slice none 0 0] 25)) := ((Below.refl _ _).alloc (Nat.le_refl _) _).alloc (by simp) _
  have hl := h.1
  have H := Lib.hid (h.below hb2 hB)
  have X0 := Lib.hid x0
  have X1 := Lib.hid x1
  have Hb := Lib.hid hb2
  clear e1 x0 x1 hb2 h
  by_cases hv : Bd.okB s cs = true
  · obtain ⟨q1, q2, q3, _⟩ := (Bd.okB_iff s cs).1 hv
    have q4 := Pt.sq_bd s q1 q2
    have hn49 : n ≤ 49 := by omega
    by_cases hp : Pt.okP s p = true
    · by_cases hx : Bd.okC x = true
      · have hall : setB s cs p x = true := by rw [setB, hv, hp, hx]; rfl
        have Hs := Lib.hid (show setS s cs p x = s by rw [setS, hall]; rfl)
        have Hc := Lib.hid (show setCs s cs p x = cs.set p.toNat x by rw [setCs, hall]; rfl)
        have Hb9 := Lib.hid hall
        clear hall
        obtain ⟨_, _, p1, p2⟩ := (Pt.okP_iff s p).1 hp
        have hpp : (decide (0 ≤ p) && decide (p < s * s)) = true := by simp [p1, p2]
        have hxx : (decide (0 ≤ x) && decide (x ≤ 2)) = true := hx
        go_enter Try.func35, Try.ntmps35
        go_wp2_with fail
        refine (i_validBoard _ _ _ _ _ _ _ H.out (by simp; omega) (by omega)).mono ?_
        rintro e y2 ⟨rfl, hb⟩
        rw [hv]
        have X0 := Lib.hid (X0.out.below hb X0.out.lt)
        have X1 := Lib.hid (X1.out.below hb X1.out.lt)
        have H := Lib.hid (H.out.below hb (by simp; omega))
        have Hb := Lib.hid (Hb.out.trans (hb.mono (by simp; omega)))
        clear hb hv
        have z2 := X1.out.lt
        have u00 := X0.out.cell0
        have u01 := X0.out.cell1
        have u02 := X0.out.lt
        go_wp2_with fail
        refine (i_point _ _ _).mono ?_
        rintro e w' ⟨rfl, rfl⟩
        rw [hp]
        go_wp2_with fail
        refine (i_validColor _ _).mono ?_
        rintro e w' ⟨rfl, rfl⟩
        rw [hx]
        clear hp hx hpp hxx
        go_wp2_with fail
        refine (i_new _ _).mono ?_
        rintro e y ⟨A1, n1, c1, rfl, ho, hb⟩
        have hs0 : Pt.okS s = true := (Pt.okS_iff s).2 ⟨q1, q2⟩
        have hn1 : n1 = n := by
          have := ho.1
          rw [newCs, if_pos hs0, List.length_replicate] at this
          omega
        rw [show newS s = s by rw [newS, if_pos hs0]]
        rw [hn1] at ho ⊢
        clear hn1 hs0
        have X0 := Lib.hid (X0.out.below hb X0.out.lt)
        have X1 := Lib.hid (X1.out.below hb X1.out.lt)
        have H := Lib.hid (H.out.below hb (by omega))
        have Hb := Lib.hid (Hb.out.trans (hb.mono (by omega)))
        have Ho := Lib.hid (ho.weaken (B' := w.heap.size + 1 + 1) (by omega))
        have hA1 : ∃ g, A1 = some ⟨g, 0, none⟩ := by
          obtain ⟨g, cap, hv, _⟩ := World.ownsRow.form ho.2 (by omega)
          exact ⟨g, by injection hv⟩
        have hy := hb.size
        clear hb u00 u01
        obtain ⟨g, hA1⟩ := hA1
        have hg1 := (ho.ge hA1).1
        have hg2 := (ho.ge hA1).2
        rw [hA1] at Ho ⊢
        clear ho hA1
        obtain ⟨q, rfl⟩ := Int.eq_ofNat_of_zero_le p1
        have hqn : q < n := by omega
        go_upto_region 4 with (fail)
        obtain ⟨y4, hy4, hb4, z4, z4'⟩ := new_box y (.cells #[.int .i64 s, .slice (some ⟨g, 0, none⟩) n c1] 25)
        have X3 : Hid (Bx 25 y4 y.heap.size s (.slice (some ⟨g, 0, none⟩) n c1)) := Lib.hid (by rw [hy4]; exact Bx.new _ _ _ _)
        rw [← hy4]
        clear hy4
        have X0 := Lib.hid (X0.out.below hb4 X0.out.lt)
        have X1 := Lib.hid (X1.out.below hb4 X1.out.lt)
        have H := Lib.hid (H.out.below hb4 (by omega))
        have Hb := Lib.hid (Hb.out.trans (hb4.mono (by omega)))
        have Ho := Lib.hid (Ho.out.below hb4)
        clear hb4
        have v00 := X0.out.cell0
        have v01 := X0.out.cell1
        have v30 := X3.out.cell0
        have v31 := X3.out.cell1
        go_upto_region 6 with ((with_reducible show wpList _ _ _ _ _ _); refine copyFull rfl (.tmp 29) (.tmp 31) rfl y4 (w.heap.size + 1 + 1) g n c1 _ B A c cs rfl rfl Ho.out H.out (by omega) ?_; intro y6 ho6 hg6; have X3b := Lib.hid (X3.out.grown hg6 (by simp; omega)); have X1b := Lib.hid (X1.out.grown hg6 (by simp; omega)); have Hb6 := Lib.hid (Hb.out.grown hg6 (by omega) (fun k e => by injection e; omega)); have w30 := X3b.out.cell0; have w31 := X3b.out.cell1; have w32 := X3b.out.lt; obtain ⟨u, hu⟩ : ∃ u, y6.cell? ⟨g, q, none⟩ = some u := ⟨_, (World.ownsRow.cellAt ho6.2 q (by omega)).trans (List.getElem?_eq_getElem (by rw [List.length_map, ho6.1]; exact hqn))⟩; have hf := World.ownsRow.frozenAt ho6.2 q; have Ho6 := Lib.hid (ho6.stored q x).1; clear ho6 hg6 v00 v01 v30 v31)
        obtain ⟨y5, hy5⟩ : ∃ y5, y5 = y6.setCell ⟨g, q, none⟩ (.int .i64 x) := ⟨_, rfl⟩
        have X3 : Hid (Bx 25 y5 y.heap.size s (.slice (some ⟨g, 0, none⟩) n c1)) := Lib.hid (by rw [hy5]; exact X3b.out.far (p := ⟨g, q, none⟩) (by show y.heap.size ≠ g; omega) (.int .i64 x))
        have Ho3 : Hid (Own y5 (w.heap.size + 1 + 1) (some ⟨g, 0, none⟩) n c1 (cs.set q x)) := Lib.hid (by rw [hy5]; exact Ho6.out)
        have X1 : Hid (Bx 25 y5 (w.heap.size + 1) 0 (.slice none 0 0)) := Lib.hid (by rw [hy5]; exact X1b.out.far (p := ⟨g, q, none⟩) (by show w.heap.size + 1 ≠ g; omega) (.int .i64 x))
        have Hb : Hid (Below w.heap.size w y5) := Lib.hid (by rw [hy5]; exact Hb6.out.setCell (p := ⟨g, q, none⟩) (by show w.heap.size ≤ g; omega) (.int .i64 x))
        rw [← hy5]
        clear hy5 hu hf w30 w31
        have v30 := X3.out.cell0
        have v31 := X3.out.cell1
        have v32 := X3.out.lt
        have v10 := X1.out.cell0
        have v11 := X1.out.cell1
        have v12 := X1.out.frozen 0
        have v13 := X1.out.frozen 1
        have v14 := X1.out.lt
        have K0 := Lib.hid ((X1.out.set0 s).cell0)
        have K1 := Lib.hid (((X1.out.set0 s).set1 (.slice (some ⟨g, 0, none⟩) n c1)).cell1)
        have Hb3 := Lib.hid ((Hb.out.setCell (p := ⟨w.heap.size + 1, 0, none⟩) (by show w.heap.size ≤ w.heap.size + 1; omega) (.int .i64 s)).setCell (p := ⟨w.heap.size + 1, 1, none⟩) (by show w.heap.size ≤ w.heap.size + 1; omega) (.slice (some ⟨g, 0, none⟩) n c1))
        have Ho2 := Lib.hid ((Ho3.out.far ⟨w.heap.size + 1, 0, none⟩ (fun g hA => by have := (Ho3.out.ge hA).1; show g ≠ w.heap.size + 1; omega) (.int .i64 s)).far ⟨w.heap.size + 1, 1, none⟩ (fun g hA => by have := (Ho3.out.ge hA).1; show g ≠ w.heap.size + 1; omega) (.slice (some ⟨g, 0, none⟩) n c1))
        go_wp2_with fail
        have k0 := K0.out
        have k1 := K1.out
        refine bodyPost_ret (v := .tuple #[.agg #[.int .i64 s, .slice (some ⟨g, 0, none⟩) n c1], .bool true]) (by simp [results, Try.results35, go_sem, k0, k1]) rfl ?_
        exact ⟨_, _, _, by rw [Hs.out, Hb9.out], by rw [Hc.out]; exact Ho2.out.weaken (by omega), Hb3.out⟩
      · have hx0 : Bd.okC x = false := by simpa using hx
        have hall : setB s cs p x = false := by rw [setB, hv, hp, hx0]; rfl
        have Hs := Lib.hid (show setS s cs p x = 0 by rw [setS, hall]; rfl)
        have Hc := Lib.hid (show setCs s cs p x = [] by rw [setCs, hall]; rfl)
        have Hb9 := Lib.hid hall
        clear hall
        obtain ⟨_, _, p1, p2⟩ := (Pt.okP_iff s p).1 hp
        have hpp : (decide (0 ≤ p) && decide (p < s * s)) = true := by simp [p1, p2]
        have hxx : (decide (0 ≤ x) && decide (x ≤ 2)) = false := hx0
        clear hx
        go_enter Try.func35, Try.ntmps35
        go_wp2_with fail
        refine (i_validBoard _ _ _ _ _ _ _ H.out (by simp; omega) (by omega)).mono ?_
        rintro e y2 ⟨rfl, hb⟩
        rw [hv]
        have X0 := Lib.hid (X0.out.below hb X0.out.lt)
        have X1 := Lib.hid (X1.out.below hb X1.out.lt)
        have H := Lib.hid (H.out.below hb (by simp; omega))
        have Hb := Lib.hid (Hb.out.trans (hb.mono (by simp; omega)))
        clear hb hv
        have z2 := X1.out.lt
        have u00 := X0.out.cell0
        have u01 := X0.out.cell1
        have u02 := X0.out.lt
        go_wp2_with fail
        refine (i_point _ _ _).mono ?_
        rintro e w' ⟨rfl, rfl⟩
        rw [hp]
        go_wp2_with fail
        refine (i_validColor _ _).mono ?_
        rintro e w' ⟨rfl, rfl⟩
        rw [hx0]
        clear hp hx0 hpp hxx
        have v10 := X1.out.cell0
        have v11 := X1.out.cell1
        have v12 := X1.out.frozen 0
        have v13 := X1.out.frozen 1
        have v14 := X1.out.lt
        have K0 := Lib.hid ((X1.out.set0 0).cell0)
        have K1 := Lib.hid (((X1.out.set0 0).set1 (.slice none 0 0)).cell1)
        have Hb3 := Lib.hid ((Hb.out.setCell (p := ⟨w.heap.size + 1, 0, none⟩) (by show w.heap.size ≤ w.heap.size + 1; omega) (.int .i64 0)).setCell (p := ⟨w.heap.size + 1, 1, none⟩) (by show w.heap.size ≤ w.heap.size + 1; omega) (.slice none 0 0))
        clear u00 u01
        go_wp2_with fail
        have k0 := K0.out
        have k1 := K1.out
        refine bodyPost_ret (v := .tuple #[.agg #[.int .i64 0, .slice none 0 0], .bool false]) (by simp [results, Try.results35, go_sem, k0, k1]) rfl ?_
        exact ⟨_, _, _, by rw [Hs.out, Hb9.out], by rw [Hc.out]; exact Own.nil _ _, Hb3.out⟩
    · have hp0 : Pt.okP s p = false := by simpa using hp
      have hall : setB s cs p x = false := by rw [setB, hv, hp0]; rfl
      have Hs := Lib.hid (show setS s cs p x = 0 by rw [setS, hall]; rfl)
      have Hc := Lib.hid (show setCs s cs p x = [] by rw [setCs, hall]; rfl)
      have Hb9 := Lib.hid hall
      clear hall
      have hs0 : Pt.okS s = true := (Pt.okS_iff s).2 ⟨q1, q2⟩
      have hpp : (decide (0 ≤ p) && decide (p < s * s)) = false := by rw [Pt.okP, hs0] at hp0; exact hp0
      clear hp hs0
      go_enter Try.func35, Try.ntmps35
      go_wp2_with fail
      refine (i_validBoard _ _ _ _ _ _ _ H.out (by simp; omega) (by omega)).mono ?_
      rintro e y2 ⟨rfl, hb⟩
      rw [hv]
      have X0 := Lib.hid (X0.out.below hb X0.out.lt)
      have X1 := Lib.hid (X1.out.below hb X1.out.lt)
      have H := Lib.hid (H.out.below hb (by simp; omega))
      have Hb := Lib.hid (Hb.out.trans (hb.mono (by simp; omega)))
      clear hb hv
      have z2 := X1.out.lt
      have u00 := X0.out.cell0
      have u01 := X0.out.cell1
      have u02 := X0.out.lt
      go_wp2_with fail
      refine (i_point _ _ _).mono ?_
      rintro e w' ⟨rfl, rfl⟩
      rw [hp0]
      clear hp0 hpp
      have v10 := X1.out.cell0
      have v11 := X1.out.cell1
      have v12 := X1.out.frozen 0
      have v13 := X1.out.frozen 1
      have v14 := X1.out.lt
      have K0 := Lib.hid ((X1.out.set0 0).cell0)
      have K1 := Lib.hid (((X1.out.set0 0).set1 (.slice none 0 0)).cell1)
      have Hb3 := Lib.hid ((Hb.out.setCell (p := ⟨w.heap.size + 1, 0, none⟩) (by show w.heap.size ≤ w.heap.size + 1; omega) (.int .i64 0)).setCell (p := ⟨w.heap.size + 1, 1, none⟩) (by show w.heap.size ≤ w.heap.size + 1; omega) (.slice none 0 0))
      clear u00 u01
      go_wp2_with fail
      have k0 := K0.out
      have k1 := K1.out
      refine bodyPost_ret (v := .tuple #[.agg #[.int .i64 0, .slice none 0 0], .bool false]) (by simp [results, Try.results35, go_sem, k0, k1]) rfl ?_
      exact ⟨_, _, _, by rw [Hs.out, Hb9.out], by rw [Hc.out]; exact Own.nil _ _, Hb3.out⟩
  · have hv0 : Bd.okB s cs = false := by simpa using hv
    have hall : setB s cs p x = false := by rw [setB, hv0]; rfl
    have Hs := Lib.hid (show setS s cs p x = 0 by rw [setS, hall]; rfl)
    have Hc := Lib.hid (show setCs s cs p x = [] by rw [setCs, hall]; rfl)
    have Hb9 := Lib.hid hall
    clear hall
    clear hv
    go_enter Try.func35, Try.ntmps35
    go_wp2_with fail
    refine (i_validBoard _ _ _ _ _ _ _ H.out (by simp; omega) (by omega)).mono ?_
    rintro e y2 ⟨rfl, hb⟩
    rw [hv0]
    have X0 := Lib.hid (X0.out.below hb X0.out.lt)
    have X1 := Lib.hid (X1.out.below hb X1.out.lt)
    have H := Lib.hid (H.out.below hb (by simp; omega))
    have Hb := Lib.hid (Hb.out.trans (hb.mono (by simp; omega)))
    clear hb hv0
    have z2 := X1.out.lt
    have u00 := X0.out.cell0
    have u01 := X0.out.cell1
    have u02 := X0.out.lt
    have v10 := X1.out.cell0
    have v11 := X1.out.cell1
    have v12 := X1.out.frozen 0
    have v13 := X1.out.frozen 1
    have v14 := X1.out.lt
    have K0 := Lib.hid ((X1.out.set0 0).cell0)
    have K1 := Lib.hid (((X1.out.set0 0).set1 (.slice none 0 0)).cell1)
    have Hb3 := Lib.hid ((Hb.out.setCell (p := ⟨w.heap.size + 1, 0, none⟩) (by show w.heap.size ≤ w.heap.size + 1; omega) (.int .i64 0)).setCell (p := ⟨w.heap.size + 1, 1, none⟩) (by show w.heap.size ≤ w.heap.size + 1; omega) (.slice none 0 0))
    clear u00 u01
    go_wp2_with fail
    have k0 := K0.out
    have k1 := K1.out
    refine bodyPost_ret (v := .tuple #[.agg #[.int .i64 0, .slice none 0 0], .bool false]) (by simp [results, Try.results35, go_sem, k0, k1]) rfl ?_
    exact ⟨_, _, _, by rw [Hs.out, Hb9.out], by rw [Hc.out]; exact Own.nil _ _, Hb3.out⟩
end Go.Proofs.Ytpopbcmfbcmojaa

namespace Go.Proofs.Ytpopbcmfbcmojaa
set_option maxRecDepth 100000
open Go.RowKit

section
variable (s p x : Int) (w : World) (A : Option Addr) (n c : Nat) (cs ds : List Int)
theorem i_setW (h : Ints w w.heap.size A n cs) (hn : n ≤ 49) (hb : setB s cs p x = true) (hd : cs.set p.toNat x = ds) :
    Calls Try.prog 35 #[.agg #[.int .i64 s, .slice A n c], .int .i64 p, .int .i64 x] w fun e w' => ∃ A1 c1, e = .returned (.tuple #[.agg #[.int .i64 s, .slice A1 n c1], .bool true]) ∧ Own w' w.heap.size A1 n c1 ds ∧ Below w.heap.size w w' := by
  have hl := h.1
  refine (i_set s p x w w.heap.size A n c cs h (Nat.le_refl _) (by omega)).mono ?_
  rintro e w' ⟨A1, n1, c1, rfl, ho, hb1⟩
  rw [setCs, hb, if_pos rfl, hd] at ho
  have e1 := ho.1
  rw [← hd, List.length_set] at e1
  obtain rfl : n1 = n := by omega
  exact ⟨_, _, by rw [setS, hb]; rfl, ho, hb1⟩
theorem i_setN (h : Ints w w.heap.size A n cs) (hn : n ≤ 49) (hb : setB s cs p x = false) :
    Calls Try.prog 35 #[.agg #[.int .i64 s, .slice A n c], .int .i64 p, .int .i64 x] w fun e w' => ∃ A1 c1, e = .returned (.tuple #[.agg #[.int .i64 0, .slice A1 0 c1], .bool false]) ∧ Own w' w.heap.size A1 0 c1 [] ∧ Below w.heap.size w w' := by
  refine (i_set s p x w w.heap.size A n c cs h (Nat.le_refl _) (by omega)).mono ?_
  rintro e w' ⟨A1, n1, c1, rfl, ho, hb1⟩
  rw [setCs, hb, if_neg (by decide)] at ho
  obtain rfl : 0 = n1 := ho.1
  exact ⟨_, _, by rw [setS, hb]; rfl, ho, hb1⟩
end
theorem setB_iff {s p x : Int} {cs : List Int} : setB s cs p x = true ↔ Bd.okB s cs = true ∧ Pt.okP s p = true ∧ Bd.okC x = true := by
  unfold setB; simp [and_assoc]
theorem setB_set {s p x y : Int} {cs : List Int} (h : setB s cs p x = true) (hy : Bd.okC y = true) : setB s (cs.set p.toNat x) p y = true := by
  obtain ⟨a, b, c⟩ := setB_iff.1 h
  obtain ⟨a1, a2, a3, a4⟩ := (Bd.okB_iff s cs).1 a
  refine setB_iff.2 ⟨(Bd.okB_iff s _).2 ⟨a1, a2, by rw [List.length_set]; exact a3, fun z hz => ?_⟩, b, hy⟩
  rcases List.mem_or_eq_of_mem_set hz with h | rfl
  · exact a4 z h
  · simpa [Bd.okC] using c
theorem set_back {cs : List Int} {p : Nat} (x : Int) (h : p < cs.length) : (cs.set p x).set p (cs.getD p 0) = cs := by
  rw [List.set_set, List.getD_eq_getElem?_getD, List.getElem?_eq_getElem h]
  exact List.set_getElem_self h
end Go.Proofs.Ytpopbcmfbcmojaa

