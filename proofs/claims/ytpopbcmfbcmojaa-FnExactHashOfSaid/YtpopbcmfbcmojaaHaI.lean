/-
  HashOf of both packages.
-/
import Derived.Test.YtpopbcmfbcmojaaHaP
import Derived.Test.YtpopbcmfbcmojaaRows2
import Derived.Deep.LoopGhost
import Derived.Deep.DeepCutAuto
namespace Go.Proofs.Ytpopbcmfbcmojaa
set_option maxRecDepth 100000
open Go.RowKit

theorem bits_xr {a b : Int} (a0 : 0 ≤ a) (a1 : a ≤ 1048575) (b0 : 0 ≤ b) (b1 : b ≤ 1048575) : bits .xor .i64 a b = Ha.xr a b := Ha.xor_val a0 a1 b0 b1
set_option maxHeartbeats 4000000 in
theorem i_hash (s : Int) (w : World) (B : Nat) (A : Option Addr) (n c : Nat) (cs : List Int) (h : Ints w B A n cs) (hB : B ≤ w.heap.size) (hn : n ≤ 1000000000) : Calls Try.prog 33 #[.agg #[.int .i64 s, .slice A n c]] w fun e w' => e = .returned (.int .i64 (Ha.ans s cs)) ∧ Below w.heap.size w w' := by
  have hcl := h.1
  obtain ⟨y1, hy1, hb1, z1, z2⟩ := new_box w (.cells #[.int .i64 s, .slice A n c] 25)
  have X1 := Lib.hid (show Bx 25 y1 w.heap.size s (.slice A n c) by rw [hy1]; exact Bx.new _ _ _ _)
  have I1 := Lib.hid (h.below hb1 hB)
  have HB := Lib.hid hb1
  clear h hb1
  go_enter Try.func33, Try.ntmps33
  go_upto_region 1 with (fail)
  rw [← hy1]
  clear hy1
  have u0 := X1.out.cell0
  have u1 := X1.out.cell1
  have ul := X1.out.lt
  go_wp2_with fail
  refine (i_validBoard s _ B A n c cs I1.out (by omega) hn).mono ?_
  rintro e y2 ⟨rfl, hb2⟩
  have X1 := Lib.hid (X1.out.below hb2 ul)
  have I1 := Lib.hid (I1.out.below hb2 (by omega))
  have HB := Lib.hid (HB.out.trans (hb2.mono HB.out.size))
  have zhb2 := hb2.size
  clear hb2 u0 u1 ul
  have u0 := X1.out.cell0
  have u1 := X1.out.cell1
  have ul := X1.out.lt
  by_cases hv : Bd.okB s cs = true
  · rw [hv]
    have hf : Ha.ans s cs = Ha.upto cs n := by unfold Ha.ans; rw [if_pos hv, hcl]
    have HF := Lib.hid hf
    obtain ⟨hv1, hv2, hv3, hv4⟩ := (Bd.okB_iff s cs).1 hv
    have hsq := Pt.sq_bd s hv1 hv2
    have hn49 : n ≤ 49 := by omega
    clear hv hf hv3
    go_wp2_with fail
    obtain ⟨Y, hY⟩ : ∃ Y : World, Y = y2 := ⟨_, rfl⟩
    rw [← hY] at X1 I1 HB u0 u1 ul ⊢
    clear hY
    go_loopg [3, 12] (n + 1) (fun q va vb wr => ∃ k : Nat, k + q = n + 1 ∧ k ≤ n ∧ va = .int .i64 (Ha.upto cs k) ∧ vb = .int .i64 (k : Nat) ∧ wr = Y)
    case atStart => exact ⟨0, by omega, by omega, rfl, rfl, rfl⟩
    case round =>
      obtain ⟨k, hk, hkn, rfl, rfl, rfl⟩ := hrel
      obtain ⟨t0, t1⟩ := Ha.bd hv4 k (by omega) (by omega)
      by_cases hkk : k = n
      · subst hkk
        have hlt : ¬ ((k : Nat) : Int) < (k : Nat) := by omega
        go_wp2_with fail
        go_ret
        exact ⟨ret_int HF.out.symm, HB.out⟩
      · have hlt : ((k : Nat) : Int) < n := by omega
        have hk0 : (0 : Int) ≤ (k : Nat) := by omega
        obtain ⟨b, o, rfl, hbB, hc⟩ := I1.out.2.resolve_left (by omega)
        have ck := hc k (by omega)
        have hmem : cs.getD k 0 ∈ cs := by
          rw [List.getD_eq_getElem?_getD, List.getElem?_eq_getElem (show k < cs.length by omega)]
          exact List.getElem_mem _
        obtain ⟨x0, x2⟩ := hv4 _ hmem
        have hnx := Ha.next cs k
        obtain ⟨x, hx⟩ : ∃ x, cs.getD k 0 = x := ⟨_, rfl⟩
        obtain ⟨H, hH⟩ : ∃ H, Ha.upto cs k = H := ⟨_, rfl⟩
        rw [hx] at ck x0 x2 hnx
        rw [hH] at t0 t1 hnx ⊢
        clear hc hmem hx hH
        by_cases h0 : x = 0
        · rw [if_pos h0] at hnx
          have Hn := Lib.hid hnx
          have q0 : (x != 0) = false := by simpa using h0
          clear hnx h0
          go_wp2_with fail
          go_roundg (n - k)
          case measure => omega
          case rel => exact ⟨k + 1, by omega, by omega, by rw [Hn.out], by go_num, rfl⟩
        · rw [if_neg h0] at hnx
          have x1 : 1 ≤ x := by omega
          have hok : Ky.ok (k : Int) x = true := Ky.ok_iff.2 (by omega)
          obtain ⟨y0, y1'⟩ := Ky.key_bd hok
          have hkey : Ky.key (k : Int) x = Ky.it 4 (2 * (k : Int) + x) := by unfold Ky.key; rw [if_pos hok]
          have hxr := Ha.xr_bd t0 t1 y0 y1'
          have hval := bits_xr t0 t1 y0 y1'
          clear hkey; have hkey : True := trivial
          obtain ⟨K, hK⟩ : ∃ K, Ky.key (k : Int) x = K := ⟨_, rfl⟩
          rw [hK] at y0 y1' hxr hval hnx
          obtain ⟨V, hV⟩ : ∃ V, Ha.xr H K = V := ⟨_, rfl⟩
          rw [hV] at hxr hval hnx
          obtain ⟨v0, v1⟩ := hxr
          have Hn := Lib.hid hnx
          have HK := Lib.hid hK
          have q0 : (x != 0) = true := by simpa using h0
          clear hnx h0 hok hkey hV hK
          go_wp2_with fail
          refine (i_key (k : Nat) x _).mono ?_
          rintro e y ⟨rfl, rfl⟩
          rw [HK.out]
          go_wp2_with fail
          go_roundg (n - k)
          case measure => omega
          case rel => exact ⟨k + 1, by omega, by omega, by rw [Hn.out], by go_num, rfl⟩
  · have hv' : Bd.okB s cs = false := by simpa using hv
    have hf : Ha.ans s cs = -1 := by unfold Ha.ans; rw [if_neg hv]
    have HF := Lib.hid hf
    rw [hv']
    clear hv hv' hf
    go_wp2_with fail
    go_ret
    exact ⟨ret_int HF.out.symm, HB.out⟩
set_option maxHeartbeats 4000000 in
theorem s_hash0 (s : Int) (w : World) (B : Nat) (A : Option Addr) (n c : Nat) (cs : List Int) (h : Ints w B A n cs) (hB : B ≤ w.heap.size) (hv : Bd.okB s cs = true) : Calls Try.prog 74 #[.agg #[.int .i64 s, .slice A n c]] w fun e w' => e = .returned (.int .i64 (Ha.ans s cs)) ∧ Below w.heap.size w w' := by
  have hcl := h.1
  have hf : Ha.ans s cs = Ha.upto cs n := by unfold Ha.ans; rw [if_pos hv, hcl]
  have HF := Lib.hid hf
  obtain ⟨hv1, hv2, hv3, hv4⟩ := (Bd.okB_iff s cs).1 hv
  have hsq := Pt.sq_bd s hv1 hv2
  have hn49 : n ≤ 49 := by omega
  clear hv hf hv3
  obtain ⟨y1, hy1, hb1, z1, z2⟩ := new_box w (.cells #[.int .i64 s, .slice A n c] 25)
  have X1 := Lib.hid (show Bx 25 y1 w.heap.size s (.slice A n c) by rw [hy1]; exact Bx.new _ _ _ _)
  have I1 := Lib.hid (h.below hb1 hB)
  have HB := Lib.hid hb1
  clear h hb1
  go_enter Try.func74, Try.ntmps74
  go_upto_region 1 with (fail)
  rw [← hy1]
  clear hy1
  have u0 := X1.out.cell0
  have u1 := X1.out.cell1
  have ul := X1.out.lt
  go_wp2_with fail
  obtain ⟨Y, hY⟩ : ∃ Y : World, Y = y1 := ⟨_, rfl⟩
  rw [← hY] at X1 I1 HB u0 u1 ul ⊢
  clear hY
  go_loopg [3, 4] (n + 1) (fun q va vb wr => ∃ k : Nat, k + q = n + 1 ∧ k ≤ n ∧ va = .int .i64 (Ha.upto cs k) ∧ vb = .int .i64 (k : Nat) ∧ wr = Y)
  case atStart => exact ⟨0, by omega, by omega, rfl, rfl, rfl⟩
  case round =>
    obtain ⟨k, hk, hkn, rfl, rfl, rfl⟩ := hrel
    obtain ⟨t0, t1⟩ := Ha.bd hv4 k (by omega) (by omega)
    by_cases hkk : k = n
    · subst hkk
      have hlt : ¬ ((k : Nat) : Int) < (k : Nat) := by omega
      go_wp2_with fail
      go_ret
      exact ⟨ret_int HF.out.symm, HB.out⟩
    · have hlt : ((k : Nat) : Int) < n := by omega
      have hk0 : (0 : Int) ≤ (k : Nat) := by omega
      obtain ⟨b, o, rfl, hbB, hc⟩ := I1.out.2.resolve_left (by omega)
      have ck := hc k (by omega)
      have hmem : cs.getD k 0 ∈ cs := by
        rw [List.getD_eq_getElem?_getD, List.getElem?_eq_getElem (show k < cs.length by omega)]
        exact List.getElem_mem _
      obtain ⟨x0, x2⟩ := hv4 _ hmem
      have hnx := Ha.next cs k
      obtain ⟨x, hx⟩ : ∃ x, cs.getD k 0 = x := ⟨_, rfl⟩
      obtain ⟨H, hH⟩ : ∃ H, Ha.upto cs k = H := ⟨_, rfl⟩
      rw [hx] at ck x0 x2 hnx
      rw [hH] at t0 t1 hnx ⊢
      clear hc hmem hx hH
      by_cases h0 : x = 0
      · rw [if_pos h0] at hnx
        have Hn := Lib.hid hnx
        have q0 : (x != 0) = false := by simpa using h0
        clear hnx h0
        go_wp2_with fail
        go_roundg (n - k)
        case measure => omega
        case rel => exact ⟨k + 1, by omega, by omega, by rw [Hn.out], by go_num, rfl⟩
      · rw [if_neg h0] at hnx
        have x1 : 1 ≤ x := by omega
        have hok : Ky.ok (k : Int) x = true := Ky.ok_iff.2 (by omega)
        obtain ⟨y0, y1'⟩ := Ky.key_bd hok
        have hkey : Ky.key (k : Int) x = Ky.it 4 (2 * (k : Int) + x) := by unfold Ky.key; rw [if_pos hok]
        have hxr := Ha.xr_bd t0 t1 y0 y1'
        have hval := bits_xr t0 t1 y0 y1'
        rw [hkey] at y0 y1' hxr hval hnx
        obtain ⟨K, hK⟩ : ∃ K, Ky.it 4 (2 * (k : Int) + x) = K := ⟨_, rfl⟩
        rw [hK] at y0 y1' hxr hval hnx
        obtain ⟨V, hV⟩ : ∃ V, Ha.xr H K = V := ⟨_, rfl⟩
        rw [hV] at hxr hval hnx
        obtain ⟨v0, v1⟩ := hxr
        have Hn := Lib.hid hnx
        have HK := Lib.hid hK
        have q0 : (x != 0) = true := by simpa using h0
        clear hnx h0 hok hkey hV hK
        go_wp2_with fail
        refine (s_key0 (k : Nat) x _ (by omega) (by omega) (by omega) (by omega)).mono ?_
        rintro e y ⟨rfl, rfl⟩
        rw [HK.out]
        go_wp2_with fail
        go_roundg (n - k)
        case measure => omega
        case rel => exact ⟨k + 1, by omega, by omega, by rw [Hn.out], by go_num, rfl⟩
theorem s_hash (s : Int) (w : World) (B : Nat) (A : Option Addr) (n c : Nat) (cs : List Int) (h : Ints w B A n cs) (hB : B ≤ w.heap.size) (hn : n ≤ 1000000000) : Calls Try.prog 34 #[.agg #[.int .i64 s, .slice A n c]] w fun e w' => e = .returned (.int .i64 (Ha.ans s cs)) ∧ Below w.heap.size w w' := by
  obtain ⟨y1, hy1, hb1, z1, z2⟩ := new_box w (.cells #[.int .i64 s, .slice A n c] 25)
  have X1 := Lib.hid (show Bx 25 y1 w.heap.size s (.slice A n c) by rw [hy1]; exact Bx.new _ _ _ _)
  have I1 := Lib.hid (h.below hb1 hB)
  have HB := Lib.hid hb1
  clear h hb1
  go_enter Try.func34, Try.ntmps34
  go_upto_region 1 with (fail)
  rw [← hy1]
  clear hy1
  have u0 := X1.out.cell0
  have u1 := X1.out.cell1
  have ul := X1.out.lt
  go_wp2_with fail
  refine (s_validBoard s _ B A n c cs I1.out (by omega) hn).mono ?_
  rintro e y2 ⟨rfl, hb2⟩
  have X1 := Lib.hid (X1.out.below hb2 ul)
  have I1 := Lib.hid (I1.out.below hb2 (by omega))
  have HB := Lib.hid (HB.out.trans (hb2.mono HB.out.size))
  have zhb2 := hb2.size
  clear hb2 u0 u1 ul
  have u0 := X1.out.cell0
  have u1 := X1.out.cell1
  have ul := X1.out.lt
  by_cases hv : Bd.okB s cs = true
  · rw [hv]
    go_wp2_with fail
    refine (s_hash0 s _ B A n c cs I1.out (by omega) hv).mono ?_
    rintro e y3 ⟨rfl, hb3⟩
    have HB := Lib.hid (HB.out.trans (hb3.mono HB.out.size))
    clear hb3
    go_wp2_with fail
    go_ret
    exact ⟨rfl, HB.out⟩
  · have hv' : Bd.okB s cs = false := by simpa using hv
    have hf : Ha.ans s cs = -1 := by unfold Ha.ans; rw [if_neg hv]
    have HF := Lib.hid hf
    rw [hv']
    clear hv hv' hf
    go_wp2_with fail
    go_ret
    exact ⟨ret_int HF.out.symm, HB.out⟩
end Go.Proofs.Ytpopbcmfbcmojaa
