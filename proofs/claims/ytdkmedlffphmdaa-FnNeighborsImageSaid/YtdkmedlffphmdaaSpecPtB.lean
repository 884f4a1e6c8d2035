/-
  The model's TransformPoint and ComposeOf compute 'Pt.tr' and 'Pt.comp', for every int.
-/
import Derived.Test.YtdkmedlffphmdaaSpecPt
namespace Go.Proofs.Ytdkmedlffphmdaa
open Go.RowKit

theorem okK_le (k : Int) : (decide (0 ≤ k) && decide (k ≤ 7)) = Pt.okK k := by
  unfold Pt.okK
  congr 1
  exact decide_eq_decide.2 (by omega)

theorem s_rangeK (k : Int) (w : World) : Calls Try.prog 41 #[.int .i64 k, .int .i64 0, .int .i64 7] w fun e w' => e = .returned (.bool (Pt.okK k)) ∧ w = w' :=
  (s_range k 0 7 w).mono fun e w' h => ⟨by rw [← okK_le]; exact h.1, h.2⟩

theorem s_tr (s k p : Int) (w : World) : Calls Try.prog 20 #[.int .i64 s, .int .i64 k, .int .i64 p] w fun e w' => e = .returned (.int .i64 (Pt.tr s k p)) ∧ w = w' := by
  by_cases h : Pt.okP s p = true
  · by_cases hk : Pt.okK k = true
    · obtain ⟨h1, h2, h3, h4⟩ := (Pt.okP_iff s p).1 h
      obtain ⟨k1, k2⟩ := (Pt.okK_iff k).1 hk
      have hfin : Pt.tr s k p = Pt.img s k p := by rw [Pt.tr, h, hk]; rfl
      have H := Lib.hid hfin
      clear hfin
      go_enter Try.func20, Try.ntmps20
      go_wp2_with fail
      refine (s_point _ _ _).mono ?_
      rintro e w' ⟨rfl, rfl⟩
      go_wp2_with fail
      refine (s_rangeK _ _).mono ?_
      rintro e w' ⟨rfl, rfl⟩
      go_wp2_with fail
      refine (s_transform _ _ _ _ h1 h2 h3 h4 k1 k2).mono ?_
      rintro e w' ⟨rfl, rfl⟩
      go_wp2_with fail
      go_ret
      exact ⟨ret_int H.out.symm, rfl⟩
    · have hk' : Pt.okK k = false := by simpa using hk
      have hfin : Pt.tr s k p = -1 := by rw [Pt.tr, h, hk']; rfl
      have H := Lib.hid hfin
      clear hfin
      go_enter Try.func20, Try.ntmps20
      go_wp2_with fail
      refine (s_point _ _ _).mono ?_
      rintro e w' ⟨rfl, rfl⟩
      go_wp2_with fail
      refine (s_rangeK _ _).mono ?_
      rintro e w' ⟨rfl, rfl⟩
      go_wp2_with fail
      go_ret
      exact ⟨ret_int H.out.symm, rfl⟩
  · have h' : Pt.okP s p = false := by simpa using h
    have hfin : Pt.tr s k p = -1 := by rw [Pt.tr, h']; rfl
    have H := Lib.hid hfin
    clear hfin
    go_enter Try.func20, Try.ntmps20
    go_wp2_with fail
    refine (s_point _ _ _).mono ?_
    rintro e w' ⟨rfl, rfl⟩
    go_wp2_with fail
    go_ret
    exact ⟨ret_int H.out.symm, rfl⟩

set_option maxHeartbeats 800000 in
theorem s_comp_in (a b : Int) (w : World) (a1 : 0 ≤ a) (a2 : a < 8) (b1 : 0 ≤ b) (b2 : b < 8) :
    Calls Try.prog 24 #[.int .i64 a, .int .i64 b] w fun e w' => e = .returned (.int .i64 (Pt.comp a b)) ∧ w = w' := by
  have ha : Pt.okK a = true := (Pt.okK_iff a).2 ⟨a1, a2⟩
  have hb : Pt.okK b = true := (Pt.okK_iff b).2 ⟨b1, b2⟩
  obtain ⟨c1, c2⟩ := Pt.comp_bd a b a1 a2 b1 b2
  obtain ⟨x1, x2⟩ := Pt.img_bd 3 a 0 (by omega) (by omega) (by omega) (by omega)
  obtain ⟨y1, y2⟩ := Pt.img_bd 3 a 1 (by omega) (by omega) (by omega) (by omega)
  go_enter Try.func24, Try.ntmps24
  go_wp2_with fail
  refine (s_rangeK _ _).mono ?_
  rintro e w' ⟨rfl, rfl⟩
  go_wp2_with fail
  refine (s_rangeK _ _).mono ?_
  rintro e w' ⟨rfl, rfl⟩
  go_wp2_with fail
  go_loop [5] (fun k => ∃ n : Nat, (n : Int) ≤ Pt.comp a b ∧ k = .int .i64 n) (fun k => (Pt.comp a b).toNat - (intOf k).toNat)
  case atStart => exact ⟨0, c1, rfl⟩
  case round =>
    obtain ⟨n, hn, rfl⟩ := hrel
    have hd := Pt.differ_iff n a b (by omega) (by omega) a1 a2 b1 b2
    by_cases hlt : (n : Int) = Pt.comp a b
    · have hq : (Pt.img 3 n 0 != Pt.img 3 b (Pt.img 3 a 0)) = false ∧ (Pt.img 3 n 1 != Pt.img 3 b (Pt.img 3 a 1)) = false := by
        have : ((n : Int) == Pt.comp a b) = true := by simpa using hlt
        rw [this] at hd
        simpa [Pt.differ] using hd
      obtain ⟨q1, q2⟩ := hq
      have H := Lib.hid hlt
      clear hlt hd
      go_wp2_with fail
      refine (s_transform 3 n 0 _ (by omega) (by omega) (by omega) (by omega) (by omega) (by omega)).mono ?_
      rintro e w' ⟨rfl, rfl⟩
      go_wp2_with fail
      refine (s_transform 3 a 0 _ (by omega) (by omega) (by omega) (by omega) a1 a2).mono ?_
      rintro e w' ⟨rfl, rfl⟩
      go_wp2_with fail
      refine (s_transform 3 b _ _ (by omega) (by omega) x1 x2 b1 b2).mono ?_
      rintro e w' ⟨rfl, rfl⟩
      go_wp2_with fail
      refine (s_transform 3 n 1 _ (by omega) (by omega) (by omega) (by omega) (by omega) (by omega)).mono ?_
      rintro e w' ⟨rfl, rfl⟩
      go_wp2_with fail
      refine (s_transform 3 a 1 _ (by omega) (by omega) (by omega) (by omega) a1 a2).mono ?_
      rintro e w' ⟨rfl, rfl⟩
      go_wp2_with fail
      refine (s_transform 3 b _ _ (by omega) (by omega) y1 y2 b1 b2).mono ?_
      rintro e w' ⟨rfl, rfl⟩
      go_wp2_with fail
      go_ret
      exact ⟨ret_int H.out, rfl⟩
    · by_cases q1 : (Pt.img 3 n 0 != Pt.img 3 b (Pt.img 3 a 0)) = true
      · clear hd
        go_wp2_with fail
        refine (s_transform 3 n 0 _ (by omega) (by omega) (by omega) (by omega) (by omega) (by omega)).mono ?_
        rintro e w' ⟨rfl, rfl⟩
        go_wp2_with fail
        refine (s_transform 3 a 0 _ (by omega) (by omega) (by omega) (by omega) a1 a2).mono ?_
        rintro e w' ⟨rfl, rfl⟩
        go_wp2_with fail
        refine (s_transform 3 b _ _ (by omega) (by omega) x1 x2 b1 b2).mono ?_
        rintro e w' ⟨rfl, rfl⟩
        go_wp2_with fail
        go_round
        case rel => exact ⟨n + 1, by omega, by go_num⟩
        case measure => simp [intOf]; omega
      · have q1' : (Pt.img 3 n 0 != Pt.img 3 b (Pt.img 3 a 0)) = false := by simpa using q1
        have q2 : (Pt.img 3 n 1 != Pt.img 3 b (Pt.img 3 a 1)) = true := by
          have : ((n : Int) == Pt.comp a b) = false := by simpa using hlt
          rw [this, Pt.differ, q1'] at hd
          simpa using hd
        clear hd q1
        go_wp2_with fail
        refine (s_transform 3 n 0 _ (by omega) (by omega) (by omega) (by omega) (by omega) (by omega)).mono ?_
        rintro e w' ⟨rfl, rfl⟩
        go_wp2_with fail
        refine (s_transform 3 a 0 _ (by omega) (by omega) (by omega) (by omega) a1 a2).mono ?_
        rintro e w' ⟨rfl, rfl⟩
        go_wp2_with fail
        refine (s_transform 3 b _ _ (by omega) (by omega) x1 x2 b1 b2).mono ?_
        rintro e w' ⟨rfl, rfl⟩
        go_wp2_with fail
        refine (s_transform 3 n 1 _ (by omega) (by omega) (by omega) (by omega) (by omega) (by omega)).mono ?_
        rintro e w' ⟨rfl, rfl⟩
        go_wp2_with fail
        refine (s_transform 3 a 1 _ (by omega) (by omega) (by omega) (by omega) a1 a2).mono ?_
        rintro e w' ⟨rfl, rfl⟩
        go_wp2_with fail
        refine (s_transform 3 b _ _ (by omega) (by omega) y1 y2 b1 b2).mono ?_
        rintro e w' ⟨rfl, rfl⟩
        go_wp2_with fail
        go_round
        case rel => exact ⟨n + 1, by omega, by go_num⟩
        case measure => simp [intOf]; omega

theorem s_comp (a b : Int) (w : World) : Calls Try.prog 24 #[.int .i64 a, .int .i64 b] w fun e w' => e = .returned (.int .i64 (Pt.comp a b)) ∧ w = w' := by
  by_cases ha : Pt.okK a = true
  · by_cases hb : Pt.okK b = true
    · obtain ⟨a1, a2⟩ := (Pt.okK_iff a).1 ha
      obtain ⟨b1, b2⟩ := (Pt.okK_iff b).1 hb
      exact s_comp_in a b w a1 a2 b1 b2
    · have hb' : Pt.okK b = false := by simpa using hb
      have hfin : Pt.comp a b = -1 := by rw [Pt.comp, ha, hb']; rfl
      have H := Lib.hid hfin
      clear hfin
      go_enter Try.func24, Try.ntmps24
      go_wp2_with fail
      refine (s_rangeK _ _).mono ?_
      rintro e w' ⟨rfl, rfl⟩
      go_wp2_with fail
      refine (s_rangeK _ _).mono ?_
      rintro e w' ⟨rfl, rfl⟩
      go_wp2_with fail
      go_ret
      exact ⟨ret_int H.out.symm, rfl⟩
  · have ha' : Pt.okK a = false := by simpa using ha
    have hfin : Pt.comp a b = -1 := by rw [Pt.comp, ha']; rfl
    have H := Lib.hid hfin
    clear hfin
    go_enter Try.func24, Try.ntmps24
    go_wp2_with fail
    refine (s_rangeK _ _).mono ?_
    rintro e w' ⟨rfl, rfl⟩
    go_wp2_with fail
    go_ret
    exact ⟨ret_int H.out.symm, rfl⟩
end Go.Proofs.Ytdkmedlffphmdaa
