/-
  The model's heat of a switch, and its choice of the hottest switch that is not taken.
-/
import Derived.Test.YtjolappndbmmaaaHoU
import Derived.Test.YtjolappndbmmaaaWordsB
namespace Go.Proofs.Ytjolappndbmmaaa
set_option maxRecDepth 100000
open Go.RowKit

theorem Sws.one (w : World) (l r : Int) : Sws (w.alloc (.cells #[.int .i64 l, .int .i64 r] 39)) (w.alloc (.cells #[.int .i64 l, .int .i64 r] 39)).heap.size (some ⟨w.heap.size, 0, none⟩) 1 [(l, r)] := by
  have hx := Bx.new 39 w l (.int .i64 r)
  refine ⟨rfl, .inr ⟨_, _, rfl, hx.lt, fun j hj => ?_⟩⟩
  obtain rfl : j = 0 := by omega
  exact ⟨hx.cell0, hx.cell1⟩
theorem Sw.one_all (l r : Int) : (Sw.all [(l, r)] && decide (1 ≤ 6)) = Sw.ok l r := by simp [Sw.all]
theorem s_heatV (l r : Int) (w : World) (ho : Sw.ok l r = true) : Calls Try.prog 78 #[.agg #[.int .i64 l, .int .i64 r]] w fun e w' => e = .returned (.int .i64 (l - r)) ∧ Below w.heap.size w w' := by
  have Hr := Lib.hid ho
  obtain ⟨o1, o2, o3⟩ := Sw.ok_iff.1 ho
  clear ho
  obtain ⟨y, hy⟩ : ∃ y, w.alloc (.cells #[.int .i64 l, .int .i64 r] 39) = y := ⟨_, rfl⟩
  have X : Bx 39 y w.heap.size l (.int .i64 r) := by rw [← hy]; exact Bx.new _ _ _ _
  have hb : Below w.heap.size w y := by rw [← hy]; exact (Below.refl _ _).alloc (Nat.le_refl _) _
  have hyz : y.heap.size = w.heap.size + 1 := by rw [← hy]; simp
  have Hy := Lib.hid hy
  have x0 := X.cell0
  have x1 := X.cell1
  have xl := X.lt
  have HX := Lib.hid X
  have Hb := Lib.hid hb
  have Hs := Lib.hid (Sws.one y l r)
  have Hb2 := Lib.hid (show Below w.heap.size w (y.alloc (.cells #[.int .i64 l, .int .i64 r] 39)) from hb.alloc (by omega) _)
  have HX2 := Lib.hid (X.alloc (.cells #[.int .i64 l, .int .i64 r] 39))
  clear hy X hb
  go_enter Try.func78, Try.ntmps78
  go_wp2_with fail
  rw [Hy.out]
  go_wp2_with fail
  have hvs := (s_vsw _ _ _ 1 1 _ Hs.out (by omega))
  rw [hyz] at hvs
  have hvs2 := hvs
  refine hvs2.mono ?_
  rintro e w3 ⟨rfl, hb3⟩
  rw [Sw.one_all, Hr.out]
  have HX3 := HX2.out.below hb3 (by simp; omega)
  have Hb3 := Lib.hid (Hb2.out.trans (hb3.mono (by simp; omega)))
  have x30 := HX3.cell0
  have x31 := HX3.cell1
  have x3l := HX3.lt
  clear hvs hvs2 hb3 HX3 x0 x1 xl
  go_wp2_with fail
  go_ret
  exact ⟨rfl, Hb3.out⟩

/-- The best index below k that is not taken, or -1. -/
def HB (H : Int → Int) (S : List Bool) (k : Nat) (v : Int) : Prop :=
  (v = -1 ∧ ∀ j, j < k → S.getD j false = true) ∨ (∃ a : Nat, v = (a : Int) ∧ a < k ∧ S.getD a false = false ∧ ∀ j : Nat, j < k → S.getD j false = false → j ≠ a → Ho.R H (a : Int) (j : Int))
theorem HB.skip {H : Int → Int} {S : List Bool} {k : Nat} {v : Int} (h : HB H S k v) (hk : S.getD k false = true) : HB H S (k + 1) v := by
  rcases h with ⟨rfl, h⟩ | ⟨a, rfl, h1, h2, h3⟩
  · refine .inl ⟨rfl, fun j hj => ?_⟩
    by_cases e : j = k
    · rw [e]; exact hk
    · exact h j (by omega)
  · refine .inr ⟨a, rfl, by omega, h2, fun j hj hs hne => ?_⟩
    by_cases e : j = k
    · rw [e, hk] at hs; exact absurd hs (by decide)
    · exact h3 j (by omega) hs hne
theorem HB.first {H : Int → Int} {S : List Bool} {k : Nat} (h : HB H S k (-1)) (hk : S.getD k false = false) : HB H S (k + 1) (k : Int) := by
  rcases h with ⟨_, h⟩ | ⟨a, ha, _⟩
  · refine .inr ⟨k, rfl, by omega, hk, fun j hj hs hne => ?_⟩
    have := h j (by omega)
    rw [this] at hs; exact absurd hs (by decide)
  · omega
theorem HB.better {H : Int → Int} {S : List Bool} {k a : Nat} (h : HB H S k (a : Int)) (hk : S.getD k false = false) (hH : H (a : Int) < H (k : Int)) : HB H S (k + 1) (k : Int) := by
  rcases h with ⟨h, _⟩ | ⟨a', ha, h1, h2, h3⟩
  · omega
  · obtain rfl : a = a' := by omega
    refine .inr ⟨k, rfl, by omega, hk, fun j hj hs hne => ?_⟩
    by_cases e : j = a
    · rw [e]; exact .inl hH
    · have := h3 j (by omega) hs e
      unfold Ho.R at this ⊢
      omega
theorem HB.worse {H : Int → Int} {S : List Bool} {k a : Nat} (h : HB H S k (a : Int)) (hH : ¬ H (a : Int) < H (k : Int)) : HB H S (k + 1) (a : Int) := by
  rcases h with ⟨h, _⟩ | ⟨a', ha, h1, h2, h3⟩
  · omega
  · obtain rfl : a = a' := by omega
    refine .inr ⟨a, rfl, by omega, h2, fun j hj hs hne => ?_⟩
    by_cases e : j = k
    · rw [e]; unfold Ho.R; omega
    · exact h3 j (by omega) hs hne
theorem HB.lt {H : Int → Int} {S : List Bool} {k a : Nat} (h : HB H S k (a : Int)) : a < k := by
  rcases h with ⟨h, _⟩ | ⟨a', ha, h1, _⟩ <;> omega

set_option maxRecDepth 100000 in
set_option maxHeartbeats 4000000 in
theorem s_hottest (w : World) (B : Nat) (A : Option Addr) (n c gt ct : Nat) (ls : List (Int × Int)) (S : List Bool) (h : Sws w B A n ls) (hall : Sw.all ls = true) (hS : Bl w gt S) (hSl : S.length = n) (hn : n ≤ 6) :
    Calls Try.prog 62 #[.slice A n c, .slice (some ⟨gt, 0, none⟩) n ct] w fun e w' => ∃ v, e = .returned (.int .i64 v) ∧ HB (Ho.heat ls) S n v ∧ Below w.heap.size w w' := by
  have H := Lib.hid h
  have HSb := Lib.hid hS
  have Hall := Lib.hid hall
  have hll := h.1
  clear h hS hall
  go_enter Try.func62, Try.ntmps62
  go_wp2_with fail
  go_loopg [5, 6] (n + 1) (fun q v u wr => ∃ (k : Nat) (a : Int), k + q = n + 1 ∧ k ≤ n ∧ v = .int .i64 a ∧ u = .int .i64 (k : Nat) ∧ HB (Ho.heat ls) S k a ∧ Below w.heap.size w wr)
  case atStart => exact ⟨0, -1, by omega, by omega, rfl, rfl, .inl ⟨rfl, fun j hj => by omega⟩, Below.refl _ _⟩
  case round =>
    obtain ⟨k, a, hk, hkn, rfl, rfl, hb1, hb⟩ := hrel
    obtain ⟨wi, rfl⟩ : ∃ wi : World, wi = wr := ⟨_, rfl⟩
    have Hh := Lib.hid hb1
    have Hb := Lib.hid hb
    have Hsw := Lib.hid (H.out.below hb)
    have HBl := Lib.hid (HSb.out.below hb HSb.out.lt)
    clear hb1 hb
    by_cases hkk : k = n
    · have hlt : ¬ ((k : Nat) : Int) < n := by omega
      subst hkk
      go_wp2_with fail
      go_ret
      exact ⟨_, rfl, Hh.out, Hb.out⟩
    · have hlt : ((k : Nat) : Int) < n := by omega
      have hk0 : (0 : Int) ≤ (k : Nat) := by omega
      have ct0 := HBl.out.cell (j := k) (by omega)
      obtain ⟨bk, hbk⟩ : ∃ x, S.getD k false = x := ⟨_, rfl⟩
      rw [hbk] at ct0
      cases bk with
      | true =>
        have Hn := Lib.hid (Hh.out.skip hbk)
        clear hbk
        go_wp2_with fail
        go_quiet (fail)
        go_wp2_with fail
        go_roundg (n - k)
        case measure => omega
        case rel => exact ⟨k + 1, a, by omega, by omega, rfl, by go_num, Hn.out, Hb.out.os, Hb.out.tape, Hb.out.output, Hb.out.size, Hb.out.block⟩
      | false =>
        by_cases ha : a = -1
        · subst ha
          have Hn := Lib.hid (Hh.out.first hbk)
          clear hbk
          go_wp2_with fail
          go_quiet (fail)
          go_wp2_with fail
          go_roundg (n - k)
          case measure => omega
          case rel => exact ⟨k + 1, (k : Int), by omega, by omega, rfl, by go_num, Hn.out, Hb.out.os, Hb.out.tape, Hb.out.output, Hb.out.size, Hb.out.block⟩
        · obtain ⟨an, rfl⟩ : ∃ an : Nat, a = (an : Int) := by
            rcases Hh.out with ⟨h, _⟩ | ⟨x, hx, _⟩
            · exact absurd h ha
            · exact ⟨x, hx⟩
          have hank := Hh.out.lt
          have han0 : ¬ ((an : Nat) : Int) < 0 := by omega
          have han1 : ((an : Nat) : Int) < n := by omega
          have han2 : (0 : Int) ≤ (an : Nat) := by omega
          rcases Hsw.out.2 with h0 | ⟨b, o, rfl, hbB, hc⟩
          · omega
          · obtain ⟨ck0, ck1⟩ := hc k (by omega)
            obtain ⟨ca0, ca1⟩ := hc an (by omega)
            have hok := Sw.all_iff.1 Hall.out k (by omega)
            have hoa := Sw.all_iff.1 Hall.out an (by omega)
            obtain ⟨⟨lk, rk⟩, hlk⟩ : ∃ x, ls.getD k (0, 0) = x := ⟨_, rfl⟩
            obtain ⟨⟨la, ra⟩, hla⟩ : ∃ x, ls.getD an (0, 0) = x := ⟨_, rfl⟩
            rw [hlk] at ck0 ck1 hok
            rw [hla] at ca0 ca1 hoa
            simp only at ck0 ck1 ca0 ca1 hok hoa
            have hHk : Ho.heat ls (k : Int) = lk - rk := by unfold Ho.heat; rw [Int.toNat_natCast, hlk]
            have hHa : Ho.heat ls (an : Int) = la - ra := by unfold Ho.heat; rw [Int.toNat_natCast, hla]
            obtain ⟨hk', hhk⟩ : ∃ x, lk - rk = x := ⟨_, rfl⟩
            obtain ⟨ha', hha⟩ : ∃ x, la - ra = x := ⟨_, rfl⟩
            have Kk := Lib.hid hhk
            have Ka := Lib.hid hha
            have Ok := Lib.hid hok
            have Oa := Lib.hid hoa
            have HC := Lib.hid (Below.refl wi.heap.size wi)
            rw [hhk] at hHk
            rw [hha] at hHa
            have Hbet := Lib.hid (fun hl : ha' < hk' => Hh.out.better hbk (by rw [hHk, hHa]; exact hl))
            have Hwor := Lib.hid (fun hl : ¬ ha' < hk' => HB.worse (k := k) Hh.out (by rw [hHk, hHa]; exact hl))
            clear hc hhk hha hok hoa hlk hla hHk hHa hbk
            by_cases hl : ha' < hk'
            · have Hn := Lib.hid (Hbet.out hl)
              go_wp2_with fail
              go_cut [34] (fun v wx => v = .bool true ∧ Below wi.heap.size wi wx)
              case first =>
                go_region_held3 (fun w' => w'.cell? ⟨gt, k, none⟩ = some (.bool false) ∧ w'.cell? ⟨b, o + k * 2, none⟩ = some (.int .i64 lk) ∧ w'.cell? ⟨b, o + k * 2 + 1, none⟩ = some (.int .i64 rk) ∧ w'.cell? ⟨b, o + an * 2, none⟩ = some (.int .i64 la) ∧ w'.cell? ⟨b, o + an * 2 + 1, none⟩ = some (.int .i64 ra)) (first | exact ⟨ct0, ck0, ck1, ca0, ca1⟩ | go_keep) (first | (go_at_call 78; (with_reducible show Calls _ _ #[.agg #[.int .i64 lk, .int .i64 rk]] _ _); refine (s_heatV lk rk _ Ok.out).mono ?_; rintro e yc ⟨rfl, hb9⟩; (try replace hb9 := undrew hb9); have HC := Lib.hid (bstep HC.out hb9); rw [Kk.out]; have ct0 := cell_below (by exact ct0) hb9; have ck0 := cell_below (by exact ck0) hb9; have ck1 := cell_below (by exact ck1) hb9; have ca0 := cell_below (by exact ca0) hb9; have ca1 := cell_below (by exact ca1) hb9; clear hb9) | (go_at_call 78; (with_reducible show Calls _ _ #[.agg #[.int .i64 la, .int .i64 ra]] _ _); refine (s_heatV la ra _ Oa.out).mono ?_; rintro e yc ⟨rfl, hb9⟩; (try replace hb9 := undrew hb9); have HC := Lib.hid (bstep HC.out hb9); rw [Ka.out]; have ct0 := cell_below (by exact ct0) hb9; have ck0 := cell_below (by exact ck0) hb9; have ck1 := cell_below (by exact ck1) hb9; have ca0 := cell_below (by exact ca0) hb9; have ca1 := cell_below (by exact ca1) hb9; clear hb9))
                all_goals go_wp2_with fail
                all_goals go_meet
                all_goals exact ⟨by first | rfl | (rw [decide_eq_true hl]; rfl), HC.out⟩
              case rest =>
                obtain ⟨rfl, hbx⟩ := hcut
                have Hbn := Lib.hid (bstep Hb.out hbx)
                clear hbx
                go_wp2_with fail
                go_roundg (n - k)
                case measure => omega
                case rel => exact ⟨k + 1, (k : Int), by omega, by omega, rfl, by go_num, Hn.out, Hbn.out⟩
            · have Hn := Lib.hid (Hwor.out hl)
              go_wp2_with fail
              go_cut [34] (fun v wx => v = .bool false ∧ Below wi.heap.size wi wx)
              case first =>
                go_region_held3 (fun w' => w'.cell? ⟨gt, k, none⟩ = some (.bool false) ∧ w'.cell? ⟨b, o + k * 2, none⟩ = some (.int .i64 lk) ∧ w'.cell? ⟨b, o + k * 2 + 1, none⟩ = some (.int .i64 rk) ∧ w'.cell? ⟨b, o + an * 2, none⟩ = some (.int .i64 la) ∧ w'.cell? ⟨b, o + an * 2 + 1, none⟩ = some (.int .i64 ra)) (first | exact ⟨ct0, ck0, ck1, ca0, ca1⟩ | go_keep) (first | (go_at_call 78; (with_reducible show Calls _ _ #[.agg #[.int .i64 lk, .int .i64 rk]] _ _); refine (s_heatV lk rk _ Ok.out).mono ?_; rintro e yc ⟨rfl, hb9⟩; (try replace hb9 := undrew hb9); have HC := Lib.hid (bstep HC.out hb9); rw [Kk.out]; have ct0 := cell_below (by exact ct0) hb9; have ck0 := cell_below (by exact ck0) hb9; have ck1 := cell_below (by exact ck1) hb9; have ca0 := cell_below (by exact ca0) hb9; have ca1 := cell_below (by exact ca1) hb9; clear hb9) | (go_at_call 78; (with_reducible show Calls _ _ #[.agg #[.int .i64 la, .int .i64 ra]] _ _); refine (s_heatV la ra _ Oa.out).mono ?_; rintro e yc ⟨rfl, hb9⟩; (try replace hb9 := undrew hb9); have HC := Lib.hid (bstep HC.out hb9); rw [Ka.out]; have ct0 := cell_below (by exact ct0) hb9; have ck0 := cell_below (by exact ck0) hb9; have ck1 := cell_below (by exact ck1) hb9; have ca0 := cell_below (by exact ca0) hb9; have ca1 := cell_below (by exact ca1) hb9; clear hb9))
                all_goals go_wp2_with fail
                all_goals go_meet
                all_goals exact ⟨by have e9 : decide (ha' < hk') = false := decide_eq_false (by omega); rw [e9]; rfl, HC.out⟩
              case rest =>
                obtain ⟨rfl, hbx⟩ := hcut
                have Hbn := Lib.hid (bstep Hb.out hbx)
                clear hbx
                go_wp2_with fail
                go_roundg (n - k)
                case measure => omega
                case rel => exact ⟨k + 1, (an : Int), by omega, by omega, rfl, by go_num, Hn.out, Hbn.out⟩
end Go.Proofs.Ytjolappndbmmaaa
