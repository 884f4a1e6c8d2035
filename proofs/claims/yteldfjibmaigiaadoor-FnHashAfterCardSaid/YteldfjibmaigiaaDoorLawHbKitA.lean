/-
  Texts that a law stands on: Any, Step, DrawLI, DrF, DrB, PureBt, Tz, PureBg, Bits, BitsB, PureOc, Ones, PureMk, Pos, Rec, Aro, PlayI, PureUn, Grw, GrwI, EyeI, EyeC, EyeE, EyeP, SpecB, Dia, EyeS, EyeT, EyeU, PlayU, PlBd, PlSt.
-/
import Derived.Test.YteldfjibmaigiaaDoorRand
import Derived.Test.YteldfjibmaigiaaDoorLists
import Derived.Lib.TrailingZeros
import Derived.Test.YteldfjibmaigiaaDoorBase
import Derived.Laws.BitsAllLaws
import Derived.Lib.LaidTab
import Derived.Test.YteldfjibmaigiaaDoorPurePt
import Derived.Test.YteldfjibmaigiaaDoorWords
import Derived.LoopTactic
import Derived.RegionTactic
import Derived.Laws.BitsLemmas
import Derived.Test.YteldfjibmaigiaaDoorBoardX
import Derived.Deep.RegionWith
import Derived.Deep.DeepCutAuto
import Derived.Deep.QuietTactic
import Derived.BigQuiet
import Derived.Test.YteldfjibmaigiaaDoorPureFl
import Derived.Test.YteldfjibmaigiaaDoorRmPure
import Derived.Test.YteldfjibmaigiaaDoorSortP
import Derived.Test.YteldfjibmaigiaaDoorFactPt
import Derived.Test.YteldfjibmaigiaaDoorWordsB
import Derived.Test.YteldfjibmaigiaaDoorNbSpec
import Derived.Test.YteldfjibmaigiaaDoorSpecA
import Derived.Test.YteldfjibmaigiaaDoorBoardI
import Derived.Test.YteldfjibmaigiaaDoorPlayP
import Derived.Test.YteldfjibmaigiaaDoorMarks
import Derived.Test.YteldfjibmaigiaaDoorRows2
namespace Go.Proofs.YteldfjibmaigiaaDoor
set_option maxRecDepth 100000
open Go.RowKit

/-- The slice at A of n elements reads as the ints xs, and its memory lies from block lo on. -/
def IntsF (w : World) (lo : Nat) (A : Option Addr) (n : Nat) (xs : List Int) : Prop :=
  xs.length = n ∧ (n = 0 ∨ ∃ b o, A = some ⟨b, o, none⟩ ∧ lo ≤ b ∧ b < w.heap.size ∧ ∀ j, j < n → w.cell? ⟨b, o + j, none⟩ = some (.int .i64 (xs.getD j 0)))
theorem IntsF.ints {w : World} {lo n : Nat} {A : Option Addr} {xs : List Int} (h : IntsF w lo A n xs) : Ints w w.heap.size A n xs := by
  refine ⟨h.1, ?_⟩
  rcases h.2 with h | ⟨b, o, hA, _, hb, hc⟩
  · exact .inl h
  · exact .inr ⟨b, o, hA, hb, hc⟩
theorem IntsF.of {w : World} {lo n c : Nat} {A : Option Addr} {xs : List Int} (h : Own w lo A n c xs) : IntsF w lo A n xs := by
  refine ⟨h.1, ?_⟩
  rcases h.ints.2 with h0 | ⟨b, o, hA, hb, hc⟩
  · exact .inl h0
  · by_cases hn : n = 0
    · exact .inl hn
    · obtain ⟨g, cap, hv, hg, hlt⟩ := World.ownsRow.form h.2 (by omega)
      have hA2 : A = some ⟨g, 0, none⟩ := by injection hv
      have : b = g := by rw [hA] at hA2; injection hA2 with e; injection e
      exact .inr ⟨b, o, hA, by omega, hb, hc⟩
theorem IntsF.weaken {w : World} {lo lo' n : Nat} {A : Option Addr} {xs : List Int} (h : IntsF w lo A n xs) (hl : lo' ≤ lo) : IntsF w lo' A n xs := by
  refine ⟨h.1, ?_⟩
  rcases h.2 with h | ⟨b, o, hA, h1, h2, hc⟩
  · exact .inl h
  · exact .inr ⟨b, o, hA, by omega, h2, hc⟩
theorem IntsF.far {w : World} {lo n : Nat} {A : Option Addr} {xs : List Int} (h : IntsF w lo A n xs) (p : Addr) (hp : p.block < lo) (u : Value) : IntsF (w.setCell p u) lo A n xs := by
  refine ⟨h.1, ?_⟩
  rcases h.2 with h | ⟨b, o, hA, h1, h2, hc⟩
  · exact .inl h
  · exact .inr ⟨b, o, hA, h1, by simpa [World.setCell] using h2, fun j hj => (World.cell?_of_block (w' := w.setCell p u) (w := w) (a := ⟨b, o + j, none⟩) (Below.heap_setCell w p u b (by omega))).trans (hc j hj)⟩
theorem IntsF.grown {w w' : World} {lo n g : Nat} {A : Option Addr} {xs : List Int} (h : IntsF w lo A n xs) (hg : w.grownBy w' (some g)) (hl : g < lo) : IntsF w' lo A n xs := by
  refine ⟨h.1, ?_⟩
  rcases h.2 with h | ⟨b, o, hA, h1, h2, hc⟩
  · exact .inl h
  · exact .inr ⟨b, o, hA, h1, Nat.lt_of_lt_of_le h2 hg.size, fun j hj => (World.cell?_of_block (w' := w') (w := w) (a := ⟨b, o + j, none⟩) (hg.block b h2 (fun e => by have := Option.some.inj e; omega))).trans (hc j hj)⟩
theorem IntsF.below {w w' : World} {lo n : Nat} {A : Option Addr} {xs : List Int} (h : IntsF w lo A n xs) (hb : Below w.heap.size w w') : IntsF w' lo A n xs := by
  refine ⟨h.1, ?_⟩
  rcases h.2 with h | ⟨b, o, hA, h1, h2, hc⟩
  · exact .inl h
  · exact .inr ⟨b, o, hA, h1, Nat.lt_of_lt_of_le h2 hb.size, fun j hj => (World.cell?_of_block (w' := w') (w := w) (a := ⟨b, o + j, none⟩) (hb.block b h2)).trans (hc j hj)⟩
theorem IntsF.tail {w : World} {lo n b o : Nat} {xs : List Int} (h : IntsF w lo (some ⟨b, o, none⟩) (n + 1) xs) : IntsF w lo (some ⟨b, o + 1, none⟩) n xs.tail := by
  refine ⟨by rw [List.length_tail, h.1]; rfl, ?_⟩
  rcases h.2 with h0 | ⟨b', o', hA, h1, h2, hc⟩
  · omega
  · injection hA with hA
    injection hA with e1 e2
    subst e1; subst e2
    refine .inr ⟨b, o + 1, rfl, h1, h2, fun j hj => ?_⟩
    have := hc (j + 1) (by omega)
    rw [show o + 1 + j = o + (j + 1) by omega, this]
    cases xs <;> simp [List.getD_eq_getElem?_getD]

theorem Own.cap_le {w : World} {B n c : Nat} {A : Option Addr} {xs : List Int} (h : Own w B A n c xs) : n ≤ c := by
  rcases h.2.2 with ⟨e, _⟩ | ⟨g, cap, cur, e, _, _, h, _⟩
  · injection e with _ e1 e2; omega
  · injection e with _ _ e2; omega

/-- A board that a draw made: of any size from 0 to 8, any cells, at most 49. -/
def DrawnA (w : World) (B g lo q : Nat) (e : Ending) (w' : World) : Prop :=
  ∃ (s : Int) (A : Option Addr) (n c : Nat) (cs : List Int) (q' : Nat), e = .returned (.agg #[.int .i64 s, .slice A n c]) ∧ IntsF w' lo A n cs ∧ n ≤ 49 ∧ 0 ≤ s ∧ s ≤ 8 ∧ Rdr w' B g q' ∧ q' ≤ q ∧ w.grownBy w' (some g)

set_option maxRecDepth 100000 in
set_option maxHeartbeats 8000000 in
theorem r_any (B g q : Nat) (w : World) (h : Rdr w B g q) (hq : q ≤ 1000000000) :
    Calls Tryd.prog 24 #[.pointer (some ⟨g, 0, none⟩)] w fun e w' => DrawnA w B g w.heap.size (q + 202) e w' := by
  have hlt := h.lt
  have hb1 : Below w.heap.size w (w.alloc (.cells #[.int .i64 0, .slice none 0 0] 25)) := (Below.refl _ _).alloc (Nat.le_refl _) _
  have X2 := Lib.hid (Bx.new 25 w 0 (.slice none 0 0))
  have Hr := Lib.hid (h.below hb1 hlt)
  have Hb := Lib.hid hb1
  have hsz : (w.alloc (.cells #[.int .i64 0, .slice none 0 0] 25)).heap.size = w.heap.size + 1 := by simp
  have Hsz := Lib.hid hsz
  clear h hb1 hsz
  go_enter Tryd.func24, Tryd.ntmps24
  go_wp2_with fail
  refine (r_random B g q _ Hr.out (by omega)).mono ?_
  rintro e y ⟨s, A, n, c, cs, q1, rfl, ho, hv, hr, hq1, hg⟩
  rw [Hsz.out] at ho
  have X2 := Lib.hid (X2.out.grown hg (fun e => by have := Option.some.inj e; omega))
  have Hg := Lib.hid (gtrans (gbelow (some g) Hb.out (Nat.le_refl _)) hg)
  have Hr := Lib.hid hr
  obtain ⟨s1, s2, hsn, _⟩ := (Bd.okB_iff s cs).1 hv
  have hsq := Pt.sq_bd s s1 s2
  have hl := ho.1
  have hn49 : n ≤ 49 := by omega
  have hn1 : 1 ≤ n := by omega
  have z2 := X2.out.lt
  obtain ⟨ga, cap, hvv, _⟩ := World.ownsRow.form ho.2 (by omega)
  have hA : A = some ⟨ga, 0, none⟩ := by injection hvv
  subst hA
  have hga := ho.ge rfl
  have Ho := Lib.hid ho
  have hcap : n ≤ c := ho.cap_le
  clear hr hg hsn hl hv ho Hb hvv
  go_upto_region 2 with (fail)
  obtain ⟨y3, hy3, hb3, z3, z4⟩ := new_box y (.cells #[.int .i64 s, .slice (some ⟨ga, 0, none⟩) n c] 25)
  have X3 : Hid (Bx 25 y3 y.heap.size s (.slice (some ⟨ga, 0, none⟩) n c)) := Lib.hid (by rw [hy3]; exact Bx.new _ _ _ _)
  rw [← hy3]
  clear hy3
  have X2 := Lib.hid (X2.out.below hb3 X2.out.lt)
  have Hr := Lib.hid (Hr.out.below hb3 Hr.out.lt)
  have Ho := Lib.hid (Ho.out.below hb3)
  have Hg := Lib.hid (gtrans Hg.out (gbelow (some g) hb3 (Nat.le_refl _)))
  clear hb3
  go_wp2_with fail
  refine (r_pick B g q1 _ _ Hr.out (by omega)).mono ?_
  rintro e y4 ⟨x0, rfl, k1, k2, hr, hg⟩
  have X2 := Lib.hid (X2.out.grown hg (fun e => by have := Option.some.inj e; omega))
  have X3 := Lib.hid (X3.out.grown hg (fun e => by have := Option.some.inj e; omega))
  have Ho := Lib.hid (Ho.out.kept hg (fun g' hA e => by have := (Ho.out.ge hA).1; have := Option.some.inj e; omega))
  have Hg := Lib.hid (gtrans Hg.out hg)
  have Hr := Lib.hid hr
  have z5 := X3.out.lt
  clear hr hg
  by_cases h0 : x0 = 0
  · subst h0
    clear k1 k2
    have t0 := X3.out.cell0
    have t1 := X3.out.cell1
    have t2 := X3.out.lt
    have hlt4 := Hr.out.lt
    go_wp2_with fail
    have hl := Ints.lit y4 3 [0, 8, s + 1]
    refine (r_one B g (q1 + 1) _ _ [0, 8, s + 1] _ _ (Hr.out.below ((Below.refl _ _).alloc (Nat.le_refl _) _) Hr.out.lt) (by omega) hl (by simp) (by simp) (by simp) (by rintro b o e; injection e with e; injection e; omega)).mono ?_
    rintro e y5 ⟨x, rfl, hx, hr, hg⟩
    have hx8 : 0 ≤ x ∧ x ≤ 8 := by simp at hx; omega
    have hg5 := gtrans (World.grownBy_alloc y4 _ (some g)) hg
    have X2 := Lib.hid (X2.out.grown hg5 (fun e => by have := Option.some.inj e; omega))
    have X3 := Lib.hid (X3.out.grown hg5 (fun e => by have := Option.some.inj e; omega))
    have Ho := Lib.hid (Ho.out.kept hg5 (fun g' hA e => by have := (Ho.out.ge hA).1; have := Option.some.inj e; omega))
    have Hg := Lib.hid (gtrans Hg.out hg5)
    have Hr := Lib.hid hr
    clear hl hx hg hg5 hr t0 t1 t2
    have t0 := X3.out.cell0
    have t1 := X3.out.cell1
    have t2 := X3.out.lt
    have t3 := X3.out.frozen 0
    go_upto_region 9 with (fail)
    obtain ⟨y6, hy6⟩ : ∃ y6, y6 = y5.setCell ⟨y.heap.size, 0, none⟩ (.int .i64 x) := ⟨_, rfl⟩
    have hBg := Hr.out.1
    have X2 : Hid (Bx 25 y6 w.heap.size 0 (.slice none 0 0)) := Lib.hid (by rw [hy6]; exact X2.out.far (p := ⟨y.heap.size, 0, none⟩) (by show w.heap.size ≠ y.heap.size; omega) _)
    have X3 : Hid (Bx 25 y6 y.heap.size x (.slice (some ⟨ga, 0, none⟩) n c)) := Lib.hid (by rw [hy6]; exact X3.out.set0 x)
    have Ho : Hid (Own y6 (w.heap.size + 1) (some ⟨ga, 0, none⟩) n c cs) := Lib.hid (by rw [hy6]; exact Ho.out.far ⟨y.heap.size, 0, none⟩ (fun g' hA => by injection hA with hA; injection hA; show g' ≠ y.heap.size; omega) _)
    have Hr : Hid (Rdr y6 B g (q1 + 1 + 1)) := Lib.hid (by rw [hy6]; exact Hr.out.far ⟨y.heap.size, 0, none⟩ (by show g ≠ y.heap.size; omega) (by show B ≤ y.heap.size; omega) _)
    have Hg : Hid (w.grownBy y6 (some g)) := Lib.hid (by rw [hy6]; exact gset Hg.out ⟨y.heap.size, 0, none⟩ (by show w.heap.size ≤ y.heap.size; omega) _)
    rw [← hy6]
    clear hy6 t0 t1 t2 t3
    have Hi := Lib.hid (IntsF.of Ho.out)
    have K0 := Lib.hid ((X2.out.set0 x).cell0)
    have K1 := Lib.hid (((X2.out.set0 x).set1 (.slice (some ⟨ga, 0, none⟩) n c)).cell1)
    have t0 := X3.out.cell0
    have t1 := X3.out.cell1
    have t2 := X3.out.lt
    have r0 := X2.out.cell0
    have r1 := X2.out.cell1
    have r2 := X2.out.frozen 0
    have r3 := X2.out.frozen 1
    have r4 := X2.out.lt
    have hBg := Hr.out.1
    have Hr3 := Lib.hid ((Hr.out.far ⟨w.heap.size, 0, none⟩ (by show g ≠ w.heap.size; omega) (by show B ≤ w.heap.size; omega) (.int .i64 x)).far ⟨w.heap.size, 1, none⟩ (by show g ≠ w.heap.size; omega) (by show B ≤ w.heap.size; omega) (.slice (some ⟨ga, 0, none⟩) n c))
    have Hg3 := Lib.hid (gset (gset Hg.out ⟨w.heap.size, 0, none⟩ (Nat.le_refl _) (.int .i64 x)) ⟨w.heap.size, 1, none⟩ (Nat.le_refl _) (.slice (some ⟨ga, 0, none⟩) n c))
    have Hi3 := Lib.hid ((Hi.out.far ⟨w.heap.size, 0, none⟩ (Nat.lt_succ_self _) (.int .i64 x)).far ⟨w.heap.size, 1, none⟩ (Nat.lt_succ_self _) (.slice (some ⟨ga, 0, none⟩) n c))
    go_wp2_with fail
    have k0 := K0.out
    have k1 := K1.out
    refine bodyPost_ret (v := .agg #[.int .i64 x, .slice (some ⟨ga, 0, none⟩) n c]) (by simp [results, Tryd.results24, go_sem, k0, k1]) rfl ?_
    exact ⟨_, _, _, _, _, _, rfl, Hi3.out.weaken (by omega), by omega, by omega, by omega, Hr3.out, by omega, Hg3.out⟩
  · have e0 : (x0 == 0) = false := by simpa using h0
    by_cases h1 : x0 = 1
    · subst h1
      clear k1 k2 h0 e0
      obtain ⟨m, rfl⟩ : ∃ m, n = m + 1 := ⟨n - 1, by omega⟩
      obtain ⟨d, rfl⟩ : ∃ d, c = d + 1 := ⟨c - 1, by omega⟩
      have t0 := X3.out.cell0
      have t1 := X3.out.cell1
      have t2 := X3.out.lt
      have t3 := X3.out.frozen 1
      by_cases hd : d = 0
      · subst hd
        obtain rfl : m = 0 := by omega
        go_upto_region 9 with (fail)
        obtain ⟨y6, hy6⟩ : ∃ y6, y6 = y4.setCell ⟨y.heap.size, 1, none⟩ (.slice (some ⟨ga, 0, none⟩) 0 0) := ⟨_, rfl⟩
        have hBg := Hr.out.1
        have hgl := Hr.out.lt
        have X2 : Hid (Bx 25 y6 w.heap.size 0 (.slice none 0 0)) := Lib.hid (by rw [hy6]; exact X2.out.far (p := ⟨y.heap.size, 1, none⟩) (by show w.heap.size ≠ y.heap.size; omega) _)
        have X3 : Hid (Bx 25 y6 y.heap.size s (.slice (some ⟨ga, 0, none⟩) 0 0)) := Lib.hid (by rw [hy6]; exact X3.out.set1 _)
        have Ho : Hid (Own y6 (w.heap.size + 1) (some ⟨ga, 0, none⟩) (0 + 1) (0 + 1) cs) := Lib.hid (by rw [hy6]; exact Ho.out.far ⟨y.heap.size, 1, none⟩ (fun g' hA => by injection hA with hA; injection hA; show g' ≠ y.heap.size; omega) _)
        have Hr : Hid (Rdr y6 B g (q1 + 1)) := Lib.hid (by rw [hy6]; exact Hr.out.far ⟨y.heap.size, 1, none⟩ (by show g ≠ y.heap.size; omega) (by show B ≤ y.heap.size; omega) _)
        have Hg : Hid (w.grownBy y6 (some g)) := Lib.hid (by rw [hy6]; exact gset Hg.out ⟨y.heap.size, 1, none⟩ (by show w.heap.size ≤ y.heap.size; omega) _)
        rw [← hy6]
        clear hy6 t0 t1 t2 t3
        have Hi : Hid (IntsF y6 (w.heap.size + 1) (some ⟨ga, 0, none⟩) 0 []) := Lib.hid ⟨rfl, .inl rfl⟩
        have K0 := Lib.hid ((X2.out.set0 s).cell0)
        have K1 := Lib.hid (((X2.out.set0 s).set1 (.slice (some ⟨ga, 0, none⟩) 0 0)).cell1)
        have t0 := X3.out.cell0
        have t1 := X3.out.cell1
        have t2 := X3.out.lt
        have r0 := X2.out.cell0
        have r1 := X2.out.cell1
        have r2 := X2.out.frozen 0
        have r3 := X2.out.frozen 1
        have r4 := X2.out.lt
        have hBg := Hr.out.1
        have Hr3 := Lib.hid ((Hr.out.far ⟨w.heap.size, 0, none⟩ (by show g ≠ w.heap.size; omega) (by show B ≤ w.heap.size; omega) (.int .i64 s)).far ⟨w.heap.size, 1, none⟩ (by show g ≠ w.heap.size; omega) (by show B ≤ w.heap.size; omega) (.slice (some ⟨ga, 0, none⟩) 0 0))
        have Hg3 := Lib.hid (gset (gset Hg.out ⟨w.heap.size, 0, none⟩ (Nat.le_refl _) (.int .i64 s)) ⟨w.heap.size, 1, none⟩ (Nat.le_refl _) (.slice (some ⟨ga, 0, none⟩) 0 0))
        have Hi3 := Lib.hid ((Hi.out.far ⟨w.heap.size, 0, none⟩ (Nat.lt_succ_self _) (.int .i64 s)).far ⟨w.heap.size, 1, none⟩ (Nat.lt_succ_self _) (.slice (some ⟨ga, 0, none⟩) 0 0))
        go_wp2_with fail
        have k0 := K0.out
        have k1 := K1.out
        refine bodyPost_ret (v := .agg #[.int .i64 s, .slice (some ⟨ga, 0, none⟩) 0 0]) (by simp [results, Tryd.results24, go_sem, k0, k1]) rfl ?_
        exact ⟨_, _, _, _, _, _, rfl, Hi3.out.weaken (by omega), by omega, by omega, by omega, Hr3.out, by omega, Hg3.out⟩
      · have hd' : ¬ (d + 1 = 1) := by omega
        go_upto_region 9 with (fail)
        obtain ⟨y6, hy6⟩ : ∃ y6, y6 = y4.setCell ⟨y.heap.size, 1, none⟩ (.slice (some ⟨ga, 1, none⟩) m d) := ⟨_, rfl⟩
        have hBg := Hr.out.1
        have hgl := Hr.out.lt
        have X2 : Hid (Bx 25 y6 w.heap.size 0 (.slice none 0 0)) := Lib.hid (by rw [hy6]; exact X2.out.far (p := ⟨y.heap.size, 1, none⟩) (by show w.heap.size ≠ y.heap.size; omega) _)
        have X3 : Hid (Bx 25 y6 y.heap.size s (.slice (some ⟨ga, 1, none⟩) m d)) := Lib.hid (by rw [hy6]; exact X3.out.set1 _)
        have Ho : Hid (Own y6 (w.heap.size + 1) (some ⟨ga, 0, none⟩) (m + 1) (d + 1) cs) := Lib.hid (by rw [hy6]; exact Ho.out.far ⟨y.heap.size, 1, none⟩ (fun g' hA => by injection hA with hA; injection hA; show g' ≠ y.heap.size; omega) _)
        have Hr : Hid (Rdr y6 B g (q1 + 1)) := Lib.hid (by rw [hy6]; exact Hr.out.far ⟨y.heap.size, 1, none⟩ (by show g ≠ y.heap.size; omega) (by show B ≤ y.heap.size; omega) _)
        have Hg : Hid (w.grownBy y6 (some g)) := Lib.hid (by rw [hy6]; exact gset Hg.out ⟨y.heap.size, 1, none⟩ (by show w.heap.size ≤ y.heap.size; omega) _)
        rw [← hy6]
        clear hy6 t0 t1 t2 t3
        have Hi := Lib.hid (IntsF.tail (IntsF.of Ho.out))
        have K0 := Lib.hid ((X2.out.set0 s).cell0)
        have K1 := Lib.hid (((X2.out.set0 s).set1 (.slice (some ⟨ga, 1, none⟩) m d)).cell1)
        have t0 := X3.out.cell0
        have t1 := X3.out.cell1
        have t2 := X3.out.lt
        have r0 := X2.out.cell0
        have r1 := X2.out.cell1
        have r2 := X2.out.frozen 0
        have r3 := X2.out.frozen 1
        have r4 := X2.out.lt
        have hBg := Hr.out.1
        have Hr3 := Lib.hid ((Hr.out.far ⟨w.heap.size, 0, none⟩ (by show g ≠ w.heap.size; omega) (by show B ≤ w.heap.size; omega) (.int .i64 s)).far ⟨w.heap.size, 1, none⟩ (by show g ≠ w.heap.size; omega) (by show B ≤ w.heap.size; omega) (.slice (some ⟨ga, 1, none⟩) m d))
        have Hg3 := Lib.hid (gset (gset Hg.out ⟨w.heap.size, 0, none⟩ (Nat.le_refl _) (.int .i64 s)) ⟨w.heap.size, 1, none⟩ (Nat.le_refl _) (.slice (some ⟨ga, 1, none⟩) m d))
        have Hi3 := Lib.hid ((Hi.out.far ⟨w.heap.size, 0, none⟩ (Nat.lt_succ_self _) (.int .i64 s)).far ⟨w.heap.size, 1, none⟩ (Nat.lt_succ_self _) (.slice (some ⟨ga, 1, none⟩) m d))
        go_wp2_with fail
        have k0 := K0.out
        have k1 := K1.out
        refine bodyPost_ret (v := .agg #[.int .i64 s, .slice (some ⟨ga, 1, none⟩) m d]) (by simp [results, Tryd.results24, go_sem, k0, k1]) rfl ?_
        exact ⟨_, _, _, _, _, _, rfl, Hi3.out.weaken (by omega), by omega, by omega, by omega, Hr3.out, by omega, Hg3.out⟩
    · have e1 : (x0 == 1) = false := by simpa using h1
      by_cases h2 : x0 = 2
      · subst h2
        clear k1 k2 h0 h1 e0 e1
        have t0 := X3.out.cell0
        have t1 := X3.out.cell1
        have t2 := X3.out.lt
        have hlt4 := Hr.out.lt
        have hn0 : (0 : Int) < n := by omega
        go_wp2_with fail
        go_region_with (first | (go_at_call 51; refine (r_one B g (q1 + 1) _ _ [-1, 3] (y4.heap.size + 1) _ (by exact (show Rdr (y4.alloc (.cells #[.int .i64 (-1), .int .i64 3] 3)) B g (q1 + 1) from Hr.out.below ((Below.refl _ _).alloc (Nat.le_refl _) _) Hr.out.lt)) (by omega) (by exact Ints.lit y4 3 [-1, 3]) (by show y4.heap.size + 1 ≤ (y4.alloc (.cells #[.int .i64 (-1), .int .i64 3] 3)).heap.size; simp) (by simp) (by simp) (by rintro b o e; injection e with e; injection e; omega)).mono ?_; rintro e y5 ⟨x, rfl, hx, hr, hg⟩; have hg5 : y4.grownBy y5 (some g) := gtrans (World.grownBy_alloc y4 (.cells #[.int .i64 (-1), .int .i64 3] 3) (some g)) ⟨hg.os, hg.tape, hg.output, hg.size, hg.block⟩; have HX2 := Lib.hid (X2.out.grown hg5 (fun e => by have := Option.some.inj e; omega)); have HX3 := Lib.hid (X3.out.grown hg5 (fun e => by have := Option.some.inj e; omega)); have HO := Lib.hid (Ho.out.kept hg5 (fun g' hA e => by have := (Ho.out.ge hA).1; have := Option.some.inj e; omega)); have u0 := HX3.out.cell0; have u1 := HX3.out.cell1; have u2 := HX3.out.lt; have u3 := World.ownsRow.cellAt HO.out.2 0 (by omega); rw [List.getElem?_eq_getElem (by rw [List.length_map, HO.out.1]; omega)] at u3; have u4 := World.ownsRow.frozenAt HO.out.2 0; have HR := Lib.hid hr; have HG := Lib.hid (gtrans Hg.out hg5); clear hr hg hg5 hx))
        all_goals go_upto_region 9 with (fail)
        all_goals
          obtain ⟨y6, hy6⟩ : ∃ y6, y6 = y5.setCell ⟨ga, 0, none⟩ (.int .i64 x) := ⟨_, rfl⟩
          have hBg := HR.out.1
          have X2 : Hid (Bx 25 y6 w.heap.size 0 (.slice none 0 0)) := Lib.hid (by rw [hy6]; exact HX2.out.far (p := ⟨ga, 0, none⟩) (by show w.heap.size ≠ ga; omega) _)
          have X3 : Hid (Bx 25 y6 y.heap.size s (.slice (some ⟨ga, 0, none⟩) n c)) := Lib.hid (by rw [hy6]; exact HX3.out.far (p := ⟨ga, 0, none⟩) (by show y.heap.size ≠ ga; omega) _)
          have Ho : Hid (Own y6 (w.heap.size + 1) (some ⟨ga, 0, none⟩) n c (cs.set 0 x)) := Lib.hid (by rw [hy6]; exact (HO.out.stored 0 x).1)
          have Hr : Hid (Rdr y6 B g (q1 + 1 + 1)) := Lib.hid (by rw [hy6]; exact HR.out.far ⟨ga, 0, none⟩ (by show g ≠ ga; omega) (by show B ≤ ga; omega) _)
          have Hg : Hid (w.grownBy y6 (some g)) := Lib.hid (by rw [hy6]; exact gset HG.out ⟨ga, 0, none⟩ (by show w.heap.size ≤ ga; omega) _)
          rw [← hy6]
          clear hy6 u0 u1 u2 u3 u4 t0 t1 t2
          have Hi := Lib.hid (IntsF.of Ho.out)
          have K0 := Lib.hid ((X2.out.set0 s).cell0)
          have K1 := Lib.hid (((X2.out.set0 s).set1 (.slice (some ⟨ga, 0, none⟩) n c)).cell1)
          have t0 := X3.out.cell0
          have t1 := X3.out.cell1
          have t2 := X3.out.lt
          have r0 := X2.out.cell0
          have r1 := X2.out.cell1
          have r2 := X2.out.frozen 0
          have r3 := X2.out.frozen 1
          have r4 := X2.out.lt
          have hBg := Hr.out.1
          have Hr3 := Lib.hid ((Hr.out.far ⟨w.heap.size, 0, none⟩ (by show g ≠ w.heap.size; omega) (by show B ≤ w.heap.size; omega) (.int .i64 s)).far ⟨w.heap.size, 1, none⟩ (by show g ≠ w.heap.size; omega) (by show B ≤ w.heap.size; omega) (.slice (some ⟨ga, 0, none⟩) n c))
          have Hg3 := Lib.hid (gset (gset Hg.out ⟨w.heap.size, 0, none⟩ (Nat.le_refl _) (.int .i64 s)) ⟨w.heap.size, 1, none⟩ (Nat.le_refl _) (.slice (some ⟨ga, 0, none⟩) n c))
          have Hi3 := Lib.hid ((Hi.out.far ⟨w.heap.size, 0, none⟩ (Nat.lt_succ_self _) (.int .i64 s)).far ⟨w.heap.size, 1, none⟩ (Nat.lt_succ_self _) (.slice (some ⟨ga, 0, none⟩) n c))
          go_wp2_with fail
          have k0 := K0.out
          have k1 := K1.out
          refine bodyPost_ret (v := .agg #[.int .i64 s, .slice (some ⟨ga, 0, none⟩) n c]) (by simp [results, Tryd.results24, go_sem, k0, k1]) rfl ?_
          exact ⟨_, _, _, _, _, _, rfl, Hi3.out.weaken (by omega), by omega, by omega, by omega, Hr3.out, by omega, Hg3.out⟩
      · have e2 : (x0 == 2) = false := by simpa using h2
        clear h0 h1 h2
        have Hi := Lib.hid (IntsF.of Ho.out)
        have K0 := Lib.hid ((X2.out.set0 s).cell0)
        have K1 := Lib.hid (((X2.out.set0 s).set1 (.slice (some ⟨ga, 0, none⟩) n c)).cell1)
        have t0 := X3.out.cell0
        have t1 := X3.out.cell1
        have t2 := X3.out.lt
        have r0 := X2.out.cell0
        have r1 := X2.out.cell1
        have r2 := X2.out.frozen 0
        have r3 := X2.out.frozen 1
        have r4 := X2.out.lt
        have hBg := Hr.out.1
        have Hr3 := Lib.hid ((Hr.out.far ⟨w.heap.size, 0, none⟩ (by show g ≠ w.heap.size; omega) (by show B ≤ w.heap.size; omega) (.int .i64 s)).far ⟨w.heap.size, 1, none⟩ (by show g ≠ w.heap.size; omega) (by show B ≤ w.heap.size; omega) (.slice (some ⟨ga, 0, none⟩) n c))
        have Hg3 := Lib.hid (gset (gset Hg.out ⟨w.heap.size, 0, none⟩ (Nat.le_refl _) (.int .i64 s)) ⟨w.heap.size, 1, none⟩ (Nat.le_refl _) (.slice (some ⟨ga, 0, none⟩) n c))
        have Hi3 := Lib.hid ((Hi.out.far ⟨w.heap.size, 0, none⟩ (Nat.lt_succ_self _) (.int .i64 s)).far ⟨w.heap.size, 1, none⟩ (Nat.lt_succ_self _) (.slice (some ⟨ga, 0, none⟩) n c))
        go_wp2_with fail
        have k0 := K0.out
        have k1 := K1.out
        refine bodyPost_ret (v := .agg #[.int .i64 s, .slice (some ⟨ga, 0, none⟩) n c]) (by simp [results, Tryd.results24, go_sem, k0, k1]) rfl ?_
        exact ⟨_, _, _, _, _, _, rfl, Hi3.out.weaken (by omega), by omega, by omega, by omega, Hr3.out, by omega, Hg3.out⟩
end Go.Proofs.YteldfjibmaigiaaDoor

namespace Go.Proofs.YteldfjibmaigiaaDoor
set_option maxRecDepth 100000
open Go.RowKit

theorem undrew {a b : World} (h : Below a.drew.heap.size a.drew b) : Below a.heap.size a b := ⟨h.os, h.tape, h.output, h.size, h.block⟩
theorem Ints.step {w w' : World} {n : Nat} {A : Option Addr} {xs : List Int} (h : Ints w w.heap.size A n xs) (hb : Below w.heap.size w w') : Ints w' w'.heap.size A n xs := (h.below hb (Nat.le_refl _)).more hb.size
theorem Bx.step {t : TypeId} {w w' : World} {g : Nat} {s : Int} {v : Value} (h : Bx t w g s v) (hb : Below w.heap.size w w') : Bx t w' g s v := h.below hb h.lt
theorem bstep {a w w' : World} (h : Below a.heap.size a w) (hb : Below w.heap.size w w') : Below a.heap.size a w' := h.trans (hb.mono h.size)

theorem l_eqB (s : Int) (w : World) (A A' : Option Addr) (n c c' : Nat) (xs : List Int) (h : Ints w w.heap.size A n xs) (h' : Ints w w.heap.size A' n xs) (hn : n ≤ 1000000) :
    Calls Tryd.prog 9 #[.agg #[.int .i64 s, .slice A n c], .agg #[.int .i64 s, .slice A' n c']] w fun e w' => e = .returned (.bool true) ∧ Below w.heap.size w w' := by
  have hb2 : Below w.heap.size w ((w.alloc (.cells #[.int .i64 s, .slice A n c] 25)).alloc (.cells #[.int .i64 s, .slice A' n c'] 25)) := ((Below.refl _ _).alloc (Nat.le_refl _) _).alloc (by simp) _
  have H := Lib.hid (h.below hb2 (Nat.le_refl _))
  have H' := Lib.hid (h'.below hb2 (Nat.le_refl _))
  have Hb := Lib.hid hb2
  clear h h' hb2
  go_enter Tryd.func9, Tryd.ntmps9
  go_wp2_with fail
  refine (eqi_t _ _ _ _ _ n _ _ xs H.out H'.out (by omega)).mono ?_
  rintro e w' ⟨k, rfl, rfl⟩
  go_wp2_with fail
  go_ret
  exact ⟨rfl, drew_below Hb.out k⟩

theorem IsRow.below {k : IntKind} {w w' : World} {a : Option Addr} {len cap : Nat} {zs : List Int} (h : IsRow k w a len cap zs) (hb : Below w.heap.size w w') : IsRow k w' a len cap zs := by
  rcases h with h | ⟨x, hx, h1, h2, h3, h4, h5⟩
  · exact .inl h
  · refine .inr ⟨x, hx, h1, h2, h3, fun i hi => ?_, h5⟩
    have := h4 i hi
    exact (World.cell?_of_block (w := w) (a := x.add i) (hb.block _ (World.block_lt_of_cell? w _ this))).trans this

/-- What a law's draw of a board gives. -/
def DrawnL (w : World) (e : Ending) (w' : World) : Prop :=
  ∃ (s : Int) (A : Option Addr) (n c : Nat) (cs : List Int), e = .returned (.agg #[.int .i64 s, .slice A n c]) ∧ Ints w' w'.heap.size A n cs ∧ n ≤ 49 ∧ 0 ≤ s ∧ s ≤ 8 ∧ Below w.heap.size w w'
/-- The same with an int. -/
def DrawnLI (P : Int → Prop) (w : World) (e : Ending) (w' : World) : Prop :=
  ∃ (s : Int) (A : Option Addr) (n c : Nat) (cs : List Int) (x : Int), e = .returned (.tuple #[.agg #[.int .i64 s, .slice A n c], .int .i64 x]) ∧ Ints w' w'.heap.size A n cs ∧ n ≤ 49 ∧ 0 ≤ s ∧ s ≤ 8 ∧ P x ∧ Below w.heap.size w w'

end Go.Proofs.YteldfjibmaigiaaDoor

namespace Go.Proofs.YteldfjibmaigiaaDoor
set_option maxRecDepth 100000
open Go.RowKit

theorem r_anyColor (B g q : Nat) (w : World) (h : Rdr w B g q) (hq : q ≤ 1000000000000) :
    Calls Tryd.prog 25 #[.pointer (some ⟨g, 0, none⟩)] w fun e w' => Got (fun x => -1 ≤ x ∧ x ≤ 3) w B g (q + 1) e w' := by
  have hlt := h.lt
  go_enter Tryd.func25, Tryd.ntmps25
  go_wp2_with fail
  have hl := Ints.lit w 3 [1, 2, 1, 2, 1, 2, 1, 2, 1, 2, 0, 3, -1]
  refine (r_one B g q _ _ [1, 2, 1, 2, 1, 2, 1, 2, 1, 2, 0, 3, -1] _ _ (h.below ((Below.refl _ _).alloc (Nat.le_refl _) _) hlt) hq hl (by simp) (by simp) (by simp) (by rintro b o e; injection e with e; injection e; omega)).mono ?_
  rintro e w1 ⟨x, rfl, hx, hr, hw⟩
  have Hr := Lib.hid hr
  have Hw := Lib.hid (gtrans (World.grownBy_alloc w _ (some g)) hw)
  have Hx := Lib.hid hx
  clear hr hw hl hx
  go_wp2_with fail
  go_ret
  refine ⟨_, rfl, ?_, Hr.out, Hw.out⟩
  have := Hx.out
  simp at this
  omega

end Go.Proofs.YteldfjibmaigiaaDoor

namespace Go.Proofs.YteldfjibmaigiaaDoor
set_option maxRecDepth 100000
open Go.RowKit

/-- The same, and the row lies in new memory. -/
def DrawnLF (P : Int → Prop) (w : World) (e : Ending) (w' : World) : Prop :=
  ∃ (s : Int) (A : Option Addr) (n c : Nat) (cs : List Int) (x : Int) (lo : Nat), e = .returned (.tuple #[.agg #[.int .i64 s, .slice A n c], .int .i64 x]) ∧ w.heap.size ≤ lo ∧ IntsF w' lo A n cs ∧ n ≤ 49 ∧ 0 ≤ s ∧ s ≤ 8 ∧ P x ∧ Below w.heap.size w w'

end Go.Proofs.YteldfjibmaigiaaDoor

namespace Go.Proofs.YteldfjibmaigiaaDoor
set_option maxRecDepth 100000
open Go.RowKit

def DrawnLB (w : World) (e : Ending) (w' : World) : Prop :=
  ∃ (s : Int) (A : Option Addr) (n c : Nat) (cs : List Int) (x : Int) (b : Bool), e = .returned (.tuple #[.agg #[.int .i64 s, .slice A n c], .int .i64 x, .bool b]) ∧ Ints w' w'.heap.size A n cs ∧ n ≤ 49 ∧ 0 ≤ s ∧ s ≤ 8 ∧ -1 ≤ x ∧ x ≤ 8 ∧ Below w.heap.size w w'

end Go.Proofs.YteldfjibmaigiaaDoor

namespace Go.Proofs.YteldfjibmaigiaaDoor.Bt
set_option maxRecDepth 100000

/-- The points of a set below n, in ascending order. -/
def pts (m n : Nat) : List Int := ((List.range n).filter fun q => m.testBit q).map fun (q : Nat) => (q : Int)
theorem pts_yes {m j : Nat} (h : m.testBit j = true) : pts m (j + 1) = pts m j ++ [(j : Int)] := by
  unfold pts
  rw [List.range_succ, List.filter_append, List.filter_cons, h]
  simp
theorem pts_no {m j : Nat} (h : m.testBit j = false) : pts m (j + 1) = pts m j := by
  unfold pts
  rw [List.range_succ, List.filter_append, List.filter_cons, h]
  simp
theorem pts_gap {m j k : Nat} (hjk : j ≤ k) (h : ∀ i, j ≤ i → i < k → m.testBit i = false) : pts m k = pts m j := by
  induction k with
  | zero => have : j = 0 := by omega
            rw [this]
  | succ k ih =>
    by_cases e : j = k + 1
    · rw [e]
    · rw [pts_no (h k (by omega) (by omega))]
      exact ih (by omega) fun i h1 h2 => h i h1 (by omega)
theorem pts_len (m n : Nat) : (pts m n).length ≤ n := by
  unfold pts
  rw [List.length_map]
  have := List.length_filter_le (fun q => m.testBit q) (List.range n)
  simpa using this
theorem pts_ext {m m' n : Nat} (h : ∀ q, q < n → m.testBit q = m'.testBit q) : pts m n = pts m' n := by
  unfold pts
  congr 1
  exact List.filter_congr fun q hq => h q (List.mem_range.1 hq)
theorem pts_mem {m n : Nat} {x : Int} : x ∈ pts m n ↔ ∃ q : Nat, x = q ∧ q < n ∧ m.testBit q = true := by
  unfold pts
  simp only [List.mem_map, List.mem_filter, List.mem_range]
  constructor
  · rintro ⟨q, ⟨a, b⟩, rfl⟩
    exact ⟨q, rfl, a, b⟩
  · rintro ⟨q, rfl, a, b⟩
    exact ⟨q, ⟨a, b⟩, rfl⟩
theorem high {m n j : Nat} (h : m < 2 ^ n) (hj : n ≤ j) : m.testBit j = false :=
  Nat.testBit_lt_two_pow (Nat.lt_of_lt_of_le h (Nat.pow_le_pow_right (by decide) hj))
theorem pts_more {m n k : Nat} (h : m < 2 ^ n) (hk : n ≤ k) : pts m k = pts m n := pts_gap hk fun _ hi _ => high h hi

/-- The lowest bit of x. -/
theorem low {x n : Nat} (h0 : x ≠ 0) (h : x < 2 ^ n) : ∃ a, x = 2 ^ (Lib.ctz n x + 1) * a + 2 ^ Lib.ctz n x ∧ Lib.ctz n x < n := by
  obtain ⟨a, ha, hk⟩ := Lib.ctzFrom_spec n x (by omega) h
  have e : Lib.ctz n x = Lib.ctzFrom n x := by simp [Lib.ctz, h0]
  rw [e]
  refine ⟨a, ?_, hk⟩
  have : 2 ^ (Lib.ctzFrom n x + 1) * a + 2 ^ Lib.ctzFrom n x = 2 ^ Lib.ctzFrom n x * (2 * a + 1) := by
    rw [Nat.pow_succ, Nat.mul_add, Nat.mul_one, Nat.mul_assoc]
  rw [this]
  exact ha
theorem two_lt (c : Nat) : 2 ^ c < 2 ^ (c + 1) := Nat.pow_lt_pow_right (by decide) (by omega)
theorem low_bit {x n : Nat} (h0 : x ≠ 0) (h : x < 2 ^ n) : x.testBit (Lib.ctz n x) = true ∧ (∀ i, i < Lib.ctz n x → x.testBit i = false) ∧ ∀ j, (x &&& (x - 1)).testBit j = (x.testBit j && decide (Lib.ctz n x < j)) := by
  obtain ⟨a, ha, _⟩ := low h0 h
  generalize Lib.ctz n x = c at ha
  have hp := Nat.two_pow_pos c
  have e1 : ∀ j, x.testBit j = if j < c + 1 then (2 ^ c).testBit j else a.testBit (j - (c + 1)) := fun j => by
    rw [ha, Nat.testBit_two_pow_mul_add _ (two_lt c)]
  have e2 : ∀ j, (x - 1).testBit j = if j < c + 1 then (2 ^ c - 1).testBit j else a.testBit (j - (c + 1)) := fun j => by
    have : x - 1 = 2 ^ (c + 1) * a + (2 ^ c - 1) := by omega
    rw [this, Nat.testBit_two_pow_mul_add _ (by have := two_lt c; omega)]
  refine ⟨?_, fun i hi => ?_, fun j => ?_⟩
  · rw [e1, if_pos (by omega), Nat.testBit_two_pow]; simp
  · rw [e1, if_pos (by omega), Nat.testBit_two_pow]; simp; omega
  · rw [Nat.testBit_and, e1, e2]
    by_cases hj : j < c + 1
    · rw [if_pos hj, if_pos hj, Nat.testBit_two_pow, Nat.testBit_two_pow_sub_one]
      have : decide (c < j) = false := by simp; omega
      rw [this]
      by_cases hc : c = j
      · subst hc; simp
      · simp [hc]
    · rw [if_neg hj, if_neg hj]
      have : decide (c < j) = true := by simp; omega
      rw [this]; simp
theorem and_pred_lt {x : Nat} (h0 : x ≠ 0) : x &&& (x - 1) < x := Nat.lt_of_le_of_lt Nat.and_le_right (by omega)

/-- What the walk over the bits has at its k-th point: the points below k, and the bits from k on. -/
def From (m k r : Nat) : Prop := ∀ j, r.testBit j = (m.testBit j && decide (k ≤ j))
theorem From.zero (m : Nat) : From m 0 m := fun j => by simp
theorem From.done {m k r n : Nat} (h : From m k r) (h0 : r = 0) (hk : k ≤ n) : pts m k = pts m n := by
  subst h0
  refine (pts_gap hk fun i h1 _ => ?_).symm
  have := h i
  rw [Nat.zero_testBit] at this
  simp at this
  cases e : m.testBit i
  · rfl
  · exact absurd (this e) (by omega)
theorem From.step {m k r n : Nat} (h : From m k r) (h0 : r ≠ 0) (hr : r < 2 ^ n) : pts m (Lib.ctz n r + 1) = pts m k ++ [((Lib.ctz n r : Nat) : Int)] ∧ From m (Lib.ctz n r + 1) (r &&& (r - 1)) ∧ Lib.ctz n r < n ∧ k ≤ Lib.ctz n r := by
  obtain ⟨b1, b2, b3⟩ := low_bit h0 hr
  obtain ⟨_, _, hc⟩ := low h0 hr
  generalize Lib.ctz n r = c at b1 b2 b3 hc
  have hck : k ≤ c := by
    have := h c
    rw [b1] at this
    simp at this
    exact this.2
  have hmc : m.testBit c = true := by
    have := h c
    rw [b1] at this
    simp at this
    exact this.1
  refine ⟨?_, fun j => ?_, hc, hck⟩
  · rw [pts_yes hmc, pts_gap hck fun i h1 h2 => ?_]
    have := h i
    rw [b2 i h2] at this
    simp [h1] at this
    exact this
  · rw [b3, h j]
    by_cases hj : c < j
    · have e1 : decide (k ≤ j) = true := by simp; omega
      have e2 : decide (c + 1 ≤ j) = true := by simp; omega
      have e3 : decide (c < j) = true := by simp; omega
      rw [e1, e2, e3]; simp
    · have e2 : decide (c + 1 ≤ j) = false := by simp; omega
      have e3 : decide (c < j) = false := by simp; omega
      rw [e2, e3]; simp

/-- 2^64 − 1 − a. -/
theorem not_bit {a j : Nat} (ha : a < 18446744073709551616) : (18446744073709551615 - a).testBit j = (decide (j < 64) && !a.testBit j) := by
  have : 18446744073709551615 - a = 2 ^ 64 - (a + 1) := by omega
  rw [this, Nat.testBit_two_pow_sub_succ (by omega)]
theorem andNot_bit {a b j : Nat} (ha : a < 18446744073709551616) (hb : b < 18446744073709551616) : (a &&& (18446744073709551615 - b)).testBit j = (a.testBit j && !b.testBit j) := by
  rw [Nat.testBit_and, not_bit hb]
  by_cases h : j < 64
  · simp [h]
  · rw [high (n := 64) ha (by omega)]; simp
theorem or_lt {a b n : Nat} (ha : a < 2 ^ n) (hb : b < 2 ^ n) : a ||| b < 2 ^ n := Nat.or_lt_two_pow ha hb
theorem and_lt {a b n : Nat} (ha : a < 2 ^ n) : a &&& b < 2 ^ n := Nat.lt_of_le_of_lt Nat.and_le_left ha
end Go.Proofs.YteldfjibmaigiaaDoor.Bt

namespace Go.Proofs.YteldfjibmaigiaaDoor
set_option maxRecDepth 100000
open Go.RowKit

/-- The table of the lowest bits lies in its variable. -/
def Tab (w : World) : Prop := 2 < w.heap.size ∧ ∀ j, j < 64 → w.cell? ⟨2, j, none⟩ = some (.int .u8 ((Lib.deBruijn64tab.getD j 0 : Nat) : Int))
theorem Tab.below {w w' : World} (h : Tab w) (hb : Below w.heap.size w w') : Tab w' :=
  ⟨Nat.lt_of_lt_of_le h.1 hb.size, fun j hj => (hb.cell (p := ⟨2, j, none⟩) h.1).trans (h.2 j hj)⟩
theorem Tab.grown {w w' : World} {B : Nat} {row : Option Nat} (h : Tab w) (hg : w.grownBy w' row) (hB : 2 < B) (hr : ∀ k, row = some k → B ≤ k) : Tab w' :=
  ⟨Nat.lt_of_lt_of_le h.1 hg.size, fun j hj => (World.cell?_of_block (w := w) (hg.block 2 h.1 (fun e => by have := hr _ e.symm; omega))).trans (h.2 j hj)⟩
theorem Tab.alloc {w : World} (h : Tab w) (o : Obj) : Tab (w.alloc o) := h.below ((Below.refl _ _).alloc (Nat.le_refl _) _)
theorem Tab.drewN {w : World} (h : Tab w) (n : Nat) : Tab (w.drewN n) := h
theorem Tab.of {w : World} (h : Lib.TabIs Tryd.prog w "math/bits.deBruijn64tab" .u8 (Lib.deBruijn64tab.map fun (n : Nat) => (n : Int))) (hg : Tryd.prog.globalNamed "math/bits.deBruijn64tab" = some 2) : Tab w := by
  have hc : ∀ j, j < 64 → w.cell? ⟨2, j, none⟩ = some (.int .u8 ((Lib.deBruijn64tab.getD j 0 : Nat) : Int)) := fun j hj => by
    have := World.var?_cell hg h j
    rw [this]
    have hl : j < Lib.deBruijn64tab.length := hj
    simp [List.getD_eq_getElem?_getD, List.getElem?_eq_getElem hl]
  refine ⟨?_, hc⟩
  rcases Nat.lt_or_ge 2 w.heap.size with hlt | hge
  · exact hlt
  · have := hc 0 (by omega)
    simp [World.cell?, Array.getElem?_eq_none hge] at this

theorem tz_walk (x k idx : Nat) (w : World) (hx0 : ((x : Int) == 0) = false)
    (key : IntKind.u64.wrap (bits BinOp.and IntKind.u64 (x : Int) (IntKind.u64.wrap (-(x : Int))) * 285870213051353865) / 288230376151711744 = (idx : Int))
    (hi : idx < 64) (hk : k < 64) (hcell : w.cell? ⟨2, idx, none⟩ = some (.int .u8 k)) :
    Calls Tryd.prog 59 #[.int .u64 x] w fun e w' => e = .returned (.int .i64 k) ∧ w = w' := by
  go_enter Tryd.func59, Tryd.ntmps59
  go_wp2_with (simp only [key])
  go_ret
  exact ⟨rfl, rfl⟩

theorem neg_u64 (x : Nat) (h0 : x ≠ 0) (h : x < 18446744073709551616) : IntKind.u64.wrap (-(x : Int)) = ((2 ^ 64 - x : Nat) : Int) := by
  rw [show IntKind.u64.wrap (-(x : Int)) = (-(x : Int)) % 18446744073709551616 by simp [IntKind.wrap, IntKind.bits, IntKind.signed]]
  omega

theorem i_tz (x : Nat) (w : World) (ht : Tab w) (h0 : x ≠ 0) (h : x < 18446744073709551616) :
    Calls Tryd.prog 59 #[.int .u64 x] w fun e w' => e = .returned (.int .i64 ((Lib.ctz 64 x : Nat) : Int)) ∧ w = w' := by
  obtain ⟨hlow, hk⟩ := Lib.lowest_bit 64 x h0 h
  obtain ⟨hi, htab⟩ := Lib.deBruijn64_at _ hk
  have hcell := ht.2 _ hi
  rw [htab] at hcell
  refine tz_walk x _ _ w (by simp; omega) ?_ hi hk hcell
  rw [neg_u64 x h0 h, u64_and_nat x _ h (by omega), hlow]
  rw [show ∀ n : Int, IntKind.u64.wrap n = n % 18446744073709551616 from fun n => by simp [IntKind.wrap, IntKind.bits, IntKind.signed]]
  generalize 2 ^ Lib.ctz 64 x = t
  omega
end Go.Proofs.YteldfjibmaigiaaDoor

namespace Go.Proofs.YteldfjibmaigiaaDoor.Bt
set_option maxRecDepth 100000
open Pt

def full (s : Nat) : Nat := 2 ^ (s * s) - 1
def fst_ (s : Nat) : Nat := full s / (2 ^ s - 1)
def lst_ (s : Nat) : Nat := fst_ s * 2 ^ (s - 1)
def bes (s m : Nat) : Nat := (m &&& (18446744073709551615 - fst_ s)) / 2 ||| (m &&& (18446744073709551615 - lst_ s)) * 2 % 18446744073709551616
def abv (s m : Nat) : Nat := (m * 2 ^ s % 18446744073709551616 ||| m / 2 ^ s) &&& full s
def aro (s m : Nat) : Nat := bes s m ||| abv s m

theorem seven {P : Nat → Prop} (h : ∀ k : Fin 7, P ((k : Nat) + 1)) (s : Nat) (h1 : 1 ≤ s) (h2 : s ≤ 7) : P s := by
  obtain ⟨k, rfl⟩ : ∃ k, s = k + 1 := ⟨s - 1, by omega⟩
  exact h ⟨k, by omega⟩
theorem masks (s : Nat) (h1 : 1 ≤ s) (h2 : s ≤ 7) : fst_ s < 2 ^ 49 ∧ lst_ s < 2 ^ 49 ∧ full s < 2 ^ 49 ∧ 1 ≤ 2 ^ s - 1 ∧ 2 ^ s ≤ 128 ∧ 2 ^ (s - 1) ≤ 64 ∧ 2 ^ (s * s) ≤ 2 ^ 49 :=
  seven (P := fun s => fst_ s < 2 ^ 49 ∧ lst_ s < 2 ^ 49 ∧ full s < 2 ^ 49 ∧ 1 ≤ 2 ^ s - 1 ∧ 2 ^ s ≤ 128 ∧ 2 ^ (s - 1) ≤ 64 ∧ 2 ^ (s * s) ≤ 2 ^ 49) (by decide +kernel) s h1 h2
theorem fst_bit (s j : Nat) (h1 : 1 ≤ s) (h2 : s ≤ 7) (hj : j < 50) : (fst_ s).testBit j = (decide (j < s * s) && decide (j % s = 0)) :=
  seven (P := fun s => ∀ j : Fin 50, (fst_ s).testBit j = (decide ((j : Nat) < s * s) && decide ((j : Nat) % s = 0))) (by decide +kernel) s h1 h2 ⟨j, hj⟩
theorem lst_bit (s j : Nat) (h1 : 1 ≤ s) (h2 : s ≤ 7) (hj : j < 50) : (lst_ s).testBit j = (decide (j < s * s) && decide (j % s = s - 1)) :=
  seven (P := fun s => ∀ j : Fin 50, (lst_ s).testBit j = (decide ((j : Nat) < s * s) && decide ((j : Nat) % s = s - 1))) (by decide +kernel) s h1 h2 ⟨j, hj⟩
theorem sq_nat (s : Nat) (h1 : 1 ≤ s) (h2 : s ≤ 7) : 1 ≤ s * s ∧ s * s ≤ 49 ∧ s ≤ s * s :=
  seven (P := fun s => 1 ≤ s * s ∧ s * s ≤ 49 ∧ s ≤ s * s) (by decide) s h1 h2
theorem full_bit (s j : Nat) : (full s).testBit j = decide (j < s * s) := Nat.testBit_two_pow_sub_one _ _

theorem bes_bit (s m q : Nat) (h1 : 1 ≤ s) (h2 : s ≤ 7) (hm : m < 2 ^ (s * s)) :
    (bes s m).testBit q = (decide (q < s * s) && ((decide (q % s < s - 1) && m.testBit (q + 1)) || (decide (0 < q % s) && m.testBit (q - 1)))) := by
  obtain ⟨a1, a2, a3, a4, a5, a6, a7⟩ := masks s h1 h2
  obtain ⟨b1, b2, b3⟩ := sq_nat s h1 h2
  have hm64 : m < 18446744073709551616 := by omega
  have e1 : ((m &&& (18446744073709551615 - fst_ s)) / 2).testBit q = (m.testBit (q + 1) && !(fst_ s).testBit (q + 1)) := by
    rw [← Nat.testBit_succ, andNot_bit hm64 (by omega)]
  have e2 : ((m &&& (18446744073709551615 - lst_ s)) * 2 % 18446744073709551616).testBit q = (decide (q < 64) && (decide (1 ≤ q) && (m.testBit (q - 1) && !(lst_ s).testBit (q - 1)))) := by
    have := Nat.testBit_mod_two_pow ((m &&& (18446744073709551615 - lst_ s)) * 2) 64 q
    rw [show (2 : Nat) ^ 64 = 18446744073709551616 by decide] at this
    rw [this]
    have := Nat.testBit_mul_two_pow (m &&& (18446744073709551615 - lst_ s)) q 1
    rw [show (2 : Nat) ^ 1 = 2 by decide] at this
    rw [this, andNot_bit hm64 (by omega)]
  unfold bes
  rw [Nat.testBit_or, e1, e2]
  by_cases hq : q < s * s
  · have c1 : m.testBit (q + 1) = true → q + 1 < s * s := fun h => by
      rcases Nat.lt_or_ge (q + 1) (s * s) with h' | h'
      · exact h'
      · rw [high hm h'] at h; cases h
    rw [fst_bit s (q + 1) h1 h2 (by omega), lst_bit s (q - 1) h1 h2 (by omega)]
    have f1 : decide (q < s * s) = true := by simpa using hq
    have f2 : decide (q < 64) = true := by simp; omega
    have f3 : (m.testBit (q + 1) && !(decide (q + 1 < s * s) && decide ((q + 1) % s = 0))) = (decide (q % s < s - 1) && m.testBit (q + 1)) := by
      cases e : m.testBit (q + 1)
      · simp
      · have g1 := c1 e
        have g2 : ((q + 1) % s = 0) ↔ ¬ q % s < s - 1 := by
          have : s = 1 ∨ s = 2 ∨ s = 3 ∨ s = 4 ∨ s = 5 ∨ s = 6 ∨ s = 7 := by omega
          rcases this with rfl | rfl | rfl | rfl | rfl | rfl | rfl <;> omega
        have g3 : decide (q + 1 < s * s) = true := by simpa using g1
        rw [g3]
        by_cases g : q % s < s - 1
        · have : decide ((q + 1) % s = 0) = false := by rw [decide_eq_false_iff_not, g2]; exact fun hn => hn g
          rw [this]; simp [g]
        · have : decide ((q + 1) % s = 0) = true := by rw [decide_eq_true_eq, g2]; exact g
          rw [this]; simp [g]
    have f4 : (decide (1 ≤ q) && (m.testBit (q - 1) && !(decide (q - 1 < s * s) && decide ((q - 1) % s = s - 1)))) = (decide (0 < q % s) && m.testBit (q - 1)) := by
      by_cases g : 1 ≤ q
      · have g2 : ((q - 1) % s = s - 1) ↔ ¬ 0 < q % s := by
          have : s = 1 ∨ s = 2 ∨ s = 3 ∨ s = 4 ∨ s = 5 ∨ s = 6 ∨ s = 7 := by omega
          rcases this with rfl | rfl | rfl | rfl | rfl | rfl | rfl <;> omega
        have g3 : decide (q - 1 < s * s) = true := by simp; omega
        rw [g3]
        by_cases g' : 0 < q % s
        · have : decide ((q - 1) % s = s - 1) = false := by rw [decide_eq_false_iff_not, g2]; exact fun hn => hn g'
          rw [this]; simp [g, g']
        · have : decide ((q - 1) % s = s - 1) = true := by rw [decide_eq_true_eq, g2]; exact g'
          rw [this]; simp [g']
      · have : q = 0 := by omega
        subst this
        simp
    rw [f1, f2, f3, Bool.true_and, Bool.true_and, f4]
  · have f1 : decide (q < s * s) = false := by simpa using hq
    rw [f1, Bool.false_and, high hm (show s * s ≤ q + 1 by omega)]
    by_cases g : q - 1 < s * s
    · have hq1 : q = s * s := by omega
      rw [lst_bit s (q - 1) h1 h2 (by omega)]
      have g2 : (q - 1) % s = s - 1 := by
        subst hq1
        have : s = 1 ∨ s = 2 ∨ s = 3 ∨ s = 4 ∨ s = 5 ∨ s = 6 ∨ s = 7 := by omega
        rcases this with rfl | rfl | rfl | rfl | rfl | rfl | rfl <;> decide
      simp [g, g2]
    · rw [high hm (show s * s ≤ q - 1 by omega)]; simp

theorem abv_bit (s m q : Nat) (h1 : 1 ≤ s) (h2 : s ≤ 7) :
    (abv s m).testBit q = (decide (q < s * s) && ((decide (s ≤ q) && m.testBit (q - s)) || m.testBit (q + s))) := by
  obtain ⟨b1, b2, b3⟩ := sq_nat s h1 h2
  unfold abv
  rw [Nat.testBit_and, Nat.testBit_or, full_bit]
  have e1 : (m * 2 ^ s % 18446744073709551616).testBit q = (decide (q < 64) && (decide (s ≤ q) && m.testBit (q - s))) := by
    have := Nat.testBit_mod_two_pow (m * 2 ^ s) 64 q
    rw [show (2 : Nat) ^ 64 = 18446744073709551616 by decide] at this
    rw [this, Nat.testBit_mul_two_pow]
  have e2 : (m / 2 ^ s).testBit q = m.testBit (q + s) := by rw [Nat.testBit_div_two_pow]
  rw [e1, e2]
  by_cases hq : q < s * s
  · have f2 : decide (q < 64) = true := by simp; omega
    rw [f2]; simp [hq]
  · simp [hq]

/-- The points around a set: those with a neighbour in it. -/
theorem aro_bit (s m q : Nat) (h1 : 1 ≤ s) (h2 : s ≤ 7) (hm : m < 2 ^ (s * s)) :
    (aro s m).testBit q = (decide (q < s * s) && (nbs s q).any fun x => m.testBit x.toNat) := by
  unfold aro
  rw [Nat.testBit_or, bes_bit s m q h1 h2 hm, abv_bit s m q h1 h2]
  by_cases hq : q < s * s
  · have f1 : decide (q < s * s) = true := by simpa using hq
    rw [f1, Bool.true_and, Bool.true_and, Bool.true_and]
    unfold nbs nbL nbA nbB nbU
    rw [List.any_append, List.any_append, List.any_append]
    have g1 : ((if (s : Int) ≤ q then [(q : Int) - s] else []).any fun x => m.testBit x.toNat) = (decide (s ≤ q) && m.testBit (q - s)) := by
      by_cases h : s ≤ q
      · rw [if_pos (by omega)]
        have : ((q : Int) - s).toNat = q - s := by omega
        simp [this, h]
      · rw [if_neg (by omega)]; simp [h]
    have g2 : ((if 0 < (q : Int) % s then [(q : Int) - 1] else []).any fun x => m.testBit x.toNat) = (decide (0 < q % s) && m.testBit (q - 1)) := by
      by_cases h : 0 < q % s
      · rw [if_pos (by omega)]
        have : ((q : Int) - 1).toNat = q - 1 := by omega
        simp [this, h]
      · rw [if_neg (by omega)]; simp [h]
    have g3 : ((if (q : Int) % s < s - 1 then [(q : Int) + 1] else []).any fun x => m.testBit x.toNat) = (decide (q % s < s - 1) && m.testBit (q + 1)) := by
      by_cases h : q % s < s - 1
      · rw [if_pos (by omega)]
        have : ((q : Int) + 1).toNat = q + 1 := by omega
        simp [this, h]
      · rw [if_neg (by omega)]; simp [h]
    have g4 : ((if (q : Int) + s < s * s then [(q : Int) + s] else []).any fun x => m.testBit x.toNat) = m.testBit (q + s) := by
      by_cases h : q + s < s * s
      · rw [if_pos (by have : ((q + s : Nat) : Int) < ((s * s : Nat) : Int) := by exact_mod_cast h
                       simpa using this)]
        have : ((q : Int) + s).toNat = q + s := by omega
        simp [this]
      · rw [if_neg (fun h' => h (by have : ((q + s : Nat) : Int) < ((s * s : Nat) : Int) := by simpa using h'
                                    exact_mod_cast this)), high hm (by omega)]; simp
    rw [g1, g2, g3, g4]
    cases (decide (q % s < s - 1) && m.testBit (q + 1)) <;> cases (decide (0 < q % s) && m.testBit (q - 1)) <;> cases (decide (s ≤ q) && m.testBit (q - s)) <;> cases m.testBit (q + s) <;> rfl
  · simp [hq]

theorem bes_lt (s m : Nat) (h1 : 1 ≤ s) (h2 : s ≤ 7) (hm : m < 2 ^ (s * s)) : bes s m < 2 ^ (s * s) := by
  refine Nat.lt_pow_two_of_testBit _ fun i hi => ?_
  rw [bes_bit s m i h1 h2 hm]
  have : decide (i < s * s) = false := by simpa using hi
  rw [this, Bool.false_and]
theorem abv_lt (s m : Nat) : abv s m < 2 ^ (s * s) := by
  unfold abv
  rw [Nat.and_comm]
  refine and_lt ?_
  have := Nat.two_pow_pos (s * s)
  unfold full; omega
theorem aro_lt (s m : Nat) (h1 : 1 ≤ s) (h2 : s ≤ 7) (hm : m < 2 ^ (s * s)) : aro s m < 2 ^ (s * s) := or_lt (bes_lt s m h1 h2 hm) (abv_lt s m)

/-! ### Diagonals -/
def diY (s p : Int) (i : Nat) : Int := p / s - 1 + (i / 2 * 2 : Nat)
def diX (s p : Int) (i : Nat) : Int := p % s - 1 + (i % 2 * 2 : Nat)
def di1 (s p : Int) (i : Nat) : List Int := if (0 ≤ diY s p i ∧ diY s p i ≤ s - 1) ∧ (0 ≤ diX s p i ∧ diX s p i ≤ s - 1) then [diY s p i * s + diX s p i] else []
def dis (s p : Int) : Nat → List Int
  | 0 => []
  | i + 1 => dis s p i ++ di1 s p i
def dia (s p : Int) : List Int := dis s p 4
def diag (s p : Int) : List Int := if okP s p then dia s p else []
theorem di1_len (s p : Int) (i : Nat) : (di1 s p i).length ≤ 1 := by unfold di1; split <;> simp
theorem dis_len (s p : Int) (i : Nat) : (dis s p i).length ≤ i := by
  induction i with
  | zero => simp [dis]
  | succ i ih => have := di1_len s p i; simp only [dis, List.length_append]; omega
theorem dia_bits (s p : Nat) (h1 : 1 ≤ s) (h2 : s ≤ 7) (h4 : p < s * s) : pts (abv s (bes s (2 ^ p))) 64 = dia s p ∧ 2 ^ p < 2 ^ (s * s) := by
  have h := all_sp (P := fun s p => pts (abv s.toNat (bes s.toNat (2 ^ p.toNat))) 64 = dia s p ∧ 2 ^ p.toNat < 2 ^ (s.toNat * s.toNat)) (by decide +kernel) (s : Int) (p : Int) (by omega) (by omega) (by omega) (by exact_mod_cast h4)
  simpa using h
end Go.Proofs.YteldfjibmaigiaaDoor.Bt

namespace Go.Proofs.YteldfjibmaigiaaDoor
set_option maxRecDepth 100000
open Go.RowKit

theorem wrap_u (n : Int) : IntKind.u64.wrap n = n % 18446744073709551616 := by simp [IntKind.wrap, IntKind.bits, IntKind.signed]
theorem pow_u (p : Nat) (h : p < 64) : IntKind.u64.wrap (2 ^ p) = ((2 ^ p : Nat) : Int) := by
  have : 2 ^ p < 2 ^ 64 := Nat.pow_lt_pow_right (by decide) h
  rw [wrap_u]
  have e : ((2 : Int) ^ p) = ((2 ^ p : Nat) : Int) := by push_cast; rfl
  rw [e]
  generalize 2 ^ p = t at this ⊢
  omega

theorem i_only (p : Nat) (w : World) (h : p < 64) :
    Calls Tryd.prog 54 #[.int .i64 p] w fun e w' => e = .returned (.int .u64 ((2 ^ p : Nat) : Int)) ∧ w = w' := by
  have H := Lib.hid (pow_u p h)
  go_enter Tryd.func54, Tryd.ntmps54
  go_wp2_with fail
  go_ret
  exact ⟨by rw [← H.out]; rfl, rfl⟩

theorem i_list (m : Nat) (w : World) (ht : Tab w) (hm : m < 18446744073709551616) :
    Calls Tryd.prog 35 #[.int .u64 m] w fun e w' => ∃ A n c, e = .returned (.slice A n c) ∧ Own w' w.heap.size A n c (Bt.pts m 64) ∧ Below w.heap.size w w' := by
  have HT := Lib.hid ht
  clear ht
  go_enter Tryd.func35, Tryd.ntmps35
  go_wp2_with fail
  go_loopw [3, 4] (fun v r wr => ∃ k m' A n c, v = .slice A n c ∧ r = .int .u64 ((m' : Nat) : Int) ∧ k ≤ 64 ∧ Bt.From m k m' ∧ m' < 18446744073709551616 ∧ Own wr w.heap.size A n c (Bt.pts m k) ∧ Below w.heap.size w wr) (fun _ r _ => (intOf r).toNat)
  case atStart => exact ⟨0, m, _, _, _, rfl, rfl, by omega, Bt.From.zero m, hm, Own.nil _ _, Below.refl _ _⟩
  case round =>
    obtain ⟨k, m', A, n, c, rfl, rfl, hk, hf, hm', ho, hb⟩ := hrel
    have Hf := Lib.hid hf
    have Ho := Lib.hid ho
    have Hb := Lib.hid hb
    have hz := hb.size
    have hn : n ≤ 64 := by have := ho.1; have := Bt.pts_len m k; omega
    clear hf ho hb
    by_cases h0 : m' = 0
    · subst h0
      go_wp2_with fail
      go_ret
      exact ⟨_, _, _, rfl, by rw [← Hf.out.done rfl hk]; exact Ho.out, Hb.out⟩
    · have e0 : ((m' : Int) != 0) = true := by simp; omega
      obtain ⟨s1, s2, s3, s4⟩ := Hf.out.step (n := 64) h0 (by omega)
      have hlt := Bt.and_pred_lt h0
      have S1 := Lib.hid s1
      have S2 := Lib.hid s2
      have e1 : ((m' : Int) - 1) = ((m' - 1 : Nat) : Int) := by omega
      have e2 : bits BinOp.and IntKind.u64 (m' : Int) ((m' - 1 : Nat) : Int) = ((m' &&& (m' - 1) : Nat) : Int) := u64_and_nat _ _ hm' (by omega)
      have E1 := Lib.hid e1
      have E2 := Lib.hid e2
      clear s1 s2 e1 e2
      go_wp2_with fail
      refine (i_tz m' _ (HT.out.below Hb.out) h0 hm').mono ?_
      rintro e w' ⟨rfl, rfl⟩
      go_wp2_with (at_builtin; refine app1 rfl _ _ rfl _ _ _ _ _ _ _ _ rfl rfl (by simp) Ho.out hz (by omega) ?_; intro A' c' w' hown' hb' hlt' _)
      go_roundw
      case rel => exact ⟨Lib.ctz 64 m' + 1, m' &&& (m' - 1), _, _, _, rfl, (by rw [E1.out, E2.out]), (by omega), S2.out, (by omega), (by rw [S1.out]; exact hown'), Hb.out.trans (hb'.mono (by omega))⟩
      case measure => rw [E1.out, E2.out]; simp [intOf]; omega
end Go.Proofs.YteldfjibmaigiaaDoor

namespace Go.Proofs.YteldfjibmaigiaaDoor
set_option maxRecDepth 100000
open Go.RowKit

theorem i_onlyN (x : Int) (p a : Nat) (w : World) (hx : x = p) (ha : a = 2 ^ p) (h : p < 64) :
    Calls Tryd.prog 54 #[.int .i64 x] w fun e w' => e = .returned (.int .u64 (a : Int)) ∧ w = w' := by
  subst hx
  subst ha
  exact i_only p w h

theorem bes_val (s m C : Nat) (h1 : 1 ≤ s) (h2 : s ≤ 7) (hm : m < 18446744073709551616) (hC : C = Bt.fst_ s) :
    bits .or .u64 (bits .andNot .u64 (m : Int) (C : Int) / 2) (IntKind.u64.wrap (bits .andNot .u64 (m : Int) (IntKind.u64.wrap ((C : Int) * 2 ^ (s - 1))) * 2)) = ((Bt.bes s m : Nat) : Int) := by
  subst hC
  obtain ⟨a1, a2, a3, a4, a5, a6, a7⟩ := Bt.masks s h1 h2
  have e1 : IntKind.u64.wrap ((Bt.fst_ s : Int) * 2 ^ (s - 1)) = ((Bt.lst_ s : Nat) : Int) := by
    have : (Bt.fst_ s : Int) * 2 ^ (s - 1) = ((Bt.lst_ s : Nat) : Int) := by unfold Bt.lst_; push_cast; rfl
    rw [this, wrap_u]
    omega
  rw [e1, u64_andNot_nat m _ hm (by omega), u64_andNot_nat m _ hm (by omega)]
  have h3 : m &&& (18446744073709551615 - Bt.fst_ s) ≤ m := Nat.and_le_left
  unfold Bt.bes
  generalize m &&& (18446744073709551615 - Bt.fst_ s) = x at h3
  generalize m &&& (18446744073709551615 - Bt.lst_ s) = y
  have e2 : (x : Int) / 2 = ((x / 2 : Nat) : Int) := by omega
  have e3 : IntKind.u64.wrap ((y : Int) * 2) = ((y * 2 % 18446744073709551616 : Nat) : Int) := by rw [wrap_u]; omega
  rw [e2, e3, u64_or_nat _ _ (by omega) (by omega)]

theorem i_beside (s m : Nat) (w : World) (h1 : 1 ≤ s) (h2 : s ≤ 7) (hm : m < 18446744073709551616) :
    Calls Tryd.prog 89 #[.int .u64 m, .int .i64 s] w fun e w' => e = .returned (.int .u64 ((Bt.bes s m : Nat) : Int)) ∧ w = w' := by
  obtain ⟨a1, a2, a3, a4, a5, a6, a7⟩ := Bt.masks s h1 h2
  obtain ⟨b1, b2, b3⟩ := Bt.sq_nat s h1 h2
  have hss : (s : Int) * s ≤ 49 := by exact_mod_cast b2
  have hss0 : 0 ≤ (s : Int) * s := by exact_mod_cast Nat.zero_le _
  obtain ⟨a, ha⟩ : ∃ a, a = 2 ^ (s * s) := ⟨_, rfl⟩
  obtain ⟨b, hb⟩ : ∃ b, b = 2 ^ s := ⟨_, rfl⟩
  have hb1 : 2 ≤ b := by omega
  have ha1 : 1 ≤ a := by rw [ha]; exact Nat.two_pow_pos _
  obtain ⟨F, hF⟩ : ∃ F, F = a - 1 := ⟨_, rfl⟩
  obtain ⟨R, hR⟩ : ∃ R, R = b - 1 := ⟨_, rfl⟩
  obtain ⟨C, hC⟩ : ∃ C, C = F / R := ⟨_, rfl⟩
  have eC : C = Bt.fst_ s := by rw [hC, hF, hR, ha, hb]; rfl
  have rF : (a : Int) - 1 = (F : Int) := by omega
  have rR : (b : Int) - 1 = (R : Int) := by omega
  have hR1 : 1 ≤ R := by omega
  have hF49 : F < 2 ^ 49 := by omega
  have rC : (F : Int) / (R : Int) = (C : Int) := by rw [hC]; push_cast; rfl
  have hR2 : ((R : Int) == 0) = false := by simp; omega
  have hR3 : ¬ (R : Int) = 0 := by omega
  have hC49 : C ≤ 562949953421311 := by omega
  have hR4 : R ≤ 127 := by omega
  have hF4 : F ≤ 562949953421311 := by omega
  have Ha := Lib.hid ha
  have Hb := Lib.hid hb
  have HC := Lib.hid eC
  clear ha hb hF hR hC eC
  go_enter Tryd.func89, Tryd.ntmps89
  go_wp2_with fail
  refine (i_onlyN _ (s * s) a _ (by push_cast; rfl) Ha.out (by omega)).mono ?_
  rintro e w' ⟨rfl, rfl⟩
  go_wp2_with fail
  refine (i_onlyN _ s b _ rfl Hb.out (by omega)).mono ?_
  rintro e w' ⟨rfl, rfl⟩
  go_wp2_with fail
  go_ret
  exact ⟨by rw [← bes_val s m C h1 h2 hm HC.out]; rfl, rfl⟩

theorem abv_val (s m F : Nat) (h1 : 1 ≤ s) (h2 : s ≤ 7) (hm : m < 18446744073709551616) (hF : F = Bt.full s) :
    bits .and .u64 (bits .or .u64 (IntKind.u64.wrap ((m : Int) * 2 ^ s)) ((m : Int) / 2 ^ s)) (F : Int) = ((Bt.abv s m : Nat) : Int) := by
  subst hF
  obtain ⟨a1, a2, a3, a4, a5, a6, a7⟩ := Bt.masks s h1 h2
  have e1 : IntKind.u64.wrap ((m : Int) * 2 ^ s) = ((m * 2 ^ s % 18446744073709551616 : Nat) : Int) := by
    rw [wrap_u, show (m : Int) * 2 ^ s = ((m * 2 ^ s : Nat) : Int) by push_cast; rfl]
    generalize m * 2 ^ s = t
    omega
  have e2 : (m : Int) / 2 ^ s = ((m / 2 ^ s : Nat) : Int) := by push_cast; rfl
  have hd : m / 2 ^ s < 18446744073709551616 := Nat.lt_of_le_of_lt (Nat.div_le_self _ _) hm
  rw [e1, e2, u64_or_nat _ _ (by omega) hd, u64_and_nat _ _ (Bt.or_lt (n := 64) (by omega) (by omega)) (by omega)]
  rfl

theorem i_above (s m : Nat) (w : World) (h1 : 1 ≤ s) (h2 : s ≤ 7) (hm : m < 18446744073709551616) :
    Calls Tryd.prog 90 #[.int .u64 m, .int .i64 s] w fun e w' => Drew (.int .u64 ((Bt.abv s m : Nat) : Int)) w e w' := by
  obtain ⟨a1, a2, a3, a4, a5, a6, a7⟩ := Bt.masks s h1 h2
  obtain ⟨b1, b2, b3⟩ := Bt.sq_nat s h1 h2
  have hss : (s : Int) * s ≤ 49 := by exact_mod_cast b2
  have hss0 : 0 ≤ (s : Int) * s := by exact_mod_cast Nat.zero_le _
  obtain ⟨a, ha⟩ : ∃ a, a = 2 ^ (s * s) := ⟨_, rfl⟩
  have ha1 : 1 ≤ a := by rw [ha]; exact Nat.two_pow_pos _
  obtain ⟨F, hF⟩ : ∃ F, F = a - 1 := ⟨_, rfl⟩
  have eF : F = Bt.full s := by rw [hF, ha]; rfl
  have rF : (a : Int) - 1 = (F : Int) := by omega
  have hF4 : F ≤ 562949953421311 := by omega
  have Ha := Lib.hid ha
  have HF := Lib.hid eF
  clear ha hF eF
  go_enter Tryd.func90, Tryd.ntmps90
  go_wp2_with fail
  refine (i_onlyN _ (s * s) a _ (by push_cast; rfl) Ha.out (by omega)).mono ?_
  rintro e w' ⟨rfl, rfl⟩
  go_wp2_with fail
  go_quiet (fail)
  go_wp2_with fail
  go_ret
  exact ⟨_, by rw [← abv_val s m F h1 h2 hm HF.out]; rfl, rfl⟩

end Go.Proofs.YteldfjibmaigiaaDoor

namespace Go.Proofs.YteldfjibmaigiaaDoor.Oc
set_option maxRecDepth 100000

def cnt (x m : Nat) : Nat := ((List.range m).filter fun q => x.testBit q).length
theorem pts_cnt (x m : Nat) : (Bt.pts x m).length = cnt x m := by simp [Bt.pts, cnt]

def M (c : Nat) : Nat → Nat
  | 0 => 0
  | n + 1 => c + 256 * M c n
theorem M_succ (c n : Nat) : M c (n + 1) = c + 256 * M c n := rfl
theorem and_cons (a b c d : Nat) (ha : a < 256) (hc : c < 256) : (a + 256 * b) &&& (c + 256 * d) = (a &&& c) + 256 * (b &&& d) := by
  have h1 : ((a + 256 * b) &&& (c + 256 * d)) % 256 = a &&& c := by
    have := Nat.and_mod_two_pow (a := a + 256 * b) (b := c + 256 * d) (n := 8)
    rw [show (2 : Nat) ^ 8 = 256 by decide] at this
    rw [this]
    congr 1 <;> omega
  have h2 : ((a + 256 * b) &&& (c + 256 * d)) / 256 = b &&& d := by
    have := Nat.and_div_two_pow (a := a + 256 * b) (b := c + 256 * d) (n := 8)
    rw [show (2 : Nat) ^ 8 = 256 by decide] at this
    rw [this]
    congr 1 <;> omega
  have := Nat.mod_add_div ((a + 256 * b) &&& (c + 256 * d)) 256
  rw [h1, h2] at this
  exact this.symm

def t1 (a : Nat) : Nat := (a / 2 &&& 85) + (a &&& 85)
def t2 (a : Nat) : Nat := (a / 4 &&& 51) + (a &&& 51)
def t3 (a : Nat) : Nat := (a / 16 + a) &&& 15
def s1 (n x : Nat) : Nat := (x / 2 &&& M 85 n) + (x &&& M 85 n)
def s2 (n x : Nat) : Nat := (x / 4 &&& M 51 n) + (x &&& M 51 n)
def s3 (n x : Nat) : Nat := (x / 16 + x) &&& M 15 n
def pc (a : Nat) : Nat := t3 (t2 (t1 a))

theorem d1 : ∀ a : Fin 256, ∀ j : Fin 2, ((a : Nat) / 2 + 128 * (j : Nat)) &&& 85 = (a : Nat) / 2 &&& 85 := by decide +kernel
theorem d2 : ∀ a : Fin 256, ∀ j : Fin 4, ((a : Nat) / 4 + 64 * (j : Nat)) &&& 51 = (a : Nat) / 4 &&& 51 := by decide +kernel
theorem d3 : ∀ a : Fin 69, ∀ j : Fin 5, ((a : Nat) / 16 + 16 * (j : Nat) + (a : Nat)) &&& 15 = t3 (a : Nat) := by decide +kernel
theorem d4 : ∀ a : Fin 256, t1 (a : Nat) < 256 ∧ t2 (t1 (a : Nat)) ≤ 68 ∧ t2 (t1 (a : Nat)) % 16 ≤ 4 ∧ pc (a : Nat) ≤ 8 ∧ pc (a : Nat) = cnt (a : Nat) 8 := by decide +kernel

theorem s1_cons (n a b : Nat) (ha : a < 256) : s1 (n + 1) (a + 256 * b) = t1 a + 256 * s1 n b := by
  have e : (a + 256 * b) / 2 = (a / 2 + 128 * (b % 2)) + 256 * (b / 2) := by omega
  have := d1 ⟨a, ha⟩ ⟨b % 2, by omega⟩
  simp only at this
  unfold s1 t1
  rw [M_succ, e, and_cons _ _ _ _ (by omega) (by decide), and_cons _ _ _ _ ha (by decide), this]
  omega
theorem s2_cons (n a b : Nat) (ha : a < 256) : s2 (n + 1) (a + 256 * b) = t2 a + 256 * s2 n b := by
  have e : (a + 256 * b) / 4 = (a / 4 + 64 * (b % 4)) + 256 * (b / 4) := by omega
  have := d2 ⟨a, ha⟩ ⟨b % 4, by omega⟩
  simp only at this
  unfold s2 t2
  rw [M_succ, e, and_cons _ _ _ _ (by omega) (by decide), and_cons _ _ _ _ ha (by decide), this]
  omega
theorem s3_cons (n a b : Nat) (ha : a ≤ 68) (hb : b % 16 ≤ 4) : s3 (n + 1) (a + 256 * b) = t3 a + 256 * s3 n b := by
  have e : (a + 256 * b) / 16 + (a + 256 * b) = (a / 16 + 16 * (b % 16) + a) + 256 * (b / 16 + b) := by omega
  have := d3 ⟨a, by omega⟩ ⟨b % 16, by omega⟩
  simp only at this
  unfold s3
  rw [M_succ, e, and_cons _ _ _ _ (by omega) (by decide), this]

def W : Nat → Nat → Nat
  | 0, _ => 0
  | n + 1, x => pc (x % 256) + 256 * W n (x / 256)
theorem bytes : ∀ (n x : Nat), s3 n (s2 n (s1 n x)) = W n x ∧ s2 n (s1 n x) % 16 ≤ 4
  | 0, x => by simp [s3, s2, M, W]
  | n + 1, x => by
    obtain ⟨i1, i2⟩ := bytes n (x / 256)
    have e : x = x % 256 + 256 * (x / 256) := by omega
    have h := d4 ⟨x % 256, by omega⟩
    simp only at h
    obtain ⟨h1, h2, h3, _, _⟩ := h
    have k1 : s1 (n + 1) x = t1 (x % 256) + 256 * s1 n (x / 256) := by
      conv => lhs; rw [e]
      exact s1_cons n _ _ (by omega)
    have k2 : s2 (n + 1) (s1 (n + 1) x) = t2 (t1 (x % 256)) + 256 * s2 n (s1 n (x / 256)) := by rw [k1]; exact s2_cons n _ _ h1
    refine ⟨?_, ?_⟩
    · rw [k2, s3_cons n _ _ h2 i2, i1]
      rfl
    · rw [k2]; omega

theorem cnt_cons (x m : Nat) : cnt x (8 + m) = cnt x 8 + cnt (x / 256) m := by
  unfold cnt
  rw [List.range_add, List.filter_append, List.length_append, List.filter_map, List.length_map]
  congr 2
  refine List.filter_congr fun q _ => ?_
  show x.testBit (8 + q) = (x / 256).testBit q
  have : (x / 2 ^ 8).testBit q = x.testBit (q + 8) := Nat.testBit_div_two_pow x q
  rw [show (2 : Nat) ^ 8 = 256 by decide] at this
  rw [this, Nat.add_comm]
theorem cnt_low (x : Nat) : cnt x 8 = pc (x % 256) := by
  have h := (d4 ⟨x % 256, by omega⟩).2.2.2.2
  simp only at h
  rw [h]
  unfold cnt
  congr 1
  refine List.filter_congr fun q hq => ?_
  have hq8 := List.mem_range.1 hq
  have := Nat.testBit_mod_two_pow x 8 q
  rw [show (2 : Nat) ^ 8 = 256 by decide] at this
  rw [this]
  simp [hq8]
theorem cnt_bytes (x : Nat) : ∀ n, cnt x (8 * (n + 1)) = pc (x % 256) + cnt (x / 256) (8 * n) := fun n => by
  rw [show 8 * (n + 1) = 8 + 8 * n by omega, cnt_cons, cnt_low]

def fin (x3 : Nat) : Nat :=
  let x4 := x3 + x3 / 256
  let x5 := x4 + x4 / 65536
  let x6 := x5 + x5 / 4294967296
  x6 &&& 127
theorem pc_le (a : Nat) : pc (a % 256) ≤ 8 := (d4 ⟨a % 256, by omega⟩).2.2.2.1
theorem fin_sum (c0 c1 c2 c3 c4 c5 c6 c7 : Nat) (h0 : c0 ≤ 8) (h1 : c1 ≤ 8) (h2 : c2 ≤ 8) (k3 : c3 ≤ 8) (k4 : c4 ≤ 8) (k5 : c5 ≤ 8) (h6 : c6 ≤ 8) (h7 : c7 ≤ 8) :
    fin (c0 + 256 * (c1 + 256 * (c2 + 256 * (c3 + 256 * (c4 + 256 * (c5 + 256 * (c6 + 256 * (c7 + 256 * 0)))))))) = c0 + (c1 + (c2 + (c3 + (c4 + (c5 + (c6 + (c7 + 0))))))) := by
  obtain ⟨x3, h3⟩ : ∃ x3, x3 = c0 + 256 * (c1 + 256 * (c2 + 256 * (c3 + 256 * (c4 + 256 * (c5 + 256 * (c6 + 256 * (c7 + 256 * 0))))))) := ⟨_, rfl⟩
  rw [← h3]
  obtain ⟨x4, h4⟩ : ∃ x4, x4 = x3 + x3 / 256 := ⟨_, rfl⟩
  obtain ⟨x5, h5⟩ : ∃ x5, x5 = x4 + x4 / 65536 := ⟨_, rfl⟩
  have hf : fin x3 = (x5 + x5 / 4294967296) &&& 127 := by rw [h5, h4]; rfl
  have hm := Nat.and_two_pow_sub_one_eq_mod (x5 + x5 / 4294967296) 7
  rw [show (2 : Nat) ^ 7 - 1 = 127 by decide, show (2 : Nat) ^ 7 = 128 by decide] at hm
  rw [hf, hm]
  clear hf hm
  have e4 : x4 = (c0 + c1) + 256 * (c1 + c2) + 65536 * ((c2 + c3) + 256 * (c3 + c4) + 65536 * ((c4 + c5) + 256 * (c5 + c6) + 65536 * ((c6 + c7) + 256 * c7))) := by omega
  clear h4 h3
  have e5 : x5 = (c0 + c1 + c2 + c3) + 256 * (c1 + c2 + c3 + c4) + 65536 * (c2 + c3 + c4 + c5 + 256 * (c3 + c4 + c5 + c6)) + 4294967296 * ((c4 + c5 + c6 + c7) + 256 * (c5 + c6 + c7) + 65536 * ((c6 + c7) + 256 * c7)) := by omega
  clear h5 e4
  have q5 : x5 / 4294967296 = (c4 + c5 + c6 + c7) + 256 * (c5 + c6 + c7) + 65536 * ((c6 + c7) + 256 * c7) := by omega
  obtain ⟨T, hT⟩ : ∃ T, T = 2 * (c1 + c2 + c3 + c4 + c5 + c6 + c7) + 512 * (c2 + c3 + c4 + c5 + c6 + c7) + 131072 * (c3 + c4 + c5 + c6 + c7) + 33554432 * ((c4 + c5 + c6 + c7) + 256 * (c5 + c6 + c7) + 65536 * ((c6 + c7) + 256 * c7)) := ⟨_, rfl⟩
  have e6 : x5 + x5 / 4294967296 = (c0 + (c1 + (c2 + (c3 + (c4 + (c5 + (c6 + (c7 + 0)))))))) + 128 * T := by rw [q5, e5, hT]; omega
  rw [e6]
  clear e5 q5 hT e6
  omega
/-- math/bits.OnesCount64, as its text sums. -/
def oc (x : Nat) : Nat := fin (s3 8 (s2 8 (s1 8 x)))
def S : Nat → Nat → Nat
  | 0, _ => 0
  | n + 1, x => pc (x % 256) + S n (x / 256)
theorem sums : ∀ n x, cnt x (8 * n) = S n x
  | 0, x => by simp [cnt, S]
  | n + 1, x => by rw [cnt_bytes, sums n (x / 256)]; rfl
theorem W_succ (n x : Nat) : W (n + 1) x = pc (x % 256) + 256 * W n (x / 256) := rfl
theorem S_succ (n x : Nat) : S (n + 1) x = pc (x % 256) + S n (x / 256) := rfl
theorem oc_cnt (x : Nat) : oc x = (Bt.pts x 64).length := by
  have e : cnt x 64 = S 8 x := sums 8 x
  rw [pts_cnt, e, oc, (bytes 8 x).1]
  rw [W_succ, W_succ, W_succ, W_succ, W_succ, W_succ, W_succ, W_succ, S_succ, S_succ, S_succ, S_succ, S_succ, S_succ, S_succ, S_succ]
  exact fin_sum _ _ _ _ _ _ _ _ (pc_le _) (pc_le _) (pc_le _) (pc_le _) (pc_le _) (pc_le _) (pc_le _) (pc_le _)
theorem masks : M 85 8 = 6148914691236517205 ∧ M 51 8 = 3689348814741910323 ∧ M 15 8 = 1085102592571150095 := by decide
end Go.Proofs.YteldfjibmaigiaaDoor.Oc

namespace Go.Proofs.YteldfjibmaigiaaDoor
set_option maxRecDepth 100000
open Go.RowKit

def E1 (X : Int) : Int := IntKind.u64.wrap (bits BinOp.and IntKind.u64 (X / 2) 6148914691236517205 + bits BinOp.and IntKind.u64 X 6148914691236517205)
def E2 (X : Int) : Int := IntKind.u64.wrap (bits BinOp.and IntKind.u64 (X / 4) 3689348814741910323 + bits BinOp.and IntKind.u64 X 3689348814741910323)
def E3 (X : Int) : Int := bits BinOp.and IntKind.u64 (IntKind.u64.wrap (X / 16 + X)) 1085102592571150095
def E4 (X : Int) : Int := IntKind.u64.wrap (X + X / 256)
def E5 (X : Int) : Int := IntKind.u64.wrap (X + X / 65536)
def E6 (X : Int) : Int := IntKind.u64.wrap (X + X / 4294967296)
def E7 (X : Int) : Int := bits BinOp.and IntKind.i64 (wrap64 X) 127

theorem e1 (x : Nat) (hx : x < 18446744073709551616) : E1 (x : Int) = ((Oc.s1 8 x : Nat) : Int) ∧ Oc.s1 8 x ≤ 12297829382473034410 := by
  unfold E1 Oc.s1
  rw [Oc.masks.1, show (x : Int) / 2 = ((x / 2 : Nat) : Int) by omega, show (6148914691236517205 : Int) = ((6148914691236517205 : Nat) : Int) from rfl, u64_and_nat _ _ (by omega) (by decide), u64_and_nat _ _ hx (by decide), wrap_u]
  have h1 : x / 2 &&& 6148914691236517205 ≤ 6148914691236517205 := Nat.and_le_right
  have h2 : x &&& 6148914691236517205 ≤ 6148914691236517205 := Nat.and_le_right
  generalize x / 2 &&& 6148914691236517205 = a at *
  generalize x &&& 6148914691236517205 = b at *
  omega
theorem e2 (x : Nat) (hx : x < 18446744073709551616) : E2 (x : Int) = ((Oc.s2 8 x : Nat) : Int) ∧ Oc.s2 8 x ≤ 7378697629483820646 := by
  unfold E2 Oc.s2
  rw [Oc.masks.2.1, show (x : Int) / 4 = ((x / 4 : Nat) : Int) by omega, show (3689348814741910323 : Int) = ((3689348814741910323 : Nat) : Int) from rfl, u64_and_nat _ _ (by omega) (by decide), u64_and_nat _ _ hx (by decide), wrap_u]
  have h1 : x / 4 &&& 3689348814741910323 ≤ 3689348814741910323 := Nat.and_le_right
  have h2 : x &&& 3689348814741910323 ≤ 3689348814741910323 := Nat.and_le_right
  generalize x / 4 &&& 3689348814741910323 = a at *
  generalize x &&& 3689348814741910323 = b at *
  omega
theorem e3 (x : Nat) (hx : x ≤ 7378697629483820646) : E3 (x : Int) = ((Oc.s3 8 x : Nat) : Int) ∧ Oc.s3 8 x ≤ 1085102592571150095 := by
  unfold E3 Oc.s3
  rw [Oc.masks.2.2, wrap_u, show ((x : Int) / 16 + x) % 18446744073709551616 = ((x / 16 + x : Nat) : Int) by omega, show (1085102592571150095 : Int) = ((1085102592571150095 : Nat) : Int) from rfl, u64_and_nat _ _ (by omega) (by decide)]
  exact ⟨rfl, Nat.and_le_right⟩
theorem e7 (x : Nat) (hx : x ≤ 1085102592571150095) : E7 (E6 (E5 (E4 (x : Int)))) = ((Oc.fin x : Nat) : Int) := by
  have h4 : E4 (x : Int) = ((x + x / 256 : Nat) : Int) := by unfold E4; rw [wrap_u]; omega
  have h5 : E5 ((x + x / 256 : Nat) : Int) = ((x + x / 256 + (x + x / 256) / 65536 : Nat) : Int) := by unfold E5; rw [wrap_u]; omega
  have h6 : E6 ((x + x / 256 + (x + x / 256) / 65536 : Nat) : Int) = ((x + x / 256 + (x + x / 256) / 65536 + (x + x / 256 + (x + x / 256) / 65536) / 4294967296 : Nat) : Int) := by unfold E6; rw [wrap_u]; omega
  rw [h4, h5, h6]
  obtain ⟨y, hy⟩ : ∃ y, y = x + x / 256 + (x + x / 256) / 65536 + (x + x / 256 + (x + x / 256) / 65536) / 4294967296 := ⟨_, rfl⟩
  have hf : Oc.fin x = y &&& 127 := by rw [hy]; rfl
  have hyl : y < 2000000000000000000 := by omega
  rw [← hy, hf]
  clear hy hf h4 h5 h6
  unfold E7
  have hw : wrap64 (y : Int) = (y : Int) := by unfold wrap64; omega
  rw [hw]
  have := bits_nat .i64 63 (by decide) (fun n h0 h1 => by rw [IntKind.wrap_i64]; omega) y 127 (by omega) (by decide)
  exact this.1

theorem ones_val (x : Nat) (hx : x < 18446744073709551616) : E7 (E6 (E5 (E4 (E3 (E2 (E1 (x : Int))))))) = ((Bt.pts x 64).length : Int) := by
  obtain ⟨a1, a2⟩ := e1 x hx
  obtain ⟨b1, b2⟩ := e2 (Oc.s1 8 x) (by omega)
  obtain ⟨c1, c2⟩ := e3 (Oc.s2 8 (Oc.s1 8 x)) b2
  rw [a1, b1, c1, e7 _ c2]
  exact congrArg Nat.cast (Oc.oc_cnt x)

end Go.Proofs.YteldfjibmaigiaaDoor

namespace Go.Proofs.YteldfjibmaigiaaDoor.Bt
set_option maxRecDepth 100000

/-- The points below j with color x. -/
def msk (cs : List Int) (x : Int) : Nat → Nat
  | 0 => 0
  | j + 1 => if cs.getD j 0 = x then msk cs x j ||| 2 ^ j else msk cs x j
theorem msk_lt (cs : List Int) (x : Int) : ∀ j, msk cs x j < 2 ^ j
  | 0 => by simp [msk]
  | j + 1 => by
    have := msk_lt cs x j
    have h2 : 2 ^ j < 2 ^ (j + 1) := two_lt j
    unfold msk
    split
    · exact or_lt (by omega) h2
    · omega
theorem msk_bit (cs : List Int) (x : Int) : ∀ j p, (msk cs x j).testBit p = (decide (p < j) && decide (cs.getD p 0 = x))
  | 0, p => by simp [msk]
  | j + 1, p => by
    have ih := msk_bit cs x j p
    unfold msk
    by_cases hp : p = j
    · subst hp
      have hl : (msk cs x p).testBit p = false := high (msk_lt cs x p) (Nat.le_refl _)
      split
      · rename_i h
        rw [Nat.testBit_or, Nat.testBit_two_pow, hl, decide_eq_true h]
        simp
      · rename_i h
        rw [hl, decide_eq_false h]
        simp
    · have e : decide (p < j + 1) = decide (p < j) := decide_eq_decide.2 (by omega)
      rw [e]
      split
      · rw [Nat.testBit_or, Nat.testBit_two_pow, ih]
        have : decide (j = p) = false := by simp; omega
        rw [this, Bool.or_false]
      · exact ih
theorem msk_yes {cs : List Int} {x : Int} {j : Nat} (h : cs.getD j 0 = x) : msk cs x (j + 1) = msk cs x j ||| 2 ^ j := by rw [msk, if_pos h]
theorem msk_no {cs : List Int} {x : Int} {j : Nat} (h : cs.getD j 0 ≠ x) : msk cs x (j + 1) = msk cs x j := by rw [msk, if_neg h]
end Go.Proofs.YteldfjibmaigiaaDoor.Bt

namespace Go.Proofs.YteldfjibmaigiaaDoor
set_option maxRecDepth 100000
open Go.RowKit

/-- Block g holds a position: a size and three sets. -/
def Px (w : World) (g : Nat) (s : Int) (a b d : Nat) : Prop := w.heap[g]? = some (.cells #[.int .i64 s, .int .u64 (a : Nat), .int .u64 (b : Nat), .int .u64 (d : Nat)] 58 (0, 0))
section
variable {w w' : World} {g a b d : Nat} {s : Int}
theorem Px.lt (h : Px w g s a b d) : g < w.heap.size := by
  rcases Nat.lt_or_ge g w.heap.size with hlt | hge
  · exact hlt
  · unfold Px at h; rw [Array.getElem?_eq_none hge] at h; cases h
theorem Px.c0 (h : Px w g s a b d) : w.cell? ⟨g, 0, none⟩ = some (.int .i64 s) := by unfold Px at h; simp [World.cell?, h]
theorem Px.c1 (h : Px w g s a b d) : w.cell? ⟨g, 1, none⟩ = some (.int .u64 (a : Nat)) := by unfold Px at h; simp [World.cell?, h]
theorem Px.c2 (h : Px w g s a b d) : w.cell? ⟨g, 2, none⟩ = some (.int .u64 (b : Nat)) := by unfold Px at h; simp [World.cell?, h]
theorem Px.c3 (h : Px w g s a b d) : w.cell? ⟨g, 3, none⟩ = some (.int .u64 (d : Nat)) := by unfold Px at h; simp [World.cell?, h]
theorem Px.fz (h : Px w g s a b d) (i : Nat) : w.frozen? ⟨g, i, none⟩ = false := by unfold Px at h; simp [World.frozen?, h]
theorem Px.new (w : World) (s : Int) (a b d : Nat) : Px (w.alloc (.cells #[.int .i64 s, .int .u64 (a : Nat), .int .u64 (b : Nat), .int .u64 (d : Nat)] 58)) w.heap.size s a b d := heap_alloc_new w _
theorem Px.below {B : Nat} (h : Px w g s a b d) (hb : Below B w w') (hg : g < B) : Px w' g s a b d := (hb.block g hg).trans h
theorem Px.step (h : Px w g s a b d) (hb : Below w.heap.size w w') : Px w' g s a b d := h.below hb h.lt
theorem Px.far (h : Px w g s a b d) {p : Addr} (hp : g ≠ p.block) (u : Value) : Px (w.setCell p u) g s a b d := (Below.heap_setCell w p u g hp).trans h
theorem Px.set0 (h : Px w g s a b d) (x : Int) : Px (w.setCell ⟨g, 0, none⟩ (.int .i64 x)) g x a b d := by unfold Px at h ⊢; simp [World.setCell, Array.getElem?_modify, h]
theorem Px.set1 (h : Px w g s a b d) (x : Nat) : Px (w.setCell ⟨g, 1, none⟩ (.int .u64 (x : Nat))) g s x b d := by unfold Px at h ⊢; simp [World.setCell, Array.getElem?_modify, h]
theorem Px.set2 (h : Px w g s a b d) (x : Nat) : Px (w.setCell ⟨g, 2, none⟩ (.int .u64 (x : Nat))) g s a x d := by unfold Px at h ⊢; simp [World.setCell, Array.getElem?_modify, h]
theorem Px.set3 (h : Px w g s a b d) (x : Nat) : Px (w.setCell ⟨g, 3, none⟩ (.int .u64 (x : Nat))) g s a b x := by unfold Px at h ⊢; simp [World.setCell, Array.getElem?_modify, h]
end

set_option maxHeartbeats 2000000 in
theorem i_positionOf (k : Nat) (w : World) (B : Nat) (A : Option Addr) (n c : Nat) (cs : List Int) (h : Ints w B A n cs) (hB : B ≤ w.heap.size) (hv : Bd.okB (k : Int) cs = true) :
    Calls Tryd.prog 32 #[.agg #[.int .i64 (k : Nat), .slice A n c]] w fun e w' => e = .returned (.agg #[.int .i64 (k : Nat), .int .u64 (Bt.msk cs 0 n : Nat), .int .u64 (Bt.msk cs 1 n : Nat), .int .u64 (Bt.msk cs 2 n : Nat)]) ∧ Below w.heap.size w w' := by
  obtain ⟨q1, q2, q3, q4⟩ := (Bd.okB_iff (k : Int) cs).1 hv
  have hl := h.1
  have hsq := Pt.sq_bd (k : Int) q1 q2
  have hn49 : n ≤ 49 := by omega
  have hn1 : 1 ≤ n := by omega
  obtain ⟨b0, o0, rfl, hbB, hcc⟩ : ∃ b o, A = some ⟨b, o, none⟩ ∧ b < B ∧ ∀ j, j < n → w.cell? ⟨b, o + j, none⟩ = some (.int .i64 (cs.getD j 0)) := by
    rcases h.2 with h0 | ⟨b, o, hA, hbB, hc⟩
    · omega
    · exact ⟨b, o, hA, hbB, hc⟩
  have hok : ∀ j, j < n → 0 ≤ cs.getD j 0 ∧ cs.getD j 0 ≤ 2 := fun j hj => by
    have hj' : j < cs.length := by omega
    rw [List.getD_eq_getElem?_getD, List.getElem?_eq_getElem hj']
    exact q4 _ (List.getElem_mem hj')
  have e1 : (w.alloc (.cells #[.int .i64 (k : Nat), .slice (some ⟨b0, o0, none⟩) n c] 25)).heap.size = w.heap.size + 1 := by simp
  have x0 := ((Bx.new 25 w (k : Nat) (.slice (some ⟨b0, o0, none⟩) n c)).alloc (.cells #[.int .i64 0, .int .u64 0, .int .u64 0, .int .u64 0] 58)).alloc (.cells #[.int .i64 (k : Nat), .int .u64 0, .int .u64 0, .int .u64 0] 58)
  have p0 := Px.new (w.alloc (.cells #[.int .i64 (k : Nat), .slice (some ⟨b0, o0, none⟩) n c] 25)) 0 0 0 0
  have p1 := Px.new ((w.alloc (.cells #[.int .i64 (k : Nat), .slice (some ⟨b0, o0, none⟩) n c] 25)).alloc (.cells #[.int .i64 0, .int .u64 0, .int .u64 0, .int .u64 0] 58)) (k : Nat) 0 0 0
  have hb3 : Below w.heap.size w (((w.alloc (.cells #[.int .i64 (k : Nat), .slice (some ⟨b0, o0, none⟩) n c] 25)).alloc (.cells #[.int .i64 0, .int .u64 0, .int .u64 0, .int .u64 0] 58)).alloc (.cells #[.int .i64 (k : Nat), .int .u64 0, .int .u64 0, .int .u64 0] 58)) := (((Below.refl _ _).alloc (Nat.le_refl _) _).alloc (by simp) _).alloc (by simp; omega) _
  have X0 := Lib.hid (Bx.new 25 w (k : Nat) (.slice (some ⟨b0, o0, none⟩) n c))
  have u0 := X0.out.cell0
  have u1 := X0.out.cell1
  have Hcc := Lib.hid hcc
  have Hok := Lib.hid hok
  have HL := Lib.hid hl
  have X3 := Lib.hid x0
  have P0 := Lib.hid p0
  have P1 := Lib.hid p1
  have Hb3 := Lib.hid hb3
  have E1' := Lib.hid e1
  clear h hcc hok hl q3 q4 hv x0 p0 p1 hb3 e1
  go_enter Tryd.func32, Tryd.ntmps32
  go_wp2_with fail
  obtain ⟨y, hy⟩ : ∃ y, y = (((w.alloc (.cells #[.int .i64 (k : Nat), .slice (some ⟨b0, o0, none⟩) n c] 25)).alloc (.cells #[.int .i64 0, .int .u64 0, .int .u64 0, .int .u64 0] 58)).alloc (.cells #[.int .i64 (k : Nat), .int .u64 0, .int .u64 0, .int .u64 0] 58)) := ⟨_, rfl⟩
  rw [← hy]
  have X3 : Hid (Bx 25 y w.heap.size (k : Nat) (.slice (some ⟨b0, o0, none⟩) n c)) := Lib.hid (by rw [hy]; exact X3.out)
  have P0 : Hid (Px y (w.heap.size + 1) 0 0 0 0) := Lib.hid (by rw [hy]; exact (show Px _ _ 0 0 0 0 by have := P0.out.step ((Below.refl _ _).alloc (Nat.le_refl _) (.cells #[.int .i64 (k : Nat), .int .u64 0, .int .u64 0, .int .u64 0] 58)); simpa using this))
  have P1 : Hid (Px y (w.heap.size + 1 + 1) (k : Nat) 0 0 0) := Lib.hid (by rw [hy]; simpa using P1.out)
  have Hb3 : Hid (Below w.heap.size w y) := Lib.hid (by rw [hy]; exact Hb3.out)
  have hyz : w.heap.size + 3 = y.heap.size := by rw [hy]; simp
  have Hyz := Lib.hid hyz
  clear hy hyz u0 u1 X0
  go_loopw [12] (fun i wr => ∃ j : Nat, j ≤ n ∧ i = .int .i64 j ∧ Px wr (w.heap.size + 1 + 1) (k : Nat) (Bt.msk cs 0 j) (Bt.msk cs 1 j) (Bt.msk cs 2 j) ∧ Px wr (w.heap.size + 1) 0 0 0 0 ∧ Below w.heap.size w wr) (fun i _ => n - (intOf i).toNat)
  case atStart => exact ⟨0, by omega, rfl, P1.out, P0.out, Hb3.out⟩
  case round =>
    clear P0 P1 Hb3 X3 Hyz
    obtain ⟨j, hj, rfl, hp1, hp0, hb⟩ := hrel
    have P1 := Lib.hid hp1
    have P0 := Lib.hid hp0
    have Hb := Lib.hid hb
    clear hp1 hp0 hb
    by_cases hjn : j < n
    · have hjI : (j : Int) < n := by omega
      have ck := (Hb.out.cell (p := ⟨b0, o0 + j, none⟩) (by show b0 < _; omega)).trans (Hcc.out j hjn)
      have hx := Hok.out j hjn
      obtain ⟨x, hxe⟩ : ∃ x, cs.getD j 0 = x := ⟨_, rfl⟩
      rw [hxe] at ck hx
      have Hx := Lib.hid hxe
      obtain ⟨P, hP⟩ : ∃ P, P = 2 ^ j := ⟨_, rfl⟩
      have HP := Lib.hid hP
      have hP64 : P < 18446744073709551616 := by
        have : 2 ^ j < 2 ^ 64 := Nat.pow_lt_pow_right (by decide) (by omega)
        omega
      have hm : ∀ z : Int, Bt.msk cs z j < 18446744073709551616 := fun z => by
        have h1 := Bt.msk_lt cs z j
        have h2 : 2 ^ j < 2 ^ 64 := Nat.pow_lt_pow_right (by decide) (by omega)
        omega
      obtain ⟨m0, hm0⟩ : ∃ m, Bt.msk cs 0 j = m := ⟨_, rfl⟩
      obtain ⟨m1, hm1⟩ : ∃ m, Bt.msk cs 1 j = m := ⟨_, rfl⟩
      obtain ⟨m2, hm2⟩ : ∃ m, Bt.msk cs 2 j = m := ⟨_, rfl⟩
      have r0 : bits .or .u64 (m0 : Int) (P : Int) = ((m0 ||| P : Nat) : Int) := u64_or_nat _ _ (by rw [← hm0]; exact hm 0) hP64
      have r1 : bits .or .u64 (m1 : Int) (P : Int) = ((m1 ||| P : Nat) : Int) := u64_or_nat _ _ (by rw [← hm1]; exact hm 1) hP64
      have r2 : bits .or .u64 (m2 : Int) (P : Int) = ((m2 ||| P : Nat) : Int) := u64_or_nat _ _ (by rw [← hm2]; exact hm 2) hP64
      have R0 := Lib.hid r0
      have R1 := Lib.hid r1
      have R2 := Lib.hid r2
      rw [hm0, hm1, hm2] at P1
      have Hm0 := Lib.hid hm0
      have Hm1 := Lib.hid hm1
      have Hm2 := Lib.hid hm2
      clear hm0 hm1 hm2 r0 r1 r2 hm hP hxe hP64
      have hx3 : x = 0 ∨ x = 1 ∨ x = 2 := by omega
      clear hx
      rcases hx3 with rfl | rfl | rfl
      · have p1 := P1.out.c1
        have f1 := P1.out.fz 1
        have hfin : Px wr (w.heap.size + 1 + 1) (k : Nat) m0 m1 m2 → Px (wr.setCell ⟨w.heap.size + 1 + 1, 1, none⟩ (.int .u64 (bits .or .u64 (m0 : Int) (P : Int)))) (w.heap.size + 1 + 1) (k : Nat) (Bt.msk cs 0 (j + 1)) (Bt.msk cs 1 (j + 1)) (Bt.msk cs 2 (j + 1)) := fun h => by
          have e0 : Bt.msk cs 0 (j + 1) = m0 ||| P := by rw [Bt.msk_yes Hx.out, Hm0.out, HP.out]
          have e1 : Bt.msk cs 1 (j + 1) = m1 := by rw [Bt.msk_no (by rw [Hx.out]; decide), Hm1.out]
          have e2 : Bt.msk cs 2 (j + 1) = m2 := by rw [Bt.msk_no (by rw [Hx.out]; decide), Hm2.out]
          rw [e0, e1, e2, R0.out]
          exact h.set1 _
        have Hfin := Lib.hid (hfin P1.out)
        have P0' := Lib.hid (P0.out.far (p := ⟨w.heap.size + 1 + 1, 1, none⟩) (by show w.heap.size + 1 ≠ w.heap.size + 1 + 1; omega) (.int .u64 (bits .or .u64 (m0 : Int) (P : Int))))
        have Hb' := Lib.hid (Hb.out.setCell (p := ⟨w.heap.size + 1 + 1, 1, none⟩) (by show w.heap.size ≤ w.heap.size + 1 + 1; omega) (.int .u64 (bits .or .u64 (m0 : Int) (P : Int))))
        clear hfin
        go_wp2_with fail
        go_region_with (go_at_call 54; refine (i_onlyN _ j P _ rfl HP.out (by omega)).mono ?_; rintro e w' ⟨rfl, rfl⟩)
        all_goals
          go_wp2_with fail
          go_roundw
          case rel => exact ⟨j + 1, by omega, by go_num, Hfin.out, P0'.out, ⟨Hb'.out.os, Hb'.out.tape, Hb'.out.output, Hb'.out.size, Hb'.out.block⟩⟩
          case measure => simp [intOf]; omega
      · have p1 := P1.out.c2
        have f1 := P1.out.fz 2
        have hfin : Px wr (w.heap.size + 1 + 1) (k : Nat) m0 m1 m2 → Px (wr.setCell ⟨w.heap.size + 1 + 1, 2, none⟩ (.int .u64 (bits .or .u64 (m1 : Int) (P : Int)))) (w.heap.size + 1 + 1) (k : Nat) (Bt.msk cs 0 (j + 1)) (Bt.msk cs 1 (j + 1)) (Bt.msk cs 2 (j + 1)) := fun h => by
          have e1 : Bt.msk cs 1 (j + 1) = m1 ||| P := by rw [Bt.msk_yes Hx.out, Hm1.out, HP.out]
          have e0 : Bt.msk cs 0 (j + 1) = m0 := by rw [Bt.msk_no (by rw [Hx.out]; decide), Hm0.out]
          have e2 : Bt.msk cs 2 (j + 1) = m2 := by rw [Bt.msk_no (by rw [Hx.out]; decide), Hm2.out]
          rw [e0, e1, e2, R1.out]
          exact h.set2 _
        have Hfin := Lib.hid (hfin P1.out)
        have P0' := Lib.hid (P0.out.far (p := ⟨w.heap.size + 1 + 1, 2, none⟩) (by show w.heap.size + 1 ≠ w.heap.size + 1 + 1; omega) (.int .u64 (bits .or .u64 (m1 : Int) (P : Int))))
        have Hb' := Lib.hid (Hb.out.setCell (p := ⟨w.heap.size + 1 + 1, 2, none⟩) (by show w.heap.size ≤ w.heap.size + 1 + 1; omega) (.int .u64 (bits .or .u64 (m1 : Int) (P : Int))))
        clear hfin
        go_wp2_with fail
        go_region_with (go_at_call 54; refine (i_onlyN _ j P _ rfl HP.out (by omega)).mono ?_; rintro e w' ⟨rfl, rfl⟩)
        all_goals
          go_wp2_with fail
          go_roundw
          case rel => exact ⟨j + 1, by omega, by go_num, Hfin.out, P0'.out, ⟨Hb'.out.os, Hb'.out.tape, Hb'.out.output, Hb'.out.size, Hb'.out.block⟩⟩
          case measure => simp [intOf]; omega
      · have p1 := P1.out.c3
        have f1 := P1.out.fz 3
        have hfin : Px wr (w.heap.size + 1 + 1) (k : Nat) m0 m1 m2 → Px (wr.setCell ⟨w.heap.size + 1 + 1, 3, none⟩ (.int .u64 (bits .or .u64 (m2 : Int) (P : Int)))) (w.heap.size + 1 + 1) (k : Nat) (Bt.msk cs 0 (j + 1)) (Bt.msk cs 1 (j + 1)) (Bt.msk cs 2 (j + 1)) := fun h => by
          have e2 : Bt.msk cs 2 (j + 1) = m2 ||| P := by rw [Bt.msk_yes Hx.out, Hm2.out, HP.out]
          have e0 : Bt.msk cs 0 (j + 1) = m0 := by rw [Bt.msk_no (by rw [Hx.out]; decide), Hm0.out]
          have e1 : Bt.msk cs 1 (j + 1) = m1 := by rw [Bt.msk_no (by rw [Hx.out]; decide), Hm1.out]
          rw [e0, e1, e2, R2.out]
          exact h.set3 _
        have Hfin := Lib.hid (hfin P1.out)
        have P0' := Lib.hid (P0.out.far (p := ⟨w.heap.size + 1 + 1, 3, none⟩) (by show w.heap.size + 1 ≠ w.heap.size + 1 + 1; omega) (.int .u64 (bits .or .u64 (m2 : Int) (P : Int))))
        have Hb' := Lib.hid (Hb.out.setCell (p := ⟨w.heap.size + 1 + 1, 3, none⟩) (by show w.heap.size ≤ w.heap.size + 1 + 1; omega) (.int .u64 (bits .or .u64 (m2 : Int) (P : Int))))
        clear hfin
        go_wp2_with fail
        go_region_with (go_at_call 54; refine (i_onlyN _ j P _ rfl HP.out (by omega)).mono ?_; rintro e w' ⟨rfl, rfl⟩)
        all_goals
          go_wp2_with fail
          go_roundw
          case rel => exact ⟨j + 1, by omega, by go_num, Hfin.out, P0'.out, ⟨Hb'.out.os, Hb'.out.tape, Hb'.out.output, Hb'.out.size, Hb'.out.block⟩⟩
          case measure => simp [intOf]; omega
    · have c0 := P1.out.c0
      have c1 := P1.out.c1
      have c2 := P1.out.c2
      have c3 := P1.out.c3
      have d0 := P0.out.c0
      have d1 := P0.out.c1
      have d2 := P0.out.c2
      have d3 := P0.out.c3
      have f0 := P0.out.fz 0
      have f1 := P0.out.fz 1
      have f2 := P0.out.fz 2
      have f3 := P0.out.fz 3
      have hlt := P0.out.lt
      have hjn' : n = j := by omega
      have HJ := Lib.hid hjn'
      have hge : ¬ (j : Int) < n := by omega
      obtain ⟨m0, hm0⟩ : ∃ m, Bt.msk cs 0 j = m := ⟨_, rfl⟩
      obtain ⟨m1, hm1⟩ : ∃ m, Bt.msk cs 1 j = m := ⟨_, rfl⟩
      obtain ⟨m2, hm2⟩ : ∃ m, Bt.msk cs 2 j = m := ⟨_, rfl⟩
      rw [hm0] at c1
      rw [hm1] at c2
      rw [hm2] at c3
      have Hm0 := Lib.hid hm0
      have Hm1 := Lib.hid hm1
      have Hm2 := Lib.hid hm2
      have Hb' := Lib.hid ((((Hb.out.setCell (p := ⟨w.heap.size + 1, 0, none⟩) (by show w.heap.size ≤ w.heap.size + 1; omega) (.int .i64 (k : Nat))).setCell (p := ⟨w.heap.size + 1, 1, none⟩) (by show w.heap.size ≤ w.heap.size + 1; omega) (.int .u64 (m0 : Nat))).setCell (p := ⟨w.heap.size + 1, 2, none⟩) (by show w.heap.size ≤ w.heap.size + 1; omega) (.int .u64 (m1 : Nat))).setCell (p := ⟨w.heap.size + 1, 3, none⟩) (by show w.heap.size ≤ w.heap.size + 1; omega) (.int .u64 (m2 : Nat)))
      have t0 : Px wr (w.heap.size + 1) 0 0 0 0 := P0.out
      have t1 : Px ((((wr.setCell ⟨w.heap.size + 1, 0, none⟩ (.int .i64 (k : Nat))).setCell ⟨w.heap.size + 1, 1, none⟩ (.int .u64 (m0 : Nat))).setCell ⟨w.heap.size + 1, 2, none⟩ (.int .u64 (m1 : Nat))).setCell ⟨w.heap.size + 1, 3, none⟩ (.int .u64 (m2 : Nat))) (w.heap.size + 1) (k : Nat) m0 m1 m2 := (((t0.set0 (k : Nat)).set1 m0).set2 m1).set3 m2
      have T1 := Lib.hid t1
      clear hm0 hm1 hm2 t0 t1 hjn' hjn
      go_wp2_with fail
      have k0 := T1.out.c0
      have k1 := T1.out.c1
      have k2 := T1.out.c2
      have k3 := T1.out.c3
      refine bodyPost_ret (v := .agg #[.int .i64 (k : Nat), .int .u64 (m0 : Nat), .int .u64 (m1 : Nat), .int .u64 (m2 : Nat)]) (by simp [results, Tryd.results32, go_sem, k0, k1, k2, k3]) rfl ?_
      exact ⟨by rw [HJ.out, Hm0.out, Hm1.out, Hm2.out], Hb'.out⟩
end Go.Proofs.YteldfjibmaigiaaDoor

namespace Go.Proofs.YteldfjibmaigiaaDoor
set_option maxRecDepth 100000
open Go.RowKit

section
variable (s E B W m : Nat) (w : World)
set_option maxHeartbeats 2000000 in
theorem i_rec01 (hi : E < 18446744073709551616) (hj : B < 18446744073709551616) (hm : m < 18446744073709551616) : Calls Tryd.prog 56 #[.agg #[.int .i64 (s : Nat), .int .u64 (E : Nat), .int .u64 (B : Nat), .int .u64 (W : Nat)], .int .u64 (m : Nat), .int .i64 0, .int .i64 1] w fun e w' => e = .returned (.agg #[.int .i64 (s : Nat), .int .u64 ((E &&& (18446744073709551615 - m) : Nat) : Nat), .int .u64 ((B ||| m : Nat) : Nat), .int .u64 ((W : Nat) : Nat)]) ∧ Below w.heap.size w w' := by
  obtain ⟨F, hF⟩ : ∃ F, F = E &&& (18446744073709551615 - m) := ⟨_, rfl⟩
  obtain ⟨T, hT⟩ : ∃ T, T = B ||| m := ⟨_, rfl⟩
  have r1 : bits .andNot .u64 (E : Int) (m : Int) = (F : Int) := by rw [hF]; exact u64_andNot_nat _ _ (by omega) (by omega)
  have r2 : bits .or .u64 (B : Int) (m : Int) = (T : Int) := by rw [hT]; exact u64_or_nat _ _ (by omega) (by omega)
  rw [← hF, ← hT]
  clear hF hT hi hj hm
  have e1 : (w.alloc (.cells #[.int .i64 (s : Nat), .int .u64 (E : Nat), .int .u64 (B : Nat), .int .u64 (W : Nat)] 58)).heap.size = w.heap.size + 1 := by simp
  have p0 := (Px.new w (s : Nat) E B W).step ((Below.refl (w.alloc (.cells #[.int .i64 (s : Nat), .int .u64 (E : Nat), .int .u64 (B : Nat), .int .u64 (W : Nat)] 58)).heap.size (w.alloc (.cells #[.int .i64 (s : Nat), .int .u64 (E : Nat), .int .u64 (B : Nat), .int .u64 (W : Nat)] 58))).alloc (Nat.le_refl _) (.cells #[.int .i64 0, .int .u64 0, .int .u64 0, .int .u64 0] 58))
  have p1 := Px.new (w.alloc (.cells #[.int .i64 (s : Nat), .int .u64 (E : Nat), .int .u64 (B : Nat), .int .u64 (W : Nat)] 58)) 0 0 0 0
  have hb2 : Below w.heap.size w ((w.alloc (.cells #[.int .i64 (s : Nat), .int .u64 (E : Nat), .int .u64 (B : Nat), .int .u64 (W : Nat)] 58)).alloc (.cells #[.int .i64 0, .int .u64 0, .int .u64 0, .int .u64 0] 58)) := ((Below.refl _ _).alloc (Nat.le_refl _) _).alloc (by simp) _
  rw [e1] at p1
  obtain ⟨y, hy⟩ : ∃ y, y = (w.alloc (.cells #[.int .i64 (s : Nat), .int .u64 (E : Nat), .int .u64 (B : Nat), .int .u64 (W : Nat)] 58)).alloc (.cells #[.int .i64 0, .int .u64 0, .int .u64 0, .int .u64 0] 58) := ⟨_, rfl⟩
  have P0 : Hid (Px y w.heap.size (s : Nat) E B W) := Lib.hid (by rw [hy]; exact p0)
  have P1 : Hid (Px y (w.heap.size + 1) 0 0 0 0) := Lib.hid (by rw [hy]; exact p1)
  have Hb : Hid (Below w.heap.size w y) := Lib.hid (by rw [hy]; exact hb2)
  clear e1 p0 p1 hb2
  go_enter Tryd.func56, Tryd.ntmps56
  go_upto_region 1 with (fail)
  rw [← hy]
  clear hy
  have c := P0.out.c1
  have f := P0.out.fz 1
  have hz := P0.out.lt
  have hz1 := P1.out.lt
  go_upto_region 2 with (fail)
  obtain ⟨y2, hy2⟩ : ∃ y2, y2 = y.setCell ⟨w.heap.size, 1, none⟩ (.int .u64 (F : Nat)) := ⟨_, rfl⟩
  have P02 : Hid (Px y2 w.heap.size (s : Nat) F B W) := Lib.hid (by rw [hy2]; exact P0.out.set1 F)
  have P12 : Hid (Px y2 (w.heap.size + 1) 0 0 0 0) := Lib.hid (by rw [hy2]; exact P1.out.far (p := ⟨w.heap.size, 1, none⟩) (by show w.heap.size + 1 ≠ w.heap.size; omega) _)
  have Hb2 : Hid (Below w.heap.size w y2) := Lib.hid (by rw [hy2]; exact Hb.out.setCell (p := ⟨w.heap.size, 1, none⟩) (Nat.le_refl _) _)
  first | rw [← hy2] | rw [show (World.setCell y { block := w.heap.size, off := 1, view := none } _) = y2 from hy2.symm]
  clear hy2 c f hz hz1 P0 P1 Hb
  have c := P02.out.c2
  have f := P02.out.fz 2
  have hz := P02.out.lt
  have hz1 := P12.out.lt
  go_upto_region 3 with (fail)
  obtain ⟨y3, hy3⟩ : ∃ y3, y3 = y2.setCell ⟨w.heap.size, 2, none⟩ (.int .u64 (T : Nat)) := ⟨_, rfl⟩
  have P03 : Hid (Px y3 w.heap.size (s : Nat) F T W) := Lib.hid (by rw [hy3]; exact P02.out.set2 T)
  have P13 : Hid (Px y3 (w.heap.size + 1) 0 0 0 0) := Lib.hid (by rw [hy3]; exact P12.out.far (p := ⟨w.heap.size, 2, none⟩) (by show w.heap.size + 1 ≠ w.heap.size; omega) _)
  have Hb3 : Hid (Below w.heap.size w y3) := Lib.hid (by rw [hy3]; exact Hb2.out.setCell (p := ⟨w.heap.size, 2, none⟩) (Nat.le_refl _) _)
  rw [← hy3]
  clear hy3 c f hz hz1 P02 P12 Hb2
  have c0 := P03.out.c0
  have c1 := P03.out.c1
  have c2 := P03.out.c2
  have c3 := P03.out.c3
  have d0 := P13.out.c0
  have d1 := P13.out.c1
  have d2 := P13.out.c2
  have d3 := P13.out.c3
  have f0 := P13.out.fz 0
  have f1 := P13.out.fz 1
  have f2 := P13.out.fz 2
  have f3 := P13.out.fz 3
  have hlt := P13.out.lt
  have T1 : Hid (Px ((((y3.setCell ⟨w.heap.size + 1, 0, none⟩ (.int .i64 (s : Nat))).setCell ⟨w.heap.size + 1, 1, none⟩ (.int .u64 (F : Nat))).setCell ⟨w.heap.size + 1, 2, none⟩ (.int .u64 (T : Nat))).setCell ⟨w.heap.size + 1, 3, none⟩ (.int .u64 (W : Nat))) (w.heap.size + 1) (s : Nat) F T W) := Lib.hid ((((P13.out.set0 (s : Nat)).set1 F).set2 T).set3 W)
  have Hb4 := Lib.hid ((((Hb3.out.setCell (p := ⟨w.heap.size + 1, 0, none⟩) (by show w.heap.size ≤ w.heap.size + 1; omega) (.int .i64 (s : Nat))).setCell (p := ⟨w.heap.size + 1, 1, none⟩) (by show w.heap.size ≤ w.heap.size + 1; omega) (.int .u64 (F : Nat))).setCell (p := ⟨w.heap.size + 1, 2, none⟩) (by show w.heap.size ≤ w.heap.size + 1; omega) (.int .u64 (T : Nat))).setCell (p := ⟨w.heap.size + 1, 3, none⟩) (by show w.heap.size ≤ w.heap.size + 1; omega) (.int .u64 (W : Nat)))
  go_wp2_with fail
  have k0 := T1.out.c0
  have k1 := T1.out.c1
  have k2 := T1.out.c2
  have k3 := T1.out.c3
  refine bodyPost_ret (v := .agg #[.int .i64 (s : Nat), .int .u64 (F : Nat), .int .u64 (T : Nat), .int .u64 (W : Nat)]) (by simp [results, Tryd.results56, go_sem, k0, k1, k2, k3]) rfl ?_
  exact ⟨rfl, Hb4.out⟩

set_option maxHeartbeats 2000000 in
theorem i_rec02 (hi : E < 18446744073709551616) (hj : W < 18446744073709551616) (hm : m < 18446744073709551616) : Calls Tryd.prog 56 #[.agg #[.int .i64 (s : Nat), .int .u64 (E : Nat), .int .u64 (B : Nat), .int .u64 (W : Nat)], .int .u64 (m : Nat), .int .i64 0, .int .i64 2] w fun e w' => e = .returned (.agg #[.int .i64 (s : Nat), .int .u64 ((E &&& (18446744073709551615 - m) : Nat) : Nat), .int .u64 ((B : Nat) : Nat), .int .u64 ((W ||| m : Nat) : Nat)]) ∧ Below w.heap.size w w' := by
  obtain ⟨F, hF⟩ : ∃ F, F = E &&& (18446744073709551615 - m) := ⟨_, rfl⟩
  obtain ⟨T, hT⟩ : ∃ T, T = W ||| m := ⟨_, rfl⟩
  have r1 : bits .andNot .u64 (E : Int) (m : Int) = (F : Int) := by rw [hF]; exact u64_andNot_nat _ _ (by omega) (by omega)
  have r2 : bits .or .u64 (W : Int) (m : Int) = (T : Int) := by rw [hT]; exact u64_or_nat _ _ (by omega) (by omega)
  rw [← hF, ← hT]
  clear hF hT hi hj hm
  have e1 : (w.alloc (.cells #[.int .i64 (s : Nat), .int .u64 (E : Nat), .int .u64 (B : Nat), .int .u64 (W : Nat)] 58)).heap.size = w.heap.size + 1 := by simp
  have p0 := (Px.new w (s : Nat) E B W).step ((Below.refl (w.alloc (.cells #[.int .i64 (s : Nat), .int .u64 (E : Nat), .int .u64 (B : Nat), .int .u64 (W : Nat)] 58)).heap.size (w.alloc (.cells #[.int .i64 (s : Nat), .int .u64 (E : Nat), .int .u64 (B : Nat), .int .u64 (W : Nat)] 58))).alloc (Nat.le_refl _) (.cells #[.int .i64 0, .int .u64 0, .int .u64 0, .int .u64 0] 58))
  have p1 := Px.new (w.alloc (.cells #[.int .i64 (s : Nat), .int .u64 (E : Nat), .int .u64 (B : Nat), .int .u64 (W : Nat)] 58)) 0 0 0 0
  have hb2 : Below w.heap.size w ((w.alloc (.cells #[.int .i64 (s : Nat), .int .u64 (E : Nat), .int .u64 (B : Nat), .int .u64 (W : Nat)] 58)).alloc (.cells #[.int .i64 0, .int .u64 0, .int .u64 0, .int .u64 0] 58)) := ((Below.refl _ _).alloc (Nat.le_refl _) _).alloc (by simp) _
  rw [e1] at p1
  obtain ⟨y, hy⟩ : ∃ y, y = (w.alloc (.cells #[.int .i64 (s : Nat), .int .u64 (E : Nat), .int .u64 (B : Nat), .int .u64 (W : Nat)] 58)).alloc (.cells #[.int .i64 0, .int .u64 0, .int .u64 0, .int .u64 0] 58) := ⟨_, rfl⟩
  have P0 : Hid (Px y w.heap.size (s : Nat) E B W) := Lib.hid (by rw [hy]; exact p0)
  have P1 : Hid (Px y (w.heap.size + 1) 0 0 0 0) := Lib.hid (by rw [hy]; exact p1)
  have Hb : Hid (Below w.heap.size w y) := Lib.hid (by rw [hy]; exact hb2)
  clear e1 p0 p1 hb2
  go_enter Tryd.func56, Tryd.ntmps56
  go_upto_region 1 with (fail)
  rw [← hy]
  clear hy
  have c := P0.out.c1
  have f := P0.out.fz 1
  have hz := P0.out.lt
  have hz1 := P1.out.lt
  go_upto_region 2 with (fail)
  obtain ⟨y2, hy2⟩ : ∃ y2, y2 = y.setCell ⟨w.heap.size, 1, none⟩ (.int .u64 (F : Nat)) := ⟨_, rfl⟩
  have P02 : Hid (Px y2 w.heap.size (s : Nat) F B W) := Lib.hid (by rw [hy2]; exact P0.out.set1 F)
  have P12 : Hid (Px y2 (w.heap.size + 1) 0 0 0 0) := Lib.hid (by rw [hy2]; exact P1.out.far (p := ⟨w.heap.size, 1, none⟩) (by show w.heap.size + 1 ≠ w.heap.size; omega) _)
  have Hb2 : Hid (Below w.heap.size w y2) := Lib.hid (by rw [hy2]; exact Hb.out.setCell (p := ⟨w.heap.size, 1, none⟩) (Nat.le_refl _) _)
  first | rw [← hy2] | rw [show (World.setCell y { block := w.heap.size, off := 1, view := none } _) = y2 from hy2.symm]
  clear hy2 c f hz hz1 P0 P1 Hb
  have c := P02.out.c3
  have f := P02.out.fz 3
  have hz := P02.out.lt
  have hz1 := P12.out.lt
  go_upto_region 3 with (fail)
  obtain ⟨y3, hy3⟩ : ∃ y3, y3 = y2.setCell ⟨w.heap.size, 3, none⟩ (.int .u64 (T : Nat)) := ⟨_, rfl⟩
  have P03 : Hid (Px y3 w.heap.size (s : Nat) F B T) := Lib.hid (by rw [hy3]; exact P02.out.set3 T)
  have P13 : Hid (Px y3 (w.heap.size + 1) 0 0 0 0) := Lib.hid (by rw [hy3]; exact P12.out.far (p := ⟨w.heap.size, 3, none⟩) (by show w.heap.size + 1 ≠ w.heap.size; omega) _)
  have Hb3 : Hid (Below w.heap.size w y3) := Lib.hid (by rw [hy3]; exact Hb2.out.setCell (p := ⟨w.heap.size, 3, none⟩) (Nat.le_refl _) _)
  rw [← hy3]
  clear hy3 c f hz hz1 P02 P12 Hb2
  have c0 := P03.out.c0
  have c1 := P03.out.c1
  have c2 := P03.out.c2
  have c3 := P03.out.c3
  have d0 := P13.out.c0
  have d1 := P13.out.c1
  have d2 := P13.out.c2
  have d3 := P13.out.c3
  have f0 := P13.out.fz 0
  have f1 := P13.out.fz 1
  have f2 := P13.out.fz 2
  have f3 := P13.out.fz 3
  have hlt := P13.out.lt
  have T1 : Hid (Px ((((y3.setCell ⟨w.heap.size + 1, 0, none⟩ (.int .i64 (s : Nat))).setCell ⟨w.heap.size + 1, 1, none⟩ (.int .u64 (F : Nat))).setCell ⟨w.heap.size + 1, 2, none⟩ (.int .u64 (B : Nat))).setCell ⟨w.heap.size + 1, 3, none⟩ (.int .u64 (T : Nat))) (w.heap.size + 1) (s : Nat) F B T) := Lib.hid ((((P13.out.set0 (s : Nat)).set1 F).set2 B).set3 T)
  have Hb4 := Lib.hid ((((Hb3.out.setCell (p := ⟨w.heap.size + 1, 0, none⟩) (by show w.heap.size ≤ w.heap.size + 1; omega) (.int .i64 (s : Nat))).setCell (p := ⟨w.heap.size + 1, 1, none⟩) (by show w.heap.size ≤ w.heap.size + 1; omega) (.int .u64 (F : Nat))).setCell (p := ⟨w.heap.size + 1, 2, none⟩) (by show w.heap.size ≤ w.heap.size + 1; omega) (.int .u64 (B : Nat))).setCell (p := ⟨w.heap.size + 1, 3, none⟩) (by show w.heap.size ≤ w.heap.size + 1; omega) (.int .u64 (T : Nat)))
  go_wp2_with fail
  have k0 := T1.out.c0
  have k1 := T1.out.c1
  have k2 := T1.out.c2
  have k3 := T1.out.c3
  refine bodyPost_ret (v := .agg #[.int .i64 (s : Nat), .int .u64 (F : Nat), .int .u64 (B : Nat), .int .u64 (T : Nat)]) (by simp [results, Tryd.results56, go_sem, k0, k1, k2, k3]) rfl ?_
  exact ⟨rfl, Hb4.out⟩

set_option maxHeartbeats 2000000 in
theorem i_rec10 (hi : B < 18446744073709551616) (hj : E < 18446744073709551616) (hm : m < 18446744073709551616) : Calls Tryd.prog 56 #[.agg #[.int .i64 (s : Nat), .int .u64 (E : Nat), .int .u64 (B : Nat), .int .u64 (W : Nat)], .int .u64 (m : Nat), .int .i64 1, .int .i64 0] w fun e w' => e = .returned (.agg #[.int .i64 (s : Nat), .int .u64 ((E ||| m : Nat) : Nat), .int .u64 ((B &&& (18446744073709551615 - m) : Nat) : Nat), .int .u64 ((W : Nat) : Nat)]) ∧ Below w.heap.size w w' := by
  obtain ⟨F, hF⟩ : ∃ F, F = B &&& (18446744073709551615 - m) := ⟨_, rfl⟩
  obtain ⟨T, hT⟩ : ∃ T, T = E ||| m := ⟨_, rfl⟩
  have r1 : bits .andNot .u64 (B : Int) (m : Int) = (F : Int) := by rw [hF]; exact u64_andNot_nat _ _ (by omega) (by omega)
  have r2 : bits .or .u64 (E : Int) (m : Int) = (T : Int) := by rw [hT]; exact u64_or_nat _ _ (by omega) (by omega)
  rw [← hF, ← hT]
  clear hF hT hi hj hm
  have e1 : (w.alloc (.cells #[.int .i64 (s : Nat), .int .u64 (E : Nat), .int .u64 (B : Nat), .int .u64 (W : Nat)] 58)).heap.size = w.heap.size + 1 := by simp
  have p0 := (Px.new w (s : Nat) E B W).step ((Below.refl (w.alloc (.cells #[.int .i64 (s : Nat), .int .u64 (E : Nat), .int .u64 (B : Nat), .int .u64 (W : Nat)] 58)).heap.size (w.alloc (.cells #[.int .i64 (s : Nat), .int .u64 (E : Nat), .int .u64 (B : Nat), .int .u64 (W : Nat)] 58))).alloc (Nat.le_refl _) (.cells #[.int .i64 0, .int .u64 0, .int .u64 0, .int .u64 0] 58))
  have p1 := Px.new (w.alloc (.cells #[.int .i64 (s : Nat), .int .u64 (E : Nat), .int .u64 (B : Nat), .int .u64 (W : Nat)] 58)) 0 0 0 0
  have hb2 : Below w.heap.size w ((w.alloc (.cells #[.int .i64 (s : Nat), .int .u64 (E : Nat), .int .u64 (B : Nat), .int .u64 (W : Nat)] 58)).alloc (.cells #[.int .i64 0, .int .u64 0, .int .u64 0, .int .u64 0] 58)) := ((Below.refl _ _).alloc (Nat.le_refl _) _).alloc (by simp) _
  rw [e1] at p1
  obtain ⟨y, hy⟩ : ∃ y, y = (w.alloc (.cells #[.int .i64 (s : Nat), .int .u64 (E : Nat), .int .u64 (B : Nat), .int .u64 (W : Nat)] 58)).alloc (.cells #[.int .i64 0, .int .u64 0, .int .u64 0, .int .u64 0] 58) := ⟨_, rfl⟩
  have P0 : Hid (Px y w.heap.size (s : Nat) E B W) := Lib.hid (by rw [hy]; exact p0)
  have P1 : Hid (Px y (w.heap.size + 1) 0 0 0 0) := Lib.hid (by rw [hy]; exact p1)
  have Hb : Hid (Below w.heap.size w y) := Lib.hid (by rw [hy]; exact hb2)
  clear e1 p0 p1 hb2
  go_enter Tryd.func56, Tryd.ntmps56
  go_upto_region 1 with (fail)
  rw [← hy]
  clear hy
  have c := P0.out.c2
  have f := P0.out.fz 2
  have hz := P0.out.lt
  have hz1 := P1.out.lt
  go_upto_region 2 with (fail)
  obtain ⟨y2, hy2⟩ : ∃ y2, y2 = y.setCell ⟨w.heap.size, 2, none⟩ (.int .u64 (F : Nat)) := ⟨_, rfl⟩
  have P02 : Hid (Px y2 w.heap.size (s : Nat) E F W) := Lib.hid (by rw [hy2]; exact P0.out.set2 F)
  have P12 : Hid (Px y2 (w.heap.size + 1) 0 0 0 0) := Lib.hid (by rw [hy2]; exact P1.out.far (p := ⟨w.heap.size, 2, none⟩) (by show w.heap.size + 1 ≠ w.heap.size; omega) _)
  have Hb2 : Hid (Below w.heap.size w y2) := Lib.hid (by rw [hy2]; exact Hb.out.setCell (p := ⟨w.heap.size, 2, none⟩) (Nat.le_refl _) _)
  first | rw [← hy2] | rw [show (World.setCell y { block := w.heap.size, off := 2, view := none } _) = y2 from hy2.symm]
  clear hy2 c f hz hz1 P0 P1 Hb
  have c := P02.out.c1
  have f := P02.out.fz 1
  have hz := P02.out.lt
  have hz1 := P12.out.lt
  go_upto_region 3 with (fail)
  obtain ⟨y3, hy3⟩ : ∃ y3, y3 = y2.setCell ⟨w.heap.size, 1, none⟩ (.int .u64 (T : Nat)) := ⟨_, rfl⟩
  have P03 : Hid (Px y3 w.heap.size (s : Nat) T F W) := Lib.hid (by rw [hy3]; exact P02.out.set1 T)
  have P13 : Hid (Px y3 (w.heap.size + 1) 0 0 0 0) := Lib.hid (by rw [hy3]; exact P12.out.far (p := ⟨w.heap.size, 1, none⟩) (by show w.heap.size + 1 ≠ w.heap.size; omega) _)
  have Hb3 : Hid (Below w.heap.size w y3) := Lib.hid (by rw [hy3]; exact Hb2.out.setCell (p := ⟨w.heap.size, 1, none⟩) (Nat.le_refl _) _)
  rw [← hy3]
  clear hy3 c f hz hz1 P02 P12 Hb2
  have c0 := P03.out.c0
  have c1 := P03.out.c1
  have c2 := P03.out.c2
  have c3 := P03.out.c3
  have d0 := P13.out.c0
  have d1 := P13.out.c1
  have d2 := P13.out.c2
  have d3 := P13.out.c3
  have f0 := P13.out.fz 0
  have f1 := P13.out.fz 1
  have f2 := P13.out.fz 2
  have f3 := P13.out.fz 3
  have hlt := P13.out.lt
  have T1 : Hid (Px ((((y3.setCell ⟨w.heap.size + 1, 0, none⟩ (.int .i64 (s : Nat))).setCell ⟨w.heap.size + 1, 1, none⟩ (.int .u64 (T : Nat))).setCell ⟨w.heap.size + 1, 2, none⟩ (.int .u64 (F : Nat))).setCell ⟨w.heap.size + 1, 3, none⟩ (.int .u64 (W : Nat))) (w.heap.size + 1) (s : Nat) T F W) := Lib.hid ((((P13.out.set0 (s : Nat)).set1 T).set2 F).set3 W)
  have Hb4 := Lib.hid ((((Hb3.out.setCell (p := ⟨w.heap.size + 1, 0, none⟩) (by show w.heap.size ≤ w.heap.size + 1; omega) (.int .i64 (s : Nat))).setCell (p := ⟨w.heap.size + 1, 1, none⟩) (by show w.heap.size ≤ w.heap.size + 1; omega) (.int .u64 (T : Nat))).setCell (p := ⟨w.heap.size + 1, 2, none⟩) (by show w.heap.size ≤ w.heap.size + 1; omega) (.int .u64 (F : Nat))).setCell (p := ⟨w.heap.size + 1, 3, none⟩) (by show w.heap.size ≤ w.heap.size + 1; omega) (.int .u64 (W : Nat)))
  go_wp2_with fail
  have k0 := T1.out.c0
  have k1 := T1.out.c1
  have k2 := T1.out.c2
  have k3 := T1.out.c3
  refine bodyPost_ret (v := .agg #[.int .i64 (s : Nat), .int .u64 (T : Nat), .int .u64 (F : Nat), .int .u64 (W : Nat)]) (by simp [results, Tryd.results56, go_sem, k0, k1, k2, k3]) rfl ?_
  exact ⟨rfl, Hb4.out⟩

set_option maxHeartbeats 2000000 in
theorem i_rec20 (hi : W < 18446744073709551616) (hj : E < 18446744073709551616) (hm : m < 18446744073709551616) : Calls Tryd.prog 56 #[.agg #[.int .i64 (s : Nat), .int .u64 (E : Nat), .int .u64 (B : Nat), .int .u64 (W : Nat)], .int .u64 (m : Nat), .int .i64 2, .int .i64 0] w fun e w' => e = .returned (.agg #[.int .i64 (s : Nat), .int .u64 ((E ||| m : Nat) : Nat), .int .u64 ((B : Nat) : Nat), .int .u64 ((W &&& (18446744073709551615 - m) : Nat) : Nat)]) ∧ Below w.heap.size w w' := by
  obtain ⟨F, hF⟩ : ∃ F, F = W &&& (18446744073709551615 - m) := ⟨_, rfl⟩
  obtain ⟨T, hT⟩ : ∃ T, T = E ||| m := ⟨_, rfl⟩
  have r1 : bits .andNot .u64 (W : Int) (m : Int) = (F : Int) := by rw [hF]; exact u64_andNot_nat _ _ (by omega) (by omega)
  have r2 : bits .or .u64 (E : Int) (m : Int) = (T : Int) := by rw [hT]; exact u64_or_nat _ _ (by omega) (by omega)
  rw [← hF, ← hT]
  clear hF hT hi hj hm
  have e1 : (w.alloc (.cells #[.int .i64 (s : Nat), .int .u64 (E : Nat), .int .u64 (B : Nat), .int .u64 (W : Nat)] 58)).heap.size = w.heap.size + 1 := by simp
  have p0 := (Px.new w (s : Nat) E B W).step ((Below.refl (w.alloc (.cells #[.int .i64 (s : Nat), .int .u64 (E : Nat), .int .u64 (B : Nat), .int .u64 (W : Nat)] 58)).heap.size (w.alloc (.cells #[.int .i64 (s : Nat), .int .u64 (E : Nat), .int .u64 (B : Nat), .int .u64 (W : Nat)] 58))).alloc (Nat.le_refl _) (.cells #[.int .i64 0, .int .u64 0, .int .u64 0, .int .u64 0] 58))
  have p1 := Px.new (w.alloc (.cells #[.int .i64 (s : Nat), .int .u64 (E : Nat), .int .u64 (B : Nat), .int .u64 (W : Nat)] 58)) 0 0 0 0
  have hb2 : Below w.heap.size w ((w.alloc (.cells #[.int .i64 (s : Nat), .int .u64 (E : Nat), .int .u64 (B : Nat), .int .u64 (W : Nat)] 58)).alloc (.cells #[.int .i64 0, .int .u64 0, .int .u64 0, .int .u64 0] 58)) := ((Below.refl _ _).alloc (Nat.le_refl _) _).alloc (by simp) _
  rw [e1] at p1
  obtain ⟨y, hy⟩ : ∃ y, y = (w.alloc (.cells #[.int .i64 (s : Nat), .int .u64 (E : Nat), .int .u64 (B : Nat), .int .u64 (W : Nat)] 58)).alloc (.cells #[.int .i64 0, .int .u64 0, .int .u64 0, .int .u64 0] 58) := ⟨_, rfl⟩
  have P0 : Hid (Px y w.heap.size (s : Nat) E B W) := Lib.hid (by rw [hy]; exact p0)
  have P1 : Hid (Px y (w.heap.size + 1) 0 0 0 0) := Lib.hid (by rw [hy]; exact p1)
  have Hb : Hid (Below w.heap.size w y) := Lib.hid (by rw [hy]; exact hb2)
  clear e1 p0 p1 hb2
  go_enter Tryd.func56, Tryd.ntmps56
  go_upto_region 1 with (fail)
  rw [← hy]
  clear hy
  have c := P0.out.c3
  have f := P0.out.fz 3
  have hz := P0.out.lt
  have hz1 := P1.out.lt
  go_upto_region 2 with (fail)
  obtain ⟨y2, hy2⟩ : ∃ y2, y2 = y.setCell ⟨w.heap.size, 3, none⟩ (.int .u64 (F : Nat)) := ⟨_, rfl⟩
  have P02 : Hid (Px y2 w.heap.size (s : Nat) E B F) := Lib.hid (by rw [hy2]; exact P0.out.set3 F)
  have P12 : Hid (Px y2 (w.heap.size + 1) 0 0 0 0) := Lib.hid (by rw [hy2]; exact P1.out.far (p := ⟨w.heap.size, 3, none⟩) (by show w.heap.size + 1 ≠ w.heap.size; omega) _)
  have Hb2 : Hid (Below w.heap.size w y2) := Lib.hid (by rw [hy2]; exact Hb.out.setCell (p := ⟨w.heap.size, 3, none⟩) (Nat.le_refl _) _)
  first | rw [← hy2] | rw [show (World.setCell y { block := w.heap.size, off := 3, view := none } _) = y2 from hy2.symm]
  clear hy2 c f hz hz1 P0 P1 Hb
  have c := P02.out.c1
  have f := P02.out.fz 1
  have hz := P02.out.lt
  have hz1 := P12.out.lt
  go_upto_region 3 with (fail)
  obtain ⟨y3, hy3⟩ : ∃ y3, y3 = y2.setCell ⟨w.heap.size, 1, none⟩ (.int .u64 (T : Nat)) := ⟨_, rfl⟩
  have P03 : Hid (Px y3 w.heap.size (s : Nat) T B F) := Lib.hid (by rw [hy3]; exact P02.out.set1 T)
  have P13 : Hid (Px y3 (w.heap.size + 1) 0 0 0 0) := Lib.hid (by rw [hy3]; exact P12.out.far (p := ⟨w.heap.size, 1, none⟩) (by show w.heap.size + 1 ≠ w.heap.size; omega) _)
  have Hb3 : Hid (Below w.heap.size w y3) := Lib.hid (by rw [hy3]; exact Hb2.out.setCell (p := ⟨w.heap.size, 1, none⟩) (Nat.le_refl _) _)
  rw [← hy3]
  clear hy3 c f hz hz1 P02 P12 Hb2
  have c0 := P03.out.c0
  have c1 := P03.out.c1
  have c2 := P03.out.c2
  have c3 := P03.out.c3
  have d0 := P13.out.c0
  have d1 := P13.out.c1
  have d2 := P13.out.c2
  have d3 := P13.out.c3
  have f0 := P13.out.fz 0
  have f1 := P13.out.fz 1
  have f2 := P13.out.fz 2
  have f3 := P13.out.fz 3
  have hlt := P13.out.lt
  have T1 : Hid (Px ((((y3.setCell ⟨w.heap.size + 1, 0, none⟩ (.int .i64 (s : Nat))).setCell ⟨w.heap.size + 1, 1, none⟩ (.int .u64 (T : Nat))).setCell ⟨w.heap.size + 1, 2, none⟩ (.int .u64 (B : Nat))).setCell ⟨w.heap.size + 1, 3, none⟩ (.int .u64 (F : Nat))) (w.heap.size + 1) (s : Nat) T B F) := Lib.hid ((((P13.out.set0 (s : Nat)).set1 T).set2 B).set3 F)
  have Hb4 := Lib.hid ((((Hb3.out.setCell (p := ⟨w.heap.size + 1, 0, none⟩) (by show w.heap.size ≤ w.heap.size + 1; omega) (.int .i64 (s : Nat))).setCell (p := ⟨w.heap.size + 1, 1, none⟩) (by show w.heap.size ≤ w.heap.size + 1; omega) (.int .u64 (T : Nat))).setCell (p := ⟨w.heap.size + 1, 2, none⟩) (by show w.heap.size ≤ w.heap.size + 1; omega) (.int .u64 (B : Nat))).setCell (p := ⟨w.heap.size + 1, 3, none⟩) (by show w.heap.size ≤ w.heap.size + 1; omega) (.int .u64 (F : Nat)))
  go_wp2_with fail
  have k0 := T1.out.c0
  have k1 := T1.out.c1
  have k2 := T1.out.c2
  have k3 := T1.out.c3
  refine bodyPost_ret (v := .agg #[.int .i64 (s : Nat), .int .u64 (T : Nat), .int .u64 (B : Nat), .int .u64 (F : Nat)]) (by simp [results, Tryd.results56, go_sem, k0, k1, k2, k3]) rfl ?_
  exact ⟨rfl, Hb4.out⟩

end
end Go.Proofs.YteldfjibmaigiaaDoor

namespace Go.Proofs.YteldfjibmaigiaaDoor
set_option maxRecDepth 100000
open Go.RowKit

/-- It only reads: what it draws alone may have changed. -/
def Qt (v : Value) (w : World) (e : Ending) (w' : World) : Prop := e = .returned v ∧ ∃ m, w' = w.drewN m

theorem i_around (s m : Nat) (w : World) (h1 : 1 ≤ s) (h2 : s ≤ 7) (hm : m < 2 ^ (s * s)) :
    Calls Tryd.prog 81 #[.int .u64 m, .int .i64 s] w fun e w' => e = .returned (.int .u64 ((Bt.aro s m : Nat) : Int)) ∧ ∃ d, w' = w.drewN d := by
  have h7 := (Bt.masks s h1 h2).2.2.2.2.2.2
  have hm64 : m < 18446744073709551616 := by omega
  have hb := Bt.bes_lt s m h1 h2 hm
  have ha := Bt.abv_lt s m
  have hor : bits .or .u64 ((Bt.bes s m : Nat) : Int) ((Bt.abv s m : Nat) : Int) = ((Bt.aro s m : Nat) : Int) := u64_or_nat _ _ (by omega) (by omega)
  have HO := Lib.hid hor
  clear hor hb ha h7 hm
  go_enter Tryd.func81, Tryd.ntmps81
  go_wp2_with fail
  refine (i_beside s m _ h1 h2 hm64).mono ?_
  rintro e w' ⟨rfl, rfl⟩
  go_wp2_with fail
  refine (i_above s m _ h1 h2 hm64).mono ?_
  rintro e w' ⟨k, rfl, rfl⟩
  go_wp2_with fail
  go_ret
  exact ⟨by rw [← HO.out]; rfl, _, rfl⟩
theorem i_oth1 (w : World) : Calls Tryd.prog 55 #[.int .i64 1] w fun e w' => e = .returned (.int .i64 2) ∧ w' = w := by
  go_enter Tryd.func55, Tryd.ntmps55
  go_wp2_with fail
  go_ret
  exact ⟨rfl, rfl⟩
theorem i_oth2 (w : World) : Calls Tryd.prog 55 #[.int .i64 2] w fun e w' => e = .returned (.int .i64 1) ∧ w' = w := by
  go_enter Tryd.func55, Tryd.ntmps55
  go_wp2_with fail
  go_ret
  exact ⟨rfl, rfl⟩
end Go.Proofs.YteldfjibmaigiaaDoor

namespace Go.Proofs.YteldfjibmaigiaaDoor
set_option maxRecDepth 100000
open Go.RowKit

/-- What the two errors' variables hold. -/
def Errs (w : World) (v0 v1 : Value) : Prop := w.cell? ⟨0, 0, none⟩ = some v0 ∧ w.cell? ⟨1, 0, none⟩ = some v1 ∧ 0 < w.heap.size ∧ 1 < w.heap.size
theorem Errs.below {w w' : World} {v0 v1 : Value} (h : Errs w v0 v1) (hb : Below w.heap.size w w') : Errs w' v0 v1 :=
  ⟨(hb.cell (p := ⟨_, 0, none⟩) h.2.2.1).trans h.1, (hb.cell (p := ⟨_, 0, none⟩) h.2.2.2).trans h.2.1, Nat.lt_of_lt_of_le h.2.2.1 hb.size, Nat.lt_of_lt_of_le h.2.2.2 hb.size⟩

section
variable (s p P E M O E1 M1 m1 E2 O2 m2 E3 M3 G : Nat) (su : Bool) (w : World) (v0 v1 : Value)
set_option maxRecDepth 100000 in
set_option maxHeartbeats 8000000 in
theorem i_playA1 (b1 b2 : Bool) (CO : Hid (∀ w, Calls Tryd.prog 54 #[.int .i64 (p : Nat)] w fun e w' => e = .returned (.int .u64 (P : Nat)) ∧ w = w'))
    (CR1 : Hid (b1 = false → ∀ w, Calls Tryd.prog 56 #[.agg #[.int .i64 (s : Nat), .int .u64 (E : Nat), .int .u64 (M : Nat), .int .u64 (O : Nat)], .int .u64 (P : Nat), .int .i64 0, .int .i64 1] w fun e w' => e = .returned (.agg #[.int .i64 (s : Nat), .int .u64 (E1 : Nat), .int .u64 (M1 : Nat), .int .u64 (O : Nat)]) ∧ Below w.heap.size w w'))
    (CW1 : Hid (b1 = false → ∀ w, Calls Tryd.prog 57 #[.agg #[.int .i64 (s : Nat), .int .u64 (E1 : Nat), .int .u64 (M1 : Nat), .int .u64 (O : Nat)], .int .i64 2] w fun e w' => e = .returned (.int .u64 (m1 : Nat)) ∧ Below w.heap.size w w'))
    (CR2 : Hid (b1 = false → ∀ w, Calls Tryd.prog 56 #[.agg #[.int .i64 (s : Nat), .int .u64 (E1 : Nat), .int .u64 (M1 : Nat), .int .u64 (O : Nat)], .int .u64 (m1 : Nat), .int .i64 2, .int .i64 0] w fun e w' => e = .returned (.agg #[.int .i64 (s : Nat), .int .u64 (E2 : Nat), .int .u64 (M1 : Nat), .int .u64 (O2 : Nat)]) ∧ Below w.heap.size w w'))
    (CW2 : Hid (b1 = false → ∀ w, Calls Tryd.prog 57 #[.agg #[.int .i64 (s : Nat), .int .u64 (E2 : Nat), .int .u64 (M1 : Nat), .int .u64 (O2 : Nat)], .int .i64 1] w fun e w' => e = .returned (.int .u64 (m2 : Nat)) ∧ Below w.heap.size w w'))
    (CR3 : Hid (b1 = false → ∀ w, Calls Tryd.prog 56 #[.agg #[.int .i64 (s : Nat), .int .u64 (E2 : Nat), .int .u64 (M1 : Nat), .int .u64 (O2 : Nat)], .int .u64 (m2 : Nat), .int .i64 1, .int .i64 0] w fun e w' => e = .returned (.agg #[.int .i64 (s : Nat), .int .u64 (E3 : Nat), .int .u64 (M3 : Nat), .int .u64 (O2 : Nat)]) ∧ Below w.heap.size w w'))
    (T1 : Hid ((bits .and .u64 (E : Int) (P : Int) == 0) = b1)) (T2 : Hid ((bits .and .u64 (m2 : Int) (P : Int) == 0) = b2)) (T3 : Hid (bits .or .u64 (m1 : Int) (m2 : Int) = (G : Int)))
    (hg : Errs w v0 v1) :
    Calls Tryd.prog 33 #[.agg #[.int .i64 (s : Nat), .int .u64 (E : Nat), .int .u64 (M : Nat), .int .u64 (O : Nat)], .int .i64 1, .int .i64 (p : Nat), .bool su] w fun e w' =>
      e = .returned (bif b1 then .tuple #[.agg #[.int .i64 0, .int .u64 0, .int .u64 0, .int .u64 0], .int .u64 0, v0] else bif b2 then .tuple #[.agg #[.int .i64 (s : Nat), .int .u64 (E2 : Nat), .int .u64 (M1 : Nat), .int .u64 (O2 : Nat)], .int .u64 (m1 : Nat), .nilIface] else bif su then .tuple #[.agg #[.int .i64 (s : Nat), .int .u64 (E3 : Nat), .int .u64 (M3 : Nat), .int .u64 (O2 : Nat)], .int .u64 (G : Nat), .nilIface] else .tuple #[.agg #[.int .i64 0, .int .u64 0, .int .u64 0, .int .u64 0], .int .u64 0, v1]) ∧ Below w.heap.size w w' := by
  have e1 : (w.alloc (.cells #[.int .i64 (s : Nat), .int .u64 (E : Nat), .int .u64 (M : Nat), .int .u64 (O : Nat)] 58)).heap.size = w.heap.size + 1 := by simp
  have p0 := (Px.new w (s : Nat) E M O).step ((Below.refl (w.alloc (.cells #[.int .i64 (s : Nat), .int .u64 (E : Nat), .int .u64 (M : Nat), .int .u64 (O : Nat)] 58)).heap.size (w.alloc (.cells #[.int .i64 (s : Nat), .int .u64 (E : Nat), .int .u64 (M : Nat), .int .u64 (O : Nat)] 58))).alloc (Nat.le_refl _) (.cells #[.int .i64 0, .int .u64 0, .int .u64 0, .int .u64 0] 58))
  have p1 := Px.new (w.alloc (.cells #[.int .i64 (s : Nat), .int .u64 (E : Nat), .int .u64 (M : Nat), .int .u64 (O : Nat)] 58)) 0 0 0 0
  have hb2 : Below w.heap.size w ((w.alloc (.cells #[.int .i64 (s : Nat), .int .u64 (E : Nat), .int .u64 (M : Nat), .int .u64 (O : Nat)] 58)).alloc (.cells #[.int .i64 0, .int .u64 0, .int .u64 0, .int .u64 0] 58)) := ((Below.refl _ _).alloc (Nat.le_refl _) _).alloc (by simp) _
  rw [e1] at p1
  obtain ⟨y, hy⟩ : ∃ y, y = (w.alloc (.cells #[.int .i64 (s : Nat), .int .u64 (E : Nat), .int .u64 (M : Nat), .int .u64 (O : Nat)] 58)).alloc (.cells #[.int .i64 0, .int .u64 0, .int .u64 0, .int .u64 0] 58) := ⟨_, rfl⟩
  have P0 : Hid (Px y w.heap.size (s : Nat) E M O) := Lib.hid (by rw [hy]; exact p0)
  have P1 : Hid (Px y (w.heap.size + 1) 0 0 0 0) := Lib.hid (by rw [hy]; exact p1)
  have Hb : Hid (Below w.heap.size w y) := Lib.hid (by rw [hy]; exact hb2)
  have HG := Lib.hid hg
  clear e1 p0 p1 hb2 hg
  go_enter Tryd.func33, Tryd.ntmps33
  go_upto_region 1 with (fail)
  rw [← hy]
  clear hy
  go_wp2_with fail
  refine (CO.out _).mono ?_
  rintro e w' ⟨rfl, rfl⟩
  have c0 := P0.out.c0
  have c1 := P0.out.c1
  have c2 := P0.out.c2
  have c3 := P0.out.c3
  have hz := P0.out.lt
  have hz1 := P1.out.lt
  cases b1
  · have t1 := T1.out
    go_wp2_with fail
    refine (i_oth1 _).mono ?_
    rintro e w' ⟨rfl, rfl⟩
    go_wp2_with fail
    refine (CR1.out (by trivial) _).mono ?_
    rintro e y2 ⟨rfl, hb⟩
    have P1 := Lib.hid (P1.out.step hb)
    have Hb := Lib.hid (Hb.out.trans (hb.mono Hb.out.size))
    have P1q := Lib.hid P1.out.lt
    clear hb c0 c1 c2 c3 hz hz1 t1 P0
    go_upto_region 6 with (fail)
    obtain ⟨y3, hy3⟩ : ∃ y3, y3 = y2.alloc (.cells #[.int .i64 (s : Nat), .int .u64 (E1 : Nat), .int .u64 (M1 : Nat), .int .u64 (O : Nat)] 58) := ⟨_, rfl⟩
    have P2 : Hid (Px y3 y2.heap.size (s : Nat) E1 M1 O) := Lib.hid (by rw [hy3]; exact Px.new _ _ _ _ _)
    have hb3 : Below y2.heap.size y2 y3 := by rw [hy3]; exact (Below.refl _ _).alloc (Nat.le_refl _) _
    have P1 := Lib.hid (P1.out.step hb3)
    have Hb := Lib.hid (Hb.out.trans (hb3.mono Hb.out.size))
    have hq : w.heap.size + 1 < y2.heap.size := by have := P1q.out; omega
    rw [← hy3]
    clear hy3 hb3
    have c0 := P2.out.c0
    have c1 := P2.out.c1
    have c2 := P2.out.c2
    have c3 := P2.out.c3
    have hz2 := P2.out.lt
    go_wp2_with fail
    refine (CW1.out (by trivial) _).mono ?_
    rintro e y4 ⟨rfl, hb⟩
    have P1 := Lib.hid (P1.out.step hb)
    have P2 := Lib.hid (P2.out.step hb)
    have Hb := Lib.hid (Hb.out.trans (hb.mono Hb.out.size))
    clear hb c0 c1 c2 c3 hz2
    have c0 := P2.out.c0
    have c1 := P2.out.c1
    have c2 := P2.out.c2
    have c3 := P2.out.c3
    have hz2 := P2.out.lt
    go_wp2_with fail
    refine (CR2.out (by trivial) _).mono ?_
    rintro e y5 ⟨rfl, hb⟩
    have P1 := Lib.hid (P1.out.step hb)
    have P2 := Lib.hid (P2.out.step hb)
    have Hb := Lib.hid (Hb.out.trans (hb.mono Hb.out.size))
    clear hb c0 c1 c2 c3 hz2
    have c0 := P2.out.c0
    have c1 := P2.out.c1
    have c2 := P2.out.c2
    have c3 := P2.out.c3
    have f0 := P2.out.fz 0
    have f1 := P2.out.fz 1
    have f2 := P2.out.fz 2
    have f3 := P2.out.fz 3
    have hz2 := P2.out.lt
    go_upto_region 8 with (fail)
    obtain ⟨y6, hy6⟩ : ∃ y6, y6 = ((((y5.setCell ⟨y2.heap.size, 0, none⟩ (.int .i64 (s : Nat))).setCell ⟨y2.heap.size, 1, none⟩ (.int .u64 (E2 : Nat))).setCell ⟨y2.heap.size, 2, none⟩ (.int .u64 (M1 : Nat))).setCell ⟨y2.heap.size, 3, none⟩ (.int .u64 (O2 : Nat))) := ⟨_, rfl⟩
    have P1 : Hid (Px y6 (w.heap.size + 1) 0 0 0 0) := Lib.hid (by rw [hy6]; exact ((((P1.out.far (p := ⟨y2.heap.size, 0, none⟩) (by show w.heap.size + 1 ≠ y2.heap.size; omega) (.int .i64 (s : Nat))).far (p := ⟨y2.heap.size, 1, none⟩) (by show w.heap.size + 1 ≠ y2.heap.size; omega) (.int .u64 (E2 : Nat))).far (p := ⟨y2.heap.size, 2, none⟩) (by show w.heap.size + 1 ≠ y2.heap.size; omega) (.int .u64 (M1 : Nat))).far (p := ⟨y2.heap.size, 3, none⟩) (by show w.heap.size + 1 ≠ y2.heap.size; omega) (.int .u64 (O2 : Nat))))
    have P2 : Hid (Px y6 y2.heap.size (s : Nat) E2 M1 O2) := Lib.hid (by rw [hy6]; exact (((P2.out.set0 (s : Nat)).set1 E2).set2 M1).set3 O2)
    have Hb : Hid (Below w.heap.size w y6) := Lib.hid (by rw [hy6]; exact ((((Hb.out.setCell (p := ⟨y2.heap.size, 0, none⟩) (by show w.heap.size ≤ y2.heap.size; omega) (.int .i64 (s : Nat))).setCell (p := ⟨y2.heap.size, 1, none⟩) (by show w.heap.size ≤ y2.heap.size; omega) (.int .u64 (E2 : Nat))).setCell (p := ⟨y2.heap.size, 2, none⟩) (by show w.heap.size ≤ y2.heap.size; omega) (.int .u64 (M1 : Nat))).setCell (p := ⟨y2.heap.size, 3, none⟩) (by show w.heap.size ≤ y2.heap.size; omega) (.int .u64 (O2 : Nat))))
    rw [← hy6]
    clear hy6 c0 c1 c2 c3 f0 f1 f2 f3 hz2
    have c0 := P2.out.c0
    have c1 := P2.out.c1
    have c2 := P2.out.c2
    have c3 := P2.out.c3
    have hz2 := P2.out.lt
    go_wp2_with fail
    refine (CW2.out (by trivial) _).mono ?_
    rintro e y7 ⟨rfl, hb⟩
    have P1 := Lib.hid (P1.out.step hb)
    have P2 := Lib.hid (P2.out.step hb)
    have Hb := Lib.hid (Hb.out.trans (hb.mono Hb.out.size))
    have HE := HG.out.below Hb.out
    clear hb c0 c1 c2 c3 hz2
    have c0 := P2.out.c0
    have c1 := P2.out.c1
    have c2 := P2.out.c2
    have c3 := P2.out.c3
    have hz2 := P2.out.lt
    have d0 := P1.out.c0
    have d1 := P1.out.c1
    have d2 := P1.out.c2
    have d3 := P1.out.c3
    have f0 := P1.out.fz 0
    have f1 := P1.out.fz 1
    have f2 := P1.out.fz 2
    have f3 := P1.out.fz 3
    have hz1 := P1.out.lt
    have t2 := T2.out
    cases b2
    · cases su
      · have g0 := HE.1
        have g1 := HE.2.1
        have hb4 := ((((Hb.out.setCell (p := ⟨w.heap.size + 1, 0, none⟩) (by show w.heap.size ≤ w.heap.size + 1; omega) (.int .i64 0)).setCell (p := ⟨w.heap.size + 1, 1, none⟩) (by show w.heap.size ≤ w.heap.size + 1; omega) (.int .u64 0)).setCell (p := ⟨w.heap.size + 1, 2, none⟩) (by show w.heap.size ≤ w.heap.size + 1; omega) (.int .u64 0)).setCell (p := ⟨w.heap.size + 1, 3, none⟩) (by show w.heap.size ≤ w.heap.size + 1; omega) (.int .u64 0))
        have Hb4 := Lib.hid hb4
        have K : Hid (Px ((((y7.setCell ⟨w.heap.size + 1, 0, none⟩ (.int .i64 0)).setCell ⟨w.heap.size + 1, 1, none⟩ (.int .u64 0)).setCell ⟨w.heap.size + 1, 2, none⟩ (.int .u64 0)).setCell ⟨w.heap.size + 1, 3, none⟩ (.int .u64 0)) (w.heap.size + 1) 0 0 0 0) := Lib.hid ((((P1.out.set0 0).set1 0).set2 0).set3 0)
        have hgl := HG.out.2.2.2
        have hne1 : ¬ (w.heap.size + 1 = 1) := by omega
        have g2 : (y7.setCell ⟨w.heap.size + 1, 0, none⟩ (.int .i64 0)).cell? ⟨1, 0, none⟩ = some v1 := by
          have hh := Below.heap_setCell y7 ⟨w.heap.size + 1, 0, none⟩ (.int .i64 0) 1 (by show _ ≠ w.heap.size + 1; omega)
          unfold World.cell? at g1 ⊢
          rw [hh]
          exact g1
        clear hb4 HE
        go_wp2_with fail
        go_region
        all_goals
          go_wp2_with fail
          have k0 := K.out.c0
          have k1 := K.out.c1
          have k2 := K.out.c2
          have k3 := K.out.c3
          refine bodyPost_ret (v := .tuple #[.agg #[.int .i64 0, .int .u64 0, .int .u64 0, .int .u64 0], .int .u64 0, v1]) (by simp [results, Tryd.results33, go_sem, k0, k1, k2, k3]) rfl ?_
          exact ⟨rfl, ⟨Hb4.out.os, Hb4.out.tape, Hb4.out.output, Hb4.out.size, Hb4.out.block⟩⟩
      · go_wp2_with fail
        refine (CR3.out (by trivial) _).mono ?_
        rintro e y8 ⟨rfl, hb⟩
        have P1 := Lib.hid (P1.out.step hb)
        have Hb := Lib.hid (Hb.out.trans (hb.mono Hb.out.size))
        clear hb c0 c1 c2 c3 hz2 d0 d1 d2 d3 f0 f1 f2 f3 hz1 HE t2
        have d0 := P1.out.c0
        have d1 := P1.out.c1
        have d2 := P1.out.c2
        have d3 := P1.out.c3
        have f0 := P1.out.fz 0
        have f1 := P1.out.fz 1
        have f2 := P1.out.fz 2
        have f3 := P1.out.fz 3
        have hz1 := P1.out.lt
        have t3 := T3.out
        have Hb4 := Lib.hid (((((Hb.out.setCell (p := ⟨w.heap.size + 1, 0, none⟩) (by show w.heap.size ≤ w.heap.size + 1; omega) (.int .i64 (s : Nat))).setCell (p := ⟨w.heap.size + 1, 1, none⟩) (by show w.heap.size ≤ w.heap.size + 1; omega) (.int .u64 (E3 : Nat))).setCell (p := ⟨w.heap.size + 1, 2, none⟩) (by show w.heap.size ≤ w.heap.size + 1; omega) (.int .u64 (M3 : Nat))).setCell (p := ⟨w.heap.size + 1, 3, none⟩) (by show w.heap.size ≤ w.heap.size + 1; omega) (.int .u64 (O2 : Nat))))
        have K : Hid (Px ((((y8.setCell ⟨w.heap.size + 1, 0, none⟩ (.int .i64 (s : Nat))).setCell ⟨w.heap.size + 1, 1, none⟩ (.int .u64 (E3 : Nat))).setCell ⟨w.heap.size + 1, 2, none⟩ (.int .u64 (M3 : Nat))).setCell ⟨w.heap.size + 1, 3, none⟩ (.int .u64 (O2 : Nat))) (w.heap.size + 1) (s : Nat) E3 M3 O2) := Lib.hid ((((P1.out.set0 (s : Nat)).set1 E3).set2 M3).set3 O2)
        go_wp2_with fail
        have k0 := K.out.c0
        have k1 := K.out.c1
        have k2 := K.out.c2
        have k3 := K.out.c3
        refine bodyPost_ret (v := .tuple #[.agg #[.int .i64 (s : Nat), .int .u64 (E3 : Nat), .int .u64 (M3 : Nat), .int .u64 (O2 : Nat)], .int .u64 (G : Nat), .nilIface]) (by simp [results, Tryd.results33, go_sem, k0, k1, k2, k3]) rfl ?_
        exact ⟨rfl, Hb4.out⟩
    · have Hb4 := Lib.hid (((((Hb.out.setCell (p := ⟨w.heap.size + 1, 0, none⟩) (by show w.heap.size ≤ w.heap.size + 1; omega) (.int .i64 (s : Nat))).setCell (p := ⟨w.heap.size + 1, 1, none⟩) (by show w.heap.size ≤ w.heap.size + 1; omega) (.int .u64 (E2 : Nat))).setCell (p := ⟨w.heap.size + 1, 2, none⟩) (by show w.heap.size ≤ w.heap.size + 1; omega) (.int .u64 (M1 : Nat))).setCell (p := ⟨w.heap.size + 1, 3, none⟩) (by show w.heap.size ≤ w.heap.size + 1; omega) (.int .u64 (O2 : Nat))))
      have K : Hid (Px ((((y7.setCell ⟨w.heap.size + 1, 0, none⟩ (.int .i64 (s : Nat))).setCell ⟨w.heap.size + 1, 1, none⟩ (.int .u64 (E2 : Nat))).setCell ⟨w.heap.size + 1, 2, none⟩ (.int .u64 (M1 : Nat))).setCell ⟨w.heap.size + 1, 3, none⟩ (.int .u64 (O2 : Nat))) (w.heap.size + 1) (s : Nat) E2 M1 O2) := Lib.hid ((((P1.out.set0 (s : Nat)).set1 E2).set2 M1).set3 O2)
      clear HE
      go_wp2_with fail
      have k0 := K.out.c0
      have k1 := K.out.c1
      have k2 := K.out.c2
      have k3 := K.out.c3
      refine bodyPost_ret (v := .tuple #[.agg #[.int .i64 (s : Nat), .int .u64 (E2 : Nat), .int .u64 (M1 : Nat), .int .u64 (O2 : Nat)], .int .u64 (m1 : Nat), .nilIface]) (by simp [results, Tryd.results33, go_sem, k0, k1, k2, k3]) rfl ?_
      exact ⟨rfl, Hb4.out⟩
  · have t1 := T1.out
    have HE := HG.out.below Hb.out
    have g0 := HE.1
    have g1 := HE.2.1
    have d0 := P1.out.c0
    have d1 := P1.out.c1
    have d2 := P1.out.c2
    have d3 := P1.out.c3
    have f0 := P1.out.fz 0
    have f1 := P1.out.fz 1
    have f2 := P1.out.fz 2
    have f3 := P1.out.fz 3
    have hb4 := ((((Hb.out.setCell (p := ⟨w.heap.size + 1, 0, none⟩) (by show w.heap.size ≤ w.heap.size + 1; omega) (.int .i64 0)).setCell (p := ⟨w.heap.size + 1, 1, none⟩) (by show w.heap.size ≤ w.heap.size + 1; omega) (.int .u64 0)).setCell (p := ⟨w.heap.size + 1, 2, none⟩) (by show w.heap.size ≤ w.heap.size + 1; omega) (.int .u64 0)).setCell (p := ⟨w.heap.size + 1, 3, none⟩) (by show w.heap.size ≤ w.heap.size + 1; omega) (.int .u64 0))
    have Hb4 := Lib.hid hb4
    have K : Hid (Px ((((y.setCell ⟨w.heap.size + 1, 0, none⟩ (.int .i64 0)).setCell ⟨w.heap.size + 1, 1, none⟩ (.int .u64 0)).setCell ⟨w.heap.size + 1, 2, none⟩ (.int .u64 0)).setCell ⟨w.heap.size + 1, 3, none⟩ (.int .u64 0)) (w.heap.size + 1) 0 0 0 0) := Lib.hid ((((P1.out.set0 0).set1 0).set2 0).set3 0)
    clear hb4 HE
    go_wp2_with fail
    go_region
    all_goals
      go_wp2_with fail
      have k0 := K.out.c0
      have k1 := K.out.c1
      have k2 := K.out.c2
      have k3 := K.out.c3
      refine bodyPost_ret (v := .tuple #[.agg #[.int .i64 0, .int .u64 0, .int .u64 0, .int .u64 0], .int .u64 0, v0]) (by simp [results, Tryd.results33, go_sem, k0, k1, k2, k3]) rfl ?_
      exact ⟨rfl, ⟨Hb4.out.os, Hb4.out.tape, Hb4.out.output, Hb4.out.size, Hb4.out.block⟩⟩
set_option maxRecDepth 100000 in
set_option maxHeartbeats 8000000 in
theorem i_playA2 (b1 b2 : Bool) (CO : Hid (∀ w, Calls Tryd.prog 54 #[.int .i64 (p : Nat)] w fun e w' => e = .returned (.int .u64 (P : Nat)) ∧ w = w'))
    (CR1 : Hid (b1 = false → ∀ w, Calls Tryd.prog 56 #[.agg #[.int .i64 (s : Nat), .int .u64 (E : Nat), .int .u64 (O : Nat), .int .u64 (M : Nat)], .int .u64 (P : Nat), .int .i64 0, .int .i64 2] w fun e w' => e = .returned (.agg #[.int .i64 (s : Nat), .int .u64 (E1 : Nat), .int .u64 (O : Nat), .int .u64 (M1 : Nat)]) ∧ Below w.heap.size w w'))
    (CW1 : Hid (b1 = false → ∀ w, Calls Tryd.prog 57 #[.agg #[.int .i64 (s : Nat), .int .u64 (E1 : Nat), .int .u64 (O : Nat), .int .u64 (M1 : Nat)], .int .i64 1] w fun e w' => e = .returned (.int .u64 (m1 : Nat)) ∧ Below w.heap.size w w'))
    (CR2 : Hid (b1 = false → ∀ w, Calls Tryd.prog 56 #[.agg #[.int .i64 (s : Nat), .int .u64 (E1 : Nat), .int .u64 (O : Nat), .int .u64 (M1 : Nat)], .int .u64 (m1 : Nat), .int .i64 1, .int .i64 0] w fun e w' => e = .returned (.agg #[.int .i64 (s : Nat), .int .u64 (E2 : Nat), .int .u64 (O2 : Nat), .int .u64 (M1 : Nat)]) ∧ Below w.heap.size w w'))
    (CW2 : Hid (b1 = false → ∀ w, Calls Tryd.prog 57 #[.agg #[.int .i64 (s : Nat), .int .u64 (E2 : Nat), .int .u64 (O2 : Nat), .int .u64 (M1 : Nat)], .int .i64 2] w fun e w' => e = .returned (.int .u64 (m2 : Nat)) ∧ Below w.heap.size w w'))
    (CR3 : Hid (b1 = false → ∀ w, Calls Tryd.prog 56 #[.agg #[.int .i64 (s : Nat), .int .u64 (E2 : Nat), .int .u64 (O2 : Nat), .int .u64 (M1 : Nat)], .int .u64 (m2 : Nat), .int .i64 2, .int .i64 0] w fun e w' => e = .returned (.agg #[.int .i64 (s : Nat), .int .u64 (E3 : Nat), .int .u64 (O2 : Nat), .int .u64 (M3 : Nat)]) ∧ Below w.heap.size w w'))
    (T1 : Hid ((bits .and .u64 (E : Int) (P : Int) == 0) = b1)) (T2 : Hid ((bits .and .u64 (m2 : Int) (P : Int) == 0) = b2)) (T3 : Hid (bits .or .u64 (m1 : Int) (m2 : Int) = (G : Int)))
    (hg : Errs w v0 v1) :
    Calls Tryd.prog 33 #[.agg #[.int .i64 (s : Nat), .int .u64 (E : Nat), .int .u64 (O : Nat), .int .u64 (M : Nat)], .int .i64 2, .int .i64 (p : Nat), .bool su] w fun e w' =>
      e = .returned (bif b1 then .tuple #[.agg #[.int .i64 0, .int .u64 0, .int .u64 0, .int .u64 0], .int .u64 0, v0] else bif b2 then .tuple #[.agg #[.int .i64 (s : Nat), .int .u64 (E2 : Nat), .int .u64 (O2 : Nat), .int .u64 (M1 : Nat)], .int .u64 (m1 : Nat), .nilIface] else bif su then .tuple #[.agg #[.int .i64 (s : Nat), .int .u64 (E3 : Nat), .int .u64 (O2 : Nat), .int .u64 (M3 : Nat)], .int .u64 (G : Nat), .nilIface] else .tuple #[.agg #[.int .i64 0, .int .u64 0, .int .u64 0, .int .u64 0], .int .u64 0, v1]) ∧ Below w.heap.size w w' := by
  have e1 : (w.alloc (.cells #[.int .i64 (s : Nat), .int .u64 (E : Nat), .int .u64 (O : Nat), .int .u64 (M : Nat)] 58)).heap.size = w.heap.size + 1 := by simp
  have p0 := (Px.new w (s : Nat) E O M).step ((Below.refl (w.alloc (.cells #[.int .i64 (s : Nat), .int .u64 (E : Nat), .int .u64 (O : Nat), .int .u64 (M : Nat)] 58)).heap.size (w.alloc (.cells #[.int .i64 (s : Nat), .int .u64 (E : Nat), .int .u64 (O : Nat), .int .u64 (M : Nat)] 58))).alloc (Nat.le_refl _) (.cells #[.int .i64 0, .int .u64 0, .int .u64 0, .int .u64 0] 58))
  have p1 := Px.new (w.alloc (.cells #[.int .i64 (s : Nat), .int .u64 (E : Nat), .int .u64 (O : Nat), .int .u64 (M : Nat)] 58)) 0 0 0 0
  have hb2 : Below w.heap.size w ((w.alloc (.cells #[.int .i64 (s : Nat), .int .u64 (E : Nat), .int .u64 (O : Nat), .int .u64 (M : Nat)] 58)).alloc (.cells #[.int .i64 0, .int .u64 0, .int .u64 0, .int .u64 0] 58)) := ((Below.refl _ _).alloc (Nat.le_refl _) _).alloc (by simp) _
  rw [e1] at p1
  obtain ⟨y, hy⟩ : ∃ y, y = (w.alloc (.cells #[.int .i64 (s : Nat), .int .u64 (E : Nat), .int .u64 (O : Nat), .int .u64 (M : Nat)] 58)).alloc (.cells #[.int .i64 0, .int .u64 0, .int .u64 0, .int .u64 0] 58) := ⟨_, rfl⟩
  have P0 : Hid (Px y w.heap.size (s : Nat) E O M) := Lib.hid (by rw [hy]; exact p0)
  have P1 : Hid (Px y (w.heap.size + 1) 0 0 0 0) := Lib.hid (by rw [hy]; exact p1)
  have Hb : Hid (Below w.heap.size w y) := Lib.hid (by rw [hy]; exact hb2)
  have HG := Lib.hid hg
  clear e1 p0 p1 hb2 hg
  go_enter Tryd.func33, Tryd.ntmps33
  go_upto_region 1 with (fail)
  rw [← hy]
  clear hy
  go_wp2_with fail
  refine (CO.out _).mono ?_
  rintro e w' ⟨rfl, rfl⟩
  have c0 := P0.out.c0
  have c1 := P0.out.c1
  have c2 := P0.out.c2
  have c3 := P0.out.c3
  have hz := P0.out.lt
  have hz1 := P1.out.lt
  cases b1
  · have t1 := T1.out
    go_wp2_with fail
    refine (i_oth2 _).mono ?_
    rintro e w' ⟨rfl, rfl⟩
    go_wp2_with fail
    refine (CR1.out (by trivial) _).mono ?_
    rintro e y2 ⟨rfl, hb⟩
    have P1 := Lib.hid (P1.out.step hb)
    have Hb := Lib.hid (Hb.out.trans (hb.mono Hb.out.size))
    have P1q := Lib.hid P1.out.lt
    clear hb c0 c1 c2 c3 hz hz1 t1 P0
    go_upto_region 6 with (fail)
    obtain ⟨y3, hy3⟩ : ∃ y3, y3 = y2.alloc (.cells #[.int .i64 (s : Nat), .int .u64 (E1 : Nat), .int .u64 (O : Nat), .int .u64 (M1 : Nat)] 58) := ⟨_, rfl⟩
    have P2 : Hid (Px y3 y2.heap.size (s : Nat) E1 O M1) := Lib.hid (by rw [hy3]; exact Px.new _ _ _ _ _)
    have hb3 : Below y2.heap.size y2 y3 := by rw [hy3]; exact (Below.refl _ _).alloc (Nat.le_refl _) _
    have P1 := Lib.hid (P1.out.step hb3)
    have Hb := Lib.hid (Hb.out.trans (hb3.mono Hb.out.size))
    have hq : w.heap.size + 1 < y2.heap.size := by have := P1q.out; omega
    rw [← hy3]
    clear hy3 hb3
    have c0 := P2.out.c0
    have c1 := P2.out.c1
    have c2 := P2.out.c2
    have c3 := P2.out.c3
    have hz2 := P2.out.lt
    go_wp2_with fail
    refine (CW1.out (by trivial) _).mono ?_
    rintro e y4 ⟨rfl, hb⟩
    have P1 := Lib.hid (P1.out.step hb)
    have P2 := Lib.hid (P2.out.step hb)
    have Hb := Lib.hid (Hb.out.trans (hb.mono Hb.out.size))
    clear hb c0 c1 c2 c3 hz2
    have c0 := P2.out.c0
    have c1 := P2.out.c1
    have c2 := P2.out.c2
    have c3 := P2.out.c3
    have hz2 := P2.out.lt
    go_wp2_with fail
    refine (CR2.out (by trivial) _).mono ?_
    rintro e y5 ⟨rfl, hb⟩
    have P1 := Lib.hid (P1.out.step hb)
    have P2 := Lib.hid (P2.out.step hb)
    have Hb := Lib.hid (Hb.out.trans (hb.mono Hb.out.size))
    clear hb c0 c1 c2 c3 hz2
    have c0 := P2.out.c0
    have c1 := P2.out.c1
    have c2 := P2.out.c2
    have c3 := P2.out.c3
    have f0 := P2.out.fz 0
    have f1 := P2.out.fz 1
    have f2 := P2.out.fz 2
    have f3 := P2.out.fz 3
    have hz2 := P2.out.lt
    go_upto_region 8 with (fail)
    obtain ⟨y6, hy6⟩ : ∃ y6, y6 = ((((y5.setCell ⟨y2.heap.size, 0, none⟩ (.int .i64 (s : Nat))).setCell ⟨y2.heap.size, 1, none⟩ (.int .u64 (E2 : Nat))).setCell ⟨y2.heap.size, 2, none⟩ (.int .u64 (O2 : Nat))).setCell ⟨y2.heap.size, 3, none⟩ (.int .u64 (M1 : Nat))) := ⟨_, rfl⟩
    have P1 : Hid (Px y6 (w.heap.size + 1) 0 0 0 0) := Lib.hid (by rw [hy6]; exact ((((P1.out.far (p := ⟨y2.heap.size, 0, none⟩) (by show w.heap.size + 1 ≠ y2.heap.size; omega) (.int .i64 (s : Nat))).far (p := ⟨y2.heap.size, 1, none⟩) (by show w.heap.size + 1 ≠ y2.heap.size; omega) (.int .u64 (E2 : Nat))).far (p := ⟨y2.heap.size, 2, none⟩) (by show w.heap.size + 1 ≠ y2.heap.size; omega) (.int .u64 (O2 : Nat))).far (p := ⟨y2.heap.size, 3, none⟩) (by show w.heap.size + 1 ≠ y2.heap.size; omega) (.int .u64 (M1 : Nat))))
    have P2 : Hid (Px y6 y2.heap.size (s : Nat) E2 O2 M1) := Lib.hid (by rw [hy6]; exact (((P2.out.set0 (s : Nat)).set1 E2).set2 O2).set3 M1)
    have Hb : Hid (Below w.heap.size w y6) := Lib.hid (by rw [hy6]; exact ((((Hb.out.setCell (p := ⟨y2.heap.size, 0, none⟩) (by show w.heap.size ≤ y2.heap.size; omega) (.int .i64 (s : Nat))).setCell (p := ⟨y2.heap.size, 1, none⟩) (by show w.heap.size ≤ y2.heap.size; omega) (.int .u64 (E2 : Nat))).setCell (p := ⟨y2.heap.size, 2, none⟩) (by show w.heap.size ≤ y2.heap.size; omega) (.int .u64 (O2 : Nat))).setCell (p := ⟨y2.heap.size, 3, none⟩) (by show w.heap.size ≤ y2.heap.size; omega) (.int .u64 (M1 : Nat))))
    rw [← hy6]
    clear hy6 c0 c1 c2 c3 f0 f1 f2 f3 hz2
    have c0 := P2.out.c0
    have c1 := P2.out.c1
    have c2 := P2.out.c2
    have c3 := P2.out.c3
    have hz2 := P2.out.lt
    go_wp2_with fail
    refine (CW2.out (by trivial) _).mono ?_
    rintro e y7 ⟨rfl, hb⟩
    have P1 := Lib.hid (P1.out.step hb)
    have P2 := Lib.hid (P2.out.step hb)
    have Hb := Lib.hid (Hb.out.trans (hb.mono Hb.out.size))
    have HE := HG.out.below Hb.out
    clear hb c0 c1 c2 c3 hz2
    have c0 := P2.out.c0
    have c1 := P2.out.c1
    have c2 := P2.out.c2
    have c3 := P2.out.c3
    have hz2 := P2.out.lt
    have d0 := P1.out.c0
    have d1 := P1.out.c1
    have d2 := P1.out.c2
    have d3 := P1.out.c3
    have f0 := P1.out.fz 0
    have f1 := P1.out.fz 1
    have f2 := P1.out.fz 2
    have f3 := P1.out.fz 3
    have hz1 := P1.out.lt
    have t2 := T2.out
    cases b2
    · cases su
      · have g0 := HE.1
        have g1 := HE.2.1
        have hb4 := ((((Hb.out.setCell (p := ⟨w.heap.size + 1, 0, none⟩) (by show w.heap.size ≤ w.heap.size + 1; omega) (.int .i64 0)).setCell (p := ⟨w.heap.size + 1, 1, none⟩) (by show w.heap.size ≤ w.heap.size + 1; omega) (.int .u64 0)).setCell (p := ⟨w.heap.size + 1, 2, none⟩) (by show w.heap.size ≤ w.heap.size + 1; omega) (.int .u64 0)).setCell (p := ⟨w.heap.size + 1, 3, none⟩) (by show w.heap.size ≤ w.heap.size + 1; omega) (.int .u64 0))
        have Hb4 := Lib.hid hb4
        have K : Hid (Px ((((y7.setCell ⟨w.heap.size + 1, 0, none⟩ (.int .i64 0)).setCell ⟨w.heap.size + 1, 1, none⟩ (.int .u64 0)).setCell ⟨w.heap.size + 1, 2, none⟩ (.int .u64 0)).setCell ⟨w.heap.size + 1, 3, none⟩ (.int .u64 0)) (w.heap.size + 1) 0 0 0 0) := Lib.hid ((((P1.out.set0 0).set1 0).set2 0).set3 0)
        have hgl := HG.out.2.2.2
        have hne1 : ¬ (w.heap.size + 1 = 1) := by omega
        have g2 : (y7.setCell ⟨w.heap.size + 1, 0, none⟩ (.int .i64 0)).cell? ⟨1, 0, none⟩ = some v1 := by
          have hh := Below.heap_setCell y7 ⟨w.heap.size + 1, 0, none⟩ (.int .i64 0) 1 (by show _ ≠ w.heap.size + 1; omega)
          unfold World.cell? at g1 ⊢
          rw [hh]
          exact g1
        clear hb4 HE
        go_wp2_with fail
        go_region
        all_goals
          go_wp2_with fail
          have k0 := K.out.c0
          have k1 := K.out.c1
          have k2 := K.out.c2
          have k3 := K.out.c3
          refine bodyPost_ret (v := .tuple #[.agg #[.int .i64 0, .int .u64 0, .int .u64 0, .int .u64 0], .int .u64 0, v1]) (by simp [results, Tryd.results33, go_sem, k0, k1, k2, k3]) rfl ?_
          exact ⟨rfl, ⟨Hb4.out.os, Hb4.out.tape, Hb4.out.output, Hb4.out.size, Hb4.out.block⟩⟩
      · go_wp2_with fail
        refine (CR3.out (by trivial) _).mono ?_
        rintro e y8 ⟨rfl, hb⟩
        have P1 := Lib.hid (P1.out.step hb)
        have Hb := Lib.hid (Hb.out.trans (hb.mono Hb.out.size))
        clear hb c0 c1 c2 c3 hz2 d0 d1 d2 d3 f0 f1 f2 f3 hz1 HE t2
        have d0 := P1.out.c0
        have d1 := P1.out.c1
        have d2 := P1.out.c2
        have d3 := P1.out.c3
        have f0 := P1.out.fz 0
        have f1 := P1.out.fz 1
        have f2 := P1.out.fz 2
        have f3 := P1.out.fz 3
        have hz1 := P1.out.lt
        have t3 := T3.out
        have Hb4 := Lib.hid (((((Hb.out.setCell (p := ⟨w.heap.size + 1, 0, none⟩) (by show w.heap.size ≤ w.heap.size + 1; omega) (.int .i64 (s : Nat))).setCell (p := ⟨w.heap.size + 1, 1, none⟩) (by show w.heap.size ≤ w.heap.size + 1; omega) (.int .u64 (E3 : Nat))).setCell (p := ⟨w.heap.size + 1, 2, none⟩) (by show w.heap.size ≤ w.heap.size + 1; omega) (.int .u64 (O2 : Nat))).setCell (p := ⟨w.heap.size + 1, 3, none⟩) (by show w.heap.size ≤ w.heap.size + 1; omega) (.int .u64 (M3 : Nat))))
        have K : Hid (Px ((((y8.setCell ⟨w.heap.size + 1, 0, none⟩ (.int .i64 (s : Nat))).setCell ⟨w.heap.size + 1, 1, none⟩ (.int .u64 (E3 : Nat))).setCell ⟨w.heap.size + 1, 2, none⟩ (.int .u64 (O2 : Nat))).setCell ⟨w.heap.size + 1, 3, none⟩ (.int .u64 (M3 : Nat))) (w.heap.size + 1) (s : Nat) E3 O2 M3) := Lib.hid ((((P1.out.set0 (s : Nat)).set1 E3).set2 O2).set3 M3)
        go_wp2_with fail
        have k0 := K.out.c0
        have k1 := K.out.c1
        have k2 := K.out.c2
        have k3 := K.out.c3
        refine bodyPost_ret (v := .tuple #[.agg #[.int .i64 (s : Nat), .int .u64 (E3 : Nat), .int .u64 (O2 : Nat), .int .u64 (M3 : Nat)], .int .u64 (G : Nat), .nilIface]) (by simp [results, Tryd.results33, go_sem, k0, k1, k2, k3]) rfl ?_
        exact ⟨rfl, Hb4.out⟩
    · have Hb4 := Lib.hid (((((Hb.out.setCell (p := ⟨w.heap.size + 1, 0, none⟩) (by show w.heap.size ≤ w.heap.size + 1; omega) (.int .i64 (s : Nat))).setCell (p := ⟨w.heap.size + 1, 1, none⟩) (by show w.heap.size ≤ w.heap.size + 1; omega) (.int .u64 (E2 : Nat))).setCell (p := ⟨w.heap.size + 1, 2, none⟩) (by show w.heap.size ≤ w.heap.size + 1; omega) (.int .u64 (O2 : Nat))).setCell (p := ⟨w.heap.size + 1, 3, none⟩) (by show w.heap.size ≤ w.heap.size + 1; omega) (.int .u64 (M1 : Nat))))
      have K : Hid (Px ((((y7.setCell ⟨w.heap.size + 1, 0, none⟩ (.int .i64 (s : Nat))).setCell ⟨w.heap.size + 1, 1, none⟩ (.int .u64 (E2 : Nat))).setCell ⟨w.heap.size + 1, 2, none⟩ (.int .u64 (O2 : Nat))).setCell ⟨w.heap.size + 1, 3, none⟩ (.int .u64 (M1 : Nat))) (w.heap.size + 1) (s : Nat) E2 O2 M1) := Lib.hid ((((P1.out.set0 (s : Nat)).set1 E2).set2 O2).set3 M1)
      clear HE
      go_wp2_with fail
      have k0 := K.out.c0
      have k1 := K.out.c1
      have k2 := K.out.c2
      have k3 := K.out.c3
      refine bodyPost_ret (v := .tuple #[.agg #[.int .i64 (s : Nat), .int .u64 (E2 : Nat), .int .u64 (O2 : Nat), .int .u64 (M1 : Nat)], .int .u64 (m1 : Nat), .nilIface]) (by simp [results, Tryd.results33, go_sem, k0, k1, k2, k3]) rfl ?_
      exact ⟨rfl, Hb4.out⟩
  · have t1 := T1.out
    have HE := HG.out.below Hb.out
    have g0 := HE.1
    have g1 := HE.2.1
    have d0 := P1.out.c0
    have d1 := P1.out.c1
    have d2 := P1.out.c2
    have d3 := P1.out.c3
    have f0 := P1.out.fz 0
    have f1 := P1.out.fz 1
    have f2 := P1.out.fz 2
    have f3 := P1.out.fz 3
    have hb4 := ((((Hb.out.setCell (p := ⟨w.heap.size + 1, 0, none⟩) (by show w.heap.size ≤ w.heap.size + 1; omega) (.int .i64 0)).setCell (p := ⟨w.heap.size + 1, 1, none⟩) (by show w.heap.size ≤ w.heap.size + 1; omega) (.int .u64 0)).setCell (p := ⟨w.heap.size + 1, 2, none⟩) (by show w.heap.size ≤ w.heap.size + 1; omega) (.int .u64 0)).setCell (p := ⟨w.heap.size + 1, 3, none⟩) (by show w.heap.size ≤ w.heap.size + 1; omega) (.int .u64 0))
    have Hb4 := Lib.hid hb4
    have K : Hid (Px ((((y.setCell ⟨w.heap.size + 1, 0, none⟩ (.int .i64 0)).setCell ⟨w.heap.size + 1, 1, none⟩ (.int .u64 0)).setCell ⟨w.heap.size + 1, 2, none⟩ (.int .u64 0)).setCell ⟨w.heap.size + 1, 3, none⟩ (.int .u64 0)) (w.heap.size + 1) 0 0 0 0) := Lib.hid ((((P1.out.set0 0).set1 0).set2 0).set3 0)
    clear hb4 HE
    go_wp2_with fail
    go_region
    all_goals
      go_wp2_with fail
      have k0 := K.out.c0
      have k1 := K.out.c1
      have k2 := K.out.c2
      have k3 := K.out.c3
      refine bodyPost_ret (v := .tuple #[.agg #[.int .i64 0, .int .u64 0, .int .u64 0, .int .u64 0], .int .u64 0, v0]) (by simp [results, Tryd.results33, go_sem, k0, k1, k2, k3]) rfl ?_
      exact ⟨rfl, ⟨Hb4.out.os, Hb4.out.tape, Hb4.out.output, Hb4.out.size, Hb4.out.block⟩⟩

end
end Go.Proofs.YteldfjibmaigiaaDoor

namespace Go.Proofs.YteldfjibmaigiaaDoor.Un
set_option maxRecDepth 100000
open Pt

/-- The forest u of n points, in which r tells the first point of each set. -/
structure Un (u : List Int) (n : Nat) (r : Nat → Nat) : Prop where
  len : u.length = n
  lo : ∀ p, p < n → 0 ≤ u.getD p 0 ∧ u.getD p 0 ≤ p
  same : ∀ p, p < n → r (u.getD p 0).toNat = r p
  root : ∀ p, p < n → u.getD p 0 = p → r p = p

theorem getD_set (u : List Int) (k a : Nat) (x : Int) (h : k < u.length) : (u.set k x).getD a 0 = if a = k then x else u.getD a 0 := by
  simp only [List.getD_eq_getElem?_getD, List.getElem?_set]
  by_cases e : a = k
  · subst e; simp [h]
  · rw [if_neg (fun h => e h.symm), if_neg e]

theorem Un.fix {u : List Int} {n : Nat} {r : Nat → Nat} (h : Un u n r) : ∀ p, p < n → r p ≤ p ∧ r (r p) = r p := by
  intro p
  induction p using Nat.strongRecOn with
  | ind p ih =>
    intro hp
    by_cases e : u.getD p 0 = p
    · have := h.root p hp e
      rw [this]
      exact ⟨Nat.le_refl _, this⟩
    · obtain ⟨l1, l2⟩ := h.lo p hp
      have hlt : (u.getD p 0).toNat < p := by omega
      obtain ⟨i1, i2⟩ := ih _ hlt (by omega)
      rw [h.same p hp] at i1 i2
      exact ⟨by omega, i2⟩

/-- One step of 'firstOf': every other point is skipped. -/
theorem Un.half {u : List Int} {n : Nat} {r : Nat → Nat} (h : Un u n r) {p x y : Nat} (hp : p < n) (hx : u.getD p 0 = (x : Int)) (hy : u.getD x 0 = (y : Int)) (hne : x ≠ p) :
    y < p ∧ r y = r p ∧ Un (u.set p (y : Int)) n r := by
  have l1 := h.lo p hp
  rw [hx] at l1
  have hxn : x < n := by omega
  have l2 := h.lo x hxn
  rw [hy] at l2
  have s1 := h.same p hp
  rw [hx] at s1
  have s2 := h.same x hxn
  rw [hy] at s2
  simp only [Int.toNat_natCast] at s1 s2
  have hl : p < u.length := by rw [h.len]; exact hp
  refine ⟨by omega, s2.trans s1, by rw [List.length_set]; exact h.len, fun q hq => ?_, fun q hq => ?_, fun q hq => ?_⟩
  · rw [getD_set _ _ _ _ hl]
    split
    · omega
    · exact h.lo q hq
  · rw [getD_set _ _ _ _ hl]
    split
    · next e => subst e; simpa using s2.trans s1
    · exact h.same q hq
  · rw [getD_set _ _ _ _ hl]
    split
    · intro e; omega
    · exact h.root q hq

/-- The first points after two sets are made one. -/
def joined (r : Nat → Nat) (p q : Nat) : Nat → Nat := fun x => if r x = max (r p) (r q) then min (r p) (r q) else r x

theorem Un.join {u : List Int} {n : Nat} {r : Nat → Nat} (h : Un u n r) {p q : Nat} (hp : p < n) (hq : q < n) :
    Un (u.set (max (r p) (r q)) ((min (r p) (r q) : Nat) : Int)) n (joined r p q) := by
  obtain ⟨p1, p2⟩ := h.fix p hp
  obtain ⟨q1, q2⟩ := h.fix q hq
  obtain ⟨M, hM⟩ : ∃ M, max (r p) (r q) = M := ⟨_, rfl⟩
  obtain ⟨m, hm⟩ : ∃ m, min (r p) (r q) = m := ⟨_, rfl⟩
  have hMn : M < n := by omega
  have hmM : m ≤ M := by omega
  have rM : r M = M := by
    rcases Nat.le_total (r p) (r q) with h1 | h1
    · rw [← hM, Nat.max_eq_right h1]; exact q2
    · rw [← hM, Nat.max_eq_left h1]; exact p2
  have rm : r m = m := by
    rcases Nat.le_total (r p) (r q) with h1 | h1
    · rw [← hm, Nat.min_eq_left h1]; exact p2
    · rw [← hm, Nat.min_eq_right h1]; exact q2
  have hj : ∀ x, joined r p q x = if r x = M then m else r x := fun x => by unfold joined; rw [hM, hm]
  rw [hM, hm]
  have hl : M < u.length := by rw [h.len]; exact hMn
  refine ⟨by rw [List.length_set]; exact h.len, fun x hx => ?_, fun x hx => ?_, fun x hx => ?_⟩
  · rw [getD_set _ _ _ _ hl]
    split
    · omega
    · exact h.lo x hx
  · rw [getD_set _ _ _ _ hl]
    split
    · next e =>
      subst e
      rw [Int.toNat_natCast, hj, hj, rm, rM, if_pos rfl]
      split <;> rfl
    · rw [hj, hj, h.same x hx]
  · rw [getD_set _ _ _ _ hl, hj]
    split
    · next e =>
      subst e
      intro e2
      rw [rM, if_pos rfl]
      omega
    · next e =>
      intro e2
      have := h.root x hx e2
      rw [this, if_neg e]

theorem joined_keep {r : Nat → Nat} {p q x y : Nat} (h : r x = r y) : joined r p q x = joined r p q y := by unfold joined; rw [h]
theorem joined_two (r : Nat → Nat) (p q : Nat) : joined r p q p = joined r p q q := by
  unfold joined
  rcases Nat.le_total (r p) (r q) with h1 | h1
  · rw [Nat.max_eq_right h1, Nat.min_eq_left h1]; simp
  · rw [Nat.max_eq_left h1, Nat.min_eq_right h1]; simp
theorem joined_sound {r : Nat → Nat} {p q : Nat} {n : Nat} {E : Nat → Nat → Prop} (hs : ∀ x y, x < n → y < n → E x y → E y x) (ht : ∀ x y z, x < n → y < n → z < n → E x y → E y z → E x z) (hp : p < n) (hq : q < n) (he : E p q) (h : ∀ x y, x < n → y < n → r x = r y → E x y)
    {x y : Nat} (hx : x < n) (hy : y < n) (e : joined r p q x = joined r p q y) : E x y := by
  have key : ∀ z, z < n → (r z = r p ∨ r z = r q) → E p z := by
    intro z hz h1
    rcases h1 with h1 | h1
    · exact h p z hp hz h1.symm
    · exact ht p q z hp hq hz he (h q z hq hz h1.symm)
  by_cases ex : r x = r p ∨ r x = r q
  · by_cases ey : r y = r p ∨ r y = r q
    · exact ht x p y hx hp hy (hs p x hp hx (key x hx ex)) (key y hy ey)
    · have hy' : joined r p q y = r y := by unfold joined; rw [if_neg (by omega)]
      rw [hy'] at e
      unfold joined at e
      split at e <;> omega
  · have hx' : joined r p q x = r x := by unfold joined; rw [if_neg (by omega)]
    rw [hx'] at e
    by_cases ey : r y = r p ∨ r y = r q
    · unfold joined at e
      split at e <;> omega
    · have hy' : joined r p q y = r y := by unfold joined; rw [if_neg (by omega)]
      rw [hy'] at e
      exact h x y hx hy e
theorem Un.start (n : Nat) : Un ((List.range n).map fun (p : Nat) => (p : Int)) n id := by
  have e : ∀ p, p < n → ((List.range n).map fun (p : Nat) => (p : Int)).getD p 0 = (p : Int) := fun p hp => by
    simp [List.getD_eq_getElem?_getD, hp]
  exact ⟨by simp, fun p hp => by rw [e p hp]; omega, fun p hp => by rw [e p hp]; rfl, fun p _ _ => rfl⟩

section
variable {s : Int} {n : Nat}

theorem reach_trans {keep : List Bool} {p q x : Int} (h : Fl.Reach s keep p q) (k : Fl.Reach s keep q x) : Fl.Reach s keep p x := by
  induction k with
  | base => exact h
  | step _ hm hk ih => exact .step ih hm hk

theorem reach_kept {keep : List Bool} {p x : Int} (hp : Fl.at_ keep p = true) (h : Fl.Reach s keep p x) : Fl.at_ keep x = true := by
  cases h with
  | base => exact hp
  | step _ _ hk => exact hk

theorem reach_back (hnn : ∀ x : Int, 0 ≤ x → x < n → ∀ y ∈ nbs s x, 0 ≤ y ∧ y < n) (hsy : ∀ x : Int, 0 ≤ x → x < n → ∀ y ∈ nbs s x, x ∈ nbs s y)
    {keep : List Bool} {p x : Int} (hp : 0 ≤ p ∧ p < n) (hk : Fl.at_ keep p = true) (h : Fl.Reach s keep p x) : Fl.Reach s keep x p := by
  induction h with
  | base => exact .base
  | step hr hm hy ih =>
    have hin := Fl.reach_in hnn hp hr
    exact reach_trans (.step .base (hsy _ hin.1 hin.2 _ hm) (reach_kept hk hr)) ih

/-- Which points have the color of a point. -/
def col (cs : List Int) (x : Nat) : List Bool := cs.map fun c => c == cs.getD x 0
theorem col_at {cs : List Int} {x y : Nat} (hy : y < cs.length) : Fl.at_ (col cs x) (y : Int) = (cs.getD y 0 == cs.getD x 0) := by
  simp [Fl.at_, col, List.getD_eq_getElem?_getD, List.getElem?_eq_getElem hy]
theorem col_eq {cs : List Int} {x y : Nat} (h : cs.getD y 0 = cs.getD x 0) : col cs y = col cs x := by unfold col; rw [h]

/-- Connected points of one color. -/
def Con (s : Int) (cs : List Int) (x y : Nat) : Prop := cs.getD y 0 = cs.getD x 0 ∧ Fl.Reach s (col cs x) (x : Int) (y : Int)

structure Jn (s : Int) (n : Nat) (cs : List Int) (r : Nat → Nat) (k i : Nat) : Prop where
  sound : ∀ x y, x < n → y < n → r x = r y → Con s cs x y
  done : ∀ x, x < k → ∀ y : Nat, y < n → (y : Int) ∈ nbs s (x : Int) → cs.getD y 0 = cs.getD x 0 → r y = r x
  part : ∀ y : Nat, y < n → (y : Int) ∈ (nbs s (k : Int)).take i → cs.getD y 0 = cs.getD k 0 → r y = r k

theorem Jn.start (s : Int) (n : Nat) (cs : List Int) : Jn s n cs id 0 0 :=
  ⟨fun x y _ _ e => by cases (show x = y from e); exact ⟨rfl, .base⟩, fun x hx => absurd hx (by omega), fun y _ h => by simp at h⟩

theorem take_more {l : List Int} {i : Nat} {q y : Int} (hi : i < l.length) (hq : l.getD i 0 = q) : y ∈ l.take (i + 1) ↔ y ∈ l.take i ∨ y = q := by
  have e : l.getD i 0 = l[i] := by simp [List.getD_eq_getElem?_getD, List.getElem?_eq_getElem hi]
  rw [List.take_succ_eq_append_getElem hi, List.mem_append, List.mem_singleton, ← e, hq]

theorem Jn.skip {cs : List Int} {r : Nat → Nat} {k i q : Nat} (h : Jn s n cs r k i) (hi : i < (nbs s (k : Int)).length) (hq : (nbs s (k : Int)).getD i 0 = (q : Int)) (hne : cs.getD q 0 ≠ cs.getD k 0) : Jn s n cs r k (i + 1) := by
  refine ⟨h.sound, h.done, fun y hy hm hc => ?_⟩
  rcases (take_more hi hq).1 hm with hm | e
  · exact h.part y hy hm hc
  · obtain rfl : y = q := by omega
    exact absurd hc hne

theorem Jn.join (hnn : ∀ x : Int, 0 ≤ x → x < n → ∀ y ∈ nbs s x, 0 ≤ y ∧ y < n) (hsy : ∀ x : Int, 0 ≤ x → x < n → ∀ y ∈ nbs s x, x ∈ nbs s y) {cs : List Int} (hcs : cs.length = n) {r : Nat → Nat} {k i q : Nat} (h : Jn s n cs r k i) (hk : k < n) (hqn : q < n)
    (hi : i < (nbs s (k : Int)).length) (hq : (nbs s (k : Int)).getD i 0 = (q : Int)) (he : cs.getD q 0 = cs.getD k 0) : Jn s n cs (joined r k q) k (i + 1) := by
  have hm : (q : Int) ∈ nbs s (k : Int) := by
    have := (take_more (y := (q : Int)) hi hq).2 (.inr rfl)
    exact List.mem_of_mem_take this
  refine ⟨fun x y hx hy e => ?_, fun x hx y hy hm hc => joined_keep (h.done x hx y hy hm hc), fun y hy hm hc => ?_⟩
  · refine joined_sound (E := Con s cs) (n := n) ?_ ?_ hk hqn ⟨he, .step .base hm ?_⟩ h.sound hx hy e
    · intro x y hx hy ⟨e1, e2⟩
      refine ⟨e1.symm, ?_⟩
      rw [col_eq e1]
      exact reach_back hnn hsy ⟨by omega, by omega⟩ (by rw [col_at (by omega)]; simp) e2
    · intro x y z hx hy hz ⟨e1, e2⟩ ⟨e3, e4⟩
      rw [col_eq e1] at e4
      exact ⟨e3.trans e1, reach_trans e2 e4⟩
    · rw [col_at (by omega), he]; simp
  · rcases (take_more hi hq).1 hm with hm | e
    · exact joined_keep (h.part y hy hm hc)
    · obtain rfl : y = q := by omega
      exact (joined_two r k y).symm

theorem Jn.next {cs : List Int} {r : Nat → Nat} {k i : Nat} (h : Jn s n cs r k i) (hi : (nbs s (k : Int)).length ≤ i) : Jn s n cs r (k + 1) 0 := by
  refine ⟨h.sound, fun x hx y hy hm hc => ?_, fun y _ hm => by simp at hm⟩
  by_cases e : x = k
  · subst e
    exact h.part y hy (by rw [List.take_of_length_le hi]; exact hm) hc
  · exact h.done x (by omega) y hy hm hc

theorem Jn.iff (hnn : ∀ x : Int, 0 ≤ x → x < n → ∀ y ∈ nbs s x, 0 ≤ y ∧ y < n) {cs : List Int} (hcs : cs.length = n) {r : Nat → Nat} (h : Jn s n cs r n 0) {x : Nat} (hx : x < n) (y : Int) (hy : 0 ≤ y ∧ y < n) : r y.toNat = r x ↔ Fl.Reach s (col cs x) (x : Int) y := by
  constructor
  · intro e
    have := (h.sound x y.toNat hx (by omega) e.symm).2
    rwa [Int.toNat_of_nonneg hy.1] at this
  · intro hr
    have key : ∀ z : Int, Fl.Reach s (col cs x) (x : Int) z → (0 ≤ z ∧ z < n) ∧ r z.toNat = r x ∧ cs.getD z.toNat 0 = cs.getD x 0 := by
      intro z hz
      induction hz with
      | base => exact ⟨⟨by omega, by omega⟩, by simp, by simp⟩
      | @step a b h1 hm hk ih =>
        obtain ⟨⟨a0, an⟩, i2, i3⟩ := ih
        obtain ⟨b0, bn⟩ := hnn a a0 an b hm
        have hb : (b.toNat : Int) = b := Int.toNat_of_nonneg b0
        have hc : cs.getD b.toNat 0 = cs.getD x 0 := by
          rw [← hb, col_at (by omega)] at hk
          simpa using hk
        refine ⟨⟨b0, bn⟩, ?_, hc⟩
        rw [← i2]
        refine h.done a.toNat (by omega) b.toNat (by omega) ?_ (hc.trans i3.symm)
        rw [hb, Int.toNat_of_nonneg a0]
        exact hm
    exact (key y hr).2.1
end
end Go.Proofs.YteldfjibmaigiaaDoor.Un

namespace Go.Proofs.YteldfjibmaigiaaDoor
set_option maxRecDepth 100000

namespace Gw
theorem nin {s : Int} {n : Nat} (h1 : 1 ≤ s) (h2 : s ≤ 7) (hn : (n : Int) = s * s) : ∀ x : Int, 0 ≤ x → x < n → ∀ y ∈ Pt.nbs s x, 0 ≤ y ∧ y < n := by
  intro x h0 hx y hy
  obtain ⟨m1, _, _⟩ := Pt.nbs_all s x h1 h2 h0 (by omega)
  have := List.all_eq_true.1 m1 y hy
  simp only [Bool.and_eq_true, decide_eq_true_eq] at this
  obtain ⟨_, _, a, b⟩ := (Pt.okP_iff s y).1 this.1.1
  exact ⟨a, by omega⟩
theorem nsy {s : Int} {n : Nat} (h1 : 1 ≤ s) (h2 : s ≤ 7) (hn : (n : Int) = s * s) : ∀ x : Int, 0 ≤ x → x < n → ∀ y ∈ Pt.nbs s x, x ∈ Pt.nbs s y := by
  intro x h0 hx y hy
  obtain ⟨m1, _, _⟩ := Pt.nbs_all s x h1 h2 h0 (by omega)
  have := List.all_eq_true.1 m1 y hy
  simp only [Bool.and_eq_true, decide_eq_true_eq] at this
  simpa using this.1.2

/-- The set and the marks are the same points. -/
def Same (a : Nat) (keep : List Bool) : Prop := ∀ q : Nat, a.testBit q = Fl.at_ keep (q : Int)

/-- What a growing set keeps. -/
structure Gi (s : Nat) (a m : Nat) (keep : List Bool) (g : Nat) : Prop where
  sub : ∀ q, g.testBit q = true → a.testBit q = true
  start : ∀ q, m.testBit q = true → a.testBit q = true → g.testBit q = true
  sound : ∀ q : Nat, g.testBit q = true → ∃ y : Nat, m.testBit y = true ∧ a.testBit y = true ∧ Fl.Reach s keep (y : Int) (q : Int)

/-- All that is reached. -/
def Gr (s : Nat) (a m : Nat) (keep : List Bool) (g : Nat) : Prop :=
  ∀ q : Nat, g.testBit q = true ↔ ∃ y : Nat, m.testBit y = true ∧ a.testBit y = true ∧ Fl.Reach s keep (y : Int) (q : Int)

section
variable {s a m g : Nat} {keep : List Bool}
theorem Gi.begin : Gi s a m keep (m &&& a) := by
  refine ⟨fun q h => ?_, fun q h h' => ?_, fun q h => ?_⟩
  · rw [Nat.testBit_and, Bool.and_eq_true] at h; exact h.2
  · rw [Nat.testBit_and, h, h']; rfl
  · rw [Nat.testBit_and, Bool.and_eq_true] at h
    exact ⟨q, h.1, h.2, .base⟩
theorem Gi.lt (h : Gi s a m keep g) {n : Nat} (ha : a < 2 ^ n) : g < 2 ^ n := by
  apply Nat.lt_pow_two_of_testBit
  intro i hi
  rcases hb : g.testBit i with _ | _
  · rfl
  · have := h.sub i hb
    rw [Bt.high ha hi] at this
    cases this

theorem Gi.next (h : Gi s a m keep g) (h1 : 1 ≤ s) (h2 : s ≤ 7) (ha : a < 2 ^ (s * s)) (hk : Same a keep) : Gi s a m keep (g ||| (Bt.aro s g &&& a)) := by
  have hg := h.lt ha
  have hn : ((s * s : Nat) : Int) = (s : Int) * s := by push_cast; rfl
  refine ⟨fun q hq => ?_, fun q hm hq => ?_, fun q hq => ?_⟩
  · rw [Nat.testBit_or, Nat.testBit_and, Bool.or_eq_true, Bool.and_eq_true] at hq
    rcases hq with hq | hq
    · exact h.sub q hq
    · exact hq.2
  · rw [Nat.testBit_or, h.start q hm hq]; rfl
  · rw [Nat.testBit_or, Nat.testBit_and, Bool.or_eq_true, Bool.and_eq_true] at hq
    rcases hq with hq | ⟨hq, hqa⟩
    · exact h.sound q hq
    · rw [Bt.aro_bit s g q h1 h2 hg, Bool.and_eq_true, List.any_eq_true] at hq
      obtain ⟨hqn, z, hz, hzg⟩ := hq
      have hqn' : q < s * s := by simpa using hqn
      obtain ⟨z0, zn⟩ := nin (n := s * s) (by omega) (by omega) hn (q : Int) (by omega) (by omega) z hz
      obtain ⟨y, hy1, hy2, hy3⟩ := h.sound z.toNat hzg
      have ez : ((z.toNat : Nat) : Int) = z := by omega
      rw [ez] at hy3
      exact ⟨y, hy1, hy2, .step hy3 (nsy (n := s * s) (by omega) (by omega) hn (q : Int) (by omega) (by omega) z hz) (by rw [← hk q]; exact hqa)⟩

theorem Gi.stop (h : Gi s a m keep g) (h1 : 1 ≤ s) (h2 : s ≤ 7) (ha : a < 2 ^ (s * s)) (hk : Same a keep) (he : g ||| (Bt.aro s g &&& a) = g) : Gr s a m keep g := by
  have hg := h.lt ha
  have hn : ((s * s : Nat) : Int) = (s : Int) * s := by push_cast; rfl
  intro q
  refine ⟨h.sound q, ?_⟩
  rintro ⟨y, hm, hy, hr⟩
  have hyn : y < s * s := by
    rcases Nat.lt_or_ge y (s * s) with hlt | hge
    · exact hlt
    · rw [Bt.high ha hge] at hy; cases hy
  have key : ∀ x : Int, Fl.Reach s keep (y : Int) x → 0 ≤ x ∧ x < (s * s : Nat) ∧ g.testBit x.toNat = true := by
    intro x hx
    induction hx with
    | base => exact ⟨by omega, by omega, by simpa using h.start y hm hy⟩
    | @step x z hxr hz hkz ih =>
      obtain ⟨x0, xn, hxg⟩ := ih
      obtain ⟨z0, zn⟩ := nin (n := s * s) (by omega) (by omega) hn x x0 xn z hz
      refine ⟨z0, zn, ?_⟩
      rw [← he, Nat.testBit_or, Nat.testBit_and, Bt.aro_bit s g z.toNat h1 h2 hg]
      have ez : ((z.toNat : Nat) : Int) = z := by omega
      have e1 : (Pt.nbs (s : Int) ((z.toNat : Nat) : Int)).any (fun x => g.testBit x.toNat) = true := by
        rw [List.any_eq_true, ez]
        exact ⟨x, nsy (n := s * s) (by omega) (by omega) hn x x0 xn z hz, hxg⟩
      have e2 : a.testBit z.toNat = true := by rw [hk, ez]; exact hkz
      have e3 : decide (z.toNat < s * s) = true := by simp; omega
      rw [e1, e2, e3]; simp
  have := key _ hr
  simpa using this.2.2

theorem up (g x : Nat) : g ≤ g ||| x := Nat.left_le_or
end

section
variable {s n : Nat} {cs : List Int} {x : Int}
theorem same_msk (hl : cs.length = n) (x : Int) : Same (Bt.msk cs x n) (hasCol x cs) := by
  intro q
  rw [Bt.msk_bit]
  unfold Fl.at_
  by_cases h : q < n
  · have : ((q : Int)).toNat = q := by omega
    rw [this, hasCol_at (by omega), decide_eq_true h, Bool.true_and]
    by_cases e : cs.getD q 0 = x
    · rw [e]; simp
    · have e1 : decide (cs.getD q 0 = x) = false := by simpa using e
      have e2 : (cs.getD q 0 == x) = false := by simpa using e
      rw [e1, e2]
  · have : ((q : Int)).toNat = q := by omega
    rw [this, decide_eq_false h, Bool.false_and, List.getD_eq_getElem?_getD, List.getElem?_eq_none (by rw [hasCol_len]; omega)]
    rfl

/-- A stone's group has no liberty if the set grown from the points beside empty ones does not have it. -/
theorem noLib (h1 : 1 ≤ s) (h2 : s ≤ 7) (hn : n = s * s) (hl : cs.length = n) {g : Nat} (hg : Gr s (Bt.msk cs x n) (Bt.aro s (Bt.msk cs 0 n)) (hasCol x cs) g) {q : Nat} (hq : q < n) (hx : cs.getD q 0 = x) :
    g.testBit q = false ↔ NoLib s n cs (q : Nat) := by
  subst hn
  have hn : ((s * s : Nat) : Int) = (s : Int) * s := by push_cast; rfl
  have hnn := nin (n := s * s) (s := s) (by omega) (by omega) hn
  have hsy := nsy (n := s * s) (s := s) (by omega) (by omega) hn
  have hE := Bt.msk_lt cs 0 (s * s)
  have hk := same_msk hl x
  have ex : cs.getD ((q : Int)).toNat 0 = x := by simpa using hx
  have hself : Fl.at_ (hasCol x cs) (q : Int) = true := by
    rw [← hk q, Bt.msk_bit]; simp [hq]; exact hx
  constructor
  · intro hf y y0 yn hy z z0 zn hr hm
    rw [ex] at hr
    have : g.testBit q = true := by
      rw [hg q]
      have ez : ((z.toNat : Nat) : Int) = z := by omega
      refine ⟨z.toNat, ?_, ?_, ?_⟩
      · rw [Bt.aro_bit s _ _ h1 h2 hE, ez]
        have e1 : decide (z.toNat < s * s) = true := by simp; omega
        rw [e1, Bool.true_and, List.any_eq_true]
        refine ⟨y, hm, ?_⟩
        rw [Bt.msk_bit]
        have e2 : decide (y.toNat < s * s) = true := by simp; omega
        rw [e2, Bool.true_and, decide_eq_true_eq]
        simpa using hy
      · rw [hk, ez]; exact Un.reach_kept hself hr
      · rw [ez]; exact Un.reach_back hnn hsy ⟨by omega, by omega⟩ hself hr
    rw [hf] at this; cases this
  · intro h
    rcases hb : g.testBit q with _ | _
    · rfl
    · exfalso
      obtain ⟨z, hz, hza, hr⟩ := (hg q).1 hb
      rw [Bt.aro_bit s _ _ h1 h2 hE, Bool.and_eq_true, List.any_eq_true] at hz
      obtain ⟨hzn, y, hy, hyE⟩ := hz
      have hzn' : z < s * s := by simpa using hzn
      obtain ⟨y0, yn⟩ := hnn (z : Int) (by omega) (by omega) y hy
      rw [Bt.msk_bit, Bool.and_eq_true, decide_eq_true_eq, decide_eq_true_eq] at hyE
      have hkz : Fl.at_ (hasCol x cs) (z : Int) = true := by rw [← hk z]; exact hza
      exact h y y0 yn (by simpa using hyE.2) (z : Int) (by omega) (by omega) (by rw [ex]; exact Un.reach_back hnn hsy ⟨by omega, by omega⟩ hkz hr) hy

/-- The stones of a color whose groups have no liberty. -/
def Nl (s n : Nat) (cs : List Int) (x : Int) (m : Nat) : Prop := ∀ q : Nat, m.testBit q = true ↔ q < n ∧ cs.getD q 0 = x ∧ NoLib s n cs (q : Nat)

theorem nl_of (h1 : 1 ≤ s) (h2 : s ≤ 7) (hn : n = s * s) (hl : cs.length = n) {g : Nat} (hg : Gr s (Bt.msk cs x n) (Bt.aro s (Bt.msk cs 0 n)) (hasCol x cs) g) (hgl : g < 18446744073709551616) :
    Nl s n cs x (Bt.msk cs x n &&& (18446744073709551615 - g)) := by
  intro q
  have hml := Bt.msk_lt cs x n
  have h7 := (Bt.masks s h1 h2).2.2.2.2.2.2
  rw [Bt.andNot_bit (by rw [hn] at hml ⊢; omega) hgl, Bt.msk_bit]
  simp only [Bool.and_eq_true, decide_eq_true_eq, Bool.not_eq_true']
  constructor
  · rintro ⟨⟨a, b⟩, c⟩; exact ⟨a, b, (noLib h1 h2 hn hl hg a b).1 c⟩
  · rintro ⟨a, b, c⟩; exact ⟨⟨a, b⟩, (noLib h1 h2 hn hl hg a b).2 c⟩

theorem Nl.one {m m' : Nat} (h : Nl s n cs x m) (h' : Nl s n cs x m') : m = m' := Nat.eq_of_testBit_eq fun q => by
  have := (h q).trans (h' q).symm
  rcases h3 : m.testBit q with _ | _ <;> rcases h4 : m'.testBit q with _ | _ <;> simp_all
theorem Nl.lt {m : Nat} (h : Nl s n cs x m) : m < 2 ^ n := by
  apply Nat.lt_pow_two_of_testBit
  intro i hi
  rcases hb : m.testBit i with _ | _
  · rfl
  · have := ((h i).1 hb).1; omega

/-- The marks of a loop over the points and the set. -/
theorem Nl.marks {m : Nat} {S : List Bool} {os : List Int} (h : Nl s n cs x m) (hr : RI s n cs x n S os) : ∀ i, i < n → m.testBit i = S.getD i false := by
  intro i hi
  have a := h i
  have b := hr.yes i hi
  rcases h3 : m.testBit i with _ | _ <;> rcases h4 : S.getD i false with _ | _ <;> simp_all
theorem Nl.pts {m : Nat} {S : List Bool} {os : List Int} (h : Nl s n cs x m) (hr : RI s n cs x n S os) : Bt.pts m n = Fl.pts S n := by
  unfold Bt.pts Fl.pts
  congr 1
  apply List.filter_congr
  intro q hq
  exact h.marks hr q (List.mem_range.1 hq)

theorem Nl.empty {m : Nat} {S : List Bool} {os : List Int} (h : Nl s n cs x m) (hr : RI s n cs x n S os) : Bt.msk os 0 n = Bt.msk cs 0 n ||| m := by
  apply Nat.eq_of_testBit_eq
  intro q
  rw [Nat.testBit_or, Bt.msk_bit, Bt.msk_bit]
  by_cases hq : q < n
  · rw [hr.out q hq, h.marks hr q hq]
    rcases S.getD q false with _ | _ <;> simp [hq]
  · have := Bt.high h.lt (j := q) (by omega)
    rw [this]; simp [hq]
theorem Nl.own {m : Nat} {S : List Bool} {os : List Int} (h : Nl s n cs x m) (hr : RI s n cs x n S os) (hx : x ≠ 0) (hm : Bt.msk cs x n < 18446744073709551616) (hm2 : m < 18446744073709551616) : Bt.msk os x n = Bt.msk cs x n &&& (18446744073709551615 - m) := by
  apply Nat.eq_of_testBit_eq
  intro q
  rw [Bt.andNot_bit hm hm2, Bt.msk_bit, Bt.msk_bit]
  by_cases hq : q < n
  · rw [hr.out q hq, h.marks hr q hq]
    rcases S.getD q false with _ | _
    · simp [hq]
    · simp [hq]; exact fun e => hx e.symm
  · simp [hq]
theorem Nl.other {m : Nat} {S : List Bool} {os : List Int} {y : Int} (h : Nl s n cs x m) (hr : RI s n cs x n S os) (hy : y ≠ 0) (hyx : y ≠ x) : Bt.msk os y n = Bt.msk cs y n := by
  apply Nat.eq_of_testBit_eq
  intro q
  rw [Bt.msk_bit, Bt.msk_bit]
  by_cases hq : q < n
  · rw [hr.out q hq, ← h.marks hr q hq]
    rcases hb : m.testBit q with _ | _
    · simp
    · have := ((h q).1 hb).2.1
      rw [this, if_pos rfl, decide_eq_false (fun e : (0 : Int) = y => hy e.symm), decide_eq_false (fun e : x = y => hyx e.symm)]
  · simp [hq]

/-- A stone that is placed. -/
theorem set_same {p : Nat} (hl : cs.length = n) (hp : p < n) (x : Int) : Bt.msk (cs.set p x) x n = Bt.msk cs x n ||| 2 ^ p := by
  apply Nat.eq_of_testBit_eq
  intro q
  rw [Nat.testBit_or, Bt.msk_bit, Bt.msk_bit, Nat.testBit_two_pow, Un.getD_set _ _ _ _ (by omega)]
  by_cases e : q = p
  · subst e; simp [hp]
  · rw [if_neg e, decide_eq_false (fun h : p = q => e h.symm), Bool.or_false]
theorem set_gone {p : Nat} (hl : cs.length = n) (hp : p < n) {x z : Int} (hz : z ≠ x) (hm : Bt.msk cs z n < 18446744073709551616) (hp64 : p < 64) : Bt.msk (cs.set p x) z n = Bt.msk cs z n &&& (18446744073709551615 - 2 ^ p) := by
  have h2 : 2 ^ p < 18446744073709551616 := by
    have : 2 ^ p < 2 ^ 64 := Nat.pow_lt_pow_right (by decide) hp64
    omega
  apply Nat.eq_of_testBit_eq
  intro q
  rw [Bt.andNot_bit hm h2, Bt.msk_bit, Bt.msk_bit, Nat.testBit_two_pow, Un.getD_set _ _ _ _ (by omega)]
  by_cases e : q = p
  · subst e; rw [if_pos rfl, decide_eq_false (fun h : x = z => hz h.symm)]; simp
  · rw [if_neg e, decide_eq_false (fun h : p = q => e h.symm)]; simp
theorem set_other {p : Nat} (hl : cs.length = n) (hp : p < n) {x z : Int} (hz : z ≠ x) (hc : cs.getD p 0 ≠ z) : Bt.msk (cs.set p x) z n = Bt.msk cs z n := by
  apply Nat.eq_of_testBit_eq
  intro q
  rw [Bt.msk_bit, Bt.msk_bit, Un.getD_set _ _ _ _ (by omega)]
  by_cases e : q = p
  · subst e; rw [if_pos rfl, decide_eq_false hc, decide_eq_false (fun h : x = z => hz h.symm)]
  · rw [if_neg e]
end

/-- Two lists in ascending order with the same elements. -/
theorem asc_one {l l' : List Int} (hp : l.Perm l') (h : l.Pairwise (· ≤ ·)) (h' : l'.Pairwise (· ≤ ·)) : l = l' :=
  hp.eq_of_pairwise (fun a b _ _ h1 h2 => by omega) h h'
theorem pts_pair (m n : Nat) : (Bt.pts m n).Pairwise (· < ·) := by
  unfold Bt.pts
  rw [List.pairwise_map]
  exact (List.Pairwise.filter _ List.pairwise_lt_range).imp fun h => by omega
theorem pair_of {l : List Int} (h : ∀ a b, a < b → b < l.length → l.getD a 0 ≤ l.getD b 0) : l.Pairwise (· ≤ ·) := by
  rw [List.pairwise_iff_getElem]
  intro i j hi hj hij
  have := h i j hij hj
  rwa [List.getD_eq_getElem?_getD, List.getD_eq_getElem?_getD, List.getElem?_eq_getElem hi, List.getElem?_eq_getElem hj] at this
theorem perm_of {l l' : List Int} (h : l.Pairwise (· ≠ ·)) (h' : l'.Pairwise (· ≠ ·)) (hm : ∀ x, x ∈ l ↔ x ∈ l') : l.Perm l' :=
  (List.perm_ext_iff_of_nodup h h').2 hm
/-- The points of two sets without a common point, sorted. -/
theorem both {m m' n k : Nat} {gs : List Int} (hd : ∀ q, q < n → m.testBit q = true → m'.testBit q = true → False) (h : So.SO (Bt.pts m n ++ Bt.pts m' n) gs k) (hk : (Bt.pts m n ++ Bt.pts m' n).length = k) : gs = Bt.pts (m ||| m') n := by
  have e1 : gs.Pairwise (· ≤ ·) := pair_of fun a b hab hb => h.pair a b hab (by rw [h.len, hk] at hb; exact hb)
  have e2 : (Bt.pts (m ||| m') n).Pairwise (· ≤ ·) := (pts_pair _ _).imp fun h => by omega
  have n1 : (Bt.pts m n ++ Bt.pts m' n).Pairwise (· ≠ ·) := by
    rw [List.pairwise_append]
    refine ⟨(pts_pair _ _).imp fun h => by omega, (pts_pair _ _).imp fun h => by omega, ?_⟩
    rintro a ha b hb rfl
    obtain ⟨q, rfl, hq, hqm⟩ := Bt.pts_mem.1 ha
    obtain ⟨q', hq', _, hqm'⟩ := Bt.pts_mem.1 hb
    obtain rfl : q = q' := by omega
    exact hd q hq hqm hqm'
  have n2 : (Bt.pts (m ||| m') n).Pairwise (· ≠ ·) := (pts_pair _ _).imp fun h => by omega
  refine asc_one (h.perm.trans (perm_of n1 n2 fun x => ?_)) e1 e2
  rw [List.mem_append, Bt.pts_mem, Bt.pts_mem, Bt.pts_mem]
  constructor
  · rintro (⟨q, a, b, c⟩ | ⟨q, a, b, c⟩)
    · exact ⟨q, a, b, by rw [Nat.testBit_or, c]; rfl⟩
    · exact ⟨q, a, b, by rw [Nat.testBit_or, c, Bool.or_true]⟩
  · rintro ⟨q, a, b, c⟩
    rw [Nat.testBit_or, Bool.or_eq_true] at c
    rcases c with c | c
    · exact .inl ⟨q, a, b, c⟩
    · exact .inr ⟨q, a, b, c⟩
end Gw
end Go.Proofs.YteldfjibmaigiaaDoor

namespace Go.Proofs.YteldfjibmaigiaaDoor
set_option maxRecDepth 100000
open Go.RowKit

set_option maxHeartbeats 2000000 in
theorem i_grown (s m a : Nat) (keep : List Bool) (w : World) (h1 : 1 ≤ s) (h2 : s ≤ 7) (hm : m < 2 ^ (s * s)) (ha : a < 2 ^ (s * s)) (hk : Gw.Same a keep) :
    Calls Tryd.prog 82 #[.int .u64 (m : Nat), .int .i64 (s : Nat), .int .u64 (a : Nat)] w fun e w' => ∃ g : Nat, e = .returned (.int .u64 (g : Nat)) ∧ g < 2 ^ (s * s) ∧ Gw.Gr s a m keep g ∧ Below w.heap.size w w' := by
  have h7 := (Bt.masks s h1 h2).2.2.2.2.2.2
  have r0 : bits .and .u64 (m : Int) (a : Int) = ((m &&& a : Nat) : Int) := u64_and_nat _ _ (by omega) (by omega)
  have R0 := Lib.hid r0
  have Ha := Lib.hid ha
  have Hk := Lib.hid hk
  have H7 := Lib.hid h7
  clear hm ha hk h7 r0
  go_enter Tryd.func82, Tryd.ntmps82
  go_wp2_with fail
  go_loopw [7] (fun v wr => ∃ g : Nat, v = .int .u64 (g : Nat) ∧ Gw.Gi s a m keep g ∧ Below w.heap.size w wr) (fun v _ => 562949953421312 - (intOf v).toNat)
  case atStart => exact ⟨m &&& a, by rw [R0.out], Gw.Gi.begin, Below.refl _ _⟩
  case round =>
    obtain ⟨g, rfl, hg, hb⟩ := hrel
    have hgl := hg.lt Ha.out
    have hAl := Bt.aro_lt s g h1 h2 hgl
    have h7 := H7.out
    have ha := Ha.out
    obtain ⟨aG, haG⟩ : ∃ x, x = Bt.aro s g := ⟨_, rfl⟩
    have cA : ∀ w, Calls Tryd.prog 81 #[.int .u64 (g : Nat), .int .i64 (s : Nat)] w fun e w' => e = .returned (.int .u64 (aG : Int)) ∧ ∃ d, w' = w.drewN d := fun w => by rw [haG]; exact i_around s g w h1 h2 hgl
    rw [← haG] at hAl
    obtain ⟨X, hX⟩ : ∃ X, X = aG &&& a := ⟨_, rfl⟩
    have hXl : X < 2 ^ (s * s) := by rw [hX]; exact Bt.and_lt hAl
    obtain ⟨L, hL⟩ : ∃ L, L = g ||| X := ⟨_, rfl⟩
    have r1 : bits .and .u64 (aG : Int) (a : Int) = (X : Int) := by rw [hX]; exact u64_and_nat _ _ (by omega) (by omega)
    have r2 : bits .or .u64 (g : Int) (X : Int) = (L : Int) := by rw [hL]; exact u64_or_nat _ _ (by omega) (by omega)
    have hup : g ≤ L := by rw [hL]; exact Gw.up _ _
    have hLl : L < 2 ^ (s * s) := by rw [hL]; exact Bt.or_lt hgl hXl
    have hLe : L = g ||| (Bt.aro s g &&& a) := by rw [hL, hX, haG]
    have hnext : Gw.Gi s a m keep L := by rw [hLe]; exact hg.next h1 h2 ha Hk.out
    have CA := Lib.hid cA
    have Hg := Lib.hid hg
    have Hn := Lib.hid hnext
    have Hb := Lib.hid hb
    have HLe := Lib.hid hLe
    have Hgl := Lib.hid hgl
    have hL49 : L < 562949953421312 := by omega
    by_cases e : L = g
    · have e0 : ((L : Int) == (g : Int)) = true := by simp [e]
      have He := Lib.hid e
      clear e hLe hnext hg hb cA hgl hLl hXl hX hL haG hAl ha h7 hup
      go_wp2_with fail
      refine (CA.out _).mono ?_
      rintro e w' ⟨rfl, d, rfl⟩
      go_wp2_with fail
      go_ret
      exact ⟨g, rfl, Hgl.out, Hg.out.stop h1 h2 Ha.out Hk.out (by rw [← HLe.out]; exact He.out), ⟨Hb.out.os, Hb.out.tape, Hb.out.output, Hb.out.size, Hb.out.block⟩⟩
    · have e0 : ((L : Int) == (g : Int)) = false := by simp; omega
      have hlt : g < L := by omega
      have He := Lib.hid e
      clear e hLe hnext hg hb cA hgl hLl hXl hX hL haG hAl ha h7 hup
      go_wp2_with fail
      refine (CA.out _).mono ?_
      rintro e w' ⟨rfl, d, rfl⟩
      go_wp2_with fail
      go_roundw
      case rel => exact ⟨L, rfl, Hn.out, ⟨Hb.out.os, Hb.out.tape, Hb.out.output, Hb.out.size, Hb.out.block⟩⟩
      case measure => simp [intOf]; omega

section
variable (s E M O : Nat) (w : World) (h1 : 1 ≤ s) (h2 : s ≤ 7) (hE : E < 2 ^ (s * s)) (hM : M < 2 ^ (s * s)) (keep : List Bool) (hk : Gw.Same M keep)
include h1 h2 hE hM hk
set_option maxHeartbeats 2000000 in
theorem i_without1 : Calls Tryd.prog 57 #[.agg #[.int .i64 (s : Nat), .int .u64 (E : Nat), .int .u64 (M : Nat), .int .u64 (O : Nat)], .int .i64 1] w fun e w' => ∃ g : Nat, e = .returned (.int .u64 ((M &&& (18446744073709551615 - g) : Nat) : Int)) ∧ g < 2 ^ (s * s) ∧ Gw.Gr s M (Bt.aro s E) keep g ∧ Below w.heap.size w w' := by
  have h7 := (Bt.masks s h1 h2).2.2.2.2.2.2
  have hAl := Bt.aro_lt s E h1 h2 hE
  obtain ⟨aE, haE⟩ : ∃ x, x = Bt.aro s E := ⟨_, rfl⟩
  have cE : ∀ w, Calls Tryd.prog 81 #[.int .u64 (E : Nat), .int .i64 (s : Nat)] w fun e w' => e = .returned (.int .u64 (aE : Int)) ∧ ∃ d, w' = w.drewN d := fun w => by rw [haE]; exact i_around s E w h1 h2 hE
  have cG : ∀ w, Calls Tryd.prog 82 #[.int .u64 (aE : Nat), .int .i64 (s : Nat), .int .u64 (M : Nat)] w fun e w' => ∃ g : Nat, e = .returned (.int .u64 (g : Nat)) ∧ g < 2 ^ (s * s) ∧ Gw.Gr s M aE keep g ∧ Below w.heap.size w w' := fun w => i_grown s aE M keep w h1 h2 (by rw [haE]; exact hAl) hM hk
  rw [← haE]
  have CE := Lib.hid cE
  have CG := Lib.hid cG
  have H7 := Lib.hid h7
  have HM := Lib.hid hM
  have P0 := Lib.hid (Px.new w (s : Nat) E M O)
  have Hb := Lib.hid ((Below.refl w.heap.size w).alloc (Nat.le_refl _) (.cells #[.int .i64 (s : Nat), .int .u64 (E : Nat), .int .u64 (M : Nat), .int .u64 (O : Nat)] 58))
  have c0 := P0.out.c0
  have c1 := P0.out.c1
  have c2 := P0.out.c2
  have c3 := P0.out.c3
  clear h7 hAl haE cE cG hk hE hM
  go_enter Tryd.func57, Tryd.ntmps57
  go_wp2_with fail
  refine (CE.out _).mono ?_
  rintro e w' ⟨rfl, d, rfl⟩
  obtain ⟨y, hy⟩ : ∃ y, y = (w.alloc (.cells #[.int .i64 (s : Nat), .int .u64 (E : Nat), .int .u64 (M : Nat), .int .u64 (O : Nat)] 58)).drewN d := ⟨_, rfl⟩
  have P1 : Hid (Px y w.heap.size (s : Nat) E M O) := Lib.hid (by rw [hy]; exact P0.out)
  have Hb1 : Hid (Below w.heap.size w y) := Lib.hid (by rw [hy]; exact ⟨Hb.out.os, Hb.out.tape, Hb.out.output, Hb.out.size, Hb.out.block⟩)
  rw [← hy]
  clear hy c0 c1 c2 c3 P0 Hb
  have c0 := P1.out.c0
  go_wp2_with fail
  refine (CG.out _).mono ?_
  rintro e y2 ⟨g, rfl, hgl, hg, hb⟩
  have r1 : bits .andNot .u64 (M : Int) (g : Int) = ((M &&& (18446744073709551615 - g) : Nat) : Int) := u64_andNot_nat _ _ (by have := HM.out; have := H7.out; omega) (by have := H7.out; omega)
  have R1 := Lib.hid r1
  have Hg := Lib.hid hg
  have Hb2 := Lib.hid (Hb1.out.trans (hb.mono Hb1.out.size))
  have Hgl := Lib.hid hgl
  clear hg hb r1 c0 hgl
  go_wp2_with fail
  go_ret
  exact ⟨g, by rw [← R1.out]; rfl, Hgl.out, Hg.out, Hb2.out⟩

set_option maxHeartbeats 2000000 in
theorem i_without2 : Calls Tryd.prog 57 #[.agg #[.int .i64 (s : Nat), .int .u64 (E : Nat), .int .u64 (O : Nat), .int .u64 (M : Nat)], .int .i64 2] w fun e w' => ∃ g : Nat, e = .returned (.int .u64 ((M &&& (18446744073709551615 - g) : Nat) : Int)) ∧ g < 2 ^ (s * s) ∧ Gw.Gr s M (Bt.aro s E) keep g ∧ Below w.heap.size w w' := by
  have h7 := (Bt.masks s h1 h2).2.2.2.2.2.2
  have hAl := Bt.aro_lt s E h1 h2 hE
  obtain ⟨aE, haE⟩ : ∃ x, x = Bt.aro s E := ⟨_, rfl⟩
  have cE : ∀ w, Calls Tryd.prog 81 #[.int .u64 (E : Nat), .int .i64 (s : Nat)] w fun e w' => e = .returned (.int .u64 (aE : Int)) ∧ ∃ d, w' = w.drewN d := fun w => by rw [haE]; exact i_around s E w h1 h2 hE
  have cG : ∀ w, Calls Tryd.prog 82 #[.int .u64 (aE : Nat), .int .i64 (s : Nat), .int .u64 (M : Nat)] w fun e w' => ∃ g : Nat, e = .returned (.int .u64 (g : Nat)) ∧ g < 2 ^ (s * s) ∧ Gw.Gr s M aE keep g ∧ Below w.heap.size w w' := fun w => i_grown s aE M keep w h1 h2 (by rw [haE]; exact hAl) hM hk
  rw [← haE]
  have CE := Lib.hid cE
  have CG := Lib.hid cG
  have H7 := Lib.hid h7
  have HM := Lib.hid hM
  have P0 := Lib.hid (Px.new w (s : Nat) E O M)
  have Hb := Lib.hid ((Below.refl w.heap.size w).alloc (Nat.le_refl _) (.cells #[.int .i64 (s : Nat), .int .u64 (E : Nat), .int .u64 (O : Nat), .int .u64 (M : Nat)] 58))
  have c0 := P0.out.c0
  have c1 := P0.out.c1
  have c2 := P0.out.c2
  have c3 := P0.out.c3
  clear h7 hAl haE cE cG hk hE hM
  go_enter Tryd.func57, Tryd.ntmps57
  go_wp2_with fail
  refine (CE.out _).mono ?_
  rintro e w' ⟨rfl, d, rfl⟩
  obtain ⟨y, hy⟩ : ∃ y, y = (w.alloc (.cells #[.int .i64 (s : Nat), .int .u64 (E : Nat), .int .u64 (O : Nat), .int .u64 (M : Nat)] 58)).drewN d := ⟨_, rfl⟩
  have P1 : Hid (Px y w.heap.size (s : Nat) E O M) := Lib.hid (by rw [hy]; exact P0.out)
  have Hb1 : Hid (Below w.heap.size w y) := Lib.hid (by rw [hy]; exact ⟨Hb.out.os, Hb.out.tape, Hb.out.output, Hb.out.size, Hb.out.block⟩)
  rw [← hy]
  clear hy c0 c1 c2 c3 P0 Hb
  have c0 := P1.out.c0
  go_wp2_with fail
  refine (CG.out _).mono ?_
  rintro e y2 ⟨g, rfl, hgl, hg, hb⟩
  have r1 : bits .andNot .u64 (M : Int) (g : Int) = ((M &&& (18446744073709551615 - g) : Nat) : Int) := u64_andNot_nat _ _ (by have := HM.out; have := H7.out; omega) (by have := H7.out; omega)
  have R1 := Lib.hid r1
  have Hg := Lib.hid hg
  have Hb2 := Lib.hid (Hb1.out.trans (hb.mono Hb1.out.size))
  have Hgl := Lib.hid hgl
  clear hg hb r1 c0 hgl
  go_wp2_with fail
  go_ret
  exact ⟨g, by rw [← R1.out]; rfl, Hgl.out, Hg.out, Hb2.out⟩

end
end Go.Proofs.YteldfjibmaigiaaDoor

namespace Go.Proofs.YteldfjibmaigiaaDoor
set_option maxRecDepth 100000
open Go.RowKit

/-- Empty points all of whose neighbours have the color of M. -/
def encM (s E M O : Nat) : Nat := (E &&& Bt.aro s M) &&& (18446744073709551615 - Bt.aro s (E ||| O))
/-- Whether the corners of a point hold. -/
def holdB (s p O : Nat) : Bool := if (Bt.pts (Bt.abv s (Bt.bes s (2 ^ p))) 64).length = 4 then decide ((Bt.pts (Bt.abv s (Bt.bes s (2 ^ p)) &&& O) 64).length ≤ 1) else decide ((Bt.pts (Bt.abv s (Bt.bes s (2 ^ p)) &&& O) 64).length = 0)

section
variable (s E M O : Nat) (w : World) (h1 : 1 ≤ s) (h2 : s ≤ 7) (hE : E < 2 ^ (s * s)) (hM : M < 2 ^ (s * s)) (hO : O < 2 ^ (s * s))
include h1 h2 hE hM hO

end
end Go.Proofs.YteldfjibmaigiaaDoor

namespace Go.Proofs.YteldfjibmaigiaaDoor
set_option maxRecDepth 100000
open Go.RowKit

section
variable (s p E M O : Nat) (w : World) (h1 : 1 ≤ s) (h2 : s ≤ 7) (hp : p < s * s) (hO : O < 2 ^ (s * s))
include h1 h2 hp hO

end
end Go.Proofs.YteldfjibmaigiaaDoor

namespace Go.Proofs.YteldfjibmaigiaaDoor
set_option maxRecDepth 100000
open Go.RowKit

theorem encM_lt {s E M O : Nat} (hE : E < 2 ^ (s * s)) : encM s E M O < 2 ^ (s * s) := Nat.lt_of_le_of_lt Nat.and_le_left (Nat.lt_of_le_of_lt Nat.and_le_left hE)

/-- The eyes among the enclosed points Y. -/
def IsEy (s Y O m : Nat) : Prop := ∀ q, m.testBit q = (Y.testBit q && holdB s q O)
theorem IsEy.one {s Y O m m' : Nat} (h : IsEy s Y O m) (h' : IsEy s Y O m') : m = m' := Nat.eq_of_testBit_eq fun q => (h q).trans (h' q).symm
def EyP (s O : Nat) (l : List Int) (m : Nat) : Prop := ∀ q : Nat, m.testBit q = (decide ((q : Int) ∈ l) && holdB s q O)
theorem EyP.yes {s O m q : Nat} {l : List Int} {k : Nat} (h : EyP s O (l.take k) m) (hk : k < l.length) (hq : l.getD k 0 = (q : Int)) (hh : holdB s q O = true) : EyP s O (l.take (k + 1)) (m ||| 2 ^ q) := by
  intro z
  have ht : l.take (k + 1) = l.take k ++ [(q : Int)] := by
    rw [List.take_succ_eq_append_getElem hk]
    congr 2
    rw [List.getD_eq_getElem?_getD, List.getElem?_eq_getElem hk] at hq
    exact hq
  rw [Nat.testBit_or, h z, Nat.testBit_two_pow, ht]
  by_cases e : q = z
  · subst e
    simp [hh]
  · have e2 : ((z : Int) = (q : Int)) = False := by simp; omega
    simp [e, e2]
theorem EyP.no {s O m q : Nat} {l : List Int} {k : Nat} (h : EyP s O (l.take k) m) (hk : k < l.length) (hq : l.getD k 0 = (q : Int)) (hh : holdB s q O = false) : EyP s O (l.take (k + 1)) m := by
  intro z
  have ht : l.take (k + 1) = l.take k ++ [(q : Int)] := by
    rw [List.take_succ_eq_append_getElem hk]
    congr 2
    rw [List.getD_eq_getElem?_getD, List.getElem?_eq_getElem hk] at hq
    exact hq
  rw [h z, ht]
  by_cases e : q = z
  · subst e
    simp [hh]
  · have e2 : ((z : Int) = (q : Int)) = False := by simp; omega
    simp [e2]
theorem EyP.done {s O m Y : Nat} (hY : Y < 2 ^ 64) (h : EyP s O (Bt.pts Y 64) m) : IsEy s Y O m := by
  intro q
  rw [h q]
  congr 1
  rw [Bool.eq_iff_iff, decide_eq_true_eq, Bt.pts_mem]
  constructor
  · rintro ⟨z, hz, _, h2⟩
    have : q = z := by omega
    rw [this]; exact h2
  · intro hb
    refine ⟨q, rfl, ?_, hb⟩
    rcases Nat.lt_or_ge q 64 with h' | h'
    · exact h'
    · rw [Bt.high hY h'] at hb; cases hb

section
variable (s E M O : Nat) (w : World) (ht : Tab w) (h1 : 1 ≤ s) (h2 : s ≤ 7) (hE : E < 2 ^ (s * s)) (hM : M < 2 ^ (s * s)) (hO : O < 2 ^ (s * s))
include ht h1 h2 hE hM hO

end
end Go.Proofs.YteldfjibmaigiaaDoor

namespace Go.Proofs.YteldfjibmaigiaaDoor
set_option maxRecDepth 100000
open Go.RowKit

theorem nbs_at {s : Int} {n : Nat} (h1 : 1 ≤ s) (h2 : s ≤ 7) (hn : (n : Int) = s * s) : ∀ x : Int, 0 ≤ x → x < n → ∀ y ∈ Pt.nbs s x, 0 ≤ y ∧ y < n := by
  intro x h0 hx y hy
  obtain ⟨m1, _, _⟩ := Pt.nbs_all s x h1 h2 h0 (by omega)
  have := List.all_eq_true.1 m1 y hy
  simp only [Bool.and_eq_true, decide_eq_true_eq] at this
  obtain ⟨_, _, a, b⟩ := (Pt.okP_iff s y).1 this.1.1
  exact ⟨a, by omega⟩

/-- All points of a list have a color. -/
def encA (cs : List Int) (x : Int) (l : List Int) : Bool := l.all fun q => cs.getD q.toNat 0 == x
/-- An enclosed point, by the list of its neighbours. -/
def encS (s : Int) (cs : List Int) (p x : Int) : Bool := encA cs x (Pt.nbs s p) && ((cs.getD p.toNat 0 == 0) && decide (0 < (Pt.nbs s p).length))
/-- How many points of a list have a color. -/
def cntS (cs : List Int) (y : Int) (l : List Int) : Nat := (l.filter fun q => cs.getD q.toNat 0 == y).length
def holdS (s : Int) (cs : List Int) (p y : Int) : Bool := (cntS cs y (Bt.dia s p) == 0) || ((cntS cs y (Bt.dia s p) == 1) && ((Bt.dia s p).length == 4))

theorem encA_succ {cs l : List Int} {x : Int} {k : Nat} (h : k < l.length) : encA cs x (l.take (k + 1)) = (encA cs x (l.take k) && (cs.getD (l.getD k 0).toNat 0 == x)) := by
  unfold encA
  rw [List.take_succ_eq_append_getElem h, List.all_append, List.getD_eq_getElem?_getD (l := l), List.getElem?_eq_getElem h]
  simp
theorem encA_bad {cs l : List Int} {x : Int} {k : Nat} (h : k < l.length) (hc : (cs.getD (l.getD k 0).toNat 0 == x) = false) : encA cs x l = false := by
  unfold encA
  rw [List.all_eq_false]
  refine ⟨l[k], List.getElem_mem _, ?_⟩
  rw [List.getD_eq_getElem?_getD (l := l), List.getElem?_eq_getElem h] at hc
  simpa using hc
theorem cntS_succ {cs l : List Int} {y : Int} {k : Nat} (h : k < l.length) : cntS cs y (l.take (k + 1)) = cntS cs y (l.take k) + (if (cs.getD (l.getD k 0).toNat 0 == y) then 1 else 0) := by
  unfold cntS
  rw [List.take_succ_eq_append_getElem h, List.filter_append, List.length_append, List.getD_eq_getElem?_getD (l := l), List.getElem?_eq_getElem h]
  congr 1
  show _ = if (cs.getD (l[k]).toNat 0 == y) then 1 else 0
  cases e : (cs.getD (l[k]).toNat 0 == y) <;> simp only [List.filter_cons, e, List.filter_nil] <;> rfl

theorem any_cong {l : List Int} {f g : Int → Bool} (h : ∀ z ∈ l, f z = g z) : l.any f = l.any g := by
  rw [Bool.eq_iff_iff, List.any_eq_true, List.any_eq_true]
  constructor
  · rintro ⟨z, hz, e⟩; exact ⟨z, hz, (h z hz) ▸ e⟩
  · rintro ⟨z, hz, e⟩; exact ⟨z, hz, (h z hz).symm ▸ e⟩

theorem pts_and (C O : Nat) (n : Nat) : Bt.pts (C &&& O) n = (Bt.pts C n).filter fun q => O.testBit q.toNat := by
  unfold Bt.pts
  rw [List.filter_map, List.filter_filter]
  congr 1
  apply List.filter_congr
  intro q _
  rw [Nat.testBit_and, Bool.and_comm]
  rfl

section
variable (s : Nat) (cs : List Int) (x y : Int) (n : Nat) (h1 : 1 ≤ s) (h2 : s ≤ 7) (hn : n = s * s)
include h1 h2 hn

theorem hold_eq (p : Nat) (hp : p < s * s) : holdB s p (Bt.msk cs y n) = holdS s cs p y := by
  obtain ⟨hd, _⟩ := Bt.dia_bits s p h1 h2 hp
  have hlt := Bt.abv_lt s (Bt.bes s (2 ^ p))
  have e : (Bt.pts (Bt.abv s (Bt.bes s (2 ^ p)) &&& Bt.msk cs y n) 64).length = cntS cs y (Bt.dia s p) := by
    rw [pts_and, hd, cntS]
    congr 1
    apply List.filter_congr
    intro q hq
    rw [← hd, Bt.pts_mem] at hq
    obtain ⟨z, rfl, _, hz⟩ := hq
    have hzn : z < n := by
      rw [hn]
      rcases Nat.lt_or_ge z (s * s) with h' | h'
      · exact h'
      · rw [Bt.high hlt h'] at hz; cases hz
    rw [Bt.msk_bit, Int.toNat_natCast, decide_eq_true hzn, Bool.true_and]
    rw [Bool.eq_iff_iff, decide_eq_true_eq, beq_iff_eq]
  have hle : cntS cs y (Bt.dia s p) ≤ (Bt.dia s p).length := List.length_filter_le _ _
  unfold holdB holdS
  rw [e, hd]
  generalize cntS cs y (Bt.dia s p) = a at *
  generalize (Bt.dia s p).length = b at *
  rw [Bool.eq_iff_iff]
  split
  · simp; omega
  · simp; omega

theorem enc_eq (hl : cs.length = n) (hok : ∀ c ∈ cs, 0 ≤ c ∧ c ≤ 2) (hx : (x = 1 ∧ y = 2) ∨ (x = 2 ∧ y = 1)) (p : Nat) (hp : p < s * s) : (encM s (Bt.msk cs 0 n) (Bt.msk cs x n) (Bt.msk cs y n)).testBit p = encS s cs p x := by
  have h7 := (Bt.masks s h1 h2).2.2.2.2.2.2
  have m0 : Bt.msk cs 0 n < 2 ^ (s * s) := by rw [← hn]; exact Bt.msk_lt cs 0 n
  have mx : Bt.msk cs x n < 2 ^ (s * s) := by rw [← hn]; exact Bt.msk_lt cs x n
  have my : Bt.msk cs y n < 2 ^ (s * s) := by rw [← hn]; exact Bt.msk_lt cs y n
  have mq := Bt.or_lt m0 my
  have a1 := Bt.aro_lt s _ h1 h2 mx
  have a2 := Bt.aro_lt s _ h1 h2 mq
  have hE : (Bt.msk cs 0 n &&& Bt.aro s (Bt.msk cs x n)) < 18446744073709551616 := Nat.lt_of_le_of_lt Nat.and_le_left (by omega)
  have hs : ((n : Nat) : Int) = (s : Int) * s := by rw [hn]; push_cast; rfl
  unfold encM
  rw [Bt.andNot_bit hE (by omega), Nat.testBit_and, Bt.aro_bit s _ _ h1 h2 mx, Bt.aro_bit s _ _ h1 h2 mq, Bt.msk_bit, decide_eq_true (show p < n by omega), decide_eq_true hp, Bool.true_and, Bool.true_and, Bool.true_and]
  have hin := nbs_at (n := n) (by omega) (by omega) hs (p : Int) (by omega) (by omega)
  have key : ∀ z ∈ Pt.nbs s p, (Bt.msk cs x n).testBit z.toNat = (cs.getD z.toNat 0 == x) ∧ (Bt.msk cs 0 n ||| Bt.msk cs y n).testBit z.toNat = !(cs.getD z.toNat 0 == x) := by
    intro z hz
    obtain ⟨z0, z1⟩ := hin z hz
    have hzn : z.toNat < n := by omega
    have hc := hok (cs.getD z.toNat 0) (by rw [List.getD_eq_getElem?_getD, List.getElem?_eq_getElem (by omega)]; exact List.getElem_mem _)
    rw [Nat.testBit_or, Bt.msk_bit, Bt.msk_bit, Bt.msk_bit, decide_eq_true hzn, Bool.true_and, Bool.true_and, Bool.true_and]
    generalize cs.getD z.toNat 0 = c at *
    constructor
    · rw [Bool.eq_iff_iff, decide_eq_true_eq, beq_iff_eq]
    · have : c = 0 ∨ c = 1 ∨ c = 2 := by omega
      rcases hx with ⟨rfl, rfl⟩ | ⟨rfl, rfl⟩ <;> rcases this with rfl | rfl | rfl <;> rfl
  unfold encS encA
  rw [Int.toNat_natCast]
  have e0 : decide (cs.getD p 0 = 0) = (cs.getD p 0 == 0) := by rw [Bool.eq_iff_iff, decide_eq_true_eq, beq_iff_eq]
  rw [e0]
  generalize (cs.getD p 0 == 0) = b0
  generalize Pt.nbs s p = l at *
  have e1 : (l.any fun z => (Bt.msk cs x n).testBit z.toNat) = l.any fun z => cs.getD z.toNat 0 == x := any_cong fun z hz => (key z hz).1
  have e2 : (l.any fun z => (Bt.msk cs 0 n ||| Bt.msk cs y n).testBit z.toNat) = l.any fun z => !(cs.getD z.toNat 0 == x) := any_cong fun z hz => (key z hz).2
  rw [e1, e2, List.not_any_eq_all_not]
  simp only [Bool.not_not]
  cases l with
  | nil => simp
  | cons z l =>
    rw [List.any_cons, List.all_cons, List.length_cons, decide_eq_true (Nat.succ_pos _)]
    generalize (cs.getD z.toNat 0 == x) = a
    generalize (l.any fun z => cs.getD z.toNat 0 == x) = b
    generalize (l.all fun z => cs.getD z.toNat 0 == x) = c
    cases a <;> cases b <;> cases c <;> cases b0 <;> rfl
end
end Go.Proofs.YteldfjibmaigiaaDoor

namespace Go.Proofs.YteldfjibmaigiaaDoor
set_option maxRecDepth 100000
open Go.RowKit

end Go.Proofs.YteldfjibmaigiaaDoor

namespace Go.Proofs.YteldfjibmaigiaaDoor
set_option maxRecDepth 100000
open Go.RowKit

end Go.Proofs.YteldfjibmaigiaaDoor

namespace Go.Proofs.YteldfjibmaigiaaDoor
set_option maxRecDepth 100000
open Go.RowKit

theorem nbs_le (s p : Int) : (Pt.nbs s p).length ≤ 4 := by
  unfold Pt.nbs Pt.nbL Pt.nbA Pt.nbB Pt.nbU
  simp only [List.length_append]
  split <;> split <;> split <;> split <;> simp

theorem s_opp3 (c y : Int) (w : World) (h : y = 3 - c) (h1 : 1 ≤ c) (h2 : c ≤ 2) : Calls Tryd.prog 65 #[.int .i64 c] w fun e w' => e = .returned (.int .i64 y) ∧ w' = w := by
  have H := Lib.hid h
  clear h
  go_enter Tryd.func65, Tryd.ntmps65
  go_wp2_with fail
  go_ret
  exact ⟨ret_int H.out.symm, rfl⟩
theorem s_eyeColor (x : Int) (w : World) : Calls Tryd.prog 37 #[.int .i64 x] w fun e w' => e = .returned (.bool (decide (1 ≤ x) && decide (x ≤ 2))) ∧ w = w' := by
  go_enter Tryd.func37, Tryd.ntmps37
  go_wp2_with fail
  refine (s_range _ _ _ _).mono ?_
  rintro e w' ⟨rfl, rfl⟩
  go_wp2_with fail
  go_ret
  exact ⟨rfl, rfl⟩

section
variable (s p : Nat) (x : Int) (w : World) (B : Nat) (A : Option Addr) (n c : Nat) (cs : List Int) (h : Ints w B A n cs) (hB : B ≤ w.heap.size) (h1 : 1 ≤ s) (h2 : s ≤ 7) (hn : n = s * s) (hp : p < s * s)
include h hB h1 h2 hn hp

end
end Go.Proofs.YteldfjibmaigiaaDoor

namespace Go.Proofs.YteldfjibmaigiaaDoor
set_option maxRecDepth 100000
open Go.RowKit

def eyeS (s : Int) (cs : List Int) (p x : Int) : Bool := encS s cs p x && holdS s cs p (3 - x)

section
variable (s p : Nat) (x : Int) (w : World) (B : Nat) (A : Option Addr) (n c : Nat) (cs : List Int) (h : Ints w B A n cs) (hB : B ≤ w.heap.size) (h1 : 1 ≤ s) (h2 : s ≤ 7) (hn : n = s * s) (hp : p < s * s) (x1 : 1 ≤ x) (x2 : x ≤ 2)
include h hB h1 h2 hn hp x1 x2

end
end Go.Proofs.YteldfjibmaigiaaDoor

namespace Go.Proofs.YteldfjibmaigiaaDoor
set_option maxRecDepth 100000
open Go.RowKit

def eyB (s : Int) (cs : List Int) (p x : Int) : Bool := Bd.okB s cs && (Pt.okP s p && ((decide (1 ≤ x) && decide (x ≤ 2)) && eyeS s cs p x))

theorem s_vpt (s p : Int) (w : World) : Calls Tryd.prog 38 #[.int .i64 s, .int .i64 p] w fun e w' => e = .returned (.bool (decide (0 ≤ p) && decide (p ≤ wrap64 (wrap64 (s * s) - 1)))) ∧ w = w' := by
  go_enter Tryd.func38, Tryd.ntmps38
  go_wp2_with fail
  refine (s_range _ _ _ _).mono ?_
  rintro e w' ⟨rfl, rfl⟩
  go_wp2_with fail
  go_ret
  exact ⟨rfl, rfl⟩
theorem s_vptB (s p : Int) (w : World) (h1 : 1 ≤ s) (h2 : s ≤ 7) : Calls Tryd.prog 38 #[.int .i64 s, .int .i64 p] w fun e w' => e = .returned (.bool (Pt.okP s p)) ∧ w = w' := by
  have hsq := Pt.sq_bd s h1 h2
  have e1 : wrap64 (s * s) = s * s := by unfold wrap64; omega
  have e2 : wrap64 (s * s - 1) = s * s - 1 := by unfold wrap64; omega
  have e : (decide (0 ≤ p) && decide (p ≤ wrap64 (wrap64 (s * s) - 1))) = Pt.okP s p := by
    rw [e1, e2, Bool.eq_iff_iff, Pt.okP_iff, Bool.and_eq_true, decide_eq_true_eq, decide_eq_true_eq]
    omega
  rw [← e]
  exact s_vpt s p w
theorem i_eyeStone (x : Int) (w : World) : Calls Tryd.prog 30 #[.int .i64 x] w fun e w' => e = .returned (.bool (decide (1 ≤ x) && decide (x ≤ 2))) ∧ w = w' := by
  refine (i_isStone x w).mono ?_
  rintro e w' ⟨rfl, rfl⟩
  refine ⟨ret_bool ?_, rfl⟩
  rw [Bool.eq_iff_iff]
  simp
  omega

theorem bit_ne (m p : Nat) (hm : m < 18446744073709551616) (hp : p < 64) : (bits .and .u64 (m : Int) ((2 ^ p : Nat) : Int) != 0) = m.testBit p := by
  have hpp : 2 ^ p < 18446744073709551616 := Nat.pow_lt_pow_right (n := 64) (by decide) hp
  rw [u64_and_nat _ _ hm hpp]
  have hb : (m &&& 2 ^ p).testBit p = m.testBit p := by rw [Nat.testBit_and, Nat.testBit_two_pow_self, Bool.and_true]
  cases e : m.testBit p
  · have : m &&& 2 ^ p = 0 := Nat.eq_of_testBit_eq fun j => by
      rw [Nat.testBit_and, Nat.testBit_two_pow, Nat.zero_testBit]
      by_cases hj : p = j
      · subst hj; rw [e]; rfl
      · rw [decide_eq_false hj, Bool.and_false]
    rw [this]; rfl
  · have : m &&& 2 ^ p ≠ 0 := fun h0 => by rw [h0, Nat.zero_testBit, e] at hb; cases hb
    rw [bne_iff_ne]
    omega

section
variable (s p x : Int) (w : World) (B : Nat) (A : Option Addr) (n c : Nat) (cs : List Int) (h : Ints w B A n cs) (hB : B ≤ w.heap.size) (hn : n ≤ 1000000000)
include h hB hn

end
end Go.Proofs.YteldfjibmaigiaaDoor

namespace Go.Proofs.YteldfjibmaigiaaDoor
set_option maxRecDepth 100000
open Go.RowKit

theorem bit_eq (m p : Nat) (hm : m < 18446744073709551616) (hp : p < 64) : (bits .and .u64 (m : Int) ((2 ^ p : Nat) : Int) == 0) = !m.testBit p := by
  have := bit_ne m p hm hp
  rw [← this]; simp [bne]

theorem RI.make {s x : Int} {n : Nat} {cs : List Int} (hl : cs.length = n) : ∀ j, j ≤ n → ∃ S os, RI s n cs x j S os
  | 0, _ => ⟨_, _, RI.start x hl⟩
  | j + 1, h => by
    obtain ⟨S, os, hr⟩ := RI.make hl j (by omega)
    by_cases hx : cs.getD j 0 = x ∧ NoLib s n cs (j : Nat)
    · exact ⟨_, _, hr.take (by omega) hx⟩
    · exact ⟨_, _, hr.no hx⟩
theorem RI.one {s x : Int} {n : Nat} {cs : List Int} {S S' : List Bool} {os os' : List Int} (h : RI s n cs x n S os) (h' : RI s n cs x n S' os') : S = S' ∧ os = os' := by
  have e : ∀ i, i < n → S.getD i false = S'.getD i false := fun i hi => by
    have := (h.yes i hi).trans (h'.yes i hi).symm
    rcases h3 : S.getD i false with _ | _ <;> rcases h4 : S'.getD i false with _ | _ <;> simp_all
  refine ⟨List.ext_getElem (by rw [h.len, h'.len]) fun i h1 h2 => ?_, List.ext_getElem (by rw [h.olen, h'.olen]) fun i h1 h2 => ?_⟩
  · have := e i (by rw [← h.len]; exact h1)
    rwa [List.getD_eq_getElem?_getD, List.getD_eq_getElem?_getD, List.getElem?_eq_getElem h1, List.getElem?_eq_getElem h2] at this
  · have hi : i < n := by rw [← h.olen]; exact h1
    have := (h.out i hi).trans ((by rw [e i hi]) : _ = (if S'.getD i false then 0 else cs.getD i 0)) |>.trans (h'.out i hi).symm
    rwa [List.getD_eq_getElem?_getD, List.getD_eq_getElem?_getD, List.getElem?_eq_getElem h1, List.getElem?_eq_getElem h2] at this

theorem so_one {xs ys zs : List Int} {k : Nat} (h : So.SO xs ys k) (h' : So.SO xs zs k) (hk : xs.length = k) : ys = zs :=
  Gw.asc_one (h.perm.trans h'.perm.symm) (Gw.pair_of fun a b hab hb => h.pair a b hab (by rw [h.len, hk] at hb; exact hb)) (Gw.pair_of fun a b hab hb => h'.pair a b hab (by rw [h'.len, hk] at hb; exact hb))

theorem Plays.one {s x : Int} {n p : Nat} {cs : List Int} {su : Bool} {R R' : Option (List Int × List Int)} (h : Plays s n cs x p su R) (h' : Plays s n cs x p su R') : R = R' := by
  cases h with
  | taken h0 =>
    cases h' with
    | taken _ => rfl
    | lives _ _ h1 => exact absurd h1 h0
    | lost _ _ h1 => rfl
    | both _ _ _ _ _ _ h1 => exact absurd h1 h0
  | lives S os h0 hr hn =>
    cases h' with
    | taken h1 => exact absurd h0 h1
    | lives S' os' _ hr' _ => obtain ⟨rfl, rfl⟩ := hr.one hr'; rfl
    | lost S' os' _ hr' hn' => obtain ⟨rfl, rfl⟩ := hr.one hr'; exact absurd hn' hn
    | both S' os' _ _ _ _ _ hr' hn' => obtain ⟨rfl, rfl⟩ := hr.one hr'; exact absurd hn' hn
  | lost S os h0 hr hn hs =>
    cases h' with
    | taken h1 => rfl
    | lives S' os' _ hr' hn' => obtain ⟨rfl, rfl⟩ := hr.one hr'; exact absurd hn hn'
    | lost _ _ _ _ _ => rfl
    | both _ _ _ _ _ _ _ _ _ hs' => rw [hs] at hs'; cases hs'
  | both S os S2 os2 gs k h0 hr hn hs hr2 hso hk =>
    cases h' with
    | taken h1 => exact absurd h0 h1
    | lives S' os' _ hr' hn' => obtain ⟨rfl, rfl⟩ := hr.one hr'; exact absurd hn hn'
    | lost _ _ _ _ _ hs' => rw [hs] at hs'; cases hs'
    | both S' os' S2' os2' gs' k' _ hr' _ _ hr2' hso' hk' =>
      obtain ⟨rfl, rfl⟩ := hr.one hr'
      obtain ⟨rfl, rfl⟩ := hr2.one hr2'
      obtain rfl : k = k' := by rw [← hk, ← hk']
      rw [so_one hso hso' hk]

/-- A set with the points that are marked. -/
theorem nl_make {s n : Nat} {cs : List Int} {x : Int} {S : List Bool} {os : List Int} (hr : RI (s : Int) n cs x n S os) : ∃ m, Gw.Nl s n cs x m := by
  refine ⟨Bt.msk (S.map fun b => if b then (1 : Int) else 0) 1 n, fun q => ?_⟩
  rw [Bt.msk_bit, Bool.and_eq_true, decide_eq_true_eq, decide_eq_true_eq]
  have e : q < n → ((S.map fun b => if b then (1 : Int) else 0).getD q 0 = 1 ↔ S.getD q false = true) := fun hq => by
    have hq' : q < S.length := by rw [hr.len]; exact hq
    rw [List.getD_eq_getElem?_getD, List.getD_eq_getElem?_getD, List.getElem?_map, List.getElem?_eq_getElem hq']
    rcases S[q] with _ | _ <;> simp
  constructor
  · rintro ⟨a, b⟩
    have := (hr.yes q a).1 ((e a).1 b)
    exact ⟨a, this.2⟩
  · rintro ⟨a, b⟩
    exact ⟨a, (e a).2 ((hr.yes q a).2 ⟨a, b⟩)⟩

theorem so_pts {m m' n k : Nat} (hd : ∀ q, q < n → m.testBit q = true → m'.testBit q = true → False) (hk : (Bt.pts m n ++ Bt.pts m' n).length = k) : So.SO (Bt.pts m n ++ Bt.pts m' n) (Bt.pts (m ||| m') n) k := by
  have hp : (Bt.pts (m ||| m') n).Perm (Bt.pts m n ++ Bt.pts m' n) := by
    have n1 : (Bt.pts m n ++ Bt.pts m' n).Pairwise (· ≠ ·) := by
      rw [List.pairwise_append]
      refine ⟨(Gw.pts_pair _ _).imp fun h => by omega, (Gw.pts_pair _ _).imp fun h => by omega, ?_⟩
      rintro a ha b hb rfl
      obtain ⟨q, rfl, hq, hqm⟩ := Bt.pts_mem.1 ha
      obtain ⟨q', hq', _, hqm'⟩ := Bt.pts_mem.1 hb
      obtain rfl : q = q' := by omega
      exact hd q hq hqm hqm'
    have n2 : (Bt.pts (m ||| m') n).Pairwise (· ≠ ·) := (Gw.pts_pair _ _).imp fun h => by omega
    refine Gw.perm_of n2 n1 fun x => ?_
    rw [List.mem_append, Bt.pts_mem, Bt.pts_mem, Bt.pts_mem]
    constructor
    · rintro ⟨q, a, b, c⟩
      rw [Nat.testBit_or, Bool.or_eq_true] at c
      rcases c with c | c
      · exact .inl ⟨q, a, b, c⟩
      · exact .inr ⟨q, a, b, c⟩
    · rintro (⟨q, a, b, c⟩ | ⟨q, a, b, c⟩)
      · exact ⟨q, a, b, by rw [Nat.testBit_or, c]; rfl⟩
      · exact ⟨q, a, b, by rw [Nat.testBit_or, c, Bool.or_true]⟩
  refine ⟨hp.length_eq, hp, fun a b hab hb => ?_⟩
  have hb' : b < (Bt.pts (m ||| m') n).length := by rw [hp.length_eq, hk]; exact hb
  have := (List.pairwise_iff_getElem.1 (Gw.pts_pair (m ||| m') n)) a b (by omega) hb' hab
  rw [List.getD_eq_getElem?_getD, List.getD_eq_getElem?_getD, List.getElem?_eq_getElem (show a < (Bt.pts (m ||| m') n).length by omega), List.getElem?_eq_getElem hb']
  exact Int.le_of_lt this

theorem own_at {s x o : Int} {n p : Nat} {cs os : List Int} {S : List Bool} (hl : cs.length = n) (h : RI s n (cs.set p x) o n S os) (hp : p < n) (hx : x ≠ o) : os.getD p 0 = x := by
  have ec : (cs.set p x).getD p 0 = x := by simp [List.getD_eq_getElem?_getD, hl, hp]
  have hS : S.getD p false = false := by
    rcases Bool.eq_false_or_eq_true (S.getD p false) with e | e
    · have := ((h.yes p hp).1 e).2.1
      rw [ec] at this
      exact absurd this hx
    · exact e
  rw [h.out p hp, hS, ec]; rfl

/-- What the program's 'play' answers. -/
def PlI (k n : Nat) (v0 v1 : Value) : Option (List Int × List Int) → Ending → Prop
  | none, e => ∃ v, (v = v0 ∨ v = v1) ∧ e = .returned (.tuple #[.agg #[.int .i64 0, .int .u64 0, .int .u64 0, .int .u64 0], .int .u64 0, v])
  | some (os, gs), e => ∃ m : Nat, m < 2 ^ n ∧ Bt.pts m n = gs ∧ e = .returned (.tuple #[.agg #[.int .i64 (k : Nat), .int .u64 (Bt.msk os 0 n : Nat), .int .u64 (Bt.msk os 1 n : Nat), .int .u64 (Bt.msk os 2 n : Nat)], .int .u64 (m : Nat), .nilIface])

section
variable (k n : Nat) (cs : List Int) (m : Nat) (w : World) (h1 : 1 ≤ k) (h2 : k ≤ 7) (hn : n = k * k) (hl : cs.length = n)
include h1 h2 hn hl
theorem i_wo1 (hm : Gw.Nl k n cs 1 m) : Calls Tryd.prog 57 #[.agg #[.int .i64 (k : Nat), .int .u64 (Bt.msk cs 0 n : Nat), .int .u64 (Bt.msk cs 1 n : Nat), .int .u64 (Bt.msk cs 2 n : Nat)], .int .i64 1] w fun e w' => e = .returned (.int .u64 (m : Nat)) ∧ Below w.heap.size w w' := by
  have l0 := Bt.msk_lt cs 0 n
  have l1 := Bt.msk_lt cs 1 n
  have h7 := (Bt.masks k h1 h2).2.2.2.2.2.2
  refine (i_without1 k _ _ _ w h1 h2 (by rw [← hn]; exact l0) (by rw [← hn]; exact l1) _ (Gw.same_msk hl 1)).mono ?_
  rintro e w' ⟨g, rfl, hgl, hg, hb⟩
  exact ⟨by rw [(Gw.nl_of h1 h2 hn hl hg (by omega)).one hm], hb⟩
theorem i_wo2 (hm : Gw.Nl k n cs 2 m) : Calls Tryd.prog 57 #[.agg #[.int .i64 (k : Nat), .int .u64 (Bt.msk cs 0 n : Nat), .int .u64 (Bt.msk cs 1 n : Nat), .int .u64 (Bt.msk cs 2 n : Nat)], .int .i64 2] w fun e w' => e = .returned (.int .u64 (m : Nat)) ∧ Below w.heap.size w w' := by
  have l0 := Bt.msk_lt cs 0 n
  have l2 := Bt.msk_lt cs 2 n
  have h7 := (Bt.masks k h1 h2).2.2.2.2.2.2
  refine (i_without2 k _ _ _ w h1 h2 (by rw [← hn]; exact l0) (by rw [← hn]; exact l2) _ (Gw.same_msk hl 2)).mono ?_
  rintro e w' ⟨g, rfl, hgl, hg, hb⟩
  exact ⟨by rw [(Gw.nl_of h1 h2 hn hl hg (by omega)).one hm], hb⟩
end

section
variable (k n p : Nat) (cs : List Int) (su : Bool) (v0 v1 : Value)

theorem i_pl1 (hv : Bd.okB (k : Int) cs = true) (hl : cs.length = n) (hp : p < n) :
    ∃ R, Plays (k : Int) n cs 1 p su R ∧ ∀ w, Errs w v0 v1 → Calls Tryd.prog 33 #[.agg #[.int .i64 (k : Nat), .int .u64 (Bt.msk cs 0 n : Nat), .int .u64 (Bt.msk cs 1 n : Nat), .int .u64 (Bt.msk cs 2 n : Nat)], .int .i64 1, .int .i64 (p : Nat), .bool su] w fun e w' => PlI k n v0 v1 R e ∧ Below w.heap.size w w' := by
  obtain ⟨q1, q2, q3, q4⟩ := (Bd.okB_iff (k : Int) cs).1 hv
  have k1 : 1 ≤ k := by omega
  have k2 : k ≤ 7 := by omega
  have hn : n = k * k := by
    have : (n : Int) = ((k * k : Nat) : Int) := by rw [← hl]; push_cast; exact q3
    exact_mod_cast this
  have h7 := (Bt.masks k k1 k2).2.2.2.2.2.2
  have hsq := (Bt.sq_nat k k1 k2).2.1
  have hn49 : n ≤ 49 := by omega
  have lt64 : ∀ (l : List Int) (z : Int), Bt.msk l z n < 18446744073709551616 := fun l z => by
    have := Bt.msk_lt l z n
    rw [hn] at this ⊢; omega
  have hP64 : 2 ^ p < 18446744073709551616 := by
    have : 2 ^ p < 2 ^ 64 := Nat.pow_lt_pow_right (by decide) (by omega)
    omega
  have CO : Hid (∀ w, Calls Tryd.prog 54 #[.int .i64 (p : Nat)] w fun e w' => e = .returned (.int .u64 ((2 ^ p : Nat) : Nat)) ∧ w = w') := Lib.hid fun w => i_only p w (by omega)
  have T1 := bit_eq (Bt.msk cs 0 n) p (lt64 cs 0) (by omega)
  by_cases h0 : cs.getD p 0 = 0
  · have hl1 : (cs.set p 1).length = n := by rw [List.length_set]; exact hl
    obtain ⟨S, os, hr⟩ := RI.make (s := (k : Int)) (x := oth 1) hl1 n (Nat.le_refl _)
    have hx1 : oth 1 = 2 := by decide
    rw [hx1] at hr
    obtain ⟨m1, hm1⟩ := nl_make hr
    obtain ⟨S2, os2, hr2⟩ := RI.make (s := (k : Int)) (x := 1) hr.olen n (Nat.le_refl _)
    obtain ⟨m2, hm2⟩ := nl_make hr2
    have hm1l : m1 < 18446744073709551616 := by have := hm1.lt; rw [hn] at this; omega
    have hm2l : m2 < 18446744073709551616 := by have := hm2.lt; rw [hn] at this; omega
    have eP : (Bt.msk cs 0 n).testBit p = true := by rw [Bt.msk_bit]; simp only [Bool.and_eq_true, decide_eq_true_eq]; exact ⟨hp, h0⟩
    have eE1 := Gw.set_gone hl hp (x := 1) (z := 0) (by decide) (lt64 cs 0) (by omega)
    have eM1 := Gw.set_same hl hp (x := 1)
    have eO1 := Gw.set_other hl hp (x := 1) (z := 2) (by decide) (by rw [h0]; decide)
    have eE2 := hm1.empty hr
    have eO2 := hm1.own hr (by decide) (lt64 _ _) hm1l
    have eM2 := hm1.other hr (y := 1) (by decide) (by decide)
    have eE3 := hm2.empty hr2
    have eM3 := hm2.own hr2 (by decide) (lt64 _ _) hm2l
    have eO3 := hm2.other hr2 (y := 2) (by decide) (by decide)
    have CR1 : Hid (false = false → ∀ w, Calls Tryd.prog 56 #[.agg #[.int .i64 (k : Nat), .int .u64 (Bt.msk cs 0 n : Nat), .int .u64 (Bt.msk cs 1 n : Nat), .int .u64 (Bt.msk cs 2 n : Nat)], .int .u64 ((2 ^ p : Nat) : Nat), .int .i64 0, .int .i64 1] w fun e w' => e = .returned (.agg #[.int .i64 (k : Nat), .int .u64 (Bt.msk (cs.set p 1) 0 n : Nat), .int .u64 (Bt.msk (cs.set p 1) 1 n : Nat), .int .u64 (Bt.msk (cs.set p 1) 2 n : Nat)]) ∧ Below w.heap.size w w') := Lib.hid fun _ w => by
      rw [eE1, eM1, eO1]
      exact i_rec01 k _ _ _ _ w (lt64 _ _) (lt64 _ _) hP64
    have CW1 : Hid (false = false → ∀ w, Calls Tryd.prog 57 #[.agg #[.int .i64 (k : Nat), .int .u64 (Bt.msk (cs.set p 1) 0 n : Nat), .int .u64 (Bt.msk (cs.set p 1) 1 n : Nat), .int .u64 (Bt.msk (cs.set p 1) 2 n : Nat)], .int .i64 2] w fun e w' => e = .returned (.int .u64 (m1 : Nat)) ∧ Below w.heap.size w w') := Lib.hid fun _ w => i_wo2 k n (cs.set p 1) m1 w k1 k2 hn hl1 hm1
    have CR2 : Hid (false = false → ∀ w, Calls Tryd.prog 56 #[.agg #[.int .i64 (k : Nat), .int .u64 (Bt.msk (cs.set p 1) 0 n : Nat), .int .u64 (Bt.msk (cs.set p 1) 1 n : Nat), .int .u64 (Bt.msk (cs.set p 1) 2 n : Nat)], .int .u64 (m1 : Nat), .int .i64 2, .int .i64 0] w fun e w' => e = .returned (.agg #[.int .i64 (k : Nat), .int .u64 (Bt.msk os 0 n : Nat), .int .u64 (Bt.msk os 1 n : Nat), .int .u64 (Bt.msk os 2 n : Nat)]) ∧ Below w.heap.size w w') := Lib.hid fun _ w => by
      rw [eE2, eO2, eM2]
      exact i_rec20 k _ _ _ _ w (lt64 _ _) (lt64 _ _) hm1l
    have CW2 : Hid (false = false → ∀ w, Calls Tryd.prog 57 #[.agg #[.int .i64 (k : Nat), .int .u64 (Bt.msk os 0 n : Nat), .int .u64 (Bt.msk os 1 n : Nat), .int .u64 (Bt.msk os 2 n : Nat)], .int .i64 1] w fun e w' => e = .returned (.int .u64 (m2 : Nat)) ∧ Below w.heap.size w w') := Lib.hid fun _ w => i_wo1 k n os m2 w k1 k2 hn hr.olen hm2
    have CR3 : Hid (false = false → ∀ w, Calls Tryd.prog 56 #[.agg #[.int .i64 (k : Nat), .int .u64 (Bt.msk os 0 n : Nat), .int .u64 (Bt.msk os 1 n : Nat), .int .u64 (Bt.msk os 2 n : Nat)], .int .u64 (m2 : Nat), .int .i64 1, .int .i64 0] w fun e w' => e = .returned (.agg #[.int .i64 (k : Nat), .int .u64 (Bt.msk os2 0 n : Nat), .int .u64 (Bt.msk os2 1 n : Nat), .int .u64 (Bt.msk os2 2 n : Nat)]) ∧ Below w.heap.size w w') := Lib.hid fun _ w => by
      rw [eE3, eO3, eM3]
      exact i_rec10 k _ _ _ _ w (lt64 _ _) (lt64 _ _) hm2l
    have T2 := bit_eq m2 p hm2l (by omega)
    rw [eP] at T1
    have T3 : Hid (bits .or .u64 (m1 : Int) (m2 : Int) = ((m1 ||| m2 : Nat) : Int)) := Lib.hid (u64_or_nat _ _ hm1l hm2l)
    rw [eO1] at CR1 CW1 CR2
    rw [eM2] at CR2 CW2 CR3
    rw [eO3] at CR3
    have key := fun w hg => i_playA1 k p (2 ^ p) (Bt.msk cs 0 n) (Bt.msk cs 1 n) (Bt.msk cs 2 n) (Bt.msk (cs.set p 1) 0 n) (Bt.msk (cs.set p 1) 1 n) m1 (Bt.msk os 0 n) (Bt.msk os 2 n) m2 (Bt.msk os2 0 n) (Bt.msk os2 1 n) (m1 ||| m2) su w v0 v1 false (!m2.testBit p) CO CR1 CW1 CR2 CW2 CR3 (Lib.hid T1) (Lib.hid T2) T3 hg
    have eo : os.getD p 0 = 1 := own_at hl hr hp (by decide)
    by_cases hno : NoLib (k : Int) n os p
    · have hb : m2.testBit p = true := (hm2 p).2 ⟨hp, eo, hno⟩
      rw [hb] at key
      cases su
      · refine ⟨none, .lost S os h0 (by rw [hx1]; exact hr) hno rfl, fun w hg => (key w hg).mono ?_⟩
        rintro e w' ⟨rfl, hb⟩
        exact ⟨⟨v1, .inr rfl, rfl⟩, hb⟩
      · have hd : ∀ q, q < n → m1.testBit q = true → m2.testBit q = true → False := fun q hq a b => by
          have e1 := hr.out q hq
          rw [← hm1.marks hr q hq, a, if_pos rfl] at e1
          have e2 := ((hm2 q).1 b).2.1
          rw [e1] at e2
          exact absurd e2 (by decide)
        refine ⟨some (os2, Bt.pts (m1 ||| m2) n), .both S os S2 os2 _ _ h0 (by rw [hx1]; exact hr) hno rfl hr2 (by rw [← hm1.pts hr, ← hm2.pts hr2]; exact so_pts hd rfl) (by rw [← hm1.pts hr, ← hm2.pts hr2]), fun w hg => (key w hg).mono ?_⟩
        rintro e w' ⟨rfl, hb⟩
        exact ⟨⟨m1 ||| m2, Bt.or_lt hm1.lt hm2.lt, rfl, by rw [eO3]; rfl⟩, hb⟩
    · have hb : m2.testBit p = false := by
        rcases e : m2.testBit p with _ | _
        · rfl
        · exact absurd ((hm2 p).1 e).2.2 hno
      rw [hb] at key
      refine ⟨some (os, Fl.pts S n), .lives S os h0 (by rw [hx1]; exact hr) hno, fun w hg => (key w hg).mono ?_⟩
      rintro e w' ⟨rfl, hb⟩
      exact ⟨⟨m1, hm1.lt, hm1.pts hr, by rw [eM2]; rfl⟩, hb⟩
  · have eP : (Bt.msk cs 0 n).testBit p = false := by rw [Bt.msk_bit, decide_eq_false h0, Bool.and_false]
    rw [eP] at T1
    refine ⟨none, .taken h0, fun w hg => ?_⟩
    refine (i_playA1 k p (2 ^ p) (Bt.msk cs 0 n) (Bt.msk cs 1 n) (Bt.msk cs 2 n) 0 0 0 0 0 0 0 0 0 su w v0 v1 true true CO (Lib.hid fun e => by cases e) (Lib.hid fun e => by cases e) (Lib.hid fun e => by cases e) (Lib.hid fun e => by cases e) (Lib.hid fun e => by cases e) (Lib.hid T1) (Lib.hid (by rw [show bits .and .u64 ((0 : Nat) : Int) ((2 ^ p : Nat) : Int) = 0 by rw [u64_and_nat _ _ (by omega) hP64]; simp]; rfl)) (Lib.hid (by rfl)) hg).mono ?_
    rintro e w' ⟨rfl, hb⟩
    exact ⟨⟨v0, .inl rfl, rfl⟩, hb⟩

theorem i_pl2 (hv : Bd.okB (k : Int) cs = true) (hl : cs.length = n) (hp : p < n) :
    ∃ R, Plays (k : Int) n cs 2 p su R ∧ ∀ w, Errs w v0 v1 → Calls Tryd.prog 33 #[.agg #[.int .i64 (k : Nat), .int .u64 (Bt.msk cs 0 n : Nat), .int .u64 (Bt.msk cs 1 n : Nat), .int .u64 (Bt.msk cs 2 n : Nat)], .int .i64 2, .int .i64 (p : Nat), .bool su] w fun e w' => PlI k n v0 v1 R e ∧ Below w.heap.size w w' := by
  obtain ⟨q1, q2, q3, q4⟩ := (Bd.okB_iff (k : Int) cs).1 hv
  have k1 : 1 ≤ k := by omega
  have k2 : k ≤ 7 := by omega
  have hn : n = k * k := by
    have : (n : Int) = ((k * k : Nat) : Int) := by rw [← hl]; push_cast; exact q3
    exact_mod_cast this
  have h7 := (Bt.masks k k1 k2).2.2.2.2.2.2
  have hsq := (Bt.sq_nat k k1 k2).2.1
  have hn49 : n ≤ 49 := by omega
  have lt64 : ∀ (l : List Int) (z : Int), Bt.msk l z n < 18446744073709551616 := fun l z => by
    have := Bt.msk_lt l z n
    rw [hn] at this ⊢; omega
  have hP64 : 2 ^ p < 18446744073709551616 := by
    have : 2 ^ p < 2 ^ 64 := Nat.pow_lt_pow_right (by decide) (by omega)
    omega
  have CO : Hid (∀ w, Calls Tryd.prog 54 #[.int .i64 (p : Nat)] w fun e w' => e = .returned (.int .u64 ((2 ^ p : Nat) : Nat)) ∧ w = w') := Lib.hid fun w => i_only p w (by omega)
  have T1 := bit_eq (Bt.msk cs 0 n) p (lt64 cs 0) (by omega)
  by_cases h0 : cs.getD p 0 = 0
  · have hl1 : (cs.set p 2).length = n := by rw [List.length_set]; exact hl
    obtain ⟨S, os, hr⟩ := RI.make (s := (k : Int)) (x := oth 2) hl1 n (Nat.le_refl _)
    have hx1 : oth 2 = 1 := by decide
    rw [hx1] at hr
    obtain ⟨m1, hm1⟩ := nl_make hr
    obtain ⟨S2, os2, hr2⟩ := RI.make (s := (k : Int)) (x := 2) hr.olen n (Nat.le_refl _)
    obtain ⟨m2, hm2⟩ := nl_make hr2
    have hm1l : m1 < 18446744073709551616 := by have := hm1.lt; rw [hn] at this; omega
    have hm2l : m2 < 18446744073709551616 := by have := hm2.lt; rw [hn] at this; omega
    have eP : (Bt.msk cs 0 n).testBit p = true := by rw [Bt.msk_bit]; simp only [Bool.and_eq_true, decide_eq_true_eq]; exact ⟨hp, h0⟩
    have eE1 := Gw.set_gone hl hp (x := 2) (z := 0) (by decide) (lt64 cs 0) (by omega)
    have eM1 := Gw.set_same hl hp (x := 2)
    have eO1 := Gw.set_other hl hp (x := 2) (z := 1) (by decide) (by rw [h0]; decide)
    have eE2 := hm1.empty hr
    have eO2 := hm1.own hr (by decide) (lt64 _ _) hm1l
    have eM2 := hm1.other hr (y := 2) (by decide) (by decide)
    have eE3 := hm2.empty hr2
    have eM3 := hm2.own hr2 (by decide) (lt64 _ _) hm2l
    have eO3 := hm2.other hr2 (y := 1) (by decide) (by decide)
    have CR1 : Hid (false = false → ∀ w, Calls Tryd.prog 56 #[.agg #[.int .i64 (k : Nat), .int .u64 (Bt.msk cs 0 n : Nat), .int .u64 (Bt.msk cs 1 n : Nat), .int .u64 (Bt.msk cs 2 n : Nat)], .int .u64 ((2 ^ p : Nat) : Nat), .int .i64 0, .int .i64 2] w fun e w' => e = .returned (.agg #[.int .i64 (k : Nat), .int .u64 (Bt.msk (cs.set p 2) 0 n : Nat), .int .u64 (Bt.msk (cs.set p 2) 1 n : Nat), .int .u64 (Bt.msk (cs.set p 2) 2 n : Nat)]) ∧ Below w.heap.size w w') := Lib.hid fun _ w => by
      rw [eE1, eM1, eO1]
      exact i_rec02 k _ _ _ _ w (lt64 _ _) (lt64 _ _) hP64
    have CW1 : Hid (false = false → ∀ w, Calls Tryd.prog 57 #[.agg #[.int .i64 (k : Nat), .int .u64 (Bt.msk (cs.set p 2) 0 n : Nat), .int .u64 (Bt.msk (cs.set p 2) 1 n : Nat), .int .u64 (Bt.msk (cs.set p 2) 2 n : Nat)], .int .i64 1] w fun e w' => e = .returned (.int .u64 (m1 : Nat)) ∧ Below w.heap.size w w') := Lib.hid fun _ w => i_wo1 k n (cs.set p 2) m1 w k1 k2 hn hl1 hm1
    have CR2 : Hid (false = false → ∀ w, Calls Tryd.prog 56 #[.agg #[.int .i64 (k : Nat), .int .u64 (Bt.msk (cs.set p 2) 0 n : Nat), .int .u64 (Bt.msk (cs.set p 2) 1 n : Nat), .int .u64 (Bt.msk (cs.set p 2) 2 n : Nat)], .int .u64 (m1 : Nat), .int .i64 1, .int .i64 0] w fun e w' => e = .returned (.agg #[.int .i64 (k : Nat), .int .u64 (Bt.msk os 0 n : Nat), .int .u64 (Bt.msk os 1 n : Nat), .int .u64 (Bt.msk os 2 n : Nat)]) ∧ Below w.heap.size w w') := Lib.hid fun _ w => by
      rw [eE2, eO2, eM2]
      exact i_rec10 k _ _ _ _ w (lt64 _ _) (lt64 _ _) hm1l
    have CW2 : Hid (false = false → ∀ w, Calls Tryd.prog 57 #[.agg #[.int .i64 (k : Nat), .int .u64 (Bt.msk os 0 n : Nat), .int .u64 (Bt.msk os 1 n : Nat), .int .u64 (Bt.msk os 2 n : Nat)], .int .i64 2] w fun e w' => e = .returned (.int .u64 (m2 : Nat)) ∧ Below w.heap.size w w') := Lib.hid fun _ w => i_wo2 k n os m2 w k1 k2 hn hr.olen hm2
    have CR3 : Hid (false = false → ∀ w, Calls Tryd.prog 56 #[.agg #[.int .i64 (k : Nat), .int .u64 (Bt.msk os 0 n : Nat), .int .u64 (Bt.msk os 1 n : Nat), .int .u64 (Bt.msk os 2 n : Nat)], .int .u64 (m2 : Nat), .int .i64 2, .int .i64 0] w fun e w' => e = .returned (.agg #[.int .i64 (k : Nat), .int .u64 (Bt.msk os2 0 n : Nat), .int .u64 (Bt.msk os2 1 n : Nat), .int .u64 (Bt.msk os2 2 n : Nat)]) ∧ Below w.heap.size w w') := Lib.hid fun _ w => by
      rw [eE3, eO3, eM3]
      exact i_rec20 k _ _ _ _ w (lt64 _ _) (lt64 _ _) hm2l
    have T2 := bit_eq m2 p hm2l (by omega)
    rw [eP] at T1
    have T3 : Hid (bits .or .u64 (m1 : Int) (m2 : Int) = ((m1 ||| m2 : Nat) : Int)) := Lib.hid (u64_or_nat _ _ hm1l hm2l)
    rw [eO1] at CR1 CW1 CR2
    rw [eM2] at CR2 CW2 CR3
    rw [eO3] at CR3
    have key := fun w hg => i_playA2 k p (2 ^ p) (Bt.msk cs 0 n) (Bt.msk cs 2 n) (Bt.msk cs 1 n) (Bt.msk (cs.set p 2) 0 n) (Bt.msk (cs.set p 2) 2 n) m1 (Bt.msk os 0 n) (Bt.msk os 1 n) m2 (Bt.msk os2 0 n) (Bt.msk os2 2 n) (m1 ||| m2) su w v0 v1 false (!m2.testBit p) CO CR1 CW1 CR2 CW2 CR3 (Lib.hid T1) (Lib.hid T2) T3 hg
    have eo : os.getD p 0 = 2 := own_at hl hr hp (by decide)
    by_cases hno : NoLib (k : Int) n os p
    · have hb : m2.testBit p = true := (hm2 p).2 ⟨hp, eo, hno⟩
      rw [hb] at key
      cases su
      · refine ⟨none, .lost S os h0 (by rw [hx1]; exact hr) hno rfl, fun w hg => (key w hg).mono ?_⟩
        rintro e w' ⟨rfl, hb⟩
        exact ⟨⟨v1, .inr rfl, rfl⟩, hb⟩
      · have hd : ∀ q, q < n → m1.testBit q = true → m2.testBit q = true → False := fun q hq a b => by
          have e1 := hr.out q hq
          rw [← hm1.marks hr q hq, a, if_pos rfl] at e1
          have e2 := ((hm2 q).1 b).2.1
          rw [e1] at e2
          exact absurd e2 (by decide)
        refine ⟨some (os2, Bt.pts (m1 ||| m2) n), .both S os S2 os2 _ _ h0 (by rw [hx1]; exact hr) hno rfl hr2 (by rw [← hm1.pts hr, ← hm2.pts hr2]; exact so_pts hd rfl) (by rw [← hm1.pts hr, ← hm2.pts hr2]), fun w hg => (key w hg).mono ?_⟩
        rintro e w' ⟨rfl, hb⟩
        exact ⟨⟨m1 ||| m2, Bt.or_lt hm1.lt hm2.lt, rfl, by rw [eO3]; rfl⟩, hb⟩
    · have hb : m2.testBit p = false := by
        rcases e : m2.testBit p with _ | _
        · rfl
        · exact absurd ((hm2 p).1 e).2.2 hno
      rw [hb] at key
      refine ⟨some (os, Fl.pts S n), .lives S os h0 (by rw [hx1]; exact hr) hno, fun w hg => (key w hg).mono ?_⟩
      rintro e w' ⟨rfl, hb⟩
      exact ⟨⟨m1, hm1.lt, hm1.pts hr, by rw [eM2]; rfl⟩, hb⟩
  · have eP : (Bt.msk cs 0 n).testBit p = false := by rw [Bt.msk_bit, decide_eq_false h0, Bool.and_false]
    rw [eP] at T1
    refine ⟨none, .taken h0, fun w hg => ?_⟩
    refine (i_playA2 k p (2 ^ p) (Bt.msk cs 0 n) (Bt.msk cs 2 n) (Bt.msk cs 1 n) 0 0 0 0 0 0 0 0 0 su w v0 v1 true true CO (Lib.hid fun e => by cases e) (Lib.hid fun e => by cases e) (Lib.hid fun e => by cases e) (Lib.hid fun e => by cases e) (Lib.hid fun e => by cases e) (Lib.hid T1) (Lib.hid (by rw [show bits .and .u64 ((0 : Nat) : Int) ((2 ^ p : Nat) : Int) = 0 by rw [u64_and_nat _ _ (by omega) hP64]; simp]; rfl)) (Lib.hid (by rfl)) hg).mono ?_
    rintro e w' ⟨rfl, hb⟩
    exact ⟨⟨v0, .inl rfl, rfl⟩, hb⟩
end
end Go.Proofs.YteldfjibmaigiaaDoor

namespace Go.Proofs.YteldfjibmaigiaaDoor
set_option maxRecDepth 100000
open Go.RowKit

theorem own_cellD {w : World} {B g n c : Nat} {xs : List Int} (h : Own w B (some ⟨g, 0, none⟩) n c xs) (j : Nat) (hj : j < n) : w.cell? ⟨g, j, none⟩ = some (.int .i64 (xs.getD j 0)) := by
  rw [World.ownsRow.cellAt h.2 j (by omega)]
  simp [List.getD_eq_getElem?_getD, List.getElem?_eq_getElem (show j < xs.length by rw [h.1]; exact hj)]

namespace Bf
/-- The board where the colors below c and the points of l with the color c stand. -/
def fill (os : List Int) (c : Int) (l : List Int) : List Int := (List.range os.length).map fun q => if os.getD q 0 < c ∨ (os.getD q 0 = c ∧ (q : Int) ∈ l) then os.getD q 0 else 0
theorem len (os : List Int) (c : Int) (l : List Int) : (fill os c l).length = os.length := by simp [fill]
theorem at_ {os : List Int} {c : Int} {l : List Int} {q : Nat} (h : q < os.length) : (fill os c l).getD q 0 = if os.getD q 0 < c ∨ (os.getD q 0 = c ∧ (q : Int) ∈ l) then os.getD q 0 else 0 := by
  simp only [fill, List.getD_eq_getElem?_getD, List.getElem?_map, List.getElem?_range h, Option.map_some, Option.getD_some]
theorem ext {a b : List Int} (hl : a.length = b.length) (h : ∀ q, q < a.length → a.getD q 0 = b.getD q 0) : a = b := by
  refine List.ext_getElem hl fun i h1 h2 => ?_
  have := h i h1
  rwa [List.getD_eq_getElem?_getD, List.getD_eq_getElem?_getD, List.getElem?_eq_getElem h1, List.getElem?_eq_getElem h2] at this
theorem zero {os : List Int} (hok : ∀ c ∈ os, 0 ≤ c ∧ c ≤ 2) : fill os 0 [] = List.replicate os.length 0 := by
  refine ext (by rw [len, List.length_replicate]) fun q hq => ?_
  rw [len] at hq
  rw [at_ hq, List.getD_eq_getElem?_getD (l := List.replicate _ _), List.getElem?_replicate, if_pos hq]
  have := hok _ (List.getElem_mem hq)
  have e : os.getD q 0 = os[q] := by rw [List.getD_eq_getElem?_getD, List.getElem?_eq_getElem hq]; rfl
  rw [e, if_neg (by rintro (h | ⟨_, h⟩) <;> first | omega | cases h)]
  rfl
theorem all {os : List Int} (hok : ∀ c ∈ os, 0 ≤ c ∧ c ≤ 2) : fill os 3 [] = os := by
  refine ext (len _ _ _) fun q hq => ?_
  rw [len] at hq
  have := hok _ (List.getElem_mem hq)
  have e : os.getD q 0 = os[q] := by rw [List.getD_eq_getElem?_getD, List.getElem?_eq_getElem hq]; rfl
  rw [at_ hq, if_pos (.inl (by rw [e]; omega))]
theorem step {os L : List Int} {c : Int} {j q : Nat} (hq : q < os.length) (hc : os.getD q 0 = c) (hj : j < L.length) (he : L.getD j 0 = (q : Int)) : (fill os c (L.take j)).set q c = fill os c (L.take (j + 1)) := by
  refine ext (by rw [List.length_set, len, len]) fun p hp => ?_
  rw [List.length_set, len] at hp
  have e : L.take (j + 1) = L.take j ++ [(q : Int)] := by
    rw [List.take_succ_eq_append_getElem hj]
    rw [List.getD_eq_getElem?_getD, List.getElem?_eq_getElem hj] at he
    rw [show L[j] = (q : Int) from he]
  rw [Un.getD_set _ _ _ _ (by rw [len]; exact hq), at_ hp, at_ hp, e]
  by_cases epq : p = q
  · subst epq
    rw [if_pos rfl, if_pos (.inr ⟨hc, by simp⟩), hc]
  · have : ¬ (p : Int) = q := by omega
    rw [if_neg epq]
    simp [this]
theorem next {os L : List Int} {c : Int} (h : ∀ q, q < os.length → os.getD q 0 = c → (q : Int) ∈ L) : fill os c L = fill os (c + 1) [] := by
  refine ext (by rw [len, len]) fun p hp => ?_
  rw [len] at hp
  rw [at_ hp, at_ hp]
  by_cases e : os.getD p 0 < c + 1
  · by_cases e2 : os.getD p 0 < c
    · exact (if_pos (.inl e2)).trans (if_pos (.inl e)).symm
    · have e3 : os.getD p 0 = c := by omega
      exact (if_pos (.inr ⟨e3, h p hp e3⟩)).trans (if_pos (.inl e)).symm
  · exact (if_neg (by rintro (h | ⟨h, _⟩) <;> omega)).trans (if_neg (by rintro (h | ⟨_, h⟩) <;> first | omega | cases h)).symm
end Bf

/-- The points of a color, as the list of a set. -/
theorem col_list {os : List Int} {n : Nat} (hl : os.length = n) (hn : n ≤ 49) (c : Int) : (Bt.pts (Bt.msk os c n) 64).length ≤ 64 ∧ (∀ j, j < (Bt.pts (Bt.msk os c n) 64).length → ∃ q : Nat, (Bt.pts (Bt.msk os c n) 64).getD j 0 = (q : Int) ∧ q < n ∧ os.getD q 0 = c) ∧ ∀ q, q < os.length → os.getD q 0 = c → (q : Int) ∈ Bt.pts (Bt.msk os c n) 64 := by
  refine ⟨Bt.pts_len _ _, fun j hj => ?_, fun q hq hc => Bt.pts_mem.2 ⟨q, rfl, by omega, by rw [Bt.msk_bit, decide_eq_true (by omega : q < n), decide_eq_true hc]; rfl⟩⟩
  have hm : (Bt.pts (Bt.msk os c n) 64).getD j 0 ∈ Bt.pts (Bt.msk os c n) 64 := by rw [List.getD_eq_getElem?_getD, List.getElem?_eq_getElem hj]; exact List.getElem_mem _
  obtain ⟨q, e1, _, e3⟩ := Bt.pts_mem.1 hm
  rw [Bt.msk_bit, Bool.and_eq_true, decide_eq_true_eq, decide_eq_true_eq] at e3
  exact ⟨q, e1, e3.1, e3.2⟩

set_option maxRecDepth 100000 in
set_option maxHeartbeats 8000000 in
theorem i_board (k n : Nat) (os : List Int) (w : World) (ht : Tab w) (k1 : 1 ≤ k) (k2 : k ≤ 7) (hn : n = k * k) (hl : os.length = n) (hok : ∀ c ∈ os, 0 ≤ c ∧ c ≤ 2) :
    Calls Tryd.prog 34 #[.agg #[.int .i64 (k : Nat), .int .u64 (Bt.msk os 0 n : Nat), .int .u64 (Bt.msk os 1 n : Nat), .int .u64 (Bt.msk os 2 n : Nat)]] w fun e w' => ∃ A c, e = .returned (.agg #[.int .i64 (k : Nat), .slice A n c]) ∧ Own w' w.heap.size A n c os ∧ Below w.heap.size w w' := by
  have h7 := (Bt.masks k k1 k2).2.2.2.2.2.2
  have hsq := (Bt.sq_nat k k1 k2).2.1
  have hsq1 := (Bt.sq_nat k k1 k2).1
  have hn49 : n ≤ 49 := by omega
  have hn1 : 1 ≤ n := by omega
  have lt64 : ∀ (z : Int), Bt.msk os z n < 18446744073709551616 := fun z => by
    have := Bt.msk_lt os z n
    rw [hn] at this ⊢; omega
  obtain ⟨E0, hE0⟩ : ∃ E, Bt.msk os 0 n = E := ⟨_, rfl⟩
  obtain ⟨L0, hL0⟩ : ∃ L, Bt.pts E0 64 = L := ⟨_, rfl⟩
  have cl0 := col_list hl hn49 0
  rw [hE0, hL0] at cl0
  have C0 : Hid (∀ w, Tab w → Calls Tryd.prog 35 #[.int .u64 (E0 : Nat)] w fun e w' => ∃ A n c, e = .returned (.slice A n c) ∧ Own w' w.heap.size A n c L0 ∧ Below w.heap.size w w') := Lib.hid fun w ht => by rw [← hL0]; exact i_list E0 w ht (by rw [← hE0]; exact lt64 0)
  have Ln0 := Lib.hid cl0.1
  have Lp0 := Lib.hid cl0.2.1
  have Lf0 := Lib.hid cl0.2.2
  rw [hE0]
  clear cl0 hL0 hE0
  obtain ⟨E1, hE1⟩ : ∃ E, Bt.msk os 1 n = E := ⟨_, rfl⟩
  obtain ⟨L1, hL1⟩ : ∃ L, Bt.pts E1 64 = L := ⟨_, rfl⟩
  have cl1 := col_list hl hn49 1
  rw [hE1, hL1] at cl1
  have C1 : Hid (∀ w, Tab w → Calls Tryd.prog 35 #[.int .u64 (E1 : Nat)] w fun e w' => ∃ A n c, e = .returned (.slice A n c) ∧ Own w' w.heap.size A n c L1 ∧ Below w.heap.size w w') := Lib.hid fun w ht => by rw [← hL1]; exact i_list E1 w ht (by rw [← hE1]; exact lt64 1)
  have Ln1 := Lib.hid cl1.1
  have Lp1 := Lib.hid cl1.2.1
  have Lf1 := Lib.hid cl1.2.2
  rw [hE1]
  clear cl1 hL1 hE1
  obtain ⟨E2, hE2⟩ : ∃ E, Bt.msk os 2 n = E := ⟨_, rfl⟩
  obtain ⟨L2, hL2⟩ : ∃ L, Bt.pts E2 64 = L := ⟨_, rfl⟩
  have cl2 := col_list hl hn49 2
  rw [hE2, hL2] at cl2
  have C2 : Hid (∀ w, Tab w → Calls Tryd.prog 35 #[.int .u64 (E2 : Nat)] w fun e w' => ∃ A n c, e = .returned (.slice A n c) ∧ Own w' w.heap.size A n c L2 ∧ Below w.heap.size w w') := Lib.hid fun w ht => by rw [← hL2]; exact i_list E2 w ht (by rw [← hE2]; exact lt64 2)
  have Ln2 := Lib.hid cl2.1
  have Lp2 := Lib.hid cl2.2.1
  have Lf2 := Lib.hid cl2.2.2
  rw [hE2]
  clear cl2 hL2 hE2
  have hnew : newS (k : Int) = (k : Int) ∧ newCs (k : Int) = Bf.fill os 0 [] := by
    have : Pt.okS (k : Int) = true := (Pt.okS_iff _).2 ⟨by omega, by omega⟩
    refine ⟨by rw [newS, if_pos this], ?_⟩
    rw [newCs, if_pos this, Bf.zero hok, hl, hn]
    congr 1
  have CN : Hid (∀ w, Calls Tryd.prog 58 #[.int .i64 (k : Nat)] w fun e w' => Made (k : Int) (Bf.fill os 0 []) w e w') := Lib.hid fun w => by
    have := i_new (k : Int) w
    rw [hnew.1, hnew.2] at this
    exact this
  have HA := Lib.hid (Bf.all hok)
  have HF := Lib.hid (Bf.len os 0 [])
  have Hl := Lib.hid hl
  have HT := Lib.hid ht
  have e1 : (w.alloc (.cells #[.int .i64 (k : Nat), .int .u64 (E0 : Nat), .int .u64 (E1 : Nat), .int .u64 (E2 : Nat)] 58)).heap.size = w.heap.size + 1 := by simp
  have p0 := (Px.new w (k : Nat) E0 E1 E2).step ((Below.refl (w.alloc (.cells #[.int .i64 (k : Nat), .int .u64 (E0 : Nat), .int .u64 (E1 : Nat), .int .u64 (E2 : Nat)] 58)).heap.size (w.alloc (.cells #[.int .i64 (k : Nat), .int .u64 (E0 : Nat), .int .u64 (E1 : Nat), .int .u64 (E2 : Nat)] 58))).alloc (Nat.le_refl _) (.cells #[.int .i64 0, .slice none 0 0] 25))
  have p1 := Bx.new 25 (w.alloc (.cells #[.int .i64 (k : Nat), .int .u64 (E0 : Nat), .int .u64 (E1 : Nat), .int .u64 (E2 : Nat)] 58)) 0 (.slice none 0 0)
  have hb2 : Below w.heap.size w ((w.alloc (.cells #[.int .i64 (k : Nat), .int .u64 (E0 : Nat), .int .u64 (E1 : Nat), .int .u64 (E2 : Nat)] 58)).alloc (.cells #[.int .i64 0, .slice none 0 0] 25)) := ((Below.refl _ _).alloc (Nat.le_refl _) _).alloc (by simp) _
  rw [e1] at p1
  obtain ⟨y, hy⟩ : ∃ y, y = (w.alloc (.cells #[.int .i64 (k : Nat), .int .u64 (E0 : Nat), .int .u64 (E1 : Nat), .int .u64 (E2 : Nat)] 58)).alloc (.cells #[.int .i64 0, .slice none 0 0] 25) := ⟨_, rfl⟩
  have P0 : Hid (Px y w.heap.size (k : Nat) E0 E1 E2) := Lib.hid (by rw [hy]; exact p0)
  have X1 : Hid (Bx 25 y (w.heap.size + 1) 0 (.slice none 0 0)) := Lib.hid (by rw [hy]; exact p1)
  have Hb : Hid (Below w.heap.size w y) := Lib.hid (by rw [hy]; exact hb2)
  have Hyz : Hid (w.heap.size + 1 < y.heap.size) := Lib.hid X1.out.lt
  clear e1 p0 p1 hb2 ht hok hnew lt64 h7 hn hl hsq hsq1
  go_enter Tryd.func34, Tryd.ntmps34
  go_upto_region 1 with (fail)
  rw [← hy]
  clear hy
  have c0 := P0.out.c0
  have hz := P0.out.lt
  go_wp2_with fail
  refine (CN.out _).mono ?_
  rintro e y2 ⟨A, n', cap, rfl, ho, hb⟩
  have hn' : n = n' := by have := ho.1; have := HF.out; have := Hl.out; omega
  cases hn'
  obtain ⟨g, cap', hv, hg, hlt⟩ := World.ownsRow.form ho.2 (by omega)
  obtain rfl : A = some ⟨g, 0, none⟩ := by injection hv
  have P0 := Lib.hid (P0.out.step hb)
  have X1 := Lib.hid (X1.out.below hb X1.out.lt)
  have Hb := Lib.hid (Hb.out.trans (hb.mono Hb.out.size))
  have Hg0 := Lib.hid (ho.ge rfl).1
  have Hg1 := Lib.hid (ho.ge rfl).2
  have Ho := Lib.hid ho
  clear hb ho c0 hz hv hg hlt
  go_upto_region 2 with (fail)
  obtain ⟨y3, hy3, hb3, z3, z4⟩ := new_box y2 (.cells #[.int .i64 (k : Nat), .slice (some ⟨g, 0, none⟩) n cap] 25)
  have X3 : Hid (Bx 25 y3 y2.heap.size (k : Nat) (.slice (some ⟨g, 0, none⟩) n cap)) := Lib.hid (by rw [hy3]; exact Bx.new _ _ _ _)
  rw [← hy3]
  clear hy3
  have P0 := Lib.hid (P0.out.step hb3)
  have X1 := Lib.hid (X1.out.below hb3 X1.out.lt)
  have Hb := Lib.hid (Hb.out.trans (hb3.mono Hb.out.size))
  have Ho := Lib.hid (Ho.out.below hb3)
  clear hb3
  have c1 := P0.out.c1
  have c2 := P0.out.c2
  have c3 := P0.out.c3
  have hz := P0.out.lt
  go_wp2_with fail
  clear c1 c2 c3 hz P0
  go_loopw [13] (fun v wr => ∃ c : Nat, c ≤ 3 ∧ v = .int .i64 (c : Nat) ∧ Own wr y.heap.size (some ⟨g, 0, none⟩) n cap (Bf.fill os c []) ∧ Bx 25 wr y2.heap.size (k : Nat) (.slice (some ⟨g, 0, none⟩) n cap) ∧ Bx 25 wr (w.heap.size + 1) 0 (.slice none 0 0) ∧ Below w.heap.size w wr) (fun v _ => 3 - (intOf v).toNat)
  case atStart => exact ⟨0, by omega, rfl, Ho.out, X3.out, X1.out, Hb.out⟩
  case round =>
    clear Ho X3 X1 Hb
    obtain ⟨c, hc, rfl, ho, x3, x1, hb⟩ := hrel
    have Ho := Lib.hid ho
    have Ho0g : g < wr.heap.size := (ho.ge rfl).2
    have X3 := Lib.hid x3
    have X1 := Lib.hid x1
    have Hb := Lib.hid hb
    have HTr := Lib.hid (HT.out.below hb)
    clear ho x3 x1 hb
    have hc4 : c = 0 ∨ c = 1 ∨ c = 2 ∨ c = 3 := by omega
    have i0 : ∀ w, (Instr.index 56 (.agg #[.int .u64 (E0 : Nat), .int .u64 (E1 : Nat), .int .u64 (E2 : Nat)]) (.int .i64 0)).run Tryd.prog w = .ok (.int .u64 (E0 : Nat)) w := fun _ => by first | rfl | kernel_rfl
    have i1 : ∀ w, (Instr.index 56 (.agg #[.int .u64 (E0 : Nat), .int .u64 (E1 : Nat), .int .u64 (E2 : Nat)]) (.int .i64 1)).run Tryd.prog w = .ok (.int .u64 (E1 : Nat)) w := fun _ => by first | rfl | kernel_rfl
    have i2 : ∀ w, (Instr.index 56 (.agg #[.int .u64 (E0 : Nat), .int .u64 (E1 : Nat), .int .u64 (E2 : Nat)]) (.int .i64 2)).run Tryd.prog w = .ok (.int .u64 (E2 : Nat)) w := fun _ => by first | rfl | kernel_rfl
    rcases hc4 with rfl | rfl | rfl | rfl
    · go_wp2_with fail
      refine (C0.out _ HTr.out).mono ?_
      rintro e y4 ⟨A2, m, c2, rfl, ho2, hb⟩
      have Ho := Lib.hid (Ho.out.below hb)
      have X3 := Lib.hid (X3.out.below hb X3.out.lt)
      have X1 := Lib.hid (X1.out.below hb X1.out.lt)
      have Hb := Lib.hid (Hb.out.trans (hb.mono Hb.out.size))
      have Hg2 := Lib.hid (fun g' (e : A2 = some ⟨g', 0, none⟩) => (ho2.ge e).1)
      have Hgr := Lib.hid (Ho0g)
      have hm := ho2.1
      have Hm := Lib.hid hm
      have hm64 : m ≤ 64 := by have := Ln0.out; omega
      have Ho2 := Lib.hid ho2
      clear hb ho2 hm
      go_wp2_with fail
      go_loopw [20] (fun i wz => ∃ j : Nat, j ≤ m ∧ i = .int .i64 (j : Nat) ∧ Own wz y.heap.size (some ⟨g, 0, none⟩) n cap (Bf.fill os 0 (L0.take j)) ∧ Own wz wr.heap.size A2 m c2 L0 ∧ Bx 25 wz y2.heap.size (k : Nat) (.slice (some ⟨g, 0, none⟩) n cap) ∧ Bx 25 wz (w.heap.size + 1) 0 (.slice none 0 0) ∧ Below w.heap.size w wz) (fun i _ => m - (intOf i).toNat)
      case atStart => exact ⟨0, by omega, rfl, by rw [List.take_zero]; exact Ho.out, Ho2.out, X3.out, X1.out, Hb.out⟩
      case round =>
        clear Ho Ho2 X3 X1 Hb
        obtain ⟨j, hj, rfl, ho, ho2, x3, x1, hb⟩ := hrel
        have Ho := Lib.hid ho
        have Ho2 := Lib.hid ho2
        have X3 := Lib.hid x3
        have X1 := Lib.hid x1
        have Hb := Lib.hid hb
        have a0 := x3.cell0
        have a1 := x3.cell1
        have a2 := x3.lt
        clear ho ho2 x3 x1 hb
        by_cases hjm : j < m
        · have hjI : (j : Int) < m := by omega
          obtain ⟨q, hq, hqn, hqc⟩ := Lp0.out j (by rw [Hm.out]; exact hjm)
          obtain ⟨g2, cap2, hv2, hg2, hlt2⟩ := World.ownsRow.form Ho2.out.2 (by omega)
          obtain rfl : A2 = some ⟨g2, 0, none⟩ := by injection hv2
          have ck := own_cellD Ho2.out j hjm
          rw [hq] at ck
          have hne2 : g2 ≠ g := by have := Hg2.out g2 rfl; have := Hgr.out; omega
          have hqI : (q : Int) < n := by omega
          have dk := own_cellD Ho.out q hqn
          have fk := World.ownsRow.frozenAt Ho.out.2 q
          have hst := Ho.out.stored q 0
          have hf : (Bf.fill os 0 (L0.take j)).set q 0 = Bf.fill os 0 (L0.take (j + 1)) := Bf.step (by rw [Hl.out]; exact hqn) hqc (by rw [Hm.out]; exact hjm) hq
          rw [hf] at hst
          have Hs := Lib.hid hst.1
          have Ho2' := Lib.hid (Ho2.out.far ⟨g, q, none⟩ (fun g' e => by obtain rfl : g2 = g' := by injection (Option.some.inj e); ; exact hne2) (.int .i64 0))
          have X3' := Lib.hid (X3.out.far (p := ⟨g, q, none⟩) (by show y2.heap.size ≠ g; have := Hg1.out; omega) (.int .i64 0))
          have X1' := Lib.hid (X1.out.far (p := ⟨g, q, none⟩) (by show w.heap.size + 1 ≠ g; have := Hg0.out; have := Hyz.out; omega) (.int .i64 0))
          have Hb' := Lib.hid (Hb.out.setCell (p := ⟨g, q, none⟩) (by show w.heap.size ≤ g; have := Hg0.out; have := Hyz.out; omega) (.int .i64 0))
          clear hst hf hq hqc hv2 hg2 hlt2
          go_wp2_with fail
          go_roundw
          case rel => exact ⟨j + 1, by omega, by go_num, Hs.out, Ho2'.out, X3'.out, X1'.out, Hb'.out⟩
          case measure => simp [intOf]; omega
        · have hjm' : j = m := by omega
          have hfull : L0.take j = L0 := List.take_of_length_le (by rw [Hm.out]; omega)
          have Hn := Lib.hid (show Own wr y.heap.size (some ⟨g, 0, none⟩) n cap (Bf.fill os (0 + 1) []) by rw [← Bf.next Lf0.out, ← hfull]; exact Ho.out)
          clear hfull hjm'
          go_wp2_with fail
          go_roundw
          case rel => exact ⟨0 + 1, by omega, by go_num, Hn.out, X3.out, X1.out, Hb.out⟩
          case measure => simp [intOf]
    · go_wp2_with fail
      refine (C1.out _ HTr.out).mono ?_
      rintro e y4 ⟨A2, m, c2, rfl, ho2, hb⟩
      have Ho := Lib.hid (Ho.out.below hb)
      have X3 := Lib.hid (X3.out.below hb X3.out.lt)
      have X1 := Lib.hid (X1.out.below hb X1.out.lt)
      have Hb := Lib.hid (Hb.out.trans (hb.mono Hb.out.size))
      have Hg2 := Lib.hid (fun g' (e : A2 = some ⟨g', 0, none⟩) => (ho2.ge e).1)
      have Hgr := Lib.hid (Ho0g)
      have hm := ho2.1
      have Hm := Lib.hid hm
      have hm64 : m ≤ 64 := by have := Ln1.out; omega
      have Ho2 := Lib.hid ho2
      clear hb ho2 hm
      go_wp2_with fail
      go_loopw [20] (fun i wz => ∃ j : Nat, j ≤ m ∧ i = .int .i64 (j : Nat) ∧ Own wz y.heap.size (some ⟨g, 0, none⟩) n cap (Bf.fill os 1 (L1.take j)) ∧ Own wz wr.heap.size A2 m c2 L1 ∧ Bx 25 wz y2.heap.size (k : Nat) (.slice (some ⟨g, 0, none⟩) n cap) ∧ Bx 25 wz (w.heap.size + 1) 0 (.slice none 0 0) ∧ Below w.heap.size w wz) (fun i _ => m - (intOf i).toNat)
      case atStart => exact ⟨0, by omega, rfl, by rw [List.take_zero]; exact Ho.out, Ho2.out, X3.out, X1.out, Hb.out⟩
      case round =>
        clear Ho Ho2 X3 X1 Hb
        obtain ⟨j, hj, rfl, ho, ho2, x3, x1, hb⟩ := hrel
        have Ho := Lib.hid ho
        have Ho2 := Lib.hid ho2
        have X3 := Lib.hid x3
        have X1 := Lib.hid x1
        have Hb := Lib.hid hb
        have a0 := x3.cell0
        have a1 := x3.cell1
        have a2 := x3.lt
        clear ho ho2 x3 x1 hb
        by_cases hjm : j < m
        · have hjI : (j : Int) < m := by omega
          obtain ⟨q, hq, hqn, hqc⟩ := Lp1.out j (by rw [Hm.out]; exact hjm)
          obtain ⟨g2, cap2, hv2, hg2, hlt2⟩ := World.ownsRow.form Ho2.out.2 (by omega)
          obtain rfl : A2 = some ⟨g2, 0, none⟩ := by injection hv2
          have ck := own_cellD Ho2.out j hjm
          rw [hq] at ck
          have hne2 : g2 ≠ g := by have := Hg2.out g2 rfl; have := Hgr.out; omega
          have hqI : (q : Int) < n := by omega
          have dk := own_cellD Ho.out q hqn
          have fk := World.ownsRow.frozenAt Ho.out.2 q
          have hst := Ho.out.stored q 1
          have hf : (Bf.fill os 1 (L1.take j)).set q 1 = Bf.fill os 1 (L1.take (j + 1)) := Bf.step (by rw [Hl.out]; exact hqn) hqc (by rw [Hm.out]; exact hjm) hq
          rw [hf] at hst
          have Hs := Lib.hid hst.1
          have Ho2' := Lib.hid (Ho2.out.far ⟨g, q, none⟩ (fun g' e => by obtain rfl : g2 = g' := by injection (Option.some.inj e); ; exact hne2) (.int .i64 1))
          have X3' := Lib.hid (X3.out.far (p := ⟨g, q, none⟩) (by show y2.heap.size ≠ g; have := Hg1.out; omega) (.int .i64 1))
          have X1' := Lib.hid (X1.out.far (p := ⟨g, q, none⟩) (by show w.heap.size + 1 ≠ g; have := Hg0.out; have := Hyz.out; omega) (.int .i64 1))
          have Hb' := Lib.hid (Hb.out.setCell (p := ⟨g, q, none⟩) (by show w.heap.size ≤ g; have := Hg0.out; have := Hyz.out; omega) (.int .i64 1))
          clear hst hf hq hqc hv2 hg2 hlt2
          go_wp2_with fail
          go_roundw
          case rel => exact ⟨j + 1, by omega, by go_num, Hs.out, Ho2'.out, X3'.out, X1'.out, Hb'.out⟩
          case measure => simp [intOf]; omega
        · have hjm' : j = m := by omega
          have hfull : L1.take j = L1 := List.take_of_length_le (by rw [Hm.out]; omega)
          have Hn := Lib.hid (show Own wr y.heap.size (some ⟨g, 0, none⟩) n cap (Bf.fill os (1 + 1) []) by rw [← Bf.next Lf1.out, ← hfull]; exact Ho.out)
          clear hfull hjm'
          go_wp2_with fail
          go_roundw
          case rel => exact ⟨1 + 1, by omega, by go_num, Hn.out, X3.out, X1.out, Hb.out⟩
          case measure => simp [intOf]
    · go_wp2_with fail
      refine (C2.out _ HTr.out).mono ?_
      rintro e y4 ⟨A2, m, c2, rfl, ho2, hb⟩
      have Ho := Lib.hid (Ho.out.below hb)
      have X3 := Lib.hid (X3.out.below hb X3.out.lt)
      have X1 := Lib.hid (X1.out.below hb X1.out.lt)
      have Hb := Lib.hid (Hb.out.trans (hb.mono Hb.out.size))
      have Hg2 := Lib.hid (fun g' (e : A2 = some ⟨g', 0, none⟩) => (ho2.ge e).1)
      have Hgr := Lib.hid (Ho0g)
      have hm := ho2.1
      have Hm := Lib.hid hm
      have hm64 : m ≤ 64 := by have := Ln2.out; omega
      have Ho2 := Lib.hid ho2
      clear hb ho2 hm
      go_wp2_with fail
      go_loopw [20] (fun i wz => ∃ j : Nat, j ≤ m ∧ i = .int .i64 (j : Nat) ∧ Own wz y.heap.size (some ⟨g, 0, none⟩) n cap (Bf.fill os 2 (L2.take j)) ∧ Own wz wr.heap.size A2 m c2 L2 ∧ Bx 25 wz y2.heap.size (k : Nat) (.slice (some ⟨g, 0, none⟩) n cap) ∧ Bx 25 wz (w.heap.size + 1) 0 (.slice none 0 0) ∧ Below w.heap.size w wz) (fun i _ => m - (intOf i).toNat)
      case atStart => exact ⟨0, by omega, rfl, by rw [List.take_zero]; exact Ho.out, Ho2.out, X3.out, X1.out, Hb.out⟩
      case round =>
        clear Ho Ho2 X3 X1 Hb
        obtain ⟨j, hj, rfl, ho, ho2, x3, x1, hb⟩ := hrel
        have Ho := Lib.hid ho
        have Ho2 := Lib.hid ho2
        have X3 := Lib.hid x3
        have X1 := Lib.hid x1
        have Hb := Lib.hid hb
        have a0 := x3.cell0
        have a1 := x3.cell1
        have a2 := x3.lt
        clear ho ho2 x3 x1 hb
        by_cases hjm : j < m
        · have hjI : (j : Int) < m := by omega
          obtain ⟨q, hq, hqn, hqc⟩ := Lp2.out j (by rw [Hm.out]; exact hjm)
          obtain ⟨g2, cap2, hv2, hg2, hlt2⟩ := World.ownsRow.form Ho2.out.2 (by omega)
          obtain rfl : A2 = some ⟨g2, 0, none⟩ := by injection hv2
          have ck := own_cellD Ho2.out j hjm
          rw [hq] at ck
          have hne2 : g2 ≠ g := by have := Hg2.out g2 rfl; have := Hgr.out; omega
          have hqI : (q : Int) < n := by omega
          have dk := own_cellD Ho.out q hqn
          have fk := World.ownsRow.frozenAt Ho.out.2 q
          have hst := Ho.out.stored q 2
          have hf : (Bf.fill os 2 (L2.take j)).set q 2 = Bf.fill os 2 (L2.take (j + 1)) := Bf.step (by rw [Hl.out]; exact hqn) hqc (by rw [Hm.out]; exact hjm) hq
          rw [hf] at hst
          have Hs := Lib.hid hst.1
          have Ho2' := Lib.hid (Ho2.out.far ⟨g, q, none⟩ (fun g' e => by obtain rfl : g2 = g' := by injection (Option.some.inj e); ; exact hne2) (.int .i64 2))
          have X3' := Lib.hid (X3.out.far (p := ⟨g, q, none⟩) (by show y2.heap.size ≠ g; have := Hg1.out; omega) (.int .i64 2))
          have X1' := Lib.hid (X1.out.far (p := ⟨g, q, none⟩) (by show w.heap.size + 1 ≠ g; have := Hg0.out; have := Hyz.out; omega) (.int .i64 2))
          have Hb' := Lib.hid (Hb.out.setCell (p := ⟨g, q, none⟩) (by show w.heap.size ≤ g; have := Hg0.out; have := Hyz.out; omega) (.int .i64 2))
          clear hst hf hq hqc hv2 hg2 hlt2
          go_wp2_with fail
          go_roundw
          case rel => exact ⟨j + 1, by omega, by go_num, Hs.out, Ho2'.out, X3'.out, X1'.out, Hb'.out⟩
          case measure => simp [intOf]; omega
        · have hjm' : j = m := by omega
          have hfull : L2.take j = L2 := List.take_of_length_le (by rw [Hm.out]; omega)
          have Hn := Lib.hid (show Own wr y.heap.size (some ⟨g, 0, none⟩) n cap (Bf.fill os (2 + 1) []) by rw [← Bf.next Lf2.out, ← hfull]; exact Ho.out)
          clear hfull hjm'
          go_wp2_with fail
          go_roundw
          case rel => exact ⟨2 + 1, by omega, by go_num, Hn.out, X3.out, X1.out, Hb.out⟩
          case measure => simp [intOf]
    · have Hf : Hid (Own wr y.heap.size (some ⟨g, 0, none⟩) n cap os) := Lib.hid (by have := Ho.out; rw [show ((3 : Nat) : Int) = 3 from rfl, HA.out] at this; exact this)
      have a0 := X3.out.cell0
      have a1 := X3.out.cell1
      have a2 := X3.out.lt
      have r0 := X1.out.cell0
      have r1 := X1.out.cell1
      have r2 := X1.out.frozen 0
      have r3 := X1.out.frozen 1
      have r4 := X1.out.lt
      have K0 := Lib.hid ((X1.out.set0 (k : Nat)).cell0)
      have K1 := Lib.hid (((X1.out.set0 (k : Nat)).set1 (.slice (some ⟨g, 0, none⟩) n cap)).cell1)
      have Hf2 := Lib.hid ((Hf.out.far ⟨w.heap.size + 1, 0, none⟩ (fun g' e => by have := (Hf.out.ge e).1; have := Hyz.out; show g' ≠ w.heap.size + 1; omega) (.int .i64 (k : Nat))).far ⟨w.heap.size + 1, 1, none⟩ (fun g' e => by have := (Hf.out.ge e).1; have := Hyz.out; show g' ≠ w.heap.size + 1; omega) (.slice (some ⟨g, 0, none⟩) n cap))
      have Hb3 := Lib.hid ((Hb.out.setCell (p := ⟨w.heap.size + 1, 0, none⟩) (by show w.heap.size ≤ w.heap.size + 1; omega) (.int .i64 (k : Nat))).setCell (p := ⟨w.heap.size + 1, 1, none⟩) (by show w.heap.size ≤ w.heap.size + 1; omega) (.slice (some ⟨g, 0, none⟩) n cap))
      go_wp2_with fail
      have k0 := K0.out
      have k1' := K1.out
      refine bodyPost_ret (v := .agg #[.int .i64 (k : Nat), .slice (some ⟨g, 0, none⟩) n cap]) (by simp [results, Tryd.results34, go_sem, k0, k1']) rfl ?_
      exact ⟨_, _, rfl, Hf2.out.weaken (by have := Hyz.out; omega), Hb3.out⟩
end Go.Proofs.YteldfjibmaigiaaDoor

namespace Go.Proofs.YteldfjibmaigiaaDoor
set_option maxRecDepth 100000
open Go.RowKit

/-- What a placed stone leads to, at every argument. -/
def PlB (s : Int) (n : Nat) (cs : List Int) (x p : Int) (su : Bool) (R : Option (List Int × List Int)) : Prop :=
  if Bd.okB s cs = true ∧ (1 ≤ x ∧ x ≤ 2) ∧ Pt.okP s p = true then Plays s n cs x p.toNat su R else R = none
def ErrW (w : World) : Prop := ∃ a0 a1 : Addr, Errs w (.iface 109 (.pointer (some a0))) (.iface 109 (.pointer (some a1)))
theorem ErrW.below {w w' : World} (h : ErrW w) (hb : Below w.heap.size w w') : ErrW w' := by
  obtain ⟨a0, a1, h⟩ := h
  exact ⟨a0, a1, h.below hb⟩
/-- The answer in memory; the list lies behind the board's row. -/
def Answ (s : Int) (n : Nat) (R : Option (List Int × List Int)) (w : World) (e : Ending) (w' : World) : Prop :=
  (R = none ∧ e = .returned (.tuple #[.agg #[.int .i64 0, .slice none 0 0], .slice none 0 0, .bool false]) ∧ Below w.heap.size w w') ∨
  ∃ os gs A1 c1 A2 n2 c2 mid, R = some (os, gs) ∧ e = .returned (.tuple #[.agg #[.int .i64 s, .slice A1 n c1], .slice A2 n2 c2, .bool true]) ∧ Own w' w.heap.size A1 n c1 os ∧ (∀ g, A1 = some ⟨g, 0, none⟩ → g < mid) ∧ Own w' mid A2 n2 c2 gs ∧ w.heap.size ≤ mid ∧ mid ≤ w'.heap.size ∧ Below w.heap.size w w'

theorem PlB.make (s : Int) (n : Nat) (cs : List Int) (x p : Int) (su : Bool) (hl : cs.length = n) : ∃ R, PlB s n cs x p su R := by
  unfold PlB
  split
  · rename_i h
    obtain ⟨h1, ⟨x1, x2⟩, h2⟩ := h
    obtain ⟨q1, q2, q3, q4⟩ := (Bd.okB_iff s cs).1 h1
    obtain ⟨_, _, p0, pn⟩ := (Pt.okP_iff s p).1 h2
    obtain ⟨k, rfl⟩ := Int.eq_ofNat_of_zero_le (show 0 ≤ s by omega)
    have hp : p.toNat < n := by omega
    have hx : x = 1 ∨ x = 2 := by omega
    rcases hx with rfl | rfl
    · obtain ⟨R, hR, _⟩ := i_pl1 k n p.toNat cs su .nilIface .nilIface h1 hl hp
      exact ⟨R, hR⟩
    · obtain ⟨R, hR, _⟩ := i_pl2 k n p.toNat cs su .nilIface .nilIface h1 hl hp
      exact ⟨R, hR⟩
  · exact ⟨none, rfl⟩

/-- The program's 'play', told by what the model's makes of it. -/
theorem i_plR (k n p : Nat) (cs : List Int) (x : Int) (su : Bool) (R : Option (List Int × List Int)) (hv : Bd.okB (k : Int) cs = true) (hl : cs.length = n) (hp : p < n) (x1 : 1 ≤ x) (x2 : x ≤ 2) (hR : Plays (k : Int) n cs x p su R) (w : World) (v0 v1 : Value) (hg : Errs w v0 v1) :
    Calls Tryd.prog 33 #[.agg #[.int .i64 (k : Nat), .int .u64 (Bt.msk cs 0 n : Nat), .int .u64 (Bt.msk cs 1 n : Nat), .int .u64 (Bt.msk cs 2 n : Nat)], .int .i64 x, .int .i64 (p : Nat), .bool su] w fun e w' => PlI k n v0 v1 R e ∧ Below w.heap.size w w' := by
  have hx : x = 1 ∨ x = 2 := by omega
  rcases hx with rfl | rfl
  · obtain ⟨R', hR', h⟩ := i_pl1 k n p cs su v0 v1 hv hl hp
    rw [hR.one hR']
    exact h w hg
  · obtain ⟨R', hR', h⟩ := i_pl2 k n p cs su v0 v1 hv hl hp
    rw [hR.one hR']
    exact h w hg

theorem msk_lt64 (cs : List Int) (z : Int) (k n : Nat) (k1 : 1 ≤ k) (k2 : k ≤ 7) (hn : n = k * k) : Bt.msk cs z n < 18446744073709551616 := by
  have := Bt.msk_lt cs z n
  have h7 := (Bt.masks k k1 k2).2.2.2.2.2.2
  rw [hn] at this ⊢; omega

section
variable (s x p : Int) (su : Bool) (w : World) (B : Nat) (A : Option Addr) (n c : Nat) (cs : List Int) (R : Option (List Int × List Int)) (h : Ints w B A n cs) (hB : B ≤ w.heap.size) (hn : n ≤ 1000000000) (ht : Tab w) (he : ErrW w) (hR : PlB s n cs x p su R)
include h hB hn ht he hR

set_option maxRecDepth 100000 in
set_option maxHeartbeats 8000000 in
theorem i_PlayB : Calls Tryd.prog 7 #[.agg #[.int .i64 s, .slice A n c], .int .i64 x, .int .i64 p, .bool su] w (Answ s n R w) := by
  have hl := h.1
  have e1 : (w.alloc (.cells #[.int .i64 s, .slice A n c] 25)).heap.size = w.heap.size + 1 := by simp
  have x0 := (Bx.new 25 w s (.slice A n c)).alloc (.cells #[.int .i64 0, .slice none 0 0] 25)
  have xx := Bx.new 25 (w.alloc (.cells #[.int .i64 s, .slice A n c] 25)) 0 (.slice none 0 0)
  rw [e1] at xx
  have hb2 : Below w.heap.size w ((w.alloc (.cells #[.int .i64 s, .slice A n c] 25)).alloc (.cells #[.int .i64 0, .slice none 0 0] 25)) := ((Below.refl _ _).alloc (Nat.le_refl _) _).alloc (by simp) _
  have H := Lib.hid (h.below hb2 hB)
  have X0 := Lib.hid x0
  have X1 := Lib.hid xx
  have Hb := Lib.hid hb2
  have HT := Lib.hid ht
  have HE := Lib.hid he
  clear e1 x0 xx hb2 h ht he
  obtain ⟨b1, r1⟩ : ∃ b, Bd.okB s cs = b := ⟨_, rfl⟩
  obtain ⟨b2, r2⟩ : ∃ b, (decide (1 ≤ x) && decide (x ≤ 2)) = b := ⟨_, rfl⟩
  obtain ⟨b3, r3⟩ : ∃ b, Pt.okP s p = b := ⟨_, rfl⟩
  have He1 := Lib.hid r1
  have He2 := Lib.hid r2
  have He3 := Lib.hid r3
  cases b1
  · have HR : Hid (R = none) := Lib.hid (by unfold PlB at hR; rw [if_neg (by rintro ⟨h, _⟩; rw [r1] at h; cases h)] at hR; exact hR)
    clear hR r1 r2 r3 hl
    go_enter Tryd.func7, Tryd.ntmps7
    go_wp2_with fail
    refine (i_validBoard _ _ _ _ _ _ _ H.out (by simp; omega) hn).mono ?_
    rintro e y ⟨rfl, hb⟩
    have X0 := Lib.hid (X0.out.below hb X0.out.lt)
    have X1 := Lib.hid (X1.out.below hb X1.out.lt)
    have H := Lib.hid (H.out.below hb (by simp; omega))
    have Hb := Lib.hid (Hb.out.trans (hb.mono (by simp; omega)))
    clear hb
    rw [He1.out]
    have c0 := X1.out.cell0
    have c1 := X1.out.cell1
    have f0 := X1.out.frozen 0
    have f1 := X1.out.frozen 1
    have l1 := X1.out.lt
    have K0 := Lib.hid ((X1.out.set0 0).cell0)
    have K1 := Lib.hid (((X1.out.set0 0).set1 (.slice none 0 0)).cell1)
    have Hb3 := Lib.hid ((Hb.out.setCell (p := ⟨w.heap.size + 1, 0, none⟩) (by show w.heap.size ≤ w.heap.size + 1; omega) (.int .i64 0)).setCell (p := ⟨w.heap.size + 1, 1, none⟩) (by show w.heap.size ≤ w.heap.size + 1; omega) (.slice none 0 0))
    clear X1
    go_wp2_with fail
    have k0 := K0.out
    have k1 := K1.out
    refine bodyPost_ret (v := .tuple #[.agg #[.int .i64 0, .slice none 0 0], .slice none 0 0, .bool false]) (by simp [results, Tryd.results7, go_sem, k0, k1]) rfl ?_
    exact .inl ⟨by first | exact HR.out | rfl, rfl, Hb3.out⟩
  · cases b2
    · have HR : Hid (R = none) := Lib.hid (by unfold PlB at hR; rw [if_neg (by rintro ⟨_, ⟨h1, h2⟩, _⟩; rw [decide_eq_true h1, decide_eq_true h2] at r2; cases r2)] at hR; exact hR)
      clear hR r1 r2 r3 hl
      go_enter Tryd.func7, Tryd.ntmps7
      go_wp2_with fail
      refine (i_validBoard _ _ _ _ _ _ _ H.out (by simp; omega) hn).mono ?_
      rintro e y ⟨rfl, hb⟩
      have X0 := Lib.hid (X0.out.below hb X0.out.lt)
      have X1 := Lib.hid (X1.out.below hb X1.out.lt)
      have H := Lib.hid (H.out.below hb (by simp; omega))
      have Hb := Lib.hid (Hb.out.trans (hb.mono (by simp; omega)))
      clear hb
      rw [He1.out]
      have v0 := X0.out.cell0
      have v1 := X0.out.cell1
      have v2 := X0.out.lt
      go_wp2_with fail
      refine (i_eyeStone _ _).mono ?_
      rintro e w' ⟨rfl, rfl⟩
      rw [He2.out]
      clear v0 v1 v2
      have c0 := X1.out.cell0
      have c1 := X1.out.cell1
      have f0 := X1.out.frozen 0
      have f1 := X1.out.frozen 1
      have l1 := X1.out.lt
      have K0 := Lib.hid ((X1.out.set0 0).cell0)
      have K1 := Lib.hid (((X1.out.set0 0).set1 (.slice none 0 0)).cell1)
      have Hb3 := Lib.hid ((Hb.out.setCell (p := ⟨w.heap.size + 1, 0, none⟩) (by show w.heap.size ≤ w.heap.size + 1; omega) (.int .i64 0)).setCell (p := ⟨w.heap.size + 1, 1, none⟩) (by show w.heap.size ≤ w.heap.size + 1; omega) (.slice none 0 0))
      clear X1
      go_wp2_with fail
      have k0 := K0.out
      have k1 := K1.out
      refine bodyPost_ret (v := .tuple #[.agg #[.int .i64 0, .slice none 0 0], .slice none 0 0, .bool false]) (by simp [results, Tryd.results7, go_sem, k0, k1]) rfl ?_
      exact .inl ⟨by first | exact HR.out | rfl, rfl, Hb3.out⟩
    · cases b3
      · have HR : Hid (R = none) := Lib.hid (by unfold PlB at hR; rw [if_neg (by rintro ⟨_, _, h⟩; rw [r3] at h; cases h)] at hR; exact hR)
        clear hR r1 r2 r3 hl
        go_enter Tryd.func7, Tryd.ntmps7
        go_wp2_with fail
        refine (i_validBoard _ _ _ _ _ _ _ H.out (by simp; omega) hn).mono ?_
        rintro e y ⟨rfl, hb⟩
        have X0 := Lib.hid (X0.out.below hb X0.out.lt)
        have X1 := Lib.hid (X1.out.below hb X1.out.lt)
        have H := Lib.hid (H.out.below hb (by simp; omega))
        have Hb := Lib.hid (Hb.out.trans (hb.mono (by simp; omega)))
        clear hb
        rw [He1.out]
        have v0 := X0.out.cell0
        have v1 := X0.out.cell1
        have v2 := X0.out.lt
        go_wp2_with fail
        refine (i_eyeStone _ _).mono ?_
        rintro e w' ⟨rfl, rfl⟩
        rw [He2.out]
        go_wp2_with fail
        refine (i_point _ _ _).mono ?_
        rintro e w' ⟨rfl, rfl⟩
        rw [He3.out]
        clear v0 v1 v2
        have c0 := X1.out.cell0
        have c1 := X1.out.cell1
        have f0 := X1.out.frozen 0
        have f1 := X1.out.frozen 1
        have l1 := X1.out.lt
        have K0 := Lib.hid ((X1.out.set0 0).cell0)
        have K1 := Lib.hid (((X1.out.set0 0).set1 (.slice none 0 0)).cell1)
        have Hb3 := Lib.hid ((Hb.out.setCell (p := ⟨w.heap.size + 1, 0, none⟩) (by show w.heap.size ≤ w.heap.size + 1; omega) (.int .i64 0)).setCell (p := ⟨w.heap.size + 1, 1, none⟩) (by show w.heap.size ≤ w.heap.size + 1; omega) (.slice none 0 0))
        clear X1
        go_wp2_with fail
        have k0 := K0.out
        have k1 := K1.out
        refine bodyPost_ret (v := .tuple #[.agg #[.int .i64 0, .slice none 0 0], .slice none 0 0, .bool false]) (by simp [results, Tryd.results7, go_sem, k0, k1]) rfl ?_
        exact .inl ⟨by first | exact HR.out | rfl, rfl, Hb3.out⟩
      · rw [Bool.and_eq_true, decide_eq_true_eq, decide_eq_true_eq] at r2
        obtain ⟨x1, x2⟩ := r2
        obtain ⟨q1, q2, q3, q4⟩ := (Bd.okB_iff s cs).1 r1
        obtain ⟨_, _, p0, pn⟩ := (Pt.okP_iff s p).1 r3
        obtain ⟨k, rfl⟩ := Int.eq_ofNat_of_zero_le (show 0 ≤ s by omega)
        obtain ⟨q, rfl⟩ := Int.eq_ofNat_of_zero_le (show 0 ≤ p by omega)
        have hnn : n = k * k := by
          have : (n : Int) = ((k * k : Nat) : Int) := by rw [← hl]; push_cast; exact q3
          exact_mod_cast this
        have hpl : Plays (k : Int) n cs x q su R := by
          unfold PlB at hR
          rw [if_pos ⟨r1, ⟨x1, x2⟩, r3⟩] at hR
          exact hR
        have hqn : q < n := by omega
        have k1 : 1 ≤ k := by omega
        have k2 : k ≤ 7 := by omega
        have CP : Hid (∀ w, Ints w B A n cs → B ≤ w.heap.size → Calls Tryd.prog 32 #[.agg #[.int .i64 (k : Nat), .slice A n c]] w fun e w' => e = .returned (.agg #[.int .i64 (k : Nat), .int .u64 (Bt.msk cs 0 n : Nat), .int .u64 (Bt.msk cs 1 n : Nat), .int .u64 (Bt.msk cs 2 n : Nat)]) ∧ Below w.heap.size w w') := Lib.hid fun w h hB => i_positionOf k w B A n c cs h hB r1
        have CQ : Hid (∀ w v0 v1, Errs w v0 v1 → Calls Tryd.prog 33 #[.agg #[.int .i64 (k : Nat), .int .u64 (Bt.msk cs 0 n : Nat), .int .u64 (Bt.msk cs 1 n : Nat), .int .u64 (Bt.msk cs 2 n : Nat)], .int .i64 x, .int .i64 (q : Nat), .bool su] w fun e w' => PlI k n v0 v1 R e ∧ Below w.heap.size w w') := Lib.hid fun w v0 v1 hg => i_plR k n q cs x su R r1 hl hqn x1 x2 hpl w v0 v1 hg
        have HO : Hid (∀ os gs, R = some (os, gs) → os.length = n ∧ OkL os) := Lib.hid fun os gs e => by
          rw [e] at hpl
          have := hpl.ok hl (okL_mem.2 q4) x1 x2
          exact ⟨this.1, this.2.1⟩
        have CB : Hid (∀ w os gs, R = some (os, gs) → Tab w → Calls Tryd.prog 34 #[.agg #[.int .i64 (k : Nat), .int .u64 (Bt.msk os 0 n : Nat), .int .u64 (Bt.msk os 1 n : Nat), .int .u64 (Bt.msk os 2 n : Nat)]] w fun e w' => ∃ A c, e = .returned (.agg #[.int .i64 (k : Nat), .slice A n c]) ∧ Own w' w.heap.size A n c os ∧ Below w.heap.size w w') := Lib.hid fun w os gs e ht => i_board k n os w ht k1 k2 hnn (HO.out os gs e).1 (okL_mem.1 (HO.out os gs e).2)
        have Hn49 := Lib.hid (show n ≤ 49 by have := (Bt.sq_nat k k1 k2).2.1; omega)
        obtain ⟨E0, h0⟩ : ∃ E, Bt.msk cs 0 n = E := ⟨_, rfl⟩
        obtain ⟨E1, h1⟩ : ∃ E, Bt.msk cs 1 n = E := ⟨_, rfl⟩
        obtain ⟨E2, h2⟩ : ∃ E, Bt.msk cs 2 n = E := ⟨_, rfl⟩
        rw [h0, h1, h2] at CP CQ
        clear hR r1 r3 hl x1 x2 q1 q2 q3 q4 p0 pn hnn hpl hqn k1 k2 h0 h1 h2
        go_enter Tryd.func7, Tryd.ntmps7
        go_wp2_with fail
        refine (i_validBoard _ _ _ _ _ _ _ H.out (by simp; omega) hn).mono ?_
        rintro e y ⟨rfl, hb⟩
        have X0 := Lib.hid (X0.out.below hb X0.out.lt)
        have X1 := Lib.hid (X1.out.below hb X1.out.lt)
        have H := Lib.hid (H.out.below hb (by simp; omega))
        have Hb := Lib.hid (Hb.out.trans (hb.mono (by simp; omega)))
        clear hb
        rw [He1.out]
        have v0 := X0.out.cell0
        have v1 := X0.out.cell1
        have v2 := X0.out.lt
        go_wp2_with fail
        refine (i_eyeStone _ _).mono ?_
        rintro e w' ⟨rfl, rfl⟩
        rw [He2.out]
        go_wp2_with fail
        refine (i_point _ _ _).mono ?_
        rintro e w' ⟨rfl, rfl⟩
        rw [He3.out]
        clear v0 v1 v2
        have v0 := X0.out.cell0
        have v1 := X0.out.cell1
        have v2 := X0.out.lt
        go_wp2_with fail
        refine (CP.out _ H.out (by have := Hb.out.size; omega)).mono ?_
        rintro e y2 ⟨rfl, hb⟩
        have X1 := Lib.hid (X1.out.below hb X1.out.lt)
        have Hb := Lib.hid (Hb.out.trans (hb.mono Hb.out.size))
        clear hb v0 v1 v2 X0 H
        obtain ⟨a0, a1, hee⟩ := HE.out.below Hb.out
        go_wp2_with fail
        refine (CQ.out _ _ _ hee).mono ?_
        rintro e y3 ⟨hpi, hb⟩
        have X1 := Lib.hid (X1.out.below hb X1.out.lt)
        have Hb := Lib.hid (Hb.out.trans (hb.mono Hb.out.size))
        have HT := Lib.hid (HT.out.below Hb.out)
        clear hb hee HE
        cases R with
        | none =>
          have HR : Hid ((none : Option (List Int × List Int)) = none) := Lib.hid rfl
          obtain ⟨v, hv, rfl⟩ := hpi
          have X1 := Lib.hid (X1.out.alloc (.cells #[.int .i64 0, .int .u64 0, .int .u64 0, .int .u64 0] 58))
          have Hb := Lib.hid (Hb.out.alloc Hb.out.size (.cells #[.int .i64 0, .int .u64 0, .int .u64 0, .int .u64 0] 58))
          rcases hv with rfl | rfl
          · have c0 := X1.out.cell0
            have c1 := X1.out.cell1
            have f0 := X1.out.frozen 0
            have f1 := X1.out.frozen 1
            have l1 := X1.out.lt
            have K0 := Lib.hid ((X1.out.set0 0).cell0)
            have K1 := Lib.hid (((X1.out.set0 0).set1 (.slice none 0 0)).cell1)
            have Hb3 := Lib.hid ((Hb.out.setCell (p := ⟨w.heap.size + 1, 0, none⟩) (by show w.heap.size ≤ w.heap.size + 1; omega) (.int .i64 0)).setCell (p := ⟨w.heap.size + 1, 1, none⟩) (by show w.heap.size ≤ w.heap.size + 1; omega) (.slice none 0 0))
            clear X1
            go_wp2_with fail
            have k0 := K0.out
            have k1 := K1.out
            refine bodyPost_ret (v := .tuple #[.agg #[.int .i64 0, .slice none 0 0], .slice none 0 0, .bool false]) (by simp [results, Tryd.results7, go_sem, k0, k1]) rfl ?_
            exact .inl ⟨by first | exact HR.out | rfl, rfl, Hb3.out⟩
          · have c0 := X1.out.cell0
            have c1 := X1.out.cell1
            have f0 := X1.out.frozen 0
            have f1 := X1.out.frozen 1
            have l1 := X1.out.lt
            have K0 := Lib.hid ((X1.out.set0 0).cell0)
            have K1 := Lib.hid (((X1.out.set0 0).set1 (.slice none 0 0)).cell1)
            have Hb3 := Lib.hid ((Hb.out.setCell (p := ⟨w.heap.size + 1, 0, none⟩) (by show w.heap.size ≤ w.heap.size + 1; omega) (.int .i64 0)).setCell (p := ⟨w.heap.size + 1, 1, none⟩) (by show w.heap.size ≤ w.heap.size + 1; omega) (.slice none 0 0))
            clear X1
            go_wp2_with fail
            have k0 := K0.out
            have k1 := K1.out
            refine bodyPost_ret (v := .tuple #[.agg #[.int .i64 0, .slice none 0 0], .slice none 0 0, .bool false]) (by simp [results, Tryd.results7, go_sem, k0, k1]) rfl ?_
            exact .inl ⟨by first | exact HR.out | rfl, rfl, Hb3.out⟩
        | some r =>
          obtain ⟨os, gs⟩ := r
          obtain ⟨m, hm, hgs, rfl⟩ := hpi
          have hmp : Bt.pts m 64 = gs := by rw [Bt.pts_more hm (by have := Hn49.out; omega), hgs]
          have hm64 : m < 18446744073709551616 := by
            have : 2 ^ n ≤ 2 ^ 49 := Nat.pow_le_pow_right (by decide) Hn49.out
            omega
          have CL : Hid (∀ w, Tab w → Calls Tryd.prog 35 #[.int .u64 (m : Nat)] w fun e w' => ∃ A n c, e = .returned (.slice A n c) ∧ Own w' w.heap.size A n c gs ∧ Below w.heap.size w w') := Lib.hid fun w ht => by rw [← hmp]; exact i_list m w ht hm64
          have CB' : Hid (∀ w, Tab w → Calls Tryd.prog 34 #[.agg #[.int .i64 (k : Nat), .int .u64 (Bt.msk os 0 n : Nat), .int .u64 (Bt.msk os 1 n : Nat), .int .u64 (Bt.msk os 2 n : Nat)]] w fun e w' => ∃ A c, e = .returned (.agg #[.int .i64 (k : Nat), .slice A n c]) ∧ Own w' w.heap.size A n c os ∧ Below w.heap.size w w') := Lib.hid fun w ht => CB.out w os gs rfl ht
          obtain ⟨F0, g0⟩ : ∃ E, Bt.msk os 0 n = E := ⟨_, rfl⟩
          obtain ⟨F1, g1⟩ : ∃ E, Bt.msk os 1 n = E := ⟨_, rfl⟩
          obtain ⟨F2, g2⟩ : ∃ E, Bt.msk os 2 n = E := ⟨_, rfl⟩
          rw [g0, g1, g2] at CB' ⊢
          clear hm hgs hmp hm64 g0 g1 g2 CB HO
          go_upto_region 4 with (fail)
          obtain ⟨y4, hy4⟩ : ∃ y4, y4 = y3.alloc (.cells #[.int .i64 (k : Nat), .int .u64 (F0 : Nat), .int .u64 (F1 : Nat), .int .u64 (F2 : Nat)] 58) := ⟨_, rfl⟩
          have P2 : Hid (Px y4 y3.heap.size (k : Nat) F0 F1 F2) := Lib.hid (by rw [hy4]; exact Px.new _ _ _ _ _)
          have hb4 : Below y3.heap.size y3 y4 := by rw [hy4]; exact (Below.refl _ _).alloc (Nat.le_refl _) _
          have X1 := Lib.hid (X1.out.below hb4 X1.out.lt)
          have Hb := Lib.hid (Hb.out.trans (hb4.mono Hb.out.size))
          have HT := Lib.hid (HT.out.below hb4)
          have Hx4q := Lib.hid X1.out.lt
          rw [← hy4]
          clear hy4 hb4
          have c0 := P2.out.c0
          have c1 := P2.out.c1
          have c2 := P2.out.c2
          have c3 := P2.out.c3
          have hz2 := P2.out.lt
          go_wp2_with fail
          refine (CB'.out _ HT.out).mono ?_
          rintro e y5 ⟨A1, d1, rfl, ho, hb⟩
          have X1 := Lib.hid (X1.out.below hb X1.out.lt)
          have HT := Lib.hid (HT.out.below hb)
          have Hz4 := Lib.hid Hb.out.size
          have Hx4 : Hid (w.heap.size + 1 < y4.heap.size) := Lib.hid Hx4q.out
          have Hx5 : Hid (w.heap.size + 1 < y5.heap.size) := Lib.hid X1.out.lt
          have Hb := Lib.hid (Hb.out.trans (hb.mono Hb.out.size))
          have Ho := Lib.hid ho
          clear hb ho c0 c1 c2 c3 hz2 P2
          go_wp2_with fail
          refine (CL.out _ HT.out).mono ?_
          rintro e y6 ⟨A2, n2, d2, rfl, ho2, hb⟩
          have X1 := Lib.hid (X1.out.below hb X1.out.lt)
          have Hz5 := Lib.hid Hb.out.size
          have Hz6 := Lib.hid hb.size
          have Hb := Lib.hid (Hb.out.trans (hb.mono Hb.out.size))
          have Hlt := Lib.hid (fun g (e : A1 = some ⟨g, 0, none⟩) => (Ho.out.ge e).2)
          have Hx := Lib.hid (show w.heap.size + 1 < y4.heap.size from Hx4.out)
          have ho1 := Ho.out.below hb
          have Ho1 := Lib.hid ((ho1.far ⟨w.heap.size + 1, 0, none⟩ (fun g hA => by have := (ho1.ge hA).1; have := Hx.out; show g ≠ w.heap.size + 1; omega) (.int .i64 (k : Nat))).far ⟨w.heap.size + 1, 1, none⟩ (fun g hA => by have := (ho1.ge hA).1; have := Hx.out; show g ≠ w.heap.size + 1; omega) (.slice A1 n d1))
          have Ho2 := Lib.hid ((ho2.far ⟨w.heap.size + 1, 0, none⟩ (fun g hA => by have := (ho2.ge hA).1; have := Hx5.out; show g ≠ w.heap.size + 1; omega) (.int .i64 (k : Nat))).far ⟨w.heap.size + 1, 1, none⟩ (fun g hA => by have := (ho2.ge hA).1; have := Hx5.out; show g ≠ w.heap.size + 1; omega) (.slice A1 n d1))
          clear hb ho2 ho1
          have c0 := X1.out.cell0
          have c1 := X1.out.cell1
          have f0 := X1.out.frozen 0
          have f1 := X1.out.frozen 1
          have l1 := X1.out.lt
          have K0 := Lib.hid ((X1.out.set0 (k : Nat)).cell0)
          have K1 := Lib.hid (((X1.out.set0 (k : Nat)).set1 (.slice A1 n d1)).cell1)
          have Hb3 := Lib.hid ((Hb.out.setCell (p := ⟨w.heap.size + 1, 0, none⟩) (by show w.heap.size ≤ w.heap.size + 1; omega) (.int .i64 (k : Nat))).setCell (p := ⟨w.heap.size + 1, 1, none⟩) (by show w.heap.size ≤ w.heap.size + 1; omega) (.slice A1 n d1))
          clear X1
          go_wp2_with fail
          have k0 := K0.out
          have k1 := K1.out
          refine bodyPost_ret (v := .tuple #[.agg #[.int .i64 (k : Nat), .slice A1 n d1], .slice A2 n2 d2, .bool true]) (by simp [results, Tryd.results7, go_sem, k0, k1]) rfl ?_
          exact .inr ⟨_, _, _, _, _, _, _, y5.heap.size, rfl, rfl, Ho1.out.weaken Hz4.out, Hlt.out, Ho2.out, Hz5.out, by have := Hz6.out; simpa using this, Hb3.out⟩

end
end Go.Proofs.YteldfjibmaigiaaDoor

