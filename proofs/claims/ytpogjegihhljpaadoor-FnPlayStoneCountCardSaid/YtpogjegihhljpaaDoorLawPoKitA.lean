/-
  Texts that a law stands on: PlayU, PlBd, PlSt, InvB, InvS, Removed, Sorted, StepApp, Play, PlayS, EyeV, EyeW, Poss, PossI, PossB, SpSt, PlV, Reader, Draw, DrawSm, Played, WordsU, FmtP, FmtS.
-/
import Derived.Test.YtpogjegihhljpaaDoorPlayI
import Derived.Test.YtpogjegihhljpaaDoorGrwI
import Derived.Test.YtpogjegihhljpaaDoorPlayP
import Derived.Test.YtpogjegihhljpaaDoorEyeU
import Derived.Test.YtpogjegihhljpaaDoorMarks
import Derived.Test.YtpogjegihhljpaaDoorRows2
import Derived.Test.YtpogjegihhljpaaDoorInv
import Derived.Test.YtpogjegihhljpaaDoorRmPure
import Derived.Test.YtpogjegihhljpaaDoorSortP
import Derived.Deep.QuietTactic
import Derived.BigQuiet
import Derived.Test.YtpogjegihhljpaaDoorCopy
import Derived.Deep.RegionLaw
import Derived.Test.YtpogjegihhljpaaDoorWordsB
import Derived.Test.YtpogjegihhljpaaDoorBase
import Derived.IntWalk
import Derived.Test.YtpogjegihhljpaaDoorWords
import Derived.RegionTactic
import Derived.OpenShut
import Derived.Laws.BytesString
import Derived.Test.YtpogjegihhljpaaDoorPureBd
import Derived.Test.YtpogjegihhljpaaDoorFactPt
import Derived.Laws.BytesArg
namespace Go.Proofs.YtpogjegihhljpaaDoor
set_option maxRecDepth 100000
open Go.RowKit

theorem bit_eq (m p : Nat) (hm : m < 18446744073709551616) (hp : p < 64) : (bits .and .u64 (m : Int) ((2 ^ p : Nat) : Int) == 0) = !m.testBit p := by
  have := bit_ne m p hm hp
  rw [← this]; simp [bne]

theorem RI.make {s x : Int} {n : Nat} {cs : List Int} (hl : cs.length = n) : ∀ j, j ≤ n → ∃ S os, RI s n cs x j S os
  | 0, _ => ⟨_, _, RI.start x hl⟩
  | j + 1, h => by
    obtain ⟨S, os, hr⟩ := RI.make hl j (by omega)
    by_cases hx : cs.getD j 0 = x ∧ NoLib s n cs (j : Nat)
    · exact ⟨_, _, hr.take (by omega) hx⟩
    · exact ⟨_, _, hr.no hx⟩
theorem RI.one {s x : Int} {n : Nat} {cs : List Int} {S S' : List Bool} {os os' : List Int} (h : RI s n cs x n S os) (h' : RI s n cs x n S' os') : S = S' ∧ os = os' := by
  have e : ∀ i, i < n → S.getD i false = S'.getD i false := fun i hi => by
    have := (h.yes i hi).trans (h'.yes i hi).symm
    rcases h3 : S.getD i false with _ | _ <;> rcases h4 : S'.getD i false with _ | _ <;> simp_all
  refine ⟨List.ext_getElem (by rw [h.len, h'.len]) fun i h1 h2 => ?_, List.ext_getElem (by rw [h.olen, h'.olen]) fun i h1 h2 => ?_⟩
  · have := e i (by rw [← h.len]; exact h1)
    rwa [List.getD_eq_getElem?_getD, List.getD_eq_getElem?_getD, List.getElem?_eq_getElem h1, List.getElem?_eq_getElem h2] at this
  · have hi : i < n := by rw [← h.olen]; exact h1
    have := (h.out i hi).trans ((by rw [e i hi]) : _ = (if S'.getD i false then 0 else cs.getD i 0)) |>.trans (h'.out i hi).symm
    rwa [List.getD_eq_getElem?_getD, List.getD_eq_getElem?_getD, List.getElem?_eq_getElem h1, List.getElem?_eq_getElem h2] at this

theorem so_one {xs ys zs : List Int} {k : Nat} (h : So.SO xs ys k) (h' : So.SO xs zs k) (hk : xs.length = k) : ys = zs :=
  Gw.asc_one (h.perm.trans h'.perm.symm) (Gw.pair_of fun a b hab hb => h.pair a b hab (by rw [h.len, hk] at hb; exact hb)) (Gw.pair_of fun a b hab hb => h'.pair a b hab (by rw [h'.len, hk] at hb; exact hb))

theorem Plays.one {s x : Int} {n p : Nat} {cs : List Int} {su : Bool} {R R' : Option (List Int × List Int)} (h : Plays s n cs x p su R) (h' : Plays s n cs x p su R') : R = R' := by
  cases h with
  | taken h0 =>
    cases h' with
    | taken _ => rfl
    | lives _ _ h1 => exact absurd h1 h0
    | lost _ _ h1 => rfl
    | both _ _ _ _ _ _ h1 => exact absurd h1 h0
  | lives S os h0 hr hn =>
    cases h' with
    | taken h1 => exact absurd h0 h1
    | lives S' os' _ hr' _ => obtain ⟨rfl, rfl⟩ := hr.one hr'; rfl
    | lost S' os' _ hr' hn' => obtain ⟨rfl, rfl⟩ := hr.one hr'; exact absurd hn' hn
    | both S' os' _ _ _ _ _ hr' hn' => obtain ⟨rfl, rfl⟩ := hr.one hr'; exact absurd hn' hn
  | lost S os h0 hr hn hs =>
    cases h' with
    | taken h1 => rfl
    | lives S' os' _ hr' hn' => obtain ⟨rfl, rfl⟩ := hr.one hr'; exact absurd hn hn'
    | lost _ _ _ _ _ => rfl
    | both _ _ _ _ _ _ _ _ _ hs' => rw [hs] at hs'; cases hs'
  | both S os S2 os2 gs k h0 hr hn hs hr2 hso hk =>
    cases h' with
    | taken h1 => exact absurd h0 h1
    | lives S' os' _ hr' hn' => obtain ⟨rfl, rfl⟩ := hr.one hr'; exact absurd hn hn'
    | lost _ _ _ _ _ hs' => rw [hs] at hs'; cases hs'
    | both S' os' S2' os2' gs' k' _ hr' _ _ hr2' hso' hk' =>
      obtain ⟨rfl, rfl⟩ := hr.one hr'
      obtain ⟨rfl, rfl⟩ := hr2.one hr2'
      obtain rfl : k = k' := by rw [← hk, ← hk']
      rw [so_one hso hso' hk]

/-- A set with the points that are marked. -/
theorem nl_make {s n : Nat} {cs : List Int} {x : Int} {S : List Bool} {os : List Int} (hr : RI (s : Int) n cs x n S os) : ∃ m, Gw.Nl s n cs x m := by
  refine ⟨Bt.msk (S.map fun b => if b then (1 : Int) else 0) 1 n, fun q => ?_⟩
  rw [Bt.msk_bit, Bool.and_eq_true, decide_eq_true_eq, decide_eq_true_eq]
  have e : q < n → ((S.map fun b => if b then (1 : Int) else 0).getD q 0 = 1 ↔ S.getD q false = true) := fun hq => by
    have hq' : q < S.length := by rw [hr.len]; exact hq
    rw [List.getD_eq_getElem?_getD, List.getD_eq_getElem?_getD, List.getElem?_map, List.getElem?_eq_getElem hq']
    rcases S[q] with _ | _ <;> simp
  constructor
  · rintro ⟨a, b⟩
    have := (hr.yes q a).1 ((e a).1 b)
    exact ⟨a, this.2⟩
  · rintro ⟨a, b⟩
    exact ⟨a, (e a).2 ((hr.yes q a).2 ⟨a, b⟩)⟩

theorem so_pts {m m' n k : Nat} (hd : ∀ q, q < n → m.testBit q = true → m'.testBit q = true → False) (hk : (Bt.pts m n ++ Bt.pts m' n).length = k) : So.SO (Bt.pts m n ++ Bt.pts m' n) (Bt.pts (m ||| m') n) k := by
  have hp : (Bt.pts (m ||| m') n).Perm (Bt.pts m n ++ Bt.pts m' n) := by
    have n1 : (Bt.pts m n ++ Bt.pts m' n).Pairwise (· ≠ ·) := by
      rw [List.pairwise_append]
      refine ⟨(Gw.pts_pair _ _).imp fun h => by omega, (Gw.pts_pair _ _).imp fun h => by omega, ?_⟩
      rintro a ha b hb rfl
      obtain ⟨q, rfl, hq, hqm⟩ := Bt.pts_mem.1 ha
      obtain ⟨q', hq', _, hqm'⟩ := Bt.pts_mem.1 hb
      obtain rfl : q = q' := by omega
      exact hd q hq hqm hqm'
    have n2 : (Bt.pts (m ||| m') n).Pairwise (· ≠ ·) := (Gw.pts_pair _ _).imp fun h => by omega
    refine Gw.perm_of n2 n1 fun x => ?_
    rw [List.mem_append, Bt.pts_mem, Bt.pts_mem, Bt.pts_mem]
    constructor
    · rintro ⟨q, a, b, c⟩
      rw [Nat.testBit_or, Bool.or_eq_true] at c
      rcases c with c | c
      · exact .inl ⟨q, a, b, c⟩
      · exact .inr ⟨q, a, b, c⟩
    · rintro (⟨q, a, b, c⟩ | ⟨q, a, b, c⟩)
      · exact ⟨q, a, b, by rw [Nat.testBit_or, c]; rfl⟩
      · exact ⟨q, a, b, by rw [Nat.testBit_or, c, Bool.or_true]⟩
  refine ⟨hp.length_eq, hp, fun a b hab hb => ?_⟩
  have hb' : b < (Bt.pts (m ||| m') n).length := by rw [hp.length_eq, hk]; exact hb
  have := (List.pairwise_iff_getElem.1 (Gw.pts_pair (m ||| m') n)) a b (by omega) hb' hab
  rw [List.getD_eq_getElem?_getD, List.getD_eq_getElem?_getD, List.getElem?_eq_getElem (show a < (Bt.pts (m ||| m') n).length by omega), List.getElem?_eq_getElem hb']
  exact Int.le_of_lt this

theorem own_at {s x o : Int} {n p : Nat} {cs os : List Int} {S : List Bool} (hl : cs.length = n) (h : RI s n (cs.set p x) o n S os) (hp : p < n) (hx : x ≠ o) : os.getD p 0 = x := by
  have ec : (cs.set p x).getD p 0 = x := by simp [List.getD_eq_getElem?_getD, hl, hp]
  have hS : S.getD p false = false := by
    rcases Bool.eq_false_or_eq_true (S.getD p false) with e | e
    · have := ((h.yes p hp).1 e).2.1
      rw [ec] at this
      exact absurd this hx
    · exact e
  rw [h.out p hp, hS, ec]; rfl

/-- What the program's 'play' answers. -/
def PlI (k n : Nat) (v0 v1 : Value) : Option (List Int × List Int) → Ending → Prop
  | none, e => ∃ v, (v = v0 ∨ v = v1) ∧ e = .returned (.tuple #[.agg #[.int .i64 0, .int .u64 0, .int .u64 0, .int .u64 0], .int .u64 0, v])
  | some (os, gs), e => ∃ m : Nat, m < 2 ^ n ∧ Bt.pts m n = gs ∧ e = .returned (.tuple #[.agg #[.int .i64 (k : Nat), .int .u64 (Bt.msk os 0 n : Nat), .int .u64 (Bt.msk os 1 n : Nat), .int .u64 (Bt.msk os 2 n : Nat)], .int .u64 (m : Nat), .nilIface])

section
variable (k n : Nat) (cs : List Int) (m : Nat) (w : World) (h1 : 1 ≤ k) (h2 : k ≤ 7) (hn : n = k * k) (hl : cs.length = n)
include h1 h2 hn hl
theorem i_wo1 (hm : Gw.Nl k n cs 1 m) : Calls Tryd.prog 77 #[.agg #[.int .i64 (k : Nat), .int .u64 (Bt.msk cs 0 n : Nat), .int .u64 (Bt.msk cs 1 n : Nat), .int .u64 (Bt.msk cs 2 n : Nat)], .int .i64 1] w fun e w' => e = .returned (.int .u64 (m : Nat)) ∧ Below w.heap.size w w' := by
  have l0 := Bt.msk_lt cs 0 n
  have l1 := Bt.msk_lt cs 1 n
  have h7 := (Bt.masks k h1 h2).2.2.2.2.2.2
  refine (i_without1 k _ _ _ w h1 h2 (by rw [← hn]; exact l0) (by rw [← hn]; exact l1) _ (Gw.same_msk hl 1)).mono ?_
  rintro e w' ⟨g, rfl, hgl, hg, hb⟩
  exact ⟨by rw [(Gw.nl_of h1 h2 hn hl hg (by omega)).one hm], hb⟩
theorem i_wo2 (hm : Gw.Nl k n cs 2 m) : Calls Tryd.prog 77 #[.agg #[.int .i64 (k : Nat), .int .u64 (Bt.msk cs 0 n : Nat), .int .u64 (Bt.msk cs 1 n : Nat), .int .u64 (Bt.msk cs 2 n : Nat)], .int .i64 2] w fun e w' => e = .returned (.int .u64 (m : Nat)) ∧ Below w.heap.size w w' := by
  have l0 := Bt.msk_lt cs 0 n
  have l2 := Bt.msk_lt cs 2 n
  have h7 := (Bt.masks k h1 h2).2.2.2.2.2.2
  refine (i_without2 k _ _ _ w h1 h2 (by rw [← hn]; exact l0) (by rw [← hn]; exact l2) _ (Gw.same_msk hl 2)).mono ?_
  rintro e w' ⟨g, rfl, hgl, hg, hb⟩
  exact ⟨by rw [(Gw.nl_of h1 h2 hn hl hg (by omega)).one hm], hb⟩
end

section
variable (k n p : Nat) (cs : List Int) (su : Bool) (v0 v1 : Value)

theorem i_pl1 (hv : Bd.okB (k : Int) cs = true) (hl : cs.length = n) (hp : p < n) :
    ∃ R, Plays (k : Int) n cs 1 p su R ∧ ∀ w, Errs w v0 v1 → Calls Tryd.prog 49 #[.agg #[.int .i64 (k : Nat), .int .u64 (Bt.msk cs 0 n : Nat), .int .u64 (Bt.msk cs 1 n : Nat), .int .u64 (Bt.msk cs 2 n : Nat)], .int .i64 1, .int .i64 (p : Nat), .bool su] w fun e w' => PlI k n v0 v1 R e ∧ Below w.heap.size w w' := by
  obtain ⟨q1, q2, q3, q4⟩ := (Bd.okB_iff (k : Int) cs).1 hv
  have k1 : 1 ≤ k := by omega
  have k2 : k ≤ 7 := by omega
  have hn : n = k * k := by
    have : (n : Int) = ((k * k : Nat) : Int) := by rw [← hl]; push_cast; exact q3
    exact_mod_cast this
  have h7 := (Bt.masks k k1 k2).2.2.2.2.2.2
  have hsq := (Bt.sq_nat k k1 k2).2.1
  have hn49 : n ≤ 49 := by omega
  have lt64 : ∀ (l : List Int) (z : Int), Bt.msk l z n < 18446744073709551616 := fun l z => by
    have := Bt.msk_lt l z n
    rw [hn] at this ⊢; omega
  have hP64 : 2 ^ p < 18446744073709551616 := by
    have : 2 ^ p < 2 ^ 64 := Nat.pow_lt_pow_right (by decide) (by omega)
    omega
  have CO : Hid (∀ w, Calls Tryd.prog 70 #[.int .i64 (p : Nat)] w fun e w' => e = .returned (.int .u64 ((2 ^ p : Nat) : Nat)) ∧ w = w') := Lib.hid fun w => i_only p w (by omega)
  have T1 := bit_eq (Bt.msk cs 0 n) p (lt64 cs 0) (by omega)
  by_cases h0 : cs.getD p 0 = 0
  · have hl1 : (cs.set p 1).length = n := by rw [List.length_set]; exact hl
    obtain ⟨S, os, hr⟩ := RI.make (s := (k : Int)) (x := oth 1) hl1 n (Nat.le_refl _)
    have hx1 : oth 1 = 2 := by decide
    rw [hx1] at hr
    obtain ⟨m1, hm1⟩ := nl_make hr
    obtain ⟨S2, os2, hr2⟩ := RI.make (s := (k : Int)) (x := 1) hr.olen n (Nat.le_refl _)
    obtain ⟨m2, hm2⟩ := nl_make hr2
    have hm1l : m1 < 18446744073709551616 := by have := hm1.lt; rw [hn] at this; omega
    have hm2l : m2 < 18446744073709551616 := by have := hm2.lt; rw [hn] at this; omega
    have eP : (Bt.msk cs 0 n).testBit p = true := by rw [Bt.msk_bit]; simp only [Bool.and_eq_true, decide_eq_true_eq]; exact ⟨hp, h0⟩
    have eE1 := Gw.set_gone hl hp (x := 1) (z := 0) (by decide) (lt64 cs 0) (by omega)
    have eM1 := Gw.set_same hl hp (x := 1)
    have eO1 := Gw.set_other hl hp (x := 1) (z := 2) (by decide) (by rw [h0]; decide)
    have eE2 := hm1.empty hr
    have eO2 := hm1.own hr (by decide) (lt64 _ _) hm1l
    have eM2 := hm1.other hr (y := 1) (by decide) (by decide)
    have eE3 := hm2.empty hr2
    have eM3 := hm2.own hr2 (by decide) (lt64 _ _) hm2l
    have eO3 := hm2.other hr2 (y := 2) (by decide) (by decide)
    have CR1 : Hid (false = false → ∀ w, Calls Tryd.prog 76 #[.agg #[.int .i64 (k : Nat), .int .u64 (Bt.msk cs 0 n : Nat), .int .u64 (Bt.msk cs 1 n : Nat), .int .u64 (Bt.msk cs 2 n : Nat)], .int .u64 ((2 ^ p : Nat) : Nat), .int .i64 0, .int .i64 1] w fun e w' => e = .returned (.agg #[.int .i64 (k : Nat), .int .u64 (Bt.msk (cs.set p 1) 0 n : Nat), .int .u64 (Bt.msk (cs.set p 1) 1 n : Nat), .int .u64 (Bt.msk (cs.set p 1) 2 n : Nat)]) ∧ Below w.heap.size w w') := Lib.hid fun _ w => by
      rw [eE1, eM1, eO1]
      exact i_rec01 k _ _ _ _ w (lt64 _ _) (lt64 _ _) hP64
    have CW1 : Hid (false = false → ∀ w, Calls Tryd.prog 77 #[.agg #[.int .i64 (k : Nat), .int .u64 (Bt.msk (cs.set p 1) 0 n : Nat), .int .u64 (Bt.msk (cs.set p 1) 1 n : Nat), .int .u64 (Bt.msk (cs.set p 1) 2 n : Nat)], .int .i64 2] w fun e w' => e = .returned (.int .u64 (m1 : Nat)) ∧ Below w.heap.size w w') := Lib.hid fun _ w => i_wo2 k n (cs.set p 1) m1 w k1 k2 hn hl1 hm1
    have CR2 : Hid (false = false → ∀ w, Calls Tryd.prog 76 #[.agg #[.int .i64 (k : Nat), .int .u64 (Bt.msk (cs.set p 1) 0 n : Nat), .int .u64 (Bt.msk (cs.set p 1) 1 n : Nat), .int .u64 (Bt.msk (cs.set p 1) 2 n : Nat)], .int .u64 (m1 : Nat), .int .i64 2, .int .i64 0] w fun e w' => e = .returned (.agg #[.int .i64 (k : Nat), .int .u64 (Bt.msk os 0 n : Nat), .int .u64 (Bt.msk os 1 n : Nat), .int .u64 (Bt.msk os 2 n : Nat)]) ∧ Below w.heap.size w w') := Lib.hid fun _ w => by
      rw [eE2, eO2, eM2]
      exact i_rec20 k _ _ _ _ w (lt64 _ _) (lt64 _ _) hm1l
    have CW2 : Hid (false = false → ∀ w, Calls Tryd.prog 77 #[.agg #[.int .i64 (k : Nat), .int .u64 (Bt.msk os 0 n : Nat), .int .u64 (Bt.msk os 1 n : Nat), .int .u64 (Bt.msk os 2 n : Nat)], .int .i64 1] w fun e w' => e = .returned (.int .u64 (m2 : Nat)) ∧ Below w.heap.size w w') := Lib.hid fun _ w => i_wo1 k n os m2 w k1 k2 hn hr.olen hm2
    have CR3 : Hid (false = false → ∀ w, Calls Tryd.prog 76 #[.agg #[.int .i64 (k : Nat), .int .u64 (Bt.msk os 0 n : Nat), .int .u64 (Bt.msk os 1 n : Nat), .int .u64 (Bt.msk os 2 n : Nat)], .int .u64 (m2 : Nat), .int .i64 1, .int .i64 0] w fun e w' => e = .returned (.agg #[.int .i64 (k : Nat), .int .u64 (Bt.msk os2 0 n : Nat), .int .u64 (Bt.msk os2 1 n : Nat), .int .u64 (Bt.msk os2 2 n : Nat)]) ∧ Below w.heap.size w w') := Lib.hid fun _ w => by
      rw [eE3, eO3, eM3]
      exact i_rec10 k _ _ _ _ w (lt64 _ _) (lt64 _ _) hm2l
    have T2 := bit_eq m2 p hm2l (by omega)
    rw [eP] at T1
    have T3 : Hid (bits .or .u64 (m1 : Int) (m2 : Int) = ((m1 ||| m2 : Nat) : Int)) := Lib.hid (u64_or_nat _ _ hm1l hm2l)
    rw [eO1] at CR1 CW1 CR2
    rw [eM2] at CR2 CW2 CR3
    rw [eO3] at CR3
    have key := fun w hg => i_playA1 k p (2 ^ p) (Bt.msk cs 0 n) (Bt.msk cs 1 n) (Bt.msk cs 2 n) (Bt.msk (cs.set p 1) 0 n) (Bt.msk (cs.set p 1) 1 n) m1 (Bt.msk os 0 n) (Bt.msk os 2 n) m2 (Bt.msk os2 0 n) (Bt.msk os2 1 n) (m1 ||| m2) su w v0 v1 false (!m2.testBit p) CO CR1 CW1 CR2 CW2 CR3 (Lib.hid T1) (Lib.hid T2) T3 hg
    have eo : os.getD p 0 = 1 := own_at hl hr hp (by decide)
    by_cases hno : NoLib (k : Int) n os p
    · have hb : m2.testBit p = true := (hm2 p).2 ⟨hp, eo, hno⟩
      rw [hb] at key
      cases su
      · refine ⟨none, .lost S os h0 (by rw [hx1]; exact hr) hno rfl, fun w hg => (key w hg).mono ?_⟩
        rintro e w' ⟨rfl, hb⟩
        exact ⟨⟨v1, .inr rfl, rfl⟩, hb⟩
      · have hd : ∀ q, q < n → m1.testBit q = true → m2.testBit q = true → False := fun q hq a b => by
          have e1 := hr.out q hq
          rw [← hm1.marks hr q hq, a, if_pos rfl] at e1
          have e2 := ((hm2 q).1 b).2.1
          rw [e1] at e2
          exact absurd e2 (by decide)
        refine ⟨some (os2, Bt.pts (m1 ||| m2) n), .both S os S2 os2 _ _ h0 (by rw [hx1]; exact hr) hno rfl hr2 (by rw [← hm1.pts hr, ← hm2.pts hr2]; exact so_pts hd rfl) (by rw [← hm1.pts hr, ← hm2.pts hr2]), fun w hg => (key w hg).mono ?_⟩
        rintro e w' ⟨rfl, hb⟩
        exact ⟨⟨m1 ||| m2, Bt.or_lt hm1.lt hm2.lt, rfl, by rw [eO3]; rfl⟩, hb⟩
    · have hb : m2.testBit p = false := by
        rcases e : m2.testBit p with _ | _
        · rfl
        · exact absurd ((hm2 p).1 e).2.2 hno
      rw [hb] at key
      refine ⟨some (os, Fl.pts S n), .lives S os h0 (by rw [hx1]; exact hr) hno, fun w hg => (key w hg).mono ?_⟩
      rintro e w' ⟨rfl, hb⟩
      exact ⟨⟨m1, hm1.lt, hm1.pts hr, by rw [eM2]; rfl⟩, hb⟩
  · have eP : (Bt.msk cs 0 n).testBit p = false := by rw [Bt.msk_bit, decide_eq_false h0, Bool.and_false]
    rw [eP] at T1
    refine ⟨none, .taken h0, fun w hg => ?_⟩
    refine (i_playA1 k p (2 ^ p) (Bt.msk cs 0 n) (Bt.msk cs 1 n) (Bt.msk cs 2 n) 0 0 0 0 0 0 0 0 0 su w v0 v1 true true CO (Lib.hid fun e => by cases e) (Lib.hid fun e => by cases e) (Lib.hid fun e => by cases e) (Lib.hid fun e => by cases e) (Lib.hid fun e => by cases e) (Lib.hid T1) (Lib.hid (by rw [show bits .and .u64 ((0 : Nat) : Int) ((2 ^ p : Nat) : Int) = 0 by rw [u64_and_nat _ _ (by omega) hP64]; simp]; rfl)) (Lib.hid (by rfl)) hg).mono ?_
    rintro e w' ⟨rfl, hb⟩
    exact ⟨⟨v0, .inl rfl, rfl⟩, hb⟩

theorem i_pl2 (hv : Bd.okB (k : Int) cs = true) (hl : cs.length = n) (hp : p < n) :
    ∃ R, Plays (k : Int) n cs 2 p su R ∧ ∀ w, Errs w v0 v1 → Calls Tryd.prog 49 #[.agg #[.int .i64 (k : Nat), .int .u64 (Bt.msk cs 0 n : Nat), .int .u64 (Bt.msk cs 1 n : Nat), .int .u64 (Bt.msk cs 2 n : Nat)], .int .i64 2, .int .i64 (p : Nat), .bool su] w fun e w' => PlI k n v0 v1 R e ∧ Below w.heap.size w w' := by
  obtain ⟨q1, q2, q3, q4⟩ := (Bd.okB_iff (k : Int) cs).1 hv
  have k1 : 1 ≤ k := by omega
  have k2 : k ≤ 7 := by omega
  have hn : n = k * k := by
    have : (n : Int) = ((k * k : Nat) : Int) := by rw [← hl]; push_cast; exact q3
    exact_mod_cast this
  have h7 := (Bt.masks k k1 k2).2.2.2.2.2.2
  have hsq := (Bt.sq_nat k k1 k2).2.1
  have hn49 : n ≤ 49 := by omega
  have lt64 : ∀ (l : List Int) (z : Int), Bt.msk l z n < 18446744073709551616 := fun l z => by
    have := Bt.msk_lt l z n
    rw [hn] at this ⊢; omega
  have hP64 : 2 ^ p < 18446744073709551616 := by
    have : 2 ^ p < 2 ^ 64 := Nat.pow_lt_pow_right (by decide) (by omega)
    omega
  have CO : Hid (∀ w, Calls Tryd.prog 70 #[.int .i64 (p : Nat)] w fun e w' => e = .returned (.int .u64 ((2 ^ p : Nat) : Nat)) ∧ w = w') := Lib.hid fun w => i_only p w (by omega)
  have T1 := bit_eq (Bt.msk cs 0 n) p (lt64 cs 0) (by omega)
  by_cases h0 : cs.getD p 0 = 0
  · have hl1 : (cs.set p 2).length = n := by rw [List.length_set]; exact hl
    obtain ⟨S, os, hr⟩ := RI.make (s := (k : Int)) (x := oth 2) hl1 n (Nat.le_refl _)
    have hx1 : oth 2 = 1 := by decide
    rw [hx1] at hr
    obtain ⟨m1, hm1⟩ := nl_make hr
    obtain ⟨S2, os2, hr2⟩ := RI.make (s := (k : Int)) (x := 2) hr.olen n (Nat.le_refl _)
    obtain ⟨m2, hm2⟩ := nl_make hr2
    have hm1l : m1 < 18446744073709551616 := by have := hm1.lt; rw [hn] at this; omega
    have hm2l : m2 < 18446744073709551616 := by have := hm2.lt; rw [hn] at this; omega
    have eP : (Bt.msk cs 0 n).testBit p = true := by rw [Bt.msk_bit]; simp only [Bool.and_eq_true, decide_eq_true_eq]; exact ⟨hp, h0⟩
    have eE1 := Gw.set_gone hl hp (x := 2) (z := 0) (by decide) (lt64 cs 0) (by omega)
    have eM1 := Gw.set_same hl hp (x := 2)
    have eO1 := Gw.set_other hl hp (x := 2) (z := 1) (by decide) (by rw [h0]; decide)
    have eE2 := hm1.empty hr
    have eO2 := hm1.own hr (by decide) (lt64 _ _) hm1l
    have eM2 := hm1.other hr (y := 2) (by decide) (by decide)
    have eE3 := hm2.empty hr2
    have eM3 := hm2.own hr2 (by decide) (lt64 _ _) hm2l
    have eO3 := hm2.other hr2 (y := 1) (by decide) (by decide)
    have CR1 : Hid (false = false → ∀ w, Calls Tryd.prog 76 #[.agg #[.int .i64 (k : Nat), .int .u64 (Bt.msk cs 0 n : Nat), .int .u64 (Bt.msk cs 1 n : Nat), .int .u64 (Bt.msk cs 2 n : Nat)], .int .u64 ((2 ^ p : Nat) : Nat), .int .i64 0, .int .i64 2] w fun e w' => e = .returned (.agg #[.int .i64 (k : Nat), .int .u64 (Bt.msk (cs.set p 2) 0 n : Nat), .int .u64 (Bt.msk (cs.set p 2) 1 n : Nat), .int .u64 (Bt.msk (cs.set p 2) 2 n : Nat)]) ∧ Below w.heap.size w w') := Lib.hid fun _ w => by
      rw [eE1, eM1, eO1]
      exact i_rec02 k _ _ _ _ w (lt64 _ _) (lt64 _ _) hP64
    have CW1 : Hid (false = false → ∀ w, Calls Tryd.prog 77 #[.agg #[.int .i64 (k : Nat), .int .u64 (Bt.msk (cs.set p 2) 0 n : Nat), .int .u64 (Bt.msk (cs.set p 2) 1 n : Nat), .int .u64 (Bt.msk (cs.set p 2) 2 n : Nat)], .int .i64 1] w fun e w' => e = .returned (.int .u64 (m1 : Nat)) ∧ Below w.heap.size w w') := Lib.hid fun _ w => i_wo1 k n (cs.set p 2) m1 w k1 k2 hn hl1 hm1
    have CR2 : Hid (false = false → ∀ w, Calls Tryd.prog 76 #[.agg #[.int .i64 (k : Nat), .int .u64 (Bt.msk (cs.set p 2) 0 n : Nat), .int .u64 (Bt.msk (cs.set p 2) 1 n : Nat), .int .u64 (Bt.msk (cs.set p 2) 2 n : Nat)], .int .u64 (m1 : Nat), .int .i64 1, .int .i64 0] w fun e w' => e = .returned (.agg #[.int .i64 (k : Nat), .int .u64 (Bt.msk os 0 n : Nat), .int .u64 (Bt.msk os 1 n : Nat), .int .u64 (Bt.msk os 2 n : Nat)]) ∧ Below w.heap.size w w') := Lib.hid fun _ w => by
      rw [eE2, eO2, eM2]
      exact i_rec10 k _ _ _ _ w (lt64 _ _) (lt64 _ _) hm1l
    have CW2 : Hid (false = false → ∀ w, Calls Tryd.prog 77 #[.agg #[.int .i64 (k : Nat), .int .u64 (Bt.msk os 0 n : Nat), .int .u64 (Bt.msk os 1 n : Nat), .int .u64 (Bt.msk os 2 n : Nat)], .int .i64 2] w fun e w' => e = .returned (.int .u64 (m2 : Nat)) ∧ Below w.heap.size w w') := Lib.hid fun _ w => i_wo2 k n os m2 w k1 k2 hn hr.olen hm2
    have CR3 : Hid (false = false → ∀ w, Calls Tryd.prog 76 #[.agg #[.int .i64 (k : Nat), .int .u64 (Bt.msk os 0 n : Nat), .int .u64 (Bt.msk os 1 n : Nat), .int .u64 (Bt.msk os 2 n : Nat)], .int .u64 (m2 : Nat), .int .i64 2, .int .i64 0] w fun e w' => e = .returned (.agg #[.int .i64 (k : Nat), .int .u64 (Bt.msk os2 0 n : Nat), .int .u64 (Bt.msk os2 1 n : Nat), .int .u64 (Bt.msk os2 2 n : Nat)]) ∧ Below w.heap.size w w') := Lib.hid fun _ w => by
      rw [eE3, eO3, eM3]
      exact i_rec20 k _ _ _ _ w (lt64 _ _) (lt64 _ _) hm2l
    have T2 := bit_eq m2 p hm2l (by omega)
    rw [eP] at T1
    have T3 : Hid (bits .or .u64 (m1 : Int) (m2 : Int) = ((m1 ||| m2 : Nat) : Int)) := Lib.hid (u64_or_nat _ _ hm1l hm2l)
    rw [eO1] at CR1 CW1 CR2
    rw [eM2] at CR2 CW2 CR3
    rw [eO3] at CR3
    have key := fun w hg => i_playA2 k p (2 ^ p) (Bt.msk cs 0 n) (Bt.msk cs 2 n) (Bt.msk cs 1 n) (Bt.msk (cs.set p 2) 0 n) (Bt.msk (cs.set p 2) 2 n) m1 (Bt.msk os 0 n) (Bt.msk os 1 n) m2 (Bt.msk os2 0 n) (Bt.msk os2 2 n) (m1 ||| m2) su w v0 v1 false (!m2.testBit p) CO CR1 CW1 CR2 CW2 CR3 (Lib.hid T1) (Lib.hid T2) T3 hg
    have eo : os.getD p 0 = 2 := own_at hl hr hp (by decide)
    by_cases hno : NoLib (k : Int) n os p
    · have hb : m2.testBit p = true := (hm2 p).2 ⟨hp, eo, hno⟩
      rw [hb] at key
      cases su
      · refine ⟨none, .lost S os h0 (by rw [hx1]; exact hr) hno rfl, fun w hg => (key w hg).mono ?_⟩
        rintro e w' ⟨rfl, hb⟩
        exact ⟨⟨v1, .inr rfl, rfl⟩, hb⟩
      · have hd : ∀ q, q < n → m1.testBit q = true → m2.testBit q = true → False := fun q hq a b => by
          have e1 := hr.out q hq
          rw [← hm1.marks hr q hq, a, if_pos rfl] at e1
          have e2 := ((hm2 q).1 b).2.1
          rw [e1] at e2
          exact absurd e2 (by decide)
        refine ⟨some (os2, Bt.pts (m1 ||| m2) n), .both S os S2 os2 _ _ h0 (by rw [hx1]; exact hr) hno rfl hr2 (by rw [← hm1.pts hr, ← hm2.pts hr2]; exact so_pts hd rfl) (by rw [← hm1.pts hr, ← hm2.pts hr2]), fun w hg => (key w hg).mono ?_⟩
        rintro e w' ⟨rfl, hb⟩
        exact ⟨⟨m1 ||| m2, Bt.or_lt hm1.lt hm2.lt, rfl, by rw [eO3]; rfl⟩, hb⟩
    · have hb : m2.testBit p = false := by
        rcases e : m2.testBit p with _ | _
        · rfl
        · exact absurd ((hm2 p).1 e).2.2 hno
      rw [hb] at key
      refine ⟨some (os, Fl.pts S n), .lives S os h0 (by rw [hx1]; exact hr) hno, fun w hg => (key w hg).mono ?_⟩
      rintro e w' ⟨rfl, hb⟩
      exact ⟨⟨m1, hm1.lt, hm1.pts hr, by rw [eM2]; rfl⟩, hb⟩
  · have eP : (Bt.msk cs 0 n).testBit p = false := by rw [Bt.msk_bit, decide_eq_false h0, Bool.and_false]
    rw [eP] at T1
    refine ⟨none, .taken h0, fun w hg => ?_⟩
    refine (i_playA2 k p (2 ^ p) (Bt.msk cs 0 n) (Bt.msk cs 2 n) (Bt.msk cs 1 n) 0 0 0 0 0 0 0 0 0 su w v0 v1 true true CO (Lib.hid fun e => by cases e) (Lib.hid fun e => by cases e) (Lib.hid fun e => by cases e) (Lib.hid fun e => by cases e) (Lib.hid fun e => by cases e) (Lib.hid T1) (Lib.hid (by rw [show bits .and .u64 ((0 : Nat) : Int) ((2 ^ p : Nat) : Int) = 0 by rw [u64_and_nat _ _ (by omega) hP64]; simp]; rfl)) (Lib.hid (by rfl)) hg).mono ?_
    rintro e w' ⟨rfl, hb⟩
    exact ⟨⟨v0, .inl rfl, rfl⟩, hb⟩
end
end Go.Proofs.YtpogjegihhljpaaDoor

namespace Go.Proofs.YtpogjegihhljpaaDoor
set_option maxRecDepth 100000
open Go.RowKit

theorem own_cellD {w : World} {B g n c : Nat} {xs : List Int} (h : Own w B (some ⟨g, 0, none⟩) n c xs) (j : Nat) (hj : j < n) : w.cell? ⟨g, j, none⟩ = some (.int .i64 (xs.getD j 0)) := by
  rw [World.ownsRow.cellAt h.2 j (by omega)]
  simp [List.getD_eq_getElem?_getD, List.getElem?_eq_getElem (show j < xs.length by rw [h.1]; exact hj)]

namespace Bf
/-- The board where the colors below c and the points of l with the color c stand. -/
def fill (os : List Int) (c : Int) (l : List Int) : List Int := (List.range os.length).map fun q => if os.getD q 0 < c ∨ (os.getD q 0 = c ∧ (q : Int) ∈ l) then os.getD q 0 else 0
theorem len (os : List Int) (c : Int) (l : List Int) : (fill os c l).length = os.length := by simp [fill]
theorem at_ {os : List Int} {c : Int} {l : List Int} {q : Nat} (h : q < os.length) : (fill os c l).getD q 0 = if os.getD q 0 < c ∨ (os.getD q 0 = c ∧ (q : Int) ∈ l) then os.getD q 0 else 0 := by
  simp only [fill, List.getD_eq_getElem?_getD, List.getElem?_map, List.getElem?_range h, Option.map_some, Option.getD_some]
theorem ext {a b : List Int} (hl : a.length = b.length) (h : ∀ q, q < a.length → a.getD q 0 = b.getD q 0) : a = b := by
  refine List.ext_getElem hl fun i h1 h2 => ?_
  have := h i h1
  rwa [List.getD_eq_getElem?_getD, List.getD_eq_getElem?_getD, List.getElem?_eq_getElem h1, List.getElem?_eq_getElem h2] at this
theorem zero {os : List Int} (hok : ∀ c ∈ os, 0 ≤ c ∧ c ≤ 2) : fill os 0 [] = List.replicate os.length 0 := by
  refine ext (by rw [len, List.length_replicate]) fun q hq => ?_
  rw [len] at hq
  rw [at_ hq, List.getD_eq_getElem?_getD (l := List.replicate _ _), List.getElem?_replicate, if_pos hq]
  have := hok _ (List.getElem_mem hq)
  have e : os.getD q 0 = os[q] := by rw [List.getD_eq_getElem?_getD, List.getElem?_eq_getElem hq]; rfl
  rw [e, if_neg (by rintro (h | ⟨_, h⟩) <;> first | omega | cases h)]
  rfl
theorem all {os : List Int} (hok : ∀ c ∈ os, 0 ≤ c ∧ c ≤ 2) : fill os 3 [] = os := by
  refine ext (len _ _ _) fun q hq => ?_
  rw [len] at hq
  have := hok _ (List.getElem_mem hq)
  have e : os.getD q 0 = os[q] := by rw [List.getD_eq_getElem?_getD, List.getElem?_eq_getElem hq]; rfl
  rw [at_ hq, if_pos (.inl (by rw [e]; omega))]
theorem step {os L : List Int} {c : Int} {j q : Nat} (hq : q < os.length) (hc : os.getD q 0 = c) (hj : j < L.length) (he : L.getD j 0 = (q : Int)) : (fill os c (L.take j)).set q c = fill os c (L.take (j + 1)) := by
  refine ext (by rw [List.length_set, len, len]) fun p hp => ?_
  rw [List.length_set, len] at hp
  have e : L.take (j + 1) = L.take j ++ [(q : Int)] := by
    rw [List.take_succ_eq_append_getElem hj]
    rw [List.getD_eq_getElem?_getD, List.getElem?_eq_getElem hj] at he
    rw [show L[j] = (q : Int) from he]
  rw [Un.getD_set _ _ _ _ (by rw [len]; exact hq), at_ hp, at_ hp, e]
  by_cases epq : p = q
  · subst epq
    rw [if_pos rfl, if_pos (.inr ⟨hc, by simp⟩), hc]
  · have : ¬ (p : Int) = q := by omega
    rw [if_neg epq]
    simp [this]
theorem next {os L : List Int} {c : Int} (h : ∀ q, q < os.length → os.getD q 0 = c → (q : Int) ∈ L) : fill os c L = fill os (c + 1) [] := by
  refine ext (by rw [len, len]) fun p hp => ?_
  rw [len] at hp
  rw [at_ hp, at_ hp]
  by_cases e : os.getD p 0 < c + 1
  · by_cases e2 : os.getD p 0 < c
    · exact (if_pos (.inl e2)).trans (if_pos (.inl e)).symm
    · have e3 : os.getD p 0 = c := by omega
      exact (if_pos (.inr ⟨e3, h p hp e3⟩)).trans (if_pos (.inl e)).symm
  · exact (if_neg (by rintro (h | ⟨h, _⟩) <;> omega)).trans (if_neg (by rintro (h | ⟨_, h⟩) <;> first | omega | cases h)).symm
end Bf

/-- The points of a color, as the list of a set. -/
theorem col_list {os : List Int} {n : Nat} (hl : os.length = n) (hn : n ≤ 49) (c : Int) : (Bt.pts (Bt.msk os c n) 64).length ≤ 64 ∧ (∀ j, j < (Bt.pts (Bt.msk os c n) 64).length → ∃ q : Nat, (Bt.pts (Bt.msk os c n) 64).getD j 0 = (q : Int) ∧ q < n ∧ os.getD q 0 = c) ∧ ∀ q, q < os.length → os.getD q 0 = c → (q : Int) ∈ Bt.pts (Bt.msk os c n) 64 := by
  refine ⟨Bt.pts_len _ _, fun j hj => ?_, fun q hq hc => Bt.pts_mem.2 ⟨q, rfl, by omega, by rw [Bt.msk_bit, decide_eq_true (by omega : q < n), decide_eq_true hc]; rfl⟩⟩
  have hm : (Bt.pts (Bt.msk os c n) 64).getD j 0 ∈ Bt.pts (Bt.msk os c n) 64 := by rw [List.getD_eq_getElem?_getD, List.getElem?_eq_getElem hj]; exact List.getElem_mem _
  obtain ⟨q, e1, _, e3⟩ := Bt.pts_mem.1 hm
  rw [Bt.msk_bit, Bool.and_eq_true, decide_eq_true_eq, decide_eq_true_eq] at e3
  exact ⟨q, e1, e3.1, e3.2⟩

set_option maxRecDepth 100000 in
set_option maxHeartbeats 8000000 in
theorem i_board (k n : Nat) (os : List Int) (w : World) (ht : Tab w) (k1 : 1 ≤ k) (k2 : k ≤ 7) (hn : n = k * k) (hl : os.length = n) (hok : ∀ c ∈ os, 0 ≤ c ∧ c ≤ 2) :
    Calls Tryd.prog 50 #[.agg #[.int .i64 (k : Nat), .int .u64 (Bt.msk os 0 n : Nat), .int .u64 (Bt.msk os 1 n : Nat), .int .u64 (Bt.msk os 2 n : Nat)]] w fun e w' => ∃ A c, e = .returned (.agg #[.int .i64 (k : Nat), .slice A n c]) ∧ Own w' w.heap.size A n c os ∧ Below w.heap.size w w' := by
  have h7 := (Bt.masks k k1 k2).2.2.2.2.2.2
  have hsq := (Bt.sq_nat k k1 k2).2.1
  have hsq1 := (Bt.sq_nat k k1 k2).1
  have hn49 : n ≤ 49 := by omega
  have hn1 : 1 ≤ n := by omega
  have lt64 : ∀ (z : Int), Bt.msk os z n < 18446744073709551616 := fun z => by
    have := Bt.msk_lt os z n
    rw [hn] at this ⊢; omega
  obtain ⟨E0, hE0⟩ : ∃ E, Bt.msk os 0 n = E := ⟨_, rfl⟩
  obtain ⟨L0, hL0⟩ : ∃ L, Bt.pts E0 64 = L := ⟨_, rfl⟩
  have cl0 := col_list hl hn49 0
  rw [hE0, hL0] at cl0
  have C0 : Hid (∀ w, Tab w → Calls Tryd.prog 51 #[.int .u64 (E0 : Nat)] w fun e w' => ∃ A n c, e = .returned (.slice A n c) ∧ Own w' w.heap.size A n c L0 ∧ Below w.heap.size w w') := Lib.hid fun w ht => by rw [← hL0]; exact i_list E0 w ht (by rw [← hE0]; exact lt64 0)
  have Ln0 := Lib.hid cl0.1
  have Lp0 := Lib.hid cl0.2.1
  have Lf0 := Lib.hid cl0.2.2
  rw [hE0]
  clear cl0 hL0 hE0
  obtain ⟨E1, hE1⟩ : ∃ E, Bt.msk os 1 n = E := ⟨_, rfl⟩
  obtain ⟨L1, hL1⟩ : ∃ L, Bt.pts E1 64 = L := ⟨_, rfl⟩
  have cl1 := col_list hl hn49 1
  rw [hE1, hL1] at cl1
  have C1 : Hid (∀ w, Tab w → Calls Tryd.prog 51 #[.int .u64 (E1 : Nat)] w fun e w' => ∃ A n c, e = .returned (.slice A n c) ∧ Own w' w.heap.size A n c L1 ∧ Below w.heap.size w w') := Lib.hid fun w ht => by rw [← hL1]; exact i_list E1 w ht (by rw [← hE1]; exact lt64 1)
  have Ln1 := Lib.hid cl1.1
  have Lp1 := Lib.hid cl1.2.1
  have Lf1 := Lib.hid cl1.2.2
  rw [hE1]
  clear cl1 hL1 hE1
  obtain ⟨E2, hE2⟩ : ∃ E, Bt.msk os 2 n = E := ⟨_, rfl⟩
  obtain ⟨L2, hL2⟩ : ∃ L, Bt.pts E2 64 = L := ⟨_, rfl⟩
  have cl2 := col_list hl hn49 2
  rw [hE2, hL2] at cl2
  have C2 : Hid (∀ w, Tab w → Calls Tryd.prog 51 #[.int .u64 (E2 : Nat)] w fun e w' => ∃ A n c, e = .returned (.slice A n c) ∧ Own w' w.heap.size A n c L2 ∧ Below w.heap.size w w') := Lib.hid fun w ht => by rw [← hL2]; exact i_list E2 w ht (by rw [← hE2]; exact lt64 2)
  have Ln2 := Lib.hid cl2.1
  have Lp2 := Lib.hid cl2.2.1
  have Lf2 := Lib.hid cl2.2.2
  rw [hE2]
  clear cl2 hL2 hE2
  have hnew : newS (k : Int) = (k : Int) ∧ newCs (k : Int) = Bf.fill os 0 [] := by
    have : Pt.okS (k : Int) = true := (Pt.okS_iff _).2 ⟨by omega, by omega⟩
    refine ⟨by rw [newS, if_pos this], ?_⟩
    rw [newCs, if_pos this, Bf.zero hok, hl, hn]
    congr 1
  have CN : Hid (∀ w, Calls Tryd.prog 78 #[.int .i64 (k : Nat)] w fun e w' => Made (k : Int) (Bf.fill os 0 []) w e w') := Lib.hid fun w => by
    have := i_new (k : Int) w
    rw [hnew.1, hnew.2] at this
    exact this
  have HA := Lib.hid (Bf.all hok)
  have HF := Lib.hid (Bf.len os 0 [])
  have Hl := Lib.hid hl
  have HT := Lib.hid ht
  have e1 : (w.alloc (.cells #[.int .i64 (k : Nat), .int .u64 (E0 : Nat), .int .u64 (E1 : Nat), .int .u64 (E2 : Nat)] 67)).heap.size = w.heap.size + 1 := by simp
  have p0 := (Px.new w (k : Nat) E0 E1 E2).step ((Below.refl (w.alloc (.cells #[.int .i64 (k : Nat), .int .u64 (E0 : Nat), .int .u64 (E1 : Nat), .int .u64 (E2 : Nat)] 67)).heap.size (w.alloc (.cells #[.int .i64 (k : Nat), .int .u64 (E0 : Nat), .int .u64 (E1 : Nat), .int .u64 (E2 : Nat)] 67))).alloc (Nat.le_refl _) (.cells #[.int .i64 0, .slice none 0 0] 25))
  have p1 := Bx.new 25 (w.alloc (.cells #[.int .i64 (k : Nat), .int .u64 (E0 : Nat), .int .u64 (E1 : Nat), .int .u64 (E2 : Nat)] 67)) 0 (.slice none 0 0)
  have hb2 : Below w.heap.size w ((w.alloc (.cells #[.int .i64 (k : Nat), .int .u64 (E0 : Nat), .int .u64 (E1 : Nat), .int .u64 (E2 : Nat)] 67)).alloc (.cells #[.int .i64 0, .slice none 0 0] 25)) := ((Below.refl _ _).alloc (Nat.le_refl _) _).alloc (by simp) _
  rw [e1] at p1
  obtain ⟨y, hy⟩ : ∃ y, y = (w.alloc (.cells #[.int .i64 (k : Nat), .int .u64 (E0 : Nat), .int .u64 (E1 : Nat), .int .u64 (E2 : Nat)] 67)).alloc (.cells #[.int .i64 0, .slice none 0 0] 25) := ⟨_, rfl⟩
  have P0 : Hid (Px y w.heap.size (k : Nat) E0 E1 E2) := Lib.hid (by rw [hy]; exact p0)
  have X1 : Hid (Bx 25 y (w.heap.size + 1) 0 (.slice none 0 0)) := Lib.hid (by rw [hy]; exact p1)
  have Hb : Hid (Below w.heap.size w y) := Lib.hid (by rw [hy]; exact hb2)
  have Hyz : Hid (w.heap.size + 1 < y.heap.size) := Lib.hid X1.out.lt
  clear e1 p0 p1 hb2 ht hok hnew lt64 h7 hn hl hsq hsq1
  go_enter Tryd.func50, Tryd.ntmps50
  go_upto_region 1 with (fail)
  rw [← hy]
  clear hy
  have c0 := P0.out.c0
  have hz := P0.out.lt
  go_wp2_with fail
  refine (CN.out _).mono ?_
  rintro e y2 ⟨A, n', cap, rfl, ho, hb⟩
  have hn' : n = n' := by have := ho.1; have := HF.out; have := Hl.out; omega
  cases hn'
  obtain ⟨g, cap', hv, hg, hlt⟩ := World.ownsRow.form ho.2 (by omega)
  obtain rfl : A = some ⟨g, 0, none⟩ := by injection hv
  have P0 := Lib.hid (P0.out.step hb)
  have X1 := Lib.hid (X1.out.below hb X1.out.lt)
  have Hb := Lib.hid (Hb.out.trans (hb.mono Hb.out.size))
  have Hg0 := Lib.hid (ho.ge rfl).1
  have Hg1 := Lib.hid (ho.ge rfl).2
  have Ho := Lib.hid ho
  clear hb ho c0 hz hv hg hlt
  go_upto_region 2 with (fail)
  obtain ⟨y3, hy3, hb3, z3, z4⟩ := new_box y2 (.cells #[.int .i64 (k : Nat), .slice (some ⟨g, 0, none⟩) n cap] 25)
  have X3 : Hid (Bx 25 y3 y2.heap.size (k : Nat) (.slice (some ⟨g, 0, none⟩) n cap)) := Lib.hid (by rw [hy3]; exact Bx.new _ _ _ _)
  rw [← hy3]
  clear hy3
  have P0 := Lib.hid (P0.out.step hb3)
  have X1 := Lib.hid (X1.out.below hb3 X1.out.lt)
  have Hb := Lib.hid (Hb.out.trans (hb3.mono Hb.out.size))
  have Ho := Lib.hid (Ho.out.below hb3)
  clear hb3
  have c1 := P0.out.c1
  have c2 := P0.out.c2
  have c3 := P0.out.c3
  have hz := P0.out.lt
  go_wp2_with fail
  clear c1 c2 c3 hz P0
  go_loopw [13] (fun v wr => ∃ c : Nat, c ≤ 3 ∧ v = .int .i64 (c : Nat) ∧ Own wr y.heap.size (some ⟨g, 0, none⟩) n cap (Bf.fill os c []) ∧ Bx 25 wr y2.heap.size (k : Nat) (.slice (some ⟨g, 0, none⟩) n cap) ∧ Bx 25 wr (w.heap.size + 1) 0 (.slice none 0 0) ∧ Below w.heap.size w wr) (fun v _ => 3 - (intOf v).toNat)
  case atStart => exact ⟨0, by omega, rfl, Ho.out, X3.out, X1.out, Hb.out⟩
  case round =>
    clear Ho X3 X1 Hb
    obtain ⟨c, hc, rfl, ho, x3, x1, hb⟩ := hrel
    have Ho := Lib.hid ho
    have Ho0g : g < wr.heap.size := (ho.ge rfl).2
    have X3 := Lib.hid x3
    have X1 := Lib.hid x1
    have Hb := Lib.hid hb
    have HTr := Lib.hid (HT.out.below hb)
    clear ho x3 x1 hb
    have hc4 : c = 0 ∨ c = 1 ∨ c = 2 ∨ c = 3 := by omega
    have i0 : ∀ w, (Instr.index 65 (.agg #[.int .u64 (E0 : Nat), .int .u64 (E1 : Nat), .int .u64 (E2 : Nat)]) (.int .i64 0)).run Tryd.prog w = .ok (.int .u64 (E0 : Nat)) w := fun _ => by first | rfl | kernel_rfl
    have i1 : ∀ w, (Instr.index 65 (.agg #[.int .u64 (E0 : Nat), .int .u64 (E1 : Nat), .int .u64 (E2 : Nat)]) (.int .i64 1)).run Tryd.prog w = .ok (.int .u64 (E1 : Nat)) w := fun _ => by first | rfl | kernel_rfl
    have i2 : ∀ w, (Instr.index 65 (.agg #[.int .u64 (E0 : Nat), .int .u64 (E1 : Nat), .int .u64 (E2 : Nat)]) (.int .i64 2)).run Tryd.prog w = .ok (.int .u64 (E2 : Nat)) w := fun _ => by first | rfl | kernel_rfl
    rcases hc4 with rfl | rfl | rfl | rfl
    · go_wp2_with fail
      refine (C0.out _ HTr.out).mono ?_
      rintro e y4 ⟨A2, m, c2, rfl, ho2, hb⟩
      have Ho := Lib.hid (Ho.out.below hb)
      have X3 := Lib.hid (X3.out.below hb X3.out.lt)
      have X1 := Lib.hid (X1.out.below hb X1.out.lt)
      have Hb := Lib.hid (Hb.out.trans (hb.mono Hb.out.size))
      have Hg2 := Lib.hid (fun g' (e : A2 = some ⟨g', 0, none⟩) => (ho2.ge e).1)
      have Hgr := Lib.hid (Ho0g)
      have hm := ho2.1
      have Hm := Lib.hid hm
      have hm64 : m ≤ 64 := by have := Ln0.out; omega
      have Ho2 := Lib.hid ho2
      clear hb ho2 hm
      go_wp2_with fail
      go_loopw [20] (fun i wz => ∃ j : Nat, j ≤ m ∧ i = .int .i64 (j : Nat) ∧ Own wz y.heap.size (some ⟨g, 0, none⟩) n cap (Bf.fill os 0 (L0.take j)) ∧ Own wz wr.heap.size A2 m c2 L0 ∧ Bx 25 wz y2.heap.size (k : Nat) (.slice (some ⟨g, 0, none⟩) n cap) ∧ Bx 25 wz (w.heap.size + 1) 0 (.slice none 0 0) ∧ Below w.heap.size w wz) (fun i _ => m - (intOf i).toNat)
      case atStart => exact ⟨0, by omega, rfl, by rw [List.take_zero]; exact Ho.out, Ho2.out, X3.out, X1.out, Hb.out⟩
      case round =>
        clear Ho Ho2 X3 X1 Hb
        obtain ⟨j, hj, rfl, ho, ho2, x3, x1, hb⟩ := hrel
        have Ho := Lib.hid ho
        have Ho2 := Lib.hid ho2
        have X3 := Lib.hid x3
        have X1 := Lib.hid x1
        have Hb := Lib.hid hb
        have a0 := x3.cell0
        have a1 := x3.cell1
        have a2 := x3.lt
        clear ho ho2 x3 x1 hb
        by_cases hjm : j < m
        · have hjI : (j : Int) < m := by omega
          obtain ⟨q, hq, hqn, hqc⟩ := Lp0.out j (by rw [Hm.out]; exact hjm)
          obtain ⟨g2, cap2, hv2, hg2, hlt2⟩ := World.ownsRow.form Ho2.out.2 (by omega)
          obtain rfl : A2 = some ⟨g2, 0, none⟩ := by injection hv2
          have ck := own_cellD Ho2.out j hjm
          rw [hq] at ck
          have hne2 : g2 ≠ g := by have := Hg2.out g2 rfl; have := Hgr.out; omega
          have hqI : (q : Int) < n := by omega
          have dk := own_cellD Ho.out q hqn
          have fk := World.ownsRow.frozenAt Ho.out.2 q
          have hst := Ho.out.stored q 0
          have hf : (Bf.fill os 0 (L0.take j)).set q 0 = Bf.fill os 0 (L0.take (j + 1)) := Bf.step (by rw [Hl.out]; exact hqn) hqc (by rw [Hm.out]; exact hjm) hq
          rw [hf] at hst
          have Hs := Lib.hid hst.1
          have Ho2' := Lib.hid (Ho2.out.far ⟨g, q, none⟩ (fun g' e => by obtain rfl : g2 = g' := by injection (Option.some.inj e); ; exact hne2) (.int .i64 0))
          have X3' := Lib.hid (X3.out.far (p := ⟨g, q, none⟩) (by show y2.heap.size ≠ g; have := Hg1.out; omega) (.int .i64 0))
          have X1' := Lib.hid (X1.out.far (p := ⟨g, q, none⟩) (by show w.heap.size + 1 ≠ g; have := Hg0.out; have := Hyz.out; omega) (.int .i64 0))
          have Hb' := Lib.hid (Hb.out.setCell (p := ⟨g, q, none⟩) (by show w.heap.size ≤ g; have := Hg0.out; have := Hyz.out; omega) (.int .i64 0))
          clear hst hf hq hqc hv2 hg2 hlt2
          go_wp2_with fail
          go_roundw
          case rel => exact ⟨j + 1, by omega, by go_num, Hs.out, Ho2'.out, X3'.out, X1'.out, Hb'.out⟩
          case measure => simp [intOf]; omega
        · have hjm' : j = m := by omega
          have hfull : L0.take j = L0 := List.take_of_length_le (by rw [Hm.out]; omega)
          have Hn := Lib.hid (show Own wr y.heap.size (some ⟨g, 0, none⟩) n cap (Bf.fill os (0 + 1) []) by rw [← Bf.next Lf0.out, ← hfull]; exact Ho.out)
          clear hfull hjm'
          go_wp2_with fail
          go_roundw
          case rel => exact ⟨0 + 1, by omega, by go_num, Hn.out, X3.out, X1.out, Hb.out⟩
          case measure => simp [intOf]
    · go_wp2_with fail
      refine (C1.out _ HTr.out).mono ?_
      rintro e y4 ⟨A2, m, c2, rfl, ho2, hb⟩
      have Ho := Lib.hid (Ho.out.below hb)
      have X3 := Lib.hid (X3.out.below hb X3.out.lt)
      have X1 := Lib.hid (X1.out.below hb X1.out.lt)
      have Hb := Lib.hid (Hb.out.trans (hb.mono Hb.out.size))
      have Hg2 := Lib.hid (fun g' (e : A2 = some ⟨g', 0, none⟩) => (ho2.ge e).1)
      have Hgr := Lib.hid (Ho0g)
      have hm := ho2.1
      have Hm := Lib.hid hm
      have hm64 : m ≤ 64 := by have := Ln1.out; omega
      have Ho2 := Lib.hid ho2
      clear hb ho2 hm
      go_wp2_with fail
      go_loopw [20] (fun i wz => ∃ j : Nat, j ≤ m ∧ i = .int .i64 (j : Nat) ∧ Own wz y.heap.size (some ⟨g, 0, none⟩) n cap (Bf.fill os 1 (L1.take j)) ∧ Own wz wr.heap.size A2 m c2 L1 ∧ Bx 25 wz y2.heap.size (k : Nat) (.slice (some ⟨g, 0, none⟩) n cap) ∧ Bx 25 wz (w.heap.size + 1) 0 (.slice none 0 0) ∧ Below w.heap.size w wz) (fun i _ => m - (intOf i).toNat)
      case atStart => exact ⟨0, by omega, rfl, by rw [List.take_zero]; exact Ho.out, Ho2.out, X3.out, X1.out, Hb.out⟩
      case round =>
        clear Ho Ho2 X3 X1 Hb
        obtain ⟨j, hj, rfl, ho, ho2, x3, x1, hb⟩ := hrel
        have Ho := Lib.hid ho
        have Ho2 := Lib.hid ho2
        have X3 := Lib.hid x3
        have X1 := Lib.hid x1
        have Hb := Lib.hid hb
        have a0 := x3.cell0
        have a1 := x3.cell1
        have a2 := x3.lt
        clear ho ho2 x3 x1 hb
        by_cases hjm : j < m
        · have hjI : (j : Int) < m := by omega
          obtain ⟨q, hq, hqn, hqc⟩ := Lp1.out j (by rw [Hm.out]; exact hjm)
          obtain ⟨g2, cap2, hv2, hg2, hlt2⟩ := World.ownsRow.form Ho2.out.2 (by omega)
          obtain rfl : A2 = some ⟨g2, 0, none⟩ := by injection hv2
          have ck := own_cellD Ho2.out j hjm
          rw [hq] at ck
          have hne2 : g2 ≠ g := by have := Hg2.out g2 rfl; have := Hgr.out; omega
          have hqI : (q : Int) < n := by omega
          have dk := own_cellD Ho.out q hqn
          have fk := World.ownsRow.frozenAt Ho.out.2 q
          have hst := Ho.out.stored q 1
          have hf : (Bf.fill os 1 (L1.take j)).set q 1 = Bf.fill os 1 (L1.take (j + 1)) := Bf.step (by rw [Hl.out]; exact hqn) hqc (by rw [Hm.out]; exact hjm) hq
          rw [hf] at hst
          have Hs := Lib.hid hst.1
          have Ho2' := Lib.hid (Ho2.out.far ⟨g, q, none⟩ (fun g' e => by obtain rfl : g2 = g' := by injection (Option.some.inj e); ; exact hne2) (.int .i64 1))
          have X3' := Lib.hid (X3.out.far (p := ⟨g, q, none⟩) (by show y2.heap.size ≠ g; have := Hg1.out; omega) (.int .i64 1))
          have X1' := Lib.hid (X1.out.far (p := ⟨g, q, none⟩) (by show w.heap.size + 1 ≠ g; have := Hg0.out; have := Hyz.out; omega) (.int .i64 1))
          have Hb' := Lib.hid (Hb.out.setCell (p := ⟨g, q, none⟩) (by show w.heap.size ≤ g; have := Hg0.out; have := Hyz.out; omega) (.int .i64 1))
          clear hst hf hq hqc hv2 hg2 hlt2
          go_wp2_with fail
          go_roundw
          case rel => exact ⟨j + 1, by omega, by go_num, Hs.out, Ho2'.out, X3'.out, X1'.out, Hb'.out⟩
          case measure => simp [intOf]; omega
        · have hjm' : j = m := by omega
          have hfull : L1.take j = L1 := List.take_of_length_le (by rw [Hm.out]; omega)
          have Hn := Lib.hid (show Own wr y.heap.size (some ⟨g, 0, none⟩) n cap (Bf.fill os (1 + 1) []) by rw [← Bf.next Lf1.out, ← hfull]; exact Ho.out)
          clear hfull hjm'
          go_wp2_with fail
          go_roundw
          case rel => exact ⟨1 + 1, by omega, by go_num, Hn.out, X3.out, X1.out, Hb.out⟩
          case measure => simp [intOf]
    · go_wp2_with fail
      refine (C2.out _ HTr.out).mono ?_
      rintro e y4 ⟨A2, m, c2, rfl, ho2, hb⟩
      have Ho := Lib.hid (Ho.out.below hb)
      have X3 := Lib.hid (X3.out.below hb X3.out.lt)
      have X1 := Lib.hid (X1.out.below hb X1.out.lt)
      have Hb := Lib.hid (Hb.out.trans (hb.mono Hb.out.size))
      have Hg2 := Lib.hid (fun g' (e : A2 = some ⟨g', 0, none⟩) => (ho2.ge e).1)
      have Hgr := Lib.hid (Ho0g)
      have hm := ho2.1
      have Hm := Lib.hid hm
      have hm64 : m ≤ 64 := by have := Ln2.out; omega
      have Ho2 := Lib.hid ho2
      clear hb ho2 hm
      go_wp2_with fail
      go_loopw [20] (fun i wz => ∃ j : Nat, j ≤ m ∧ i = .int .i64 (j : Nat) ∧ Own wz y.heap.size (some ⟨g, 0, none⟩) n cap (Bf.fill os 2 (L2.take j)) ∧ Own wz wr.heap.size A2 m c2 L2 ∧ Bx 25 wz y2.heap.size (k : Nat) (.slice (some ⟨g, 0, none⟩) n cap) ∧ Bx 25 wz (w.heap.size + 1) 0 (.slice none 0 0) ∧ Below w.heap.size w wz) (fun i _ => m - (intOf i).toNat)
      case atStart => exact ⟨0, by omega, rfl, by rw [List.take_zero]; exact Ho.out, Ho2.out, X3.out, X1.out, Hb.out⟩
      case round =>
        clear Ho Ho2 X3 X1 Hb
        obtain ⟨j, hj, rfl, ho, ho2, x3, x1, hb⟩ := hrel
        have Ho := Lib.hid ho
        have Ho2 := Lib.hid ho2
        have X3 := Lib.hid x3
        have X1 := Lib.hid x1
        have Hb := Lib.hid hb
        have a0 := x3.cell0
        have a1 := x3.cell1
        have a2 := x3.lt
        clear ho ho2 x3 x1 hb
        by_cases hjm : j < m
        · have hjI : (j : Int) < m := by omega
          obtain ⟨q, hq, hqn, hqc⟩ := Lp2.out j (by rw [Hm.out]; exact hjm)
          obtain ⟨g2, cap2, hv2, hg2, hlt2⟩ := World.ownsRow.form Ho2.out.2 (by omega)
          obtain rfl : A2 = some ⟨g2, 0, none⟩ := by injection hv2
          have ck := own_cellD Ho2.out j hjm
          rw [hq] at ck
          have hne2 : g2 ≠ g := by have := Hg2.out g2 rfl; have := Hgr.out; omega
          have hqI : (q : Int) < n := by omega
          have dk := own_cellD Ho.out q hqn
          have fk := World.ownsRow.frozenAt Ho.out.2 q
          have hst := Ho.out.stored q 2
          have hf : (Bf.fill os 2 (L2.take j)).set q 2 = Bf.fill os 2 (L2.take (j + 1)) := Bf.step (by rw [Hl.out]; exact hqn) hqc (by rw [Hm.out]; exact hjm) hq
          rw [hf] at hst
          have Hs := Lib.hid hst.1
          have Ho2' := Lib.hid (Ho2.out.far ⟨g, q, none⟩ (fun g' e => by obtain rfl : g2 = g' := by injection (Option.some.inj e); ; exact hne2) (.int .i64 2))
          have X3' := Lib.hid (X3.out.far (p := ⟨g, q, none⟩) (by show y2.heap.size ≠ g; have := Hg1.out; omega) (.int .i64 2))
          have X1' := Lib.hid (X1.out.far (p := ⟨g, q, none⟩) (by show w.heap.size + 1 ≠ g; have := Hg0.out; have := Hyz.out; omega) (.int .i64 2))
          have Hb' := Lib.hid (Hb.out.setCell (p := ⟨g, q, none⟩) (by show w.heap.size ≤ g; have := Hg0.out; have := Hyz.out; omega) (.int .i64 2))
          clear hst hf hq hqc hv2 hg2 hlt2
          go_wp2_with fail
          go_roundw
          case rel => exact ⟨j + 1, by omega, by go_num, Hs.out, Ho2'.out, X3'.out, X1'.out, Hb'.out⟩
          case measure => simp [intOf]; omega
        · have hjm' : j = m := by omega
          have hfull : L2.take j = L2 := List.take_of_length_le (by rw [Hm.out]; omega)
          have Hn := Lib.hid (show Own wr y.heap.size (some ⟨g, 0, none⟩) n cap (Bf.fill os (2 + 1) []) by rw [← Bf.next Lf2.out, ← hfull]; exact Ho.out)
          clear hfull hjm'
          go_wp2_with fail
          go_roundw
          case rel => exact ⟨2 + 1, by omega, by go_num, Hn.out, X3.out, X1.out, Hb.out⟩
          case measure => simp [intOf]
    · have Hf : Hid (Own wr y.heap.size (some ⟨g, 0, none⟩) n cap os) := Lib.hid (by have := Ho.out; rw [show ((3 : Nat) : Int) = 3 from rfl, HA.out] at this; exact this)
      have a0 := X3.out.cell0
      have a1 := X3.out.cell1
      have a2 := X3.out.lt
      have r0 := X1.out.cell0
      have r1 := X1.out.cell1
      have r2 := X1.out.frozen 0
      have r3 := X1.out.frozen 1
      have r4 := X1.out.lt
      have K0 := Lib.hid ((X1.out.set0 (k : Nat)).cell0)
      have K1 := Lib.hid (((X1.out.set0 (k : Nat)).set1 (.slice (some ⟨g, 0, none⟩) n cap)).cell1)
      have Hf2 := Lib.hid ((Hf.out.far ⟨w.heap.size + 1, 0, none⟩ (fun g' e => by have := (Hf.out.ge e).1; have := Hyz.out; show g' ≠ w.heap.size + 1; omega) (.int .i64 (k : Nat))).far ⟨w.heap.size + 1, 1, none⟩ (fun g' e => by have := (Hf.out.ge e).1; have := Hyz.out; show g' ≠ w.heap.size + 1; omega) (.slice (some ⟨g, 0, none⟩) n cap))
      have Hb3 := Lib.hid ((Hb.out.setCell (p := ⟨w.heap.size + 1, 0, none⟩) (by show w.heap.size ≤ w.heap.size + 1; omega) (.int .i64 (k : Nat))).setCell (p := ⟨w.heap.size + 1, 1, none⟩) (by show w.heap.size ≤ w.heap.size + 1; omega) (.slice (some ⟨g, 0, none⟩) n cap))
      go_wp2_with fail
      have k0 := K0.out
      have k1' := K1.out
      refine bodyPost_ret (v := .agg #[.int .i64 (k : Nat), .slice (some ⟨g, 0, none⟩) n cap]) (by simp [results, Tryd.results50, go_sem, k0, k1']) rfl ?_
      exact ⟨_, _, rfl, Hf2.out.weaken (by have := Hyz.out; omega), Hb3.out⟩
end Go.Proofs.YtpogjegihhljpaaDoor

namespace Go.Proofs.YtpogjegihhljpaaDoor
set_option maxRecDepth 100000
open Go.RowKit

/-- What a placed stone leads to, at every argument. -/
def PlB (s : Int) (n : Nat) (cs : List Int) (x p : Int) (su : Bool) (R : Option (List Int × List Int)) : Prop :=
  if Bd.okB s cs = true ∧ (1 ≤ x ∧ x ≤ 2) ∧ Pt.okP s p = true then Plays s n cs x p.toNat su R else R = none
def ErrW (w : World) : Prop := ∃ a0 a1 : Addr, Errs w (.iface 122 (.pointer (some a0))) (.iface 122 (.pointer (some a1)))
theorem ErrW.below {w w' : World} (h : ErrW w) (hb : Below w.heap.size w w') : ErrW w' := by
  obtain ⟨a0, a1, h⟩ := h
  exact ⟨a0, a1, h.below hb⟩
/-- The answer in memory; the list lies behind the board's row. -/
def Answ (s : Int) (n : Nat) (R : Option (List Int × List Int)) (w : World) (e : Ending) (w' : World) : Prop :=
  (R = none ∧ e = .returned (.tuple #[.agg #[.int .i64 0, .slice none 0 0], .slice none 0 0, .bool false]) ∧ Below w.heap.size w w') ∨
  ∃ os gs A1 c1 A2 n2 c2 mid, R = some (os, gs) ∧ e = .returned (.tuple #[.agg #[.int .i64 s, .slice A1 n c1], .slice A2 n2 c2, .bool true]) ∧ Own w' w.heap.size A1 n c1 os ∧ (∀ g, A1 = some ⟨g, 0, none⟩ → g < mid) ∧ Own w' mid A2 n2 c2 gs ∧ w.heap.size ≤ mid ∧ mid ≤ w'.heap.size ∧ Below w.heap.size w w'

theorem PlB.make (s : Int) (n : Nat) (cs : List Int) (x p : Int) (su : Bool) (hl : cs.length = n) : ∃ R, PlB s n cs x p su R := by
  unfold PlB
  split
  · rename_i h
    obtain ⟨h1, ⟨x1, x2⟩, h2⟩ := h
    obtain ⟨q1, q2, q3, q4⟩ := (Bd.okB_iff s cs).1 h1
    obtain ⟨_, _, p0, pn⟩ := (Pt.okP_iff s p).1 h2
    obtain ⟨k, rfl⟩ := Int.eq_ofNat_of_zero_le (show 0 ≤ s by omega)
    have hp : p.toNat < n := by omega
    have hx : x = 1 ∨ x = 2 := by omega
    rcases hx with rfl | rfl
    · obtain ⟨R, hR, _⟩ := i_pl1 k n p.toNat cs su .nilIface .nilIface h1 hl hp
      exact ⟨R, hR⟩
    · obtain ⟨R, hR, _⟩ := i_pl2 k n p.toNat cs su .nilIface .nilIface h1 hl hp
      exact ⟨R, hR⟩
  · exact ⟨none, rfl⟩

/-- The program's 'play', told by what the model's makes of it. -/
theorem i_plR (k n p : Nat) (cs : List Int) (x : Int) (su : Bool) (R : Option (List Int × List Int)) (hv : Bd.okB (k : Int) cs = true) (hl : cs.length = n) (hp : p < n) (x1 : 1 ≤ x) (x2 : x ≤ 2) (hR : Plays (k : Int) n cs x p su R) (w : World) (v0 v1 : Value) (hg : Errs w v0 v1) :
    Calls Tryd.prog 49 #[.agg #[.int .i64 (k : Nat), .int .u64 (Bt.msk cs 0 n : Nat), .int .u64 (Bt.msk cs 1 n : Nat), .int .u64 (Bt.msk cs 2 n : Nat)], .int .i64 x, .int .i64 (p : Nat), .bool su] w fun e w' => PlI k n v0 v1 R e ∧ Below w.heap.size w w' := by
  have hx : x = 1 ∨ x = 2 := by omega
  rcases hx with rfl | rfl
  · obtain ⟨R', hR', h⟩ := i_pl1 k n p cs su v0 v1 hv hl hp
    rw [hR.one hR']
    exact h w hg
  · obtain ⟨R', hR', h⟩ := i_pl2 k n p cs su v0 v1 hv hl hp
    rw [hR.one hR']
    exact h w hg

theorem msk_lt64 (cs : List Int) (z : Int) (k n : Nat) (k1 : 1 ≤ k) (k2 : k ≤ 7) (hn : n = k * k) : Bt.msk cs z n < 18446744073709551616 := by
  have := Bt.msk_lt cs z n
  have h7 := (Bt.masks k k1 k2).2.2.2.2.2.2
  rw [hn] at this ⊢; omega

section
variable (s x p : Int) (su : Bool) (w : World) (B : Nat) (A : Option Addr) (n c : Nat) (cs : List Int) (R : Option (List Int × List Int)) (h : Ints w B A n cs) (hB : B ≤ w.heap.size) (hn : n ≤ 1000000000) (ht : Tab w) (he : ErrW w) (hR : PlB s n cs x p su R)
include h hB hn ht he hR

set_option maxRecDepth 100000 in
set_option maxHeartbeats 8000000 in
theorem i_PlayB : Calls Tryd.prog 13 #[.agg #[.int .i64 s, .slice A n c], .int .i64 x, .int .i64 p, .bool su] w (Answ s n R w) := by
  have hl := h.1
  have e1 : (w.alloc (.cells #[.int .i64 s, .slice A n c] 25)).heap.size = w.heap.size + 1 := by simp
  have x0 := (Bx.new 25 w s (.slice A n c)).alloc (.cells #[.int .i64 0, .slice none 0 0] 25)
  have xx := Bx.new 25 (w.alloc (.cells #[.int .i64 s, .slice A n c] 25)) 0 (.slice none 0 0)
  rw [e1] at xx
  have hb2 : Below w.heap.size w ((w.alloc (.cells #[.int .i64 s, .slice A n c] 25)).alloc (.cells #[.int .i64 0, .slice none 0 0] 25)) := ((Below.refl _ _).alloc (Nat.le_refl _) _).alloc (by simp) _
  have H := Lib.hid (h.below hb2 hB)
  have X0 := Lib.hid x0
  have X1 := Lib.hid xx
  have Hb := Lib.hid hb2
  have HT := Lib.hid ht
  have HE := Lib.hid he
  clear e1 x0 xx hb2 h ht he
  obtain ⟨b1, r1⟩ : ∃ b, Bd.okB s cs = b := ⟨_, rfl⟩
  obtain ⟨b2, r2⟩ : ∃ b, (decide (1 ≤ x) && decide (x ≤ 2)) = b := ⟨_, rfl⟩
  obtain ⟨b3, r3⟩ : ∃ b, Pt.okP s p = b := ⟨_, rfl⟩
  have He1 := Lib.hid r1
  have He2 := Lib.hid r2
  have He3 := Lib.hid r3
  cases b1
  · have HR : Hid (R = none) := Lib.hid (by unfold PlB at hR; rw [if_neg (by rintro ⟨h, _⟩; rw [r1] at h; cases h)] at hR; exact hR)
    clear hR r1 r2 r3 hl
    go_enter Tryd.func13, Tryd.ntmps13
    go_wp2_with fail
    refine (i_validBoard _ _ _ _ _ _ _ H.out (by simp; omega) hn).mono ?_
    rintro e y ⟨rfl, hb⟩
    have X0 := Lib.hid (X0.out.below hb X0.out.lt)
    have X1 := Lib.hid (X1.out.below hb X1.out.lt)
    have H := Lib.hid (H.out.below hb (by simp; omega))
    have Hb := Lib.hid (Hb.out.trans (hb.mono (by simp; omega)))
    clear hb
    rw [He1.out]
    have c0 := X1.out.cell0
    have c1 := X1.out.cell1
    have f0 := X1.out.frozen 0
    have f1 := X1.out.frozen 1
    have l1 := X1.out.lt
    have K0 := Lib.hid ((X1.out.set0 0).cell0)
    have K1 := Lib.hid (((X1.out.set0 0).set1 (.slice none 0 0)).cell1)
    have Hb3 := Lib.hid ((Hb.out.setCell (p := ⟨w.heap.size + 1, 0, none⟩) (by show w.heap.size ≤ w.heap.size + 1; omega) (.int .i64 0)).setCell (p := ⟨w.heap.size + 1, 1, none⟩) (by show w.heap.size ≤ w.heap.size + 1; omega) (.slice none 0 0))
    clear X1
    go_wp2_with fail
    have k0 := K0.out
    have k1 := K1.out
    refine bodyPost_ret (v := .tuple #[.agg #[.int .i64 0, .slice none 0 0], .slice none 0 0, .bool false]) (by simp [results, Tryd.results13, go_sem, k0, k1]) rfl ?_
    exact .inl ⟨by first | exact HR.out | rfl, rfl, Hb3.out⟩
  · cases b2
    · have HR : Hid (R = none) := Lib.hid (by unfold PlB at hR; rw [if_neg (by rintro ⟨_, ⟨h1, h2⟩, _⟩; rw [decide_eq_true h1, decide_eq_true h2] at r2; cases r2)] at hR; exact hR)
      clear hR r1 r2 r3 hl
      go_enter Tryd.func13, Tryd.ntmps13
      go_wp2_with fail
      refine (i_validBoard _ _ _ _ _ _ _ H.out (by simp; omega) hn).mono ?_
      rintro e y ⟨rfl, hb⟩
      have X0 := Lib.hid (X0.out.below hb X0.out.lt)
      have X1 := Lib.hid (X1.out.below hb X1.out.lt)
      have H := Lib.hid (H.out.below hb (by simp; omega))
      have Hb := Lib.hid (Hb.out.trans (hb.mono (by simp; omega)))
      clear hb
      rw [He1.out]
      have v0 := X0.out.cell0
      have v1 := X0.out.cell1
      have v2 := X0.out.lt
      go_wp2_with fail
      refine (i_eyeStone _ _).mono ?_
      rintro e w' ⟨rfl, rfl⟩
      rw [He2.out]
      clear v0 v1 v2
      have c0 := X1.out.cell0
      have c1 := X1.out.cell1
      have f0 := X1.out.frozen 0
      have f1 := X1.out.frozen 1
      have l1 := X1.out.lt
      have K0 := Lib.hid ((X1.out.set0 0).cell0)
      have K1 := Lib.hid (((X1.out.set0 0).set1 (.slice none 0 0)).cell1)
      have Hb3 := Lib.hid ((Hb.out.setCell (p := ⟨w.heap.size + 1, 0, none⟩) (by show w.heap.size ≤ w.heap.size + 1; omega) (.int .i64 0)).setCell (p := ⟨w.heap.size + 1, 1, none⟩) (by show w.heap.size ≤ w.heap.size + 1; omega) (.slice none 0 0))
      clear X1
      go_wp2_with fail
      have k0 := K0.out
      have k1 := K1.out
      refine bodyPost_ret (v := .tuple #[.agg #[.int .i64 0, .slice none 0 0], .slice none 0 0, .bool false]) (by simp [results, Tryd.results13, go_sem, k0, k1]) rfl ?_
      exact .inl ⟨by first | exact HR.out | rfl, rfl, Hb3.out⟩
    · cases b3
      · have HR : Hid (R = none) := Lib.hid (by unfold PlB at hR; rw [if_neg (by rintro ⟨_, _, h⟩; rw [r3] at h; cases h)] at hR; exact hR)
        clear hR r1 r2 r3 hl
        go_enter Tryd.func13, Tryd.ntmps13
        go_wp2_with fail
        refine (i_validBoard _ _ _ _ _ _ _ H.out (by simp; omega) hn).mono ?_
        rintro e y ⟨rfl, hb⟩
        have X0 := Lib.hid (X0.out.below hb X0.out.lt)
        have X1 := Lib.hid (X1.out.below hb X1.out.lt)
        have H := Lib.hid (H.out.below hb (by simp; omega))
        have Hb := Lib.hid (Hb.out.trans (hb.mono (by simp; omega)))
        clear hb
        rw [He1.out]
        have v0 := X0.out.cell0
        have v1 := X0.out.cell1
        have v2 := X0.out.lt
        go_wp2_with fail
        refine (i_eyeStone _ _).mono ?_
        rintro e w' ⟨rfl, rfl⟩
        rw [He2.out]
        go_wp2_with fail
        refine (i_point _ _ _).mono ?_
        rintro e w' ⟨rfl, rfl⟩
        rw [He3.out]
        clear v0 v1 v2
        have c0 := X1.out.cell0
        have c1 := X1.out.cell1
        have f0 := X1.out.frozen 0
        have f1 := X1.out.frozen 1
        have l1 := X1.out.lt
        have K0 := Lib.hid ((X1.out.set0 0).cell0)
        have K1 := Lib.hid (((X1.out.set0 0).set1 (.slice none 0 0)).cell1)
        have Hb3 := Lib.hid ((Hb.out.setCell (p := ⟨w.heap.size + 1, 0, none⟩) (by show w.heap.size ≤ w.heap.size + 1; omega) (.int .i64 0)).setCell (p := ⟨w.heap.size + 1, 1, none⟩) (by show w.heap.size ≤ w.heap.size + 1; omega) (.slice none 0 0))
        clear X1
        go_wp2_with fail
        have k0 := K0.out
        have k1 := K1.out
        refine bodyPost_ret (v := .tuple #[.agg #[.int .i64 0, .slice none 0 0], .slice none 0 0, .bool false]) (by simp [results, Tryd.results13, go_sem, k0, k1]) rfl ?_
        exact .inl ⟨by first | exact HR.out | rfl, rfl, Hb3.out⟩
      · rw [Bool.and_eq_true, decide_eq_true_eq, decide_eq_true_eq] at r2
        obtain ⟨x1, x2⟩ := r2
        obtain ⟨q1, q2, q3, q4⟩ := (Bd.okB_iff s cs).1 r1
        obtain ⟨_, _, p0, pn⟩ := (Pt.okP_iff s p).1 r3
        obtain ⟨k, rfl⟩ := Int.eq_ofNat_of_zero_le (show 0 ≤ s by omega)
        obtain ⟨q, rfl⟩ := Int.eq_ofNat_of_zero_le (show 0 ≤ p by omega)
        have hnn : n = k * k := by
          have : (n : Int) = ((k * k : Nat) : Int) := by rw [← hl]; push_cast; exact q3
          exact_mod_cast this
        have hpl : Plays (k : Int) n cs x q su R := by
          unfold PlB at hR
          rw [if_pos ⟨r1, ⟨x1, x2⟩, r3⟩] at hR
          exact hR
        have hqn : q < n := by omega
        have k1 : 1 ≤ k := by omega
        have k2 : k ≤ 7 := by omega
        have CP : Hid (∀ w, Ints w B A n cs → B ≤ w.heap.size → Calls Tryd.prog 48 #[.agg #[.int .i64 (k : Nat), .slice A n c]] w fun e w' => e = .returned (.agg #[.int .i64 (k : Nat), .int .u64 (Bt.msk cs 0 n : Nat), .int .u64 (Bt.msk cs 1 n : Nat), .int .u64 (Bt.msk cs 2 n : Nat)]) ∧ Below w.heap.size w w') := Lib.hid fun w h hB => i_positionOf k w B A n c cs h hB r1
        have CQ : Hid (∀ w v0 v1, Errs w v0 v1 → Calls Tryd.prog 49 #[.agg #[.int .i64 (k : Nat), .int .u64 (Bt.msk cs 0 n : Nat), .int .u64 (Bt.msk cs 1 n : Nat), .int .u64 (Bt.msk cs 2 n : Nat)], .int .i64 x, .int .i64 (q : Nat), .bool su] w fun e w' => PlI k n v0 v1 R e ∧ Below w.heap.size w w') := Lib.hid fun w v0 v1 hg => i_plR k n q cs x su R r1 hl hqn x1 x2 hpl w v0 v1 hg
        have HO : Hid (∀ os gs, R = some (os, gs) → os.length = n ∧ OkL os) := Lib.hid fun os gs e => by
          rw [e] at hpl
          have := hpl.ok hl (okL_mem.2 q4) x1 x2
          exact ⟨this.1, this.2.1⟩
        have CB : Hid (∀ w os gs, R = some (os, gs) → Tab w → Calls Tryd.prog 50 #[.agg #[.int .i64 (k : Nat), .int .u64 (Bt.msk os 0 n : Nat), .int .u64 (Bt.msk os 1 n : Nat), .int .u64 (Bt.msk os 2 n : Nat)]] w fun e w' => ∃ A c, e = .returned (.agg #[.int .i64 (k : Nat), .slice A n c]) ∧ Own w' w.heap.size A n c os ∧ Below w.heap.size w w') := Lib.hid fun w os gs e ht => i_board k n os w ht k1 k2 hnn (HO.out os gs e).1 (okL_mem.1 (HO.out os gs e).2)
        have Hn49 := Lib.hid (show n ≤ 49 by have := (Bt.sq_nat k k1 k2).2.1; omega)
        obtain ⟨E0, h0⟩ : ∃ E, Bt.msk cs 0 n = E := ⟨_, rfl⟩
        obtain ⟨E1, h1⟩ : ∃ E, Bt.msk cs 1 n = E := ⟨_, rfl⟩
        obtain ⟨E2, h2⟩ : ∃ E, Bt.msk cs 2 n = E := ⟨_, rfl⟩
        rw [h0, h1, h2] at CP CQ
        clear hR r1 r3 hl x1 x2 q1 q2 q3 q4 p0 pn hnn hpl hqn k1 k2 h0 h1 h2
        go_enter Tryd.func13, Tryd.ntmps13
        go_wp2_with fail
        refine (i_validBoard _ _ _ _ _ _ _ H.out (by simp; omega) hn).mono ?_
        rintro e y ⟨rfl, hb⟩
        have X0 := Lib.hid (X0.out.below hb X0.out.lt)
        have X1 := Lib.hid (X1.out.below hb X1.out.lt)
        have H := Lib.hid (H.out.below hb (by simp; omega))
        have Hb := Lib.hid (Hb.out.trans (hb.mono (by simp; omega)))
        clear hb
        rw [He1.out]
        have v0 := X0.out.cell0
        have v1 := X0.out.cell1
        have v2 := X0.out.lt
        go_wp2_with fail
        refine (i_eyeStone _ _).mono ?_
        rintro e w' ⟨rfl, rfl⟩
        rw [He2.out]
        go_wp2_with fail
        refine (i_point _ _ _).mono ?_
        rintro e w' ⟨rfl, rfl⟩
        rw [He3.out]
        clear v0 v1 v2
        have v0 := X0.out.cell0
        have v1 := X0.out.cell1
        have v2 := X0.out.lt
        go_wp2_with fail
        refine (CP.out _ H.out (by have := Hb.out.size; omega)).mono ?_
        rintro e y2 ⟨rfl, hb⟩
        have X1 := Lib.hid (X1.out.below hb X1.out.lt)
        have Hb := Lib.hid (Hb.out.trans (hb.mono Hb.out.size))
        clear hb v0 v1 v2 X0 H
        obtain ⟨a0, a1, hee⟩ := HE.out.below Hb.out
        go_wp2_with fail
        refine (CQ.out _ _ _ hee).mono ?_
        rintro e y3 ⟨hpi, hb⟩
        have X1 := Lib.hid (X1.out.below hb X1.out.lt)
        have Hb := Lib.hid (Hb.out.trans (hb.mono Hb.out.size))
        have HT := Lib.hid (HT.out.below Hb.out)
        clear hb hee HE
        cases R with
        | none =>
          have HR : Hid ((none : Option (List Int × List Int)) = none) := Lib.hid rfl
          obtain ⟨v, hv, rfl⟩ := hpi
          have X1 := Lib.hid (X1.out.alloc (.cells #[.int .i64 0, .int .u64 0, .int .u64 0, .int .u64 0] 67))
          have Hb := Lib.hid (Hb.out.alloc Hb.out.size (.cells #[.int .i64 0, .int .u64 0, .int .u64 0, .int .u64 0] 67))
          rcases hv with rfl | rfl
          · have c0 := X1.out.cell0
            have c1 := X1.out.cell1
            have f0 := X1.out.frozen 0
            have f1 := X1.out.frozen 1
            have l1 := X1.out.lt
            have K0 := Lib.hid ((X1.out.set0 0).cell0)
            have K1 := Lib.hid (((X1.out.set0 0).set1 (.slice none 0 0)).cell1)
            have Hb3 := Lib.hid ((Hb.out.setCell (p := ⟨w.heap.size + 1, 0, none⟩) (by show w.heap.size ≤ w.heap.size + 1; omega) (.int .i64 0)).setCell (p := ⟨w.heap.size + 1, 1, none⟩) (by show w.heap.size ≤ w.heap.size + 1; omega) (.slice none 0 0))
            clear X1
            go_wp2_with fail
            have k0 := K0.out
            have k1 := K1.out
            refine bodyPost_ret (v := .tuple #[.agg #[.int .i64 0, .slice none 0 0], .slice none 0 0, .bool false]) (by simp [results, Tryd.results13, go_sem, k0, k1]) rfl ?_
            exact .inl ⟨by first | exact HR.out | rfl, rfl, Hb3.out⟩
          · have c0 := X1.out.cell0
            have c1 := X1.out.cell1
            have f0 := X1.out.frozen 0
            have f1 := X1.out.frozen 1
            have l1 := X1.out.lt
            have K0 := Lib.hid ((X1.out.set0 0).cell0)
            have K1 := Lib.hid (((X1.out.set0 0).set1 (.slice none 0 0)).cell1)
            have Hb3 := Lib.hid ((Hb.out.setCell (p := ⟨w.heap.size + 1, 0, none⟩) (by show w.heap.size ≤ w.heap.size + 1; omega) (.int .i64 0)).setCell (p := ⟨w.heap.size + 1, 1, none⟩) (by show w.heap.size ≤ w.heap.size + 1; omega) (.slice none 0 0))
            clear X1
            go_wp2_with fail
            have k0 := K0.out
            have k1 := K1.out
            refine bodyPost_ret (v := .tuple #[.agg #[.int .i64 0, .slice none 0 0], .slice none 0 0, .bool false]) (by simp [results, Tryd.results13, go_sem, k0, k1]) rfl ?_
            exact .inl ⟨by first | exact HR.out | rfl, rfl, Hb3.out⟩
        | some r =>
          obtain ⟨os, gs⟩ := r
          obtain ⟨m, hm, hgs, rfl⟩ := hpi
          have hmp : Bt.pts m 64 = gs := by rw [Bt.pts_more hm (by have := Hn49.out; omega), hgs]
          have hm64 : m < 18446744073709551616 := by
            have : 2 ^ n ≤ 2 ^ 49 := Nat.pow_le_pow_right (by decide) Hn49.out
            omega
          have CL : Hid (∀ w, Tab w → Calls Tryd.prog 51 #[.int .u64 (m : Nat)] w fun e w' => ∃ A n c, e = .returned (.slice A n c) ∧ Own w' w.heap.size A n c gs ∧ Below w.heap.size w w') := Lib.hid fun w ht => by rw [← hmp]; exact i_list m w ht hm64
          have CB' : Hid (∀ w, Tab w → Calls Tryd.prog 50 #[.agg #[.int .i64 (k : Nat), .int .u64 (Bt.msk os 0 n : Nat), .int .u64 (Bt.msk os 1 n : Nat), .int .u64 (Bt.msk os 2 n : Nat)]] w fun e w' => ∃ A c, e = .returned (.agg #[.int .i64 (k : Nat), .slice A n c]) ∧ Own w' w.heap.size A n c os ∧ Below w.heap.size w w') := Lib.hid fun w ht => CB.out w os gs rfl ht
          obtain ⟨F0, g0⟩ : ∃ E, Bt.msk os 0 n = E := ⟨_, rfl⟩
          obtain ⟨F1, g1⟩ : ∃ E, Bt.msk os 1 n = E := ⟨_, rfl⟩
          obtain ⟨F2, g2⟩ : ∃ E, Bt.msk os 2 n = E := ⟨_, rfl⟩
          rw [g0, g1, g2] at CB' ⊢
          clear hm hgs hmp hm64 g0 g1 g2 CB HO
          go_upto_region 4 with (fail)
          obtain ⟨y4, hy4⟩ : ∃ y4, y4 = y3.alloc (.cells #[.int .i64 (k : Nat), .int .u64 (F0 : Nat), .int .u64 (F1 : Nat), .int .u64 (F2 : Nat)] 67) := ⟨_, rfl⟩
          have P2 : Hid (Px y4 y3.heap.size (k : Nat) F0 F1 F2) := Lib.hid (by rw [hy4]; exact Px.new _ _ _ _ _)
          have hb4 : Below y3.heap.size y3 y4 := by rw [hy4]; exact (Below.refl _ _).alloc (Nat.le_refl _) _
          have X1 := Lib.hid (X1.out.below hb4 X1.out.lt)
          have Hb := Lib.hid (Hb.out.trans (hb4.mono Hb.out.size))
          have HT := Lib.hid (HT.out.below hb4)
          have Hx4q := Lib.hid X1.out.lt
          rw [← hy4]
          clear hy4 hb4
          have c0 := P2.out.c0
          have c1 := P2.out.c1
          have c2 := P2.out.c2
          have c3 := P2.out.c3
          have hz2 := P2.out.lt
          go_wp2_with fail
          refine (CB'.out _ HT.out).mono ?_
          rintro e y5 ⟨A1, d1, rfl, ho, hb⟩
          have X1 := Lib.hid (X1.out.below hb X1.out.lt)
          have HT := Lib.hid (HT.out.below hb)
          have Hz4 := Lib.hid Hb.out.size
          have Hx4 : Hid (w.heap.size + 1 < y4.heap.size) := Lib.hid Hx4q.out
          have Hx5 : Hid (w.heap.size + 1 < y5.heap.size) := Lib.hid X1.out.lt
          have Hb := Lib.hid (Hb.out.trans (hb.mono Hb.out.size))
          have Ho := Lib.hid ho
          clear hb ho c0 c1 c2 c3 hz2 P2
          go_wp2_with fail
          refine (CL.out _ HT.out).mono ?_
          rintro e y6 ⟨A2, n2, d2, rfl, ho2, hb⟩
          have X1 := Lib.hid (X1.out.below hb X1.out.lt)
          have Hz5 := Lib.hid Hb.out.size
          have Hz6 := Lib.hid hb.size
          have Hb := Lib.hid (Hb.out.trans (hb.mono Hb.out.size))
          have Hlt := Lib.hid (fun g (e : A1 = some ⟨g, 0, none⟩) => (Ho.out.ge e).2)
          have Hx := Lib.hid (show w.heap.size + 1 < y4.heap.size from Hx4.out)
          have ho1 := Ho.out.below hb
          have Ho1 := Lib.hid ((ho1.far ⟨w.heap.size + 1, 0, none⟩ (fun g hA => by have := (ho1.ge hA).1; have := Hx.out; show g ≠ w.heap.size + 1; omega) (.int .i64 (k : Nat))).far ⟨w.heap.size + 1, 1, none⟩ (fun g hA => by have := (ho1.ge hA).1; have := Hx.out; show g ≠ w.heap.size + 1; omega) (.slice A1 n d1))
          have Ho2 := Lib.hid ((ho2.far ⟨w.heap.size + 1, 0, none⟩ (fun g hA => by have := (ho2.ge hA).1; have := Hx5.out; show g ≠ w.heap.size + 1; omega) (.int .i64 (k : Nat))).far ⟨w.heap.size + 1, 1, none⟩ (fun g hA => by have := (ho2.ge hA).1; have := Hx5.out; show g ≠ w.heap.size + 1; omega) (.slice A1 n d1))
          clear hb ho2 ho1
          have c0 := X1.out.cell0
          have c1 := X1.out.cell1
          have f0 := X1.out.frozen 0
          have f1 := X1.out.frozen 1
          have l1 := X1.out.lt
          have K0 := Lib.hid ((X1.out.set0 (k : Nat)).cell0)
          have K1 := Lib.hid (((X1.out.set0 (k : Nat)).set1 (.slice A1 n d1)).cell1)
          have Hb3 := Lib.hid ((Hb.out.setCell (p := ⟨w.heap.size + 1, 0, none⟩) (by show w.heap.size ≤ w.heap.size + 1; omega) (.int .i64 (k : Nat))).setCell (p := ⟨w.heap.size + 1, 1, none⟩) (by show w.heap.size ≤ w.heap.size + 1; omega) (.slice A1 n d1))
          clear X1
          go_wp2_with fail
          have k0 := K0.out
          have k1 := K1.out
          refine bodyPost_ret (v := .tuple #[.agg #[.int .i64 (k : Nat), .slice A1 n d1], .slice A2 n2 d2, .bool true]) (by simp [results, Tryd.results13, go_sem, k0, k1]) rfl ?_
          exact .inr ⟨_, _, _, _, _, _, _, y5.heap.size, rfl, rfl, Ho1.out.weaken Hz4.out, Hlt.out, Ho2.out, Hz5.out, by have := Hz6.out; simpa using this, Hb3.out⟩

end
end Go.Proofs.YtpogjegihhljpaaDoor

namespace Go.Proofs.YtpogjegihhljpaaDoor
set_option maxRecDepth 100000
open Go.RowKit

def invS (s : Int) (cs : List Int) : Int := if Bd.okB s cs then s else 0
def invCs (s : Int) (cs : List Int) : List Int := if Bd.okB s cs then othCs cs else []

end Go.Proofs.YtpogjegihhljpaaDoor

namespace Go.Proofs.YtpogjegihhljpaaDoor
set_option maxRecDepth 100000
open Go.RowKit

theorem oth_zero : oth 0 = 0 := rfl
theorem mix_keep {cs : List Int} {k : Nat} (hk : k < cs.length) (h0 : cs.getD k 0 = 0) : (othCs cs).take k ++ cs.drop k = (othCs cs).take (k + 1) ++ cs.drop (k + 1) := by
  have e : cs.getD k 0 = cs[k] := by simp [List.getD_eq_getElem?_getD, List.getElem?_eq_getElem hk]
  have hk' : k < (othCs cs).length := by rw [othCs_len]; exact hk
  have e2 : (othCs cs)[k] = oth cs[k] := by simp [othCs]
  rw [List.take_succ_eq_append_getElem hk', List.drop_eq_getElem_cons hk, e2, ← e, h0, List.append_assoc]
  rfl
theorem mix_set {cs : List Int} {k : Nat} (hk : k < cs.length) : ((othCs cs).take k ++ cs.drop k).set k (oth (cs.getD k 0)) = (othCs cs).take (k + 1) ++ cs.drop (k + 1) := by
  have e : cs.getD k 0 = cs[k] := by simp [List.getD_eq_getElem?_getD, List.getElem?_eq_getElem hk]
  have hk' : k < (othCs cs).length := by rw [othCs_len]; exact hk
  have e2 : (othCs cs)[k] = oth cs[k] := by simp [othCs]
  have hl : ((othCs cs).take k).length = k := by rw [List.length_take]; omega
  rw [List.set_append_right _ _ (by omega), hl, Nat.sub_self, List.drop_eq_getElem_cons hk, List.set_cons_zero, List.take_succ_eq_append_getElem hk', e2, e, List.append_assoc]
  rfl

set_option maxHeartbeats 1000000 in
theorem s_invertBoard (s : Int) (w : World) (B : Nat) (A : Option Addr) (n c : Nat) (cs : List Int) (h : Ints w B A n cs) (hB : B ≤ w.heap.size) (hn : n ≤ 1000000) (hv : ∀ x ∈ cs, 0 ≤ x ∧ x ≤ 2) :
    Calls Tryd.prog 102 #[.agg #[.int .i64 s, .slice A n c]] w fun e w' => Made s (othCs cs) w e w' := by
  have e1 : (w.alloc (.cells #[.int .i64 s, .slice A n c] 25)).heap.size = w.heap.size + 1 := by simp
  have x0 := (Bx.new 25 w s (.slice A n c)).alloc (.cells #[.int .i64 0, .slice none 0 0] 25)
  have x1 := Bx.new 25 (w.alloc (.cells #[.int .i64 s, .slice A n c] 25)) 0 (.slice none 0 0)
  rw [e1] at x1
  have hb2 : Below w.heap.size w ((w.alloc (.cells #[.int .i64 s, .slice A n c] 25)).alloc (.cells #[.int .i64 0, .slice none 0 0] 25)) := ((Below.refl _ _).alloc (Nat.le_refl _) _).alloc (by simp) _
  have hl := h.1
  have H := Lib.hid (h.below hb2 hB)
  have X0 := Lib.hid x0
  have X1 := Lib.hid x1
  have Hb := Lib.hid hb2
  have Hl := Lib.hid hl
  have hv2 : ∀ k, k < cs.length → 0 ≤ cs.getD k 0 ∧ cs.getD k 0 ≤ 2 := fun k hk => hv _ (by rw [List.getD_eq_getElem?_getD, List.getElem?_eq_getElem hk]; exact List.getElem_mem _)
  have Hv := Lib.hid hv2
  clear e1 x0 x1 hb2 h hl hv hv2
  go_enter Tryd.func102, Tryd.ntmps102
  go_wp2_with fail
  refine (s_copyBoard _ _ _ _ _ _ _ H.out (by simp; omega) (by omega)).mono ?_
  rintro e y ⟨A1, c1, rfl, ho, hb⟩
  have X0 := Lib.hid (X0.out.below hb X0.out.lt)
  have X1 := Lib.hid (X1.out.below hb X1.out.lt)
  have H := Lib.hid (H.out.below hb (by simp; omega))
  have Hb := Lib.hid (Hb.out.trans (hb.mono (by simp; omega)))
  have Ho := Lib.hid (ho.weaken (B' := w.heap.size + 1 + 1) (by simp))
  have Hr := Lib.hid (fun g (hA : A1 = some ⟨g, 0, none⟩) => (ho.ge hA).2)
  clear hb ho
  have z1 := X1.out.lt
  have u00 := X0.out.cell0
  have u01 := X0.out.cell1
  have u02 := X0.out.lt
  go_wp2_with fail
  obtain ⟨y3, hy3, hb3, z3, z4⟩ := new_box y (.cells #[.int .i64 s, .slice A1 n c1] 25)
  have X3 : Hid (Bx 25 y3 y.heap.size s (.slice A1 n c1)) := Lib.hid (by rw [hy3]; exact Bx.new _ _ _ _)
  rw [← hy3]
  clear hy3 u00 u01
  have X0 := Lib.hid (X0.out.below hb3 X0.out.lt)
  have X1 := Lib.hid (X1.out.below hb3 X1.out.lt)
  have H := Lib.hid (H.out.below hb3 (by omega))
  have Ho := Lib.hid (Ho.out.below hb3)
  have Hb := Lib.hid (Hb.out.trans (hb3.mono (by omega)))
  clear hb3
  go_loopw [4] (fun i wr => ∃ k : Nat, k ≤ n ∧ i = .int .i64 k ∧ Own wr (w.heap.size + 1 + 1) A1 n c1 ((othCs cs).take k ++ cs.drop k) ∧ Bx 25 wr y.heap.size s (.slice A1 n c1) ∧ Below (w.heap.size + 1 + 1) y3 wr) (fun i _ => n - (intOf i).toNat)
  case atStart => exact ⟨0, by omega, rfl, by simpa using Ho.out, X3.out, Below.refl _ _⟩
  case round =>
    clear X3 Ho
    obtain ⟨k, hk, rfl, ho, hx3, hbr⟩ := hrel
    have X0r := Lib.hid (X0.out.below hbr (by omega))
    have X1r := Lib.hid (X1.out.below hbr (by omega))
    have Hir := Lib.hid (H.out.below hbr (by omega))
    have Hbw := Lib.hid (Hb.out.trans (hbr.mono (by omega)))
    have Ho := Lib.hid ho
    have X3 := Lib.hid hx3
    have Hbr := Lib.hid hbr
    clear ho hx3 hbr
    have v00 := X0r.out.cell0
    have v01 := X0r.out.cell1
    have v02 := X0r.out.lt
    have v30 := X3.out.cell0
    have v31 := X3.out.cell1
    have v32 := X3.out.lt
    by_cases hkn : k < n
    · rcases Hir.out.2 with h0 | ⟨b, o, rfl, hbB, hc⟩
      · omega
      · have hck := hc k hkn
        have hkl : k < cs.length := by rw [Hl.out]; exact hkn
        obtain ⟨q1, q2⟩ := Hv.out k hkl
        have Mk := Lib.hid (mix_keep hkl)
        have Ms := Lib.hid (mix_set hkl)
        obtain ⟨x, hx⟩ : ∃ x, cs.getD k 0 = x := ⟨_, rfl⟩
        rw [hx] at hck q1 q2 Mk Ms
        clear hx hc
        by_cases hx0 : x = 0
        · have hbx : (x != 0) = false := by simpa using hx0
          have Mk2 := Lib.hid (Mk.out hx0)
          clear hx0 Mk
          go_wp2_with fail
          go_roundw
          case rel => exact ⟨k + 1, by omega, by go_num, by rw [← Mk2.out]; exact Ho.out, X3.out, Hbr.out⟩
          case measure => simp [intOf]; omega
        · have hbx : (x != 0) = true := by simpa using hx0
          have hx1 : 1 ≤ x := by omega
          clear hx0 Mk
          have hA1 : ∃ g, A1 = some ⟨g, 0, none⟩ := by
            obtain ⟨g, cap, hv, _⟩ := World.ownsRow.form Ho.out.2 (by omega)
            exact ⟨g, by injection hv⟩
          obtain ⟨g, rfl⟩ := hA1
          have hg1 := (Ho.out.ge rfl).1
          have hg2 := Hr.out g rfl
          have hcell : ∃ u, wr.cell? ⟨g, k, none⟩ = some u := by
            have := World.ownsRow.cellAt Ho.out.2 k (by omega)
            rw [this]
            exact ⟨_, List.getElem?_eq_getElem (by rw [List.length_map, Ho.out.1]; exact hkn)⟩
          obtain ⟨u, hu⟩ := hcell
          have hf := World.ownsRow.frozenAt Ho.out.2 k
          have Hst := Lib.hid (Ho.out.stored k (oth x))
          have hkk : (k : Int) < n := by omega
          go_wp2_with fail
          go_region_with (go_at_call 85; refine (s_opp _ _ hx1 q2).mono ?_; rintro e w9 ⟨rfl, rfl⟩)
          all_goals go_wp2_with fail
          all_goals go_roundw
          all_goals try (simp [intOf]; omega)
          all_goals exact ⟨k + 1, by omega, by go_num, by rw [← Ms.out]; exact Own.drew Hst.out.1, X3.out.far (p := ⟨g, k, none⟩) (by show y.heap.size ≠ g; omega) (.int .i64 (oth x)), Below.drew (Hbr.out.setCell hg1 _)⟩
    · obtain rfl : k = n := by omega
      have hfin : Own wr (w.heap.size + 1 + 1) A1 k c1 (othCs cs) := by
        have := Ho.out
        rw [List.take_of_length_le (by rw [othCs_len, Hl.out]; exact Nat.le_refl _), List.drop_of_length_le (by rw [Hl.out]; exact Nat.le_refl _), List.append_nil] at this
        exact this
      have ho2 := (hfin.far ⟨w.heap.size + 1, 0, none⟩ (fun g hA => by have := (hfin.ge hA).1; show g ≠ w.heap.size + 1; omega) (.int .i64 s)).far ⟨w.heap.size + 1, 1, none⟩ (fun g hA => by have := (hfin.ge hA).1; show g ≠ w.heap.size + 1; omega) (.slice A1 k c1)
      have hb3 := (Hbw.out.setCell (p := ⟨w.heap.size + 1, 0, none⟩) (by show w.heap.size ≤ w.heap.size + 1; omega) (.int .i64 s)).setCell (p := ⟨w.heap.size + 1, 1, none⟩) (by show w.heap.size ≤ w.heap.size + 1; omega) (.slice A1 k c1)
      have Ho2 := Lib.hid ho2
      have Hb3 := Lib.hid hb3
      have K0 := Lib.hid ((X1r.out.set0 s).cell0)
      have K1 := Lib.hid (((X1r.out.set0 s).set1 (.slice A1 k c1)).cell1)
      have v10 := X1r.out.cell0
      have v11 := X1r.out.cell1
      have v12 := X1r.out.frozen 0
      have v13 := X1r.out.frozen 1
      have v14 := X1r.out.lt
      clear hfin ho2 hb3
      go_wp2_with fail
      have k0 := K0.out
      have k1 := K1.out
      refine bodyPost_ret (v := .agg #[.int .i64 s, .slice A1 k c1]) (by simp [results, Tryd.results102, go_sem, k0, k1]) rfl ?_
      exact ⟨_, _, _, rfl, Ho2.out.weaken (by omega), Hb3.out⟩

end Go.Proofs.YtpogjegihhljpaaDoor

namespace Go.Proofs.YtpogjegihhljpaaDoor
set_option maxRecDepth 100000
open Go.RowKit

set_option maxRecDepth 100000 in
set_option maxHeartbeats 4000000 in
theorem s_removed (s x : Int) (w : World) (B : Nat) (A : Option Addr) (n c : Nat) (cs : List Int) (h : Ints w B A n cs) (hB : B ≤ w.heap.size) (h1 : 1 ≤ s) (h2 : s ≤ 7) (hn : (n : Int) = s * s) :
    Calls Tryd.prog 84 #[.agg #[.int .i64 s, .slice A n c], .int .i64 x] w fun e w' => ∃ A1 c1 A2 n2 c2 S os, e = .returned (.tuple #[.agg #[.int .i64 s, .slice A1 n c1], .slice A2 n2 c2]) ∧
      Own w' w.heap.size A1 n c1 os ∧ Own w' w.heap.size A2 n2 c2 (Fl.pts S n) ∧ RI s n cs x n S os ∧ Below w.heap.size w w' := by
  have hsq := Pt.sq_bd s h1 h2
  have hn49 : n ≤ 49 := by omega
  have e1 : (w.alloc (.cells #[.int .i64 s, .slice A n c] 25)).heap.size = w.heap.size + 1 := by simp
  have x0 := (Bx.new 25 w s (.slice A n c)).alloc (.cells #[.int .i64 0, .slice none 0 0] 25)
  have x1 := Bx.new 25 (w.alloc (.cells #[.int .i64 s, .slice A n c] 25)) 0 (.slice none 0 0)
  rw [e1] at x1
  have hb2 : Below w.heap.size w ((w.alloc (.cells #[.int .i64 s, .slice A n c] 25)).alloc (.cells #[.int .i64 0, .slice none 0 0] 25)) := ((Below.refl _ _).alloc (Nat.le_refl _) _).alloc (by simp) _
  have Hst := Lib.hid (RI.start (s := s) (n := n) (cs := cs) x h.1)
  have H := Lib.hid (h.below hb2 hB)
  have X0 := Lib.hid x0
  have X1 := Lib.hid x1
  have Hb := Lib.hid hb2
  have Hn := Lib.hid hn
  clear e1 x0 x1 hb2 h hn
  go_enter Tryd.func84, Tryd.ntmps84
  go_wp2_with fail
  refine (s_copyBoard _ _ _ _ _ _ _ H.out (by simp; omega) (by omega)).mono ?_
  rintro e y ⟨A1, c1, rfl, ho, hb⟩
  have X0 := Lib.hid (X0.out.below hb X0.out.lt)
  have X1 := Lib.hid (X1.out.below hb X1.out.lt)
  have H := Lib.hid (H.out.below hb (by simp; omega))
  have Hb := Lib.hid (Hb.out.trans (hb.mono (by simp; omega)))
  have Ho := Lib.hid (ho.weaken (B' := w.heap.size + 1 + 1) (by simp))
  have Hr := Lib.hid (fun g (hA : A1 = some ⟨g, 0, none⟩) => (ho.ge hA).2)
  clear hb ho
  have z1 := X1.out.lt
  have u00 := X0.out.cell0
  have u01 := X0.out.cell1
  have u02 := X0.out.lt
  go_upto_region 2 with (fail)
  obtain ⟨y3, hy3, hb3, z3, z4⟩ := new_box y (.cells #[.int .i64 s, .slice A1 n c1] 25)
  have X3 : Hid (Bx 25 y3 y.heap.size s (.slice A1 n c1)) := Lib.hid (by rw [hy3]; exact Bx.new _ _ _ _)
  rw [← hy3]
  clear hy3 u00 u01
  have X0 := Lib.hid (X0.out.below hb3 X0.out.lt)
  have X1 := Lib.hid (X1.out.below hb3 X1.out.lt)
  have H := Lib.hid (H.out.below hb3 (by omega))
  have Ho := Lib.hid (Ho.out.below hb3)
  have Hb := Lib.hid (Hb.out.trans (hb3.mono (by omega)))
  clear hb3
  go_upto_region 3 with (fail)
  have Hog := Lib.hid (Own.bare y3 y3.heap.size (Nat.le_refl _))
  have Hbg := Lib.hid ((Below.refl y3.heap.size y3).alloc (Nat.le_refl _) (.cells #[] 3))
  have Ho := Lib.hid (Ho.out.below Hbg.out)
  have X3 := Lib.hid (X3.out.below Hbg.out X3.out.lt)
  go_wp2_with fail
  go_loopw [7, 8] (fun v i wr => ∃ k S os A4 n4 c4, k ≤ n ∧ i = .int .i64 (k : Nat) ∧ v = .slice A4 n4 c4 ∧ Own wr (w.heap.size + 1 + 1) A1 n c1 os ∧ Own wr y3.heap.size A4 n4 c4 (Fl.pts S k) ∧ RI s n cs x k S os ∧ Bx 25 wr y.heap.size s (.slice A1 n c1) ∧ Below (w.heap.size + 1 + 1) y3 wr) (fun _ i _ => n - (intOf i).toNat)
  case atStart => exact ⟨0, _, _, _, _, _, by omega, rfl, rfl, Ho.out, by exact Hog.out, Hst.out, X3.out, Hbg.out.mono (by omega)⟩
  case round =>
    clear X3 Ho Hog Hbg Hst
    obtain ⟨k, S, os, A4, n4, c4, hk, rfl, rfl, ho, hg, hri, hx3, hbr⟩ := hrel
    have hzr := hbr.size
    have hn4 : n4 ≤ 49 := by have := hg.1; have := Fl.pts_len S k; omega
    have X0r := Lib.hid (X0.out.below hbr (by omega))
    have X1r := Lib.hid (X1.out.below hbr (by omega))
    have Hir := Lib.hid (H.out.below hbr (by omega))
    have Ho := Lib.hid ho
    have Hg := Lib.hid hg
    have Hri := Lib.hid hri
    have X3 := Lib.hid hx3
    have Hbr := Lib.hid hbr
    clear ho hg hri hx3 hbr
    have v00 := X0r.out.cell0
    have v01 := X0r.out.cell1
    have v02 := X0r.out.lt
    by_cases hkn : k < n
    · obtain ⟨b, o, rfl, hbB, hc⟩ : ∃ b o, A = some ⟨b, o, none⟩ ∧ b < B ∧ ∀ j, j < n → wr.cell? ⟨b, o + j, none⟩ = some (.int .i64 (cs.getD j 0)) := by
        rcases Hir.out.2 with h0 | ⟨b, o, hA, hbB, hc⟩
        · omega
        · exact ⟨b, o, hA, hbB, hc⟩
      have hck := hc k hkn
      have hkk : (k : Int) < n := by omega
      clear hc
      obtain ⟨u, hx⟩ : ∃ u, cs.getD k 0 = u := ⟨_, rfl⟩
      have Hx := Lib.hid hx
      rw [hx] at hck
      clear hx
      by_cases hux : u = x
      · have hbx : (u == x) = true := by simpa using hux
        have Hux := Lib.hid hux
        clear hux
        go_wp2_with fail
        refine (s_liberties s k _ B _ n _ cs Hir.out (by omega) h1 h2 Hn.out hkn).mono ?_
        rintro e yl ⟨A5, m5, c5, l5, S5, rfl, hol, hrl, hbl, hbb⟩
        have hm5 : m5 ≤ 49 := by have := hol.1; have := Fl.pts_len S5 n; omega
        have Hiff := Lib.hid (noLib_iff hrl hbl)
        have Hm5 := Lib.hid hol.1
        have hzl := hbb.size
        have z7 := X3.out.lt
        have X3l := Lib.hid (X3.out.below hbb X3.out.lt)
        have Hol := Lib.hid (Ho.out.below hbb)
        have Hgl := Lib.hid (Hg.out.below hbb)
        have Hbrl := Lib.hid (Hbr.out.trans (hbb.mono (by omega)))
        clear hol hrl hbl hbb v00 v01 hck
        by_cases hm0 : m5 = 0
        · have hyes : cs.getD k 0 = x ∧ NoLib s n cs (k : Nat) := ⟨by rw [Hx.out]; exact Hux.out, Hiff.out.1 (by rw [Hm5.out]; exact hm0)⟩
          have Hri2 := Lib.hid (Hri.out.take hkn hyes)
          have Hpt := Lib.hid (show Fl.pts (S.set k true) (k + 1) = Fl.pts S k ++ [(k : Int)] by
            rw [Fl.pts_yes (by have hl : k < S.length := by { rw [Hri.out.len]; exact hkn }
                               simp [List.getD_eq_getElem?_getD, hl]), pts_set])
          clear hyes
          subst hm0
          obtain ⟨g, hA1⟩ : ∃ g, A1 = some ⟨g, 0, none⟩ := by
            obtain ⟨g, cap, hv, _⟩ := World.ownsRow.form Hol.out.2 (by omega)
            exact ⟨g, by injection hv⟩
          subst hA1
          have hg1 := (Hol.out.ge rfl).1
          have hg2 := Hr.out g rfl
          obtain ⟨u9, hu9⟩ : ∃ u, yl.cell? ⟨g, k, none⟩ = some u := by
            have := World.ownsRow.cellAt Hol.out.2 k (by omega)
            rw [this]
            exact ⟨_, List.getElem?_eq_getElem (by rw [List.length_map, Hol.out.1]; exact hkn)⟩
          have hf9 := World.ownsRow.frozenAt Hol.out.2 k
          have w30 := X3l.out.cell0
          have w31 := X3l.out.cell1
          have w32 := X3l.out.lt
          have HoS := Lib.hid (Hol.out.stored k 0).1
          have HgS := Lib.hid (Hgl.out.far ⟨g, k, none⟩ (fun g2 hA => by have := (Hgl.out.ge hA).1; show g2 ≠ g; omega) (.int .i64 0))
          have Hes := Lib.hid (show (yl.setCell ⟨g, k, none⟩ (.int .i64 0)).heap.size = yl.heap.size by simp [World.setCell])
          go_wp2_with (at_builtin; refine app1at rfl _ _ rfl (yl.setCell ⟨g, k, none⟩ (.int .i64 0)) _ _ _ _ _ _ _ rfl rfl Hes.out HgS.out (by rw [Hes.out]; omega) (by omega) ?_; intro A' c' w9 hown' hlt' hgrow hloc')
          rw [Hes.out] at hlt'
          have hfa : ∀ q, (Value.slice A4 n4 c4).ownBlock = some q → y3.heap.size ≤ q := fun q e2 => (HgS.out.ge (own_block HgS.out e2)).1
          have ho9 : Own w9 (w.heap.size + 1 + 1) (some ⟨g, 0, none⟩) n c1 (os.set k 0) := HoS.out.kept hgrow (fun q e e2 => by injection e with e; injection e with e; have := hfa q e2; omega)
          have hx9 := (X3l.out.far (p := ⟨g, k, none⟩) (by show y.heap.size ≠ g; omega) (.int .i64 0)).grown hgrow (fun e => by have := hfa _ e.symm; omega)
          have hbr9 := (Hbrl.out.setCell (p := ⟨g, k, none⟩) hg1 (.int .i64 0)).grown hgrow (by rw [Hes.out]; omega) (fun q hq => by have := hfa q hq; omega)
          have Ho9 := Lib.hid ho9
          have Hx9 := Lib.hid hx9
          have Hbr9 := Lib.hid hbr9
          have Hg9 := Lib.hid hown'
          clear hown' hgrow hloc' hfa ho9 hx9 hbr9 hu9 hf9
          go_roundw
          case rel => exact ⟨k + 1, _, _, _, _, _, by omega, by go_num, rfl, Ho9.out, by rw [Hpt.out]; exact Hg9.out, Hri2.out, Hx9.out, Hbr9.out⟩
          case measure => simp [intOf]; omega
        · have Hri2 := Lib.hid (Hri.out.no (fun h => hm0 (by rw [← Hm5.out]; exact Hiff.out.2 h.2)))
          have Hpt := Lib.hid (show Fl.pts S (k + 1) = Fl.pts S k from Fl.pts_no (by
            rcases Bool.eq_false_or_eq_true (S.getD k false) with h | h
            · have := ((Hri.out.yes k hkn).1 h).1; omega
            · exact h))
          go_wp2_with fail
          go_roundw
          case rel => exact ⟨k + 1, _, _, _, _, _, by omega, by go_num, rfl, Hol.out, by rw [Hpt.out]; exact Hgl.out, Hri2.out, X3l.out, Hbrl.out⟩
          case measure => simp [intOf]; omega
      · have hbx : (u == x) = false := by simpa using hux
        have Hri2 := Lib.hid (Hri.out.no (fun h => hux (by rw [← Hx.out]; exact h.1)))
        have Hpt := Lib.hid (show Fl.pts S (k + 1) = Fl.pts S k from Fl.pts_no (by
            rcases Bool.eq_false_or_eq_true (S.getD k false) with h | h
            · have := ((Hri.out.yes k hkn).1 h).1; omega
            · exact h))
        clear hux
        go_wp2_with fail
        go_roundw
        case rel => exact ⟨k + 1, _, _, _, _, _, by omega, by go_num, rfl, Ho.out, by rw [Hpt.out]; exact Hg.out, Hri2.out, X3.out, Hbr.out⟩
        case measure => simp [intOf]; omega
    · have hbw : Below w.heap.size w wr := Hb.out.trans (Hbr.out.mono (by omega))
      obtain rfl : k = n := by omega
      have ho2 := (Ho.out.far ⟨w.heap.size + 1, 0, none⟩ (fun g hA => by have := (Ho.out.ge hA).1; show g ≠ w.heap.size + 1; omega) (.int .i64 s)).far ⟨w.heap.size + 1, 1, none⟩ (fun g hA => by have := (Ho.out.ge hA).1; show g ≠ w.heap.size + 1; omega) (.slice A1 k c1)
      have hg2 := (Hg.out.far ⟨w.heap.size + 1, 0, none⟩ (fun g hA => by have := (Hg.out.ge hA).1; show g ≠ w.heap.size + 1; omega) (.int .i64 s)).far ⟨w.heap.size + 1, 1, none⟩ (fun g hA => by have := (Hg.out.ge hA).1; show g ≠ w.heap.size + 1; omega) (.slice A1 k c1)
      have hb3 := (hbw.setCell (p := ⟨w.heap.size + 1, 0, none⟩) (by show w.heap.size ≤ w.heap.size + 1; omega) (.int .i64 s)).setCell (p := ⟨w.heap.size + 1, 1, none⟩) (by show w.heap.size ≤ w.heap.size + 1; omega) (.slice A1 k c1)
      have Ho2 := Lib.hid ho2
      have Hg2 := Lib.hid hg2
      have Hb3 := Lib.hid hb3
      have K0 := Lib.hid ((X1r.out.set0 s).cell0)
      have K1 := Lib.hid (((X1r.out.set0 s).set1 (.slice A1 k c1)).cell1)
      have v30 := X3.out.cell0
      have v31 := X3.out.cell1
      have v32 := X3.out.lt
      have v10 := X1r.out.cell0
      have v11 := X1r.out.cell1
      have v12 := X1r.out.frozen 0
      have v13 := X1r.out.frozen 1
      have v14 := X1r.out.lt
      clear ho2 hg2 hb3 hbw
      go_wp2_with fail
      have k0 := K0.out
      have k1 := K1.out
      refine bodyPost_ret (v := .tuple #[.agg #[.int .i64 s, .slice A1 k c1], .slice A4 n4 c4]) (by simp [results, Tryd.results84, go_sem, k0, k1]) rfl ?_
      exact ⟨_, _, _, _, _, S, os, rfl, Ho2.out.weaken (by omega), Hg2.out.weaken (by omega), Hri.out, Hb3.out⟩
end Go.Proofs.YtpogjegihhljpaaDoor

namespace Go.Proofs.YtpogjegihhljpaaDoor
set_option maxRecDepth 100000
open Go.RowKit

set_option maxRecDepth 100000 in
set_option maxHeartbeats 4000000 in
theorem s_sorted (w : World) (B : Nat) (A : Option Addr) (n c : Nat) (xs : List Int) (h : Ints w B A n xs) (hB : B ≤ w.heap.size) (hn : n ≤ 1000000) :
    Calls Tryd.prog 87 #[.slice A n c] w fun e w' => ∃ A' c' ys, e = .returned (.slice A' n c') ∧ Own w' w.heap.size A' n c' ys ∧ So.SO xs ys n ∧ Below w.heap.size w w' := by
  have H := Lib.hid h
  have hl := h.1
  clear h
  go_enter Tryd.func87, Tryd.ntmps87
  go_wp2_with fail
  refine (s_copyInts _ _ _ _ _ _ H.out hB hn).mono ?_
  rintro e y ⟨A1, c1, rfl, ho, hb⟩
  have Ho := Lib.hid ho
  have Hb := Lib.hid hb
  have hzy := hb.size
  clear ho hb
  go_wp2_with fail
  go_loopw [4] (fun i wr => ∃ k ys, 1 ≤ k ∧ (k ≤ n ∨ k = 1) ∧ i = .int .i64 (k : Nat) ∧ Own wr w.heap.size A1 n c1 ys ∧ So.SO xs ys k ∧ Below w.heap.size w wr) (fun i _ => n - (intOf i).toNat)
  case atStart => exact ⟨1, _, by omega, by omega, rfl, Ho.out, So.SO.start xs, Hb.out⟩
  case round =>
    clear Ho Hb
    obtain ⟨k, ys, hk1, hk2, rfl, ho, hso, hbr⟩ := hrel
    obtain ⟨wo, rfl⟩ : ∃ wo : World, wo = wr := ⟨_, rfl⟩
    have Ho := Lib.hid ho
    have Hso := Lib.hid hso
    have Hbr := Lib.hid hbr
    clear ho hso hbr
    by_cases hkn : k < n
    · obtain ⟨g, hA1⟩ : ∃ g, A1 = some ⟨g, 0, none⟩ := by
        obtain ⟨g, cap, hv, _⟩ := World.ownsRow.form Ho.out.2 (by omega)
        exact ⟨g, by injection hv⟩
      subst hA1
      have hkk : (k : Int) < n := by omega
      go_wp2_with fail
      go_loopw [5] (fun i wr => ∃ j zs, j ≤ k ∧ i = .int .i64 (j : Nat) ∧ Own wr w.heap.size (some ⟨g, 0, none⟩) n c1 zs ∧ So.SI xs zs k j ∧ Below w.heap.size w wr) (fun i _ => (intOf i).toNat)
      case atStart => exact ⟨k, _, by omega, rfl, Ho.out, Hso.out.go, Hbr.out⟩
      case round =>
        clear Ho Hso Hbr
        obtain ⟨j, zs, hj, rfl, ho, hsi, hbr⟩ := hrel
        have hzl := ho.1
        have hgg := (ho.ge rfl).1
        have Ho := Lib.hid ho
        have Hsi := Lib.hid hsi
        have Hbr := Lib.hid hbr
        clear ho hsi hbr
        by_cases hj0 : j = 0
        · subst hj0
          have Hst := Lib.hid (Hsi.out.stop hj (.inl rfl))
          go_wp2_with fail
          go_quiet (fail)
          go_wp2_with fail
          go_roundw
          case rel => exact ⟨k + 1, _, by omega, by omega, by go_num, Own.drewN Ho.out _, Hst.out, ⟨Hbr.out.os, Hbr.out.tape, Hbr.out.output, Hbr.out.size, Hbr.out.block⟩⟩
          case measure => simp [intOf]; omega
        · obtain ⟨i, rfl⟩ : ∃ i, j = i + 1 := ⟨j - 1, by omega⟩
          have c1' : wr.cell? ⟨g, i + 1, none⟩ = some (.int .i64 (zs.getD (i + 1) 0)) := by
            rw [World.ownsRow.cellAt Ho.out.2 (i + 1) (by omega)]
            simp [List.getD_eq_getElem?_getD, List.getElem?_eq_getElem (show i + 1 < zs.length by omega)]
          have c0' : wr.cell? ⟨g, i, none⟩ = some (.int .i64 (zs.getD i 0)) := by
            rw [World.ownsRow.cellAt Ho.out.2 i (by omega)]
            simp [List.getD_eq_getElem?_getD, List.getElem?_eq_getElem (show i < zs.length by omega)]
          have f1 := World.ownsRow.frozenAt Ho.out.2 (i + 1)
          have f0 := World.ownsRow.frozenAt Ho.out.2 i
          by_cases hlt : zs.getD (i + 1) 0 < zs.getD i 0
          · have Hsw := Lib.hid (Hsi.out.swap (by omega) hj (by omega) hlt)
            obtain ⟨u1, hu1⟩ : ∃ u, zs.getD (i + 1) 0 = u := ⟨_, rfl⟩
            obtain ⟨u0, hu0⟩ : ∃ u, zs.getD i 0 = u := ⟨_, rfl⟩
            have Hu1 := Lib.hid hu1
            have Hu0 := Lib.hid hu0
            rw [hu1] at c1' hlt
            rw [hu0] at c0' hlt
            clear hu1 hu0
            go_wp2_with fail
            go_quiet (fail)
            go_wp2_with fail
            go_roundw
            case rel =>
              have hst := ((Ho.out.drewN nq).stored (i + 1) u0).1
              refine ⟨i, _, by omega, by go_num, Own.stored hst i u1 |>.1, by have := Hsw.out; rw [show i + 1 - 1 = i from rfl, Hu1.out, Hu0.out] at this; exact this, ?_⟩
              have hbd : Below w.heap.size w (wr.drewN nq) := ⟨Hbr.out.os, Hbr.out.tape, Hbr.out.output, Hbr.out.size, Hbr.out.block⟩
              exact (hbd.setCell (p := ⟨g, i + 1, none⟩) hgg (.int .i64 u0)).setCell (p := ⟨g, i, none⟩) hgg (.int .i64 u1)
            case measure => simp [intOf]
          · have Hst := Lib.hid (Hsi.out.stop hj (.inr (by show zs.getD i 0 ≤ zs.getD (i + 1) 0; omega)))
            obtain ⟨u1, hu1⟩ : ∃ u, zs.getD (i + 1) 0 = u := ⟨_, rfl⟩
            obtain ⟨u0, hu0⟩ : ∃ u, zs.getD i 0 = u := ⟨_, rfl⟩
            rw [hu1] at c1' hlt
            rw [hu0] at c0' hlt
            clear hu1 hu0
            go_wp2_with fail
            go_quiet (fail)
            go_wp2_with fail
            go_roundw
            case rel => exact ⟨k + 1, _, by omega, by omega, by go_num, Own.drewN Ho.out _, Hst.out, ⟨Hbr.out.os, Hbr.out.tape, Hbr.out.output, Hbr.out.size, Hbr.out.block⟩⟩
            case measure => simp [intOf]; omega
    · have hfin : So.SO xs ys n := by
        rcases hk2 with h | h
        · obtain rfl : k = n := by omega
          exact Hso.out
        · exact ⟨Hso.out.len, Hso.out.perm, fun a b h1 h2 => Hso.out.pair a b h1 (by omega)⟩
      have Hfin := Lib.hid hfin
      clear hfin
      go_wp2_with fail
      go_ret
      exact ⟨_, _, _, rfl, Ho.out, Hfin.out, Hbr.out⟩
end Go.Proofs.YtpogjegihhljpaaDoor

namespace Go.Proofs.YtpogjegihhljpaaDoor
set_option maxRecDepth 100000
open Go.RowKit

theorem stepAppAll {ops : Array Oper} {o : Oper} {a : Act} {K : Act → World → Prop} {Q : Exit → Act → World → Prop} {E : Prop} (hgd : o.guard = none) (s x : Operand)
    (ho : o.op = .call { callee := .builtin .append, args := #[s, x], argTypes := #[23, 23] })
    (w : World) (B : Nat) (As : Option Addr) (m cs0 : Nat) (ys : List Int) (B' : Nat) (A : Option Addr) (n c : Nat) (xs : List Int) (hs : a.eval s = .slice As m cs0) (hx : a.eval x = .slice A n c)
    (hown : Own w B As m cs0 ys) (hin : Ints w B' A n xs) (hB : B ≤ w.heap.size) (hn : m + n ≤ 1000000000) (hpos : 0 < n)
    (h : ∀ A' c' w', Own w' B A' (m + n) c' (ys ++ xs) → Below B w w' → w.grownBy w' (Value.slice As m cs0).ownBlock → K (a.put o.dst (.slice A' (m + n) c')) w') :
    if Region.wanted o (yielded ops a.tmps) = true then Oper.wp Tryd.prog o a w K Q else E := by
  obtain ⟨i0, hi, hz0, hz1, hz2⟩ := info_parts info_int
  have hl := hin.1
  rcases hin.2 with h0 | ⟨b, o', rfl, _, hc⟩
  · omega
  · refine step_append_lies w hgd s x 23 ho B 3 i0 (.int .i64 0) 1 8 Tryd.underlying23 hi hz0 hz1 hz2 rfl (by decide) _ m _ hs hown.2 _ n c (xs.map (Value.int .i64)) hx (by rw [List.length_map, hl]; omega) ?_ (ints_oneCell _ _) hpos (by unfold maxLen; omega) (by omega) hB _ rfl ?_
    · intro j u hj
      have hj' : j < xs.length := by
        rcases Nat.lt_or_ge j xs.length with h | h
        · exact h
        · rw [List.getElem?_eq_none (by rw [List.length_map]; exact h)] at hj; cases hj
      have e : (⟨b, o', none⟩ : Addr).add j = ⟨b, o' + j, none⟩ := by by_cases hj0 : j = 0 <;> simp [Addr.add, hj0]
      rw [e, hc j (by omega)]
      rw [← hj]
      simp [List.getElem?_eq_getElem hj', List.getD_eq_getElem?_getD]
    · intro g cap w' hown' hgr _ _
      exact h _ _ _ ⟨by rw [List.length_append, hown.1, hl], by simpa using hown'⟩ (below_g hgr hB (fun k hk => (World.ownsRow.lt hown.2 k hk).1)) hgr
/-- A call of a Go function, as a step of a region that draws its order. -/
theorem stepCall {P : Program} {ops : Array Oper} {o : Oper} {a : Act} {K : Act → World → Prop} {Q : Exit → Act → World → Prop} {E : Prop} (hgd : o.guard = none) (w : World) (f : FuncId) (args : Array Operand) (tys : Array TypeId)
    (ho : o.op = .call { callee := .value (.func f), args := args, argTypes := tys }) (hf : (P.funcs[f]?).map (fun fn => (fn.name == "runtime.NumGoroutine", fn.body.isNone)) = some (false, false)) (vs : Array Value) (hvs : args.map a.eval = vs) (R : Ending → World → Prop) (hc : Calls P f vs w R)
    (h : ∀ e w', R e w' → ∃ v, e = .returned v ∧ K (a.put o.dst v) w') :
    if Region.wanted o (yielded ops a.tmps) = true then Oper.wp P o a w K Q else E := by
  have hw : Region.wanted o (yielded ops a.tmps) = true := by simp [Region.wanted, hgd]
  rw [if_pos hw]
  have hrun : (execOp a.eval o).run P w = .ok (.enter f vs) w := by
    subst hvs
    obtain ⟨fn, hfn, he⟩ := Option.map_eq_some_iff.1 hf
    obtain ⟨e1, e2⟩ := Prod.mk.inj he
    simp [execOp, ho, resolve, invoke, Act.eval, Result.andThen, Deferred.ofValue, callFunc, Sem.run_bind, hfn]
    rw [if_neg (by simpa using e1), if_neg (by intro h; rw [h] at e2; cases e2)]
  unfold Oper.wp
  rw [hrun, Oper.upon_enter]
  refine hc.mono ?_
  intro e w' hr
  obtain ⟨v, rfl, hk⟩ := h e w' hr
  exact hk
end Go.Proofs.YtpogjegihhljpaaDoor

namespace Go.Proofs.YtpogjegihhljpaaDoor
set_option maxRecDepth 100000
open Go.RowKit

/-- What a placed stone leads to, in memory. -/
def PlayedP (s : Int) (n : Nat) (R : Option (List Int × List Int) → Prop) (w : World) (e : Ending) (w' : World) : Prop :=
  (R none ∧ e = .returned (.tuple #[.agg #[.int .i64 0, .slice none 0 0], .slice none 0 0, .bool false]) ∧ Below w.heap.size w w') ∨
  ∃ os gs A1 c1 A2 n2 c2, R (some (os, gs)) ∧ e = .returned (.tuple #[.agg #[.int .i64 s, .slice A1 n c1], .slice A2 n2 c2, .bool true]) ∧ Own w' w.heap.size A1 n c1 os ∧ Own w' w.heap.size A2 n2 c2 gs ∧ Below w.heap.size w w'

def RemRel (w y4 : World) (gb : Nat) (s : Int) (n : Nat) (cs : List Int) (x : Int) (A : Option Addr) (c : Nat) (v : Value) (wx : World) : Prop :=
  ∃ A1 c1 A2 n2 c2 S os, v = .slice A2 n2 c2 ∧ Bx 25 wx gb s (.slice A1 n c1) ∧ Own wx y4.heap.size A1 n c1 os ∧ Own wx y4.heap.size A2 n2 c2 (Fl.pts S n) ∧ RI s n cs x n S os ∧
    Bx 25 wx w.heap.size s (.slice A n c) ∧ Bx 25 wx (w.heap.size + 1) 0 (.slice none 0 0) ∧ Below w.heap.size w wx ∧ y4.heap.size ≤ wx.heap.size

set_option maxRecDepth 100000 in
set_option maxHeartbeats 8000000 in
theorem s_play (s x : Int) (p : Nat) (su : Bool) (w : World) (B : Nat) (A : Option Addr) (n c : Nat) (cs : List Int) (h : Ints w B A n cs) (hB : B ≤ w.heap.size) (h1 : 1 ≤ s) (h2 : s ≤ 7) (hn : (n : Int) = s * s) (hp : p < n) (x1 : 1 ≤ x) (x2 : x ≤ 2) :
    Calls Tryd.prog 55 #[.agg #[.int .i64 s, .slice A n c], .int .i64 x, .int .i64 p, .bool su] w fun e w' => PlayedP s n (Plays s n cs x p su) w e w' := by
  have hsq := Pt.sq_bd s h1 h2
  have hn49 : n ≤ 49 := by omega
  have e1 : (w.alloc (.cells #[.int .i64 s, .slice A n c] 25)).heap.size = w.heap.size + 1 := by simp
  have x0 := (Bx.new 25 w s (.slice A n c)).alloc (.cells #[.int .i64 0, .slice none 0 0] 25)
  have xx := Bx.new 25 (w.alloc (.cells #[.int .i64 s, .slice A n c] 25)) 0 (.slice none 0 0)
  rw [e1] at xx
  have hb2 : Below w.heap.size w ((w.alloc (.cells #[.int .i64 s, .slice A n c] 25)).alloc (.cells #[.int .i64 0, .slice none 0 0] 25)) := ((Below.refl _ _).alloc (Nat.le_refl _) _).alloc (by simp) _
  have Hl := Lib.hid h.1
  have H := Lib.hid (h.below hb2 hB)
  have X0 := Lib.hid x0
  have X1 := Lib.hid xx
  have Hb := Lib.hid hb2
  have Hn := Lib.hid hn
  have hpn : (p : Int) < n := by omega
  obtain ⟨b, o, hA, hbB, hc⟩ : ∃ b o, A = some ⟨b, o, none⟩ ∧ b < B ∧ ∀ j, j < n → ((w.alloc (.cells #[.int .i64 s, .slice A n c] 25)).alloc (.cells #[.int .i64 0, .slice none 0 0] 25)).cell? ⟨b, o + j, none⟩ = some (.int .i64 (cs.getD j 0)) := by
    rcases (h.below hb2 hB).2 with h0 | ⟨b, o, hA, hbB, hc⟩
    · omega
    · exact ⟨b, o, hA, hbB, hc⟩
  subst hA
  have ck := hc p hp
  obtain ⟨u, hu⟩ : ∃ u, cs.getD p 0 = u := ⟨_, rfl⟩
  have Hu := Lib.hid hu
  rw [hu] at ck
  clear e1 x0 xx hb2 h hn hc hu
  by_cases hu0 : u = 0
  · have hbx : (u != 0) = false := by simpa using hu0
    have Hu0 : Hid (cs.getD p 0 = 0) := Lib.hid (by rw [Hu.out, hu0])
    clear hu0
    go_enter Tryd.func55, Tryd.ntmps55
    go_wp2_with fail
    refine (s_copyBoard _ _ _ _ _ _ _ H.out (by simp; omega) (by omega)).mono ?_
    rintro e y ⟨A1, c1, rfl, ho, hb⟩
    have X0 := Lib.hid (X0.out.below hb X0.out.lt)
    have X1 := Lib.hid (X1.out.below hb X1.out.lt)
    have Hb := Lib.hid (Hb.out.trans (hb.mono (by simp; omega)))
    have Ho := Lib.hid (ho.weaken (B' := w.heap.size + 1 + 1) (by simp))
    obtain ⟨g, hA1⟩ : ∃ g, A1 = some ⟨g, 0, none⟩ := by
      obtain ⟨g, cap, hv, _⟩ := World.ownsRow.form ho.2 (by omega)
      exact ⟨g, by injection hv⟩
    subst hA1
    have hg1 := (Ho.out.ge rfl).1
    have hg2 := (Ho.out.ge rfl).2
    clear hb ho ck
    go_upto_region 4 with (fail)
    obtain ⟨y3, hy3, hb3, z3, z4⟩ := new_box y (.cells #[.int .i64 s, .slice (some ⟨g, 0, none⟩) n c1] 25)
    have X3 : Hid (Bx 25 y3 y.heap.size s (.slice (some ⟨g, 0, none⟩) n c1)) := Lib.hid (by rw [hy3]; exact Bx.new _ _ _ _)
    rw [← hy3]
    clear hy3
    have X0 := Lib.hid (X0.out.below hb3 X0.out.lt)
    have X1 := Lib.hid (X1.out.below hb3 X1.out.lt)
    have Ho := Lib.hid (Ho.out.below hb3)
    have z1 : w.heap.size + 1 < y.heap.size := by have := X1.out.lt; omega
    have Hb := Lib.hid (Hb.out.trans (hb3.mono (by omega)))
    clear hb3
    obtain ⟨v, hv⟩ : ∃ v, y3.cell? ⟨g, p, none⟩ = some v := by
      have := World.ownsRow.cellAt Ho.out.2 p (by omega)
      rw [this]
      exact ⟨_, List.getElem?_eq_getElem (by rw [List.length_map, Ho.out.1]; exact hp)⟩
    have hf := World.ownsRow.frozenAt Ho.out.2 p
    have t0 := X3.out.cell0
    have t1 := X3.out.cell1
    have t2 := X3.out.lt
    go_upto_region 5 with (fail)
    obtain ⟨y4, hy4⟩ : ∃ y4, y4 = y3.setCell ⟨g, p, none⟩ (.int .i64 x) := ⟨_, rfl⟩
    have es : y4.heap.size = y3.heap.size := by rw [hy4]; simp [World.setCell]
    have X0 : Hid (Bx 25 y4 w.heap.size s (.slice (some ⟨b, o, none⟩) n c)) := Lib.hid (by rw [hy4]; exact X0.out.far (by show w.heap.size ≠ g; omega) _)
    have X1 : Hid (Bx 25 y4 (w.heap.size + 1) 0 (.slice none 0 0)) := Lib.hid (by rw [hy4]; exact X1.out.far (by show w.heap.size + 1 ≠ g; omega) _)
    have X3 : Hid (Bx 25 y4 y.heap.size s (.slice (some ⟨g, 0, none⟩) n c1)) := Lib.hid (by rw [hy4]; exact X3.out.far (by show y.heap.size ≠ g; omega) _)
    have Ho : Hid (Own y4 (w.heap.size + 1 + 1) (some ⟨g, 0, none⟩) n c1 (cs.set p x)) := Lib.hid (by rw [hy4]; exact (Ho.out.stored p x).1)
    have Hb : Hid (Below w.heap.size w y4) := Lib.hid (by rw [hy4]; exact Hb.out.setCell (by show w.heap.size ≤ g; omega) _)
    rw [← hy4]
    clear hy4 hv hf t0 t1 t2
    have t0 := X3.out.cell0
    have t1 := X3.out.cell1
    have t2 := X3.out.lt
    have t3 := X3.out.frozen 0
    have t4 := X3.out.frozen 1
    go_cut [12] (fun v wx => RemRel w y4 y.heap.size s n (cs.set p x) (oth x) (some ⟨b, o, none⟩) c v wx)
    case first =>
      go_region_with (first | (go_at_call 85; refine (s_opp _ _ x1 x2).mono ?_; rintro e w9 ⟨rfl, rfl⟩) | (go_at_call 84; refine (s_removed s (oth x) _ y4.heap.size _ n _ (cs.set p x) (by exact Ho.out.ints) ?_ h1 h2 Hn.out).mono ?_; (show y4.heap.size ≤ y4.heap.size; omega); rintro e ya ⟨Aa, ca, Ab, nb, cb, S, os, rfl, hoa, hob, hri, hba⟩; have hbw : Below y4.heap.size y4 ya := ⟨hba.os, hba.tape, hba.output, hba.size, hba.block⟩; have za := hbw.size; have v0 := (X3.out.below hbw t2).cell0; have v1 := (X3.out.below hbw t2).cell1; have v2 := (X3.out.below hbw t2).frozen 0; have v3 := (X3.out.below hbw t2).frozen 1; have v4 := (X3.out.below hbw t2).lt; have HX3 := Lib.hid (X3.out.below hbw t2); have Hoa : Hid (Own ya y4.heap.size Aa n ca os) := Lib.hid hoa; have Hob : Hid (Own ya y4.heap.size Ab nb cb (Fl.pts S n)) := Lib.hid hob; have Hri := Lib.hid hri; have Hba := Lib.hid hbw; clear hoa hob hri hba hbw))
      all_goals go_wp2_with fail
      all_goals go_meet
      all_goals
        have hX3 := (HX3.out.set0 s).set1 (.slice Aa n ca)
        have ho9 := (Hoa.out.far ⟨y.heap.size, 0, none⟩ (fun g hA => by have := (Hoa.out.ge hA).1; show g ≠ y.heap.size; omega) (.int .i64 s)).far ⟨y.heap.size, 1, none⟩ (fun g hA => by have := (Hoa.out.ge hA).1; show g ≠ y.heap.size; omega) (.slice Aa n ca)
        have hg9 := (Hob.out.far ⟨y.heap.size, 0, none⟩ (fun g hA => by have := (Hob.out.ge hA).1; show g ≠ y.heap.size; omega) (.int .i64 s)).far ⟨y.heap.size, 1, none⟩ (fun g hA => by have := (Hob.out.ge hA).1; show g ≠ y.heap.size; omega) (.slice Aa n ca)
        have hx0 := ((X0.out.below Hba.out X0.out.lt).far (p := ⟨y.heap.size, 0, none⟩) (by show w.heap.size ≠ y.heap.size; omega) (.int .i64 s)).far (p := ⟨y.heap.size, 1, none⟩) (by show w.heap.size ≠ y.heap.size; omega) (.slice Aa n ca)
        have hx1 := ((X1.out.below Hba.out X1.out.lt).far (p := ⟨y.heap.size, 0, none⟩) (by show w.heap.size + 1 ≠ y.heap.size; omega) (.int .i64 s)).far (p := ⟨y.heap.size, 1, none⟩) (by show w.heap.size + 1 ≠ y.heap.size; omega) (.slice Aa n ca)
        have hbb := ((Hb.out.trans (Hba.out.mono (by omega))).setCell (p := ⟨y.heap.size, 0, none⟩) (by show w.heap.size ≤ y.heap.size; omega) (.int .i64 s)).setCell (p := ⟨y.heap.size, 1, none⟩) (by show w.heap.size ≤ y.heap.size; omega) (.slice Aa n ca)
        exact ⟨_, _, _, _, _, _, _, rfl, hX3, ho9, hg9, Hri.out, hx0, hx1, hbb, by simp [World.setCell]; omega⟩
    case rest =>
      clear X0 X1 X3 Ho Hb t0 t1 t2 t3 t4
      obtain ⟨A1, c1, A2, n2, c2, S, os, rfl, hx3, ho, hg, hri, hx0, hx1, hb, hz9⟩ := hcut
      have X0 := Lib.hid hx0
      have X1 := Lib.hid hx1
      have X3 := Lib.hid hx3
      have Ho := Lib.hid ho
      have Hg := Lib.hid hg
      have Hri := Lib.hid hri
      have Hb := Lib.hid hb
      clear hx0 hx1 hx3 ho hg hri hb
      have t0 := X3.out.cell0
      have t1 := X3.out.cell1
      have t2 := X3.out.lt
      go_wp2_with fail
      refine (s_liberties s p _ _ _ n _ os Ho.out.ints (Nat.le_refl _) h1 h2 Hn.out hp).mono ?_
      rintro e yl ⟨A5, m5, c5, l5, S5, rfl, hol, hrl, hbl, hbb⟩
      have hm5 : m5 ≤ 49 := by have := hol.1; have := Fl.pts_len S5 n; omega
      have Hiff := Lib.hid (noLib_iff hrl hbl)
      have Hm5 := Lib.hid hol.1
      have zl := hbb.size
      have X0 := Lib.hid (X0.out.below hbb X0.out.lt)
      have X1 := Lib.hid (X1.out.below hbb X1.out.lt)
      have X3 := Lib.hid (X3.out.below hbb X3.out.lt)
      have Ho := Lib.hid (Ho.out.below hbb)
      have Hg := Lib.hid (Hg.out.below hbb)
      have Hb := Lib.hid (Hb.out.trans (hbb.mono (by omega)))
      clear hol hrl hbl hbb t0 t1 t2
      have t0 := X3.out.cell0
      have t1 := X3.out.cell1
      have t2 := X3.out.lt
      have r0 := X1.out.cell0
      have r1 := X1.out.cell1
      have r2 := X1.out.frozen 0
      have r3 := X1.out.frozen 1
      have r4 := X1.out.lt
      by_cases hm0 : m5 = 0
      · have Hno : Hid (NoLib s n os p) := Lib.hid (Hiff.out.1 (by rw [Hm5.out]; exact hm0))
        subst hm0
        cases su with
        | false =>
          have K0 := Lib.hid ((X1.out.set0 0).cell0)
          have K1 := Lib.hid (((X1.out.set0 0).set1 (.slice none 0 0)).cell1)
          have Hb3 := Lib.hid ((Hb.out.setCell (p := ⟨w.heap.size + 1, 0, none⟩) (by show w.heap.size ≤ w.heap.size + 1; omega) (.int .i64 0)).setCell (p := ⟨w.heap.size + 1, 1, none⟩) (by show w.heap.size ≤ w.heap.size + 1; omega) (.slice none 0 0))
          go_wp2_with fail
          have k0 := K0.out
          have k1 := K1.out
          refine bodyPost_ret (v := .tuple #[.agg #[.int .i64 0, .slice none 0 0], .slice none 0 0, .bool false]) (by simp [results, Tryd.results55, go_sem, k0, k1]) rfl ?_
          exact .inl ⟨.lost S os Hu0.out Hri.out Hno.out rfl, rfl, Hb3.out⟩
        | true =>
          go_wp2_with fail
          refine (s_removed s x _ _ _ n _ os Ho.out.ints (Nat.le_refl _) h1 h2 Hn.out).mono ?_
          rintro e yr ⟨Aa, ca, Ab, nb, cb, S2, os2, rfl, hoa, hob, hri2, hba⟩
          have zr := hba.size
          have Hr2 := Lib.hid (fun g (hA : A2 = some ⟨g, 0, none⟩) => (Hg.out.ge hA).2)
          have Hra := Lib.hid (fun g (hA : Aa = some ⟨g, 0, none⟩) => (hoa.ge hA).1)
          have hn2 : n2 ≤ 49 := by have := Hg.out.1; have := Fl.pts_len S n; omega
          have hnb : nb ≤ 49 := by have := hob.1; have := Fl.pts_len S2 n; omega
          have hnb0 : 0 < nb := by have := hob.1; have := pts_own Hl.out Hri.out hri2 Hno.out hp x1 x2; omega
          have Hlen := Lib.hid (show (Fl.pts S n ++ Fl.pts S2 n).length = n2 + nb by rw [List.length_append, Hg.out.1, hob.1])
          have Hne := Lib.hid (pts_own Hl.out Hri.out hri2 Hno.out hp x1 x2)
          have X1 := Lib.hid (X1.out.below hba X1.out.lt)
          have X3 := Lib.hid (X3.out.below hba X3.out.lt)
          have Hg := Lib.hid (Hg.out.below hba)
          have Hb := Lib.hid (Hb.out.trans (hba.mono (by omega)))
          have Hoa := Lib.hid hoa
          have Hob := Lib.hid hob
          have Hri2 := Lib.hid hri2
          clear hoa hob hri2 hba t0 t1 t2 r0 r1 r2 r3 r4
          have t0 := X3.out.cell0
          have t1 := X3.out.cell1
          have t2 := X3.out.lt
          have t3 := X3.out.frozen 0
          have t4 := X3.out.frozen 1
          go_upto_region 11 with (fail)
          obtain ⟨y6, hy6⟩ : ∃ y6, y6 = (yr.setCell ⟨y.heap.size, 0, none⟩ (.int .i64 s)).setCell ⟨y.heap.size, 1, none⟩ (.slice Aa n ca) := ⟨_, rfl⟩
          have es : y6.heap.size = yr.heap.size := by rw [hy6]; simp [World.setCell]
          have Hoa : Hid (Own y6 (w.heap.size + 1 + 1) Aa n ca os2) := Lib.hid (by rw [hy6]; exact ((Hoa.out.far ⟨y.heap.size, 0, none⟩ (fun g hA => by have := (Hoa.out.ge hA).1; show g ≠ y.heap.size; omega) (.int .i64 s)).far ⟨y.heap.size, 1, none⟩ (fun g hA => by have := (Hoa.out.ge hA).1; show g ≠ y.heap.size; omega) (.slice Aa n ca)).weaken (by omega))
          have Hob : Hid (Own y6 yl.heap.size Ab nb cb (Fl.pts S2 n)) := Lib.hid (by rw [hy6]; exact ((Hob.out.far ⟨y.heap.size, 0, none⟩ (fun g hA => by have := (Hob.out.ge hA).1; show g ≠ y.heap.size; omega) (.int .i64 s)).far ⟨y.heap.size, 1, none⟩ (fun g hA => by have := (Hob.out.ge hA).1; show g ≠ y.heap.size; omega) (.slice Aa n ca)))
          have Hg : Hid (Own y6 y4.heap.size A2 n2 c2 (Fl.pts S n)) := Lib.hid (by rw [hy6]; exact ((Hg.out.far ⟨y.heap.size, 0, none⟩ (fun g hA => by have := (Hg.out.ge hA).1; show g ≠ y.heap.size; omega) (.int .i64 s)).far ⟨y.heap.size, 1, none⟩ (fun g hA => by have := (Hg.out.ge hA).1; show g ≠ y.heap.size; omega) (.slice Aa n ca)))
          have X3 : Hid (Bx 25 y6 y.heap.size s (.slice Aa n ca)) := Lib.hid (by rw [hy6]; exact (X3.out.set0 s).set1 (.slice Aa n ca))
          have X1 : Hid (Bx 25 y6 (w.heap.size + 1) 0 (.slice none 0 0)) := Lib.hid (by rw [hy6]; exact (X1.out.far (p := ⟨y.heap.size, 0, none⟩) (by show w.heap.size + 1 ≠ y.heap.size; omega) (.int .i64 s)).far (p := ⟨y.heap.size, 1, none⟩) (by show w.heap.size + 1 ≠ y.heap.size; omega) (.slice Aa n ca))
          have Hb : Hid (Below w.heap.size w y6) := Lib.hid (by rw [hy6]; exact ((Hb.out.setCell (p := ⟨y.heap.size, 0, none⟩) (by show w.heap.size ≤ y.heap.size; omega) (.int .i64 s)).setCell (p := ⟨y.heap.size, 1, none⟩) (by show w.heap.size ≤ y.heap.size; omega) (.slice Aa n ca)))
          rw [← hy6]
          clear hy6 t0 t1 t2 t3 t4
          have t0 := X3.out.cell0
          have t1 := X3.out.cell1
          have t2 := X3.out.lt
          go_region_law (first | (refine stepAppAll rfl _ _ rfl _ y4.heap.size _ _ _ (Fl.pts S n) _ _ _ _ (Fl.pts S2 n) rfl rfl (by exact Hg.out) (by exact Hob.out.ints) (by show y4.heap.size ≤ y6.heap.size; omega) (by omega) (by omega) ?_; intro A9 c9 w9 hown hb9 hgr; have hb9w : Below y4.heap.size y6 w9 := ⟨hb9.os, hb9.tape, hb9.output, hb9.size, hb9.block⟩; have hgrw : y6.grownBy w9 (Value.slice A2 n2 c2).ownBlock := ⟨hgr.os, hgr.tape, hgr.output, hgr.size, hgr.block⟩; have z9 := hb9w.size; have HX1 := Lib.hid (X1.out.below hb9w (by omega)); have HX3 := Lib.hid (X3.out.below hb9w (by omega)); have Hob9 := Lib.hid (Own.kept Hoa.out hgrw (fun g hA e => by have h1 := Hra.out g hA; have h2 := Hr2.out g (own_block Hg.out e |> fun e2 => by rw [e2]); omega)); have Hown : Hid (Own w9 y4.heap.size A9 (n2 + nb) c9 (Fl.pts S n ++ Fl.pts S2 n)) := Lib.hid hown; have Hb9 := Lib.hid (Hb.out.trans (hb9w.mono (by omega))); have s0 := HX3.out.cell0; have s1 := HX3.out.cell1; clear hown hb9 hgr hb9w hgrw) | (refine stepCall rfl _ 87 _ _ rfl (by kernel_rfl) #[.slice A9 (n2 + nb) c9] (by simp [Act.eval]) _ (s_sorted _ w9.heap.size _ _ _ (Fl.pts S n ++ Fl.pts S2 n) (by exact Hown.out.ints) (by show w9.heap.size ≤ w9.heap.size; omega) (by omega)) ?_; rintro e w10 ⟨A10, c10, ys, rfl, hoy, hso, hb10⟩; refine ⟨_, rfl, ?_⟩; have hb10w : Below w9.heap.size w9 w10 := ⟨hb10.os, hb10.tape, hb10.output, hb10.size, hb10.block⟩; have z10 := hb10w.size; have HX1' := Lib.hid (HX1.out.below hb10w HX1.out.lt); have r0 := HX1'.out.cell0; have r1 := HX1'.out.cell1; have r2 := HX1'.out.frozen 0; have r3 := HX1'.out.frozen 1; have r4 := HX1'.out.lt; have s2 := (HX3.out.below hb10w HX3.out.lt).cell0; have s3 := (HX3.out.below hb10w HX3.out.lt).cell1; have Hoa' := Lib.hid (Hob9.out.below hb10w); have Hoy : Hid (Own w10 w9.heap.size A10 (n2 + nb) c10 ys) := Lib.hid hoy; have Hso := Lib.hid hso; have Hb10 := Lib.hid (Hb9.out.trans (hb10w.mono (by have := Hb9.out.size; omega))); clear hoy hso hb10 hb10w))
          all_goals go_wp2_with fail
          all_goals
            have k0 := (HX1'.out.set0 s).cell0
            have k1 := ((HX1'.out.set0 s).set1 (.slice Aa n ca)).cell1
            refine bodyPost_ret (v := .tuple #[.agg #[.int .i64 s, .slice Aa n ca], .slice A10 (n2 + nb) c10, .bool true]) (by simp [results, Tryd.results55, go_sem, k0, k1]) rfl ?_
            have ho3 := (Hoa'.out.far ⟨w.heap.size + 1, 0, none⟩ (fun g hA => by have := (Hoa'.out.ge hA).1; show g ≠ w.heap.size + 1; omega) (.int .i64 s)).far ⟨w.heap.size + 1, 1, none⟩ (fun g hA => by have := (Hoa'.out.ge hA).1; show g ≠ w.heap.size + 1; omega) (.slice Aa n ca)
            have hg3 := (Hoy.out.far ⟨w.heap.size + 1, 0, none⟩ (fun g hA => by have := (Hoy.out.ge hA).1; have := Hb9.out.size; show g ≠ w.heap.size + 1; omega) (.int .i64 s)).far ⟨w.heap.size + 1, 1, none⟩ (fun g hA => by have := (Hoy.out.ge hA).1; have := Hb9.out.size; show g ≠ w.heap.size + 1; omega) (.slice Aa n ca)
            have hb3 := (Hb10.out.setCell (p := ⟨w.heap.size + 1, 0, none⟩) (by show w.heap.size ≤ w.heap.size + 1; omega) (.int .i64 s)).setCell (p := ⟨w.heap.size + 1, 1, none⟩) (by show w.heap.size ≤ w.heap.size + 1; omega) (.slice Aa n ca)
            exact .inr ⟨_, _, _, _, _, _, _, .both S os S2 os2 ys (n2 + nb) Hu0.out Hri.out Hno.out rfl Hri2.out Hso.out Hlen.out, rfl, ho3.weaken (by omega), hg3.weaken (by have := Hb9.out.size; omega), hb3⟩
      · have Hno : Hid (¬ NoLib s n os p) := Lib.hid (fun h => hm0 (by rw [← Hm5.out]; exact Hiff.out.2 h))
        have K0 := Lib.hid ((X1.out.set0 s).cell0)
        have K1 := Lib.hid (((X1.out.set0 s).set1 (.slice A1 n c1)).cell1)
        have Hb3 := Lib.hid ((Hb.out.setCell (p := ⟨w.heap.size + 1, 0, none⟩) (by show w.heap.size ≤ w.heap.size + 1; omega) (.int .i64 s)).setCell (p := ⟨w.heap.size + 1, 1, none⟩) (by show w.heap.size ≤ w.heap.size + 1; omega) (.slice A1 n c1))
        have Ho3 := Lib.hid ((Ho.out.far ⟨w.heap.size + 1, 0, none⟩ (fun g hA => by have := (Ho.out.ge hA).1; show g ≠ w.heap.size + 1; omega) (.int .i64 s)).far ⟨w.heap.size + 1, 1, none⟩ (fun g hA => by have := (Ho.out.ge hA).1; show g ≠ w.heap.size + 1; omega) (.slice A1 n c1))
        have Hg3 := Lib.hid ((Hg.out.far ⟨w.heap.size + 1, 0, none⟩ (fun g hA => by have := (Hg.out.ge hA).1; show g ≠ w.heap.size + 1; omega) (.int .i64 s)).far ⟨w.heap.size + 1, 1, none⟩ (fun g hA => by have := (Hg.out.ge hA).1; show g ≠ w.heap.size + 1; omega) (.slice A1 n c1))
        go_wp2_with fail
        have k0 := K0.out
        have k1 := K1.out
        refine bodyPost_ret (v := .tuple #[.agg #[.int .i64 s, .slice A1 n c1], .slice A2 n2 c2, .bool true]) (by simp [results, Tryd.results55, go_sem, k0, k1]) rfl ?_
        exact .inr ⟨_, _, _, _, _, _, _, .lives S os Hu0.out Hri.out Hno.out, rfl, Ho3.out.weaken (by omega), Hg3.out.weaken (by omega), Hb3.out⟩
  · have hbx : (u != 0) = true := by simpa using hu0
    have Hu0 : Hid (cs.getD p 0 ≠ 0) := Lib.hid (by rw [Hu.out]; exact hu0)
    clear hu0
    go_enter Tryd.func55, Tryd.ntmps55
    go_wp2_with fail
    have k0 := X1.out.cell0
    have k1 := X1.out.cell1
    refine bodyPost_ret (v := .tuple #[.agg #[.int .i64 0, .slice none 0 0], .slice none 0 0, .bool false]) (by simp [results, Tryd.results55, go_sem]) rfl ?_
    exact .inl ⟨.taken Hu0.out, rfl, Hb.out⟩
end Go.Proofs.YtpogjegihhljpaaDoor

namespace Go.Proofs.YtpogjegihhljpaaDoor
set_option maxRecDepth 100000
open Go.RowKit

theorem s_vcolor (x : Int) (w : World) : Calls Tryd.prog 53 #[.int .i64 x] w fun e w' => e = .returned (.bool (decide (1 ≤ x) && decide (x ≤ 2))) ∧ w = w' := by
  go_enter Tryd.func53, Tryd.ntmps53
  go_wp2_with fail
  refine (s_range _ _ _ _).mono ?_
  rintro e w' ⟨rfl, rfl⟩
  go_wp2_with fail
  go_ret
  exact ⟨rfl, rfl⟩

set_option maxRecDepth 100000 in
set_option maxHeartbeats 4000000 in
theorem s_PlayStone (s x : Int) (p : Nat) (su : Bool) (w : World) (B : Nat) (A : Option Addr) (n c : Nat) (cs : List Int) (h : Ints w B A n cs) (hB : B ≤ w.heap.size) (hv : Bd.okB s cs = true) (hp : p < n) (x1 : 1 ≤ x) (x2 : x ≤ 2) :
    Calls Tryd.prog 14 #[.agg #[.int .i64 s, .slice A n c], .int .i64 x, .int .i64 p, .bool su] w fun e w' => PlayedP s n (Plays s n cs x p su) w e w' := by
  obtain ⟨q1, q2, q3, _⟩ := (Bd.okB_iff s cs).1 hv
  have q4 := Pt.sq_bd s q1 q2
  have hl := h.1
  have hn : (n : Int) = s * s := by omega
  have hn49 : n ≤ 49 := by omega
  have e1 : (w.alloc (.cells #[.int .i64 s, .slice A n c] 25)).heap.size = w.heap.size + 1 := by simp
  have x0 := (Bx.new 25 w s (.slice A n c)).alloc (.cells #[.int .i64 0, .slice none 0 0] 25)
  have xx := Bx.new 25 (w.alloc (.cells #[.int .i64 s, .slice A n c] 25)) 0 (.slice none 0 0)
  rw [e1] at xx
  have hb2 : Below w.heap.size w ((w.alloc (.cells #[.int .i64 s, .slice A n c] 25)).alloc (.cells #[.int .i64 0, .slice none 0 0] 25)) := ((Below.refl _ _).alloc (Nat.le_refl _) _).alloc (by simp) _
  have H := Lib.hid (h.below hb2 hB)
  have X0 := Lib.hid x0
  have X1 := Lib.hid xx
  have Hb := Lib.hid hb2
  have Hn := Lib.hid hn
  have hpp : (decide (0 ≤ (p : Int)) && decide ((p : Int) < s * s)) = true := by simp; omega
  have hxx : (decide (1 ≤ x) && decide (x ≤ 2)) = true := by simp; omega
  clear e1 x0 xx hb2 h hn hl q3
  go_enter Tryd.func14, Tryd.ntmps14
  go_wp2_with fail
  refine (s_validBoard _ _ _ _ _ _ _ H.out (by simp; omega) (by omega)).mono ?_
  rintro e y2 ⟨rfl, hb⟩
  rw [hv]
  have X0 := Lib.hid (X0.out.below hb X0.out.lt)
  have X1 := Lib.hid (X1.out.below hb X1.out.lt)
  have H := Lib.hid (H.out.below hb (by simp; omega))
  have Hb := Lib.hid (Hb.out.trans (hb.mono (by simp; omega)))
  clear hb hv
  have z2 := X1.out.lt
  have u00 := X0.out.cell0
  have u01 := X0.out.cell1
  have u02 := X0.out.lt
  go_wp2_with fail
  refine (s_vcolor _ _).mono ?_
  rintro e w' ⟨rfl, rfl⟩
  rw [hxx]
  go_wp2_with fail
  refine (s_vpoint _ _ _ q1 q2).mono ?_
  rintro e w' ⟨rfl, rfl⟩
  rw [hpp]
  clear hpp hxx
  go_wp2_with fail
  refine (s_play s x p su _ B _ n _ cs H.out (by omega) q1 q2 Hn.out hp x1 x2).mono ?_
  rintro e y (⟨h0, rfl, hb⟩ | ⟨os, gs, A1, c1, A2, n2, c2, hR, rfl, ho, hg, hb⟩)
  · have X1 := X1.out.below hb X1.out.lt
    have Hb := Lib.hid (Hb.out.trans (hb.mono (by omega)))
    have H0 := Lib.hid h0
    clear hb u00 u01 h0
    have c0 := X1.cell0
    have c1 := X1.cell1
    have f0 := X1.frozen 0
    have f1 := X1.frozen 1
    have l1 := X1.lt
    have K0 := Lib.hid ((X1.set0 0).cell0)
    have K1 := Lib.hid (((X1.set0 0).set1 (.slice none 0 0)).cell1)
    have Hb3 := Lib.hid ((Hb.out.setCell (p := ⟨w.heap.size + 1, 0, none⟩) (by show w.heap.size ≤ w.heap.size + 1; omega) (.int .i64 0)).setCell (p := ⟨w.heap.size + 1, 1, none⟩) (by show w.heap.size ≤ w.heap.size + 1; omega) (.slice none 0 0))
    clear X1
    go_wp2_with fail
    have k0 := K0.out
    have k1 := K1.out
    refine bodyPost_ret (v := .tuple #[.agg #[.int .i64 0, .slice none 0 0], .slice none 0 0, .bool false]) (by simp [results, Tryd.results14, go_sem, k0, k1]) rfl ?_
    exact .inl ⟨H0.out, rfl, Hb3.out⟩
  · have X1 := X1.out.below hb X1.out.lt
    have Hb := Lib.hid (Hb.out.trans (hb.mono (by omega)))
    have Hr := Lib.hid hR
    have Ho2 := Lib.hid ((ho.far ⟨w.heap.size + 1, 0, none⟩ (fun g hA => by have := (ho.ge hA).1; show g ≠ w.heap.size + 1; omega) (.int .i64 s)).far ⟨w.heap.size + 1, 1, none⟩ (fun g hA => by have := (ho.ge hA).1; show g ≠ w.heap.size + 1; omega) (.slice A1 n c1))
    have Hg2 := Lib.hid ((hg.far ⟨w.heap.size + 1, 0, none⟩ (fun g hA => by have := (hg.ge hA).1; show g ≠ w.heap.size + 1; omega) (.int .i64 s)).far ⟨w.heap.size + 1, 1, none⟩ (fun g hA => by have := (hg.ge hA).1; show g ≠ w.heap.size + 1; omega) (.slice A1 n c1))
    clear hb u00 u01 hR ho hg
    have c0 := X1.cell0
    have c1' := X1.cell1
    have f0 := X1.frozen 0
    have f1 := X1.frozen 1
    have l1 := X1.lt
    have K0 := Lib.hid ((X1.set0 s).cell0)
    have K1 := Lib.hid (((X1.set0 s).set1 (.slice A1 n c1)).cell1)
    have Hb3 := Lib.hid ((Hb.out.setCell (p := ⟨w.heap.size + 1, 0, none⟩) (by show w.heap.size ≤ w.heap.size + 1; omega) (.int .i64 s)).setCell (p := ⟨w.heap.size + 1, 1, none⟩) (by show w.heap.size ≤ w.heap.size + 1; omega) (.slice A1 n c1))
    clear X1
    go_wp2_with fail
    have k0 := K0.out
    have k1 := K1.out
    refine bodyPost_ret (v := .tuple #[.agg #[.int .i64 s, .slice A1 n c1], .slice A2 n2 c2, .bool true]) (by simp [results, Tryd.results14, go_sem, k0, k1]) rfl ?_
    exact .inr ⟨_, _, _, _, _, _, _, Hr.out, rfl, Ho2.out.weaken (by omega), Hg2.out.weaken (by omega), Hb3.out⟩

/-- The same in one form: what a drawn board wants of it. -/
theorem s_PlayStone1 (s x : Int) (p : Nat) (su : Bool) (w : World) (B : Nat) (A : Option Addr) (n c : Nat) (cs : List Int) (h : Ints w B A n cs) (hB : B ≤ w.heap.size) (hv : Bd.okB s cs = true) (hp : p < n) (x1 : 1 ≤ x) (x2 : x ≤ 2) :
    Calls Tryd.prog 14 #[.agg #[.int .i64 s, .slice A n c], .int .i64 x, .int .i64 p, .bool su] w fun e w' => ∃ (s' : Int) (A' : Option Addr) (n' c' : Nat) (A2 : Option Addr) (n2 c2 : Nat) (cs' : List Int) (ok : Bool), e = .returned (.tuple #[.agg #[.int .i64 s', .slice A' n' c'], .slice A2 n2 c2, .bool ok]) ∧
      (ok = true → s' = s ∧ n' = n ∧ Own w' w.heap.size A' n' c' cs' ∧ OkL cs') ∧ Below w.heap.size w w' := by
  have hl := h.1
  have hok : OkL cs := okL_mem.2 ((Bd.okB_iff s cs).1 hv).2.2.2
  refine (s_PlayStone s x p su w B A n c cs h hB hv hp x1 x2).mono ?_
  rintro e y (⟨h0, rfl, hb⟩ | ⟨os, gs, A1, c1, A2, n2, c2, hR, rfl, ho, hg, hb⟩)
  · exact ⟨_, _, _, _, _, _, _, [], _, rfl, fun h => (by cases h), hb⟩
  · exact ⟨_, _, _, _, _, _, _, os, _, rfl, fun _ => ⟨rfl, rfl, ho, (hR.ok hl hok x1 x2).2.1⟩, hb⟩
end Go.Proofs.YtpogjegihhljpaaDoor

namespace Go.Proofs.YtpogjegihhljpaaDoor
set_option maxRecDepth 100000
open Go.RowKit

/-- The program's eyes, as the model tells them. -/
theorem eye_bit (t q : Nat) (cs : List Int) (x y : Int) (n m : Nat) (h1 : 1 ≤ t) (h2 : t ≤ 7) (hn : n = t * t) (hl : cs.length = n) (hok : ∀ c ∈ cs, 0 ≤ c ∧ c ≤ 2) (hx : (x = 1 ∧ y = 2) ∨ (x = 2 ∧ y = 1)) (hq : q < t * t)
    (hm : IsEy t (encM t (Bt.msk cs 0 n) (Bt.msk cs x n) (Bt.msk cs y n)) (Bt.msk cs y n) m) : m.testBit q = eyeS t cs q x := by
  have hy : 3 - x = y := by omega
  rw [hm q, enc_eq t cs x y n h1 h2 hn hl hok hx q hq, hold_eq t cs y n h1 h2 hn q hq, eyeS, hy]
theorem ey_lt {s Y O m : Nat} (h : IsEy s Y O m) (hY : Y < 2 ^ 49) : m < 2 ^ 49 := by
  refine Nat.lt_pow_two_of_testBit _ fun j hj => ?_
  rw [h j, Bt.high hY hj, Bool.false_and]

theorem ey_ex (t Y O : Nat) (hY : Y < 2 ^ 64) : ∃ m, IsEy t Y O m := by
  have key : ∀ j, j ≤ 64 → ∃ m : Nat, ∀ z : Nat, m.testBit z = (decide (z < j) && (Y.testBit z && holdB t z O)) := by
    intro j
    induction j with
    | zero => exact fun _ => ⟨0, fun z => by simp⟩
    | succ j ih =>
      intro hj
      obtain ⟨m, hm⟩ := ih (by omega)
      cases e : (Y.testBit j && holdB t j O)
      · refine ⟨m, fun z => ?_⟩
        rw [hm z]
        by_cases hz : z = j
        · subst hz; rw [e, Bool.and_false, Bool.and_false]
        · congr 1; exact decide_eq_decide.2 (by omega)
      · refine ⟨m ||| 2 ^ j, fun z => ?_⟩
        rw [Nat.testBit_or, hm z, Nat.testBit_two_pow]
        by_cases hz : z = j
        · subst hz; rw [e]; simp
        · have a1 : decide (j = z) = false := decide_eq_false (by omega)
          rw [a1, Bool.or_false]
          congr 1; exact decide_eq_decide.2 (by omega)
  obtain ⟨m, hm⟩ := key 64 (Nat.le_refl _)
  refine ⟨m, fun z => ?_⟩
  rw [hm z]
  by_cases hz : z < 64
  · rw [decide_eq_true hz, Bool.true_and]
  · rw [Bt.high (n := 64) hY (by omega)]; simp

theorem i_eyesX (t : Nat) (cs : List Int) (x : Int) (n : Nat) (t1 : 1 ≤ t) (t2 : t ≤ 7) (hnn : n = t * t) (hl : cs.length = n) (hok : ∀ c ∈ cs, 0 ≤ c ∧ c ≤ 2) (hx : x = 1 ∨ x = 2) :
    ∃ m Y : Nat, m < 2 ^ 49 ∧ Y < 2 ^ (t * t) ∧ (∀ q, q < t * t → m.testBit q = eyeS t cs q x) ∧ (∀ q, q < t * t → Y.testBit q = encS t cs q x) ∧
      ∀ w, Tab w → Calls Tryd.prog 67 #[.agg #[.int .i64 (t : Nat), .int .u64 (Bt.msk cs 0 n : Nat), .int .u64 (Bt.msk cs 1 n : Nat), .int .u64 (Bt.msk cs 2 n : Nat)], .int .i64 x] w fun e w' => e = .returned (.tuple #[.int .u64 (m : Nat), .int .u64 ((Y &&& (18446744073709551615 - m) : Nat) : Int)]) ∧ Below w.heap.size w w' := by
  have h7 := (Bt.masks t t1 t2).2.2.2.2.2.2
  have l0 : Bt.msk cs 0 n < 2 ^ (t * t) := by rw [← hnn]; exact Bt.msk_lt cs 0 n
  have l1 : Bt.msk cs 1 n < 2 ^ (t * t) := by rw [← hnn]; exact Bt.msk_lt cs 1 n
  have l2 : Bt.msk cs 2 n < 2 ^ (t * t) := by rw [← hnn]; exact Bt.msk_lt cs 2 n
  rcases hx with rfl | rfl
  · have hY := encM_lt (s := t) (M := Bt.msk cs 1 n) (O := Bt.msk cs 2 n) l0
    obtain ⟨m, hm⟩ := ey_ex t (encM t (Bt.msk cs 0 n) (Bt.msk cs 1 n) (Bt.msk cs 2 n)) (Bt.msk cs 2 n) (by omega)
    refine ⟨m, _, ey_lt hm (Nat.lt_of_lt_of_le hY h7), hY, fun q hq => eye_bit t q cs 1 2 n m t1 t2 hnn hl hok (by simp) hq hm, fun q hq => enc_eq t cs 1 2 n t1 t2 hnn hl hok (by simp) q hq, fun w ht => (i_eyes1 t _ _ _ w ht t1 t2 l0 l1 l2).mono ?_⟩
    rintro e w' ⟨m', rfl, hm', hb⟩
    rw [hm'.one hm]
    exact ⟨rfl, hb⟩
  · have hY := encM_lt (s := t) (M := Bt.msk cs 2 n) (O := Bt.msk cs 1 n) l0
    obtain ⟨m, hm⟩ := ey_ex t (encM t (Bt.msk cs 0 n) (Bt.msk cs 2 n) (Bt.msk cs 1 n)) (Bt.msk cs 1 n) (by omega)
    refine ⟨m, _, ey_lt hm (Nat.lt_of_lt_of_le hY h7), hY, fun q hq => eye_bit t q cs 2 1 n m t1 t2 hnn hl hok (by simp) hq hm, fun q hq => enc_eq t cs 2 1 n t1 t2 hnn hl hok (by simp) q hq, fun w ht => (i_eyes2 t _ _ _ w ht t1 t2 l0 l2 l1).mono ?_⟩
    rintro e w' ⟨m', rfl, hm', hb⟩
    rw [hm'.one hm]
    exact ⟨rfl, hb⟩

section
variable (s p x : Int) (w : World) (B : Nat) (A : Option Addr) (n c : Nat) (cs : List Int) (h : Ints w B A n cs) (hB : B ≤ w.heap.size) (hn : n ≤ 1000000000) (ht : Tab w)
include h hB hn ht

set_option maxHeartbeats 2000000 in
theorem i_IsEye : Calls Tryd.prog 31 #[.agg #[.int .i64 s, .slice A n c], .int .i64 p, .int .i64 x] w fun e w' => e = .returned (.bool (eyB s cs p x)) ∧ Below w.heap.size w w' := by
  have hb1 : Below w.heap.size w (w.alloc (.cells #[.int .i64 s, .slice A n c] 25)) := (Below.refl _ _).alloc (Nat.le_refl _) _
  have H := Lib.hid (h.below hb1 hB)
  have Hb := Lib.hid hb1
  have Bxx := Lib.hid (Bx.new 25 w s (.slice A n c))
  have HT := Lib.hid (ht.alloc (.cells #[.int .i64 s, .slice A n c] 25))
  have Hl := Lib.hid h.1
  have He := Lib.hid (show eyB s cs p x = (Bd.okB s cs && (Pt.okP s p && ((decide (1 ≤ x) && decide (x ≤ 2)) && eyeS s cs p x))) from rfl)
  clear hb1 h ht
  obtain ⟨b1, e1⟩ : ∃ b, Bd.okB s cs = b := ⟨_, rfl⟩
  have He1 := Lib.hid e1
  cases b1
  · have HF := Lib.hid (show eyB s cs p x = false by rw [He.out, e1]; rfl)
    clear e1
    go_enter Tryd.func31, Tryd.ntmps31
    go_wp2_with fail
    refine (i_validBoard _ _ _ _ _ _ _ H.out (by simp; omega) hn).mono ?_
    rintro e y ⟨rfl, hb⟩
    have Hb2 := Lib.hid (Hb.out.trans (hb.mono (by simp)))
    clear hb
    rw [He1.out]
    go_wp2_with fail
    go_ret
    exact ⟨ret_bool HF.out.symm, Hb2.out⟩
  · obtain ⟨b2, e2⟩ : ∃ b, Pt.okP s p = b := ⟨_, rfl⟩
    have He2 := Lib.hid e2
    cases b2
    · have HF := Lib.hid (show eyB s cs p x = false by rw [He.out, He1.out, e2]; rfl)
      clear e2 e1
      go_enter Tryd.func31, Tryd.ntmps31
      go_wp2_with fail
      refine (i_validBoard _ _ _ _ _ _ _ H.out (by simp; omega) hn).mono ?_
      rintro e y ⟨rfl, hb⟩
      have v0 := (Bxx.out.below hb (by simp)).cell0
      have v1 := (Bxx.out.below hb (by simp)).cell1
      have Hb2 := Lib.hid (Hb.out.trans (hb.mono (by simp)))
      clear hb
      rw [He1.out]
      go_wp2_with fail
      refine (i_point _ _ _).mono ?_
      rintro e w' ⟨rfl, rfl⟩
      rw [He2.out]
      go_wp2_with fail
      go_ret
      exact ⟨ret_bool HF.out.symm, Hb2.out⟩
    · obtain ⟨_, _, p3, p4⟩ := (Pt.okP_iff s p).1 e2
      clear e2
      obtain ⟨b3, e3⟩ : ∃ b, (decide (1 ≤ x) && decide (x ≤ 2)) = b := ⟨_, rfl⟩
      have He3 := Lib.hid e3
      cases b3
      · have HF := Lib.hid (show eyB s cs p x = false by rw [He.out, He1.out, He2.out, e3]; rfl)
        clear e3 e1 p3 p4
        go_enter Tryd.func31, Tryd.ntmps31
        go_wp2_with fail
        refine (i_validBoard _ _ _ _ _ _ _ H.out (by simp; omega) hn).mono ?_
        rintro e y ⟨rfl, hb⟩
        have v0 := (Bxx.out.below hb (by simp)).cell0
        have v1 := (Bxx.out.below hb (by simp)).cell1
        have Hb2 := Lib.hid (Hb.out.trans (hb.mono (by simp)))
        clear hb
        rw [He1.out]
        go_wp2_with fail
        refine (i_point _ _ _).mono ?_
        rintro e w' ⟨rfl, rfl⟩
        rw [He2.out]
        go_wp2_with fail
        refine (i_eyeStone _ _).mono ?_
        rintro e w' ⟨rfl, rfl⟩
        rw [He3.out]
        go_wp2_with fail
        go_ret
        exact ⟨ret_bool HF.out.symm, Hb2.out⟩
      · have hx : 1 ≤ x ∧ x ≤ 2 := by simpa using e3
        obtain ⟨q1, q2, q3, q4⟩ := (Bd.okB_iff s cs).1 e1
        obtain ⟨t, rfl⟩ := Int.eq_ofNat_of_zero_le (show 0 ≤ s by omega)
        obtain ⟨q, rfl⟩ := Int.eq_ofNat_of_zero_le p3
        have hq : q < t * t := by exact_mod_cast p4
        have t1 : 1 ≤ t := by omega
        have t2 : t ≤ 7 := by omega
        have hnn : n = t * t := by
          have h' := Hl.out
          have : (n : Int) = (t : Int) * t := by omega
          exact_mod_cast this
        have hsq := (Bt.sq_nat t t1 t2).2.1
        have h7 := (Bt.masks t t1 t2).2.2.2.2.2.2
        have HF := Lib.hid (show eyB (t : Int) cs (q : Int) x = eyeS t cs q x by rw [He.out, He1.out, He2.out, e3]; rfl)
        have CP : Hid (∀ w, Ints w B A n cs → B ≤ w.heap.size → Calls Tryd.prog 48 #[.agg #[.int .i64 (t : Nat), .slice A n c]] w fun e w' => e = .returned (.agg #[.int .i64 (t : Nat), .int .u64 (Bt.msk cs 0 n : Nat), .int .u64 (Bt.msk cs 1 n : Nat), .int .u64 (Bt.msk cs 2 n : Nat)]) ∧ Below w.heap.size w w') := Lib.hid fun w h hB => i_positionOf t w B A n c cs h hB e1
        obtain ⟨m, Y, hml, hYl, hmb, _, cE⟩ := i_eyesX t cs x n t1 t2 hnn Hl.out q4 (by omega)
        have hm64 : m < 18446744073709551616 := by omega
        have hmq := hmb q hq
        obtain ⟨f, hf⟩ : ∃ f, f = Y &&& (18446744073709551615 - m) := ⟨_, rfl⟩
        rw [← hf] at cE
        have CE := Lib.hid cE
        clear hml hYl hmb hf
        have hq64 : q < 64 := by omega
        have hbit := bit_ne m q hm64 hq64
        obtain ⟨P, hP⟩ : ∃ P, P = 2 ^ q := ⟨_, rfl⟩
        rw [← hP, hmq, ← HF.out] at hbit
        have Hbit := Lib.hid hbit
        have HP := Lib.hid hP
        obtain ⟨E0, h0⟩ : ∃ E, Bt.msk cs 0 n = E := ⟨_, rfl⟩
        obtain ⟨E1, h1⟩ : ∃ E, Bt.msk cs 1 n = E := ⟨_, rfl⟩
        obtain ⟨E2, h2⟩ : ∃ E, Bt.msk cs 2 n = E := ⟨_, rfl⟩
        rw [h0, h1, h2] at CP CE
        clear e3 hnn hq p3 p4 e1 hbit hP hmq q1 q2 q3 q4 hsq h7 cE h0 h1 h2 hx
        go_enter Tryd.func31, Tryd.ntmps31
        go_wp2_with fail
        refine (i_validBoard _ _ _ _ _ _ _ H.out (by simp; omega) hn).mono ?_
        rintro e y ⟨rfl, hb⟩
        have v0 := (Bxx.out.below hb (by simp)).cell0
        have v1 := (Bxx.out.below hb (by simp)).cell1
        have H2 := Lib.hid (H.out.below hb (by simp; omega))
        have HT2 := Lib.hid (HT.out.below hb)
        have Hb2 := Lib.hid (Hb.out.trans (hb.mono (by simp)))
        clear hb
        rw [He1.out]
        go_wp2_with fail
        refine (i_point _ _ _).mono ?_
        rintro e w' ⟨rfl, rfl⟩
        rw [He2.out]
        go_wp2_with fail
        refine (i_eyeStone _ _).mono ?_
        rintro e w' ⟨rfl, rfl⟩
        rw [He3.out]
        go_wp2_with fail
        refine (CP.out _ H2.out (by have := Hb2.out.size; omega)).mono ?_
        rintro e y2 ⟨rfl, hb⟩
        have HT3 := Lib.hid (HT2.out.below hb)
        have Hb3 := Lib.hid (Hb2.out.trans (hb.mono Hb2.out.size))
        clear hb v0 v1
        go_wp2_with fail
        refine (CE.out _ HT3.out).mono ?_
        rintro e y3 ⟨rfl, hb⟩
        have Hb4 := Lib.hid (Hb3.out.trans (hb.mono Hb3.out.size))
        clear hb
        go_wp2_with fail
        refine (i_onlyN _ q P _ rfl HP.out hq64).mono ?_
        rintro e w' ⟨rfl, rfl⟩
        go_wp2_with fail
        go_ret
        exact ⟨ret_bool Hbit.out, Hb4.out⟩
end
end Go.Proofs.YtpogjegihhljpaaDoor

namespace Go.Proofs.YtpogjegihhljpaaDoor
set_option maxRecDepth 100000
open Go.RowKit

theorem own_blk {w : World} {B n c g : Nat} {A : Option Addr} {xs : List Int} (h : Own w B A n c xs) (hg : (Value.slice A n c).ownBlock = some g) : A = some ⟨g, 0, none⟩ := by
  rcases h.2.2 with ⟨e, _⟩ | ⟨g', cap, cur, e, _⟩
  · rw [e] at hg; cases hg
  · have hA : A = some ⟨g', 0, none⟩ := by injection e
    rw [hA] at hg ⊢
    have : g' = g := by simpa [Value.ownBlock] using hg
    rw [this]

/-- Two lists of the call's own, apart from each other. -/
structure TwoL (w : World) (B : Nat) (A : Option Addr) (n c : Nat) (xs : List Int) (D : Option Addr) (m d : Nat) (ys : List Int) : Prop where
  one : Own w B A n c xs
  two : Own w B D m d ys
  apart : ∀ g, A = some ⟨g, 0, none⟩ → D ≠ some ⟨g, 0, none⟩
theorem TwoL.below {w w' : World} {B n c m d : Nat} {A D : Option Addr} {xs ys : List Int} (h : TwoL w B A n c xs D m d ys) (hb : Below w.heap.size w w') : TwoL w' B A n c xs D m d ys := ⟨h.one.below hb, h.two.below hb, h.apart⟩
theorem TwoL.swap {w : World} {B n c m d : Nat} {A D : Option Addr} {xs ys : List Int} (h : TwoL w B A n c xs D m d ys) : TwoL w B D m d ys A n c xs := ⟨h.two, h.one, fun g h1 h2 => h.apart g h2 h1⟩
theorem TwoL.grow {w w' : World} {B n c c' m d : Nat} {A A' D : Option Addr} {xs xs' ys : List Int} (h : TwoL w B A n c xs D m d ys) (ho : Own w' B A' (n + 1) c' xs') (hg : w.grownBy w' (Value.slice A n c).ownBlock)
    (hat : ∀ g, A' = some ⟨g, 0, none⟩ → (Value.slice A n c).ownBlock = some g ∨ w.heap.size < g) : TwoL w' B A' (n + 1) c' xs' D m d ys := by
  refine ⟨ho, h.two.kept hg ?_, ?_⟩
  · intro g hD e
    exact h.apart g (own_blk h.one e) hD
  · intro g hA hD
    rcases hat g hA with e | e
    · exact h.apart g (own_blk h.one e) hD
    · have := (h.two.ge hD).2
      omega
theorem TwoL.under {w w' a : World} {B n c m d : Nat} {A D : Option Addr} {xs ys : List Int} (h : TwoL w B A n c xs D m d ys) (hb : Below B a w) (hg : w.grownBy w' (Value.slice A n c).ownBlock) (hB : B ≤ w.heap.size) : Below B a w' :=
  hb.grown hg hB (fun _ hk => (h.one.ge (own_blk h.one hk)).1)

section
variable (t : Nat) (x : Int) (w : World) (B : Nat) (A : Option Addr) (n c : Nat) (cs : List Int) (h : Ints w B A n cs) (hB : B ≤ w.heap.size) (h1 : 1 ≤ t) (h2 : t ≤ 7) (hn : n = t * t) (hv : Bd.okB t cs = true) (x1 : 1 ≤ x) (x2 : x ≤ 2)
  (m f : Nat) (hm : ∀ q, q < n → m.testBit q = eyeS t cs q x) (hf : ∀ q, q < n → f.testBit q = (encS t cs q x && !eyeS t cs q x))
include h hB h1 h2 hn hv x1 x2 hm hf

set_option maxHeartbeats 2000000 in
theorem s_EyesV : Calls Tryd.prog 30 #[.agg #[.int .i64 (t : Nat), .slice A n c], .int .i64 x] w fun e w' => ∃ A n1 c1 D n2 c2, e = .returned (.tuple #[.slice A n1 c1, .slice D n2 c2]) ∧ TwoL w' w.heap.size A n1 c1 (Bt.pts m n) D n2 c2 (Bt.pts f n) ∧ Below w.heap.size w w' := by
  have hb0 : Below w.heap.size w (w.alloc (.cells #[.int .i64 (t : Nat), .slice A n c] 25)) := (Below.refl _ _).alloc (Nat.le_refl _) _
  obtain ⟨W0, hW0⟩ : ∃ W, W = w.alloc (.cells #[.int .i64 (t : Nat), .slice A n c] 25) := ⟨_, rfl⟩
  have hs0 : W0.heap.size = w.heap.size + 1 := by rw [hW0]; simp
  have Bx0 : Bx 25 W0 w.heap.size (t : Nat) (.slice A n c) := by rw [hW0]; exact Bx.new _ _ _ _
  rw [← hW0] at hb0
  obtain ⟨W1, hW1⟩ : ∃ W, W = W0.alloc (.cells #[] 3) := ⟨_, rfl⟩
  obtain ⟨W2, hW2⟩ : ∃ W, W = W1.alloc (.cells #[] 3) := ⟨_, rfl⟩
  have b1 : Below W0.heap.size W0 W1 := by rw [hW1]; exact (Below.refl _ _).alloc (Nat.le_refl _) _
  have b2 : Below W1.heap.size W1 W2 := by rw [hW2]; exact (Below.refl _ _).alloc (Nat.le_refl _) _
  have hs1 : W1.heap.size = w.heap.size + 2 := by rw [hW1]; simp [hs0]
  have hs2 : W2.heap.size = w.heap.size + 3 := by rw [hW2]; simp [hs1]
  have o1 : Own W1 (w.heap.size + 1) (some ⟨w.heap.size + 1, 0, none⟩) 0 0 [] := by
    have := Own.bare W0 (w.heap.size + 1) (by omega)
    rw [← hW1, hs0] at this; exact this
  have o2 : Own W2 (w.heap.size + 1) (some ⟨w.heap.size + 1 + 1, 0, none⟩) 0 0 [] := by
    have := Own.bare W1 (w.heap.size + 1) (by omega)
    rw [← hW2, hs1] at this; exact this
  have two : TwoL W2 (w.heap.size + 1) (some ⟨w.heap.size + 1, 0, none⟩) 0 0 [] (some ⟨w.heap.size + 1 + 1, 0, none⟩) 0 0 [] := ⟨o1.below b2, o2, fun g e1 e2 => by injection e1 with e1; injection e2 with e2; injection e1 with e1; injection e2 with e2; omega⟩
  have hbb : Below w.heap.size w W2 := (hb0.trans (b1.mono (by omega))).trans (b2.mono (by omega))
  have H := Lib.hid (h.below hbb hB)
  have Bxx := Lib.hid ((Bx0.below b1 (by omega)).below b2 (by omega))
  have Hb := Lib.hid hbb
  have HW : W2 = ((w.alloc (.cells #[.int .i64 (t : Nat), .slice A n c] 25)).alloc (.cells #[] 3)).alloc (.cells #[] 3) := by rw [hW2, hW1, hW0]
  have Htwo := Lib.hid two
  obtain ⟨g1, g2, g3⟩ := Bt.sq_nat t h1 h2
  have hn49 : n ≤ 49 := by omega
  have hn1 : 1 ≤ n := by omega
  have Hv := Lib.hid hv
  have Hx : Hid ((decide (1 ≤ x) && decide (x ≤ 2)) = true) := Lib.hid (by simp [x1, x2])
  have CE : Hid (∀ (q : Nat) w, q < n → Ints w B A n cs → B ≤ w.heap.size → Calls Tryd.prog 68 #[.agg #[.int .i64 (t : Nat), .slice A n c], .int .i64 (q : Nat), .int .i64 x] w fun e w' => e = .returned (.bool (m.testBit q)) ∧ Below w.heap.size w w') := Lib.hid fun q w hq h hB => by
    rw [hm q hq]; exact s_isEye t q x w B A n c cs h hB h1 h2 hn (by omega) x1 x2
  have CN : Hid (∀ (q : Nat) w, q < n → Ints w B A n cs → B ≤ w.heap.size → m.testBit q = false → Calls Tryd.prog 69 #[.agg #[.int .i64 (t : Nat), .slice A n c], .int .i64 (q : Nat), .int .i64 x] w fun e w' => e = .returned (.bool (f.testBit q)) ∧ Below w.heap.size w w') := Lib.hid fun q w hq h hB hmq => by
    rw [hf q hq, ← hm q hq, hmq, Bool.not_false, Bool.and_true]; exact s_enclosed t q x w B A n c cs h hB h1 h2 hn (by omega)
  have HNf : Hid (∀ q, q < n → m.testBit q = true → f.testBit q = false) := Lib.hid fun q hq e => by rw [hf q hq, ← hm q hq, e, Bool.not_true, Bool.and_false]
  clear h h1 h2 hn hv x1 x2 hm hf hb0 hs0 hs1 b1 b2 o1 o2 two hbb g1 g2 g3 Bx0 hW1 hW2 hW0
  have v0 := Bxx.out.cell0
  have v1 := Bxx.out.cell1
  go_enter Tryd.func30, Tryd.ntmps30
  go_wp2_with fail
  rw [← HW]
  refine (s_validBoard _ _ _ _ _ _ _ H.out (by omega) (by omega)).mono ?_
  rintro e y ⟨rfl, hb⟩
  have H2 := Lib.hid (H.out.below hb (by omega))
  have Bx2 := Lib.hid (Bxx.out.below hb (by omega))
  have Ht2 := Lib.hid (Htwo.out.below hb)
  have Hb2 := Lib.hid (Hb.out.trans (hb.mono (by omega)))
  have hys : w.heap.size + 3 ≤ y.heap.size := by have := hb.size; omega
  have v0 := Bx2.out.cell0
  have v1 := Bx2.out.cell1
  clear hb HW
  rw [Hv.out]
  go_wp2_with fail
  refine (s_eyeColor _ _).mono ?_
  rintro e w' ⟨rfl, rfl⟩
  rw [Hx.out]
  clear v0 v1
  go_wp2_with fail
  go_loopw [6, 7, 8] (fun v u i wr => ∃ (k : Nat) (A1 : Option Addr) (n1 c1 : Nat) (D : Option Addr) (n2 c2 : Nat), k ≤ n ∧ v = .slice A1 n1 c1 ∧ u = .slice D n2 c2 ∧ i = .int .i64 (k : Nat) ∧ n1 ≤ k ∧ n2 ≤ k ∧ TwoL wr (w.heap.size + 1) A1 n1 c1 (Bt.pts m k) D n2 c2 (Bt.pts f k) ∧ Below (w.heap.size + 1) y wr) (fun _ _ i _ => n - (intOf i).toNat)
  case atStart => exact ⟨0, _, _, _, _, _, _, by omega, rfl, rfl, rfl, Nat.le_refl _, Nat.le_refl _, Ht2.out, Below.refl _ _⟩
  case round =>
    obtain ⟨k, A1, n1, c1, D, n2, c2, hk, rfl, rfl, rfl, hn1k, hn2k, htw, hbr⟩ := hrel
    have Bxr := Lib.hid (Bx2.out.below hbr (by omega))
    have Hr := Lib.hid (H2.out.below hbr (by omega))
    have Hbr := Lib.hid hbr
    have Htw := Lib.hid htw
    have hwr : w.heap.size + 3 ≤ wr.heap.size := by have := hbr.size; omega
    have v0 := Bxr.out.cell0
    have v1 := Bxr.out.cell1
    clear hbr htw
    by_cases hkn : k < n
    · have hkI : (k : Int) < n := by omega
      rcases Bool.eq_false_or_eq_true (m.testBit k) with e | e
      · have Hf0 := Lib.hid (HNf.out k hkn e)
        have He := Lib.hid e
        clear e
        go_wp2_with fail
        refine (CE.out k _ hkn Hr.out (by omega)).mono ?_
        rintro e y3 ⟨rfl, hb⟩
        rw [He.out]
        have Ht3 := Lib.hid (Htw.out.below hb)
        have Hb3 := Lib.hid (Hbr.out.trans (hb.mono (by omega)))
        have hz := hb.size
        clear hb v0 v1
        go_wp2_with (at_builtin; refine app1at rfl _ _ rfl _ _ _ _ _ _ _ _ rfl rfl (by simp) Ht3.out.one (by omega) (by omega) ?_; intro A' c' w' hown' hlt' hg' hat')
        have Ht4 := Lib.hid (Ht3.out.grow hown' hg' hat')
        have Hb4 := Lib.hid (Ht3.out.under Hb3.out hg' (by omega))
        clear hown' hg' hat'
        go_roundw
        case rel => exact ⟨k + 1, _, _, _, _, _, _, by omega, rfl, rfl, by go_num, by omega, by omega, by rw [Bt.pts_yes He.out, Bt.pts_no Hf0.out]; exact Ht4.out, Hb4.out⟩
        case measure => simp [intOf] <;> omega
      · have He := Lib.hid e
        clear e
        rcases Bool.eq_false_or_eq_true (f.testBit k) with e | e
        · have Hf0 := Lib.hid e
          clear e
          go_wp2_with fail
          refine (CE.out k _ hkn Hr.out (by omega)).mono ?_
          rintro e y3 ⟨rfl, hb⟩
          rw [He.out]
          have Ht3 := Lib.hid (Htw.out.below hb)
          have Hb3 := Lib.hid (Hbr.out.trans (hb.mono (by omega)))
          have Hr3 := Lib.hid (Hr.out.below hb (by omega))
          have Bx3 := Lib.hid (Bxr.out.below hb (by omega))
          have hz := hb.size
          clear hb v0 v1
          have v0 := Bx3.out.cell0
          have v1 := Bx3.out.cell1
          go_wp2_with fail
          refine (CN.out k _ hkn Hr3.out (by omega) He.out).mono ?_
          rintro e y4 ⟨rfl, hb⟩
          rw [Hf0.out]
          have Ht4 := Lib.hid (Ht3.out.below hb).swap
          have Hb4 := Lib.hid (Hb3.out.trans (hb.mono (by omega)))
          have hz2 := hb.size
          clear hb v0 v1
          go_wp2_with (at_builtin; refine app1at rfl _ _ rfl _ _ _ _ _ _ _ _ rfl rfl (by simp) Ht4.out.one (by omega) (by omega) ?_; intro A' c' w' hown' hlt' hg' hat')
          have Ht5 := Lib.hid (Ht4.out.grow hown' hg' hat').swap
          have Hb5 := Lib.hid (Ht4.out.under Hb4.out hg' (by omega))
          clear hown' hg' hat'
          go_roundw
          case rel => exact ⟨k + 1, _, _, _, _, _, _, by omega, rfl, rfl, by go_num, by omega, by omega, by rw [Bt.pts_yes Hf0.out, Bt.pts_no He.out]; exact Ht5.out, Hb5.out⟩
          case measure => simp [intOf] <;> omega
        · have Hf0 := Lib.hid e
          clear e
          go_wp2_with fail
          refine (CE.out k _ hkn Hr.out (by omega)).mono ?_
          rintro e y3 ⟨rfl, hb⟩
          rw [He.out]
          have Ht3 := Lib.hid (Htw.out.below hb)
          have Hb3 := Lib.hid (Hbr.out.trans (hb.mono (by omega)))
          have Hr3 := Lib.hid (Hr.out.below hb (by omega))
          have Bx3 := Lib.hid (Bxr.out.below hb (by omega))
          have hz := hb.size
          clear hb v0 v1
          have v0 := Bx3.out.cell0
          have v1 := Bx3.out.cell1
          go_wp2_with fail
          refine (CN.out k _ hkn Hr3.out (by omega) He.out).mono ?_
          rintro e y4 ⟨rfl, hb⟩
          rw [Hf0.out]
          have Ht4 := Lib.hid (Ht3.out.below hb)
          have Hb4 := Lib.hid (Hb3.out.trans (hb.mono (by omega)))
          have hz2 := hb.size
          clear hb v0 v1
          go_wp2_with fail
          go_roundw
          case rel => exact ⟨k + 1, _, _, _, _, _, _, by omega, rfl, rfl, by go_num, by omega, by omega, by rw [Bt.pts_no Hf0.out, Bt.pts_no He.out]; exact Ht4.out, Hb4.out⟩
          case measure => simp [intOf] <;> omega
    · obtain rfl : k = n := by omega
      have Hbf := Lib.hid (Hb2.out.trans (Hbr.out.mono (by omega)))
      go_wp2_with fail
      go_ret2
      exact ⟨_, _, _, _, _, _, rfl, ⟨Htw.out.one.weaken (by omega), Htw.out.two.weaken (by omega), Htw.out.apart⟩, Hbf.out⟩
end
end Go.Proofs.YtpogjegihhljpaaDoor

namespace Go.Proofs.YtpogjegihhljpaaDoor
set_option maxRecDepth 100000
open Go.RowKit

/-- The list of the numbers below k with a property. -/
def PPs (P : Nat → Prop) : Nat → List Int → Prop
  | 0, l => l = []
  | k + 1, l => ∃ l0, PPs P k l0 ∧ ((P k ∧ l = l0 ++ [(k : Int)]) ∨ (¬ P k ∧ l = l0))
theorem PPs.make (P : Nat → Prop) : ∀ k, ∃ l, PPs P k l
  | 0 => ⟨[], rfl⟩
  | k + 1 => by
    obtain ⟨l, hl⟩ := PPs.make P k
    by_cases h : P k
    · exact ⟨_, l, hl, .inl ⟨h, rfl⟩⟩
    · exact ⟨_, l, hl, .inr ⟨h, rfl⟩⟩
theorem PPs.one {P : Nat → Prop} : ∀ {k : Nat} {l l' : List Int}, PPs P k l → PPs P k l' → l = l'
  | 0, _, _, h, h' => by
    have h : _ = [] := h
    have h' : _ = [] := h'
    rw [h, h']
  | k + 1, _, _, ⟨l0, h0, h⟩, ⟨l1, h1, h'⟩ => by
    obtain rfl := PPs.one h0 h1
    rcases h with ⟨a, rfl⟩ | ⟨a, rfl⟩ <;> rcases h' with ⟨b, rfl⟩ | ⟨b, rfl⟩
    · rfl
    · exact absurd a b
    · exact absurd b a
    · rfl
theorem PPs.len {P : Nat → Prop} : ∀ {k : Nat} {l : List Int}, PPs P k l → l.length ≤ k
  | 0, _, h => by
    have h : _ = [] := h
    rw [h]; simp
  | k + 1, _, ⟨l0, h0, h⟩ => by
    have := PPs.len h0
    rcases h with ⟨_, rfl⟩ | ⟨_, rfl⟩
    · rw [List.length_append]; simp; omega
    · omega
theorem PPs.mem {P : Nat → Prop} : ∀ {k : Nat} {l : List Int}, PPs P k l → ∀ x : Int, x ∈ l ↔ ∃ q : Nat, x = q ∧ q < k ∧ P q
  | 0, _, h, x => by
    have h : _ = [] := h
    rw [h]; simp
  | k + 1, _, ⟨l0, h0, h⟩, x => by
    have ih := PPs.mem h0 x
    rcases h with ⟨a, rfl⟩ | ⟨a, rfl⟩
    · rw [List.mem_append, ih, List.mem_singleton]
      constructor
      · rintro (⟨q, a1, a2, a3⟩ | rfl)
        · exact ⟨q, a1, by omega, a3⟩
        · exact ⟨k, rfl, by omega, a⟩
      · rintro ⟨q, a1, a2, a3⟩
        by_cases e : q = k
        · subst e; exact .inr a1
        · exact .inl ⟨q, a1, by omega, a3⟩
    · rw [ih]
      constructor
      · rintro ⟨q, a1, a2, a3⟩; exact ⟨q, a1, by omega, a3⟩
      · rintro ⟨q, a1, a2, a3⟩
        by_cases e : q = k
        · subst e; exact absurd a3 a
        · exact ⟨q, a1, by omega, a3⟩
theorem PPs.bits {P : Nat → Prop} {m : Nat} : ∀ {k : Nat}, (∀ q, q < k → (m.testBit q = true ↔ P q)) → PPs P k (Bt.pts m k)
  | 0, _ => by simp [PPs, Bt.pts]
  | k + 1, h => by
    refine ⟨Bt.pts m k, PPs.bits fun q hq => h q (by omega), ?_⟩
    rcases e : m.testBit k with _ | _
    · exact .inr ⟨(fun hp => by rw [(h k (by omega)).2 hp] at e; cases e), Bt.pts_no e⟩
    · exact .inl ⟨(h k (by omega)).1 e, Bt.pts_yes e⟩

/-- A stone is possible. -/
def CanP (s : Int) (n : Nat) (cs : List Int) (x : Int) (su : Bool) (q : Nat) : Prop := ∃ r, Plays s n cs x q su (some r)
/-- A stone captures. -/
def CapP (s : Int) (n : Nat) (cs : List Int) (x : Int) (q : Nat) : Prop := ∃ r, Plays s n cs x q false (some r) ∧ r.2 ≠ []
def okX (s : Int) (cs : List Int) (x : Int) : Bool := Bd.okB s cs && (decide (1 ≤ x) && decide (x ≤ 2))
def PosIs (s : Int) (n : Nat) (cs : List Int) (x : Int) (su : Bool) (l : List Int) : Prop := (okX s cs x = true → PPs (CanP s n cs x su) n l) ∧ (okX s cs x = false → l = [])
def CapIs (s : Int) (n : Nat) (cs : List Int) (x : Int) (l : List Int) : Prop := (okX s cs x = true → PPs (CapP s n cs x) n l) ∧ (okX s cs x = false → l = [])
theorem PosIs.make (s : Int) (n : Nat) (cs : List Int) (x : Int) (su : Bool) : ∃ l, PosIs s n cs x su l := by
  rcases e : okX s cs x with _ | _
  · exact ⟨[], (fun h => by rw [e] at h; cases h), fun _ => rfl⟩
  · obtain ⟨l, hl⟩ := PPs.make (CanP s n cs x su) n
    exact ⟨l, fun _ => hl, fun h => by rw [e] at h; cases h⟩
theorem CapIs.make (s : Int) (n : Nat) (cs : List Int) (x : Int) : ∃ l, CapIs s n cs x l := by
  rcases e : okX s cs x with _ | _
  · exact ⟨[], (fun h => by rw [e] at h; cases h), fun _ => rfl⟩
  · obtain ⟨l, hl⟩ := PPs.make (CapP s n cs x) n
    exact ⟨l, fun _ => hl, fun h => by rw [e] at h; cases h⟩
theorem PosIs.len {s : Int} {n : Nat} {cs : List Int} {x : Int} {su : Bool} {l : List Int} (h : PosIs s n cs x su l) : l.length ≤ n := by
  rcases e : okX s cs x with _ | _
  · rw [h.2 e]; simp
  · exact (h.1 e).len
theorem CapIs.len {s : Int} {n : Nat} {cs : List Int} {x : Int} {l : List Int} (h : CapIs s n cs x l) : l.length ≤ n := by
  rcases e : okX s cs x with _ | _
  · rw [h.2 e]; simp
  · exact (h.1 e).len

set_option maxRecDepth 100000 in
set_option maxHeartbeats 8000000 in
theorem s_Poss (s x : Int) (su : Bool) (w : World) (B : Nat) (A : Option Addr) (n c : Nat) (cs lr : List Int) (h : Ints w B A n cs) (hB : B ≤ w.heap.size) (hn : n ≤ 1000000000) (hI : Hid (PosIs s n cs x su lr)) :
    Calls Tryd.prog 22 #[.agg #[.int .i64 s, .slice A n c], .int .i64 x, .bool su] w fun e w' => ∃ A n c, e = .returned (.slice A n c) ∧ Own w' w.heap.size A n c lr ∧ Below w.heap.size w w' := by
  have hb0 : Below w.heap.size w (w.alloc (.cells #[.int .i64 s, .slice A n c] 25)) := (Below.refl _ _).alloc (Nat.le_refl _) _
  obtain ⟨W0, hW0⟩ : ∃ W, W = w.alloc (.cells #[.int .i64 s, .slice A n c] 25) := ⟨_, rfl⟩
  have hs0 : W0.heap.size = w.heap.size + 1 := by rw [hW0]; simp
  have Bx0 : Bx 25 W0 w.heap.size s (.slice A n c) := by rw [hW0]; exact Bx.new _ _ _ _
  rw [← hW0] at hb0
  obtain ⟨W1, hW1⟩ : ∃ W, W = W0.alloc (.cells #[] 3) := ⟨_, rfl⟩
  have b1 : Below W0.heap.size W0 W1 := by rw [hW1]; exact (Below.refl _ _).alloc (Nat.le_refl _) _
  have hs1 : W1.heap.size = w.heap.size + 2 := by rw [hW1]; simp [hs0]
  have o1 : Own W1 (w.heap.size + 1) (some ⟨w.heap.size + 1, 0, none⟩) 0 0 [] := by
    have := Own.bare W0 (w.heap.size + 1) (by omega)
    rw [← hW1, hs0] at this; exact this
  have hbb : Below w.heap.size w W1 := hb0.trans (b1.mono (by omega))
  have H := Lib.hid (h.below hbb hB)
  have Bxx := Lib.hid (Bx0.below b1 (by omega))
  have Hb := Lib.hid hbb
  have HW : W1 = (w.alloc (.cells #[.int .i64 s, .slice A n c] 25)).alloc (.cells #[] 3) := by rw [hW1, hW0]
  have Ho := Lib.hid o1
  have hl := h.1
  clear h hb0 hs0 b1 o1 hbb Bx0 hW1 hW0
  have Hs1 := Lib.hid hs1
  clear hs1
  obtain ⟨v1, r1⟩ : ∃ b, Bd.okB s cs = b := ⟨_, rfl⟩
  obtain ⟨v2, r2⟩ : ∃ b, (decide (1 ≤ x) && decide (x ≤ 2)) = b := ⟨_, rfl⟩
  have He1 := Lib.hid r1
  have He2 := Lib.hid r2
  cases v1
  · have HF := Lib.hid (hI.out.2 (by rw [okX, r1]; rfl))
    clear r1 r2 hl
    go_enter Tryd.func22, Tryd.ntmps22
    go_wp2_with fail
    rw [← HW]
    clear HW
    have u0 := Bxx.out.cell0
    have u1 := Bxx.out.cell1
    go_wp2_with fail
    refine (s_validBoard _ _ _ _ _ _ _ H.out (by have := Hs1.out; omega) (by omega)).mono ?_
    rintro e y ⟨rfl, hb⟩
    have Hb2 := Lib.hid (Hb.out.trans (hb.mono (by have := Hs1.out; omega)))
    clear hb u0 u1
    rw [He1.out]
    go_wp2_with fail
    go_ret
    exact ⟨_, _, _, rfl, by rw [HF.out]; exact Own.nil _ _, Hb2.out⟩
  · cases v2
    · have HF := Lib.hid (hI.out.2 (by rw [okX, r1, r2]; rfl))
      clear r1 r2 hl
      go_enter Tryd.func22, Tryd.ntmps22
      go_wp2_with fail
      rw [← HW]
      clear HW
      have u0 := Bxx.out.cell0
      have u1 := Bxx.out.cell1
      go_wp2_with fail
      refine (s_validBoard _ _ _ _ _ _ _ H.out (by have := Hs1.out; omega) (by omega)).mono ?_
      rintro e y ⟨rfl, hb⟩
      have Hb2 := Lib.hid (Hb.out.trans (hb.mono (by have := Hs1.out; omega)))
      clear hb u0 u1
      rw [He1.out]
      go_wp2_with fail
      refine (s_vcolor _ _).mono ?_
      rintro e w' ⟨rfl, rfl⟩
      rw [He2.out]
      go_wp2_with fail
      go_ret
      exact ⟨_, _, _, rfl, by rw [HF.out]; exact Own.nil _ _, Hb2.out⟩
    · have hpp := hI.out.1 (by rw [okX, r1, r2]; rfl)
      obtain ⟨q1, q2, q3, q4⟩ := (Bd.okB_iff s cs).1 r1
      rw [Bool.and_eq_true, decide_eq_true_eq, decide_eq_true_eq] at r2
      obtain ⟨x1, x2⟩ := r2
      have hsq := Pt.sq_bd s q1 q2
      have hnn : (n : Int) = s * s := by omega
      have hn49 : n ≤ 49 := by omega
      have Hpp := Lib.hid hpp
      have CP : Hid (∀ (q : Nat) w, q < n → Ints w B A n cs → B ≤ w.heap.size → Calls Tryd.prog 55 #[.agg #[.int .i64 s, .slice A n c], .int .i64 x, .int .i64 (q : Nat), .bool su] w fun e w' => PlayedP s n (Plays s n cs x q su) w e w') := Lib.hid fun q w hq h hB => s_play s x q su w B A n c cs h hB q1 q2 hnn hq x1 x2
      clear r1 hl hpp q1 q2 q3 q4 x1 x2 hsq hnn hI
      go_enter Tryd.func22, Tryd.ntmps22
      go_wp2_with fail
      rw [← HW]
      clear HW
      have u0 := Bxx.out.cell0
      have u1 := Bxx.out.cell1
      go_wp2_with fail
      refine (s_validBoard _ _ _ _ _ _ _ H.out (by have := Hs1.out; omega) (by omega)).mono ?_
      rintro e y ⟨rfl, hb⟩
      have H2 := Lib.hid (H.out.below hb (by have := Hs1.out; omega))
      have Bx2 := Lib.hid (Bxx.out.below hb (by have := Hs1.out; omega))
      have Ho2 := Lib.hid (Ho.out.below hb)
      have Hb2 := Lib.hid (Hb.out.trans (hb.mono (by have := Hs1.out; omega)))
      have hys : w.heap.size + 2 ≤ y.heap.size := by have := hb.size; have := Hs1.out; omega
      clear hb u0 u1
      rw [He1.out]
      go_wp2_with fail
      refine (s_vcolor _ _).mono ?_
      rintro e w' ⟨rfl, rfl⟩
      rw [He2.out]
      go_wp2_with fail
      go_loopw [7, 8] (fun v i wr => ∃ (k : Nat) (l : List Int) (A1 : Option Addr) (n1 c1 : Nat), k ≤ n ∧ v = .slice A1 n1 c1 ∧ i = .int .i64 (k : Nat) ∧ PPs (CanP s n cs x su) k l ∧ Own wr (w.heap.size + 1) A1 n1 c1 l ∧ Below (w.heap.size + 1) y wr) (fun _ i _ => n - (intOf i).toNat)
      case atStart => exact ⟨0, [], _, _, _, by omega, rfl, rfl, rfl, Ho2.out, Below.refl _ _⟩
      case round =>
        clear Ho Ho2
        obtain ⟨k, l, A1, n1, c1, hk, rfl, rfl, hp, ho, hbr⟩ := hrel
        have hn1 : n1 ≤ 49 := by have := ho.1; have := hp.len; omega
        have hwr := hbr.size
        have Bxr := Lib.hid (Bx2.out.below hbr (by omega))
        have Hr := Lib.hid (H2.out.below hbr (by omega))
        have Hbr := Lib.hid hbr
        have Ho := Lib.hid ho
        have Hp := Lib.hid hp
        clear hbr ho hp
        have u0 := Bxr.out.cell0
        have u1 := Bxr.out.cell1
        have u2 := Bxr.out.lt
        by_cases hkn : k < n
        · have hkI : (k : Int) < n := by omega
          go_wp2_with fail
          refine (CP.out k _ hkn Hr.out (by omega)).mono ?_
          clear u0 u1 u2
          rintro e y2 (⟨hR, rfl, hb⟩ | ⟨os, gs, A3, c3, A4, n4, c4, hR, rfl, ho3, hg3, hb⟩)
          · have Hpp1 : Hid (PPs (CanP s n cs x su) (k + 1) l) := Lib.hid ⟨l, Hp.out, .inr ⟨(by rintro ⟨r, hR'⟩; have := hR.one hR'; cases this), rfl⟩⟩
            have hb3 : Below y2.heap.size y2 (y2.alloc (.cells #[.int .i64 0, .slice none 0 0] 25)) := (Below.refl _ _).alloc (Nat.le_refl _) _
            have Ho2 := Lib.hid ((Ho.out.below hb).below hb3)
            have Hbr3 := Lib.hid ((Hbr.out.trans (hb.mono (by omega))).trans (hb3.mono (by have := hb.size; omega)))
            clear hb hb3 hR
            go_wp2_with fail
            go_roundw
            case rel => exact ⟨k + 1, _, _, _, _, by omega, rfl, by go_num, Hpp1.out, Ho2.out, Hbr3.out⟩
            case measure => simp [intOf]; omega
          · have hb3 : Below y2.heap.size y2 (y2.alloc (.cells #[.int .i64 s, .slice A3 n c3] 25)) := (Below.refl _ _).alloc (Nat.le_refl _) _
            have Ho2 := Lib.hid ((Ho.out.below hb).below hb3)
            have Hbr3 := Lib.hid ((Hbr.out.trans (hb.mono (by omega))).trans (hb3.mono (by have := hb.size; omega)))
            have Hz := Lib.hid hb.size
            clear hb hb3 ho3
            have Hpp1 : Hid (PPs (CanP s n cs x su) (k + 1) (l ++ [(k : Int)])) := Lib.hid ⟨l, Hp.out, .inl ⟨⟨_, hR⟩, rfl⟩⟩
            clear hR hg3
            go_wp2_with (at_builtin; refine app1at rfl _ _ rfl _ _ _ _ _ _ _ _ rfl rfl (by simp) Ho2.out (by have := Hbr3.out.size; omega) (by omega) ?_; intro A' c' w' hown' hlt' hgr' hat')
            have hbl : Below (w.heap.size + 1) y w' := Hbr3.out.trans (below_g hgr' (by have := Hbr3.out.size; omega) (fun g e => by have := own_blk Ho2.out e; have := (Ho2.out.ge this).1; omega))
            have Hbl := Lib.hid hbl
            have Hown := Lib.hid hown'
            clear hown' hlt' hgr' hat' hbl
            go_roundw
            case rel => exact ⟨k + 1, _, _, _, _, by omega, rfl, by go_num, Hpp1.out, Hown.out, Hbl.out⟩
            case measure => simp [intOf]; omega
        · have hkn' : k = n := by omega
          have hle := Hp.out.one (by rw [hkn']; exact Hpp.out)
          have Hf := Lib.hid (show Own wr w.heap.size A1 n1 c1 lr by rw [← hle]; exact Ho.out.weaken (by omega))
          have Hbb := Lib.hid (Hb2.out.trans (Hbr.out.mono (by omega)))
          clear hle hkn'
          go_wp2_with fail
          go_ret
          exact ⟨_, _, _, rfl, Hf.out, Hbb.out⟩

set_option maxRecDepth 100000 in
set_option maxHeartbeats 8000000 in
theorem s_Cap (s x : Int) (w : World) (B : Nat) (A : Option Addr) (n c : Nat) (cs lr : List Int) (h : Ints w B A n cs) (hB : B ≤ w.heap.size) (hn : n ≤ 1000000000) (hI : Hid (CapIs s n cs x lr)) :
    Calls Tryd.prog 27 #[.agg #[.int .i64 s, .slice A n c], .int .i64 x] w fun e w' => ∃ A n c, e = .returned (.slice A n c) ∧ Own w' w.heap.size A n c lr ∧ Below w.heap.size w w' := by
  have hb0 : Below w.heap.size w (w.alloc (.cells #[.int .i64 s, .slice A n c] 25)) := (Below.refl _ _).alloc (Nat.le_refl _) _
  obtain ⟨W0, hW0⟩ : ∃ W, W = w.alloc (.cells #[.int .i64 s, .slice A n c] 25) := ⟨_, rfl⟩
  have hs0 : W0.heap.size = w.heap.size + 1 := by rw [hW0]; simp
  have Bx0 : Bx 25 W0 w.heap.size s (.slice A n c) := by rw [hW0]; exact Bx.new _ _ _ _
  rw [← hW0] at hb0
  obtain ⟨W1, hW1⟩ : ∃ W, W = W0.alloc (.cells #[] 3) := ⟨_, rfl⟩
  have b1 : Below W0.heap.size W0 W1 := by rw [hW1]; exact (Below.refl _ _).alloc (Nat.le_refl _) _
  have hs1 : W1.heap.size = w.heap.size + 2 := by rw [hW1]; simp [hs0]
  have o1 : Own W1 (w.heap.size + 1) (some ⟨w.heap.size + 1, 0, none⟩) 0 0 [] := by
    have := Own.bare W0 (w.heap.size + 1) (by omega)
    rw [← hW1, hs0] at this; exact this
  have hbb : Below w.heap.size w W1 := hb0.trans (b1.mono (by omega))
  have H := Lib.hid (h.below hbb hB)
  have Bxx := Lib.hid (Bx0.below b1 (by omega))
  have Hb := Lib.hid hbb
  have HW : W1 = (w.alloc (.cells #[.int .i64 s, .slice A n c] 25)).alloc (.cells #[] 3) := by rw [hW1, hW0]
  have Ho := Lib.hid o1
  have hl := h.1
  clear h hb0 hs0 b1 o1 hbb Bx0 hW1 hW0
  have Hs1 := Lib.hid hs1
  clear hs1
  obtain ⟨v1, r1⟩ : ∃ b, Bd.okB s cs = b := ⟨_, rfl⟩
  obtain ⟨v2, r2⟩ : ∃ b, (decide (1 ≤ x) && decide (x ≤ 2)) = b := ⟨_, rfl⟩
  have He1 := Lib.hid r1
  have He2 := Lib.hid r2
  cases v1
  · have HF := Lib.hid (hI.out.2 (by rw [okX, r1]; rfl))
    clear r1 r2 hl
    go_enter Tryd.func27, Tryd.ntmps27
    go_wp2_with fail
    rw [← HW]
    clear HW
    have u0 := Bxx.out.cell0
    have u1 := Bxx.out.cell1
    go_wp2_with fail
    refine (s_validBoard _ _ _ _ _ _ _ H.out (by have := Hs1.out; omega) (by omega)).mono ?_
    rintro e y ⟨rfl, hb⟩
    have Hb2 := Lib.hid (Hb.out.trans (hb.mono (by have := Hs1.out; omega)))
    clear hb u0 u1
    rw [He1.out]
    go_wp2_with fail
    go_ret
    exact ⟨_, _, _, rfl, by rw [HF.out]; exact Own.nil _ _, Hb2.out⟩
  · cases v2
    · have HF := Lib.hid (hI.out.2 (by rw [okX, r1, r2]; rfl))
      clear r1 r2 hl
      go_enter Tryd.func27, Tryd.ntmps27
      go_wp2_with fail
      rw [← HW]
      clear HW
      have u0 := Bxx.out.cell0
      have u1 := Bxx.out.cell1
      go_wp2_with fail
      refine (s_validBoard _ _ _ _ _ _ _ H.out (by have := Hs1.out; omega) (by omega)).mono ?_
      rintro e y ⟨rfl, hb⟩
      have Hb2 := Lib.hid (Hb.out.trans (hb.mono (by have := Hs1.out; omega)))
      clear hb u0 u1
      rw [He1.out]
      go_wp2_with fail
      refine (s_vcolor _ _).mono ?_
      rintro e w' ⟨rfl, rfl⟩
      rw [He2.out]
      go_wp2_with fail
      go_ret
      exact ⟨_, _, _, rfl, by rw [HF.out]; exact Own.nil _ _, Hb2.out⟩
    · have hpp := hI.out.1 (by rw [okX, r1, r2]; rfl)
      obtain ⟨q1, q2, q3, q4⟩ := (Bd.okB_iff s cs).1 r1
      rw [Bool.and_eq_true, decide_eq_true_eq, decide_eq_true_eq] at r2
      obtain ⟨x1, x2⟩ := r2
      have hsq := Pt.sq_bd s q1 q2
      have hnn : (n : Int) = s * s := by omega
      have hn49 : n ≤ 49 := by omega
      have Hpp := Lib.hid hpp
      have CP : Hid (∀ (q : Nat) w, q < n → Ints w B A n cs → B ≤ w.heap.size → Calls Tryd.prog 55 #[.agg #[.int .i64 s, .slice A n c], .int .i64 x, .int .i64 (q : Nat), .bool false] w fun e w' => PlayedP s n (Plays s n cs x q false) w e w') := Lib.hid fun q w hq h hB => s_play s x q false w B A n c cs h hB q1 q2 hnn hq x1 x2
      clear r1 hl hpp q1 q2 q3 q4 x1 x2 hsq hnn hI
      go_enter Tryd.func27, Tryd.ntmps27
      go_wp2_with fail
      rw [← HW]
      clear HW
      have u0 := Bxx.out.cell0
      have u1 := Bxx.out.cell1
      go_wp2_with fail
      refine (s_validBoard _ _ _ _ _ _ _ H.out (by have := Hs1.out; omega) (by omega)).mono ?_
      rintro e y ⟨rfl, hb⟩
      have H2 := Lib.hid (H.out.below hb (by have := Hs1.out; omega))
      have Bx2 := Lib.hid (Bxx.out.below hb (by have := Hs1.out; omega))
      have Ho2 := Lib.hid (Ho.out.below hb)
      have Hb2 := Lib.hid (Hb.out.trans (hb.mono (by have := Hs1.out; omega)))
      have hys : w.heap.size + 2 ≤ y.heap.size := by have := hb.size; have := Hs1.out; omega
      clear hb u0 u1
      rw [He1.out]
      go_wp2_with fail
      refine (s_vcolor _ _).mono ?_
      rintro e w' ⟨rfl, rfl⟩
      rw [He2.out]
      go_wp2_with fail
      go_loopw [5, 6] (fun v i wr => ∃ (k : Nat) (l : List Int) (A1 : Option Addr) (n1 c1 : Nat), k ≤ n ∧ v = .slice A1 n1 c1 ∧ i = .int .i64 (k : Nat) ∧ PPs (CapP s n cs x) k l ∧ Own wr (w.heap.size + 1) A1 n1 c1 l ∧ Below (w.heap.size + 1) y wr) (fun _ i _ => n - (intOf i).toNat)
      case atStart => exact ⟨0, [], _, _, _, by omega, rfl, rfl, rfl, Ho2.out, Below.refl _ _⟩
      case round =>
        clear Ho Ho2
        obtain ⟨k, l, A1, n1, c1, hk, rfl, rfl, hp, ho, hbr⟩ := hrel
        have hn1 : n1 ≤ 49 := by have := ho.1; have := hp.len; omega
        have hwr := hbr.size
        have Bxr := Lib.hid (Bx2.out.below hbr (by omega))
        have Hr := Lib.hid (H2.out.below hbr (by omega))
        have Hbr := Lib.hid hbr
        have Ho := Lib.hid ho
        have Hp := Lib.hid hp
        clear hbr ho hp
        have u0 := Bxr.out.cell0
        have u1 := Bxr.out.cell1
        have u2 := Bxr.out.lt
        by_cases hkn : k < n
        · have hkI : (k : Int) < n := by omega
          go_wp2_with fail
          refine (CP.out k _ hkn Hr.out (by omega)).mono ?_
          clear u0 u1 u2
          rintro e y2 (⟨hR, rfl, hb⟩ | ⟨os, gs, A3, c3, A4, n4, c4, hR, rfl, ho3, hg3, hb⟩)
          · have Hpp1 : Hid (PPs (CapP s n cs x) (k + 1) l) := Lib.hid ⟨l, Hp.out, .inr ⟨(by rintro ⟨r, hR', _⟩; have := hR.one hR'; cases this), rfl⟩⟩
            have hb3 : Below y2.heap.size y2 (y2.alloc (.cells #[.int .i64 0, .slice none 0 0] 25)) := (Below.refl _ _).alloc (Nat.le_refl _) _
            have Ho2 := Lib.hid ((Ho.out.below hb).below hb3)
            have Hbr3 := Lib.hid ((Hbr.out.trans (hb.mono (by omega))).trans (hb3.mono (by have := hb.size; omega)))
            clear hb hb3 hR
            go_wp2_with fail
            go_roundw
            case rel => exact ⟨k + 1, _, _, _, _, by omega, rfl, by go_num, Hpp1.out, Ho2.out, Hbr3.out⟩
            case measure => simp [intOf]; omega
          · have hb3 : Below y2.heap.size y2 (y2.alloc (.cells #[.int .i64 s, .slice A3 n c3] 25)) := (Below.refl _ _).alloc (Nat.le_refl _) _
            have Ho2 := Lib.hid ((Ho.out.below hb).below hb3)
            have Hbr3 := Lib.hid ((Hbr.out.trans (hb.mono (by omega))).trans (hb3.mono (by have := hb.size; omega)))
            have Hz := Lib.hid hb.size
            have hgl := hg3.1
            clear hb hb3 ho3 hg3
            by_cases h4 : n4 = 0
            · subst h4
              have hge : gs = [] := List.eq_nil_of_length_eq_zero hgl
              have Hpp1 : Hid (PPs (CapP s n cs x) (k + 1) l) := Lib.hid ⟨l, Hp.out, .inr ⟨(by rintro ⟨r, hR', hr⟩; have := hR.one hR'; injection this with this; subst this; exact hr hge), rfl⟩⟩
              clear hR hge hgl
              go_wp2_with fail
              go_roundw
              case rel => exact ⟨k + 1, _, _, _, _, by omega, rfl, by go_num, Hpp1.out, Ho2.out, Hbr3.out⟩
              case measure => simp [intOf]; omega
            · have h4' : (0 : Int) < n4 := by omega
              have hge : gs ≠ [] := fun e => h4 (by rw [e] at hgl; exact hgl.symm)
              have Hpp1 : Hid (PPs (CapP s n cs x) (k + 1) (l ++ [(k : Int)])) := Lib.hid ⟨l, Hp.out, .inl ⟨⟨_, hR, hge⟩, rfl⟩⟩
              clear hR hge hgl
              go_wp2_with (at_builtin; refine app1at rfl _ _ rfl _ _ _ _ _ _ _ _ rfl rfl (by simp) Ho2.out (by have := Hbr3.out.size; omega) (by omega) ?_; intro A' c' w' hown' hlt' hgr' hat')
              have hbl : Below (w.heap.size + 1) y w' := Hbr3.out.trans (below_g hgr' (by have := Hbr3.out.size; omega) (fun g e => by have := own_blk Ho2.out e; have := (Ho2.out.ge this).1; omega))
              have Hbl := Lib.hid hbl
              have Hown := Lib.hid hown'
              clear hown' hlt' hgr' hat' hbl
              go_roundw
              case rel => exact ⟨k + 1, _, _, _, _, by omega, rfl, by go_num, Hpp1.out, Hown.out, Hbl.out⟩
              case measure => simp [intOf]; omega
        · have hkn' : k = n := by omega
          have hle := Hp.out.one (by rw [hkn']; exact Hpp.out)
          have Hf := Lib.hid (show Own wr w.heap.size A1 n1 c1 lr by rw [← hle]; exact Ho.out.weaken (by omega))
          have Hbb := Lib.hid (Hb2.out.trans (Hbr.out.mono (by omega)))
          clear hle hkn'
          go_wp2_with fail
          go_ret
          exact ⟨_, _, _, rfl, Hf.out, Hbb.out⟩
end Go.Proofs.YtpogjegihhljpaaDoor

namespace Go.Proofs.YtpogjegihhljpaaDoor
set_option maxRecDepth 100000
open Go.RowKit

/-- The set holds the points of a list with a property. -/
def Fd (P : Nat → Prop) (L : List Int) (m : Nat) : Prop := ∀ q : Nat, m.testBit q = true ↔ (q : Int) ∈ L ∧ P q
theorem Fd.yes {P : Nat → Prop} {L : List Int} {j m q : Nat} (h : Fd P (L.take j) m) (hj : j < L.length) (he : L.getD j 0 = (q : Int)) (hp : P q) : Fd P (L.take (j + 1)) (m ||| 2 ^ q) := by
  intro p
  have e : L.take (j + 1) = L.take j ++ [(q : Int)] := by
    rw [List.take_succ_eq_append_getElem hj]
    rw [List.getD_eq_getElem?_getD, List.getElem?_eq_getElem hj] at he
    rw [show L[j] = (q : Int) from he]
  rw [Nat.testBit_or, Bool.or_eq_true, h p, e, List.mem_append, List.mem_singleton, Nat.testBit_two_pow, decide_eq_true_eq]
  constructor
  · rintro (⟨a, b⟩ | rfl)
    · exact ⟨.inl a, b⟩
    · exact ⟨.inr rfl, hp⟩
  · rintro ⟨a | a, b⟩
    · exact .inl ⟨a, b⟩
    · exact .inr (by omega)
theorem Fd.no {P : Nat → Prop} {L : List Int} {j m q : Nat} (h : Fd P (L.take j) m) (hj : j < L.length) (he : L.getD j 0 = (q : Int)) (hp : ¬ P q) : Fd P (L.take (j + 1)) m := by
  intro p
  have e : L.take (j + 1) = L.take j ++ [(q : Int)] := by
    rw [List.take_succ_eq_append_getElem hj]
    rw [List.getD_eq_getElem?_getD, List.getElem?_eq_getElem hj] at he
    rw [show L[j] = (q : Int) from he]
  rw [h p, e, List.mem_append, List.mem_singleton]
  constructor
  · rintro ⟨a, b⟩; exact ⟨.inl a, b⟩
  · rintro ⟨a | a, b⟩
    · exact ⟨a, b⟩
    · obtain rfl : p = q := by omega
      exact absurd b hp

theorem plays_make (k n q : Nat) (cs : List Int) (x : Int) (su : Bool) (hv : Bd.okB (k : Int) cs = true) (hl : cs.length = n) (hq : q < n) (x1 : 1 ≤ x) (x2 : x ≤ 2) : ∃ R, Plays (k : Int) n cs x q su R := by
  have hx : x = 1 ∨ x = 2 := by omega
  rcases hx with rfl | rfl
  · obtain ⟨R, h, _⟩ := i_pl1 k n q cs su .nilIface .nilIface hv hl hq
    exact ⟨R, h⟩
  · obtain ⟨R, h, _⟩ := i_pl2 k n q cs su .nilIface .nilIface hv hl hq
    exact ⟨R, h⟩
theorem plays_empty {s x : Int} {n q : Nat} {cs : List Int} {su : Bool} {r : List Int × List Int} (h : Plays s n cs x q su (some r)) : cs.getD q 0 = 0 := by
  cases h with
  | lives _ _ h0 => exact h0
  | both _ _ _ _ _ _ h0 => exact h0

set_option maxRecDepth 100000 in
set_option maxHeartbeats 8000000 in
theorem i_possible (k n : Nat) (cs : List Int) (x : Int) (su : Bool) (w : World) (hv : Bd.okB (k : Int) cs = true) (hl : cs.length = n) (x1 : 1 ≤ x) (x2 : x ≤ 2) (ht : Tab w) (he : ErrW w) :
    Calls Tryd.prog 61 #[.agg #[.int .i64 (k : Nat), .int .u64 (Bt.msk cs 0 n : Nat), .int .u64 (Bt.msk cs 1 n : Nat), .int .u64 (Bt.msk cs 2 n : Nat)], .int .i64 x, .bool su] w fun e w' => ∃ m : Nat, e = .returned (.int .u64 (m : Nat)) ∧ m < 2 ^ n ∧ (∀ q, q < n → (m.testBit q = true ↔ (CanP (k : Int) n cs x su) q)) ∧ Below w.heap.size w w' := by
  obtain ⟨q1, q2, q3, q4⟩ := (Bd.okB_iff (k : Int) cs).1 hv
  have k1 : 1 ≤ k := by omega
  have k2 : k ≤ 7 := by omega
  have hnn : n = k * k := by
    have : (n : Int) = ((k * k : Nat) : Int) := by rw [← hl]; push_cast; exact q3
    exact_mod_cast this
  have hn49 : n ≤ 49 := by have := (Bt.sq_nat k k1 k2).2.1; omega
  have h49 : 2 ^ n ≤ 2 ^ 49 := Nat.pow_le_pow_right (by decide) hn49
  have cl := col_list hl hn49 0
  have CQ : Hid (∀ q, q < n → ∃ R, Plays (k : Int) n cs x q su R ∧ ∀ w v0 v1, Errs w v0 v1 → Calls Tryd.prog 49 #[.agg #[.int .i64 (k : Nat), .int .u64 (Bt.msk cs 0 n : Nat), .int .u64 (Bt.msk cs 1 n : Nat), .int .u64 (Bt.msk cs 2 n : Nat)], .int .i64 x, .int .i64 (q : Nat), .bool su] w fun e w' => PlI k n v0 v1 R e ∧ Below w.heap.size w w') := Lib.hid fun q hq => by
    obtain ⟨R, hR⟩ := plays_make k n q cs x su hv hl hq x1 x2
    exact ⟨R, hR, fun w v0 v1 hg => i_plR k n q cs x su R hv hl hq x1 x2 hR w v0 v1 hg⟩
  have hE64 := msk_lt64 cs 0 k n k1 k2 hnn
  obtain ⟨L, hL⟩ : ∃ L, Bt.pts (Bt.msk cs 0 n) 64 = L := ⟨_, rfl⟩
  have CL : Hid (∀ w, Tab w → Calls Tryd.prog 51 #[.int .u64 (Bt.msk cs 0 n : Nat)] w fun e w' => ∃ A n c, e = .returned (.slice A n c) ∧ Own w' w.heap.size A n c L ∧ Below w.heap.size w w') := Lib.hid fun w ht => by rw [← hL]; exact i_list _ w ht hE64
  rw [hL] at cl
  obtain ⟨E0, h0⟩ : ∃ E, Bt.msk cs 0 n = E := ⟨_, rfl⟩
  obtain ⟨E1, h1⟩ : ∃ E, Bt.msk cs 1 n = E := ⟨_, rfl⟩
  obtain ⟨E2, h2⟩ : ∃ E, Bt.msk cs 2 n = E := ⟨_, rfl⟩
  rw [h0] at CL
  rw [h0, h1, h2] at CQ ⊢
  have Lp := Lib.hid cl.2.1
  have Ll := cl.1
  have Lf := Lib.hid cl.2.2
  have HT := Lib.hid ht
  have HE := Lib.hid he
  have H49 := Lib.hid h49
  have Hl := Lib.hid hl
  have P0 := Lib.hid (Px.new w (k : Nat) E0 E1 E2)
  have Hb := Lib.hid ((Below.refl w.heap.size w).alloc (Nat.le_refl _) (.cells #[.int .i64 (k : Nat), .int .u64 (E0 : Nat), .int .u64 (E1 : Nat), .int .u64 (E2 : Nat)] 67))
  clear hv x1 x2 q1 q2 q3 q4 k1 k2 hnn cl hE64 hL h0 h1 h2 ht he h49 hl
  have c0 := P0.out.c0
  have c1 := P0.out.c1
  have c2 := P0.out.c2
  have c3 := P0.out.c3
  go_enter Tryd.func61, Tryd.ntmps61
  go_wp2_with fail
  refine (CL.out _ (HT.out.below Hb.out)).mono ?_
  rintro e y2 ⟨A, ln, c, rfl, ho, hb⟩
  have P0 := Lib.hid (P0.out.step hb)
  have Hb := Lib.hid (Hb.out.trans (hb.mono (by simp)))
  have hln := ho.1
  have Hln := Lib.hid hln
  have HI := Lib.hid ho.ints
  have hln64 : ln ≤ 64 := by omega
  clear hb ho hln c0 c1 c2 c3 Ll
  go_wp2_with fail
  go_loopw [7, 18] (fun v i wr => ∃ j m : Nat, j ≤ ln ∧ i = .int .i64 (j : Nat) ∧ v = .int .u64 (m : Nat) ∧ m < 2 ^ n ∧ Fd (CanP (k : Int) n cs x su) (L.take j) m ∧ Below y2.heap.size y2 wr) (fun _ i _ => ln - (intOf i).toNat)
  case atStart => exact ⟨0, 0, by omega, rfl, rfl, Nat.two_pow_pos _, fun q => by simp, Below.refl _ _⟩
  case round =>
    obtain ⟨j, m, hj, rfl, rfl, hm, hf, hbr⟩ := hrel
    have Q0 := Lib.hid (P0.out.step hbr)
    have HIr := Lib.hid (HI.out.below hbr (Nat.le_refl _))
    have Hbr := Lib.hid hbr
    have Hm := Lib.hid hm
    have Hf := Lib.hid hf
    clear hbr hm hf
    have c0 := Q0.out.c0
    have c1 := Q0.out.c1
    have c2 := Q0.out.c2
    have c3 := Q0.out.c3
    have hz0 := Q0.out.lt
    by_cases hjn : j < ln
    · obtain ⟨q, hq, hqn, hq0⟩ := Lp.out j (by have := Hln.out; omega)
      rcases HIr.out.2 with h0 | ⟨b, o, rfl, hbB, hc⟩
      · omega
      · have ck := hc j hjn
        rw [hq] at ck
        have Hq := Lib.hid hq
        have hjI : (j : Int) < ln := by omega
        clear hc hq hq0
        obtain ⟨R, hR, hC⟩ := CQ.out q hqn
        obtain ⟨a0, a1, hee⟩ := (HE.out.below Hb.out).below Hbr.out
        have HC := Lib.hid (hC wr _ _ hee)
        clear hC hee
        go_wp2_with fail
        refine HC.out.mono ?_
        rintro e y3 ⟨hpi, hb⟩
        clear c0 c1 c2 c3 ck HC hz0
        cases R with
        | none =>
          obtain ⟨v, hv, rfl⟩ := hpi
          have Hfn := Lib.hid (Hf.out.no (by have := Hln.out; omega) Hq.out (by rintro ⟨r, hR'⟩; have := hR.one hR'; cases this))
          have hb4 : Below y3.heap.size y3 (y3.alloc (.cells #[.int .i64 0, .int .u64 0, .int .u64 0, .int .u64 0] 67)) := (Below.refl _ _).alloc (Nat.le_refl _) _
          have Hb3 := Lib.hid ((Hbr.out.trans (hb.mono Hbr.out.size)).trans (hb4.mono (by have := hb.size; have := Hbr.out.size; omega)))
          clear hb hb4
          clear hR
          rcases hv with rfl | rfl
          · go_wp2_with fail
            go_roundw
            case rel => exact ⟨j + 1, m, by omega, by go_num, rfl, Hm.out, Hfn.out, Hb3.out⟩
            case measure => simp [intOf]; omega
          · go_wp2_with fail
            go_roundw
            case rel => exact ⟨j + 1, m, by omega, by go_num, rfl, Hm.out, Hfn.out, Hb3.out⟩
            case measure => simp [intOf]; omega
        | some r =>
          obtain ⟨os, gs⟩ := r
          obtain ⟨m', hml, hgs, rfl⟩ := hpi
          obtain ⟨F0, g0⟩ : ∃ E, Bt.msk os 0 n = E := ⟨_, rfl⟩
          obtain ⟨F1, g1⟩ : ∃ E, Bt.msk os 1 n = E := ⟨_, rfl⟩
          obtain ⟨F2, g2⟩ : ∃ E, Bt.msk os 2 n = E := ⟨_, rfl⟩
          rw [g0, g1, g2]
          have hb4 : Below y3.heap.size y3 (y3.alloc (.cells #[.int .i64 (k : Nat), .int .u64 (F0 : Nat), .int .u64 (F1 : Nat), .int .u64 (F2 : Nat)] 67)) := (Below.refl _ _).alloc (Nat.le_refl _) _
          have Hb3 := Lib.hid ((Hbr.out.trans (hb.mono Hbr.out.size)).trans (hb4.mono (by have := hb.size; have := Hbr.out.size; omega)))
          clear hb hb4
          clear g0 g1 g2
          have Hfy := Lib.hid (Hf.out.yes (by have := Hln.out; omega) Hq.out ⟨_, hR⟩)
          clear hR hgs hml
          obtain ⟨Q, hQ⟩ : ∃ Q, Q = 2 ^ q := ⟨_, rfl⟩
          have hQl : Q < 2 ^ n := by rw [hQ]; exact Nat.pow_lt_pow_right (by decide) hqn
          have hn64 := H49.out
          have rr : bits .or .u64 (m : Int) (Q : Int) = ((m ||| Q : Nat) : Int) := u64_or_nat _ _ (by have := Hm.out; omega) (by omega)
          have Hml := Lib.hid (Bt.or_lt Hm.out hQl)
          have RR := Lib.hid rr
          rw [← hQ] at Hfy
          have HQ := Lib.hid hQ
          clear rr hQ hQl hn64
          go_wp2_with fail
          refine (i_onlyN _ q Q _ rfl HQ.out (by omega)).mono ?_
          rintro e w' ⟨rfl, rfl⟩
          go_wp2_with fail
          go_roundw
          case rel => exact ⟨j + 1, m ||| Q, by omega, by go_num, by rw [RR.out], Hml.out, Hfy.out, Hb3.out⟩
          case measure => simp [intOf]; omega
    · have hfull : L.take j = L := List.take_of_length_le (by have := Hln.out; omega)
      have hf2 := Hf.out
      rw [hfull] at hf2
      have Hd : Hid (∀ q, q < n → (m.testBit q = true ↔ (CanP (k : Int) n cs x su) q)) := Lib.hid fun q hq => by
        rw [hf2 q]
        refine ⟨fun h => h.2, fun h => ⟨Lf.out q (by rw [Hl.out]; exact hq) ?_, h⟩⟩
        obtain ⟨r, hr⟩ := h
        exact plays_empty hr
      have Hff := Lib.hid (Hb.out.trans (Hbr.out.mono Hb.out.size))
      clear hfull hf2
      go_wp2_with fail
      go_ret
      exact ⟨m, rfl, Hm.out, Hd.out, Hff.out⟩

set_option maxRecDepth 100000 in
set_option maxHeartbeats 8000000 in
theorem i_capturing (k n : Nat) (cs : List Int) (x : Int) (w : World) (hv : Bd.okB (k : Int) cs = true) (hl : cs.length = n) (x1 : 1 ≤ x) (x2 : x ≤ 2) (ht : Tab w) (he : ErrW w) :
    Calls Tryd.prog 66 #[.agg #[.int .i64 (k : Nat), .int .u64 (Bt.msk cs 0 n : Nat), .int .u64 (Bt.msk cs 1 n : Nat), .int .u64 (Bt.msk cs 2 n : Nat)], .int .i64 x] w fun e w' => ∃ m : Nat, e = .returned (.int .u64 (m : Nat)) ∧ m < 2 ^ n ∧ (∀ q, q < n → (m.testBit q = true ↔ (CapP (k : Int) n cs x) q)) ∧ Below w.heap.size w w' := by
  obtain ⟨q1, q2, q3, q4⟩ := (Bd.okB_iff (k : Int) cs).1 hv
  have k1 : 1 ≤ k := by omega
  have k2 : k ≤ 7 := by omega
  have hnn : n = k * k := by
    have : (n : Int) = ((k * k : Nat) : Int) := by rw [← hl]; push_cast; exact q3
    exact_mod_cast this
  have hn49 : n ≤ 49 := by have := (Bt.sq_nat k k1 k2).2.1; omega
  have h49 : 2 ^ n ≤ 2 ^ 49 := Nat.pow_le_pow_right (by decide) hn49
  have cl := col_list hl hn49 0
  have CQ : Hid (∀ q, q < n → ∃ R, Plays (k : Int) n cs x q false R ∧ ∀ w v0 v1, Errs w v0 v1 → Calls Tryd.prog 49 #[.agg #[.int .i64 (k : Nat), .int .u64 (Bt.msk cs 0 n : Nat), .int .u64 (Bt.msk cs 1 n : Nat), .int .u64 (Bt.msk cs 2 n : Nat)], .int .i64 x, .int .i64 (q : Nat), .bool false] w fun e w' => PlI k n v0 v1 R e ∧ Below w.heap.size w w') := Lib.hid fun q hq => by
    obtain ⟨R, hR⟩ := plays_make k n q cs x false hv hl hq x1 x2
    exact ⟨R, hR, fun w v0 v1 hg => i_plR k n q cs x false R hv hl hq x1 x2 hR w v0 v1 hg⟩
  have hE64 := msk_lt64 cs 0 k n k1 k2 hnn
  obtain ⟨L, hL⟩ : ∃ L, Bt.pts (Bt.msk cs 0 n) 64 = L := ⟨_, rfl⟩
  have CL : Hid (∀ w, Tab w → Calls Tryd.prog 51 #[.int .u64 (Bt.msk cs 0 n : Nat)] w fun e w' => ∃ A n c, e = .returned (.slice A n c) ∧ Own w' w.heap.size A n c L ∧ Below w.heap.size w w') := Lib.hid fun w ht => by rw [← hL]; exact i_list _ w ht hE64
  rw [hL] at cl
  obtain ⟨E0, h0⟩ : ∃ E, Bt.msk cs 0 n = E := ⟨_, rfl⟩
  obtain ⟨E1, h1⟩ : ∃ E, Bt.msk cs 1 n = E := ⟨_, rfl⟩
  obtain ⟨E2, h2⟩ : ∃ E, Bt.msk cs 2 n = E := ⟨_, rfl⟩
  rw [h0] at CL
  rw [h0, h1, h2] at CQ ⊢
  have Lp := Lib.hid cl.2.1
  have Ll := cl.1
  have Lf := Lib.hid cl.2.2
  have HT := Lib.hid ht
  have HE := Lib.hid he
  have H49 := Lib.hid h49
  have Hl := Lib.hid hl
  have P0 := Lib.hid (Px.new w (k : Nat) E0 E1 E2)
  have Hb := Lib.hid ((Below.refl w.heap.size w).alloc (Nat.le_refl _) (.cells #[.int .i64 (k : Nat), .int .u64 (E0 : Nat), .int .u64 (E1 : Nat), .int .u64 (E2 : Nat)] 67))
  clear hv x1 x2 q1 q2 q3 q4 k1 k2 hnn cl hE64 hL h0 h1 h2 ht he h49 hl
  have c0 := P0.out.c0
  have c1 := P0.out.c1
  have c2 := P0.out.c2
  have c3 := P0.out.c3
  go_enter Tryd.func66, Tryd.ntmps66
  go_wp2_with fail
  refine (CL.out _ (HT.out.below Hb.out)).mono ?_
  rintro e y2 ⟨A, ln, c, rfl, ho, hb⟩
  have P0 := Lib.hid (P0.out.step hb)
  have Hb := Lib.hid (Hb.out.trans (hb.mono (by simp)))
  have hln := ho.1
  have Hln := Lib.hid hln
  have HI := Lib.hid ho.ints
  have hln64 : ln ≤ 64 := by omega
  clear hb ho hln c0 c1 c2 c3 Ll
  go_wp2_with fail
  go_loopw [5, 16] (fun v i wr => ∃ j m : Nat, j ≤ ln ∧ i = .int .i64 (j : Nat) ∧ v = .int .u64 (m : Nat) ∧ m < 2 ^ n ∧ Fd (CapP (k : Int) n cs x) (L.take j) m ∧ Below y2.heap.size y2 wr) (fun _ i _ => ln - (intOf i).toNat)
  case atStart => exact ⟨0, 0, by omega, rfl, rfl, Nat.two_pow_pos _, fun q => by simp, Below.refl _ _⟩
  case round =>
    obtain ⟨j, m, hj, rfl, rfl, hm, hf, hbr⟩ := hrel
    have Q0 := Lib.hid (P0.out.step hbr)
    have HIr := Lib.hid (HI.out.below hbr (Nat.le_refl _))
    have Hbr := Lib.hid hbr
    have Hm := Lib.hid hm
    have Hf := Lib.hid hf
    clear hbr hm hf
    have c0 := Q0.out.c0
    have c1 := Q0.out.c1
    have c2 := Q0.out.c2
    have c3 := Q0.out.c3
    have hz0 := Q0.out.lt
    by_cases hjn : j < ln
    · obtain ⟨q, hq, hqn, hq0⟩ := Lp.out j (by have := Hln.out; omega)
      rcases HIr.out.2 with h0 | ⟨b, o, rfl, hbB, hc⟩
      · omega
      · have ck := hc j hjn
        rw [hq] at ck
        have Hq := Lib.hid hq
        have hjI : (j : Int) < ln := by omega
        clear hc hq hq0
        obtain ⟨R, hR, hC⟩ := CQ.out q hqn
        obtain ⟨a0, a1, hee⟩ := (HE.out.below Hb.out).below Hbr.out
        have HC := Lib.hid (hC wr _ _ hee)
        clear hC hee
        go_wp2_with fail
        refine HC.out.mono ?_
        rintro e y3 ⟨hpi, hb⟩
        clear c0 c1 c2 c3 ck HC hz0
        cases R with
        | none =>
          obtain ⟨v, hv, rfl⟩ := hpi
          have Hfn := Lib.hid (Hf.out.no (by have := Hln.out; omega) Hq.out (by rintro ⟨r, hR', _⟩; have := hR.one hR'; cases this))
          have hb4 : Below y3.heap.size y3 (y3.alloc (.cells #[.int .i64 0, .int .u64 0, .int .u64 0, .int .u64 0] 67)) := (Below.refl _ _).alloc (Nat.le_refl _) _
          have Hb3 := Lib.hid ((Hbr.out.trans (hb.mono Hbr.out.size)).trans (hb4.mono (by have := hb.size; have := Hbr.out.size; omega)))
          clear hb hb4
          clear hR
          rcases hv with rfl | rfl
          · go_wp2_with fail
            go_roundw
            case rel => exact ⟨j + 1, m, by omega, by go_num, rfl, Hm.out, Hfn.out, Hb3.out⟩
            case measure => simp [intOf]; omega
          · go_wp2_with fail
            go_roundw
            case rel => exact ⟨j + 1, m, by omega, by go_num, rfl, Hm.out, Hfn.out, Hb3.out⟩
            case measure => simp [intOf]; omega
        | some r =>
          obtain ⟨os, gs⟩ := r
          obtain ⟨m', hml, hgs, rfl⟩ := hpi
          obtain ⟨F0, g0⟩ : ∃ E, Bt.msk os 0 n = E := ⟨_, rfl⟩
          obtain ⟨F1, g1⟩ : ∃ E, Bt.msk os 1 n = E := ⟨_, rfl⟩
          obtain ⟨F2, g2⟩ : ∃ E, Bt.msk os 2 n = E := ⟨_, rfl⟩
          rw [g0, g1, g2]
          have hb4 : Below y3.heap.size y3 (y3.alloc (.cells #[.int .i64 (k : Nat), .int .u64 (F0 : Nat), .int .u64 (F1 : Nat), .int .u64 (F2 : Nat)] 67)) := (Below.refl _ _).alloc (Nat.le_refl _) _
          have Hb3 := Lib.hid ((Hbr.out.trans (hb.mono Hbr.out.size)).trans (hb4.mono (by have := hb.size; have := Hbr.out.size; omega)))
          clear hb hb4
          clear g0 g1 g2
          by_cases h0 : m' = 0
          · subst h0
            have hge : gs = [] := by rw [← hgs]; simp [Bt.pts]
            have Hfn := Lib.hid (Hf.out.no (by have := Hln.out; omega) Hq.out (by rintro ⟨r, hR', hr⟩; have := hR.one hR'; injection this with this; subst this; exact hr hge))
            clear hR hgs hge hml
            go_wp2_with fail
            go_roundw
            case rel => exact ⟨j + 1, m, by omega, by go_num, rfl, Hm.out, Hfn.out, Hb3.out⟩
            case measure => simp [intOf]; omega
          · have h0' : ((m' : Int) != 0) = true := by simp; omega
            have hge : gs ≠ [] := by
              intro e
              apply h0
              apply Nat.eq_of_testBit_eq
              intro t
              rw [Nat.zero_testBit]
              rcases e2 : m'.testBit t with _ | _
              · rfl
              · have ht : t < n := by
                  rcases Nat.lt_or_ge t n with h' | h'
                  · exact h'
                  · rw [Bt.high hml h'] at e2; cases e2
                have hm2 : (t : Int) ∈ Bt.pts m' n := Bt.pts_mem.2 ⟨t, rfl, ht, e2⟩
                rw [hgs, e] at hm2
                cases hm2
            have Hfy := Lib.hid (Hf.out.yes (by have := Hln.out; omega) Hq.out ⟨_, hR, hge⟩)
            clear hR hgs hge hml h0
            obtain ⟨Q, hQ⟩ : ∃ Q, Q = 2 ^ q := ⟨_, rfl⟩
            have hQl : Q < 2 ^ n := by rw [hQ]; exact Nat.pow_lt_pow_right (by decide) hqn
            have hn64 := H49.out
            have rr : bits .or .u64 (m : Int) (Q : Int) = ((m ||| Q : Nat) : Int) := u64_or_nat _ _ (by have := Hm.out; omega) (by omega)
            have Hml := Lib.hid (Bt.or_lt Hm.out hQl)
            have RR := Lib.hid rr
            rw [← hQ] at Hfy
            have HQ := Lib.hid hQ
            clear rr hQ hQl hn64
            go_wp2_with fail
            refine (i_onlyN _ q Q _ rfl HQ.out (by omega)).mono ?_
            rintro e w' ⟨rfl, rfl⟩
            go_wp2_with fail
            go_roundw
            case rel => exact ⟨j + 1, m ||| Q, by omega, by go_num, by rw [RR.out], Hml.out, Hfy.out, Hb3.out⟩
            case measure => simp [intOf]; omega
    · have hfull : L.take j = L := List.take_of_length_le (by have := Hln.out; omega)
      have hf2 := Hf.out
      rw [hfull] at hf2
      have Hd : Hid (∀ q, q < n → (m.testBit q = true ↔ (CapP (k : Int) n cs x) q)) := Lib.hid fun q hq => by
        rw [hf2 q]
        refine ⟨fun h => h.2, fun h => ⟨Lf.out q (by rw [Hl.out]; exact hq) ?_, h⟩⟩
        obtain ⟨r, hr, _⟩ := h
        exact plays_empty hr
      have Hff := Lib.hid (Hb.out.trans (Hbr.out.mono Hb.out.size))
      clear hfull hf2
      go_wp2_with fail
      go_ret
      exact ⟨m, rfl, Hm.out, Hd.out, Hff.out⟩
end Go.Proofs.YtpogjegihhljpaaDoor

namespace Go.Proofs.YtpogjegihhljpaaDoor
set_option maxRecDepth 100000
open Go.RowKit

set_option maxRecDepth 100000 in
set_option maxHeartbeats 4000000 in
theorem i_Poss (s x : Int) (su : Bool) (w : World) (B : Nat) (A : Option Addr) (n c : Nat) (cs lr : List Int) (h : Ints w B A n cs) (hB : B ≤ w.heap.size) (hn : n ≤ 1000000000) (hI : Hid (PosIs s n cs x su lr)) (ht : Tab w) (he : ErrW w) :
    Calls Tryd.prog 21 #[.agg #[.int .i64 s, .slice A n c], .int .i64 x, .bool su] w fun e w' => ∃ A n c, e = .returned (.slice A n c) ∧ Own w' w.heap.size A n c lr ∧ Below w.heap.size w w' := by
  have hl := h.1
  have hb1 : Below w.heap.size w (w.alloc (.cells #[.int .i64 s, .slice A n c] 25)) := (Below.refl _ _).alloc (Nat.le_refl _) _
  have H := Lib.hid (h.below hb1 hB)
  have Hb := Lib.hid hb1
  have Bxx := Lib.hid (Bx.new 25 w s (.slice A n c))
  have HT := Lib.hid ht
  have HE := Lib.hid he
  clear h hb1 ht he
  obtain ⟨v1, r1⟩ : ∃ b, Bd.okB s cs = b := ⟨_, rfl⟩
  obtain ⟨v2, r2⟩ : ∃ b, (decide (1 ≤ x) && decide (x ≤ 2)) = b := ⟨_, rfl⟩
  have He1 := Lib.hid r1
  have He2 := Lib.hid r2
  cases v1
  · have HF := Lib.hid (hI.out.2 (by rw [okX, r1]; rfl))
    clear r1 r2 hl
    go_enter Tryd.func21, Tryd.ntmps21
    go_wp2_with fail
    refine (i_validBoard _ _ _ _ _ _ _ H.out (by simp; omega) hn).mono ?_
    rintro e y ⟨rfl, hb⟩
    have Hb2 := Lib.hid (Hb.out.trans (hb.mono (by simp)))
    clear hb
    rw [He1.out]
    go_wp2_with fail
    go_ret
    exact ⟨_, _, _, rfl, by rw [HF.out]; exact Own.nil _ _, Hb2.out⟩
  · cases v2
    · have HF := Lib.hid (hI.out.2 (by rw [okX, r1, r2]; rfl))
      clear r1 r2 hl
      go_enter Tryd.func21, Tryd.ntmps21
      go_wp2_with fail
      refine (i_validBoard _ _ _ _ _ _ _ H.out (by simp; omega) hn).mono ?_
      rintro e y ⟨rfl, hb⟩
      have Hb2 := Lib.hid (Hb.out.trans (hb.mono (by simp)))
      clear hb
      rw [He1.out]
      go_wp2_with fail
      refine (i_eyeStone _ _).mono ?_
      rintro e w' ⟨rfl, rfl⟩
      rw [He2.out]
      go_wp2_with fail
      go_ret
      exact ⟨_, _, _, rfl, by rw [HF.out]; exact Own.nil _ _, Hb2.out⟩
    · have hpp := hI.out.1 (by rw [okX, r1, r2]; rfl)
      obtain ⟨q1, q2, q3, q4⟩ := (Bd.okB_iff s cs).1 r1
      rw [Bool.and_eq_true, decide_eq_true_eq, decide_eq_true_eq] at r2
      obtain ⟨x1, x2⟩ := r2
      obtain ⟨k, rfl⟩ := Int.eq_ofNat_of_zero_le (show 0 ≤ s by omega)
      have hsq := Pt.sq_bd (k : Int) q1 q2
      have hn49 : n ≤ 49 := by omega
      have Hpp := Lib.hid hpp
      have H49 := Lib.hid hn49
      have CP : Hid (∀ w, Ints w B A n cs → B ≤ w.heap.size → Calls Tryd.prog 48 #[.agg #[.int .i64 (k : Nat), .slice A n c]] w fun e w' => e = .returned (.agg #[.int .i64 (k : Nat), .int .u64 (Bt.msk cs 0 n : Nat), .int .u64 (Bt.msk cs 1 n : Nat), .int .u64 (Bt.msk cs 2 n : Nat)]) ∧ Below w.heap.size w w') := Lib.hid fun w h hB => i_positionOf k w B A n c cs h hB r1
      have CG : Hid (∀ w, Tab w → ErrW w → Calls Tryd.prog 61 #[.agg #[.int .i64 (k : Nat), .int .u64 (Bt.msk cs 0 n : Nat), .int .u64 (Bt.msk cs 1 n : Nat), .int .u64 (Bt.msk cs 2 n : Nat)], .int .i64 x, .bool su] w fun e w' => ∃ m : Nat, e = .returned (.int .u64 (m : Nat)) ∧ m < 2 ^ n ∧ (∀ q, q < n → (m.testBit q = true ↔ (CanP (k : Int) n cs x su) q)) ∧ Below w.heap.size w w') := Lib.hid fun w ht he => i_possible k n cs x su w r1 hl x1 x2 ht he
      obtain ⟨E0, h0⟩ : ∃ E, Bt.msk cs 0 n = E := ⟨_, rfl⟩
      obtain ⟨E1, h1⟩ : ∃ E, Bt.msk cs 1 n = E := ⟨_, rfl⟩
      obtain ⟨E2, h2⟩ : ∃ E, Bt.msk cs 2 n = E := ⟨_, rfl⟩
      rw [h0, h1, h2] at CP CG
      clear r1 hl hpp q1 q2 q3 q4 x1 x2 hsq hI hn49 h0 h1 h2
      go_enter Tryd.func21, Tryd.ntmps21
      go_wp2_with fail
      refine (i_validBoard _ _ _ _ _ _ _ H.out (by simp; omega) hn).mono ?_
      rintro e y ⟨rfl, hb⟩
      have v0 := (Bxx.out.below hb (by simp)).cell0
      have v1 := (Bxx.out.below hb (by simp)).cell1
      have H2 := Lib.hid (H.out.below hb (by simp; omega))
      have Hb2 := Lib.hid (Hb.out.trans (hb.mono (by simp)))
      clear hb
      rw [He1.out]
      go_wp2_with fail
      refine (i_eyeStone _ _).mono ?_
      rintro e w' ⟨rfl, rfl⟩
      rw [He2.out]
      go_wp2_with fail
      refine (CP.out _ H2.out (by have := Hb2.out.size; omega)).mono ?_
      rintro e y2 ⟨rfl, hb⟩
      have Hb3 := Lib.hid (Hb2.out.trans (hb.mono Hb2.out.size))
      clear hb v0 v1
      go_wp2_with fail
      refine (CG.out _ (HT.out.below Hb3.out) (HE.out.below Hb3.out)).mono ?_
      rintro e y3 ⟨m, rfl, hm, hq, hb⟩
      have Hb4 := Lib.hid (Hb3.out.trans (hb.mono Hb3.out.size))
      have hle := (PPs.bits hq).one Hpp.out
      have hm64 : m < 18446744073709551616 := by
        have : 2 ^ n ≤ 2 ^ 49 := Nat.pow_le_pow_right (by decide) H49.out
        omega
      have hmp : Bt.pts m 64 = lr := by rw [Bt.pts_more hm (by have := H49.out; omega), hle]
      have CL : Hid (∀ w, Tab w → Calls Tryd.prog 51 #[.int .u64 (m : Nat)] w fun e w' => ∃ A n c, e = .returned (.slice A n c) ∧ Own w' w.heap.size A n c lr ∧ Below w.heap.size w w') := Lib.hid fun w ht => by rw [← hmp]; exact i_list m w ht hm64
      clear hb hm hq hle hm64 hmp
      go_wp2_with fail
      refine (CL.out _ (HT.out.below Hb4.out)).mono ?_
      rintro e y4 ⟨A2, n2, c2, rfl, ho, hb⟩
      have Hb5 := Lib.hid (Hb4.out.trans (hb.mono Hb4.out.size))
      have Ho := Lib.hid (ho.weaken Hb4.out.size)
      clear hb ho
      go_wp2_with fail
      go_ret
      exact ⟨_, _, _, rfl, Ho.out, Hb5.out⟩

set_option maxRecDepth 100000 in
set_option maxHeartbeats 4000000 in
theorem i_Cap (s x : Int) (w : World) (B : Nat) (A : Option Addr) (n c : Nat) (cs lr : List Int) (h : Ints w B A n cs) (hB : B ≤ w.heap.size) (hn : n ≤ 1000000000) (hI : Hid (CapIs s n cs x lr)) (ht : Tab w) (he : ErrW w) :
    Calls Tryd.prog 26 #[.agg #[.int .i64 s, .slice A n c], .int .i64 x] w fun e w' => ∃ A n c, e = .returned (.slice A n c) ∧ Own w' w.heap.size A n c lr ∧ Below w.heap.size w w' := by
  have hl := h.1
  have hb1 : Below w.heap.size w (w.alloc (.cells #[.int .i64 s, .slice A n c] 25)) := (Below.refl _ _).alloc (Nat.le_refl _) _
  have H := Lib.hid (h.below hb1 hB)
  have Hb := Lib.hid hb1
  have Bxx := Lib.hid (Bx.new 25 w s (.slice A n c))
  have HT := Lib.hid ht
  have HE := Lib.hid he
  clear h hb1 ht he
  obtain ⟨v1, r1⟩ : ∃ b, Bd.okB s cs = b := ⟨_, rfl⟩
  obtain ⟨v2, r2⟩ : ∃ b, (decide (1 ≤ x) && decide (x ≤ 2)) = b := ⟨_, rfl⟩
  have He1 := Lib.hid r1
  have He2 := Lib.hid r2
  cases v1
  · have HF := Lib.hid (hI.out.2 (by rw [okX, r1]; rfl))
    clear r1 r2 hl
    go_enter Tryd.func26, Tryd.ntmps26
    go_wp2_with fail
    refine (i_validBoard _ _ _ _ _ _ _ H.out (by simp; omega) hn).mono ?_
    rintro e y ⟨rfl, hb⟩
    have Hb2 := Lib.hid (Hb.out.trans (hb.mono (by simp)))
    clear hb
    rw [He1.out]
    go_wp2_with fail
    go_ret
    exact ⟨_, _, _, rfl, by rw [HF.out]; exact Own.nil _ _, Hb2.out⟩
  · cases v2
    · have HF := Lib.hid (hI.out.2 (by rw [okX, r1, r2]; rfl))
      clear r1 r2 hl
      go_enter Tryd.func26, Tryd.ntmps26
      go_wp2_with fail
      refine (i_validBoard _ _ _ _ _ _ _ H.out (by simp; omega) hn).mono ?_
      rintro e y ⟨rfl, hb⟩
      have Hb2 := Lib.hid (Hb.out.trans (hb.mono (by simp)))
      clear hb
      rw [He1.out]
      go_wp2_with fail
      refine (i_eyeStone _ _).mono ?_
      rintro e w' ⟨rfl, rfl⟩
      rw [He2.out]
      go_wp2_with fail
      go_ret
      exact ⟨_, _, _, rfl, by rw [HF.out]; exact Own.nil _ _, Hb2.out⟩
    · have hpp := hI.out.1 (by rw [okX, r1, r2]; rfl)
      obtain ⟨q1, q2, q3, q4⟩ := (Bd.okB_iff s cs).1 r1
      rw [Bool.and_eq_true, decide_eq_true_eq, decide_eq_true_eq] at r2
      obtain ⟨x1, x2⟩ := r2
      obtain ⟨k, rfl⟩ := Int.eq_ofNat_of_zero_le (show 0 ≤ s by omega)
      have hsq := Pt.sq_bd (k : Int) q1 q2
      have hn49 : n ≤ 49 := by omega
      have Hpp := Lib.hid hpp
      have H49 := Lib.hid hn49
      have CP : Hid (∀ w, Ints w B A n cs → B ≤ w.heap.size → Calls Tryd.prog 48 #[.agg #[.int .i64 (k : Nat), .slice A n c]] w fun e w' => e = .returned (.agg #[.int .i64 (k : Nat), .int .u64 (Bt.msk cs 0 n : Nat), .int .u64 (Bt.msk cs 1 n : Nat), .int .u64 (Bt.msk cs 2 n : Nat)]) ∧ Below w.heap.size w w') := Lib.hid fun w h hB => i_positionOf k w B A n c cs h hB r1
      have CG : Hid (∀ w, Tab w → ErrW w → Calls Tryd.prog 66 #[.agg #[.int .i64 (k : Nat), .int .u64 (Bt.msk cs 0 n : Nat), .int .u64 (Bt.msk cs 1 n : Nat), .int .u64 (Bt.msk cs 2 n : Nat)], .int .i64 x] w fun e w' => ∃ m : Nat, e = .returned (.int .u64 (m : Nat)) ∧ m < 2 ^ n ∧ (∀ q, q < n → (m.testBit q = true ↔ (CapP (k : Int) n cs x) q)) ∧ Below w.heap.size w w') := Lib.hid fun w ht he => i_capturing k n cs x w r1 hl x1 x2 ht he
      obtain ⟨E0, h0⟩ : ∃ E, Bt.msk cs 0 n = E := ⟨_, rfl⟩
      obtain ⟨E1, h1⟩ : ∃ E, Bt.msk cs 1 n = E := ⟨_, rfl⟩
      obtain ⟨E2, h2⟩ : ∃ E, Bt.msk cs 2 n = E := ⟨_, rfl⟩
      rw [h0, h1, h2] at CP CG
      clear r1 hl hpp q1 q2 q3 q4 x1 x2 hsq hI hn49 h0 h1 h2
      go_enter Tryd.func26, Tryd.ntmps26
      go_wp2_with fail
      refine (i_validBoard _ _ _ _ _ _ _ H.out (by simp; omega) hn).mono ?_
      rintro e y ⟨rfl, hb⟩
      have v0 := (Bxx.out.below hb (by simp)).cell0
      have v1 := (Bxx.out.below hb (by simp)).cell1
      have H2 := Lib.hid (H.out.below hb (by simp; omega))
      have Hb2 := Lib.hid (Hb.out.trans (hb.mono (by simp)))
      clear hb
      rw [He1.out]
      go_wp2_with fail
      refine (i_eyeStone _ _).mono ?_
      rintro e w' ⟨rfl, rfl⟩
      rw [He2.out]
      go_wp2_with fail
      refine (CP.out _ H2.out (by have := Hb2.out.size; omega)).mono ?_
      rintro e y2 ⟨rfl, hb⟩
      have Hb3 := Lib.hid (Hb2.out.trans (hb.mono Hb2.out.size))
      clear hb v0 v1
      go_wp2_with fail
      refine (CG.out _ (HT.out.below Hb3.out) (HE.out.below Hb3.out)).mono ?_
      rintro e y3 ⟨m, rfl, hm, hq, hb⟩
      have Hb4 := Lib.hid (Hb3.out.trans (hb.mono Hb3.out.size))
      have hle := (PPs.bits hq).one Hpp.out
      have hm64 : m < 18446744073709551616 := by
        have : 2 ^ n ≤ 2 ^ 49 := Nat.pow_le_pow_right (by decide) H49.out
        omega
      have hmp : Bt.pts m 64 = lr := by rw [Bt.pts_more hm (by have := H49.out; omega), hle]
      have CL : Hid (∀ w, Tab w → Calls Tryd.prog 51 #[.int .u64 (m : Nat)] w fun e w' => ∃ A n c, e = .returned (.slice A n c) ∧ Own w' w.heap.size A n c lr ∧ Below w.heap.size w w') := Lib.hid fun w ht => by rw [← hmp]; exact i_list m w ht hm64
      clear hb hm hq hle hm64 hmp
      go_wp2_with fail
      refine (CL.out _ (HT.out.below Hb4.out)).mono ?_
      rintro e y4 ⟨A2, n2, c2, rfl, ho, hb⟩
      have Hb5 := Lib.hid (Hb4.out.trans (hb.mono Hb4.out.size))
      have Ho := Lib.hid (ho.weaken Hb4.out.size)
      clear hb ho
      go_wp2_with fail
      go_ret
      exact ⟨_, _, _, rfl, Ho.out, Hb5.out⟩
end Go.Proofs.YtpogjegihhljpaaDoor

namespace Go.Proofs.YtpogjegihhljpaaDoor
set_option maxRecDepth 100000
open Go.RowKit

/-- The model's answer in memory. -/
def AnswS (s : Int) (n : Nat) (R : Option (List Int × List Int)) (w : World) (e : Ending) (w' : World) : Prop :=
  (R = none ∧ e = .returned (.tuple #[.agg #[.int .i64 0, .slice none 0 0], .slice none 0 0, .bool false]) ∧ Below w.heap.size w w') ∨
  ∃ os gs A1 c1 A2 n2 c2, R = some (os, gs) ∧ e = .returned (.tuple #[.agg #[.int .i64 s, .slice A1 n c1], .slice A2 n2 c2, .bool true]) ∧ Own w' w.heap.size A1 n c1 os ∧ Own w' w.heap.size A2 n2 c2 gs ∧ Below w.heap.size w w'

section
variable (s x p : Int) (su : Bool) (w : World) (B : Nat) (A : Option Addr) (n c : Nat) (cs : List Int) (R : Option (List Int × List Int)) (h : Ints w B A n cs) (hB : B ≤ w.heap.size) (hn : n ≤ 1000000000) (hR : PlB s n cs x p su R)
include h hB hn hR

set_option maxRecDepth 100000 in
set_option maxHeartbeats 8000000 in
theorem s_PlayB : Calls Tryd.prog 14 #[.agg #[.int .i64 s, .slice A n c], .int .i64 x, .int .i64 p, .bool su] w (AnswS s n R w) := by
  have hl := h.1
  obtain ⟨b1, r1⟩ : ∃ b, Bd.okB s cs = b := ⟨_, rfl⟩
  obtain ⟨b2, r2⟩ : ∃ b, (decide (1 ≤ x) && decide (x ≤ 2)) = b := ⟨_, rfl⟩
  obtain ⟨b3, r3⟩ : ∃ b, Pt.okP s p = b := ⟨_, rfl⟩
  have He1 := Lib.hid r1
  have He2 := Lib.hid r2
  have He3 := Lib.hid r3
  have e1 : (w.alloc (.cells #[.int .i64 s, .slice A n c] 25)).heap.size = w.heap.size + 1 := by simp
  have x0 := (Bx.new 25 w s (.slice A n c)).alloc (.cells #[.int .i64 0, .slice none 0 0] 25)
  have xx := Bx.new 25 (w.alloc (.cells #[.int .i64 s, .slice A n c] 25)) 0 (.slice none 0 0)
  rw [e1] at xx
  have hb2 : Below w.heap.size w ((w.alloc (.cells #[.int .i64 s, .slice A n c] 25)).alloc (.cells #[.int .i64 0, .slice none 0 0] 25)) := ((Below.refl _ _).alloc (Nat.le_refl _) _).alloc (by simp) _
  have H := Lib.hid (h.below hb2 hB)
  have X0 := Lib.hid x0
  have X1 := Lib.hid xx
  have Hb := Lib.hid hb2
  clear e1 x0 xx hb2
  cases b1
  · have HR : Hid (R = none) := Lib.hid (by unfold PlB at hR; rw [if_neg (by rintro ⟨h, _⟩; rw [r1] at h; cases h)] at hR; exact hR)
    clear hR r1 r2 r3 hl h
    go_enter Tryd.func14, Tryd.ntmps14
    go_wp2_with fail
    refine (s_validBoard _ _ _ _ _ _ _ H.out (by simp; omega) hn).mono ?_
    rintro e y ⟨rfl, hb⟩
    have X0 := Lib.hid (X0.out.below hb X0.out.lt)
    have X1 := Lib.hid (X1.out.below hb X1.out.lt)
    have H := Lib.hid (H.out.below hb (by simp; omega))
    have Hb := Lib.hid (Hb.out.trans (hb.mono (by simp; omega)))
    clear hb
    rw [He1.out]
    have c0 := X1.out.cell0
    have c1 := X1.out.cell1
    have f0 := X1.out.frozen 0
    have f1 := X1.out.frozen 1
    have l1 := X1.out.lt
    have K0 := Lib.hid ((X1.out.set0 0).cell0)
    have K1 := Lib.hid (((X1.out.set0 0).set1 (.slice none 0 0)).cell1)
    have Hb3 := Lib.hid ((Hb.out.setCell (p := ⟨w.heap.size + 1, 0, none⟩) (by show w.heap.size ≤ w.heap.size + 1; omega) (.int .i64 0)).setCell (p := ⟨w.heap.size + 1, 1, none⟩) (by show w.heap.size ≤ w.heap.size + 1; omega) (.slice none 0 0))
    clear X1
    go_wp2_with fail
    have k0 := K0.out
    have k1 := K1.out
    refine bodyPost_ret (v := .tuple #[.agg #[.int .i64 0, .slice none 0 0], .slice none 0 0, .bool false]) (by simp [results, Tryd.results14, go_sem, k0, k1]) rfl ?_
    exact .inl ⟨by first | exact HR.out | rfl, rfl, Hb3.out⟩
  · cases b2
    · have HR : Hid (R = none) := Lib.hid (by unfold PlB at hR; rw [if_neg (by rintro ⟨_, ⟨h1, h2⟩, _⟩; rw [decide_eq_true h1, decide_eq_true h2] at r2; cases r2)] at hR; exact hR)
      clear hR r1 r2 r3 hl h
      go_enter Tryd.func14, Tryd.ntmps14
      go_wp2_with fail
      refine (s_validBoard _ _ _ _ _ _ _ H.out (by simp; omega) hn).mono ?_
      rintro e y ⟨rfl, hb⟩
      have X0 := Lib.hid (X0.out.below hb X0.out.lt)
      have X1 := Lib.hid (X1.out.below hb X1.out.lt)
      have H := Lib.hid (H.out.below hb (by simp; omega))
      have Hb := Lib.hid (Hb.out.trans (hb.mono (by simp; omega)))
      clear hb
      rw [He1.out]
      have v0 := X0.out.cell0
      have v1 := X0.out.cell1
      have v2 := X0.out.lt
      go_wp2_with fail
      refine (s_vcolor _ _).mono ?_
      rintro e w' ⟨rfl, rfl⟩
      rw [He2.out]
      clear v0 v1 v2
      have c0 := X1.out.cell0
      have c1 := X1.out.cell1
      have f0 := X1.out.frozen 0
      have f1 := X1.out.frozen 1
      have l1 := X1.out.lt
      have K0 := Lib.hid ((X1.out.set0 0).cell0)
      have K1 := Lib.hid (((X1.out.set0 0).set1 (.slice none 0 0)).cell1)
      have Hb3 := Lib.hid ((Hb.out.setCell (p := ⟨w.heap.size + 1, 0, none⟩) (by show w.heap.size ≤ w.heap.size + 1; omega) (.int .i64 0)).setCell (p := ⟨w.heap.size + 1, 1, none⟩) (by show w.heap.size ≤ w.heap.size + 1; omega) (.slice none 0 0))
      clear X1
      go_wp2_with fail
      have k0 := K0.out
      have k1 := K1.out
      refine bodyPost_ret (v := .tuple #[.agg #[.int .i64 0, .slice none 0 0], .slice none 0 0, .bool false]) (by simp [results, Tryd.results14, go_sem, k0, k1]) rfl ?_
      exact .inl ⟨by first | exact HR.out | rfl, rfl, Hb3.out⟩
    · cases b3
      · have HR : Hid (R = none) := Lib.hid (by unfold PlB at hR; rw [if_neg (by rintro ⟨_, _, h⟩; rw [r3] at h; cases h)] at hR; exact hR)
        obtain ⟨q1, q2, _, _⟩ := (Bd.okB_iff s cs).1 r1
        clear hR r1 r2 r3 hl h
        go_enter Tryd.func14, Tryd.ntmps14
        go_wp2_with fail
        refine (s_validBoard _ _ _ _ _ _ _ H.out (by simp; omega) hn).mono ?_
        rintro e y ⟨rfl, hb⟩
        have X0 := Lib.hid (X0.out.below hb X0.out.lt)
        have X1 := Lib.hid (X1.out.below hb X1.out.lt)
        have H := Lib.hid (H.out.below hb (by simp; omega))
        have Hb := Lib.hid (Hb.out.trans (hb.mono (by simp; omega)))
        clear hb
        rw [He1.out]
        have v0 := X0.out.cell0
        have v1 := X0.out.cell1
        have v2 := X0.out.lt
        go_wp2_with fail
        refine (s_vcolor _ _).mono ?_
        rintro e w' ⟨rfl, rfl⟩
        rw [He2.out]
        go_wp2_with fail
        refine (s_vptB _ _ _ q1 q2).mono ?_
        rintro e w' ⟨rfl, rfl⟩
        rw [He3.out]
        clear v0 v1 v2
        have c0 := X1.out.cell0
        have c1 := X1.out.cell1
        have f0 := X1.out.frozen 0
        have f1 := X1.out.frozen 1
        have l1 := X1.out.lt
        have K0 := Lib.hid ((X1.out.set0 0).cell0)
        have K1 := Lib.hid (((X1.out.set0 0).set1 (.slice none 0 0)).cell1)
        have Hb3 := Lib.hid ((Hb.out.setCell (p := ⟨w.heap.size + 1, 0, none⟩) (by show w.heap.size ≤ w.heap.size + 1; omega) (.int .i64 0)).setCell (p := ⟨w.heap.size + 1, 1, none⟩) (by show w.heap.size ≤ w.heap.size + 1; omega) (.slice none 0 0))
        clear X1
        go_wp2_with fail
        have k0 := K0.out
        have k1 := K1.out
        refine bodyPost_ret (v := .tuple #[.agg #[.int .i64 0, .slice none 0 0], .slice none 0 0, .bool false]) (by simp [results, Tryd.results14, go_sem, k0, k1]) rfl ?_
        exact .inl ⟨by first | exact HR.out | rfl, rfl, Hb3.out⟩
      · clear H X0 X1 Hb
        rw [Bool.and_eq_true, decide_eq_true_eq, decide_eq_true_eq] at r2
        obtain ⟨x1, x2⟩ := r2
        obtain ⟨q1, q2, q3, q4⟩ := (Bd.okB_iff s cs).1 r1
        obtain ⟨_, _, p0, pn⟩ := (Pt.okP_iff s p).1 r3
        obtain ⟨q, rfl⟩ := Int.eq_ofNat_of_zero_le (show 0 ≤ p by omega)
        have hpl : Plays s n cs x q su R := by
          unfold PlB at hR
          rw [if_pos ⟨r1, ⟨x1, x2⟩, r3⟩] at hR
          exact hR
        have hqn : q < n := by omega
        refine (s_PlayStone s x q su w B A n c cs h hB r1 hqn x1 x2).mono ?_
        rintro e w' (⟨h0, rfl, hb⟩ | ⟨os, gs, A1, c1, A2, n2, c2, hR', rfl, ho, hg, hb⟩)
        · exact .inl ⟨hpl.one h0, rfl, hb⟩
        · exact .inr ⟨os, gs, A1, c1, A2, n2, c2, hpl.one hR', rfl, ho, hg, hb⟩
end
end Go.Proofs.YtpogjegihhljpaaDoor

namespace Go.Proofs.YtpogjegihhljpaaDoor
set_option maxRecDepth 100000
open Go.RowKit

def vS (s : Int) (R : Option (List Int × List Int)) : Int := if R.isSome then s else 0
def vC (R : Option (List Int × List Int)) : List Int := (R.map (·.1)).getD []
def vG (R : Option (List Int × List Int)) : List Int := (R.map (·.2)).getD []

/-- The parts of an answer. -/
structure View (s : Int) (R : Option (List Int × List Int)) (rs : Int) (rc rg : List Int) (ok : Bool) : Prop where
  s : vS s R = rs
  c : vC R = rc
  g : vG R = rg
  o : R.isSome = ok

section
variable (s x p : Int) (su : Bool) (w : World) (B : Nat) (A : Option Addr) (n c : Nat) (cs : List Int) (R : Option (List Int × List Int)) (rs : Int) (rc rg : List Int) (ok : Bool) (h : Ints w B A n cs) (hB : B ≤ w.heap.size) (hn : n ≤ 1000000000) (hR : Hid (PlB s n cs x p su R)) (hV : Hid (View s R rs rc rg ok))
include h hB hn hR hV

theorem s_PlV : Calls Tryd.prog 14 #[.agg #[.int .i64 s, .slice A n c], .int .i64 x, .int .i64 p, .bool su] w fun e w' => ∃ A1 n1 c1 A2 n2 c2, e = .returned (.tuple #[.agg #[.int .i64 rs, .slice A1 n1 c1], .slice A2 n2 c2, .bool ok]) ∧ (Own w' w.heap.size A1 n1 c1 rc ∧ Own w' w.heap.size A2 n2 c2 rg) ∧ Below w.heap.size w w' := by
  obtain ⟨rfl, rfl, rfl, rfl⟩ := hV.out
  refine (s_PlayB s x p su w B A n c cs R h hB hn hR.out).mono ?_
  rintro e w' (⟨rfl, rfl, hb⟩ | ⟨os, gs, A1, c1, A2, n2, c2, rfl, rfl, ho, hg, hb⟩)
  · exact ⟨none, 0, 0, none, 0, 0, rfl, ⟨Own.nil _ _, Own.nil _ _⟩, hb⟩
  · exact ⟨_, _, _, _, _, _, rfl, ⟨ho, hg⟩, hb⟩
theorem i_PlV (ht : Tab w) (he : ErrW w) : Calls Tryd.prog 13 #[.agg #[.int .i64 s, .slice A n c], .int .i64 x, .int .i64 p, .bool su] w fun e w' => ∃ A1 n1 c1 A2 n2 c2 mid, e = .returned (.tuple #[.agg #[.int .i64 rs, .slice A1 n1 c1], .slice A2 n2 c2, .bool ok]) ∧ Own w' w.heap.size A1 n1 c1 rc ∧ (∀ g, A1 = some ⟨g, 0, none⟩ → g < mid) ∧ Own w' mid A2 n2 c2 rg ∧ w.heap.size ≤ mid ∧ mid ≤ w'.heap.size ∧ Below w.heap.size w w' := by
  obtain ⟨rfl, rfl, rfl, rfl⟩ := hV.out
  refine (i_PlayB s x p su w B A n c cs R h hB hn ht he hR.out).mono ?_
  rintro e w' (⟨rfl, rfl, hb⟩ | ⟨os, gs, A1, c1, A2, n2, c2, mid, rfl, rfl, ho, hlt, hg, h1, h2, hb⟩)
  · exact ⟨none, 0, 0, none, 0, 0, w.heap.size, rfl, Own.nil _ _, (fun g e => by cases e), Own.nil _ _, Nat.le_refl _, hb.size, hb⟩
  · exact ⟨_, _, _, _, _, _, mid, rfl, ho, hlt, hg, h1, h2, hb⟩
end

theorem Plays.len {s x : Int} {n p : Nat} {cs : List Int} {su : Bool} {os gs : List Int} (h : Plays s n cs x p su (some (os, gs))) : os.length = n ∧ gs.length ≤ n + n := by
  have pl : ∀ S : List Bool, (Fl.pts S n).length ≤ n := fun S => by
    unfold Fl.pts
    rw [List.length_map]
    exact Nat.le_trans (List.length_filter_le _ _) (by simp)
  cases h with
  | lives S _ _ hr _ => exact ⟨hr.olen, by have := pl S; omega⟩
  | both S os1 S2 _ _ k _ hr _ _ hr2 hso hk =>
    refine ⟨hr2.olen, ?_⟩
    have := hso.len
    rw [List.length_append] at this
    have := pl S
    have := pl S2
    omega
theorem PlB.len {s x p : Int} {n : Nat} {cs : List Int} {su : Bool} {R : Option (List Int × List Int)} (h : PlB s n cs x p su R) (hn : n ≤ 1048576) : (vC R).length ≤ 1048576 ∧ (vG R).length ≤ 2097152 := by
  cases R with
  | none => exact ⟨by simp [vC], by simp [vG]⟩
  | some r =>
    obtain ⟨os, gs⟩ := r
    unfold PlB at h
    split at h
    · have := h.len
      exact ⟨by show os.length ≤ _; omega, by show gs.length ≤ _; omega⟩
    · cases h
end Go.Proofs.YtpogjegihhljpaaDoor

namespace Go.Proofs.YtpogjegihhljpaaDoor
set_option maxRecDepth 100000
open Go.RowKit

/-- The bytes that the reader reads lie below block B. -/
def Code (w : World) (B : Nat) (S : Option Addr) (n : Nat) : Prop :=
  n = 0 ∨ ∃ b o, S = some ⟨b, o, none⟩ ∧ b < B ∧ n ≤ 2000 ∧ ∀ j, j < n → ∃ x : Int, 0 ≤ x ∧ x ≤ 255 ∧ w.cell? ⟨b, o + j, none⟩ = some (.int .u8 x)

/-- Block g is a reader over such bytes, at position q. -/
def Rdr (w : World) (B g q : Nat) : Prop :=
  B ≤ g ∧ ∃ S n c, w.heap[g]? = some (.cells #[.slice S n c, .int .i64 q] 87 (0, 0)) ∧ Code w B S n

theorem Rdr.lt {w : World} {B g q : Nat} (h : Rdr w B g q) : g < w.heap.size := by
  obtain ⟨_, S, n, c, h, _⟩ := h
  rcases Nat.lt_or_ge g w.heap.size with hlt | hge
  · exact hlt
  · rw [Array.getElem?_eq_none hge] at h; cases h
theorem Code.keep {w w' : World} {B n : Nat} {S : Option Addr} (h : Code w B S n) (hk : ∀ k, k < B → w'.heap[k]? = w.heap[k]?) : Code w' B S n := by
  rcases h with h | ⟨b, o, hS, hb, hn, hc⟩
  · exact .inl h
  · refine .inr ⟨b, o, hS, hb, hn, fun j hj => ?_⟩
    obtain ⟨x, x1, x2, hx⟩ := hc j hj
    exact ⟨x, x1, x2, (World.cell?_of_block (w := w) (hk b hb)).trans hx⟩
theorem Rdr.below {w w' : World} {B g q : Nat} (h : Rdr w B g q) {B' : Nat} (hb : Below B' w w') (hg : g < B') : Rdr w' B g q := by
  obtain ⟨hB, S, n, c, hh, hc⟩ := h
  exact ⟨hB, S, n, c, (hb.block g hg).trans hh, hc.keep fun k hk => hb.block k (by omega)⟩
theorem Rdr.grown {w w' : World} {B g q : Nat} (h : Rdr w B g q) {row : Option Nat} (hw : w.grownBy w' row) (hr : ∀ k, row = some k → B ≤ k ∧ k ≠ g) : Rdr w' B g q := by
  have hlt := h.lt
  obtain ⟨hB, S, n, c, hh, hc⟩ := h
  refine ⟨hB, S, n, c, (hw.block g hlt fun e => (hr g e.symm).2 rfl).trans hh, hc.keep fun k hk => hw.block k (by omega) fun e => ?_⟩
  have := (hr k e.symm).1
  omega

theorem xor_bd (a b : Nat) (ha : a < 2 ^ 62) (hb : b < 2 ^ 62) : 0 ≤ bits .xor .i64 (a : Int) (b : Int) := by
  have hx : a ^^^ b < 2 ^ 62 := Nat.xor_lt_two_pow ha hb
  have h1 : (BitVec.ofInt 64 (a : Int)).toNat = a := by
    rw [BitVec.ofInt_natCast, BitVec.toNat_ofNat]; exact Nat.mod_eq_of_lt (by omega)
  have h2 : (BitVec.ofInt 64 (b : Int)).toNat = b := by
    rw [BitVec.ofInt_natCast, BitVec.toNat_ofNat]; exact Nat.mod_eq_of_lt (by omega)
  show 0 ≤ IntKind.i64.wrap ((BitVec.ofInt 64 (a : Int) ^^^ BitVec.ofInt 64 (b : Int)).toNat : Int)
  rw [BitVec.toNat_xor, h1, h2, IntKind.wrap_i64]
  omega

theorem xor_mod (X m : Int) (h0 : 0 ≤ X) (h1 : X ≤ 1000000000000000) (hm : 1 ≤ m) : 0 ≤ (bits .xor .i64 X (X / 64)).tmod m ∧ (bits .xor .i64 X (X / 64)).tmod m < m := by
  obtain ⟨a, rfl⟩ := Int.eq_ofNat_of_zero_le h0
  obtain ⟨b, hb⟩ := Int.eq_ofNat_of_zero_le (show 0 ≤ (a : Int) / 64 by omega)
  rw [hb]
  have := xor_bd a b (by omega) (by omega)
  exact ⟨Int.tmod_nonneg _ this, Int.tmod_lt_of_pos _ (by omega)⟩

def Picked (w : World) (B g q : Nat) (m : Int) (e : Ending) (w' : World) : Prop :=
  ∃ x : Int, e = .returned (.int .i64 x) ∧ 0 ≤ x ∧ x < max m 1 ∧ Rdr w' B g (q + 1) ∧ w.grownBy w' (some g)

theorem picked_of {w w' : World} {B g q k : Nat} {m : Int} {e : Ending} {S : Option Addr} {n c : Nat} {x : Int} (hB : B ≤ g) (hh : w.heap[g]? = some (.cells #[.slice S n c, .int .i64 q] 87 (0, 0))) (hc : Code w B S n)
    (he : e = .returned (.int .i64 x)) (x1 : 0 ≤ x) (x2 : x < max m 1) (hw : (w.setCell ⟨g, 1, none⟩ (.int .i64 (q + 1))).drewN k = w') : Picked w B g q m e w' := by
  subst hw
  have hg : w.grownBy ((w.setCell ⟨g, 1, none⟩ (.int .i64 (q + 1))).drewN k) (some g) :=
    ⟨rfl, rfl, rfl, by simp [World.setCell], fun j hj hne => Below.heap_setCell _ _ _ _ (fun e => hne (by subst e; rfl))⟩
  refine ⟨x, he, x1, x2, ⟨hB, S, n, c, ?_, hc.keep fun j hj => Below.heap_setCell _ _ _ _ (fun e => by subst e; exact absurd hj (by simp; omega))⟩, hg⟩
  show ((w.setCell ⟨g, 1, none⟩ (.int .i64 (q + 1)))).heap[g]? = _
  simp [World.setCell, Array.getElem?_modify, hh]

set_option maxRecDepth 100000 in
set_option maxHeartbeats 800000 in
theorem r_pick (B g q : Nat) (m : Int) (w : World) (h : Rdr w B g q) (hq : q ≤ 1000000000000) :
    Calls Tryd.prog 45 #[.pointer (some ⟨g, 0, none⟩), .int .i64 m] w fun e w' => Picked w B g q m e w' := by
  obtain ⟨hB, S, n, c, hh, hc⟩ := h
  have c0 : w.cell? ⟨g, 0, none⟩ = some (.slice S n c) := by simp [World.cell?, hh]
  have c1 : w.cell? ⟨g, 1, none⟩ = some (.int .i64 q) := by simp [World.cell?, hh]
  have f1 : w.frozen? ⟨g, 1, none⟩ = false := by simp [World.frozen?, hh]
  have hlt : g < w.heap.size := Rdr.lt ⟨hB, S, n, c, hh, hc⟩
  have fin := fun e w' x k => picked_of (w' := w') (k := k) (m := m) (e := e) (x := x) hB hh hc
  have Fin := Lib.hid fin
  clear fin
  have Hh := Lib.hid hh
  clear hh
  by_cases hm : m < 1
  · have hc' := Lib.hid hc
    clear hc
    go_enter Tryd.func45, Tryd.ntmps45
    go_wp2
    go_ret
    exact Fin.out _ _ 0 0 rfl (by omega) (by omega) rfl
  · rcases hc with rfl | ⟨b, o, rfl, hb, hn, hcell⟩
    · go_enter Tryd.func45, Tryd.ntmps45
      go_wp2
      go_ret
      exact Fin.out _ _ 0 0 rfl (by omega) (by omega) rfl
    · by_cases hn0 : n = 0
      · subst hn0
        go_enter Tryd.func45, Tryd.ntmps45
        go_wp2
        go_ret
        exact Fin.out _ _ 0 0 rfl (by omega) (by omega) rfl
      · by_cases hqn : q < n
        · obtain ⟨x, x1, x2, hx⟩ := hcell q hqn
          clear hcell
          have hm0 : 0 ≤ x % m := Int.emod_nonneg _ (by omega)
          have hm1 : x % m < m := Int.emod_lt_of_pos _ (by omega)
          have hlt' : b < g := by omega
          go_enter Tryd.func45, Tryd.ntmps45
          go_wp2
          go_ret
          exact Fin.out _ _ _ 0 rfl hm0 (by omega) rfl
        · have hpos : 0 < n := by omega
          have r1 := Nat.mod_lt q hpos
          have r2 := Nat.mod_lt (q * 7 + 3) hpos
          obtain ⟨j1, hj1⟩ : ∃ j, q % n = j := ⟨_, rfl⟩
          obtain ⟨j2, hj2⟩ : ∃ j, (q * 7 + 3) % n = j := ⟨_, rfl⟩
          obtain ⟨d, hd⟩ : ∃ d, q / n = d := ⟨_, rfl⟩
          have hdq : d ≤ q := by rw [← hd]; exact Nat.div_le_self q n
          rw [hj1] at r1
          rw [hj2] at r2
          obtain ⟨x, x1, x2, hx⟩ := hcell j1 r1
          obtain ⟨y, y1, y2, hy⟩ := hcell j2 r2
          clear hcell
          have t1 : (q : Int).tmod (n : Int) = (j1 : Int) := by rw [Int.tmod_eq_emod_of_nonneg (by omega), ← hj1]; rfl
          have t2 : ((q : Int) * 7 + 3).tmod (n : Int) = (j2 : Int) := by rw [Int.tmod_eq_emod_of_nonneg (by omega), ← hj2]; rfl
          have t1' : (q : Int) % (n : Int) = (j1 : Int) := by rw [← hj1]; rfl
          have t2' : ((q : Int) * 7 + 3) % (n : Int) = (j2 : Int) := by rw [← hj2]; rfl
          have t3 : (q : Int).tdiv (n : Int) = (d : Int) := by rw [Int.tdiv_eq_ediv_of_nonneg (by omega), ← hd]; rfl
          have t3' : (q : Int) / (n : Int) = (d : Int) := by rw [← hd]; rfl
          have l1 : (j1 : Int) < n := by omega
          have l2 : (j2 : Int) < n := by omega
          have k1 : IntKind.i64.wrap ((q : Int) * 7) = (q : Int) * 7 := IntWalk.i64_in _ (by omega)
          have k2 : IntKind.i64.wrap ((q : Int) * 7 + 3) = (q : Int) * 7 + 3 := IntWalk.i64_in _ (by omega)
          have k3 : IntKind.i64.wrap ((q : Int) * 29) = (q : Int) * 29 := IntWalk.i64_in _ (by omega)
          have k4 : IntKind.i64.wrap ((d : Int) * 53) = (d : Int) * 53 := IntWalk.i64_in _ (by omega)
          have k5 : IntKind.i64.wrap (x * 131) = x * 131 := IntWalk.i64_in _ (by omega)
          have k6 : IntKind.i64.wrap (y * 1117) = y * 1117 := IntWalk.i64_in _ (by omega)
          have k7 : IntKind.i64.wrap (x * 131 + y * 1117) = x * 131 + y * 1117 := IntWalk.i64_in _ (by omega)
          have k8 : IntKind.i64.wrap (x * 131 + y * 1117 + (q : Int) * 29) = x * 131 + y * 1117 + (q : Int) * 29 := IntWalk.i64_in _ (by omega)
          have k9 : IntKind.i64.wrap (x * 131 + y * 1117 + (q : Int) * 29 + (d : Int) * 53) = x * 131 + y * 1117 + (q : Int) * 29 + (d : Int) * 53 := IntWalk.i64_in _ (by omega)
          have hlt' : b < g := by omega
          go_enter Tryd.func45, Tryd.ntmps45
          go_wp2
          go_quiet (fail)
          have X1 : 0 ≤ x * 131 + y * 1117 + (q : Int) * 29 + (d : Int) * 53 := by omega
          have X2 : x * 131 + y * 1117 + (q : Int) * 29 + (d : Int) * 53 ≤ 1000000000000000 := by omega
          clear t1 t2 t1' t2' t3 t3' l1 l2 k1 k2 k3 k4 k5 k6 k7 k8 k9 hj1 hj2 hd
          generalize x * 131 + y * 1117 + (q : Int) * 29 + (d : Int) * 53 = X at *
          go_wp2
          go_ret
          have hm' := xor_mod X m X1 X2 (by omega)
          exact Fin.out _ _ _ _ rfl hm'.1 (by omega) rfl
end Go.Proofs.YtpogjegihhljpaaDoor

namespace Go.Proofs.YtpogjegihhljpaaDoor
set_option maxRecDepth 100000
open Go.RowKit

def Got (P : Int → Prop) (w : World) (B g q : Nat) (e : Ending) (w' : World) : Prop :=
  ∃ x : Int, e = .returned (.int .i64 x) ∧ P x ∧ Rdr w' B g q ∧ w.grownBy w' (some g)

theorem r_one (B g q : Nat) (A : Option Addr) (c : Nat) (xs : List Int) (B' : Nat) (w : World) (h : Rdr w B g q) (hq : q ≤ 1000000000000) (hx : Ints w B' A xs.length xs) (hB : B' ≤ w.heap.size) (hpos : 0 < xs.length) (hl : xs.length ≤ 1000000)
    (hg : ∀ b o, A = some ⟨b, o, none⟩ → b ≠ g) :
    Calls Tryd.prog 74 #[.pointer (some ⟨g, 0, none⟩), .slice A xs.length c] w fun e w' => Got (· ∈ xs) w B g (q + 1) e w' := by
  rcases hx.2 with h0 | ⟨b, o, rfl, hb, hc⟩
  · omega
  · have hbg := hg b o rfl
    clear hg
    go_enter Tryd.func74, Tryd.ntmps74
    go_wp2_with fail
    refine (r_pick B g q _ _ h hq).mono ?_
    rintro e w1 ⟨x, rfl, x1, x2, hr, hw⟩
    obtain ⟨n, rfl⟩ := Int.eq_ofNat_of_zero_le x1
    have hn : n < xs.length := by omega
    have hcell := (World.cell?_of_block (w' := w1) (w := w) (a := ⟨b, o + n, none⟩) (hw.block b (by omega) (by simpa using hbg))).trans (hc n hn)
    clear hc
    have hlt : (n : Int) < xs.length := by omega
    have Hr := Lib.hid hr
    have Hw := Lib.hid hw
    clear hr hw
    go_wp2_with fail
    go_ret
    exact ⟨_, rfl, by simp, Hr.out, Hw.out⟩

theorem sq8 (s : Int) (h1 : 0 ≤ s) (h2 : s ≤ 8) : 0 ≤ s * s ∧ s * s ≤ 64 := by
  have : s = 0 ∨ s = 1 ∨ s = 2 ∨ s = 3 ∨ s = 4 ∨ s = 5 ∨ s = 6 ∨ s = 7 ∨ s = 8 := by omega
  rcases this with rfl | rfl | rfl | rfl | rfl | rfl | rfl | rfl | rfl <;> decide

theorem r_anyPoint (B g q : Nat) (s : Int) (w : World) (h : Rdr w B g q) (hq : q ≤ 100000000000) (s1 : 0 ≤ s) (s2 : s ≤ 8) :
    Calls Tryd.prog 44 #[.pointer (some ⟨g, 0, none⟩), .int .i64 s] w fun e w' => Got (fun _ => True) w B g (q + 2) e w' := by
  have hlt := h.lt
  obtain ⟨m1, m2⟩ := sq8 s s1 s2
  go_enter Tryd.func44, Tryd.ntmps44
  go_wp2_with fail
  refine (r_pick B g q _ _ h (by omega)).mono ?_
  rintro e w1 ⟨x, rfl, x1, x2, hr, hw⟩
  have hz := hw.size
  have Hw := Lib.hid hw
  clear hw h
  by_cases h0 : x = 0
  · have hb : ((x : Int) == 0) = true := by simpa using h0
    clear h0
    go_wp2_with fail
    have hl := Ints.lit w1 3 [-1, s * s, 49]
    have hlt1 := hr.lt
    refine (r_one B g (q + 1) _ _ [-1, s * s, 49] _ _ (hr.below ((Below.refl _ _).alloc (Nat.le_refl _) _) hlt1) (by omega) hl (by simp) (by simp) (by simp) (by rintro b o e; injection e with e; injection e; omega)).mono ?_
    rintro e w2 ⟨y, rfl, hy, hr2, hw2⟩
    have Hr := Lib.hid hr2
    have Hw2 := Lib.hid (gtrans Hw.out (gtrans (World.grownBy_alloc w1 _ (some g)) hw2))
    clear hr hw2 hl hy hr2
    go_wp2_with fail
    go_ret
    exact ⟨_, rfl, trivial, Hr.out, Hw2.out⟩
  · have hb : ((x : Int) == 0) = false := by simpa using h0
    clear h0
    go_wp2_with fail
    all_goals
      refine (r_pick B g (q + 1) _ _ hr (by omega)).mono ?_
      rintro e w2 ⟨y, rfl, y1, y2, hr2, hw2⟩
      have Hr := Lib.hid hr2
      have Hw2 := Lib.hid (gtrans Hw.out hw2)
      clear hr hw2 hr2
      go_wp2_with fail
      go_ret
      exact ⟨_, rfl, trivial, Hr.out, Hw2.out⟩

/-- What a law is told of the code that came in: nil, or a row of bytes. -/
def IsRow (k : IntKind) (w : World) (a : Option Addr) (len cap : Nat) (zs : List Int) : Prop :=
  (a = none ∧ len = 0 ∧ cap = 0 ∧ zs = []) ∨
  ∃ x, a = some x ∧ len ≤ cap ∧ cap ≤ maxLen ∧ zs.length = cap ∧ (∀ i, i < zs.length → w.cell? (x.add i) = some (.int k (zs.getD i 0))) ∧ ∀ n ∈ zs, (Lit.int k n).wf = true

theorem code_of {w : World} {a : Option Addr} {len cap : Nat} {zs : List Int} (h : IsRow .u8 w a len cap zs) (n : Nat) (hn : n ≤ len) (h2 : n ≤ 2000) : Code w w.heap.size a n := by
  by_cases h0 : n = 0
  · exact .inl h0
  · rcases h with ⟨_, h, _⟩ | ⟨x, rfl, hl, _, hz, hcell, hwz⟩
    · omega
    · obtain ⟨b, off, spot⟩ := x
      have hc := hcell 0 (by omega)
      have hspot : spot = none := by simpa [Addr.add] using World.cell?_spot hc
      subst hspot
      refine .inr ⟨b, off, rfl, ?_, h2, fun j hj => ?_⟩
      · exact World.block_lt_of_cell? w _ hc
      · have hj' := hcell j (by omega)
        have e : (⟨b, off, none⟩ : Addr).add j = ⟨b, off + j, none⟩ := by by_cases hj0 : j = 0 <;> simp [Addr.add, hj0]
        rw [e] at hj'
        refine ⟨_, ?_, ?_, hj'⟩
        all_goals
          have hlt : j < zs.length := by omega
          have hm : zs.getD j 0 ∈ zs := by
            rw [List.getD_eq_getElem?_getD, List.getElem?_eq_getElem hlt]; exact List.getElem_mem _
          have := bounds_u8 (hwz _ hm)
          omega

theorem r_new (w : World) (a : Option Addr) (len cap : Nat) (zs : List Int) (h : IsRow .u8 w a len cap zs) :
    Calls Tryd.prog 41 #[.slice a len cap] w fun e w' => ∃ g, e = .returned (.pointer (some ⟨g, 0, none⟩)) ∧ Rdr w' w.heap.size g 0 ∧ Below w.heap.size w w' := by
  have hcode := code_of h (min len 2000) (by omega) (by omega)
  have hcap : 2000 < len → 2000 ≤ cap := fun hl => by rcases h with ⟨_, h, _⟩ | ⟨x, _, h, _⟩ <;> omega
  have hlen : len ≤ 9223372036854775807 := by
    rcases h with ⟨_, h, _⟩ | ⟨x, _, h, h', _⟩
    · omega
    · unfold maxLen at h'; omega
  have Hc := Lib.hid hcode
  have hn : 2000 < len → a ≠ none := fun hl e => by subst e; rcases h with ⟨_, h, _⟩ | ⟨x, h, _⟩ <;> simp_all
  clear hcode
  by_cases hl : 2000 < len
  · have hcap' := hcap hl
    have hn' := hn hl
    clear hcap hn
    obtain ⟨x, rfl⟩ := Option.ne_none_iff_exists'.1 hn'
    clear hn'
    go_enter Tryd.func41, Tryd.ntmps41
    go_wp2
    go_ret
    have hb : Below w.heap.size w (w.alloc (.cells #[.slice (some x) 2000 cap, .int .i64 0] 87)) := (Below.refl _ _).alloc (Nat.le_refl _) _
    refine ⟨_, rfl, ⟨Nat.le_refl _, _, _, _, heap_alloc_new w _, ?_⟩, hb⟩
    have := Hc.out
    rw [Nat.min_eq_right (by omega)] at this
    exact this.keep fun k hk => hb.block k hk
  · clear hcap hn
    go_enter Tryd.func41, Tryd.ntmps41
    go_wp2
    go_ret
    have hb : Below w.heap.size w (w.alloc (.cells #[.slice a len cap, .int .i64 0] 87)) := (Below.refl _ _).alloc (Nat.le_refl _) _
    refine ⟨_, rfl, ⟨Nat.le_refl _, _, _, _, heap_alloc_new w _, ?_⟩, hb⟩
    have := Hc.out
    rw [Nat.min_eq_left (by omega)] at this
    exact this.keep fun k hk => hb.block k hk
end Go.Proofs.YtpogjegihhljpaaDoor

namespace Go.Proofs.YtpogjegihhljpaaDoor
set_option maxRecDepth 100000
open Go.RowKit

theorem r_smallSize (B g q : Nat) (w : World) (h : Rdr w B g q) (hq : q ≤ 1000000000000) :
    Calls Tryd.prog 99 #[.pointer (some ⟨g, 0, none⟩)] w fun e w' => Got (fun x => 1 ≤ x ∧ x ≤ 7) w B g (q + 1) e w' := by
  have hlt := h.lt
  go_enter Tryd.func99, Tryd.ntmps99
  go_wp2_with fail
  have hl := Ints.lit w 3 [3, 4, 5, 3, 2, 4, 6, 7, 1]
  refine (r_one B g q _ _ [3, 4, 5, 3, 2, 4, 6, 7, 1] _ _ (h.below ((Below.refl _ _).alloc (Nat.le_refl _) _) hlt) hq hl (by simp) (by simp) (by simp) (by rintro b o e; injection e with e; injection e; omega)).mono ?_
  rintro e w1 ⟨x, rfl, hx, hr, hw⟩
  have Hr := Lib.hid hr
  have Hw := Lib.hid (gtrans (World.grownBy_alloc w _ (some g)) hw)
  have Hx := Lib.hid hx
  clear hr hw hl hx
  go_wp2_with fail
  go_ret
  refine ⟨_, rfl, ?_, Hr.out, Hw.out⟩
  have := Hx.out
  simp at this
  omega
end Go.Proofs.YtpogjegihhljpaaDoor

namespace Go.Proofs.YtpogjegihhljpaaDoor
set_option maxRecDepth 100000
open Go.RowKit

/-- A valid board of the call's own that a draw made. -/
def DrawnB (w : World) (B g m : Nat) (q : Nat) (e : Ending) (w' : World) : Prop :=
  ∃ (s : Int) (A : Option Addr) (n c : Nat) (cs : List Int) (q' : Nat), e = .returned (.agg #[.int .i64 s, .slice A n c]) ∧ Own w' m A n c cs ∧ Bd.okB s cs = true ∧ Rdr w' B g q' ∧ q' ≤ q ∧ w.grownBy w' (some g)

theorem Rdr.far {w : World} {B g q : Nat} (h : Rdr w B g q) (p : Addr) (hp : g ≠ p.block) (hB : B ≤ p.block) (u : Value) : Rdr (w.setCell p u) B g q := by
  obtain ⟨hB', S, n, c, hh, hc⟩ := h
  exact ⟨hB', S, n, c, (Below.heap_setCell w p u g hp).trans hh, hc.keep fun j hj => Below.heap_setCell w p u j (by omega)⟩
theorem gset {w w' : World} {row : Option Nat} (h : w.grownBy w' row) (p : Addr) (hp : w.heap.size ≤ p.block) (u : Value) : w.grownBy (w'.setCell p u) row :=
  ⟨h.os, h.tape, h.output, by have := h.size; simpa [World.setCell] using this, fun k hk hne => (Below.heap_setCell w' p u k (by omega)).trans (h.block k hk hne)⟩
theorem okB_mk {s : Int} {cs : List Int} (h1 : 1 ≤ s) (h2 : s ≤ 7) (h3 : (cs.length : Int) = s * s) (h4 : OkL cs) : Bd.okB s cs = true := (Bd.okB_iff s cs).2 ⟨h1, h2, h3, okL_mem.1 h4⟩
theorem okL_zero (n : Nat) : OkL (List.replicate n 0) := okL_mem.2 fun c hc => by rw [List.eq_of_mem_replicate hc]; omega

theorem oth_bd {x : Int} (h1 : 1 ≤ x) (h2 : x ≤ 2) : 1 ≤ oth x ∧ oth x ≤ 2 := by
  have : x = 1 ∨ x = 2 := by omega
  rcases this with rfl | rfl <;> decide

/-- Behind one round's draw. -/
def RoundRel (y : World) (B g q : Nat) (s : Int) (n : Nat) (v8 v10 : Value) (wx : World) : Prop :=
  ∃ g8 ok s' A' n' c' cs', v8 = .pointer (some ⟨g8, 0, none⟩) ∧ v10 = .bool ok ∧ y.heap.size ≤ g8 ∧ Bx 25 wx g8 s' (.slice A' n' c') ∧ (ok = true → s' = s ∧ n' = n ∧ Own wx y.heap.size A' n' c' cs' ∧ OkL cs') ∧
    Rdr wx B g (q + 1) ∧ y.grownBy wx (some g)

set_option maxRecDepth 100000 in
set_option maxHeartbeats 4000000 in
theorem r_played (s : Int) (B g q : Nat) (w : World) (h : Rdr w B g q) (hq : q ≤ 100000000000) (h1 : 1 ≤ s) (h2 : s ≤ 7) :
    Calls Tryd.prog 104 #[.pointer (some ⟨g, 0, none⟩), .int .i64 s] w fun e w' => DrawnB w B g w.heap.size (q + 100) e w' := by
  have hlt := h.lt
  have hsq := Pt.sq_bd s h1 h2
  obtain ⟨n, hn⟩ : ∃ n : Nat, s * s = n := ⟨(s * s).toNat, by omega⟩
  have hn49 : n ≤ 49 := by omega
  have hn1 : 1 ≤ n := by omega
  have X4 := Lib.hid (Bx.new 25 w 0 (.slice none 0 0))
  have hb1 : Below w.heap.size w (w.alloc (.cells #[.int .i64 0, .slice none 0 0] 25)) := (Below.refl _ _).alloc (Nat.le_refl _) _
  have Hr := Lib.hid (h.below hb1 hlt)
  have Hb := Lib.hid hb1
  have Hn := Lib.hid hn
  have hsz : (w.alloc (.cells #[.int .i64 0, .slice none 0 0] 25)).heap.size = w.heap.size + 1 := by simp
  have Hsz := Lib.hid hsz
  clear h hb1 hn hsz
  go_enter Tryd.func104, Tryd.ntmps104
  go_wp2_with fail
  refine (s_new s _).mono ?_
  rintro e y ⟨A1, n1, c1, rfl, ho, hb⟩
  have hs1 : newS s = s := by rw [newS, if_pos ((Pt.okS_iff s).2 ⟨h1, h2⟩)]
  have hc1 : newCs s = List.replicate n 0 := by rw [newCs, if_pos ((Pt.okS_iff s).2 ⟨h1, h2⟩), Hn.out]; simp
  rw [hc1] at ho
  rw [hs1]
  obtain rfl : n1 = n := by have := ho.1; simpa using this.symm
  rw [Hsz.out] at ho
  have Ho := Lib.hid ho
  have X4 := Lib.hid (X4.out.below hb X4.out.lt)
  have Hr := Lib.hid (Hr.out.below hb Hr.out.lt)
  have Hb := Lib.hid (Hb.out.trans (hb.mono (by rw [Hsz.out]; omega)))
  have hzy := hb.size
  have Hne := Lib.hid (fun g' (hA : A1 = some ⟨g', 0, none⟩) => (ho.ge hA).2)
  rw [Hsz.out] at hzy
  clear ho hb hs1 hc1 Hsz
  go_upto_region 2 with (fail)
  obtain ⟨y3, hy3, hb3, z3, z4⟩ := new_box y (.cells #[.int .i64 s, .slice A1 n1 c1] 25)
  have X5 : Hid (Bx 25 y3 y.heap.size s (.slice A1 n1 c1)) := Lib.hid (by rw [hy3]; exact Bx.new _ _ _ _)
  rw [← hy3]
  clear hy3
  have X4 := Lib.hid (X4.out.below hb3 X4.out.lt)
  have Ho := Lib.hid (Ho.out.below hb3)
  have Hr := Lib.hid (Hr.out.below hb3 Hr.out.lt)
  have Hb := Lib.hid (Hb.out.trans (hb3.mono (by omega)))
  clear hb3
  go_wp2_with fail
  refine (r_pick B g q _ _ Hr.out (by omega)).mono ?_
  rintro e y4 ⟨k0, rfl, k1, k2, hr, hg⟩
  have X4 := Lib.hid (X4.out.grown hg (fun e => by have := Option.some.inj e; omega))
  have X5 := Lib.hid (X5.out.grown hg (fun e => by have := Option.some.inj e; omega))
  have Ho := Lib.hid (Ho.out.kept hg (fun g' hA e => by have := (Ho.out.ge hA).1; have := Option.some.inj e; omega))
  have Hg := Lib.hid (gtrans (gbelow (some g) Hb.out (Nat.le_refl _)) hg)
  have Hr := Lib.hid hr
  have z5 := X5.out.lt
  have hk0 : k0 ≤ 98 := by omega
  obtain ⟨k, rfl⟩ := Int.eq_ofNat_of_zero_le k1
  clear hr hg k2
  go_wp2_with fail
  go_loopw [6, 7] (fun v6 v7 wr => ∃ (x : Int) (k q1 : Nat) (A : Option Addr) (c : Nat) (cs : List Int), v6 = .int .i64 x ∧ 1 ≤ x ∧ x ≤ 2 ∧ v7 = .int .i64 (k : Nat) ∧ k + q1 ≤ q + 100 ∧ Bx 25 wr w.heap.size 0 (.slice none 0 0) ∧ Bx 25 wr y.heap.size s (.slice A n1 c) ∧
    Own wr (w.heap.size + 1) A n1 c cs ∧ (∀ g', A = some ⟨g', 0, none⟩ → g' ≠ y.heap.size) ∧ OkL cs ∧ Rdr wr B g q1 ∧ w.grownBy wr (some g)) (fun _ v _ => (intOf v).toNat)
  case atStart => exact ⟨1, k, q + 1, A1, c1, _, rfl, by omega, by omega, rfl, by omega, X4.out, X5.out, Ho.out, fun g' hA => by have := Hne.out g' hA; omega, okL_zero n1, Hr.out, Hg.out⟩
  case round =>
    clear X4 X5 Ho Hr Hg Hb Hne z5 hk0
    obtain ⟨x, r, q1, A, c, cs, rfl, x1, x2, rfl, hkq, hx4, hx5, ho, hne, hok, hr, hg⟩ := hrel
    have X4 := Lib.hid hx4
    have X5 := Lib.hid hx5
    have Hv := Lib.hid (okB_mk h1 h2 (by rw [ho.1]; exact Hn.out.symm) hok)
    have Ho := Lib.hid ho
    have Hne := Lib.hid hne
    have Hok := Lib.hid hok
    have Hr := Lib.hid hr
    have Hg := Lib.hid hg
    have z5 := X5.out.lt
    have zw := hg.size
    clear hx4 hx5 ho hne hok hr hg
    by_cases hk0 : r = 0
    · subst hk0
      have t0 := X5.out.cell0
      have t1 := X5.out.cell1
      have t2 := X4.out.cell0
      have t3 := X4.out.cell1
      have t4 := X4.out.frozen 0
      have t5 := X4.out.frozen 1
      have t6 := X4.out.lt
      go_wp2_with fail
      have k0 := (X4.out.set0 s).cell0
      have k1 := ((X4.out.set0 s).set1 (.slice A n1 c)).cell1
      refine bodyPost_ret (v := .agg #[.int .i64 s, .slice A n1 c]) (by simp [results, Tryd.results104, go_sem, k0, k1]) rfl ?_
      have ho2 := (Ho.out.far ⟨w.heap.size, 0, none⟩ (fun g' hA => by have := (Ho.out.ge hA).1; show g' ≠ w.heap.size; omega) (.int .i64 s)).far ⟨w.heap.size, 1, none⟩ (fun g' hA => by have := (Ho.out.ge hA).1; show g' ≠ w.heap.size; omega) (.slice A n1 c)
      have hB := Hr.out.1
      have hr2 := (Hr.out.far ⟨w.heap.size, 0, none⟩ (by show g ≠ w.heap.size; omega) (by show B ≤ w.heap.size; omega) (.int .i64 s)).far ⟨w.heap.size, 1, none⟩ (by show g ≠ w.heap.size; omega) (by show B ≤ w.heap.size; omega) (.slice A n1 c)
      have hg2 := gset (gset Hg.out ⟨w.heap.size, 0, none⟩ (Nat.le_refl _) (.int .i64 s)) ⟨w.heap.size, 1, none⟩ (Nat.le_refl _) (.slice A n1 c)
      exact ⟨_, _, _, _, _, q1, rfl, ho2.weaken (by omega), Hv.out, hr2, by omega, hg2⟩
    · obtain ⟨j, rfl⟩ : ∃ j, r = j + 1 := ⟨r - 1, by omega⟩
      have Kw := Lib.hid (show IntKind.i64.wrap (s * s) = s * s from IntWalk.i64_in _ (by omega))
      have t0 := X5.out.cell0
      have t1 := X5.out.cell1
      have t2 := X5.out.lt
      go_upto_region 6 with (fail)
      go_cut [8, 10] (fun v8 v10 wx => RoundRel wr B g q1 s n1 v8 v10 wx)
      case first =>
        go_region_with (first | (go_at_call 45; refine (r_pick B g q1 _ _ (by exact Hr.out) (by omega)).mono ?_; rintro e yp ⟨p0, rfl, p1, p2, hr, hg⟩; have hgw : wr.grownBy yp (some g) := ⟨hg.os, hg.tape, hg.output, hg.size, hg.block⟩; rw [Kw.out, Hn.out] at p2; obtain ⟨p, rfl⟩ := Int.eq_ofNat_of_zero_le p1; have zp := hgw.size; have s0 := (X5.out.grown hgw (fun e => by have := Option.some.inj e; omega)).cell0; have s1 := (X5.out.grown hgw (fun e => by have := Option.some.inj e; omega)).cell1; have s2 := (X5.out.grown hgw (fun e => by have := Option.some.inj e; omega)).lt; have Hop := Lib.hid (Ho.out.kept hgw (fun g' hA e => by have := (Ho.out.ge hA).1; have := Option.some.inj e; omega)); have hpn : p < n1 := (by omega); have Hrp := Lib.hid hr; have Hgp := Lib.hid hgw; clear hr hg hgw p2) | (go_at_call 45; refine (r_pick B g q1 _ _ (by exact (show Rdr (wr.alloc (.cells #[.int .i64 0, .slice none 0 0] 25)) B g q1 from Hr.out.below ((Below.refl wr.heap.size wr).alloc (Nat.le_refl _) _) Hr.out.lt)) (by omega)).mono ?_; rintro e yp ⟨p0, rfl, p1, p2, hr, hg⟩; have hg1 : (wr.alloc (.cells #[.int .i64 0, .slice none 0 0] 25)).grownBy yp (some g) := ⟨hg.os, hg.tape, hg.output, hg.size, hg.block⟩; have hgw : wr.grownBy yp (some g) := gtrans (World.grownBy_alloc wr (.cells #[.int .i64 0, .slice none 0 0] 25) (some g)) hg1; have H8p : Hid (Bx 25 yp wr.heap.size 0 (.slice none 0 0)) := Lib.hid ((Bx.new 25 wr 0 (.slice none 0 0)).grown hg1 (fun e => by have h1 := Option.some.inj e; have h2 := Hr.out.lt; omega)); rw [Kw.out, Hn.out] at p2; obtain ⟨p, rfl⟩ := Int.eq_ofNat_of_zero_le p1; have zp := hgw.size; have s0 := (X5.out.grown hgw (fun e => by have := Option.some.inj e; omega)).cell0; have s1 := (X5.out.grown hgw (fun e => by have := Option.some.inj e; omega)).cell1; have s2 := (X5.out.grown hgw (fun e => by have := Option.some.inj e; omega)).lt; have Hop := Lib.hid (Ho.out.kept hgw (fun g' hA e => by have := (Ho.out.ge hA).1; have := Option.some.inj e; omega)); have hpn : p < n1 := (by omega); have Hrp := Lib.hid hr; have Hgp := Lib.hid hgw; clear hr hg hgw p2) | (go_at_call 14; have H8q := Lib.hid H8p.out; have z8 := H8q.out.lt; refine (s_PlayStone1 s x p false _ yp.heap.size _ _ _ cs (by exact Hop.out.ints) ?_ Hv.out hpn x1 x2).mono ?_; (show yp.heap.size ≤ yp.heap.size; omega); rintro e yq ⟨s', A', n', c', A2, n2, c2, cs', ok, rfl, hwhat, hb⟩; have hbw : Below yp.heap.size yp yq := ⟨hb.os, hb.tape, hb.output, hb.size, hb.block⟩; have H8 := Lib.hid (H8q.out.below hbw H8q.out.lt); have k8a := H8.out.cell0; have k8b := H8.out.cell1; have k8c := H8.out.frozen 0; have k8d := H8.out.frozen 1; have k8e := H8.out.lt; have zq := hbw.size; have s3 := ((X5.out.grown Hgp.out (fun e => by have := Option.some.inj e; omega)).below hbw s2).cell0; have s4 := ((X5.out.grown Hgp.out (fun e => by have := Option.some.inj e; omega)).below hbw s2).cell1; have Hwhat := Lib.hid hwhat; have Hrq := Lib.hid (Hrp.out.below hbw Hrp.out.lt); have Hgq := Lib.hid (gtrans Hgp.out (gbelow (some g) hbw (Nat.le_refl _))); clear hwhat hb hbw) | (go_at_call 14; refine (s_PlayStone1 s x p false _ yp.heap.size _ _ _ cs (by exact Hop.out.ints) ?_ Hv.out hpn x1 x2).mono ?_; (show yp.heap.size ≤ yp.heap.size; omega); rintro e yq ⟨s', A', n', c', A2, n2, c2, cs', ok, rfl, hwhat, hb⟩; have hbw : Below yp.heap.size yp yq := ⟨hb.os, hb.tape, hb.output, hb.size, hb.block⟩; have zq := hbw.size; have s3 := ((X5.out.grown Hgp.out (fun e => by have := Option.some.inj e; omega)).below hbw s2).cell0; have s4 := ((X5.out.grown Hgp.out (fun e => by have := Option.some.inj e; omega)).below hbw s2).cell1; have Hwhat := Lib.hid hwhat; have Hrq := Lib.hid (Hrp.out.below hbw Hrp.out.lt); have Hgq := Lib.hid (gtrans Hgp.out (gbelow (some g) hbw (Nat.le_refl _))); clear hwhat hb hbw) | (go_at_call 14; refine (s_PlayStone1 s x p false (yp.alloc (.cells #[.int .i64 0, .slice none 0 0] 25)) yp.heap.size _ _ _ cs (by exact Hop.out.ints.below ((Below.refl yp.heap.size yp).alloc (Nat.le_refl _) _) (Nat.le_refl _)) ?_ Hv.out hpn x1 x2).mono ?_; (show yp.heap.size ≤ _; simp); rintro e yq ⟨s', A', n', c', A2, n2, c2, cs', ok, rfl, hwhat, hb⟩; have hbw : Below yp.heap.size yp yq := ((Below.refl yp.heap.size yp).alloc (Nat.le_refl _) (.cells #[.int .i64 0, .slice none 0 0] 25)).trans (hb.mono (by simp)); have H8 := Lib.hid ((Bx.new 25 yp 0 (.slice none 0 0)).below hb (by simp)); have Hwk : (yp.alloc (.cells #[.int .i64 0, .slice none 0 0] 25)).heap.size = yp.heap.size + 1 := (by simp); rw [Hwk] at hwhat; have k8a := H8.out.cell0; have k8b := H8.out.cell1; have k8c := H8.out.frozen 0; have k8d := H8.out.frozen 1; have k8e := H8.out.lt; have zq := hbw.size; have s3 := ((X5.out.grown Hgp.out (fun e => by have := Option.some.inj e; omega)).below hbw s2).cell0; have s4 := ((X5.out.grown Hgp.out (fun e => by have := Option.some.inj e; omega)).below hbw s2).cell1; have Hwhat := Lib.hid hwhat; have Hrq := Lib.hid (Hrp.out.below hbw Hrp.out.lt); have Hgq := Lib.hid (gtrans Hgp.out (gbelow (some g) hbw (Nat.le_refl _))); clear hwhat hb hbw))
        all_goals go_wp2_with fail
        all_goals go_meet
        all_goals first | exact ⟨yq.heap.size, ok, s', A', n', c', cs', rfl, rfl, by omega, Bx.new _ _ _ _, fun h => ⟨(Hwhat.out h).1, (Hwhat.out h).2.1, ((Hwhat.out h).2.2.1.weaken (by omega)).alloc _, (Hwhat.out h).2.2.2⟩, Hrq.out.below ((Below.refl _ _).alloc (Nat.le_refl _) _) Hrq.out.lt, gtrans Hgq.out (World.grownBy_alloc yq _ (some g))⟩ | exact ⟨wr.heap.size, ok, s', A', n', c', cs', rfl, rfl, by omega, (H8.out.set0 s').set1 _, fun h => ⟨(Hwhat.out h).1, (Hwhat.out h).2.1, Own.weaken ((((Hwhat.out h).2.2.1).far ⟨wr.heap.size, 0, none⟩ (fun g' hA => by have := ((Hwhat.out h).2.2.1.ge hA).1; show g' ≠ wr.heap.size; omega) (.int .i64 s')).far ⟨wr.heap.size, 1, none⟩ (fun g' hA => by have := ((Hwhat.out h).2.2.1.ge hA).1; show g' ≠ wr.heap.size; omega) (.slice A' n' c')) (by omega), (Hwhat.out h).2.2.2⟩, (Hrq.out.far ⟨wr.heap.size, 0, none⟩ (by have := Hr.out.lt; show g ≠ wr.heap.size; omega) (by have := Hr.out.lt; have := Hr.out.1; show B ≤ wr.heap.size; omega) (.int .i64 s')).far ⟨wr.heap.size, 1, none⟩ (by have := Hr.out.lt; show g ≠ wr.heap.size; omega) (by have := Hr.out.lt; have := Hr.out.1; show B ≤ wr.heap.size; omega) (.slice A' n' c'), gset (gset Hgq.out ⟨wr.heap.size, 0, none⟩ (by show wr.heap.size ≤ wr.heap.size; omega) (.int .i64 s')) ⟨wr.heap.size, 1, none⟩ (by show wr.heap.size ≤ wr.heap.size; omega) (.slice A' n' c')⟩ | exact ⟨yp.heap.size, ok, s', A', n', c', cs', rfl, rfl, by omega, (H8.out.set0 s').set1 _, fun h => ⟨(Hwhat.out h).1, (Hwhat.out h).2.1, Own.weaken ((((Hwhat.out h).2.2.1).far ⟨yp.heap.size, 0, none⟩ (fun g' hA => by have := ((Hwhat.out h).2.2.1.ge hA).1; show g' ≠ yp.heap.size; omega) (.int .i64 s')).far ⟨yp.heap.size, 1, none⟩ (fun g' hA => by have := ((Hwhat.out h).2.2.1.ge hA).1; show g' ≠ yp.heap.size; omega) (.slice A' n' c')) (by omega), (Hwhat.out h).2.2.2⟩, (Hrq.out.far ⟨yp.heap.size, 0, none⟩ (by have := Hr.out.lt; show g ≠ yp.heap.size; omega) (by have := Hr.out.lt; have := Hr.out.1; show B ≤ yp.heap.size; omega) (.int .i64 s')).far ⟨yp.heap.size, 1, none⟩ (by have := Hr.out.lt; show g ≠ yp.heap.size; omega) (by have := Hr.out.lt; have := Hr.out.1; show B ≤ yp.heap.size; omega) (.slice A' n' c'), gset (gset Hgq.out ⟨yp.heap.size, 0, none⟩ (by show wr.heap.size ≤ yp.heap.size; omega) (.int .i64 s')) ⟨yp.heap.size, 1, none⟩ (by show wr.heap.size ≤ yp.heap.size; omega) (.slice A' n' c')⟩
      case rest =>
        obtain ⟨g8, ok, s', A', n', c', cs', rfl, rfl, hg8, hx8, hwhat, hr, hg9⟩ := hcut
        have hBg := hr.1
        have Hr := Lib.hid hr
        have Hg9 := Lib.hid (gtrans Hg.out hg9)
        have X4 := Lib.hid (X4.out.grown hg9 (fun e => by have := Option.some.inj e; omega))
        have X5 := Lib.hid (X5.out.grown hg9 (fun e => by have := Option.some.inj e; omega))
        have X8 := Lib.hid hx8
        have Ho := Lib.hid (Ho.out.kept hg9 (fun g' hA e => by have := (Ho.out.ge hA).1; have := Option.some.inj e; omega))
        clear hx8 hr hg9 t0 t1 t2
        cases ok with
        | false =>
          clear hwhat
          go_wp2_with fail
          go_roundw
          case rel => exact ⟨x, j, q1 + 1, A, c, cs, rfl, x1, x2, by go_num, by omega, X4.out, X5.out, Ho.out, Hne.out, Hok.out, Hr.out, Hg9.out⟩
          case measure => simp [intOf]
        | true =>
          obtain ⟨rfl, rfl, ho', hok'⟩ := hwhat rfl
          have Ho' := Lib.hid ho'
          have Hok' := Lib.hid hok'
          clear hwhat ho' hok'
          have t0 := X8.out.cell0
          have t1 := X8.out.cell1
          have t2 := X8.out.lt
          have t3 := X5.out.cell0
          have t4 := X5.out.cell1
          have t5 := X5.out.frozen 0
          have t6 := X5.out.frozen 1
          have t7 := X5.out.lt
          go_wp2_with fail
          refine (s_opp _ _ x1 x2).mono ?_
          rintro e w9 ⟨rfl, rfl⟩
          go_wp2_with fail
          go_roundw
          case rel =>
            have hr3 := (Hr.out.far ⟨y.heap.size, 0, none⟩ (by show g ≠ y.heap.size; omega) (by show B ≤ y.heap.size; omega) (.int .i64 s')).far ⟨y.heap.size, 1, none⟩ (by show g ≠ y.heap.size; omega) (by show B ≤ y.heap.size; omega) (.slice A' n' c')
            have hg3 := gset (gset Hg9.out ⟨y.heap.size, 0, none⟩ (by show w.heap.size ≤ y.heap.size; omega) (.int .i64 s')) ⟨y.heap.size, 1, none⟩ (by show w.heap.size ≤ y.heap.size; omega) (.slice A' n' c')
            have ho3 := (Ho'.out.far ⟨y.heap.size, 0, none⟩ (fun g' hA => by have := (Ho'.out.ge hA).1; show g' ≠ y.heap.size; omega) (.int .i64 s')).far ⟨y.heap.size, 1, none⟩ (fun g' hA => by have := (Ho'.out.ge hA).1; show g' ≠ y.heap.size; omega) (.slice A' n' c')
            have hx4 := (X4.out.far (p := ⟨y.heap.size, 0, none⟩) (by show w.heap.size ≠ y.heap.size; omega) (.int .i64 s')).far (p := ⟨y.heap.size, 1, none⟩) (by show w.heap.size ≠ y.heap.size; omega) (.slice A' n' c')
            exact ⟨oth x, j, q1 + 1, A', c', cs', rfl, (oth_bd x1 x2).1, (oth_bd x1 x2).2, by go_num, by omega, hx4, (X5.out.set0 s').set1 _, ho3.weaken (by omega), fun g' hA => (by have := (Ho'.out.ge hA).1; omega), Hok'.out, hr3, hg3⟩
          case measure => simp [intOf]
end Go.Proofs.YtpogjegihhljpaaDoor

namespace Go.Proofs.YtpogjegihhljpaaDoor
set_option maxRecDepth 100000
open Go.RowKit

/-- The call owns the row of n ints xs (in blocks from B on). -/
def OwU (w : World) (B : Nat) (A : Option Addr) (n c : Nat) (xs : List Int) : Prop :=
  xs.length = n ∧ w.ownsRow B 5 1 (.slice A n c) n (xs.map (Value.int .u8))

theorem OwU.nil (w : World) (B : Nat) : OwU w B none 0 0 [] := ⟨rfl, World.ownsRow_nil _ _ _ _⟩
theorem OwU.alloc {w : World} {B n c : Nat} {A : Option Addr} {xs : List Int} (h : OwU w B A n c xs) (o : Obj) : OwU (w.alloc o) B A n c xs := ⟨h.1, h.2.alloc o⟩
theorem OwU.drew {w : World} {B n c : Nat} {A : Option Addr} {xs : List Int} (h : OwU w B A n c xs) : OwU w.drew B A n c xs := h
theorem OwU.drewN {w : World} {B n c : Nat} {A : Option Addr} {xs : List Int} (h : OwU w B A n c xs) (k : Nat) : OwU (w.drewN k) B A n c xs := h
theorem OwU.kept {w w' : World} {B n c : Nat} {A : Option Addr} {xs : List Int} (h : OwU w B A n c xs) {row : Option Nat} (hg : w.grownBy w' row) (hne : ∀ g, A = some ⟨g, 0, none⟩ → row ≠ some g) : OwU w' B A n c xs := by
  refine ⟨h.1, h.2.kept hg ?_⟩
  rcases h.2.2 with ⟨hv, _⟩ | ⟨g, cap, cur, hv, _⟩
  · exact .inl (by rw [hv]; rfl)
  · refine .inr fun e => ?_
    have hA : A = some ⟨g, 0, none⟩ := by injection hv
    subst hA
    exact hne g rfl e.symm
theorem OwU.below {w w' : World} {B n c : Nat} {A : Option Addr} {xs : List Int} (h : OwU w B A n c xs) (hb : Below w.heap.size w w') : OwU w' B A n c xs :=
  h.kept (gbelow none hb (Nat.le_refl _)) (fun g _ => by simp)
/-- A new empty slice that is not nil. -/
theorem OwU.bare (w : World) (B : Nat) (hB : B ≤ w.heap.size) : OwU (w.alloc (.cells #[] 5)) B (some ⟨w.heap.size, 0, none⟩) 0 0 [] :=
  ⟨rfl, World.ownsRow_made w #[] 0 hB (by simp) rfl⟩

theorem info_u8 : (Tryd.prog.info? 5).map (fun i => (i.zero, i.size, i.bytes)) = some (some (.int .u8 0), 1, 1) := by kernel_rfl

/-- 'append(xs, y)' of one int: the row grows by it, in the same block or in a new one. -/
theorem appU1 {ops : Array Oper} {rest : List Oper} {o : Oper} {a : Act} {Q : Exit → Act → World → Prop} (hgd : o.guard = none) (s x : Operand)
    (ho : o.op = .call { callee := .builtin .append, args := #[s, x], argTypes := #[22, 22] })
    (w : World) (B : Nat) (A : Option Addr) (n c : Nat) (xs : List Int) (y : Int) (G : Nat) (hs : a.eval s = .slice A n c) (hx : a.eval x = .slice (some ⟨G, 0, none⟩) 1 1) (hG : w.heap.size = G)
    (hown : OwU w B A n c xs) (hB : B ≤ w.heap.size) (hn : n ≤ 1000000000)
    (h : ∀ A' c' w', OwU w' B A' (n + 1) c' (xs ++ [y]) → Below B w w' → w.heap.size < w'.heap.size → w.grownBy w' (Value.slice A n c).ownBlock → wpList Tryd.prog ops Q rest (a.put o.dst (.slice A' (n + 1) c')) w') :
    wpList Tryd.prog ops Q (o :: rest) a (w.alloc (.cells #[.int .u8 y] 5)) := by
  subst hG
  obtain ⟨i0, hi, hz0, hz1, hz2⟩ := info_parts info_u8
  refine wpList_append_own _ hgd s x 22 ho B 5 i0 (.int .u8 0) 1 1 Tryd.underlying22 hi hz0 hz1 hz2 rfl (by decide) _ n _ hs (hown.2.alloc _) ⟨w.heap.size, 0, none⟩ 1 1 [.int .u8 y] hx rfl ?_ ?_ ?_ ?_ ?_ ?_
  · intro j u hj
    match j, hj with
    | 0, hj => simp at hj; subst hj; simp [Addr.add]
  · intro u hu; simp at hu; subst hu; rfl
  · unfold maxLen; omega
  · omega
  · simp; omega
  · intro v' w' hown' hgrow hnil
    have hne : v' ≠ .slice none 0 0 := fun e => by have := (hnil.1 e).2; omega
    rcases hown'.2 with ⟨hv, _⟩ | ⟨g, cap, cur, hv, hr⟩
    · exact absurd hv hne
    · subst hv
      have hgr : w.grownBy w' (Value.slice A n c).ownBlock := gtrans (World.grownBy_alloc w _ _) hgrow
      refine h _ _ _ ⟨by simp [hown.1], by simpa using hown'⟩ (below_g hgr hB ?_) ?_ hgr
      · intro k hk
        exact (World.ownsRow.lt hown.2 k hk).1
      · have := hgrow.size; simp at this; omega

theorem OwU.far {w : World} {B n c : Nat} {A : Option Addr} {xs : List Int} (h : OwU w B A n c xs) (p : Addr) (hne : ∀ g, A = some ⟨g, 0, none⟩ → g ≠ p.block) (u : Value) : OwU (w.setCell p u) B A n c xs :=
  h.kept (row := some p.block) ⟨rfl, rfl, rfl, by simp [World.setCell], fun k _ hk => Below.heap_setCell w p u k (fun e => hk (by rw [e]))⟩ (fun g hA e => hne g hA (by injection e with e; exact e.symm))
/-- A row of the call's own that lies from B on is none of the blocks below B. -/
theorem OwU.ge {w : World} {B n c g : Nat} {A : Option Addr} {xs : List Int} (h : OwU w B A n c xs) (hA : A = some ⟨g, 0, none⟩) : B ≤ g ∧ g < w.heap.size := by
  subst hA
  exact World.ownsRow.lt h.2 g rfl
theorem OwU.weaken {w : World} {B B' n c : Nat} {A : Option Addr} {xs : List Int} (h : OwU w B A n c xs) (hB : B' ≤ B) : OwU w B' A n c xs := by
  refine ⟨h.1, h.2.1, ?_⟩
  rcases h.2.2 with h2 | ⟨g, cap, cur, hv, hg, r⟩
  · exact .inl h2
  · exact .inr ⟨g, cap, cur, hv, by omega, r⟩
end Go.Proofs.YtpogjegihhljpaaDoor

namespace Go.Proofs.YtpogjegihhljpaaDoor.Fm
set_option maxRecDepth 100000

def let_ (c : Int) : Int := if c = 1 then 88 else if c = 2 then 79 else 46
def col (b : Int) : Int := if b = 88 then 1 else if b = 79 then 2 else 0
/-- The byte at place i of the text of a board. -/
def at_ (s : Nat) (cs : List Int) (i : Nat) : Int := if i % (s + 1) = s then 47 else let_ (cs.getD ((s - 1 - i / (s + 1)) * s + i % (s + 1)) 0)
def fmt (s : Nat) (cs : List Int) : List Int := (List.range (s * (s + 1))).map (at_ s cs)

theorem fmt_len (s : Nat) (cs : List Int) : (fmt s cs).length = s * (s + 1) := by simp [fmt]
theorem fmt_take {s : Nat} {cs : List Int} {i : Nat} (h : i < s * (s + 1)) : (fmt s cs).take (i + 1) = (fmt s cs).take i ++ [at_ s cs i] := by
  rw [List.take_succ_eq_append_getElem (by rw [fmt_len]; exact h)]
  simp [fmt]
theorem let_bd (c : Int) : 46 ≤ let_ c ∧ let_ c ≤ 88 ∧ let_ c ≠ 47 := by unfold let_; split <;> (try split) <;> decide
theorem at_bd (s : Nat) (cs : List Int) (i : Nat) : 46 ≤ at_ s cs i ∧ at_ s cs i ≤ 88 := by
  unfold at_; split
  · decide
  · have := let_bd (cs.getD ((s - 1 - i / (s + 1)) * s + i % (s + 1)) 0); omega
theorem at_rc {s k c : Nat} (cs : List Int) (hc : c < s) : at_ s cs (k * (s + 1) + c) = let_ (cs.getD ((s - 1 - k) * s + c) 0) := by
  have e1 : (k * (s + 1) + c) % (s + 1) = c := by rw [Nat.mul_comm, Nat.mul_add_mod]; exact Nat.mod_eq_of_lt (by omega)
  have e2 : (k * (s + 1) + c) / (s + 1) = k := by rw [Nat.mul_comm, Nat.mul_add_div (by omega), Nat.div_eq_of_lt (by omega), Nat.add_zero]
  rw [at_, e1, e2, if_neg (by omega)]
theorem at_end {s k : Nat} (cs : List Int) : at_ s cs (k * (s + 1) + s) = 47 := by
  have e1 : (k * (s + 1) + s) % (s + 1) = s := by rw [Nat.mul_comm, Nat.mul_add_mod]; exact Nat.mod_eq_of_lt (by omega)
  rw [at_, if_pos e1]
theorem col_let {c : Int} (h : 0 ≤ c) (h2 : c ≤ 2) : col (let_ c) = c := by
  have : c = 0 ∨ c = 1 ∨ c = 2 := by omega
  rcases this with rfl | rfl | rfl <;> decide
theorem let_eq {c : Int} (h : 0 ≤ c) (h2 : c ≤ 2) : let_ c = if c = 0 then 46 else if c = 1 then 88 else 79 := by
  have : c = 0 ∨ c = 1 ∨ c = 2 := by omega
  rcases this with rfl | rfl | rfl <;> decide
end Go.Proofs.YtpogjegihhljpaaDoor.Fm

namespace Go.Proofs.YtpogjegihhljpaaDoor
set_option maxRecDepth 100000
open Go.RowKit

theorem OwU.head {w : World} {B n c : Nat} {A : Option Addr} {xs : List Int} (h : OwU w B A n c xs) (hn : 0 < n) : ∃ g, A = some ⟨g, 0, none⟩ ∧ B ≤ g ∧ ∀ j, j < n → w.cell? ⟨g, 0 + j, none⟩ = some (.int .u8 (xs.getD j 0)) := by
  obtain ⟨g, cap, hv, hg, hlt⟩ := World.ownsRow.form h.2 hn
  have hA : A = some ⟨g, 0, none⟩ := by injection hv
  subst hA
  refine ⟨g, rfl, hg, fun j hj => ?_⟩
  have hj' : j < xs.length := by have := h.1; omega
  have := World.ownsRow.cells h.2 (g := g) rfl j (.int .u8 (xs.getD j 0)) (by simp [List.getElem?_eq_getElem hj', List.getD_eq_getElem?_getD])
  have e : (⟨g, 0, none⟩ : Addr).add j = ⟨g, 0 + j, none⟩ := by by_cases hj0 : j = 0 <;> simp [Addr.add, hj0]
  rw [e] at this
  exact this

theorem let_of {c : Int} (h0 : 0 ≤ c) (h2 : c ≤ 2) : (c = 0 ∧ Fm.let_ c = 46) ∨ (c = 1 ∧ Fm.let_ c = 88) ∨ (c = 2 ∧ Fm.let_ c = 79) := by
  have : c = 0 ∨ c = 1 ∨ c = 2 := by omega
  rcases this with rfl | rfl | rfl <;> decide

set_option maxRecDepth 100000 in
set_option maxHeartbeats 4000000 in
theorem s_formatBoard (s : Nat) (w : World) (B : Nat) (A : Option Addr) (n c : Nat) (cs : List Int) (h : Ints w B A n cs) (hB : B ≤ w.heap.size) (h1 : 1 ≤ s) (h2 : s ≤ 7) (hn : n = s * s) (hok : OkL cs) :
    Calls Tryd.prog 113 #[.agg #[.int .i64 (s : Nat), .slice A n c]] w fun e w' => e = .returned (.string (strOfNums (Fm.fmt s cs))) ∧ Below w.heap.size w w' := by
  have hb1 : Below w.heap.size w (w.alloc (.cells #[.int .i64 (s : Nat), .slice A n c] 25)) := (Below.refl _ _).alloc (Nat.le_refl _) _
  have x0 := Bx.new 25 w (s : Nat) (.slice A n c)
  have hi := h.below hb1 hB
  have Hl := Lib.hid h.1
  have Hn := Lib.hid hn
  have Hok := Lib.hid hok
  clear h hn hok
  go_enter Tryd.func113, Tryd.ntmps113
  go_upto_region 1 with (fail)
  obtain ⟨y, hy⟩ : ∃ y, y = w.alloc (.cells #[.int .i64 (s : Nat), .slice A n c] 25) := ⟨_, rfl⟩
  have hyz : y.heap.size = w.heap.size + 1 := by rw [hy]; simp
  rw [← hy] at x0 hi hb1 ⊢
  have X0 := Lib.hid x0
  have Hi := Lib.hid hi
  have Hb := Lib.hid hb1
  have Hyz := Lib.hid hyz
  clear hy x0 hi hb1 hyz
  have t0 := X0.out.cell0
  have t1 := X0.out.cell1
  have t2 := X0.out.lt
  go_wp2_with fail
  have Ho := Lib.hid (OwU.bare y (w.heap.size + 1) (by rw [Hyz.out]; exact Nat.le_refl _))
  have Hb2 := Lib.hid ((Below.refl (w.heap.size + 1) y).alloc (by rw [Hyz.out]; exact Nat.le_refl _) (.cells #[] 5))
  go_loopw [3, 4] (fun v3 v4 wr => ∃ k A1 n1 c1, k ≤ s ∧ v3 = .slice A1 n1 c1 ∧ v4 = .int .i64 ((s : Int) - 1 - (k : Nat)) ∧ OwU wr (w.heap.size + 1) A1 n1 c1 ((Fm.fmt s cs).take (k * (s + 1))) ∧ Below (w.heap.size + 1) y wr) (fun _ v _ => (intOf v + 1).toNat)
  case atStart => exact ⟨0, _, _, _, by omega, rfl, by simp, by simpa using Ho.out, Hb2.out⟩
  case round =>
    clear Ho Hb2 t0 t1 t2
    obtain ⟨k, A1, n1, c1, hk, rfl, rfl, ho, hb⟩ := hrel
    have X0r := Lib.hid (X0.out.below hb (by omega))
    have Hir := Lib.hid (Hi.out.below hb (by omega))
    have Ho := Lib.hid ho
    have Hbr := Lib.hid hb
    have hzr := hb.size
    clear ho hb
    have t0 := X0r.out.cell0
    have t1 := X0r.out.cell1
    have t2 := X0r.out.lt
    by_cases hks : k < s
    · obtain ⟨r, hr⟩ : ∃ r : Nat, (s : Int) - 1 - (k : Nat) = (r : Nat) := ⟨s - 1 - k, by omega⟩
      have hrs : r < s := by omega
      have hrk : r = s - 1 - k := by omega
      have hrow : r * s + s ≤ s * s := by
        have := Nat.mul_le_mul_right s (show r + 1 ≤ s by omega)
        rw [Nat.add_mul, Nat.one_mul] at this
        exact this
      have hss : s * s ≤ 49 := Nat.le_trans (Nat.mul_le_mul h2 h2) (by decide)
      have hkk : k * (s + 1) + (s + 1) ≤ s * (s + 1) := by
        have := Nat.mul_le_mul_right (s + 1) (show k + 1 ≤ s by omega)
        rw [Nat.add_mul, Nat.one_mul] at this
        exact this
      have hb56 : s * (s + 1) ≤ 56 := Nat.le_trans (Nat.mul_le_mul h2 (show s + 1 ≤ 8 by omega)) (by decide)
      obtain ⟨m, hm⟩ : ∃ m : Nat, r * s = m := ⟨_, rfl⟩
      have hmi : ((r : Nat) : Int) * ((s : Nat) : Int) = (m : Nat) := by rw [← hm]; simp
      have Hm := Lib.hid hm
      have Hrk := Lib.hid hrk
      have hms : m + s ≤ n := by rw [← hm, Hn.out]; exact hrow
      have hm49 : n ≤ 49 := by rw [Hn.out]; exact hss
      obtain ⟨q, hq⟩ : ∃ q : Nat, k * (s + 1) = q := ⟨_, rfl⟩
      obtain ⟨L, hL⟩ : ∃ L : Nat, s * (s + 1) = L := ⟨_, rfl⟩
      rw [hq, hL] at hkk
      rw [hL] at hb56
      have Hq := Lib.hid hq
      have HL := Lib.hid hL
      rw [hr]
      have Hr := Lib.hid hr
      clear hr hm hrk hrow hss hq hL
      go_wp2_with fail
      go_loopw [3, 5] (fun v3 v5 wq => ∃ i A2 n2 c2, i ≤ s ∧ v5 = .int .i64 (i : Nat) ∧ v3 = .slice A2 n2 c2 ∧ OwU wq (w.heap.size + 1) A2 n2 c2 ((Fm.fmt s cs).take (q + i)) ∧ Below (w.heap.size + 1) y wq) (fun _ v _ => s - (intOf v).toNat)
      case atStart => exact ⟨0, _, _, _, by omega, rfl, rfl, by rw [← Hq.out]; exact Ho.out, Hbr.out⟩
      case round =>
        clear Ho Hbr X0r Hir t0 t1 t2 hzr
        obtain ⟨i, A2, n2, c2, hi, rfl, rfl, ho, hb⟩ := hrel
        have X0q := Lib.hid (X0.out.below hb (by omega))
        have Hiq := Lib.hid (Hi.out.below hb (by omega))
        have Ho := Lib.hid ho
        have Hbq := Lib.hid hb
        have hzq := hb.size
        have hn2 : n2 ≤ 56 := by have := ho.1; rw [List.length_take, Fm.fmt_len, HL.out] at this; omega
        have hzy : w.heap.size + 1 ≤ wr.heap.size := by have := Hyz.out; omega
        clear ho hb
        have t0 := X0q.out.cell0
        have t1 := X0q.out.cell1
        have t2 := X0q.out.lt
        by_cases his : i < s
        · obtain ⟨b, o, rfl, hbB, hc⟩ : ∃ b o, A = some ⟨b, o, none⟩ ∧ b < B ∧ ∀ j, j < n → wr.cell? ⟨b, o + j, none⟩ = some (.int .i64 (cs.getD j 0)) := by
            rcases Hiq.out.2 with h0 | ⟨b, o, hA, hbB, hc⟩
            · omega
            · exact ⟨b, o, hA, hbB, hc⟩
          have hck := hc (m + i) (by omega)
          have hx02 := Hok.out (m + i) (by rw [Hl.out]; omega)
          have hta : Fm.at_ s cs (q + i) = Fm.let_ (cs.getD (m + i) 0) := by rw [← Hq.out, Fm.at_rc cs his, ← Hrk.out, Hm.out]
          obtain ⟨x, hx⟩ : ∃ x, cs.getD (m + i) 0 = x := ⟨_, rfl⟩
          rw [hx] at hck hx02 hta
          have hmi2 : (m : Int) + (i : Nat) < n := by omega
          have htk := Fm.fmt_take (cs := cs) (show q + i < s * (s + 1) by rw [HL.out]; omega)
          rw [hta] at htk
          have Htk := Lib.hid htk
          clear hx hc hta htk
          rcases let_of hx02.1 hx02.2 with ⟨rfl, hl⟩ | ⟨rfl, hl⟩ | ⟨rfl, hl⟩
          all_goals
            rw [hl] at Htk
            clear hl hx02
            go_wp2_with (at_builtin; refine appU1 rfl _ _ rfl _ _ _ _ _ _ _ _ rfl rfl rfl Ho.out hzy (by omega) ?_; intro A' c' w9 hown' hb' hlt' hgrow')
            have Ho9 := Lib.hid hown'
            have Hb9 := Lib.hid (Hbq.out.trans hb')
            clear hown' hb' hlt' hgrow'
            go_roundw
            case rel => exact ⟨i + 1, _, _, _, by omega, by go_num, rfl, by rw [← Nat.add_assoc, Htk.out]; exact Ho9.out, Hb9.out⟩
            case measure => simp [intOf]; omega
        · obtain rfl : i = s := by omega
          have hta : Fm.at_ i cs (q + i) = 47 := by rw [← Hq.out]; exact Fm.at_end cs
          have htk := Fm.fmt_take (cs := cs) (show q + i < i * (i + 1) by rw [HL.out]; omega)
          rw [hta] at htk
          have Htk := Lib.hid htk
          clear hta htk
          go_wp2_with (at_builtin; refine appU1 rfl _ _ rfl _ _ _ _ _ _ _ _ rfl rfl rfl Ho.out hzy (by omega) ?_; intro A' c' w9 hown' hb' hlt' hgrow')
          have Ho9 := Lib.hid hown'
          have Hb9 := Lib.hid (Hbq.out.trans hb')
          have He : Hid ((r : Int) - 1 = (i : Int) - 1 - ((k + 1 : Nat) : Int)) := Lib.hid (by have := Hr.out; omega)
          clear hown' hb' hlt' hgrow'
          go_roundw
          case rel => exact ⟨k + 1, _, _, _, by omega, rfl, by rw [He.out], by rw [Nat.add_mul, Nat.one_mul, Hq.out, ← Nat.add_assoc, Htk.out]; exact Ho9.out, Hb9.out⟩
          case measure => simp [intOf]
    · obtain rfl : k = s := by omega
      have hfull : (Fm.fmt k cs).take (k * (k + 1)) = Fm.fmt k cs := List.take_of_length_le (by rw [Fm.fmt_len]; exact Nat.le_refl _)
      have ho := Ho.out
      rw [hfull] at ho
      have hlen := ho.1
      rw [Fm.fmt_len] at hlen
      have hpos : 0 < n1 := by rw [← hlen]; exact Nat.mul_pos (by omega) (by omega)
      obtain ⟨g, rfl, _, hcell⟩ := ho.head hpos
      have hconv := run_convert_bytes_arg (P := Tryd.prog) wr 22 5 Tryd.underlying22 Tryd.underlying5 g 0 n1 c1 (Fm.fmt k cs) ho.1 hcell 9 Tryd.underlying9
      have he : (k : Int) - 1 - (k : Nat) = -1 := by omega
      have Hfin := Lib.hid ((Hb.out.trans (Hbr.out.mono (by omega))))
      rw [he]
      clear ho hlen hcell hfull he
      go_wp2_with fail
      go_ret
      exact ⟨rfl, Hfin.out⟩
end Go.Proofs.YtpogjegihhljpaaDoor

