/-
  The program's 'play' and the model's are the same.
-/
import Derived.Test.YtpogjegihhljpaaDoorPlayI
import Derived.Test.YtpogjegihhljpaaDoorGrwI
import Derived.Test.YtpogjegihhljpaaDoorPlayP
import Derived.Test.YtpogjegihhljpaaDoorEyeU
namespace Go.Proofs.YtpogjegihhljpaaDoor
set_option maxRecDepth 100000
open Go.RowKit

theorem bit_eq (m p : Nat) (hm : m < 18446744073709551616) (hp : p < 64) : (bits .and .u64 (m : Int) ((2 ^ p : Nat) : Int) == 0) = !m.testBit p := by
  have := bit_ne m p hm hp
  rw [← this]; simp [bne]

theorem RI.make {s x : Int} {n : Nat} {cs : List Int} (hl : cs.length = n) : ∀ j, j ≤ n → ∃ S os, RI s n cs x j S os
  | 0, _ => ⟨_, _, RI.start x hl⟩
  | j + 1, h => by
    obtain ⟨S, os, hr⟩ := RI.make hl j (by omega)
    by_cases hx : cs.getD j 0 = x ∧ NoLib s n cs (j : Nat)
    · exact ⟨_, _, hr.take (by omega) hx⟩
    · exact ⟨_, _, hr.no hx⟩
theorem RI.one {s x : Int} {n : Nat} {cs : List Int} {S S' : List Bool} {os os' : List Int} (h : RI s n cs x n S os) (h' : RI s n cs x n S' os') : S = S' ∧ os = os' := by
  have e : ∀ i, i < n → S.getD i false = S'.getD i false := fun i hi => by
    have := (h.yes i hi).trans (h'.yes i hi).symm
    rcases h3 : S.getD i false with _ | _ <;> rcases h4 : S'.getD i false with _ | _ <;> simp_all
  refine ⟨List.ext_getElem (by rw [h.len, h'.len]) fun i h1 h2 => ?_, List.ext_getElem (by rw [h.olen, h'.olen]) fun i h1 h2 => ?_⟩
  · have := e i (by rw [← h.len]; exact h1)
    rwa [List.getD_eq_getElem?_getD, List.getD_eq_getElem?_getD, List.getElem?_eq_getElem h1, List.getElem?_eq_getElem h2] at this
  · have hi : i < n := by rw [← h.olen]; exact h1
    have := (h.out i hi).trans ((by rw [e i hi]) : _ = (if S'.getD i false then 0 else cs.getD i 0)) |>.trans (h'.out i hi).symm
    rwa [List.getD_eq_getElem?_getD, List.getD_eq_getElem?_getD, List.getElem?_eq_getElem h1, List.getElem?_eq_getElem h2] at this

theorem so_one {xs ys zs : List Int} {k : Nat} (h : So.SO xs ys k) (h' : So.SO xs zs k) (hk : xs.length = k) : ys = zs :=
  Gw.asc_one (h.perm.trans h'.perm.symm) (Gw.pair_of fun a b hab hb => h.pair a b hab (by rw [h.len, hk] at hb; exact hb)) (Gw.pair_of fun a b hab hb => h'.pair a b hab (by rw [h'.len, hk] at hb; exact hb))

theorem Plays.one {s x : Int} {n p : Nat} {cs : List Int} {su : Bool} {R R' : Option (List Int × List Int)} (h : Plays s n cs x p su R) (h' : Plays s n cs x p su R') : R = R' := by
  cases h with
  | taken h0 =>
    cases h' with
    | taken _ => rfl
    | lives _ _ h1 => exact absurd h1 h0
    | lost _ _ h1 => rfl
    | both _ _ _ _ _ _ h1 => exact absurd h1 h0
  | lives S os h0 hr hn =>
    cases h' with
    | taken h1 => exact absurd h0 h1
    | lives S' os' _ hr' _ => obtain ⟨rfl, rfl⟩ := hr.one hr'; rfl
    | lost S' os' _ hr' hn' => obtain ⟨rfl, rfl⟩ := hr.one hr'; exact absurd hn' hn
    | both S' os' _ _ _ _ _ hr' hn' => obtain ⟨rfl, rfl⟩ := hr.one hr'; exact absurd hn' hn
  | lost S os h0 hr hn hs =>
    cases h' with
    | taken h1 => rfl
    | lives S' os' _ hr' hn' => obtain ⟨rfl, rfl⟩ := hr.one hr'; exact absurd hn hn'
    | lost _ _ _ _ _ => rfl
    | both _ _ _ _ _ _ _ _ _ hs' => rw [hs] at hs'; cases hs'
  | both S os S2 os2 gs k h0 hr hn hs hr2 hso hk =>
    cases h' with
    | taken h1 => exact absurd h0 h1
    | lives S' os' _ hr' hn' => obtain ⟨rfl, rfl⟩ := hr.one hr'; exact absurd hn hn'
    | lost _ _ _ _ _ hs' => rw [hs] at hs'; cases hs'
    | both S' os' S2' os2' gs' k' _ hr' _ _ hr2' hso' hk' =>
      obtain ⟨rfl, rfl⟩ := hr.one hr'
      obtain ⟨rfl, rfl⟩ := hr2.one hr2'
      obtain rfl : k = k' := by rw [← hk, ← hk']
      rw [so_one hso hso' hk]

/-- A set with the points that are marked. -/
theorem nl_make {s n : Nat} {cs : List Int} {x : Int} {S : List Bool} {os : List Int} (hr : RI (s : Int) n cs x n S os) : ∃ m, Gw.Nl s n cs x m := by
  refine ⟨Bt.msk (S.map fun b => if b then (1 : Int) else 0) 1 n, fun q => ?_⟩
  rw [Bt.msk_bit, Bool.and_eq_true, decide_eq_true_eq, decide_eq_true_eq]
  have e : q < n → ((S.map fun b => if b then (1 : Int) else 0).getD q 0 = 1 ↔ S.getD q false = true) := fun hq => by
    have hq' : q < S.length := by rw [hr.len]; exact hq
    rw [List.getD_eq_getElem?_getD, List.getD_eq_getElem?_getD, List.getElem?_map, List.getElem?_eq_getElem hq']
    rcases S[q] with _ | _ <;> simp
  constructor
  · rintro ⟨a, b⟩
    have := (hr.yes q a).1 ((e a).1 b)
    exact ⟨a, this.2⟩
  · rintro ⟨a, b⟩
    exact ⟨a, (e a).2 ((hr.yes q a).2 ⟨a, b⟩)⟩

theorem so_pts {m m' n k : Nat} (hd : ∀ q, q < n → m.testBit q = true → m'.testBit q = true → False) (hk : (Bt.pts m n ++ Bt.pts m' n).length = k) : So.SO (Bt.pts m n ++ Bt.pts m' n) (Bt.pts (m ||| m') n) k := by
  have hp : (Bt.pts (m ||| m') n).Perm (Bt.pts m n ++ Bt.pts m' n) := by
    have n1 : (Bt.pts m n ++ Bt.pts m' n).Pairwise (· ≠ ·) := by
      rw [List.pairwise_append]
      refine ⟨(Gw.pts_pair _ _).imp fun h => by omega, (Gw.pts_pair _ _).imp fun h => by omega, ?_⟩
      rintro a ha b hb rfl
      obtain ⟨q, rfl, hq, hqm⟩ := Bt.pts_mem.1 ha
      obtain ⟨q', hq', _, hqm'⟩ := Bt.pts_mem.1 hb
      obtain rfl : q = q' := by omega
      exact hd q hq hqm hqm'
    have n2 : (Bt.pts (m ||| m') n).Pairwise (· ≠ ·) := (Gw.pts_pair _ _).imp fun h => by omega
    refine Gw.perm_of n2 n1 fun x => ?_
    rw [List.mem_append, Bt.pts_mem, Bt.pts_mem, Bt.pts_mem]
    constructor
    · rintro ⟨q, a, b, c⟩
      rw [Nat.testBit_or, Bool.or_eq_true] at c
      rcases c with c | c
      · exact .inl ⟨q, a, b, c⟩
      · exact .inr ⟨q, a, b, c⟩
    · rintro (⟨q, a, b, c⟩ | ⟨q, a, b, c⟩)
      · exact ⟨q, a, b, by rw [Nat.testBit_or, c]; rfl⟩
      · exact ⟨q, a, b, by rw [Nat.testBit_or, c, Bool.or_true]⟩
  refine ⟨hp.length_eq, hp, fun a b hab hb => ?_⟩
  have hb' : b < (Bt.pts (m ||| m') n).length := by rw [hp.length_eq, hk]; exact hb
  have := (List.pairwise_iff_getElem.1 (Gw.pts_pair (m ||| m') n)) a b (by omega) hb' hab
  rw [List.getD_eq_getElem?_getD, List.getD_eq_getElem?_getD, List.getElem?_eq_getElem (show a < (Bt.pts (m ||| m') n).length by omega), List.getElem?_eq_getElem hb']
  exact Int.le_of_lt this

theorem own_at {s x o : Int} {n p : Nat} {cs os : List Int} {S : List Bool} (hl : cs.length = n) (h : RI s n (cs.set p x) o n S os) (hp : p < n) (hx : x ≠ o) : os.getD p 0 = x := by
  have ec : (cs.set p x).getD p 0 = x := by simp [List.getD_eq_getElem?_getD, hl, hp]
  have hS : S.getD p false = false := by
    rcases Bool.eq_false_or_eq_true (S.getD p false) with e | e
    · have := ((h.yes p hp).1 e).2.1
      rw [ec] at this
      exact absurd this hx
    · exact e
  rw [h.out p hp, hS, ec]; rfl

/-- What the program's 'play' answers. -/
def PlI (k n : Nat) (v0 v1 : Value) : Option (List Int × List Int) → Ending → Prop
  | none, e => ∃ v, (v = v0 ∨ v = v1) ∧ e = .returned (.tuple #[.agg #[.int .i64 0, .int .u64 0, .int .u64 0, .int .u64 0], .int .u64 0, v])
  | some (os, gs), e => ∃ m : Nat, m < 2 ^ n ∧ Bt.pts m n = gs ∧ e = .returned (.tuple #[.agg #[.int .i64 (k : Nat), .int .u64 (Bt.msk os 0 n : Nat), .int .u64 (Bt.msk os 1 n : Nat), .int .u64 (Bt.msk os 2 n : Nat)], .int .u64 (m : Nat), .nilIface])

section
variable (k n : Nat) (cs : List Int) (m : Nat) (w : World) (h1 : 1 ≤ k) (h2 : k ≤ 7) (hn : n = k * k) (hl : cs.length = n)
include h1 h2 hn hl
theorem i_wo1 (hm : Gw.Nl k n cs 1 m) : Calls Tryd.prog 77 #[.agg #[.int .i64 (k : Nat), .int .u64 (Bt.msk cs 0 n : Nat), .int .u64 (Bt.msk cs 1 n : Nat), .int .u64 (Bt.msk cs 2 n : Nat)], .int .i64 1] w fun e w' => e = .returned (.int .u64 (m : Nat)) ∧ Below w.heap.size w w' := by
  have l0 := Bt.msk_lt cs 0 n
  have l1 := Bt.msk_lt cs 1 n
  have h7 := (Bt.masks k h1 h2).2.2.2.2.2.2
  refine (i_without1 k _ _ _ w h1 h2 (by rw [← hn]; exact l0) (by rw [← hn]; exact l1) _ (Gw.same_msk hl 1)).mono ?_
  rintro e w' ⟨g, rfl, hgl, hg, hb⟩
  exact ⟨by rw [(Gw.nl_of h1 h2 hn hl hg (by omega)).one hm], hb⟩
theorem i_wo2 (hm : Gw.Nl k n cs 2 m) : Calls Tryd.prog 77 #[.agg #[.int .i64 (k : Nat), .int .u64 (Bt.msk cs 0 n : Nat), .int .u64 (Bt.msk cs 1 n : Nat), .int .u64 (Bt.msk cs 2 n : Nat)], .int .i64 2] w fun e w' => e = .returned (.int .u64 (m : Nat)) ∧ Below w.heap.size w w' := by
  have l0 := Bt.msk_lt cs 0 n
  have l2 := Bt.msk_lt cs 2 n
  have h7 := (Bt.masks k h1 h2).2.2.2.2.2.2
  refine (i_without2 k _ _ _ w h1 h2 (by rw [← hn]; exact l0) (by rw [← hn]; exact l2) _ (Gw.same_msk hl 2)).mono ?_
  rintro e w' ⟨g, rfl, hgl, hg, hb⟩
  exact ⟨by rw [(Gw.nl_of h1 h2 hn hl hg (by omega)).one hm], hb⟩
end

section
variable (k n p : Nat) (cs : List Int) (su : Bool) (v0 v1 : Value)

theorem i_pl1 (hv : Bd.okB (k : Int) cs = true) (hl : cs.length = n) (hp : p < n) :
    ∃ R, Plays (k : Int) n cs 1 p su R ∧ ∀ w, Errs w v0 v1 → Calls Tryd.prog 49 #[.agg #[.int .i64 (k : Nat), .int .u64 (Bt.msk cs 0 n : Nat), .int .u64 (Bt.msk cs 1 n : Nat), .int .u64 (Bt.msk cs 2 n : Nat)], .int .i64 1, .int .i64 (p : Nat), .bool su] w fun e w' => PlI k n v0 v1 R e ∧ Below w.heap.size w w' := by
  obtain ⟨q1, q2, q3, q4⟩ := (Bd.okB_iff (k : Int) cs).1 hv
  have k1 : 1 ≤ k := by omega
  have k2 : k ≤ 7 := by omega
  have hn : n = k * k := by
    have : (n : Int) = ((k * k : Nat) : Int) := by rw [← hl]; push_cast; exact q3
    exact_mod_cast this
  have h7 := (Bt.masks k k1 k2).2.2.2.2.2.2
  have hsq := (Bt.sq_nat k k1 k2).2.1
  have hn49 : n ≤ 49 := by omega
  have lt64 : ∀ (l : List Int) (z : Int), Bt.msk l z n < 18446744073709551616 := fun l z => by
    have := Bt.msk_lt l z n
    rw [hn] at this ⊢; omega
  have hP64 : 2 ^ p < 18446744073709551616 := by
    have : 2 ^ p < 2 ^ 64 := Nat.pow_lt_pow_right (by decide) (by omega)
    omega
  have CO : Hid (∀ w, Calls Tryd.prog 70 #[.int .i64 (p : Nat)] w fun e w' => e = .returned (.int .u64 ((2 ^ p : Nat) : Nat)) ∧ w = w') := Lib.hid fun w => i_only p w (by omega)
  have T1 := bit_eq (Bt.msk cs 0 n) p (lt64 cs 0) (by omega)
  by_cases h0 : cs.getD p 0 = 0
  · have hl1 : (cs.set p 1).length = n := by rw [List.length_set]; exact hl
    obtain ⟨S, os, hr⟩ := RI.make (s := (k : Int)) (x := oth 1) hl1 n (Nat.le_refl _)
    have hx1 : oth 1 = 2 := by decide
    rw [hx1] at hr
    obtain ⟨m1, hm1⟩ := nl_make hr
    obtain ⟨S2, os2, hr2⟩ := RI.make (s := (k : Int)) (x := 1) hr.olen n (Nat.le_refl _)
    obtain ⟨m2, hm2⟩ := nl_make hr2
    have hm1l : m1 < 18446744073709551616 := by have := hm1.lt; rw [hn] at this; omega
    have hm2l : m2 < 18446744073709551616 := by have := hm2.lt; rw [hn] at this; omega
    have eP : (Bt.msk cs 0 n).testBit p = true := by rw [Bt.msk_bit]; simp only [Bool.and_eq_true, decide_eq_true_eq]; exact ⟨hp, h0⟩
    have eE1 := Gw.set_gone hl hp (x := 1) (z := 0) (by decide) (lt64 cs 0) (by omega)
    have eM1 := Gw.set_same hl hp (x := 1)
    have eO1 := Gw.set_other hl hp (x := 1) (z := 2) (by decide) (by rw [h0]; decide)
    have eE2 := hm1.empty hr
    have eO2 := hm1.own hr (by decide) (lt64 _ _) hm1l
    have eM2 := hm1.other hr (y := 1) (by decide) (by decide)
    have eE3 := hm2.empty hr2
    have eM3 := hm2.own hr2 (by decide) (lt64 _ _) hm2l
    have eO3 := hm2.other hr2 (y := 2) (by decide) (by decide)
    have CR1 : Hid (false = false → ∀ w, Calls Tryd.prog 76 #[.agg #[.int .i64 (k : Nat), .int .u64 (Bt.msk cs 0 n : Nat), .int .u64 (Bt.msk cs 1 n : Nat), .int .u64 (Bt.msk cs 2 n : Nat)], .int .u64 ((2 ^ p : Nat) : Nat), .int .i64 0, .int .i64 1] w fun e w' => e = .returned (.agg #[.int .i64 (k : Nat), .int .u64 (Bt.msk (cs.set p 1) 0 n : Nat), .int .u64 (Bt.msk (cs.set p 1) 1 n : Nat), .int .u64 (Bt.msk (cs.set p 1) 2 n : Nat)]) ∧ Below w.heap.size w w') := Lib.hid fun _ w => by
      rw [eE1, eM1, eO1]
      exact i_rec01 k _ _ _ _ w (lt64 _ _) (lt64 _ _) hP64
    have CW1 : Hid (false = false → ∀ w, Calls Tryd.prog 77 #[.agg #[.int .i64 (k : Nat), .int .u64 (Bt.msk (cs.set p 1) 0 n : Nat), .int .u64 (Bt.msk (cs.set p 1) 1 n : Nat), .int .u64 (Bt.msk (cs.set p 1) 2 n : Nat)], .int .i64 2] w fun e w' => e = .returned (.int .u64 (m1 : Nat)) ∧ Below w.heap.size w w') := Lib.hid fun _ w => i_wo2 k n (cs.set p 1) m1 w k1 k2 hn hl1 hm1
    have CR2 : Hid (false = false → ∀ w, Calls Tryd.prog 76 #[.agg #[.int .i64 (k : Nat), .int .u64 (Bt.msk (cs.set p 1) 0 n : Nat), .int .u64 (Bt.msk (cs.set p 1) 1 n : Nat), .int .u64 (Bt.msk (cs.set p 1) 2 n : Nat)], .int .u64 (m1 : Nat), .int .i64 2, .int .i64 0] w fun e w' => e = .returned (.agg #[.int .i64 (k : Nat), .int .u64 (Bt.msk os 0 n : Nat), .int .u64 (Bt.msk os 1 n : Nat), .int .u64 (Bt.msk os 2 n : Nat)]) ∧ Below w.heap.size w w') := Lib.hid fun _ w => by
      rw [eE2, eO2, eM2]
      exact i_rec20 k _ _ _ _ w (lt64 _ _) (lt64 _ _) hm1l
    have CW2 : Hid (false = false → ∀ w, Calls Tryd.prog 77 #[.agg #[.int .i64 (k : Nat), .int .u64 (Bt.msk os 0 n : Nat), .int .u64 (Bt.msk os 1 n : Nat), .int .u64 (Bt.msk os 2 n : Nat)], .int .i64 1] w fun e w' => e = .returned (.int .u64 (m2 : Nat)) ∧ Below w.heap.size w w') := Lib.hid fun _ w => i_wo1 k n os m2 w k1 k2 hn hr.olen hm2
    have CR3 : Hid (false = false → ∀ w, Calls Tryd.prog 76 #[.agg #[.int .i64 (k : Nat), .int .u64 (Bt.msk os 0 n : Nat), .int .u64 (Bt.msk os 1 n : Nat), .int .u64 (Bt.msk os 2 n : Nat)], .int .u64 (m2 : Nat), .int .i64 1, .int .i64 0] w fun e w' => e = .returned (.agg #[.int .i64 (k : Nat), .int .u64 (Bt.msk os2 0 n : Nat), .int .u64 (Bt.msk os2 1 n : Nat), .int .u64 (Bt.msk os2 2 n : Nat)]) ∧ Below w.heap.size w w') := Lib.hid fun _ w => by
      rw [eE3, eO3, eM3]
      exact i_rec10 k _ _ _ _ w (lt64 _ _) (lt64 _ _) hm2l
    have T2 := bit_eq m2 p hm2l (by omega)
    rw [eP] at T1
    have T3 : Hid (bits .or .u64 (m1 : Int) (m2 : Int) = ((m1 ||| m2 : Nat) : Int)) := Lib.hid (u64_or_nat _ _ hm1l hm2l)
    rw [eO1] at CR1 CW1 CR2
    rw [eM2] at CR2 CW2 CR3
    rw [eO3] at CR3
    have key := fun w hg => i_playA1 k p (2 ^ p) (Bt.msk cs 0 n) (Bt.msk cs 1 n) (Bt.msk cs 2 n) (Bt.msk (cs.set p 1) 0 n) (Bt.msk (cs.set p 1) 1 n) m1 (Bt.msk os 0 n) (Bt.msk os 2 n) m2 (Bt.msk os2 0 n) (Bt.msk os2 1 n) (m1 ||| m2) su w v0 v1 false (!m2.testBit p) CO CR1 CW1 CR2 CW2 CR3 (Lib.hid T1) (Lib.hid T2) T3 hg
    have eo : os.getD p 0 = 1 := own_at hl hr hp (by decide)
    by_cases hno : NoLib (k : Int) n os p
    · have hb : m2.testBit p = true := (hm2 p).2 ⟨hp, eo, hno⟩
      rw [hb] at key
      cases su
      · refine ⟨none, .lost S os h0 (by rw [hx1]; exact hr) hno rfl, fun w hg => (key w hg).mono ?_⟩
        rintro e w' ⟨rfl, hb⟩
        exact ⟨⟨v1, .inr rfl, rfl⟩, hb⟩
      · have hd : ∀ q, q < n → m1.testBit q = true → m2.testBit q = true → False := fun q hq a b => by
          have e1 := hr.out q hq
          rw [← hm1.marks hr q hq, a, if_pos rfl] at e1
          have e2 := ((hm2 q).1 b).2.1
          rw [e1] at e2
          exact absurd e2 (by decide)
        refine ⟨some (os2, Bt.pts (m1 ||| m2) n), .both S os S2 os2 _ _ h0 (by rw [hx1]; exact hr) hno rfl hr2 (by rw [← hm1.pts hr, ← hm2.pts hr2]; exact so_pts hd rfl) (by rw [← hm1.pts hr, ← hm2.pts hr2]), fun w hg => (key w hg).mono ?_⟩
        rintro e w' ⟨rfl, hb⟩
        exact ⟨⟨m1 ||| m2, Bt.or_lt hm1.lt hm2.lt, rfl, by rw [eO3]; rfl⟩, hb⟩
    · have hb : m2.testBit p = false := by
        rcases e : m2.testBit p with _ | _
        · rfl
        · exact absurd ((hm2 p).1 e).2.2 hno
      rw [hb] at key
      refine ⟨some (os, Fl.pts S n), .lives S os h0 (by rw [hx1]; exact hr) hno, fun w hg => (key w hg).mono ?_⟩
      rintro e w' ⟨rfl, hb⟩
      exact ⟨⟨m1, hm1.lt, hm1.pts hr, by rw [eM2]; rfl⟩, hb⟩
  · have eP : (Bt.msk cs 0 n).testBit p = false := by rw [Bt.msk_bit, decide_eq_false h0, Bool.and_false]
    rw [eP] at T1
    refine ⟨none, .taken h0, fun w hg => ?_⟩
    refine (i_playA1 k p (2 ^ p) (Bt.msk cs 0 n) (Bt.msk cs 1 n) (Bt.msk cs 2 n) 0 0 0 0 0 0 0 0 0 su w v0 v1 true true CO (Lib.hid fun e => by cases e) (Lib.hid fun e => by cases e) (Lib.hid fun e => by cases e) (Lib.hid fun e => by cases e) (Lib.hid fun e => by cases e) (Lib.hid T1) (Lib.hid (by rw [show bits .and .u64 ((0 : Nat) : Int) ((2 ^ p : Nat) : Int) = 0 by rw [u64_and_nat _ _ (by omega) hP64]; simp]; rfl)) (Lib.hid (by rfl)) hg).mono ?_
    rintro e w' ⟨rfl, hb⟩
    exact ⟨⟨v0, .inl rfl, rfl⟩, hb⟩

theorem i_pl2 (hv : Bd.okB (k : Int) cs = true) (hl : cs.length = n) (hp : p < n) :
    ∃ R, Plays (k : Int) n cs 2 p su R ∧ ∀ w, Errs w v0 v1 → Calls Tryd.prog 49 #[.agg #[.int .i64 (k : Nat), .int .u64 (Bt.msk cs 0 n : Nat), .int .u64 (Bt.msk cs 1 n : Nat), .int .u64 (Bt.msk cs 2 n : Nat)], .int .i64 2, .int .i64 (p : Nat), .bool su] w fun e w' => PlI k n v0 v1 R e ∧ Below w.heap.size w w' := by
  obtain ⟨q1, q2, q3, q4⟩ := (Bd.okB_iff (k : Int) cs).1 hv
  have k1 : 1 ≤ k := by omega
  have k2 : k ≤ 7 := by omega
  have hn : n = k * k := by
    have : (n : Int) = ((k * k : Nat) : Int) := by rw [← hl]; push_cast; exact q3
    exact_mod_cast this
  have h7 := (Bt.masks k k1 k2).2.2.2.2.2.2
  have hsq := (Bt.sq_nat k k1 k2).2.1
  have hn49 : n ≤ 49 := by omega
  have lt64 : ∀ (l : List Int) (z : Int), Bt.msk l z n < 18446744073709551616 := fun l z => by
    have := Bt.msk_lt l z n
    rw [hn] at this ⊢; omega
  have hP64 : 2 ^ p < 18446744073709551616 := by
    have : 2 ^ p < 2 ^ 64 := Nat.pow_lt_pow_right (by decide) (by omega)
    omega
  have CO : Hid (∀ w, Calls Tryd.prog 70 #[.int .i64 (p : Nat)] w fun e w' => e = .returned (.int .u64 ((2 ^ p : Nat) : Nat)) ∧ w = w') := Lib.hid fun w => i_only p w (by omega)
  have T1 := bit_eq (Bt.msk cs 0 n) p (lt64 cs 0) (by omega)
  by_cases h0 : cs.getD p 0 = 0
  · have hl1 : (cs.set p 2).length = n := by rw [List.length_set]; exact hl
    obtain ⟨S, os, hr⟩ := RI.make (s := (k : Int)) (x := oth 2) hl1 n (Nat.le_refl _)
    have hx1 : oth 2 = 1 := by decide
    rw [hx1] at hr
    obtain ⟨m1, hm1⟩ := nl_make hr
    obtain ⟨S2, os2, hr2⟩ := RI.make (s := (k : Int)) (x := 2) hr.olen n (Nat.le_refl _)
    obtain ⟨m2, hm2⟩ := nl_make hr2
    have hm1l : m1 < 18446744073709551616 := by have := hm1.lt; rw [hn] at this; omega
    have hm2l : m2 < 18446744073709551616 := by have := hm2.lt; rw [hn] at this; omega
    have eP : (Bt.msk cs 0 n).testBit p = true := by rw [Bt.msk_bit]; simp only [Bool.and_eq_true, decide_eq_true_eq]; exact ⟨hp, h0⟩
    have eE1 := Gw.set_gone hl hp (x := 2) (z := 0) (by decide) (lt64 cs 0) (by omega)
    have eM1 := Gw.set_same hl hp (x := 2)
    have eO1 := Gw.set_other hl hp (x := 2) (z := 1) (by decide) (by rw [h0]; decide)
    have eE2 := hm1.empty hr
    have eO2 := hm1.own hr (by decide) (lt64 _ _) hm1l
    have eM2 := hm1.other hr (y := 2) (by decide) (by decide)
    have eE3 := hm2.empty hr2
    have eM3 := hm2.own hr2 (by decide) (lt64 _ _) hm2l
    have eO3 := hm2.other hr2 (y := 1) (by decide) (by decide)
    have CR1 : Hid (false = false → ∀ w, Calls Tryd.prog 76 #[.agg #[.int .i64 (k : Nat), .int .u64 (Bt.msk cs 0 n : Nat), .int .u64 (Bt.msk cs 1 n : Nat), .int .u64 (Bt.msk cs 2 n : Nat)], .int .u64 ((2 ^ p : Nat) : Nat), .int .i64 0, .int .i64 2] w fun e w' => e = .returned (.agg #[.int .i64 (k : Nat), .int .u64 (Bt.msk (cs.set p 2) 0 n : Nat), .int .u64 (Bt.msk (cs.set p 2) 1 n : Nat), .int .u64 (Bt.msk (cs.set p 2) 2 n : Nat)]) ∧ Below w.heap.size w w') := Lib.hid fun _ w => by
      rw [eE1, eM1, eO1]
      exact i_rec02 k _ _ _ _ w (lt64 _ _) (lt64 _ _) hP64
    have CW1 : Hid (false = false → ∀ w, Calls Tryd.prog 77 #[.agg #[.int .i64 (k : Nat), .int .u64 (Bt.msk (cs.set p 2) 0 n : Nat), .int .u64 (Bt.msk (cs.set p 2) 1 n : Nat), .int .u64 (Bt.msk (cs.set p 2) 2 n : Nat)], .int .i64 1] w fun e w' => e = .returned (.int .u64 (m1 : Nat)) ∧ Below w.heap.size w w') := Lib.hid fun _ w => i_wo1 k n (cs.set p 2) m1 w k1 k2 hn hl1 hm1
    have CR2 : Hid (false = false → ∀ w, Calls Tryd.prog 76 #[.agg #[.int .i64 (k : Nat), .int .u64 (Bt.msk (cs.set p 2) 0 n : Nat), .int .u64 (Bt.msk (cs.set p 2) 1 n : Nat), .int .u64 (Bt.msk (cs.set p 2) 2 n : Nat)], .int .u64 (m1 : Nat), .int .i64 1, .int .i64 0] w fun e w' => e = .returned (.agg #[.int .i64 (k : Nat), .int .u64 (Bt.msk os 0 n : Nat), .int .u64 (Bt.msk os 1 n : Nat), .int .u64 (Bt.msk os 2 n : Nat)]) ∧ Below w.heap.size w w') := Lib.hid fun _ w => by
      rw [eE2, eO2, eM2]
      exact i_rec10 k _ _ _ _ w (lt64 _ _) (lt64 _ _) hm1l
    have CW2 : Hid (false = false → ∀ w, Calls Tryd.prog 77 #[.agg #[.int .i64 (k : Nat), .int .u64 (Bt.msk os 0 n : Nat), .int .u64 (Bt.msk os 1 n : Nat), .int .u64 (Bt.msk os 2 n : Nat)], .int .i64 2] w fun e w' => e = .returned (.int .u64 (m2 : Nat)) ∧ Below w.heap.size w w') := Lib.hid fun _ w => i_wo2 k n os m2 w k1 k2 hn hr.olen hm2
    have CR3 : Hid (false = false → ∀ w, Calls Tryd.prog 76 #[.agg #[.int .i64 (k : Nat), .int .u64 (Bt.msk os 0 n : Nat), .int .u64 (Bt.msk os 1 n : Nat), .int .u64 (Bt.msk os 2 n : Nat)], .int .u64 (m2 : Nat), .int .i64 2, .int .i64 0] w fun e w' => e = .returned (.agg #[.int .i64 (k : Nat), .int .u64 (Bt.msk os2 0 n : Nat), .int .u64 (Bt.msk os2 1 n : Nat), .int .u64 (Bt.msk os2 2 n : Nat)]) ∧ Below w.heap.size w w') := Lib.hid fun _ w => by
      rw [eE3, eO3, eM3]
      exact i_rec20 k _ _ _ _ w (lt64 _ _) (lt64 _ _) hm2l
    have T2 := bit_eq m2 p hm2l (by omega)
    rw [eP] at T1
    have T3 : Hid (bits .or .u64 (m1 : Int) (m2 : Int) = ((m1 ||| m2 : Nat) : Int)) := Lib.hid (u64_or_nat _ _ hm1l hm2l)
    rw [eO1] at CR1 CW1 CR2
    rw [eM2] at CR2 CW2 CR3
    rw [eO3] at CR3
    have key := fun w hg => i_playA2 k p (2 ^ p) (Bt.msk cs 0 n) (Bt.msk cs 2 n) (Bt.msk cs 1 n) (Bt.msk (cs.set p 2) 0 n) (Bt.msk (cs.set p 2) 2 n) m1 (Bt.msk os 0 n) (Bt.msk os 1 n) m2 (Bt.msk os2 0 n) (Bt.msk os2 2 n) (m1 ||| m2) su w v0 v1 false (!m2.testBit p) CO CR1 CW1 CR2 CW2 CR3 (Lib.hid T1) (Lib.hid T2) T3 hg
    have eo : os.getD p 0 = 2 := own_at hl hr hp (by decide)
    by_cases hno : NoLib (k : Int) n os p
    · have hb : m2.testBit p = true := (hm2 p).2 ⟨hp, eo, hno⟩
      rw [hb] at key
      cases su
      · refine ⟨none, .lost S os h0 (by rw [hx1]; exact hr) hno rfl, fun w hg => (key w hg).mono ?_⟩
        rintro e w' ⟨rfl, hb⟩
        exact ⟨⟨v1, .inr rfl, rfl⟩, hb⟩
      · have hd : ∀ q, q < n → m1.testBit q = true → m2.testBit q = true → False := fun q hq a b => by
          have e1 := hr.out q hq
          rw [← hm1.marks hr q hq, a, if_pos rfl] at e1
          have e2 := ((hm2 q).1 b).2.1
          rw [e1] at e2
          exact absurd e2 (by decide)
        refine ⟨some (os2, Bt.pts (m1 ||| m2) n), .both S os S2 os2 _ _ h0 (by rw [hx1]; exact hr) hno rfl hr2 (by rw [← hm1.pts hr, ← hm2.pts hr2]; exact so_pts hd rfl) (by rw [← hm1.pts hr, ← hm2.pts hr2]), fun w hg => (key w hg).mono ?_⟩
        rintro e w' ⟨rfl, hb⟩
        exact ⟨⟨m1 ||| m2, Bt.or_lt hm1.lt hm2.lt, rfl, by rw [eO3]; rfl⟩, hb⟩
    · have hb : m2.testBit p = false := by
        rcases e : m2.testBit p with _ | _
        · rfl
        · exact absurd ((hm2 p).1 e).2.2 hno
      rw [hb] at key
      refine ⟨some (os, Fl.pts S n), .lives S os h0 (by rw [hx1]; exact hr) hno, fun w hg => (key w hg).mono ?_⟩
      rintro e w' ⟨rfl, hb⟩
      exact ⟨⟨m1, hm1.lt, hm1.pts hr, by rw [eM2]; rfl⟩, hb⟩
  · have eP : (Bt.msk cs 0 n).testBit p = false := by rw [Bt.msk_bit, decide_eq_false h0, Bool.and_false]
    rw [eP] at T1
    refine ⟨none, .taken h0, fun w hg => ?_⟩
    refine (i_playA2 k p (2 ^ p) (Bt.msk cs 0 n) (Bt.msk cs 2 n) (Bt.msk cs 1 n) 0 0 0 0 0 0 0 0 0 su w v0 v1 true true CO (Lib.hid fun e => by cases e) (Lib.hid fun e => by cases e) (Lib.hid fun e => by cases e) (Lib.hid fun e => by cases e) (Lib.hid fun e => by cases e) (Lib.hid T1) (Lib.hid (by rw [show bits .and .u64 ((0 : Nat) : Int) ((2 ^ p : Nat) : Int) = 0 by rw [u64_and_nat _ _ (by omega) hP64]; simp]; rfl)) (Lib.hid (by rfl)) hg).mono ?_
    rintro e w' ⟨rfl, hb⟩
    exact ⟨⟨v0, .inl rfl, rfl⟩, hb⟩
end
end Go.Proofs.YtpogjegihhljpaaDoor
