/-
  Comparing two lists of one length: the program's slices.Compare and the model's lessInts.
-/
import Derived.Test.YtfpibldknjcehaaWords
import Derived.Deep.QuietTactic
import Derived.BigQuiet
namespace Go.Proofs.Ytfpibldknjcehaa
set_option maxRecDepth 100000
open Go.RowKit

/-- b tells whether xs comes before ys. -/
def Lx (n : Nat) (xs ys : List Int) (b : Bool) : Prop :=
  (∃ k, k < n ∧ (∀ j, j < k → xs.getD j 0 = ys.getD j 0) ∧ xs.getD k 0 ≠ ys.getD k 0 ∧ b = decide (xs.getD k 0 < ys.getD k 0)) ∨ ((∀ j, j < n → xs.getD j 0 = ys.getD j 0) ∧ b = false)
theorem Lx.make (n : Nat) (xs ys : List Int) : ∃ b, Lx n xs ys b := by
  have key : ∀ m, m ≤ n → (∀ j, j < m → xs.getD j 0 = ys.getD j 0) ∨ ∃ b, Lx n xs ys b := by
    intro m
    induction m with
    | zero => intro _; exact .inl fun j hj => absurd hj (by omega)
    | succ m ih =>
      intro hm
      rcases ih (by omega) with h | h
      · by_cases e : xs.getD m 0 = ys.getD m 0
        · left
          intro j hj
          by_cases e2 : j = m
          · rw [e2]; exact e
          · exact h j (by omega)
        · exact .inr ⟨_, .inl ⟨m, by omega, h, e, rfl⟩⟩
      · exact .inr h
  rcases key n (Nat.le_refl _) with h | h
  · exact ⟨false, .inr ⟨h, rfl⟩⟩
  · exact h
theorem Lx.at_ {n k : Nat} {xs ys : List Int} {b : Bool} (h : Lx n xs ys b) (hk : k < n) (he : ∀ j, j < k → xs.getD j 0 = ys.getD j 0) (hne : xs.getD k 0 ≠ ys.getD k 0) : b = decide (xs.getD k 0 < ys.getD k 0) := by
  rcases h with ⟨k', h1, h2, h3, h4⟩ | ⟨h1, _⟩
  · rcases Nat.lt_trichotomy k k' with e | e | e
    · exact absurd (h2 k e) hne
    · rw [e]; exact h4
    · exact absurd (he k' e) h3
  · exact absurd (h1 k hk) hne
theorem Lx.end_ {n : Nat} {xs ys : List Int} {b : Bool} (h : Lx n xs ys b) (he : ∀ j, j < n → xs.getD j 0 = ys.getD j 0) : b = false := by
  rcases h with ⟨k', h1, h2, h3, h4⟩ | ⟨_, h1⟩
  · exact absurd (he k' h1) h3
  · exact h1

def Sgn (x y : Int) (c : Int) : Prop := (c < 0 ↔ x < y) ∧ (c = 0 ↔ x = y)
theorem g_nan (x : Int) (w : World) : Calls Try.prog 131 #[.int .i64 x] w fun e w' => e = .returned (.bool false) ∧ w = w' := by
  go_enter Try.func131, Try.ntmps131
  go_wp2_with fail
  go_ret
  exact ⟨by simp, rfl⟩
theorem g_cmp (x y : Int) (w : World) : Calls Try.prog 104 #[.int .i64 x, .int .i64 y] w fun e w' => ∃ c, e = .returned (.int .i64 c) ∧ Sgn x y c ∧ w = w' := by
  rcases Int.lt_trichotomy x y with h | h | h
  · go_enter Try.func104, Try.ntmps104
    go_wp2_with fail
    refine (g_nan _ _).mono ?_
    rintro e w' ⟨rfl, rfl⟩
    go_wp2_with fail
    refine (g_nan _ _).mono ?_
    rintro e w' ⟨rfl, rfl⟩
    go_wp2_with fail
    go_ret
    exact ⟨-1, rfl, ⟨by omega, by omega⟩, rfl⟩
  · subst h
    go_enter Try.func104, Try.ntmps104
    go_wp2_with fail
    refine (g_nan _ _).mono ?_
    rintro e w' ⟨rfl, rfl⟩
    go_wp2_with fail
    refine (g_nan _ _).mono ?_
    rintro e w' ⟨rfl, rfl⟩
    go_wp2_with fail
    go_ret
    exact ⟨0, rfl, ⟨by omega, by omega⟩, rfl⟩
  · have h2 : ¬ x < y := by omega
    go_enter Try.func104, Try.ntmps104
    go_wp2_with fail
    refine (g_nan _ _).mono ?_
    rintro e w' ⟨rfl, rfl⟩
    go_wp2_with fail
    refine (g_nan _ _).mono ?_
    rintro e w' ⟨rfl, rfl⟩
    go_wp2_with fail
    go_ret
    exact ⟨1, rfl, ⟨by omega, by omega⟩, rfl⟩

def CmpIs (b : Bool) (w : World) (e : Ending) (w' : World) : Prop := ∃ d, e = .returned (.int .i64 d) ∧ decide (d < 0) = b ∧ w = w'
theorem i_compare (w : World) (B B' : Nat) (A A' : Option Addr) (n c c' : Nat) (xs ys : List Int) (h : Ints w B A n xs) (h' : Ints w B' A' n ys) (hn : n ≤ 1000) (b : Bool) (Hb : Hid (Lx n xs ys b)) :
    Calls Try.prog 59 #[.slice A n c, .slice A' n c'] w fun e w' => CmpIs b w e w' := by
  rcases h.2 with rfl | ⟨ba, oa, rfl, hlt, hc⟩
  · have hf : b = false := Hb.out.end_ (fun j hj => absurd hj (by omega))
    clear h h'
    go_enter Try.func59, Try.ntmps59
    go_wp2_with fail
    go_rounds 1
    go_ret
    exact ⟨0, rfl, by rw [hf]; rfl, rfl⟩
  · rcases h'.2 with h0 | ⟨bb, ob, rfl, hlt', hc'⟩
    · subst h0
      have hf : b = false := Hb.out.end_ (fun j hj => absurd hj (by omega))
      clear h h' hc
      go_enter Try.func59, Try.ntmps59
      go_wp2_with fail
      go_rounds 1
      go_ret
      exact ⟨0, rfl, by rw [hf]; rfl, rfl⟩
    · have Hc := Lib.hid hc
      have Hc' := Lib.hid hc'
      clear hc hc' h h'
      go_enter Try.func59, Try.ntmps59
      go_wp2_with fail
      go_loop [11] (fun i => ∃ k : Nat, k ≤ n ∧ i = .int .i64 (k : Nat) ∧ ∀ j, j < k → xs.getD j 0 = ys.getD j 0) (fun i => n - (intOf i).toNat)
      case atStart => exact ⟨0, by omega, rfl, fun j hj => absurd hj (by omega)⟩
      case round =>
        obtain ⟨k, hk, rfl, heq⟩ := hrel
        have Heq := Lib.hid heq
        clear heq
        by_cases hkn : k < n
        · have c1 := Hc.out k hkn
          have c2 := Hc'.out k hkn
          have Hat := Lib.hid (Hb.out.at_ hkn Heq.out)
          obtain ⟨x, hx⟩ : ∃ x, xs.getD k 0 = x := ⟨_, rfl⟩
          obtain ⟨y, hy⟩ : ∃ y, ys.getD k 0 = y := ⟨_, rfl⟩
          rw [hx] at c1
          rw [hy] at c2
          have Hx := Lib.hid hx
          have Hy := Lib.hid hy
          have hkI : (k : Int) < n := by omega
          clear hx hy
          go_wp2_with fail
          refine (g_cmp _ _ _).mono ?_
          rintro e w' ⟨d, rfl, ⟨d1, d2⟩, rfl⟩
          by_cases hd : d = 0
          · have hxy := d2.1 hd
            subst hd
            have Hxy := Lib.hid hxy
            clear d1 d2 hxy
            go_wp2_with fail
            go_round
            case rel => exact ⟨k + 1, by omega, by go_num, fun j hj => by by_cases e : j = k; (· rw [e, Hx.out, Hy.out]; exact Hxy.out); (· exact Heq.out j (by omega))⟩
            case measure => simp [intOf]; omega
          · have hb2 : b = decide (x < y) := by
              have := Hat.out (by rw [Hx.out, Hy.out]; exact fun e => hd (d2.2 e))
              rw [Hx.out, Hy.out] at this; exact this
            have Hb2 : Hid (decide (d < 0) = b) := Lib.hid (by rw [hb2, decide_eq_decide]; exact d1)
            clear d1 d2 hb2
            go_wp2_with fail
            go_ret
            exact ⟨_, rfl, Hb2.out, rfl⟩
        · have Hf := Lib.hid (Hb.out.end_ (fun j hj => Heq.out j (by omega)))
          go_wp2_with fail
          go_ret
          exact ⟨0, rfl, by rw [Hf.out]; rfl, rfl⟩

def LessIs (b : Bool) (w : World) (e : Ending) (w' : World) : Prop := e = .returned (.bool b) ∧ Below w.heap.size w w'
theorem s_less (w : World) (B B' : Nat) (A A' : Option Addr) (n c c' : Nat) (xs ys : List Int) (h : Ints w B A n xs) (h' : Ints w B' A' n ys) (hn : n ≤ 1000) (b : Bool) (Hb : Hid (Lx n xs ys b)) :
    Calls Try.prog 108 #[.slice A n c, .slice A' n c'] w fun e w' => LessIs b w e w' := by
  by_cases h0 : n = 0
  · subst h0
    have Hf := Lib.hid (Hb.out.end_ (fun j hj => absurd hj (by omega)))
    clear h h'
    go_enter Try.func108, Try.ntmps108
    go_wp2_with fail
    go_rounds 1
    go_ret
    exact ⟨by rw [Hf.out]; rfl, Below.refl _ _⟩
  · obtain ⟨ba, oa, rfl, hlt, hc⟩ : ∃ b o, A = some ⟨b, o, none⟩ ∧ b < B ∧ ∀ j, j < n → w.cell? ⟨b, o + j, none⟩ = some (.int .i64 (xs.getD j 0)) := by
      rcases h.2 with e | e
      · exact absurd e h0
      · exact e
    obtain ⟨bb, ob, rfl, hlt', hc'⟩ : ∃ b o, A' = some ⟨b, o, none⟩ ∧ b < B' ∧ ∀ j, j < n → w.cell? ⟨b, o + j, none⟩ = some (.int .i64 (ys.getD j 0)) := by
      rcases h'.2 with e | e
      · exact absurd e h0
      · exact e
    have Hc := Lib.hid hc
    have Hc' := Lib.hid hc'
    clear hc hc' h h'
    go_enter Try.func108, Try.ntmps108
    go_wp2_with fail
    go_loopw [5] (fun i wr => ∃ k d : Nat, k ≤ n ∧ i = .int .i64 (k : Nat) ∧ (∀ j, j < k → xs.getD j 0 = ys.getD j 0) ∧ wr = w.drewN d) (fun i _ => n - (intOf i).toNat)
    case atStart => exact ⟨0, 0, by omega, rfl, (fun j hj => absurd hj (by omega)), rfl⟩
    case round =>
      obtain ⟨k, d, hk, rfl, heq, rfl⟩ := hrel
      have Heq := Lib.hid heq
      clear heq
      by_cases hkn : k < n
      · have c1 := Hc.out k hkn
        have c2 := Hc'.out k hkn
        have Hat := Lib.hid (Hb.out.at_ hkn Heq.out)
        obtain ⟨x, hx⟩ : ∃ x, xs.getD k 0 = x := ⟨_, rfl⟩
        obtain ⟨y, hy⟩ : ∃ y, ys.getD k 0 = y := ⟨_, rfl⟩
        rw [hx] at c1
        rw [hy] at c2
        have Hx := Lib.hid hx
        have Hy := Lib.hid hy
        have hkI : (k : Int) < n := by omega
        clear hx hy
        by_cases hxy : x = y
        · subst hxy
          go_wp2_with fail
          go_quiet (fail)
          go_wp2_with fail
          go_roundw
          case rel => exact ⟨k + 1, _, by omega, by go_num, (fun j hj => by by_cases e : j = k; (· rw [e, Hx.out, Hy.out]); (· exact Heq.out j (by omega))), rfl⟩
          case measure => simp [intOf]; omega
        · have Hb2 : Hid (b = decide (x < y)) := Lib.hid (by
            have := Hat.out (by rw [Hx.out, Hy.out]; exact hxy)
            rw [Hx.out, Hy.out] at this; exact this)
          go_wp2_with fail
          go_quiet (fail)
          go_wp2_with fail
          go_quiet (fail)
          go_wp2_with fail
          go_ret
          exact ⟨by rw [Hb2.out]; rfl, ⟨rfl, rfl, rfl, Nat.le_refl _, fun _ _ => rfl⟩⟩
      · have Hf := Lib.hid (Hb.out.end_ (fun j hj => Heq.out j (by omega)))
        go_wp2_with fail
        go_ret
        exact ⟨by rw [Hf.out]; simp, ⟨rfl, rfl, rfl, Nat.le_refl _, fun _ _ => rfl⟩⟩
end Go.Proofs.Ytfpibldknjcehaa
