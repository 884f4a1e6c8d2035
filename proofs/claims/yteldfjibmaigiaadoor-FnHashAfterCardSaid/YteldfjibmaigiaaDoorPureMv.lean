/-
  Moving the cells of a board to the images of their points: whatever the list that is written over, the result is one. No program is imported.
-/
import Derived.Test.YteldfjibmaigiaaDoorPureBd
import Derived.Test.YteldfjibmaigiaaDoorFactPt
import Derived.Test.YteldfjibmaigiaaDoorUndone
namespace Go.Proofs.YteldfjibmaigiaaDoor.Bd
set_option maxRecDepth 100000
open Pt

def steps (f : Nat → Nat) (cs : List Int) : Nat → List Int → List Int
  | 0, l => l
  | j + 1, l => (steps f cs j l).set (f j) (cs.getD j 0)

theorem steps_len (f : Nat → Nat) (cs : List Int) (j : Nat) (l : List Int) : (steps f cs j l).length = l.length := by
  induction j with
  | zero => rfl
  | succ j ih => rw [steps, List.length_set, ih]

theorem steps_at {f : Nat → Nat} {cs l : List Int} {j : Nat} (hinj : ∀ a b, a < j → b < j → f a = f b → a = b) (hr : ∀ a, a < j → f a < l.length) {p : Nat} (hp : p < j) : (steps f cs j l)[f p]? = some (cs.getD p 0) := by
  induction j with
  | zero => omega
  | succ j ih =>
    rw [steps, List.getElem?_set]
    by_cases h : f j = f p
    · have hjp : j = p := hinj j p (by omega) hp h
      subst hjp
      rw [if_pos rfl, if_pos (by rw [steps_len]; exact hr j (by omega))]
    · rw [if_neg h]
      exact ih (fun a b ha hb => hinj a b (by omega) (by omega)) (fun a ha => hr a (by omega)) (by
        rcases Nat.lt_or_ge p j with h1 | h1
        · exact h1
        · exact absurd (by rw [show p = j by omega]) h)

theorem steps_one {f : Nat → Nat} {cs l l' : List Int} {n : Nat} (hl : l.length = n) (hl' : l'.length = n) (hinj : ∀ a b, a < n → b < n → f a = f b → a = b) (hr : ∀ a, a < n → f a < n) (hsur : ∀ q, q < n → ∃ p, p < n ∧ f p = q) :
    steps f cs n l = steps f cs n l' := by
  apply List.ext_getElem?
  intro q
  rcases Nat.lt_or_ge q n with hq | hq
  · obtain ⟨p, hp, rfl⟩ := hsur q hq
    rw [steps_at hinj (by rw [hl]; exact hr) hp, steps_at hinj (by rw [hl']; exact hr) hp]
  · rw [List.getElem?_eq_none (by rw [steps_len]; omega), List.getElem?_eq_none (by rw [steps_len]; omega)]

/-- The image of a point, as a natural number. -/
def imgN (s k : Int) (p : Nat) : Nat := (img s k p).toNat

theorem imgN_lt (s k : Int) (n p : Nat) (h1 : 1 ≤ s) (h2 : s ≤ 7) (hn : (n : Int) = s * s) (hp : p < n) : imgN s k p < n ∧ ((imgN s k p : Nat) : Int) = img s k p := by
  have := img_bd s k p h1 h2 (by omega) (by omega)
  unfold imgN
  omega

theorem back (s k p : Int) (h1 : 1 ≤ s) (h2 : s ≤ 7) (h3 : 0 ≤ p) (h4 : p < s * s) (k1 : 0 ≤ k) (k2 : k < 8) :
    img s (if 4 ≤ k then k else -k % 4) (img s k p) = p := by
  have hi := img_bd s k p h1 h2 h3 h4
  obtain ⟨_, u2, u3, _⟩ := undone_parts s k p h1 h2 h3 h4 k1 k2
  by_cases h : 4 ≤ k
  · have := u2 h
    rw [tr_in s k p h1 h2 h3 h4 k1 k2, tr_in s k _ h1 h2 hi.1 hi.2 k1 k2] at this
    rw [if_pos h]; simpa using this
  · have := u3 (by omega)
    rw [tr_in s k p h1 h2 h3 h4 k1 k2, tr_in s _ _ h1 h2 hi.1 hi.2 (by omega) (by omega)] at this
    rw [if_neg h]; simpa using this

theorem imgN_inj (s k : Int) (n : Nat) (h1 : 1 ≤ s) (h2 : s ≤ 7) (hn : (n : Int) = s * s) (k1 : 0 ≤ k) (k2 : k < 8) (a b : Nat) (ha : a < n) (hb : b < n) (h : imgN s k a = imgN s k b) : a = b := by
  have e1 := (imgN_lt s k n a h1 h2 hn ha).2
  have e2 := (imgN_lt s k n b h1 h2 hn hb).2
  have b1 := back s k a h1 h2 (by omega) (by omega) k1 k2
  have b2 := back s k b h1 h2 (by omega) (by omega) k1 k2
  rw [← e1, h, e2, b2] at b1
  omega

theorem imgN_sur (s k : Int) (n : Nat) (h1 : 1 ≤ s) (h2 : s ≤ 7) (hn : (n : Int) = s * s) (k1 : 0 ≤ k) (k2 : k < 8) (q : Nat) (hq : q < n) : ∃ p, p < n ∧ imgN s k p = q := by
  obtain ⟨k', hk', c1, c2, hkk⟩ : ∃ k' : Int, (if 4 ≤ k' then k' else -k' % 4) = k ∧ 0 ≤ k' ∧ k' < 8 ∧ True := by
    by_cases h : 4 ≤ k
    · exact ⟨k, if_pos h, k1, k2, trivial⟩
    · exact ⟨-k % 4, by rw [if_neg (by omega)]; omega, by omega, by omega, trivial⟩
  have hb := back s k' q h1 h2 (by omega) (by omega) c1 c2
  rw [hk'] at hb
  obtain ⟨e1, e2⟩ := imgN_lt s k' n q h1 h2 hn hq
  refine ⟨imgN s k' q, e1, ?_⟩
  unfold imgN at e2 ⊢
  rw [e2, hb]
  rfl

/-- The cells behind a symmetry. -/
def mv (s k : Int) (cs : List Int) : List Int := steps (imgN s k) cs cs.length cs
theorem mv_len (s k : Int) (cs : List Int) : (mv s k cs).length = cs.length := steps_len _ _ _ _
theorem mv_any (s k : Int) (cs l : List Int) (h1 : 1 ≤ s) (h2 : s ≤ 7) (hn : (cs.length : Int) = s * s) (k1 : 0 ≤ k) (k2 : k < 8) (hl : l.length = cs.length) : steps (imgN s k) cs cs.length l = mv s k cs :=
  steps_one hl rfl (fun a b ha hb => imgN_inj s k _ h1 h2 hn k1 k2 a b ha hb) (fun a ha => (imgN_lt s k _ a h1 h2 hn ha).1) (fun q hq => imgN_sur s k _ h1 h2 hn k1 k2 q hq)
end Go.Proofs.YteldfjibmaigiaaDoor.Bd
