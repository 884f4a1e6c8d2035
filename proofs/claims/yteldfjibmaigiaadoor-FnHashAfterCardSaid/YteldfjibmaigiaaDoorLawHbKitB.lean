/-
  Texts that a law stands on: EyeV, EyeW, Poss, DrPo, KyI, HaP, HbP, SpSt, PlV, HbQ, HaI, SetS, CopyB, SetI, HbI, Count, Valid, CntP, LawP, ColAt, Point, DrawP, SetV, HcD.
-/
import Derived.Test.YteldfjibmaigiaaDoorLawHbKitA
import Derived.Test.YteldfjibmaigiaaDoorPlayS
import Derived.Test.YteldfjibmaigiaaDoorWordsB
import Derived.Deep.DeepCutAuto
import Derived.Test.YteldfjibmaigiaaDoorSpecA
import Derived.Test.YteldfjibmaigiaaDoorBoardI
import Derived.Deep.LoopGhost
import Derived.Test.YteldfjibmaigiaaDoorReader
import Derived.Test.YteldfjibmaigiaaDoorRows2
import Derived.Test.YteldfjibmaigiaaDoorInvS
import Derived.Laws.CopyOwn
import Derived.Test.YteldfjibmaigiaaDoorCopy
import Derived.Test.YteldfjibmaigiaaDoorTrS
import Derived.Deep.RegionWith
namespace Go.Proofs.YteldfjibmaigiaaDoor
set_option maxRecDepth 100000
open Go.RowKit

/-- The program's eyes, as the model tells them. -/
theorem eye_bit (t q : Nat) (cs : List Int) (x y : Int) (n m : Nat) (h1 : 1 ≤ t) (h2 : t ≤ 7) (hn : n = t * t) (hl : cs.length = n) (hok : ∀ c ∈ cs, 0 ≤ c ∧ c ≤ 2) (hx : (x = 1 ∧ y = 2) ∨ (x = 2 ∧ y = 1)) (hq : q < t * t)
    (hm : IsEy t (encM t (Bt.msk cs 0 n) (Bt.msk cs x n) (Bt.msk cs y n)) (Bt.msk cs y n) m) : m.testBit q = eyeS t cs q x := by
  have hy : 3 - x = y := by omega
  rw [hm q, enc_eq t cs x y n h1 h2 hn hl hok hx q hq, hold_eq t cs y n h1 h2 hn q hq, eyeS, hy]
theorem ey_lt {s Y O m : Nat} (h : IsEy s Y O m) (hY : Y < 2 ^ 49) : m < 2 ^ 49 := by
  refine Nat.lt_pow_two_of_testBit _ fun j hj => ?_
  rw [h j, Bt.high hY hj, Bool.false_and]

theorem ey_ex (t Y O : Nat) (hY : Y < 2 ^ 64) : ∃ m, IsEy t Y O m := by
  have key : ∀ j, j ≤ 64 → ∃ m : Nat, ∀ z : Nat, m.testBit z = (decide (z < j) && (Y.testBit z && holdB t z O)) := by
    intro j
    induction j with
    | zero => exact fun _ => ⟨0, fun z => by simp⟩
    | succ j ih =>
      intro hj
      obtain ⟨m, hm⟩ := ih (by omega)
      cases e : (Y.testBit j && holdB t j O)
      · refine ⟨m, fun z => ?_⟩
        rw [hm z]
        by_cases hz : z = j
        · subst hz; rw [e, Bool.and_false, Bool.and_false]
        · congr 1; exact decide_eq_decide.2 (by omega)
      · refine ⟨m ||| 2 ^ j, fun z => ?_⟩
        rw [Nat.testBit_or, hm z, Nat.testBit_two_pow]
        by_cases hz : z = j
        · subst hz; rw [e]; simp
        · have a1 : decide (j = z) = false := decide_eq_false (by omega)
          rw [a1, Bool.or_false]
          congr 1; exact decide_eq_decide.2 (by omega)
  obtain ⟨m, hm⟩ := key 64 (Nat.le_refl _)
  refine ⟨m, fun z => ?_⟩
  rw [hm z]
  by_cases hz : z < 64
  · rw [decide_eq_true hz, Bool.true_and]
  · rw [Bt.high (n := 64) hY (by omega)]; simp

section
variable (s p x : Int) (w : World) (B : Nat) (A : Option Addr) (n c : Nat) (cs : List Int) (h : Ints w B A n cs) (hB : B ≤ w.heap.size) (hn : n ≤ 1000000000) (ht : Tab w)
include h hB hn ht

end
end Go.Proofs.YteldfjibmaigiaaDoor

namespace Go.Proofs.YteldfjibmaigiaaDoor
set_option maxRecDepth 100000
open Go.RowKit

theorem own_blk {w : World} {B n c g : Nat} {A : Option Addr} {xs : List Int} (h : Own w B A n c xs) (hg : (Value.slice A n c).ownBlock = some g) : A = some ⟨g, 0, none⟩ := by
  rcases h.2.2 with ⟨e, _⟩ | ⟨g', cap, cur, e, _⟩
  · rw [e] at hg; cases hg
  · have hA : A = some ⟨g', 0, none⟩ := by injection e
    rw [hA] at hg ⊢
    have : g' = g := by simpa [Value.ownBlock] using hg
    rw [this]

/-- Two lists of the call's own, apart from each other. -/
structure TwoL (w : World) (B : Nat) (A : Option Addr) (n c : Nat) (xs : List Int) (D : Option Addr) (m d : Nat) (ys : List Int) : Prop where
  one : Own w B A n c xs
  two : Own w B D m d ys
  apart : ∀ g, A = some ⟨g, 0, none⟩ → D ≠ some ⟨g, 0, none⟩
theorem TwoL.below {w w' : World} {B n c m d : Nat} {A D : Option Addr} {xs ys : List Int} (h : TwoL w B A n c xs D m d ys) (hb : Below w.heap.size w w') : TwoL w' B A n c xs D m d ys := ⟨h.one.below hb, h.two.below hb, h.apart⟩
theorem TwoL.swap {w : World} {B n c m d : Nat} {A D : Option Addr} {xs ys : List Int} (h : TwoL w B A n c xs D m d ys) : TwoL w B D m d ys A n c xs := ⟨h.two, h.one, fun g h1 h2 => h.apart g h2 h1⟩
theorem TwoL.grow {w w' : World} {B n c c' m d : Nat} {A A' D : Option Addr} {xs xs' ys : List Int} (h : TwoL w B A n c xs D m d ys) (ho : Own w' B A' (n + 1) c' xs') (hg : w.grownBy w' (Value.slice A n c).ownBlock)
    (hat : ∀ g, A' = some ⟨g, 0, none⟩ → (Value.slice A n c).ownBlock = some g ∨ w.heap.size < g) : TwoL w' B A' (n + 1) c' xs' D m d ys := by
  refine ⟨ho, h.two.kept hg ?_, ?_⟩
  · intro g hD e
    exact h.apart g (own_blk h.one e) hD
  · intro g hA hD
    rcases hat g hA with e | e
    · exact h.apart g (own_blk h.one e) hD
    · have := (h.two.ge hD).2
      omega
theorem TwoL.under {w w' a : World} {B n c m d : Nat} {A D : Option Addr} {xs ys : List Int} (h : TwoL w B A n c xs D m d ys) (hb : Below B a w) (hg : w.grownBy w' (Value.slice A n c).ownBlock) (hB : B ≤ w.heap.size) : Below B a w' :=
  hb.grown hg hB (fun _ hk => (h.one.ge (own_blk h.one hk)).1)

section
variable (t : Nat) (x : Int) (w : World) (B : Nat) (A : Option Addr) (n c : Nat) (cs : List Int) (h : Ints w B A n cs) (hB : B ≤ w.heap.size) (h1 : 1 ≤ t) (h2 : t ≤ 7) (hn : n = t * t) (hv : Bd.okB t cs = true) (x1 : 1 ≤ x) (x2 : x ≤ 2)
  (m f : Nat) (hm : ∀ q, q < n → m.testBit q = eyeS t cs q x) (hf : ∀ q, q < n → f.testBit q = (encS t cs q x && !eyeS t cs q x))
include h hB h1 h2 hn hv x1 x2 hm hf

end
end Go.Proofs.YteldfjibmaigiaaDoor

namespace Go.Proofs.YteldfjibmaigiaaDoor
set_option maxRecDepth 100000
open Go.RowKit

/-- The list of the numbers below k with a property. -/
def PPs (P : Nat → Prop) : Nat → List Int → Prop
  | 0, l => l = []
  | k + 1, l => ∃ l0, PPs P k l0 ∧ ((P k ∧ l = l0 ++ [(k : Int)]) ∨ (¬ P k ∧ l = l0))
theorem PPs.make (P : Nat → Prop) : ∀ k, ∃ l, PPs P k l
  | 0 => ⟨[], rfl⟩
  | k + 1 => by
    obtain ⟨l, hl⟩ := PPs.make P k
    by_cases h : P k
    · exact ⟨_, l, hl, .inl ⟨h, rfl⟩⟩
    · exact ⟨_, l, hl, .inr ⟨h, rfl⟩⟩
theorem PPs.one {P : Nat → Prop} : ∀ {k : Nat} {l l' : List Int}, PPs P k l → PPs P k l' → l = l'
  | 0, _, _, h, h' => by
    have h : _ = [] := h
    have h' : _ = [] := h'
    rw [h, h']
  | k + 1, _, _, ⟨l0, h0, h⟩, ⟨l1, h1, h'⟩ => by
    obtain rfl := PPs.one h0 h1
    rcases h with ⟨a, rfl⟩ | ⟨a, rfl⟩ <;> rcases h' with ⟨b, rfl⟩ | ⟨b, rfl⟩
    · rfl
    · exact absurd a b
    · exact absurd b a
    · rfl
theorem PPs.len {P : Nat → Prop} : ∀ {k : Nat} {l : List Int}, PPs P k l → l.length ≤ k
  | 0, _, h => by
    have h : _ = [] := h
    rw [h]; simp
  | k + 1, _, ⟨l0, h0, h⟩ => by
    have := PPs.len h0
    rcases h with ⟨_, rfl⟩ | ⟨_, rfl⟩
    · rw [List.length_append]; simp; omega
    · omega
theorem PPs.mem {P : Nat → Prop} : ∀ {k : Nat} {l : List Int}, PPs P k l → ∀ x : Int, x ∈ l ↔ ∃ q : Nat, x = q ∧ q < k ∧ P q
  | 0, _, h, x => by
    have h : _ = [] := h
    rw [h]; simp
  | k + 1, _, ⟨l0, h0, h⟩, x => by
    have ih := PPs.mem h0 x
    rcases h with ⟨a, rfl⟩ | ⟨a, rfl⟩
    · rw [List.mem_append, ih, List.mem_singleton]
      constructor
      · rintro (⟨q, a1, a2, a3⟩ | rfl)
        · exact ⟨q, a1, by omega, a3⟩
        · exact ⟨k, rfl, by omega, a⟩
      · rintro ⟨q, a1, a2, a3⟩
        by_cases e : q = k
        · subst e; exact .inr a1
        · exact .inl ⟨q, a1, by omega, a3⟩
    · rw [ih]
      constructor
      · rintro ⟨q, a1, a2, a3⟩; exact ⟨q, a1, by omega, a3⟩
      · rintro ⟨q, a1, a2, a3⟩
        by_cases e : q = k
        · subst e; exact absurd a3 a
        · exact ⟨q, a1, by omega, a3⟩
theorem PPs.bits {P : Nat → Prop} {m : Nat} : ∀ {k : Nat}, (∀ q, q < k → (m.testBit q = true ↔ P q)) → PPs P k (Bt.pts m k)
  | 0, _ => by simp [PPs, Bt.pts]
  | k + 1, h => by
    refine ⟨Bt.pts m k, PPs.bits fun q hq => h q (by omega), ?_⟩
    rcases e : m.testBit k with _ | _
    · exact .inr ⟨(fun hp => by rw [(h k (by omega)).2 hp] at e; cases e), Bt.pts_no e⟩
    · exact .inl ⟨(h k (by omega)).1 e, Bt.pts_yes e⟩

/-- A stone is possible. -/
def CanP (s : Int) (n : Nat) (cs : List Int) (x : Int) (su : Bool) (q : Nat) : Prop := ∃ r, Plays s n cs x q su (some r)
/-- A stone captures. -/
def CapP (s : Int) (n : Nat) (cs : List Int) (x : Int) (q : Nat) : Prop := ∃ r, Plays s n cs x q false (some r) ∧ r.2 ≠ []
def okX (s : Int) (cs : List Int) (x : Int) : Bool := Bd.okB s cs && (decide (1 ≤ x) && decide (x ≤ 2))
def PosIs (s : Int) (n : Nat) (cs : List Int) (x : Int) (su : Bool) (l : List Int) : Prop := (okX s cs x = true → PPs (CanP s n cs x su) n l) ∧ (okX s cs x = false → l = [])
def CapIs (s : Int) (n : Nat) (cs : List Int) (x : Int) (l : List Int) : Prop := (okX s cs x = true → PPs (CapP s n cs x) n l) ∧ (okX s cs x = false → l = [])
theorem PosIs.make (s : Int) (n : Nat) (cs : List Int) (x : Int) (su : Bool) : ∃ l, PosIs s n cs x su l := by
  rcases e : okX s cs x with _ | _
  · exact ⟨[], (fun h => by rw [e] at h; cases h), fun _ => rfl⟩
  · obtain ⟨l, hl⟩ := PPs.make (CanP s n cs x su) n
    exact ⟨l, fun _ => hl, fun h => by rw [e] at h; cases h⟩
theorem CapIs.make (s : Int) (n : Nat) (cs : List Int) (x : Int) : ∃ l, CapIs s n cs x l := by
  rcases e : okX s cs x with _ | _
  · exact ⟨[], (fun h => by rw [e] at h; cases h), fun _ => rfl⟩
  · obtain ⟨l, hl⟩ := PPs.make (CapP s n cs x) n
    exact ⟨l, fun _ => hl, fun h => by rw [e] at h; cases h⟩
theorem PosIs.len {s : Int} {n : Nat} {cs : List Int} {x : Int} {su : Bool} {l : List Int} (h : PosIs s n cs x su l) : l.length ≤ n := by
  rcases e : okX s cs x with _ | _
  · rw [h.2 e]; simp
  · exact (h.1 e).len
theorem CapIs.len {s : Int} {n : Nat} {cs : List Int} {x : Int} {l : List Int} (h : CapIs s n cs x l) : l.length ≤ n := by
  rcases e : okX s cs x with _ | _
  · rw [h.2 e]; simp
  · exact (h.1 e).len

set_option maxRecDepth 100000 in
set_option maxHeartbeats 8000000 in
theorem s_Cap (s x : Int) (w : World) (B : Nat) (A : Option Addr) (n c : Nat) (cs lr : List Int) (h : Ints w B A n cs) (hB : B ≤ w.heap.size) (hn : n ≤ 1000000000) (hI : Hid (CapIs s n cs x lr)) :
    Calls Tryd.prog 27 #[.agg #[.int .i64 s, .slice A n c], .int .i64 x] w fun e w' => ∃ A n c, e = .returned (.slice A n c) ∧ Own w' w.heap.size A n c lr ∧ Below w.heap.size w w' := by
  have hb0 : Below w.heap.size w (w.alloc (.cells #[.int .i64 s, .slice A n c] 25)) := (Below.refl _ _).alloc (Nat.le_refl _) _
  obtain ⟨W0, hW0⟩ : ∃ W, W = w.alloc (.cells #[.int .i64 s, .slice A n c] 25) := ⟨_, rfl⟩
  have hs0 : W0.heap.size = w.heap.size + 1 := by rw [hW0]; simp
  have Bx0 : Bx 25 W0 w.heap.size s (.slice A n c) := by rw [hW0]; exact Bx.new _ _ _ _
  rw [← hW0] at hb0
  obtain ⟨W1, hW1⟩ : ∃ W, W = W0.alloc (.cells #[] 3) := ⟨_, rfl⟩
  have b1 : Below W0.heap.size W0 W1 := by rw [hW1]; exact (Below.refl _ _).alloc (Nat.le_refl _) _
  have hs1 : W1.heap.size = w.heap.size + 2 := by rw [hW1]; simp [hs0]
  have o1 : Own W1 (w.heap.size + 1) (some ⟨w.heap.size + 1, 0, none⟩) 0 0 [] := by
    have := Own.bare W0 (w.heap.size + 1) (by omega)
    rw [← hW1, hs0] at this; exact this
  have hbb : Below w.heap.size w W1 := hb0.trans (b1.mono (by omega))
  have H := Lib.hid (h.below hbb hB)
  have Bxx := Lib.hid (Bx0.below b1 (by omega))
  have Hb := Lib.hid hbb
  have HW : W1 = (w.alloc (.cells #[.int .i64 s, .slice A n c] 25)).alloc (.cells #[] 3) := by rw [hW1, hW0]
  have Ho := Lib.hid o1
  have hl := h.1
  clear h hb0 hs0 b1 o1 hbb Bx0 hW1 hW0
  have Hs1 := Lib.hid hs1
  clear hs1
  obtain ⟨v1, r1⟩ : ∃ b, Bd.okB s cs = b := ⟨_, rfl⟩
  obtain ⟨v2, r2⟩ : ∃ b, (decide (1 ≤ x) && decide (x ≤ 2)) = b := ⟨_, rfl⟩
  have He1 := Lib.hid r1
  have He2 := Lib.hid r2
  cases v1
  · have HF := Lib.hid (hI.out.2 (by rw [okX, r1]; rfl))
    clear r1 r2 hl
    go_enter Tryd.func27, Tryd.ntmps27
    go_wp2_with fail
    rw [← HW]
    clear HW
    have u0 := Bxx.out.cell0
    have u1 := Bxx.out.cell1
    go_wp2_with fail
    refine (s_validBoard _ _ _ _ _ _ _ H.out (by have := Hs1.out; omega) (by omega)).mono ?_
    rintro e y ⟨rfl, hb⟩
    have Hb2 := Lib.hid (Hb.out.trans (hb.mono (by have := Hs1.out; omega)))
    clear hb u0 u1
    rw [He1.out]
    go_wp2_with fail
    go_ret
    exact ⟨_, _, _, rfl, by rw [HF.out]; exact Own.nil _ _, Hb2.out⟩
  · cases v2
    · have HF := Lib.hid (hI.out.2 (by rw [okX, r1, r2]; rfl))
      clear r1 r2 hl
      go_enter Tryd.func27, Tryd.ntmps27
      go_wp2_with fail
      rw [← HW]
      clear HW
      have u0 := Bxx.out.cell0
      have u1 := Bxx.out.cell1
      go_wp2_with fail
      refine (s_validBoard _ _ _ _ _ _ _ H.out (by have := Hs1.out; omega) (by omega)).mono ?_
      rintro e y ⟨rfl, hb⟩
      have Hb2 := Lib.hid (Hb.out.trans (hb.mono (by have := Hs1.out; omega)))
      clear hb u0 u1
      rw [He1.out]
      go_wp2_with fail
      refine (s_vcolor _ _).mono ?_
      rintro e w' ⟨rfl, rfl⟩
      rw [He2.out]
      go_wp2_with fail
      go_ret
      exact ⟨_, _, _, rfl, by rw [HF.out]; exact Own.nil _ _, Hb2.out⟩
    · have hpp := hI.out.1 (by rw [okX, r1, r2]; rfl)
      obtain ⟨q1, q2, q3, q4⟩ := (Bd.okB_iff s cs).1 r1
      rw [Bool.and_eq_true, decide_eq_true_eq, decide_eq_true_eq] at r2
      obtain ⟨x1, x2⟩ := r2
      have hsq := Pt.sq_bd s q1 q2
      have hnn : (n : Int) = s * s := by omega
      have hn49 : n ≤ 49 := by omega
      have Hpp := Lib.hid hpp
      have CP : Hid (∀ (q : Nat) w, q < n → Ints w B A n cs → B ≤ w.heap.size → Calls Tryd.prog 39 #[.agg #[.int .i64 s, .slice A n c], .int .i64 x, .int .i64 (q : Nat), .bool false] w fun e w' => PlayedP s n (Plays s n cs x q false) w e w') := Lib.hid fun q w hq h hB => s_play s x q false w B A n c cs h hB q1 q2 hnn hq x1 x2
      clear r1 hl hpp q1 q2 q3 q4 x1 x2 hsq hnn hI
      go_enter Tryd.func27, Tryd.ntmps27
      go_wp2_with fail
      rw [← HW]
      clear HW
      have u0 := Bxx.out.cell0
      have u1 := Bxx.out.cell1
      go_wp2_with fail
      refine (s_validBoard _ _ _ _ _ _ _ H.out (by have := Hs1.out; omega) (by omega)).mono ?_
      rintro e y ⟨rfl, hb⟩
      have H2 := Lib.hid (H.out.below hb (by have := Hs1.out; omega))
      have Bx2 := Lib.hid (Bxx.out.below hb (by have := Hs1.out; omega))
      have Ho2 := Lib.hid (Ho.out.below hb)
      have Hb2 := Lib.hid (Hb.out.trans (hb.mono (by have := Hs1.out; omega)))
      have hys : w.heap.size + 2 ≤ y.heap.size := by have := hb.size; have := Hs1.out; omega
      clear hb u0 u1
      rw [He1.out]
      go_wp2_with fail
      refine (s_vcolor _ _).mono ?_
      rintro e w' ⟨rfl, rfl⟩
      rw [He2.out]
      go_wp2_with fail
      go_loopw [5, 6] (fun v i wr => ∃ (k : Nat) (l : List Int) (A1 : Option Addr) (n1 c1 : Nat), k ≤ n ∧ v = .slice A1 n1 c1 ∧ i = .int .i64 (k : Nat) ∧ PPs (CapP s n cs x) k l ∧ Own wr (w.heap.size + 1) A1 n1 c1 l ∧ Below (w.heap.size + 1) y wr) (fun _ i _ => n - (intOf i).toNat)
      case atStart => exact ⟨0, [], _, _, _, by omega, rfl, rfl, rfl, Ho2.out, Below.refl _ _⟩
      case round =>
        clear Ho Ho2
        obtain ⟨k, l, A1, n1, c1, hk, rfl, rfl, hp, ho, hbr⟩ := hrel
        have hn1 : n1 ≤ 49 := by have := ho.1; have := hp.len; omega
        have hwr := hbr.size
        have Bxr := Lib.hid (Bx2.out.below hbr (by omega))
        have Hr := Lib.hid (H2.out.below hbr (by omega))
        have Hbr := Lib.hid hbr
        have Ho := Lib.hid ho
        have Hp := Lib.hid hp
        clear hbr ho hp
        have u0 := Bxr.out.cell0
        have u1 := Bxr.out.cell1
        have u2 := Bxr.out.lt
        by_cases hkn : k < n
        · have hkI : (k : Int) < n := by omega
          go_wp2_with fail
          refine (CP.out k _ hkn Hr.out (by omega)).mono ?_
          clear u0 u1 u2
          rintro e y2 (⟨hR, rfl, hb⟩ | ⟨os, gs, A3, c3, A4, n4, c4, hR, rfl, ho3, hg3, hb⟩)
          · have Hpp1 : Hid (PPs (CapP s n cs x) (k + 1) l) := Lib.hid ⟨l, Hp.out, .inr ⟨(by rintro ⟨r, hR', _⟩; have := hR.one hR'; cases this), rfl⟩⟩
            have hb3 : Below y2.heap.size y2 (y2.alloc (.cells #[.int .i64 0, .slice none 0 0] 25)) := (Below.refl _ _).alloc (Nat.le_refl _) _
            have Ho2 := Lib.hid ((Ho.out.below hb).below hb3)
            have Hbr3 := Lib.hid ((Hbr.out.trans (hb.mono (by omega))).trans (hb3.mono (by have := hb.size; omega)))
            clear hb hb3 hR
            go_wp2_with fail
            go_roundw
            case rel => exact ⟨k + 1, _, _, _, _, by omega, rfl, by go_num, Hpp1.out, Ho2.out, Hbr3.out⟩
            case measure => simp [intOf]; omega
          · have hb3 : Below y2.heap.size y2 (y2.alloc (.cells #[.int .i64 s, .slice A3 n c3] 25)) := (Below.refl _ _).alloc (Nat.le_refl _) _
            have Ho2 := Lib.hid ((Ho.out.below hb).below hb3)
            have Hbr3 := Lib.hid ((Hbr.out.trans (hb.mono (by omega))).trans (hb3.mono (by have := hb.size; omega)))
            have Hz := Lib.hid hb.size
            have hgl := hg3.1
            clear hb hb3 ho3 hg3
            by_cases h4 : n4 = 0
            · subst h4
              have hge : gs = [] := List.eq_nil_of_length_eq_zero hgl
              have Hpp1 : Hid (PPs (CapP s n cs x) (k + 1) l) := Lib.hid ⟨l, Hp.out, .inr ⟨(by rintro ⟨r, hR', hr⟩; have := hR.one hR'; injection this with this; subst this; exact hr hge), rfl⟩⟩
              clear hR hge hgl
              go_wp2_with fail
              go_roundw
              case rel => exact ⟨k + 1, _, _, _, _, by omega, rfl, by go_num, Hpp1.out, Ho2.out, Hbr3.out⟩
              case measure => simp [intOf]; omega
            · have h4' : (0 : Int) < n4 := by omega
              have hge : gs ≠ [] := fun e => h4 (by rw [e] at hgl; exact hgl.symm)
              have Hpp1 : Hid (PPs (CapP s n cs x) (k + 1) (l ++ [(k : Int)])) := Lib.hid ⟨l, Hp.out, .inl ⟨⟨_, hR, hge⟩, rfl⟩⟩
              clear hR hge hgl
              go_wp2_with (at_builtin; refine app1at rfl _ _ rfl _ _ _ _ _ _ _ _ rfl rfl (by simp) Ho2.out (by have := Hbr3.out.size; omega) (by omega) ?_; intro A' c' w' hown' hlt' hgr' hat')
              have hbl : Below (w.heap.size + 1) y w' := Hbr3.out.trans (below_g hgr' (by have := Hbr3.out.size; omega) (fun g e => by have := own_blk Ho2.out e; have := (Ho2.out.ge this).1; omega))
              have Hbl := Lib.hid hbl
              have Hown := Lib.hid hown'
              clear hown' hlt' hgr' hat' hbl
              go_roundw
              case rel => exact ⟨k + 1, _, _, _, _, by omega, rfl, by go_num, Hpp1.out, Hown.out, Hbl.out⟩
              case measure => simp [intOf]; omega
        · have hkn' : k = n := by omega
          have hle := Hp.out.one (by rw [hkn']; exact Hpp.out)
          have Hf := Lib.hid (show Own wr w.heap.size A1 n1 c1 lr by rw [← hle]; exact Ho.out.weaken (by omega))
          have Hbb := Lib.hid (Hb2.out.trans (Hbr.out.mono (by omega)))
          clear hle hkn'
          go_wp2_with fail
          go_ret
          exact ⟨_, _, _, rfl, Hf.out, Hbb.out⟩
end Go.Proofs.YteldfjibmaigiaaDoor

namespace Go.Proofs.YteldfjibmaigiaaDoor
set_option maxRecDepth 100000
open Go.RowKit

def DrawnLO (w : World) (e : Ending) (w' : World) : Prop :=
  ∃ (s : Int) (A : Option Addr) (n c : Nat) (cs : List Int) (x p : Int) (b : Bool), e = .returned (.tuple #[.agg #[.int .i64 s, .slice A n c], .int .i64 x, .int .i64 p, .bool b]) ∧ IntsF w' w.heap.size A n cs ∧ n ≤ 49 ∧ 0 ≤ s ∧ s ≤ 8 ∧ -1 ≤ x ∧ x ≤ 8 ∧ Below w.heap.size w w'

theorem IntsF.low {w : World} {lo lo' n : Nat} {A : Option Addr} {xs : List Int} (h : IntsF w lo A n xs) (hl : lo' ≤ lo) : IntsF w lo' A n xs := by
  obtain ⟨h1, h2⟩ := h
  refine ⟨h1, h2.imp id ?_⟩
  rintro ⟨b, o, e, h3, h4⟩
  exact ⟨b, o, e, Nat.le_trans hl h3, h4⟩
set_option maxRecDepth 100000 in
set_option maxHeartbeats 8000000 in
theorem d_playO (w : World) (a : Option Addr) (len cap : Nat) (zs : List Int) (h : IsRow .u8 w a len cap zs) :
    Calls Tryd.prog 6 #[.slice a len cap] w fun e w' => DrawnLO w e w' := by
  have hb1 : Below w.heap.size w (w.alloc (.cells #[.int .i64 0, .slice none 0 0] 25)) := (Below.refl _ _).alloc (Nat.le_refl _) _
  have X2 := Lib.hid (Bx.new 25 w 0 (.slice none 0 0))
  have Hb := Lib.hid hb1
  have hsz : (w.alloc (.cells #[.int .i64 0, .slice none 0 0] 25)).heap.size = w.heap.size + 1 := by simp
  have Hsz := Lib.hid hsz
  have H := Lib.hid (h.below hb1)
  clear h hb1 hsz
  go_enter Tryd.func6, Tryd.ntmps6
  go_wp2_with fail
  refine (r_new _ _ _ _ zs H.out).mono ?_
  rintro e y ⟨g, rfl, hr, hb⟩
  have Hg := Lib.hid hr.1
  rw [Hsz.out] at Hg
  have hg1 := Hg.out
  have X2 := Lib.hid (X2.out.below hb X2.out.lt)
  have Hb := Lib.hid (Hb.out.trans (hb.mono (by rw [Hsz.out]; omega)))
  have zy := X2.out.lt
  obtain ⟨Bq, Hr⟩ : ∃ Bq, Hid (Rdr y Bq g 0) := ⟨_, Lib.hid hr⟩
  clear hr hb
  go_wp2_with fail
  have hgy := Hr.out.lt
  refine (r_any Bq g 0 _ Hr.out (by omega)).mono ?_
  rintro e y2 ⟨s, A, n, c, cs, q', rfl, hi, hn, s0, s8, hr, hq, hg⟩
  have X2 := Lib.hid (X2.out.grown hg (fun e => by have := Option.some.inj e; omega))
  have Hb := Lib.hid (Hb.out.trans (below_g hg (by omega) (fun k hk => by have := Option.some.inj hk; omega)))
  have Hi := Lib.hid hi
  have Hr := Lib.hid hr
  have hgl := hr.lt
  have zz := hg.size
  clear hi hr hg
  go_upto_region 3 with (fail)
  obtain ⟨y3, hy3, hb3, z3, z4⟩ := new_box y2 (.cells #[.int .i64 s, .slice A n c] 25)
  have X5 : Hid (Bx 25 y3 y2.heap.size s (.slice A n c)) := Lib.hid (by rw [hy3]; exact Bx.new _ _ _ _)
  rw [← hy3]
  clear hy3
  have X2 := Lib.hid (X2.out.below hb3 X2.out.lt)
  have Hr := Lib.hid (Hr.out.below hb3 Hr.out.lt)
  have Hi := Lib.hid (Hi.out.below hb3)
  have Hb := Lib.hid (Hb.out.trans (hb3.mono (by omega)))
  clear hb3
  have t0 := X5.out.cell0
  have t1 := X5.out.cell1
  have t2 := X5.out.lt
  go_wp2_with fail
  refine (r_anyColor Bq g q' _ Hr.out (by omega)).mono ?_
  rintro e y4 ⟨x, rfl, hx, hr, hg⟩
  have hx8 : -1 ≤ x ∧ x ≤ 8 := by omega
  have X2 := Lib.hid (X2.out.grown hg (fun e => by have := Option.some.inj e; omega))
  have X5 := Lib.hid (X5.out.grown hg (fun e => by have := Option.some.inj e; omega))
  have Hi := Lib.hid (Hi.out.grown hg (by omega))
  have Hb := Lib.hid (Hb.out.trans (below_g hg (by omega) (fun k hk => by have := Option.some.inj hk; omega)))
  have Hr := Lib.hid hr
  have z5 := hg.size
  clear hr hg hx t0 t1 t2
  have t0 := X5.out.cell0
  have t1 := X5.out.cell1
  have t2 := X5.out.lt
  go_wp2_with fail
  refine (r_anyPoint Bq g (q' + 1) s _ Hr.out (by omega) s0 s8).mono ?_
  rintro e y5 ⟨pa, rfl, _, hr, hg⟩
  have X2 := Lib.hid (X2.out.grown hg (fun e => by have := Option.some.inj e; omega))
  have X5 := Lib.hid (X5.out.grown hg (fun e => by have := Option.some.inj e; omega))
  have Hi := Lib.hid (Hi.out.grown hg (by omega))
  have Hb := Lib.hid (Hb.out.trans (below_g hg (by omega) (fun k hk => by have := Option.some.inj hk; omega)))
  have Hr := Lib.hid hr
  have z6 := hg.size
  clear hr hg t0 t1 t2
  have t0 := X5.out.cell0
  have t1 := X5.out.cell1
  have t2 := X5.out.lt
  obtain ⟨lr, hlr⟩ := CapIs.make s n cs x
  have hlen := hlr.len
  go_wp2_with fail
  refine (s_Cap s x _ _ A n c cs lr (Hi.out.ints) (Nat.le_refl _) (by omega) (Lib.hid hlr)).mono ?_
  rintro e y6 ⟨A1, m, c1, rfl, ho, hb⟩
  have X2 := Lib.hid (X2.out.below hb X2.out.lt)
  have X5 := Lib.hid (X5.out.below hb X5.out.lt)
  have Hi := Lib.hid (Hi.out.below hb)
  have Hb := Lib.hid (Hb.out.trans (hb.mono (by omega)))
  have Hr := Lib.hid (Hr.out.below hb Hr.out.lt)
  have Ho := Lib.hid ho
  have hm := ho.1
  have z7 := hb.size
  clear hb ho hlr t0 t1 t2
  have t0 := X5.out.cell0
  have t1 := X5.out.cell1
  have t2 := X5.out.lt
  go_upto_region 6 with (fail)
  go_cut [32] (fun v wx => ∃ (bb : Bool) (q9 : Nat), v = .bool bb ∧ (bb = true → 0 < m) ∧ q9 ≤ 400 ∧ Rdr wx Bq g q9 ∧ y6.grownBy wx (some g))
  case first =>
    by_cases hm0 : m = 0
    · subst hm0
      go_wp2_with fail
      go_meet
      exact ⟨false, q' + 1 + 2, rfl, (fun e => by cases e), by omega, Hr.out, World.grownBy.refl _ _⟩
    · have hmI : (0 : Int) < m := by omega
      go_wp2_with fail
      refine (r_pick Bq g (q' + 1 + 2) 2 _ Hr.out (by omega)).mono ?_
      rintro e y7 ⟨z, rfl, _, _, hr, hg⟩
      go_wp2_with fail
      go_meet
      exact ⟨z == 0, q' + 1 + 2 + 1, rfl, (fun _ => by omega), by omega, hr, hg⟩
  case rest =>
    obtain ⟨bb, q9, rfl, hbm, hq9, hr, hg⟩ := hcut
    have X2 := Lib.hid (X2.out.grown hg (fun e => by have := Option.some.inj e; omega))
    have X5 := Lib.hid (X5.out.grown hg (fun e => by have := Option.some.inj e; omega))
    have Hi := Lib.hid (Hi.out.grown hg (by omega))
    have Hb := Lib.hid (Hb.out.trans (below_g hg Hb.out.size (fun k hk => by have := Option.some.inj hk; omega)))
    have Hr := Lib.hid hr
    have Ho := Lib.hid (Ho.out.kept hg (fun g' hA e => by have := (Ho.out.ge hA).1; have := Option.some.inj e; omega))
    have zb := hg.size
    clear hr hg t0 t1 t2
    have t0 := X5.out.cell0
    have t1 := X5.out.cell1
    have t2 := X5.out.lt
    go_upto_if 32 with (fail)
    go_cut [9] (fun v wx => ∃ (p : Int) (q10 : Nat), v = .int .i64 p ∧ q10 ≤ 500 ∧ Rdr wx Bq g q10 ∧ wc.grownBy wx (some g))
    case first =>
      cases bb
      · go_wp2_with fail
        go_meet
        exact ⟨pa, q9, rfl, by omega, Hr.out, World.grownBy.refl _ _⟩
      · have hm0 : 0 < m := hbm rfl
        go_wp2_with fail
        refine (r_pick Bq g q9 (m : Nat) _ Hr.out (by omega)).mono ?_
        rintro e y8 ⟨z, rfl, zp, zm, hr, hg⟩
        obtain ⟨j, rfl⟩ := Int.eq_ofNat_of_zero_le zp
        have hjm : j < m := by omega
        have hjI : (j : Int) < m := by omega
        have Ho := Lib.hid (Ho.out.kept hg (fun g' hA e => by have := (Ho.out.ge hA).1; have := Option.some.inj e; omega))
        obtain ⟨ga, cap, hv, _, _⟩ := World.ownsRow.form Ho.out.2 (by omega)
        obtain rfl : A1 = some ⟨ga, 0, none⟩ := by injection hv
        have cj := own_cellD Ho.out j hjm
        clear hv t0 t1 t2
        have Hr2 := Lib.hid hr
        have Hg2 := Lib.hid hg
        clear hr hg
        go_wp2_with fail
        go_meet
        exact ⟨_, q9 + 1, rfl, by omega, Hr2.out, Hg2.out⟩
    case rest =>
      clear Ho hbm
      obtain ⟨p0, q10, rfl, hq10, hr, hg⟩ := hcut
      have X2 := Lib.hid (X2.out.grown hg (fun e => by have := Option.some.inj e; omega))
      have X5 := Lib.hid (X5.out.grown hg (fun e => by have := Option.some.inj e; omega))
      have Hi := Lib.hid (Hi.out.grown hg (by omega))
      have Hb := Lib.hid (Hb.out.trans (below_g hg Hb.out.size (fun k hk => by have := Option.some.inj hk; omega)))
      have Hr := Lib.hid hr
      have zc := hg.size
      clear hr hg t0 t1 t2
      have Hq10 := Lib.hid hq10
      go_wp2_with fail
      go_loopw [9, 11] (fun v i wr => ∃ (k q8 : Nat) (p : Int), k ≤ n ∧ i = .int .i64 (k : Nat) ∧ v = .int .i64 p ∧ q8 ≤ 500 + k ∧ Rdr wr Bq g q8 ∧ wc.grownBy wr (some g)) (fun _ i _ => n - (intOf i).toNat)
      case atStart => exact ⟨0, _, _, by omega, rfl, rfl, by have := Hq10.out; omega, Hr.out, World.grownBy.refl _ _⟩
      case round =>
        obtain ⟨k, q8, p, hk, rfl, rfl, hq8, hr, hg⟩ := hrel
        have X2 := Lib.hid (X2.out.grown hg (fun e => by have := Option.some.inj e; omega))
        have X5 := Lib.hid (X5.out.grown hg (fun e => by have := Option.some.inj e; omega))
        have Hi := Lib.hid (Hi.out.grown hg (by omega))
        have Hb := Lib.hid (Hb.out.trans (below_g hg Hb.out.size (fun k hk => by have := Option.some.inj hk; omega)))
        have Hr := Lib.hid hr
        have Hg := Lib.hid hg
        have zw := hg.size
        have Hq : Hid (q8 ≤ 600) := Lib.hid (by omega)
        clear hr hg
        have t0 := X5.out.cell0
        have t1 := X5.out.cell1
        have t2 := X5.out.lt
        go_upto_region 9 with (fail)
        go_cut [68] (fun v wx => ∃ (bb : Bool) (q9 : Nat), v = .bool bb ∧ (bb = true → k < n) ∧ q9 ≤ q8 + 1 ∧ Rdr wx Bq g q9 ∧ wr.grownBy wx (some g))
        case first =>
          by_cases hkn : k < n
          · have hkI : (k : Int) < n := by omega
            by_cases hp0 : 0 ≤ p
            · by_cases hpn : p < n
              · obtain ⟨q, rfl⟩ := Int.eq_ofNat_of_zero_le hp0
                rcases Hi.out.2 with h0 | ⟨b, o, rfl, _, _, hc⟩
                · omega
                · have ck := hc q (by omega)
                  obtain ⟨v0, hv0⟩ : ∃ v, cs.getD q 0 = v := ⟨_, rfl⟩
                  rw [hv0] at ck
                  clear hc hv0
                  by_cases hz0 : v0 = 0
                  · have e0 : (v0 != 0) = false := by simpa using hz0
                    clear hz0
                    go_wp2_with fail
                    go_meet
                    exact ⟨false, q8, rfl, (fun e => by cases e), by omega, Hr.out, World.grownBy.refl _ _⟩
                  · have e0 : (v0 != 0) = true := by simpa using hz0
                    clear hz0
                    go_wp2_with fail
                    refine (r_pick Bq g q8 4 _ Hr.out (by have := Hq.out; omega)).mono ?_
                    rintro e y10 ⟨z, rfl, _, _, hr, hg⟩
                    go_wp2_with fail
                    go_meet
                    exact ⟨decide (0 < z), q8 + 1, by first | rfl | simp, (fun _ => hkn), by omega, hr, hg⟩
              · go_wp2_with fail
                go_meet
                exact ⟨false, q8, rfl, (fun e => by cases e), by omega, Hr.out, World.grownBy.refl _ _⟩
            · go_wp2_with fail
              go_meet
              exact ⟨false, q8, rfl, (fun e => by cases e), by omega, Hr.out, World.grownBy.refl _ _⟩
          · have hge : ¬ (k : Int) < n := by omega
            go_wp2_with fail
            go_meet
            exact ⟨false, q8, rfl, (fun e => by cases e), by omega, Hr.out, World.grownBy.refl _ _⟩
        case rest =>
          obtain ⟨bb, q9, rfl, hbn, hq9, hr, hg⟩ := hcut
          have X2 := Lib.hid (X2.out.grown hg (fun e => by have := Option.some.inj e; omega))
          have X5 := Lib.hid (X5.out.grown hg (fun e => by have := Option.some.inj e; omega))
          have Hi := Lib.hid (Hi.out.grown hg (by omega))
          have Hb := Lib.hid (Hb.out.trans (below_g hg Hb.out.size (fun k hk => by have := Option.some.inj hk; omega)))
          have Hr := Lib.hid hr
          have Hg := Lib.hid (gtrans Hg.out hg)
          have zd := hg.size
          have Hq9 : Hid (q9 ≤ 700) := Lib.hid (by have := Hq.out; omega)
          clear hr hg t0 t1 t2
          cases bb
          · have Hq := Hq9
            have t0 := X5.out.cell0
            have t1 := X5.out.cell1
            have t2 := X5.out.lt
            go_wp2_with fail
            go_region_with (first | (go_at_call 28; refine (r_pick Bq g (q9) 2 _ (by exact Hr.out) (by have := Hq.out; omega)).mono ?_; rintro e y9 ⟨b9, rfl, _, _, hr, hg⟩; have hg5 : wc.grownBy y9 (some g) := ⟨hg.os, hg.tape, hg.output, hg.size, hg.block⟩; have HX2 := Lib.hid (X2.out.grown hg5 (fun e => by have := Option.some.inj e; omega)); have HX5 := Lib.hid (X5.out.grown hg5 (fun e => by have := Option.some.inj e; omega)); have HI := Lib.hid (Hi.out.grown hg5 (by omega)); have HB := Lib.hid (Hb.out.trans (below_g hg5 Hb.out.size (fun k hk => by have := Option.some.inj hk; omega))); have u0 := HX5.out.cell0; have u1 := HX5.out.cell1; have u2 := HX5.out.lt; have r0 := HX2.out.cell0; have r1 := HX2.out.cell1; have r2 := HX2.out.frozen 0; have r3 := HX2.out.frozen 1; have r4 := HX2.out.lt; clear hr hg hg5))
            all_goals go_wp2_with fail
            all_goals
              have k0 := (HX2.out.set0 s).cell0
              have k1 := ((HX2.out.set0 s).set1 (.slice A n c)).cell1
              refine bodyPost_ret (v := .tuple #[.agg #[.int .i64 s, .slice A n c], .int .i64 x, .int .i64 p, .bool (b9 == 0)]) (by simp [results, Tryd.results6, go_sem, k0, k1]) rfl ?_
              have hi3 := ((HI.out.far ⟨w.heap.size, 0, none⟩ (by show w.heap.size < y.heap.size; omega) (.int .i64 s)).far ⟨w.heap.size, 1, none⟩ (by show w.heap.size < y.heap.size; omega) (.slice A n c)).low (show w.heap.size ≤ y.heap.size by omega)
              have hb3 := (HB.out.setCell (p := ⟨w.heap.size, 0, none⟩) (Nat.le_refl _) (.int .i64 s)).setCell (p := ⟨w.heap.size, 1, none⟩) (Nat.le_refl _) (.slice A n c)
              exact ⟨_, _, _, _, _, _, _, _, rfl, hi3, hn, s0, s8, hx8.1, hx8.2, hb3⟩
          · have hkn := hbn rfl
            have hn0 : ((n : Int) == 0) = false := by simp; omega
            have hn00 : ¬ (n : Int) = 0 := by omega
            have t0 := X5.out.cell0
            have t1 := X5.out.cell1
            have t2 := X5.out.lt
            go_wp2_with fail
            go_roundw
            case rel => exact ⟨k + 1, q9, _, by omega, by go_num, rfl, by omega, Hr.out, Hg.out⟩
            case measure => simp [intOf]; omega
end Go.Proofs.YteldfjibmaigiaaDoor

namespace Go.Proofs.YteldfjibmaigiaaDoor
set_option maxRecDepth 100000
open Go.RowKit

def Ky.step (x : Int) : Int := (48271 * x + 11) % 1048576
def Ky.it : Nat → Int → Int
  | 0, x => x
  | k + 1, x => Ky.step (Ky.it k x)
def Ky.ok (p c : Int) : Bool := Pt.okP 7 p && (c == 1 || c == 2)
def Ky.key (p c : Int) : Int := if Ky.ok p c = true then Ky.it 4 (2 * p + c) else -1
theorem Ky.it_bd {x : Int} (h0 : 0 ≤ x) (h1 : x ≤ 98) : ∀ k, 0 ≤ Ky.it k x ∧ Ky.it k x ≤ 1048575
  | 0 => ⟨h0, by show x ≤ _; omega⟩
  | k + 1 => by
    unfold Ky.it Ky.step
    omega
theorem Ky.ok_iff {p c : Int} : Ky.ok p c = true ↔ 0 ≤ p ∧ p ≤ 48 ∧ (c = 1 ∨ c = 2) := by
  unfold Ky.ok
  rw [Bool.and_eq_true, Pt.okP_iff, Bool.or_eq_true, beq_iff_eq, beq_iff_eq]
  omega
theorem Ky.key_bd {p c : Int} (h : Ky.ok p c = true) : 0 ≤ Ky.key p c ∧ Ky.key p c ≤ 1048575 := by
  unfold Ky.key
  rw [if_pos h]
  obtain ⟨h1, h2, h3⟩ := Ky.ok_iff.1 h
  exact Ky.it_bd (by omega) (by omega) 4
theorem Ky.step_inj {x y : Int} (hx : 0 ≤ x) (hx1 : x ≤ 1048575) (hy : 0 ≤ y) (hy1 : y ≤ 1048575) (h : Ky.step x = Ky.step y) : x = y := by
  unfold Ky.step at h
  omega
theorem Ky.it_inj {x y : Int} (hx : 0 ≤ x) (hx1 : x ≤ 98) (hy : 0 ≤ y) (hy1 : y ≤ 98) : ∀ k, Ky.it k x = Ky.it k y → x = y
  | 0, h => h
  | k + 1, h => by
    obtain ⟨a1, a2⟩ := Ky.it_bd hx hx1 k
    obtain ⟨b1, b2⟩ := Ky.it_bd hy hy1 k
    exact Ky.it_inj hx hx1 hy hy1 k (Ky.step_inj a1 a2 b1 b2 h)
theorem Ky.differ {p c : Int} (h : Ky.ok p c = true) : Ky.ok p (3 - c) = true ∧ Ky.key p (3 - c) ≠ Ky.key p c := by
  obtain ⟨h1, h2, h3⟩ := Ky.ok_iff.1 h
  have h' : Ky.ok p (3 - c) = true := Ky.ok_iff.2 (by omega)
  refine ⟨h', ?_⟩
  unfold Ky.key
  rw [if_pos h, if_pos h']
  intro e
  have := Ky.it_inj (by omega) (by omega) (by omega) (by omega) 4 e
  omega

theorem s_kcolor (x : Int) (w : World) : Calls Tryd.prog 37 #[.int .i64 x] w fun e w' => e = .returned (.bool (decide (1 ≤ x) && decide (x ≤ 2))) ∧ w = w' := by
  go_enter Tryd.func37, Tryd.ntmps37
  go_wp2_with fail
  refine (s_range _ _ _ _).mono ?_
  rintro e y ⟨rfl, rfl⟩
  go_wp2_with fail
  go_ret
  exact ⟨rfl, rfl⟩
theorem i_kstone (c : Int) (w : World) : Calls Tryd.prog 30 #[.int .i64 c] w fun e w' => e = .returned (.bool (c == 1 || c == 2)) ∧ w = w' := i_isStone c w
theorem i_key (p c : Int) (w : World) : Calls Tryd.prog 21 #[.int .i64 p, .int .i64 c] w fun e w' => e = .returned (.int .i64 (Ky.key p c)) ∧ w = w' := by
  by_cases hp : Pt.okP 7 p = true
  · by_cases hc : (c == 1 || c == 2) = true
    · have hok : Ky.ok p c = true := by unfold Ky.ok; rw [hp, hc]; rfl
      have hk : Ky.key p c = Ky.it 4 (2 * p + c) := by unfold Ky.key; rw [if_pos hok]
      obtain ⟨p1, p2, c1⟩ := Ky.ok_iff.1 hok
      have c0 : 1 ≤ c := by omega
      have c2 : c ≤ 2 := by omega
      have Hk := Lib.hid hk
      have Hp := Lib.hid hp
      have Hc := Lib.hid hc
      clear hk hp hc hok c1
      go_enter Tryd.func21, Tryd.ntmps21
      go_wp2_with fail
      refine (i_point _ _ _).mono ?_
      rintro e y ⟨rfl, rfl⟩
      rw [Hp.out]
      go_wp2_with fail
      refine (i_kstone _ _).mono ?_
      rintro e y ⟨rfl, rfl⟩
      rw [Hc.out]
      obtain ⟨X, hX⟩ : ∃ X, 2 * p + c = X := ⟨_, rfl⟩
      have x0 : 0 ≤ X := by omega
      have x1 : X ≤ 98 := by omega
      rw [hX] at Hk
      go_wp2_with fail
      go_loopg [5, 18] 5 (fun q v5 v18 wr => ∃ k : Nat, k + q = 5 ∧ k ≤ 4 ∧ v5 = .int .i64 (Ky.it k X) ∧ v18 = .int .i64 (k : Nat) ∧ wr = w)
      case atStart => exact ⟨0, by omega, by omega, by rw [← hX]; rfl, rfl, rfl⟩
      case round =>
        obtain ⟨k, hk, hk4, rfl, rfl, rfl⟩ := hrel
        obtain ⟨b0, b1⟩ := Ky.it_bd x0 x1 k
        by_cases hkk : k = 4
        · subst hkk
          have hlt : ¬ (((4 : Nat) : Int)) < 4 := by omega
          clear hX
          go_wp2_with fail
          go_ret
          exact ⟨ret_int Hk.out.symm, rfl⟩
        · have hlt : ((k : Nat) : Int) < 4 := by omega
          obtain ⟨Y, hY⟩ : ∃ Y, Ky.it k X = Y := ⟨_, rfl⟩
          have hYs : Ky.it (k + 1) X = (48271 * Y + 11) % 1048576 := by rw [← hY]; rfl
          have Hs := Lib.hid hYs
          rw [hY] at b0 b1 ⊢
          clear hX hY hYs
          go_wp2_with fail
          go_roundg (4 - k)
          case measure => omega
          case rel => exact ⟨k + 1, by omega, by omega, by first | (rw [Hs.out]; done) | (rw [Hs.out]; rfl) | (rw [Hs.out]; go_num), by go_num, rfl⟩
    · have hc' : (c == 1 || c == 2) = false := by simpa using hc
      have hk : Ky.key p c = -1 := by unfold Ky.key Ky.ok; rw [hc', Bool.and_false, if_neg (by decide)]
      have Hk := Lib.hid hk
      have Hp := Lib.hid hp
      have Hc := Lib.hid hc'
      clear hk hp hc hc'
      go_enter Tryd.func21, Tryd.ntmps21
      go_wp2_with fail
      refine (i_point _ _ _).mono ?_
      rintro e y ⟨rfl, rfl⟩
      rw [Hp.out]
      go_wp2_with fail
      refine (i_kstone _ _).mono ?_
      rintro e y ⟨rfl, rfl⟩
      rw [Hc.out]
      go_wp2_with fail
      go_ret
      exact ⟨ret_int Hk.out.symm, rfl⟩
  · have hp' : Pt.okP 7 p = false := by simpa using hp
    have hk : Ky.key p c = -1 := by unfold Ky.key Ky.ok; rw [hp', Bool.false_and, if_neg (by decide)]
    have Hk := Lib.hid hk
    have Hp := Lib.hid hp'
    clear hk hp hp'
    go_enter Tryd.func21, Tryd.ntmps21
    go_wp2_with fail
    refine (i_point _ _ _).mono ?_
    rintro e y ⟨rfl, rfl⟩
    rw [Hp.out]
    go_wp2_with fail
    go_ret
    exact ⟨ret_int Hk.out.symm, rfl⟩
theorem s_key0 (p c : Int) (w : World) (p1 : 0 ≤ p) (p2 : p ≤ 48) (c0 : 1 ≤ c) (c2 : c ≤ 2) : Calls Tryd.prog 72 #[.int .i64 p, .int .i64 c] w fun e w' => e = .returned (.int .i64 (Ky.it 4 (2 * p + c))) ∧ w = w' := by
  obtain ⟨X, hX⟩ : ∃ X, 2 * p + c = X := ⟨_, rfl⟩
  have x0 : 0 ≤ X := by omega
  have x1 : X ≤ 98 := by omega
  have HX := Lib.hid hX
  go_enter Tryd.func72, Tryd.ntmps72
  go_wp2_with fail
  go_loopg [5, 6] 5 (fun q v5 v18 wr => ∃ k : Nat, k + q = 5 ∧ k ≤ 4 ∧ v5 = .int .i64 (Ky.it k X) ∧ v18 = .int .i64 (k : Nat) ∧ wr = w)
  case atStart => exact ⟨0, by omega, by omega, by rw [← hX]; rfl, rfl, rfl⟩
  case round =>
    obtain ⟨k, hk, hk4, rfl, rfl, rfl⟩ := hrel
    obtain ⟨b0, b1⟩ := Ky.it_bd x0 x1 k
    by_cases hkk : k = 4
    · subst hkk
      have hlt : ¬ (((4 : Nat) : Int)) < 4 := by omega
      clear hX
      go_wp2_with fail
      go_ret
      exact ⟨ret_int (by rw [HX.out]), rfl⟩
    · have hlt : ((k : Nat) : Int) < 4 := by omega
      obtain ⟨Y, hY⟩ : ∃ Y, Ky.it k X = Y := ⟨_, rfl⟩
      have hYs : Ky.it (k + 1) X = (48271 * Y + 11) % 1048576 := by rw [← hY]; rfl
      have Hs := Lib.hid hYs
      rw [hY] at b0 b1 ⊢
      clear hX hY hYs
      go_wp2_with fail
      go_roundg (4 - k)
      case measure => omega
      case rel => exact ⟨k + 1, by omega, by omega, by first | (rw [Hs.out]; done) | (rw [Hs.out, Int.mul_comm 48271]; done) | (rw [Hs.out]; go_num), by go_num, rfl⟩
end Go.Proofs.YteldfjibmaigiaaDoor

namespace Go.Proofs.YteldfjibmaigiaaDoor
set_option maxRecDepth 100000
open Go.RowKit

def Ha.xr (a b : Int) : Int := ((a.toNat ^^^ b.toNat : Nat) : Int)
theorem Ha.xr_bd {a b : Int} (a0 : 0 ≤ a) (a1 : a ≤ 1048575) (b0 : 0 ≤ b) (b1 : b ≤ 1048575) : 0 ≤ Ha.xr a b ∧ Ha.xr a b ≤ 1048575 := by
  have : a.toNat ^^^ b.toNat < 2 ^ 20 := Nat.xor_lt_two_pow (by omega) (by omega)
  unfold Ha.xr
  omega
theorem Ha.xor_val {a b : Int} (a0 : 0 ≤ a) (a1 : a ≤ 1048575) (b0 : 0 ≤ b) (b1 : b ≤ 1048575) : bits .xor .i64 a b = Ha.xr a b := by
  obtain ⟨x, rfl⟩ := Int.eq_ofNat_of_zero_le a0
  obtain ⟨y, rfl⟩ := Int.eq_ofNat_of_zero_le b0
  have hx : x ^^^ y < 2 ^ 20 := Nat.xor_lt_two_pow (by omega) (by omega)
  have h1 : (BitVec.ofInt 64 (x : Int)).toNat = x := by
    rw [BitVec.ofInt_natCast, BitVec.toNat_ofNat]; exact Nat.mod_eq_of_lt (by omega)
  have h2 : (BitVec.ofInt 64 (y : Int)).toNat = y := by
    rw [BitVec.ofInt_natCast, BitVec.toNat_ofNat]; exact Nat.mod_eq_of_lt (by omega)
  show IntKind.i64.wrap ((BitVec.ofInt 64 (x : Int) ^^^ BitVec.ofInt 64 (y : Int)).toNat : Int) = ((((x : Int).toNat ^^^ (y : Int).toNat : Nat)) : Int)
  rw [BitVec.toNat_xor, h1, h2, IntKind.wrap_i64, Int.toNat_natCast, Int.toNat_natCast]
  omega
theorem Ha.xr_swap (a b c : Int) : Ha.xr (Ha.xr a b) c = Ha.xr (Ha.xr a c) b := by
  unfold Ha.xr
  rw [Int.toNat_natCast, Int.toNat_natCast, Nat.xor_assoc, Nat.xor_assoc, Nat.xor_comm b.toNat]
/-- The keys of the stones at the first k points. -/
def Ha.upto (cs : List Int) : Nat → Int
  | 0 => 0
  | k + 1 => if cs.getD k 0 = 0 then Ha.upto cs k else Ha.xr (Ha.upto cs k) (Ky.key (k : Int) (cs.getD k 0))
theorem Ha.next (cs : List Int) (k : Nat) : Ha.upto cs (k + 1) = if cs.getD k 0 = 0 then Ha.upto cs k else Ha.xr (Ha.upto cs k) (Ky.key (k : Int) (cs.getD k 0)) := rfl
theorem Ha.bd {cs : List Int} (hv : ∀ x ∈ cs, 0 ≤ x ∧ x ≤ 2) : ∀ k, k ≤ 49 → k ≤ cs.length → 0 ≤ Ha.upto cs k ∧ Ha.upto cs k ≤ 1048575
  | 0, _, _ => by simp [Ha.upto]
  | k + 1, h49, hl => by
    have ih := Ha.bd hv k (by omega) (by omega)
    rw [Ha.next]
    split
    · exact ih
    · next h0 =>
      have hx : cs.getD k 0 ∈ cs := by
        rw [List.getD_eq_getElem?_getD, List.getElem?_eq_getElem (show k < cs.length by omega)]
        exact List.getElem_mem _
      have hb := hv _ hx
      have hk := Ky.key_bd (p := (k : Int)) (c := cs.getD k 0) (Ky.ok_iff.2 (by omega))
      exact Ha.xr_bd ih.1 ih.2 hk.1 hk.2
theorem Ha.zero (n : Nat) : ∀ k, Ha.upto (List.replicate n 0) k = 0
  | 0 => rfl
  | k + 1 => by
    rw [Ha.next, if_pos, Ha.zero n k]
    by_cases h : k < n <;> simp [List.getD_eq_getElem?_getD, h]
/-- One stone more. -/
theorem Ha.more {cs : List Int} {p : Nat} {c : Int} (hp : p < cs.length) (h0 : cs.getD p 0 = 0) (hc : c ≠ 0) : ∀ k, (k ≤ p → Ha.upto (cs.set p c) k = Ha.upto cs k) ∧ (p < k → Ha.upto (cs.set p c) k = Ha.xr (Ha.upto cs k) (Ky.key (p : Int) c))
  | 0 => ⟨fun _ => rfl, fun h => absurd h (by omega)⟩
  | k + 1 => by
    have ih := Ha.more hp h0 hc k
    refine ⟨fun h => ?_, fun h => ?_⟩
    · have hk : (cs.set p c).getD k 0 = cs.getD k 0 := by
        simp [List.getD_eq_getElem?_getD, show p ≠ k by omega]
      rw [Ha.next, Ha.next, hk, ih.1 (by omega)]
    · by_cases hkp : k = p
      · subst hkp
        have hk : (cs.set k c).getD k 0 = c := by
          simp [List.getD_eq_getElem?_getD, hp]
        rw [Ha.next, Ha.next, hk, if_neg hc, if_pos h0, ih.1 (Nat.le_refl _)]
      · have hk : (cs.set p c).getD k 0 = cs.getD k 0 := by
          simp [List.getD_eq_getElem?_getD, show p ≠ k by omega]
        rw [Ha.next, Ha.next, hk, ih.2 (by omega)]
        split
        · rfl
        · exact Ha.xr_swap _ _ _
/-- What HashOf answers. -/
def Ha.ans (s : Int) (cs : List Int) : Int := if Bd.okB s cs = true then Ha.upto cs cs.length else -1
end Go.Proofs.YteldfjibmaigiaaDoor

namespace Go.Proofs.YteldfjibmaigiaaDoor
set_option maxRecDepth 100000
open Go.RowKit

theorem Ha.xr_back {a b : Int} (a0 : 0 ≤ a) : Ha.xr (Ha.xr a b) b = a := by
  unfold Ha.xr
  rw [Int.toNat_natCast, Nat.xor_assoc, Nat.xor_self, Nat.xor_zero]
  omega
/-- The hash behind the first k of the stones that are taken from a board. -/
def Ha.rm (ps gs : List Int) (h : Int) : Nat → Int
  | 0 => h
  | k + 1 => Ha.xr (Ha.rm ps gs h k) (Ky.key (gs.getD k 0) (ps.getD (gs.getD k 0).toNat 0))
/-- The board behind the first k of them. -/
def Ha.off (ps gs : List Int) : Nat → List Int
  | 0 => ps
  | k + 1 => (Ha.off ps gs k).set (gs.getD k 0).toNat 0
theorem Ha.off_len (ps gs : List Int) : ∀ k, (Ha.off ps gs k).length = ps.length
  | 0 => rfl
  | k + 1 => by
    rw [show Ha.off ps gs (k + 1) = (Ha.off ps gs k).set (gs.getD k 0).toNat 0 from rfl, List.length_set]
    exact Ha.off_len ps gs k
theorem Ha.off_at (ps gs : List Int) {j : Nat} (hj : j < ps.length) : ∀ k, (Ha.off ps gs k).getD j 0 = if ∃ i, i < k ∧ (gs.getD i 0).toNat = j then 0 else ps.getD j 0
  | 0 => by rw [if_neg (by rintro ⟨i, hi, _⟩; omega)]; rfl
  | k + 1 => by
    have ih := Ha.off_at ps gs hj k
    have hl := Ha.off_len ps gs k
    rw [show Ha.off ps gs (k + 1) = (Ha.off ps gs k).set (gs.getD k 0).toNat 0 from rfl]
    by_cases h : (gs.getD k 0).toNat = j
    · rw [if_pos ⟨k, by omega, h⟩, h, List.getD_eq_getElem?_getD, List.getElem?_set_self (by omega)]
      rfl
    · rw [List.getD_eq_getElem?_getD, List.getElem?_set_ne h, ← List.getD_eq_getElem?_getD, ih]
      by_cases he : ∃ i, i < k ∧ (gs.getD i 0).toNat = j
      · obtain ⟨i, hi, e⟩ := he
        rw [if_pos ⟨i, hi, e⟩, if_pos ⟨i, by omega, e⟩]
      · rw [if_neg he, if_neg]
        rintro ⟨i, hi, e⟩
        by_cases hik : i = k
        · exact h (by rw [← hik]; exact e)
        · exact he ⟨i, by omega, e⟩
theorem Ha.off_okv {ps gs : List Int} (hv : ∀ x ∈ ps, 0 ≤ x ∧ x ≤ 2) : ∀ k, ∀ x ∈ Ha.off ps gs k, 0 ≤ x ∧ x ≤ 2
  | 0 => hv
  | k + 1 => by
    intro x hx
    rcases List.mem_or_eq_of_mem_set hx with h | rfl
    · exact Ha.off_okv hv k x h
    · omega
/-- Stones that are taken from a board, each once. -/
theorem Ha.taken {ps gs : List Int} {n : Nat} (hl : ps.length = n) (hn : n ≤ 49) (hv : ∀ x ∈ ps, 0 ≤ x ∧ x ≤ 2) (hin : ∀ i, i < gs.length → 0 ≤ gs.getD i 0 ∧ gs.getD i 0 < n ∧ ps.getD (gs.getD i 0).toNat 0 ≠ 0)
    (hd : ∀ i k, i < k → k < gs.length → gs.getD i 0 ≠ gs.getD k 0) : ∀ k, k ≤ gs.length → Ha.upto (Ha.off ps gs k) n = Ha.rm ps gs (Ha.upto ps n) k
  | 0, _ => rfl
  | k + 1, hk => by
    have ih := Ha.taken hl hn hv hin hd k (by omega)
    obtain ⟨g0, g1, g2⟩ := hin k (by omega)
    obtain ⟨j, hj⟩ := Int.eq_ofNat_of_zero_le g0
    have hjn : j < n := by omega
    have hol := Ha.off_len ps gs k
    have hat := Ha.off_at ps gs (j := j) (by omega) k
    rw [if_neg (by
      rintro ⟨i, hi, e⟩
      have := hd i k hi (by omega)
      have := (hin i (by omega)).1
      omega)] at hat
    rw [show Ha.rm ps gs (Ha.upto ps n) (k + 1) = Ha.xr (Ha.rm ps gs (Ha.upto ps n) k) (Ky.key (gs.getD k 0) (ps.getD (gs.getD k 0).toNat 0)) from rfl, ← ih, show Ha.off ps gs (k + 1) = (Ha.off ps gs k).set (gs.getD k 0).toNat 0 from rfl]
    rw [hj, Int.toNat_natCast] at g2 ⊢
    obtain ⟨c, hc⟩ : ∃ c, ps.getD j 0 = c := ⟨_, rfl⟩
    rw [hc] at g2 hat ⊢
    have hback : ((Ha.off ps gs k).set j 0).set j c = Ha.off ps gs k := by
      rw [List.set_set]
      apply List.ext_getElem (by rw [List.length_set])
      intro i h1 h2
      by_cases hij : j = i
      · subst hij
        rw [List.getElem_set_self]
        rw [List.getD_eq_getElem?_getD, List.getElem?_eq_getElem h2] at hat
        exact hat.symm
      · rw [List.getElem_set_ne hij]
    have hm := (Ha.more (cs := (Ha.off ps gs k).set j 0) (p := j) (c := c) (by rw [List.length_set]; omega) (by rw [List.getD_eq_getElem?_getD, List.getElem?_set_self (by omega)]; rfl) g2 n).2 hjn
    rw [hback] at hm
    rw [hm]
    refine (Ha.xr_back ?_).symm
    refine (Ha.bd ?_ n hn (by rw [List.length_set]; omega)).1
    intro x hx
    rcases List.mem_or_eq_of_mem_set hx with h | rfl
    · exact Ha.off_okv hv k x h
    · omega
theorem Ha.off_all {ps gs os : List Int} (hl : os.length = ps.length) (hpos : ∀ i, i < gs.length → 0 ≤ gs.getD i 0) (hat : ∀ j : Nat, j < ps.length → os.getD j 0 = if (j : Int) ∈ gs then 0 else ps.getD j 0) : Ha.off ps gs gs.length = os := by
  have h1 := Ha.off_len ps gs gs.length
  apply List.ext_getElem (by omega)
  intro j hj hj2
  have hjp : j < ps.length := by omega
  have e1 := Ha.off_at ps gs hjp gs.length
  have e2 := hat j hjp
  rw [List.getD_eq_getElem?_getD, List.getElem?_eq_getElem hj] at e1
  rw [List.getD_eq_getElem?_getD, List.getElem?_eq_getElem hj2] at e2
  simp only [Option.getD_some] at e1 e2
  rw [e1, e2]
  have hiff : (∃ i, i < gs.length ∧ (gs.getD i 0).toNat = j) ↔ (j : Int) ∈ gs := by
    constructor
    · rintro ⟨i, hi, e⟩
      have := hpos i hi
      have e3 : gs.getD i 0 = (j : Int) := by omega
      rw [← e3, List.getD_eq_getElem?_getD, List.getElem?_eq_getElem hi]
      exact List.getElem_mem _
    · intro hm
      obtain ⟨i, hi, e⟩ := List.mem_iff_getElem.1 hm
      refine ⟨i, hi, ?_⟩
      rw [List.getD_eq_getElem?_getD, List.getElem?_eq_getElem hi]
      simp only [Option.getD_some]
      omega
  by_cases h : (j : Int) ∈ gs
  · rw [if_pos h, if_pos (hiff.2 h)]
  · rw [if_neg h, if_neg (fun h2 => h (hiff.1 h2))]
end Go.Proofs.YteldfjibmaigiaaDoor

namespace Go.Proofs.YteldfjibmaigiaaDoor
set_option maxRecDepth 100000
open Go.RowKit

/-- The model's answer in memory. -/
def AnswS (s : Int) (n : Nat) (R : Option (List Int × List Int)) (w : World) (e : Ending) (w' : World) : Prop :=
  (R = none ∧ e = .returned (.tuple #[.agg #[.int .i64 0, .slice none 0 0], .slice none 0 0, .bool false]) ∧ Below w.heap.size w w') ∨
  ∃ os gs A1 c1 A2 n2 c2, R = some (os, gs) ∧ e = .returned (.tuple #[.agg #[.int .i64 s, .slice A1 n c1], .slice A2 n2 c2, .bool true]) ∧ Own w' w.heap.size A1 n c1 os ∧ Own w' w.heap.size A2 n2 c2 gs ∧ Below w.heap.size w w'

section
variable (s x p : Int) (su : Bool) (w : World) (B : Nat) (A : Option Addr) (n c : Nat) (cs : List Int) (R : Option (List Int × List Int)) (h : Ints w B A n cs) (hB : B ≤ w.heap.size) (hn : n ≤ 1000000000) (hR : PlB s n cs x p su R)
include h hB hn hR

set_option maxRecDepth 100000 in
set_option maxHeartbeats 8000000 in
theorem s_PlayB : Calls Tryd.prog 8 #[.agg #[.int .i64 s, .slice A n c], .int .i64 x, .int .i64 p, .bool su] w (AnswS s n R w) := by
  have hl := h.1
  obtain ⟨b1, r1⟩ : ∃ b, Bd.okB s cs = b := ⟨_, rfl⟩
  obtain ⟨b2, r2⟩ : ∃ b, (decide (1 ≤ x) && decide (x ≤ 2)) = b := ⟨_, rfl⟩
  obtain ⟨b3, r3⟩ : ∃ b, Pt.okP s p = b := ⟨_, rfl⟩
  have He1 := Lib.hid r1
  have He2 := Lib.hid r2
  have He3 := Lib.hid r3
  have e1 : (w.alloc (.cells #[.int .i64 s, .slice A n c] 25)).heap.size = w.heap.size + 1 := by simp
  have x0 := (Bx.new 25 w s (.slice A n c)).alloc (.cells #[.int .i64 0, .slice none 0 0] 25)
  have xx := Bx.new 25 (w.alloc (.cells #[.int .i64 s, .slice A n c] 25)) 0 (.slice none 0 0)
  rw [e1] at xx
  have hb2 : Below w.heap.size w ((w.alloc (.cells #[.int .i64 s, .slice A n c] 25)).alloc (.cells #[.int .i64 0, .slice none 0 0] 25)) := ((Below.refl _ _).alloc (Nat.le_refl _) _).alloc (by simp) _
  have H := Lib.hid (h.below hb2 hB)
  have X0 := Lib.hid x0
  have X1 := Lib.hid xx
  have Hb := Lib.hid hb2
  clear e1 x0 xx hb2
  cases b1
  · have HR : Hid (R = none) := Lib.hid (by unfold PlB at hR; rw [if_neg (by rintro ⟨h, _⟩; rw [r1] at h; cases h)] at hR; exact hR)
    clear hR r1 r2 r3 hl h
    go_enter Tryd.func8, Tryd.ntmps8
    go_wp2_with fail
    refine (s_validBoard _ _ _ _ _ _ _ H.out (by simp; omega) hn).mono ?_
    rintro e y ⟨rfl, hb⟩
    have X0 := Lib.hid (X0.out.below hb X0.out.lt)
    have X1 := Lib.hid (X1.out.below hb X1.out.lt)
    have H := Lib.hid (H.out.below hb (by simp; omega))
    have Hb := Lib.hid (Hb.out.trans (hb.mono (by simp; omega)))
    clear hb
    rw [He1.out]
    have c0 := X1.out.cell0
    have c1 := X1.out.cell1
    have f0 := X1.out.frozen 0
    have f1 := X1.out.frozen 1
    have l1 := X1.out.lt
    have K0 := Lib.hid ((X1.out.set0 0).cell0)
    have K1 := Lib.hid (((X1.out.set0 0).set1 (.slice none 0 0)).cell1)
    have Hb3 := Lib.hid ((Hb.out.setCell (p := ⟨w.heap.size + 1, 0, none⟩) (by show w.heap.size ≤ w.heap.size + 1; omega) (.int .i64 0)).setCell (p := ⟨w.heap.size + 1, 1, none⟩) (by show w.heap.size ≤ w.heap.size + 1; omega) (.slice none 0 0))
    clear X1
    go_wp2_with fail
    have k0 := K0.out
    have k1 := K1.out
    refine bodyPost_ret (v := .tuple #[.agg #[.int .i64 0, .slice none 0 0], .slice none 0 0, .bool false]) (by simp [results, Tryd.results8, go_sem, k0, k1]) rfl ?_
    exact .inl ⟨by first | exact HR.out | rfl, rfl, Hb3.out⟩
  · cases b2
    · have HR : Hid (R = none) := Lib.hid (by unfold PlB at hR; rw [if_neg (by rintro ⟨_, ⟨h1, h2⟩, _⟩; rw [decide_eq_true h1, decide_eq_true h2] at r2; cases r2)] at hR; exact hR)
      clear hR r1 r2 r3 hl h
      go_enter Tryd.func8, Tryd.ntmps8
      go_wp2_with fail
      refine (s_validBoard _ _ _ _ _ _ _ H.out (by simp; omega) hn).mono ?_
      rintro e y ⟨rfl, hb⟩
      have X0 := Lib.hid (X0.out.below hb X0.out.lt)
      have X1 := Lib.hid (X1.out.below hb X1.out.lt)
      have H := Lib.hid (H.out.below hb (by simp; omega))
      have Hb := Lib.hid (Hb.out.trans (hb.mono (by simp; omega)))
      clear hb
      rw [He1.out]
      have v0 := X0.out.cell0
      have v1 := X0.out.cell1
      have v2 := X0.out.lt
      go_wp2_with fail
      refine (s_vcolor _ _).mono ?_
      rintro e w' ⟨rfl, rfl⟩
      rw [He2.out]
      clear v0 v1 v2
      have c0 := X1.out.cell0
      have c1 := X1.out.cell1
      have f0 := X1.out.frozen 0
      have f1 := X1.out.frozen 1
      have l1 := X1.out.lt
      have K0 := Lib.hid ((X1.out.set0 0).cell0)
      have K1 := Lib.hid (((X1.out.set0 0).set1 (.slice none 0 0)).cell1)
      have Hb3 := Lib.hid ((Hb.out.setCell (p := ⟨w.heap.size + 1, 0, none⟩) (by show w.heap.size ≤ w.heap.size + 1; omega) (.int .i64 0)).setCell (p := ⟨w.heap.size + 1, 1, none⟩) (by show w.heap.size ≤ w.heap.size + 1; omega) (.slice none 0 0))
      clear X1
      go_wp2_with fail
      have k0 := K0.out
      have k1 := K1.out
      refine bodyPost_ret (v := .tuple #[.agg #[.int .i64 0, .slice none 0 0], .slice none 0 0, .bool false]) (by simp [results, Tryd.results8, go_sem, k0, k1]) rfl ?_
      exact .inl ⟨by first | exact HR.out | rfl, rfl, Hb3.out⟩
    · cases b3
      · have HR : Hid (R = none) := Lib.hid (by unfold PlB at hR; rw [if_neg (by rintro ⟨_, _, h⟩; rw [r3] at h; cases h)] at hR; exact hR)
        obtain ⟨q1, q2, _, _⟩ := (Bd.okB_iff s cs).1 r1
        clear hR r1 r2 r3 hl h
        go_enter Tryd.func8, Tryd.ntmps8
        go_wp2_with fail
        refine (s_validBoard _ _ _ _ _ _ _ H.out (by simp; omega) hn).mono ?_
        rintro e y ⟨rfl, hb⟩
        have X0 := Lib.hid (X0.out.below hb X0.out.lt)
        have X1 := Lib.hid (X1.out.below hb X1.out.lt)
        have H := Lib.hid (H.out.below hb (by simp; omega))
        have Hb := Lib.hid (Hb.out.trans (hb.mono (by simp; omega)))
        clear hb
        rw [He1.out]
        have v0 := X0.out.cell0
        have v1 := X0.out.cell1
        have v2 := X0.out.lt
        go_wp2_with fail
        refine (s_vcolor _ _).mono ?_
        rintro e w' ⟨rfl, rfl⟩
        rw [He2.out]
        go_wp2_with fail
        refine (s_vptB _ _ _ q1 q2).mono ?_
        rintro e w' ⟨rfl, rfl⟩
        rw [He3.out]
        clear v0 v1 v2
        have c0 := X1.out.cell0
        have c1 := X1.out.cell1
        have f0 := X1.out.frozen 0
        have f1 := X1.out.frozen 1
        have l1 := X1.out.lt
        have K0 := Lib.hid ((X1.out.set0 0).cell0)
        have K1 := Lib.hid (((X1.out.set0 0).set1 (.slice none 0 0)).cell1)
        have Hb3 := Lib.hid ((Hb.out.setCell (p := ⟨w.heap.size + 1, 0, none⟩) (by show w.heap.size ≤ w.heap.size + 1; omega) (.int .i64 0)).setCell (p := ⟨w.heap.size + 1, 1, none⟩) (by show w.heap.size ≤ w.heap.size + 1; omega) (.slice none 0 0))
        clear X1
        go_wp2_with fail
        have k0 := K0.out
        have k1 := K1.out
        refine bodyPost_ret (v := .tuple #[.agg #[.int .i64 0, .slice none 0 0], .slice none 0 0, .bool false]) (by simp [results, Tryd.results8, go_sem, k0, k1]) rfl ?_
        exact .inl ⟨by first | exact HR.out | rfl, rfl, Hb3.out⟩
      · clear H X0 X1 Hb
        rw [Bool.and_eq_true, decide_eq_true_eq, decide_eq_true_eq] at r2
        obtain ⟨x1, x2⟩ := r2
        obtain ⟨q1, q2, q3, q4⟩ := (Bd.okB_iff s cs).1 r1
        obtain ⟨_, _, p0, pn⟩ := (Pt.okP_iff s p).1 r3
        obtain ⟨q, rfl⟩ := Int.eq_ofNat_of_zero_le (show 0 ≤ p by omega)
        have hpl : Plays s n cs x q su R := by
          unfold PlB at hR
          rw [if_pos ⟨r1, ⟨x1, x2⟩, r3⟩] at hR
          exact hR
        have hqn : q < n := by omega
        refine (s_PlayStone s x q su w B A n c cs h hB r1 hqn x1 x2).mono ?_
        rintro e w' (⟨h0, rfl, hb⟩ | ⟨os, gs, A1, c1, A2, n2, c2, hR', rfl, ho, hg, hb⟩)
        · exact .inl ⟨hpl.one h0, rfl, hb⟩
        · exact .inr ⟨os, gs, A1, c1, A2, n2, c2, hpl.one hR', rfl, ho, hg, hb⟩
end
end Go.Proofs.YteldfjibmaigiaaDoor

namespace Go.Proofs.YteldfjibmaigiaaDoor
set_option maxRecDepth 100000
open Go.RowKit

def vS (s : Int) (R : Option (List Int × List Int)) : Int := if R.isSome then s else 0
def vC (R : Option (List Int × List Int)) : List Int := (R.map (·.1)).getD []
def vG (R : Option (List Int × List Int)) : List Int := (R.map (·.2)).getD []

/-- The parts of an answer. -/
structure View (s : Int) (R : Option (List Int × List Int)) (rs : Int) (rc rg : List Int) (ok : Bool) : Prop where
  s : vS s R = rs
  c : vC R = rc
  g : vG R = rg
  o : R.isSome = ok

section
variable (s x p : Int) (su : Bool) (w : World) (B : Nat) (A : Option Addr) (n c : Nat) (cs : List Int) (R : Option (List Int × List Int)) (rs : Int) (rc rg : List Int) (ok : Bool) (h : Ints w B A n cs) (hB : B ≤ w.heap.size) (hn : n ≤ 1000000000) (hR : Hid (PlB s n cs x p su R)) (hV : Hid (View s R rs rc rg ok))
include h hB hn hR hV

theorem s_PlV : Calls Tryd.prog 8 #[.agg #[.int .i64 s, .slice A n c], .int .i64 x, .int .i64 p, .bool su] w fun e w' => ∃ A1 n1 c1 A2 n2 c2, e = .returned (.tuple #[.agg #[.int .i64 rs, .slice A1 n1 c1], .slice A2 n2 c2, .bool ok]) ∧ (Own w' w.heap.size A1 n1 c1 rc ∧ Own w' w.heap.size A2 n2 c2 rg) ∧ Below w.heap.size w w' := by
  obtain ⟨rfl, rfl, rfl, rfl⟩ := hV.out
  refine (s_PlayB s x p su w B A n c cs R h hB hn hR.out).mono ?_
  rintro e w' (⟨rfl, rfl, hb⟩ | ⟨os, gs, A1, c1, A2, n2, c2, rfl, rfl, ho, hg, hb⟩)
  · exact ⟨none, 0, 0, none, 0, 0, rfl, ⟨Own.nil _ _, Own.nil _ _⟩, hb⟩
  · exact ⟨_, _, _, _, _, _, rfl, ⟨ho, hg⟩, hb⟩
theorem i_PlV (ht : Tab w) (he : ErrW w) : Calls Tryd.prog 7 #[.agg #[.int .i64 s, .slice A n c], .int .i64 x, .int .i64 p, .bool su] w fun e w' => ∃ A1 n1 c1 A2 n2 c2 mid, e = .returned (.tuple #[.agg #[.int .i64 rs, .slice A1 n1 c1], .slice A2 n2 c2, .bool ok]) ∧ Own w' w.heap.size A1 n1 c1 rc ∧ (∀ g, A1 = some ⟨g, 0, none⟩ → g < mid) ∧ Own w' mid A2 n2 c2 rg ∧ w.heap.size ≤ mid ∧ mid ≤ w'.heap.size ∧ Below w.heap.size w w' := by
  obtain ⟨rfl, rfl, rfl, rfl⟩ := hV.out
  refine (i_PlayB s x p su w B A n c cs R h hB hn ht he hR.out).mono ?_
  rintro e w' (⟨rfl, rfl, hb⟩ | ⟨os, gs, A1, c1, A2, n2, c2, mid, rfl, rfl, ho, hlt, hg, h1, h2, hb⟩)
  · exact ⟨none, 0, 0, none, 0, 0, w.heap.size, rfl, Own.nil _ _, (fun g e => by cases e), Own.nil _ _, Nat.le_refl _, hb.size, hb⟩
  · exact ⟨_, _, _, _, _, _, mid, rfl, ho, hlt, hg, h1, h2, hb⟩
end

theorem Plays.len {s x : Int} {n p : Nat} {cs : List Int} {su : Bool} {os gs : List Int} (h : Plays s n cs x p su (some (os, gs))) : os.length = n ∧ gs.length ≤ n + n := by
  have pl : ∀ S : List Bool, (Fl.pts S n).length ≤ n := fun S => by
    unfold Fl.pts
    rw [List.length_map]
    exact Nat.le_trans (List.length_filter_le _ _) (by simp)
  cases h with
  | lives S _ _ hr _ => exact ⟨hr.olen, by have := pl S; omega⟩
  | both S os1 S2 _ _ k _ hr _ _ hr2 hso hk =>
    refine ⟨hr2.olen, ?_⟩
    have := hso.len
    rw [List.length_append] at this
    have := pl S
    have := pl S2
    omega
theorem PlB.len {s x p : Int} {n : Nat} {cs : List Int} {su : Bool} {R : Option (List Int × List Int)} (h : PlB s n cs x p su R) (hn : n ≤ 1048576) : (vC R).length ≤ 1048576 ∧ (vG R).length ≤ 2097152 := by
  cases R with
  | none => exact ⟨by simp [vC], by simp [vG]⟩
  | some r =>
    obtain ⟨os, gs⟩ := r
    unfold PlB at h
    split at h
    · have := h.len
      exact ⟨by show os.length ≤ _; omega, by show gs.length ≤ _; omega⟩
    · cases h
end Go.Proofs.YteldfjibmaigiaaDoor

namespace Go.Proofs.YteldfjibmaigiaaDoor
set_option maxRecDepth 100000
open Go.RowKit

theorem Hb.pin {S : List Bool} {n q : Nat} (hq : q < n) : (q : Int) ∈ Fl.pts S n ↔ S.getD q false = true := by
  rw [pts_mem]
  unfold Fl.at_
  constructor
  · rintro ⟨_, _, h⟩; simpa using h
  · intro h; exact ⟨by omega, by omega, by simpa using h⟩
theorem Hb.sat {cs : List Int} {n p q : Nat} {x : Int} (hl : cs.length = n) (hp : p < n) : (cs.set p x).getD q 0 = if q = p then x else cs.getD q 0 := Un.getD_set _ _ _ _ (by omega)
theorem Hb.out {s x : Int} {n p : Nat} {cs : List Int} {su : Bool} {os gs : List Int} (h : Plays s n cs x p su (some (os, gs))) {q : Nat} (hq : q < n) :
    os.getD q 0 = if (q : Int) ∈ gs then 0 else (cs.set p x).getD q 0 := by
  cases h with
  | lives S _ h0 hr _ =>
    rw [hr.out q hq]
    by_cases e : S.getD q false = true
    · rw [if_pos e, if_pos ((Hb.pin hq).2 e)]
    · rw [if_neg e, if_neg fun h => e ((Hb.pin hq).1 h)]
  | both S os1 S2 _ _ j h0 hr _ hs hr2 hso hk =>
    have hm : (q : Int) ∈ gs ↔ S.getD q false = true ∨ S2.getD q false = true := by
      rw [hso.perm.mem_iff, List.mem_append, Hb.pin hq, Hb.pin hq]
    rw [hr2.out q hq, hr.out q hq]
    by_cases e2 : S2.getD q false = true
    · rw [if_pos e2, if_pos (hm.2 (.inr e2))]
    · rw [if_neg e2]
      by_cases e : S.getD q false = true
      · rw [if_pos e, if_pos (hm.2 (.inl e))]
      · rw [if_neg e, if_neg fun h => (hm.1 h).elim e e2]
/-- Only stones are removed. -/
theorem Hb.on {s x : Int} {n p : Nat} {cs : List Int} {su : Bool} {os gs : List Int} (h : Plays s n cs x p su (some (os, gs))) (x1 : 1 ≤ x) (x2 : x ≤ 2) {y : Int} (hy : y ∈ gs) : ∃ q : Nat, y = q ∧ q < n ∧ (cs.set p x).getD q 0 ≠ 0 := by
  have ho : oth x ≠ 0 := by
    have : x = 1 ∨ x = 2 := by omega
    rcases this with rfl | rfl <;> decide
  have nat : ∀ S : List Bool, y ∈ Fl.pts S n → ∃ q : Nat, y = q ∧ q < n ∧ S.getD q false = true := fun S h => by
    have h' := h
    rw [pts_mem] at h
    obtain ⟨h1, h2, _⟩ := h
    obtain ⟨q, rfl⟩ := Int.eq_ofNat_of_zero_le h1
    exact ⟨q, rfl, by omega, (Hb.pin (by omega)).1 h'⟩
  cases h with
  | lives S _ h0 hr _ =>
    obtain ⟨q, rfl, hq, hS⟩ := nat S hy
    have := ((hr.yes q hq).1 hS).2.1
    exact ⟨q, rfl, hq, by rw [this]; exact ho⟩
  | both S os1 S2 _ _ j h0 hr _ hs hr2 hso hk =>
    rw [hso.perm.mem_iff, List.mem_append] at hy
    rcases hy with hy | hy
    · obtain ⟨q, rfl, hq, hS⟩ := nat S hy
      have := ((hr.yes q hq).1 hS).2.1
      exact ⟨q, rfl, hq, by rw [this]; exact ho⟩
    · obtain ⟨q, rfl, hq, hS⟩ := nat S2 hy
      have e1 := ((hr2.yes q hq).1 hS).2.1
      have e2 := hr.out q hq
      refine ⟨q, rfl, hq, ?_⟩
      split at e2
      · omega
      · omega
/-- What is removed is a set. -/
theorem Hb.set {k n p : Nat} {x : Int} {cs : List Int} {su : Bool} {os gs : List Int} (h : Plays (k : Int) n cs x p su (some (os, gs))) (x1 : 1 ≤ x) (x2 : x ≤ 2) : ∃ m, gs = Bt.pts m n := by
  have ho : oth x ≠ 0 := by
    have : x = 1 ∨ x = 2 := by omega
    rcases this with rfl | rfl <;> decide
  have hxo := oth_ne x1 x2
  cases h with
  | lives S _ h0 hr _ =>
    obtain ⟨m, hm⟩ := nl_make hr
    exact ⟨m, (hm.pts hr).symm⟩
  | both S os1 S2 _ _ j h0 hr _ hs hr2 hso hk =>
    obtain ⟨m, hm⟩ := nl_make hr
    obtain ⟨m2, hm2⟩ := nl_make hr2
    rw [← hm.pts hr, ← hm2.pts hr2] at hso hk
    refine ⟨m ||| m2, Gw.both (fun q hq a b => ?_) hso hk⟩
    have e1 := hr.out q hq
    rw [← hm.marks hr q hq, a, if_pos rfl] at e1
    have e2 := ((hm2 q).1 b).2.1
    rw [e1] at e2
    omega
theorem Hb.once {k n p : Nat} {x : Int} {cs : List Int} {su : Bool} {os gs : List Int} (h : Plays (k : Int) n cs x p su (some (os, gs))) (x1 : 1 ≤ x) (x2 : x ≤ 2) : ∀ i j, i < j → j < gs.length → gs.getD i 0 ≠ gs.getD j 0 := by
  obtain ⟨m, rfl⟩ := Hb.set h x1 x2
  intro i j hij hj
  have := List.pairwise_iff_getElem.1 (Gw.pts_pair m n) i j (by omega) hj hij
  rw [List.getD_eq_getElem?_getD, List.getD_eq_getElem?_getD, List.getElem?_eq_getElem hj, List.getElem?_eq_getElem (show i < (Bt.pts m n).length by omega)]
  simp only [Option.getD_some]
  omega
theorem Hb.olen {s x : Int} {n p : Nat} {cs : List Int} {su : Bool} {os gs : List Int} (h : Plays s n cs x p su (some (os, gs))) : os.length = n := by
  cases h with
  | lives S _ h0 hr _ => exact hr.olen
  | both S os1 S2 _ _ j h0 hr _ hs hr2 hso hk => exact hr2.olen
theorem Hb.free {s x : Int} {n p : Nat} {cs : List Int} {su : Bool} {r : List Int × List Int} (h : Plays s n cs x p su (some r)) : cs.getD p 0 = 0 := by
  cases h with
  | lives S _ h0 hr _ => exact h0
  | both S os1 S2 _ _ j h0 hr _ hs hr2 hso hk => exact h0
theorem Hb.glen {k n p : Nat} {x : Int} {cs : List Int} {su : Bool} {os gs : List Int} (h : Plays (k : Int) n cs x p su (some (os, gs))) (x1 : 1 ≤ x) (x2 : x ≤ 2) : gs.length ≤ n := by
  obtain ⟨m, rfl⟩ := Hb.set h x1 x2
  unfold Bt.pts
  rw [List.length_map]
  exact Nat.le_trans (List.length_filter_le _ _) (by simp)
theorem Hb.at_ {s x : Int} {n p : Nat} {cs : List Int} {su : Bool} {os gs : List Int} (h : Plays s n cs x p su (some (os, gs))) (x1 : 1 ≤ x) (x2 : x ≤ 2) {i : Nat} (hi : i < gs.length) : 0 ≤ gs.getD i 0 ∧ gs.getD i 0 < n ∧ (cs.set p x).getD (gs.getD i 0).toNat 0 ≠ 0 := by
  have hm : gs.getD i 0 ∈ gs := by
    rw [List.getD_eq_getElem?_getD, List.getElem?_eq_getElem hi]
    exact List.getElem_mem _
  obtain ⟨q, e, hq, h0⟩ := Hb.on h x1 x2 hm
  rw [e]
  exact ⟨by omega, by omega, by rw [Int.toNat_natCast]; exact h0⟩
theorem Hb.hash {k n p : Nat} {x : Int} {cs : List Int} {su : Bool} {os gs : List Int} (h : Plays (k : Int) n cs x p su (some (os, gs))) (hl : cs.length = n) (hn : n ≤ 49) (hv : ∀ c ∈ cs, 0 ≤ c ∧ c ≤ 2) (hp : p < n) (x1 : 1 ≤ x) (x2 : x ≤ 2) :
    Ha.rm (cs.set p x) gs (Ha.xr (Ha.upto cs n) (Ky.key (p : Int) x)) gs.length = Ha.upto os n := by
  have hv2 : ∀ c ∈ cs.set p x, 0 ≤ c ∧ c ≤ 2 := by
    intro c hc
    rcases List.mem_or_eq_of_mem_set hc with h | rfl
    · exact hv c h
    · omega
  have hsl : (cs.set p x).length = n := by rw [List.length_set]; exact hl
  have e1 := Ha.off_all (ps := cs.set p x) (gs := gs) (os := os) (by rw [hsl]; exact Hb.olen h) (fun i hi => (Hb.at_ h x1 x2 hi).1) (fun j hj => Hb.out h (by omega))
  have e2 := Ha.taken (n := n) hsl hn hv2 (fun i hi => Hb.at_ h x1 x2 hi) (Hb.once h x1 x2) gs.length (Nat.le_refl _)
  rw [e1] at e2
  rw [e2, (Ha.more (cs := cs) (p := p) (c := x) (by omega) (Hb.free h) (by omega) n).2 hp]
/-- Every hash on the way is in range. -/
theorem Hb.bd {ps gs : List Int} (hv : ∀ c ∈ ps, 0 ≤ c ∧ c ≤ 2) {n : Nat} (hn : n ≤ 49) {h : Int} (h0 : 0 ≤ h) (h1 : h ≤ 1048575) (hin : ∀ i, i < gs.length → 0 ≤ gs.getD i 0 ∧ gs.getD i 0 < n ∧ ps.getD (gs.getD i 0).toNat 0 ≠ 0) : ∀ k, k ≤ gs.length → 0 ≤ Ha.rm ps gs h k ∧ Ha.rm ps gs h k ≤ 1048575
  | 0, _ => ⟨h0, h1⟩
  | k + 1, hk => by
    obtain ⟨i0, i1⟩ := Hb.bd hv hn h0 h1 hin k (by omega)
    obtain ⟨g0, g1, g2⟩ := hin k (by omega)
    have hm : ps.getD (gs.getD k 0).toNat 0 = 0 ∨ ps.getD (gs.getD k 0).toNat 0 ∈ ps := by
      by_cases hl : (gs.getD k 0).toNat < ps.length
      · right
        rw [List.getD_eq_getElem?_getD, List.getElem?_eq_getElem hl]
        exact List.getElem_mem _
      · left
        rw [List.getD_eq_getElem?_getD, List.getElem?_eq_none (by omega)]
        rfl
    have hm := hv _ (hm.resolve_left g2)
    obtain ⟨k0, k1⟩ := Ky.key_bd (p := gs.getD k 0) (c := ps.getD (gs.getD k 0).toNat 0) (Ky.ok_iff.2 (by omega))
    exact Ha.xr_bd i0 i1 k0 k1
/-- The answer. -/
def Hb.ans (n : Nat) (R : Option (List Int × List Int)) : Int := if R.isSome then Ha.upto (vC R) n else -1
end Go.Proofs.YteldfjibmaigiaaDoor

namespace Go.Proofs.YteldfjibmaigiaaDoor
set_option maxRecDepth 100000
open Go.RowKit

theorem bits_xr {a b : Int} (a0 : 0 ≤ a) (a1 : a ≤ 1048575) (b0 : 0 ≤ b) (b1 : b ≤ 1048575) : bits .xor .i64 a b = Ha.xr a b := Ha.xor_val a0 a1 b0 b1
set_option maxHeartbeats 4000000 in
theorem i_hash (s : Int) (w : World) (B : Nat) (A : Option Addr) (n c : Nat) (cs : List Int) (h : Ints w B A n cs) (hB : B ≤ w.heap.size) (hn : n ≤ 1000000000) : Calls Tryd.prog 20 #[.agg #[.int .i64 s, .slice A n c]] w fun e w' => e = .returned (.int .i64 (Ha.ans s cs)) ∧ Below w.heap.size w w' := by
  have hcl := h.1
  obtain ⟨y1, hy1, hb1, z1, z2⟩ := new_box w (.cells #[.int .i64 s, .slice A n c] 25)
  have X1 := Lib.hid (show Bx 25 y1 w.heap.size s (.slice A n c) by rw [hy1]; exact Bx.new _ _ _ _)
  have I1 := Lib.hid (h.below hb1 hB)
  have HB := Lib.hid hb1
  clear h hb1
  go_enter Tryd.func20, Tryd.ntmps20
  go_upto_region 1 with (fail)
  rw [← hy1]
  clear hy1
  have u0 := X1.out.cell0
  have u1 := X1.out.cell1
  have ul := X1.out.lt
  go_wp2_with fail
  refine (i_validBoard s _ B A n c cs I1.out (by omega) hn).mono ?_
  rintro e y2 ⟨rfl, hb2⟩
  have X1 := Lib.hid (X1.out.below hb2 ul)
  have I1 := Lib.hid (I1.out.below hb2 (by omega))
  have HB := Lib.hid (HB.out.trans (hb2.mono HB.out.size))
  have zhb2 := hb2.size
  clear hb2 u0 u1 ul
  have u0 := X1.out.cell0
  have u1 := X1.out.cell1
  have ul := X1.out.lt
  by_cases hv : Bd.okB s cs = true
  · rw [hv]
    have hf : Ha.ans s cs = Ha.upto cs n := by unfold Ha.ans; rw [if_pos hv, hcl]
    have HF := Lib.hid hf
    obtain ⟨hv1, hv2, hv3, hv4⟩ := (Bd.okB_iff s cs).1 hv
    have hsq := Pt.sq_bd s hv1 hv2
    have hn49 : n ≤ 49 := by omega
    clear hv hf hv3
    go_wp2_with fail
    obtain ⟨Y, hY⟩ : ∃ Y : World, Y = y2 := ⟨_, rfl⟩
    rw [← hY] at X1 I1 HB u0 u1 ul ⊢
    clear hY
    go_loopg [3, 12] (n + 1) (fun q va vb wr => ∃ k : Nat, k + q = n + 1 ∧ k ≤ n ∧ va = .int .i64 (Ha.upto cs k) ∧ vb = .int .i64 (k : Nat) ∧ wr = Y)
    case atStart => exact ⟨0, by omega, by omega, rfl, rfl, rfl⟩
    case round =>
      obtain ⟨k, hk, hkn, rfl, rfl, rfl⟩ := hrel
      obtain ⟨t0, t1⟩ := Ha.bd hv4 k (by omega) (by omega)
      by_cases hkk : k = n
      · subst hkk
        have hlt : ¬ ((k : Nat) : Int) < (k : Nat) := by omega
        go_wp2_with fail
        go_ret
        exact ⟨ret_int HF.out.symm, HB.out⟩
      · have hlt : ((k : Nat) : Int) < n := by omega
        have hk0 : (0 : Int) ≤ (k : Nat) := by omega
        obtain ⟨b, o, rfl, hbB, hc⟩ := I1.out.2.resolve_left (by omega)
        have ck := hc k (by omega)
        have hmem : cs.getD k 0 ∈ cs := by
          rw [List.getD_eq_getElem?_getD, List.getElem?_eq_getElem (show k < cs.length by omega)]
          exact List.getElem_mem _
        obtain ⟨x0, x2⟩ := hv4 _ hmem
        have hnx := Ha.next cs k
        obtain ⟨x, hx⟩ : ∃ x, cs.getD k 0 = x := ⟨_, rfl⟩
        obtain ⟨H, hH⟩ : ∃ H, Ha.upto cs k = H := ⟨_, rfl⟩
        rw [hx] at ck x0 x2 hnx
        rw [hH] at t0 t1 hnx ⊢
        clear hc hmem hx hH
        by_cases h0 : x = 0
        · rw [if_pos h0] at hnx
          have Hn := Lib.hid hnx
          have q0 : (x != 0) = false := by simpa using h0
          clear hnx h0
          go_wp2_with fail
          go_roundg (n - k)
          case measure => omega
          case rel => exact ⟨k + 1, by omega, by omega, by rw [Hn.out], by go_num, rfl⟩
        · rw [if_neg h0] at hnx
          have x1 : 1 ≤ x := by omega
          have hok : Ky.ok (k : Int) x = true := Ky.ok_iff.2 (by omega)
          obtain ⟨y0, y1'⟩ := Ky.key_bd hok
          have hkey : Ky.key (k : Int) x = Ky.it 4 (2 * (k : Int) + x) := by unfold Ky.key; rw [if_pos hok]
          have hxr := Ha.xr_bd t0 t1 y0 y1'
          have hval := bits_xr t0 t1 y0 y1'
          clear hkey; have hkey : True := trivial
          obtain ⟨K, hK⟩ : ∃ K, Ky.key (k : Int) x = K := ⟨_, rfl⟩
          rw [hK] at y0 y1' hxr hval hnx
          obtain ⟨V, hV⟩ : ∃ V, Ha.xr H K = V := ⟨_, rfl⟩
          rw [hV] at hxr hval hnx
          obtain ⟨v0, v1⟩ := hxr
          have Hn := Lib.hid hnx
          have HK := Lib.hid hK
          have q0 : (x != 0) = true := by simpa using h0
          clear hnx h0 hok hkey hV hK
          go_wp2_with fail
          refine (i_key (k : Nat) x _).mono ?_
          rintro e y ⟨rfl, rfl⟩
          rw [HK.out]
          go_wp2_with fail
          go_roundg (n - k)
          case measure => omega
          case rel => exact ⟨k + 1, by omega, by omega, by rw [Hn.out], by go_num, rfl⟩
  · have hv' : Bd.okB s cs = false := by simpa using hv
    have hf : Ha.ans s cs = -1 := by unfold Ha.ans; rw [if_neg hv]
    have HF := Lib.hid hf
    rw [hv']
    clear hv hv' hf
    go_wp2_with fail
    go_ret
    exact ⟨ret_int HF.out.symm, HB.out⟩
set_option maxHeartbeats 4000000 in
theorem s_hash0 (s : Int) (w : World) (B : Nat) (A : Option Addr) (n c : Nat) (cs : List Int) (h : Ints w B A n cs) (hB : B ≤ w.heap.size) (hv : Bd.okB s cs = true) : Calls Tryd.prog 46 #[.agg #[.int .i64 s, .slice A n c]] w fun e w' => e = .returned (.int .i64 (Ha.ans s cs)) ∧ Below w.heap.size w w' := by
  have hcl := h.1
  have hf : Ha.ans s cs = Ha.upto cs n := by unfold Ha.ans; rw [if_pos hv, hcl]
  have HF := Lib.hid hf
  obtain ⟨hv1, hv2, hv3, hv4⟩ := (Bd.okB_iff s cs).1 hv
  have hsq := Pt.sq_bd s hv1 hv2
  have hn49 : n ≤ 49 := by omega
  clear hv hf hv3
  obtain ⟨y1, hy1, hb1, z1, z2⟩ := new_box w (.cells #[.int .i64 s, .slice A n c] 25)
  have X1 := Lib.hid (show Bx 25 y1 w.heap.size s (.slice A n c) by rw [hy1]; exact Bx.new _ _ _ _)
  have I1 := Lib.hid (h.below hb1 hB)
  have HB := Lib.hid hb1
  clear h hb1
  go_enter Tryd.func46, Tryd.ntmps46
  go_upto_region 1 with (fail)
  rw [← hy1]
  clear hy1
  have u0 := X1.out.cell0
  have u1 := X1.out.cell1
  have ul := X1.out.lt
  go_wp2_with fail
  obtain ⟨Y, hY⟩ : ∃ Y : World, Y = y1 := ⟨_, rfl⟩
  rw [← hY] at X1 I1 HB u0 u1 ul ⊢
  clear hY
  go_loopg [3, 4] (n + 1) (fun q va vb wr => ∃ k : Nat, k + q = n + 1 ∧ k ≤ n ∧ va = .int .i64 (Ha.upto cs k) ∧ vb = .int .i64 (k : Nat) ∧ wr = Y)
  case atStart => exact ⟨0, by omega, by omega, rfl, rfl, rfl⟩
  case round =>
    obtain ⟨k, hk, hkn, rfl, rfl, rfl⟩ := hrel
    obtain ⟨t0, t1⟩ := Ha.bd hv4 k (by omega) (by omega)
    by_cases hkk : k = n
    · subst hkk
      have hlt : ¬ ((k : Nat) : Int) < (k : Nat) := by omega
      go_wp2_with fail
      go_ret
      exact ⟨ret_int HF.out.symm, HB.out⟩
    · have hlt : ((k : Nat) : Int) < n := by omega
      have hk0 : (0 : Int) ≤ (k : Nat) := by omega
      obtain ⟨b, o, rfl, hbB, hc⟩ := I1.out.2.resolve_left (by omega)
      have ck := hc k (by omega)
      have hmem : cs.getD k 0 ∈ cs := by
        rw [List.getD_eq_getElem?_getD, List.getElem?_eq_getElem (show k < cs.length by omega)]
        exact List.getElem_mem _
      obtain ⟨x0, x2⟩ := hv4 _ hmem
      have hnx := Ha.next cs k
      obtain ⟨x, hx⟩ : ∃ x, cs.getD k 0 = x := ⟨_, rfl⟩
      obtain ⟨H, hH⟩ : ∃ H, Ha.upto cs k = H := ⟨_, rfl⟩
      rw [hx] at ck x0 x2 hnx
      rw [hH] at t0 t1 hnx ⊢
      clear hc hmem hx hH
      by_cases h0 : x = 0
      · rw [if_pos h0] at hnx
        have Hn := Lib.hid hnx
        have q0 : (x != 0) = false := by simpa using h0
        clear hnx h0
        go_wp2_with fail
        go_roundg (n - k)
        case measure => omega
        case rel => exact ⟨k + 1, by omega, by omega, by rw [Hn.out], by go_num, rfl⟩
      · rw [if_neg h0] at hnx
        have x1 : 1 ≤ x := by omega
        have hok : Ky.ok (k : Int) x = true := Ky.ok_iff.2 (by omega)
        obtain ⟨y0, y1'⟩ := Ky.key_bd hok
        have hkey : Ky.key (k : Int) x = Ky.it 4 (2 * (k : Int) + x) := by unfold Ky.key; rw [if_pos hok]
        have hxr := Ha.xr_bd t0 t1 y0 y1'
        have hval := bits_xr t0 t1 y0 y1'
        rw [hkey] at y0 y1' hxr hval hnx
        obtain ⟨K, hK⟩ : ∃ K, Ky.it 4 (2 * (k : Int) + x) = K := ⟨_, rfl⟩
        rw [hK] at y0 y1' hxr hval hnx
        obtain ⟨V, hV⟩ : ∃ V, Ha.xr H K = V := ⟨_, rfl⟩
        rw [hV] at hxr hval hnx
        obtain ⟨v0, v1⟩ := hxr
        have Hn := Lib.hid hnx
        have HK := Lib.hid hK
        have q0 : (x != 0) = true := by simpa using h0
        clear hnx h0 hok hkey hV hK
        go_wp2_with fail
        refine (s_key0 (k : Nat) x _ (by omega) (by omega) (by omega) (by omega)).mono ?_
        rintro e y ⟨rfl, rfl⟩
        rw [HK.out]
        go_wp2_with fail
        go_roundg (n - k)
        case measure => omega
        case rel => exact ⟨k + 1, by omega, by omega, by rw [Hn.out], by go_num, rfl⟩
end Go.Proofs.YteldfjibmaigiaaDoor

namespace Go.Proofs.YteldfjibmaigiaaDoor
set_option maxRecDepth 100000
open Go.RowKit

def setB (s : Int) (cs : List Int) (p x : Int) : Bool := Bd.okB s cs && Pt.okP s p && Bd.okC x
def setS (s : Int) (cs : List Int) (p x : Int) : Int := if setB s cs p x then s else 0
def setCs (s : Int) (cs : List Int) (p x : Int) : List Int := if setB s cs p x then cs.set p.toNat x else []
/-- A board that the call made, and a bool. -/
def MadeB (s' : Int) (cs' : List Int) (b : Bool) (w : World) (e : Ending) (w' : World) : Prop :=
  ∃ A n c, e = .returned (.tuple #[.agg #[.int .i64 s', .slice A n c], .bool b]) ∧ Own w' w.heap.size A n c cs' ∧ Below w.heap.size w w'

end Go.Proofs.YteldfjibmaigiaaDoor

namespace Go.Proofs.YteldfjibmaigiaaDoor
set_option maxRecDepth 100000
open Go.RowKit

theorem size_int : (Tryd.prog.info? 3).map (·.size) = some 1 := by kernel_rfl

theorem copyFull {ops : Array Oper} {rest : List Oper} {o : Oper} {a : Act} {Q : Exit → Act → World → Prop} (hgd : o.guard = none) (d s : Operand)
    (ho : o.op = .call { callee := .builtin .copy, args := #[d, s], argTypes := #[23, 23] })
    (w : World) (B g n c : Nat) (ys : List Int) (B' : Nat) (A : Option Addr) (c' : Nat) (xs : List Int) (hd : a.eval d = .slice (some ⟨g, 0, none⟩) n c) (hs : a.eval s = .slice A n c')
    (hown : Own w B (some ⟨g, 0, none⟩) n c ys) (hin : Ints w B' A n xs) (hpos : 0 < n)
    (h : ∀ w', Own w' B (some ⟨g, 0, none⟩) n c xs → w.grownBy w' (some g) → wpList Tryd.prog ops Q rest (a.put o.dst (goInt n)) w') :
    wpList Tryd.prog ops Q (o :: rest) a w := by
  have hl := hin.1
  rcases hin.2 with h0 | ⟨b, off, rfl, hbB, hc⟩
  · omega
  rcases hown.2.2 with ⟨e, _⟩ | ⟨g', cap, cur, e, hb, hh, hnc, hcm, hcs, htake⟩
  · cases e
  · obtain ⟨rfl, rfl⟩ : g = g' ∧ c = cap := by
      injection e with e1 e2 e3
      injection e1 with e1
      injection e1 with e1
      exact ⟨e1, e3⟩
    have hlen : (xs.map (Value.int .i64)).length = n := by rw [List.length_map, hl]
    refine wpList_copy_own hgd d s 23 23 ho 3 Tryd.underlying23 size_int g 0 n c ⟨b, off, none⟩ n c' hd hs cur 3 hh (xs.map (Value.int .i64)) (by rw [hlen]; simp) ?_ (by rw [hlen, hcs]; omega) (ints_oneCell _ _) ?_
    · intro j u hj
      have hj' : j < xs.length := by
        rcases Nat.lt_or_ge j xs.length with h | h
        · exact h
        · rw [List.getElem?_eq_none (by rw [List.length_map]; exact h)] at hj; cases hj
      have e : (⟨b, off, none⟩ : Addr).add j = ⟨b, off + j, none⟩ := by by_cases hj0 : j = 0 <;> simp [Addr.add, hj0]
      rw [e, hc j (by omega), ← hj]
      simp [List.getElem?_eq_getElem hj', List.getD_eq_getElem?_getD]
    · rw [hlen]
      refine h _ ⟨hl, by rw [List.length_map, hl]; omega, .inr ⟨g, c, _, rfl, hb, setRow_heap w g _ _ _ _ hh, hnc, hcm, ?_, ?_⟩⟩ ⟨rfl, rfl, rfl, by simp [World.setRow], fun k _ hk => setRow_other w g k _ (fun e => hk (by rw [e]))⟩
      · simp [hl, hcs]; omega
      · simp [hl]
end Go.Proofs.YteldfjibmaigiaaDoor

namespace Go.Proofs.YteldfjibmaigiaaDoor
set_option maxRecDepth 100000
open Go.RowKit

set_option maxRecDepth 100000 in
set_option maxHeartbeats 1000000 in
theorem i_set (s p x : Int) (w : World) (B : Nat) (A : Option Addr) (n c : Nat) (cs : List Int) (h : Ints w B A n cs) (hB : B ≤ w.heap.size) (hn : n ≤ 1000000000) :
    Calls Tryd.prog 48 #[.agg #[.int .i64 s, .slice A n c], .int .i64 p, .int .i64 x] w fun e w' => MadeB (setS s cs p x) (setCs s cs p x) (setB s cs p x) w e w' := by
  have e1 : (w.alloc (.cells #[.int .i64 s, .slice A n c] 25)).heap.size = w.heap.size + 1 := by simp
  have x0 := (Bx.new 25 w s (.slice A n c)).alloc (.cells #[.int .i64 0, .slice none 0 0] 25)
  have x1 := Bx.new 25 (w.alloc (.cells #[.int .i64 s, .slice A n c] 25)) 0 (.slice none 0 0)
  rw [e1] at x1
  have hb2 : Below w.heap.size w ((w.alloc (.cells #[.int .i64 s, .slice A n c] 25)).alloc (.cells #[.int .i64 0, .slice none 0 0] 25)) := ((Below.refl _ _).alloc (Nat.le_refl _) _).alloc (by simp) _
  have hl := h.1
  have H := Lib.hid (h.below hb2 hB)
  have X0 := Lib.hid x0
  have X1 := Lib.hid x1
  have Hb := Lib.hid hb2
  clear e1 x0 x1 hb2 h
  by_cases hv : Bd.okB s cs = true
  · obtain ⟨q1, q2, q3, _⟩ := (Bd.okB_iff s cs).1 hv
    have q4 := Pt.sq_bd s q1 q2
    have hn49 : n ≤ 49 := by omega
    by_cases hp : Pt.okP s p = true
    · by_cases hx : Bd.okC x = true
      · have hall : setB s cs p x = true := by rw [setB, hv, hp, hx]; rfl
        have Hs := Lib.hid (show setS s cs p x = s by rw [setS, hall]; rfl)
        have Hc := Lib.hid (show setCs s cs p x = cs.set p.toNat x by rw [setCs, hall]; rfl)
        have Hb9 := Lib.hid hall
        clear hall
        obtain ⟨_, _, p1, p2⟩ := (Pt.okP_iff s p).1 hp
        have hpp : (decide (0 ≤ p) && decide (p < s * s)) = true := by simp [p1, p2]
        have hxx : (decide (0 ≤ x) && decide (x ≤ 2)) = true := hx
        go_enter Tryd.func48, Tryd.ntmps48
        go_wp2_with fail
        refine (i_validBoard _ _ _ _ _ _ _ H.out (by simp; omega) (by omega)).mono ?_
        rintro e y2 ⟨rfl, hb⟩
        rw [hv]
        have X0 := Lib.hid (X0.out.below hb X0.out.lt)
        have X1 := Lib.hid (X1.out.below hb X1.out.lt)
        have H := Lib.hid (H.out.below hb (by simp; omega))
        have Hb := Lib.hid (Hb.out.trans (hb.mono (by simp; omega)))
        clear hb hv
        have z2 := X1.out.lt
        have u00 := X0.out.cell0
        have u01 := X0.out.cell1
        have u02 := X0.out.lt
        go_wp2_with fail
        refine (i_point _ _ _).mono ?_
        rintro e w' ⟨rfl, rfl⟩
        rw [hp]
        go_wp2_with fail
        refine (i_validColor _ _).mono ?_
        rintro e w' ⟨rfl, rfl⟩
        rw [hx]
        clear hp hx hpp hxx
        go_wp2_with fail
        refine (i_new _ _).mono ?_
        rintro e y ⟨A1, n1, c1, rfl, ho, hb⟩
        have hs0 : Pt.okS s = true := (Pt.okS_iff s).2 ⟨q1, q2⟩
        have hn1 : n1 = n := by
          have := ho.1
          rw [newCs, if_pos hs0, List.length_replicate] at this
          omega
        rw [show newS s = s by rw [newS, if_pos hs0]]
        rw [hn1] at ho ⊢
        clear hn1 hs0
        have X0 := Lib.hid (X0.out.below hb X0.out.lt)
        have X1 := Lib.hid (X1.out.below hb X1.out.lt)
        have H := Lib.hid (H.out.below hb (by omega))
        have Hb := Lib.hid (Hb.out.trans (hb.mono (by omega)))
        have Ho := Lib.hid (ho.weaken (B' := w.heap.size + 1 + 1) (by omega))
        have hA1 : ∃ g, A1 = some ⟨g, 0, none⟩ := by
          obtain ⟨g, cap, hv, _⟩ := World.ownsRow.form ho.2 (by omega)
          exact ⟨g, by injection hv⟩
        have hy := hb.size
        clear hb u00 u01
        obtain ⟨g, hA1⟩ := hA1
        have hg1 := (ho.ge hA1).1
        have hg2 := (ho.ge hA1).2
        rw [hA1] at Ho ⊢
        clear ho hA1
        obtain ⟨q, rfl⟩ := Int.eq_ofNat_of_zero_le p1
        have hqn : q < n := by omega
        go_upto_region 4 with (fail)
        obtain ⟨y4, hy4, hb4, z4, z4'⟩ := new_box y (.cells #[.int .i64 s, .slice (some ⟨g, 0, none⟩) n c1] 25)
        have X3 : Hid (Bx 25 y4 y.heap.size s (.slice (some ⟨g, 0, none⟩) n c1)) := Lib.hid (by rw [hy4]; exact Bx.new _ _ _ _)
        rw [← hy4]
        clear hy4
        have X0 := Lib.hid (X0.out.below hb4 X0.out.lt)
        have X1 := Lib.hid (X1.out.below hb4 X1.out.lt)
        have H := Lib.hid (H.out.below hb4 (by omega))
        have Hb := Lib.hid (Hb.out.trans (hb4.mono (by omega)))
        have Ho := Lib.hid (Ho.out.below hb4)
        clear hb4
        have v00 := X0.out.cell0
        have v01 := X0.out.cell1
        have v30 := X3.out.cell0
        have v31 := X3.out.cell1
        go_upto_region 6 with ((with_reducible show wpList _ _ _ _ _ _); refine copyFull rfl (.tmp 29) (.tmp 31) rfl y4 (w.heap.size + 1 + 1) g n c1 _ B A c cs rfl rfl Ho.out H.out (by omega) ?_; intro y6 ho6 hg6; have X3b := Lib.hid (X3.out.grown hg6 (by simp; omega)); have X1b := Lib.hid (X1.out.grown hg6 (by simp; omega)); have Hb6 := Lib.hid (Hb.out.grown hg6 (by omega) (fun k e => by injection e; omega)); have w30 := X3b.out.cell0; have w31 := X3b.out.cell1; have w32 := X3b.out.lt; obtain ⟨u, hu⟩ : ∃ u, y6.cell? ⟨g, q, none⟩ = some u := ⟨_, (World.ownsRow.cellAt ho6.2 q (by omega)).trans (List.getElem?_eq_getElem (by rw [List.length_map, ho6.1]; exact hqn))⟩; have hf := World.ownsRow.frozenAt ho6.2 q; have Ho6 := Lib.hid (ho6.stored q x).1; clear ho6 hg6 v00 v01 v30 v31)
        obtain ⟨y5, hy5⟩ : ∃ y5, y5 = y6.setCell ⟨g, q, none⟩ (.int .i64 x) := ⟨_, rfl⟩
        have X3 : Hid (Bx 25 y5 y.heap.size s (.slice (some ⟨g, 0, none⟩) n c1)) := Lib.hid (by rw [hy5]; exact X3b.out.far (p := ⟨g, q, none⟩) (by show y.heap.size ≠ g; omega) (.int .i64 x))
        have Ho3 : Hid (Own y5 (w.heap.size + 1 + 1) (some ⟨g, 0, none⟩) n c1 (cs.set q x)) := Lib.hid (by rw [hy5]; exact Ho6.out)
        have X1 : Hid (Bx 25 y5 (w.heap.size + 1) 0 (.slice none 0 0)) := Lib.hid (by rw [hy5]; exact X1b.out.far (p := ⟨g, q, none⟩) (by show w.heap.size + 1 ≠ g; omega) (.int .i64 x))
        have Hb : Hid (Below w.heap.size w y5) := Lib.hid (by rw [hy5]; exact Hb6.out.setCell (p := ⟨g, q, none⟩) (by show w.heap.size ≤ g; omega) (.int .i64 x))
        rw [← hy5]
        clear hy5 hu hf w30 w31
        have v30 := X3.out.cell0
        have v31 := X3.out.cell1
        have v32 := X3.out.lt
        have v10 := X1.out.cell0
        have v11 := X1.out.cell1
        have v12 := X1.out.frozen 0
        have v13 := X1.out.frozen 1
        have v14 := X1.out.lt
        have K0 := Lib.hid ((X1.out.set0 s).cell0)
        have K1 := Lib.hid (((X1.out.set0 s).set1 (.slice (some ⟨g, 0, none⟩) n c1)).cell1)
        have Hb3 := Lib.hid ((Hb.out.setCell (p := ⟨w.heap.size + 1, 0, none⟩) (by show w.heap.size ≤ w.heap.size + 1; omega) (.int .i64 s)).setCell (p := ⟨w.heap.size + 1, 1, none⟩) (by show w.heap.size ≤ w.heap.size + 1; omega) (.slice (some ⟨g, 0, none⟩) n c1))
        have Ho2 := Lib.hid ((Ho3.out.far ⟨w.heap.size + 1, 0, none⟩ (fun g hA => by have := (Ho3.out.ge hA).1; show g ≠ w.heap.size + 1; omega) (.int .i64 s)).far ⟨w.heap.size + 1, 1, none⟩ (fun g hA => by have := (Ho3.out.ge hA).1; show g ≠ w.heap.size + 1; omega) (.slice (some ⟨g, 0, none⟩) n c1))
        go_wp2_with fail
        have k0 := K0.out
        have k1 := K1.out
        refine bodyPost_ret (v := .tuple #[.agg #[.int .i64 s, .slice (some ⟨g, 0, none⟩) n c1], .bool true]) (by simp [results, Tryd.results48, go_sem, k0, k1]) rfl ?_
        exact ⟨_, _, _, by rw [Hs.out, Hb9.out], by rw [Hc.out]; exact Ho2.out.weaken (by omega), Hb3.out⟩
      · have hx0 : Bd.okC x = false := by simpa using hx
        have hall : setB s cs p x = false := by rw [setB, hv, hp, hx0]; rfl
        have Hs := Lib.hid (show setS s cs p x = 0 by rw [setS, hall]; rfl)
        have Hc := Lib.hid (show setCs s cs p x = [] by rw [setCs, hall]; rfl)
        have Hb9 := Lib.hid hall
        clear hall
        obtain ⟨_, _, p1, p2⟩ := (Pt.okP_iff s p).1 hp
        have hpp : (decide (0 ≤ p) && decide (p < s * s)) = true := by simp [p1, p2]
        have hxx : (decide (0 ≤ x) && decide (x ≤ 2)) = false := hx0
        clear hx
        go_enter Tryd.func48, Tryd.ntmps48
        go_wp2_with fail
        refine (i_validBoard _ _ _ _ _ _ _ H.out (by simp; omega) (by omega)).mono ?_
        rintro e y2 ⟨rfl, hb⟩
        rw [hv]
        have X0 := Lib.hid (X0.out.below hb X0.out.lt)
        have X1 := Lib.hid (X1.out.below hb X1.out.lt)
        have H := Lib.hid (H.out.below hb (by simp; omega))
        have Hb := Lib.hid (Hb.out.trans (hb.mono (by simp; omega)))
        clear hb hv
        have z2 := X1.out.lt
        have u00 := X0.out.cell0
        have u01 := X0.out.cell1
        have u02 := X0.out.lt
        go_wp2_with fail
        refine (i_point _ _ _).mono ?_
        rintro e w' ⟨rfl, rfl⟩
        rw [hp]
        go_wp2_with fail
        refine (i_validColor _ _).mono ?_
        rintro e w' ⟨rfl, rfl⟩
        rw [hx0]
        clear hp hx0 hpp hxx
        have v10 := X1.out.cell0
        have v11 := X1.out.cell1
        have v12 := X1.out.frozen 0
        have v13 := X1.out.frozen 1
        have v14 := X1.out.lt
        have K0 := Lib.hid ((X1.out.set0 0).cell0)
        have K1 := Lib.hid (((X1.out.set0 0).set1 (.slice none 0 0)).cell1)
        have Hb3 := Lib.hid ((Hb.out.setCell (p := ⟨w.heap.size + 1, 0, none⟩) (by show w.heap.size ≤ w.heap.size + 1; omega) (.int .i64 0)).setCell (p := ⟨w.heap.size + 1, 1, none⟩) (by show w.heap.size ≤ w.heap.size + 1; omega) (.slice none 0 0))
        clear u00 u01
        go_wp2_with fail
        have k0 := K0.out
        have k1 := K1.out
        refine bodyPost_ret (v := .tuple #[.agg #[.int .i64 0, .slice none 0 0], .bool false]) (by simp [results, Tryd.results48, go_sem, k0, k1]) rfl ?_
        exact ⟨_, _, _, by rw [Hs.out, Hb9.out], by rw [Hc.out]; exact Own.nil _ _, Hb3.out⟩
    · have hp0 : Pt.okP s p = false := by simpa using hp
      have hall : setB s cs p x = false := by rw [setB, hv, hp0]; rfl
      have Hs := Lib.hid (show setS s cs p x = 0 by rw [setS, hall]; rfl)
      have Hc := Lib.hid (show setCs s cs p x = [] by rw [setCs, hall]; rfl)
      have Hb9 := Lib.hid hall
      clear hall
      have hs0 : Pt.okS s = true := (Pt.okS_iff s).2 ⟨q1, q2⟩
      have hpp : (decide (0 ≤ p) && decide (p < s * s)) = false := by rw [Pt.okP, hs0] at hp0; exact hp0
      clear hp hs0
      go_enter Tryd.func48, Tryd.ntmps48
      go_wp2_with fail
      refine (i_validBoard _ _ _ _ _ _ _ H.out (by simp; omega) (by omega)).mono ?_
      rintro e y2 ⟨rfl, hb⟩
      rw [hv]
      have X0 := Lib.hid (X0.out.below hb X0.out.lt)
      have X1 := Lib.hid (X1.out.below hb X1.out.lt)
      have H := Lib.hid (H.out.below hb (by simp; omega))
      have Hb := Lib.hid (Hb.out.trans (hb.mono (by simp; omega)))
      clear hb hv
      have z2 := X1.out.lt
      have u00 := X0.out.cell0
      have u01 := X0.out.cell1
      have u02 := X0.out.lt
      go_wp2_with fail
      refine (i_point _ _ _).mono ?_
      rintro e w' ⟨rfl, rfl⟩
      rw [hp0]
      clear hp0 hpp
      have v10 := X1.out.cell0
      have v11 := X1.out.cell1
      have v12 := X1.out.frozen 0
      have v13 := X1.out.frozen 1
      have v14 := X1.out.lt
      have K0 := Lib.hid ((X1.out.set0 0).cell0)
      have K1 := Lib.hid (((X1.out.set0 0).set1 (.slice none 0 0)).cell1)
      have Hb3 := Lib.hid ((Hb.out.setCell (p := ⟨w.heap.size + 1, 0, none⟩) (by show w.heap.size ≤ w.heap.size + 1; omega) (.int .i64 0)).setCell (p := ⟨w.heap.size + 1, 1, none⟩) (by show w.heap.size ≤ w.heap.size + 1; omega) (.slice none 0 0))
      clear u00 u01
      go_wp2_with fail
      have k0 := K0.out
      have k1 := K1.out
      refine bodyPost_ret (v := .tuple #[.agg #[.int .i64 0, .slice none 0 0], .bool false]) (by simp [results, Tryd.results48, go_sem, k0, k1]) rfl ?_
      exact ⟨_, _, _, by rw [Hs.out, Hb9.out], by rw [Hc.out]; exact Own.nil _ _, Hb3.out⟩
  · have hv0 : Bd.okB s cs = false := by simpa using hv
    have hall : setB s cs p x = false := by rw [setB, hv0]; rfl
    have Hs := Lib.hid (show setS s cs p x = 0 by rw [setS, hall]; rfl)
    have Hc := Lib.hid (show setCs s cs p x = [] by rw [setCs, hall]; rfl)
    have Hb9 := Lib.hid hall
    clear hall
    clear hv
    go_enter Tryd.func48, Tryd.ntmps48
    go_wp2_with fail
    refine (i_validBoard _ _ _ _ _ _ _ H.out (by simp; omega) (by omega)).mono ?_
    rintro e y2 ⟨rfl, hb⟩
    rw [hv0]
    have X0 := Lib.hid (X0.out.below hb X0.out.lt)
    have X1 := Lib.hid (X1.out.below hb X1.out.lt)
    have H := Lib.hid (H.out.below hb (by simp; omega))
    have Hb := Lib.hid (Hb.out.trans (hb.mono (by simp; omega)))
    clear hb hv0
    have z2 := X1.out.lt
    have u00 := X0.out.cell0
    have u01 := X0.out.cell1
    have u02 := X0.out.lt
    have v10 := X1.out.cell0
    have v11 := X1.out.cell1
    have v12 := X1.out.frozen 0
    have v13 := X1.out.frozen 1
    have v14 := X1.out.lt
    have K0 := Lib.hid ((X1.out.set0 0).cell0)
    have K1 := Lib.hid (((X1.out.set0 0).set1 (.slice none 0 0)).cell1)
    have Hb3 := Lib.hid ((Hb.out.setCell (p := ⟨w.heap.size + 1, 0, none⟩) (by show w.heap.size ≤ w.heap.size + 1; omega) (.int .i64 0)).setCell (p := ⟨w.heap.size + 1, 1, none⟩) (by show w.heap.size ≤ w.heap.size + 1; omega) (.slice none 0 0))
    clear u00 u01
    go_wp2_with fail
    have k0 := K0.out
    have k1 := K1.out
    refine bodyPost_ret (v := .tuple #[.agg #[.int .i64 0, .slice none 0 0], .bool false]) (by simp [results, Tryd.results48, go_sem, k0, k1]) rfl ?_
    exact ⟨_, _, _, by rw [Hs.out, Hb9.out], by rw [Hc.out]; exact Own.nil _ _, Hb3.out⟩
end Go.Proofs.YteldfjibmaigiaaDoor

namespace Go.Proofs.YteldfjibmaigiaaDoor
set_option maxRecDepth 100000
open Go.RowKit

theorem Ints.stepH {w w' : World} {n : Nat} {A : Option Addr} {xs : List Int} (h : Ints w w.heap.size A n xs) (hb : Below w.heap.size w w') : Ints w' w'.heap.size A n xs := (h.below hb (Nat.le_refl _)).more hb.size
theorem Bx.stepH {t : TypeId} {w w' : World} {g : Nat} {s : Int} {v : Value} (h : Bx t w g s v) (hb : Below w.heap.size w w') : Bx t w' g s v := h.below hb h.lt
theorem bstepH {a w w' : World} (h : Below a.heap.size a w) (hb : Below w.heap.size w w') : Below a.heap.size a w' := h.trans (hb.mono h.size)
theorem i_setH (s p x : Int) (w : World) (A : Option Addr) (n c : Nat) (cs ds : List Int) (h : Ints w w.heap.size A n cs) (hn : n ≤ 49) (hb : setB s cs p x = true) (hd : cs.set p.toNat x = ds) :
    Calls Tryd.prog 48 #[.agg #[.int .i64 s, .slice A n c], .int .i64 p, .int .i64 x] w fun e w' => ∃ A1 c1, e = .returned (.tuple #[.agg #[.int .i64 s, .slice A1 n c1], .bool true]) ∧ Own w' w.heap.size A1 n c1 ds ∧ Below w.heap.size w w' := by
  have hl := h.1
  refine (i_set s p x w w.heap.size A n c cs h (Nat.le_refl _) (by omega)).mono ?_
  rintro e w' ⟨A1, n1, c1, rfl, ho, hb1⟩
  rw [setCs, hb, if_pos rfl, hd] at ho
  have e1 := ho.1
  rw [← hd, List.length_set] at e1
  obtain rfl : n1 = n := by omega
  exact ⟨_, _, by rw [setS, hb]; rfl, ho, hb1⟩
theorem i_plG (s x p : Int) (su : Bool) (w : World) (A : Option Addr) (n c : Nat) (cs : List Int) (R : Option (List Int × List Int)) (rs : Int) (rc rg : List Int) (ok : Bool) (h : Ints w w.heap.size A n cs) (hn : n ≤ 1000000000) (hR : Hid (PlB s n cs x p su R)) (hV : Hid (View s R rs rc rg ok)) (ht : Tab w) (he : ErrW w) : Calls Tryd.prog 7 #[.agg #[.int .i64 s, .slice A n c], .int .i64 x, .int .i64 p, .bool su] w fun e w' => ∃ A1 n1 c1 A2 n2 c2, e = .returned (.tuple #[.agg #[.int .i64 rs, .slice A1 n1 c1], .slice A2 n2 c2, .bool ok]) ∧ Own w' w.heap.size A2 n2 c2 rg ∧ Below w.heap.size w w' := by
  refine (i_PlV s x p su w _ A n c cs R rs rc rg ok h (Nat.le_refl _) hn hR hV ht he).mono ?_
  rintro e w' ⟨A1, n1, c1, A2, n2, c2, mid, rfl, h1, h2, h3, h4, h5, h6⟩
  exact ⟨A1, n1, c1, A2, n2, c2, rfl, h3.weaken h4, h6⟩
theorem s_plC (s x p : Int) (su : Bool) (w : World) (A : Option Addr) (n c : Nat) (cs : List Int) (R : Option (List Int × List Int)) (rs : Int) (rc rg : List Int) (ok : Bool) (h : Ints w w.heap.size A n cs) (hn : n ≤ 1000000000) (hR : Hid (PlB s n cs x p su R)) (hV : Hid (View s R rs rc rg ok)) : Calls Tryd.prog 8 #[.agg #[.int .i64 s, .slice A n c], .int .i64 x, .int .i64 p, .bool su] w fun e w' => ∃ A1 n1 c1 A2 n2 c2, e = .returned (.tuple #[.agg #[.int .i64 rs, .slice A1 n1 c1], .slice A2 n2 c2, .bool ok]) ∧ Own w' w.heap.size A1 n1 c1 rc ∧ Below w.heap.size w w' := by
  refine (s_PlV s x p su w _ A n c cs R rs rc rg ok h (Nat.le_refl _) hn hR hV).mono ?_
  rintro e w' ⟨A1, n1, c1, A2, n2, c2, rfl, ⟨h1, h2⟩, h6⟩
  exact ⟨A1, n1, c1, A2, n2, c2, rfl, h1, h6⟩
theorem Hb.get {s x p : Int} {n : Nat} {cs : List Int} {su : Bool} {r : List Int × List Int} (h : PlB s n cs x p su (some r)) (hl : cs.length = n) : ∃ k q : Nat, s = (k : Int) ∧ p = (q : Int) ∧ q < n ∧ Bd.okB s cs = true ∧ 1 ≤ x ∧ x ≤ 2 ∧ 1 ≤ s ∧ s ≤ 7 ∧ n ≤ 49 ∧ (n : Int) = s * s ∧ (∀ c ∈ cs, 0 ≤ c ∧ c ≤ 2) ∧ Pt.okP s p = true ∧ Plays (k : Int) n cs x q su (some r) := by
  unfold PlB at h
  split at h
  · rename_i hh
    obtain ⟨h1, ⟨x1, x2⟩, h2⟩ := hh
    obtain ⟨q1, q2, q3, q4⟩ := (Bd.okB_iff s cs).1 h1
    obtain ⟨_, _, p0, pn⟩ := (Pt.okP_iff s p).1 h2
    have hsq := Pt.sq_bd s q1 q2
    obtain ⟨q, rfl⟩ := Int.eq_ofNat_of_zero_le p0
    obtain ⟨k, rfl⟩ := Int.eq_ofNat_of_zero_le (show 0 ≤ s by omega)
    exact ⟨k, q, rfl, rfl, by omega, h1, x1, x2, q1, q2, by omega, by omega, q4, h2, h⟩
  · cases h
theorem Hb.ans_oth {s x p : Int} {n : Nat} {cs : List Int} {su : Bool} {os gs : List Int} (h : PlB s n cs x p su (some (os, gs))) (hl : cs.length = n) : Bd.okB s os = true := by
  obtain ⟨k, q, rfl, rfl, hq, hB, x1, x2, s1, s2, h49, hsq, hv, hP, hp⟩ := Hb.get h hl
  have hol := Hb.olen hp
  refine (Bd.okB_iff _ _).2 ⟨s1, s2, by omega, fun c hc => ?_⟩
  obtain ⟨j, hj, rfl⟩ := List.getElem_of_mem hc
  have e := Hb.out hp (q := j) (by omega)
  rw [List.getD_eq_getElem?_getD, List.getElem?_eq_getElem hj] at e
  simp only [Option.getD_some] at e
  rw [e]
  split
  · omega
  · rw [Hb.sat hl hq]
    split
    · omega
    · have hm : cs.getD j 0 ∈ cs := by
        rw [List.getD_eq_getElem?_getD, List.getElem?_eq_getElem (show j < cs.length by omega)]
        exact List.getElem_mem _
      exact hv _ hm
set_option maxRecDepth 100000 in
set_option maxHeartbeats 4000000 in
theorem s_hashAfter (s x p : Int) (su : Bool) (w : World) (A : Option Addr) (n c : Nat) (cs : List Int) (R : Option (List Int × List Int)) (V : Int) (h : Ints w w.heap.size A n cs) (hn : n ≤ 1000000000) (hR : Hid (PlB s n cs x p su R)) (hA : Hid (Hb.ans n R = V)) : Calls Tryd.prog 15 #[.agg #[.int .i64 s, .slice A n c], .int .i64 x, .int .i64 p, .bool su] w fun e w' => e = .returned (.int .i64 V) ∧ Below w.heap.size w w' := by
  have HB := Lib.hid (Below.refl w.heap.size w)
  have hcl := h.1
  have I0 := Lib.hid h
  clear h
  rcases R with _ | ⟨os, gs⟩
  · obtain rfl : (-1 : Int) = V := hA.out
    have HV : Hid (View s (none : Option (List Int × List Int)) 0 [] [] false) := Lib.hid ⟨rfl, rfl, rfl, rfl⟩
    go_enter Tryd.func15, Tryd.ntmps15
    go_wp2_with fail
    obtain ⟨x101, hy103, hb102, z104, z105⟩ := new_box w (.cells #[.int .i64 s, .slice A n c] 25)
    have X0 : Hid (Bx 25 x101 w.heap.size s (.slice A n c)) := Lib.hid (by rw [hy103]; exact Bx.new _ _ _ _)
    rw [← hy103]
    clear hy103
    have I0 := Lib.hid (I0.out.stepH hb102)
    have HB := Lib.hid (bstepH HB.out hb102)
    clear hb102
    have X0_0 := X0.out.cell0
    have X0_1 := X0.out.cell1
    have X0_l := X0.out.lt
    go_wp2_with fail
    refine (s_plC s x p su _ A n c cs none 0 [] [] false I0.out hn hR HV).mono ?_
    rintro e x106 ⟨A1, n1, c1, A2, n2, c2, rfl, ho108, hb107⟩
    clear X0_0 X0_1 X0_l
    have X0 := Lib.hid (X0.out.stepH hb107)
    have I0 := Lib.hid (I0.out.stepH hb107)
    have HB := Lib.hid (bstepH HB.out hb107)
    have G1 := Lib.hid ho108.ints
    have lenG1 := ho108.1
    clear hb107 ho108
    have X0_0 := X0.out.cell0
    have X0_1 := X0.out.cell1
    have X0_l := X0.out.lt
    go_wp2_with fail
    obtain ⟨x109, hy111, hb110, z112, z113⟩ := new_box x106 (.cells #[.int .i64 0, .slice A1 n1 c1] 25)
    have X1 : Hid (Bx 25 x109 x106.heap.size 0 (.slice A1 n1 c1)) := Lib.hid (by rw [hy111]; exact Bx.new _ _ _ _)
    rw [← hy111]
    clear hy111
    clear X0_0 X0_1 X0_l
    have X0 := Lib.hid (X0.out.stepH hb110)
    have I0 := Lib.hid (I0.out.stepH hb110)
    have G1 := Lib.hid (G1.out.stepH hb110)
    have HB := Lib.hid (bstepH HB.out hb110)
    clear hb110
    have X0_0 := X0.out.cell0
    have X0_1 := X0.out.cell1
    have X0_l := X0.out.lt
    have X1_0 := X1.out.cell0
    have X1_1 := X1.out.cell1
    have X1_l := X1.out.lt
    go_wp2_with fail
    go_ret
    exact ⟨rfl, HB.out⟩
  · have HV : Hid (View s (some (os, gs)) s os gs true) := Lib.hid ⟨rfl, rfl, rfl, rfl⟩
    have hob := Hb.ans_oth hR.out hcl
    have hol : os.length = n := by
      obtain ⟨k, q, rfl, rfl, hq, hB, x1, x2, s1, s2, h49, hsq, hv, hP, hp⟩ := Hb.get hR.out hcl
      exact Hb.olen hp
    have hf : Ha.ans s os = V := by unfold Ha.ans; rw [if_pos hob, hol]; exact hA.out
    have Hf := Lib.hid hf
    have Hob := Lib.hid hob
    clear hf hob hA
    go_enter Tryd.func15, Tryd.ntmps15
    go_wp2_with fail
    obtain ⟨x201, hy203, hb202, z204, z205⟩ := new_box w (.cells #[.int .i64 s, .slice A n c] 25)
    have X0 : Hid (Bx 25 x201 w.heap.size s (.slice A n c)) := Lib.hid (by rw [hy203]; exact Bx.new _ _ _ _)
    rw [← hy203]
    clear hy203
    have I0 := Lib.hid (I0.out.stepH hb202)
    have HB := Lib.hid (bstepH HB.out hb202)
    clear hb202
    have X0_0 := X0.out.cell0
    have X0_1 := X0.out.cell1
    have X0_l := X0.out.lt
    go_wp2_with fail
    refine (s_plC s x p su _ A n c cs _ s os gs true I0.out hn hR HV).mono ?_
    rintro e x206 ⟨A1, n1, c1, A2, n2, c2, rfl, ho208, hb207⟩
    clear X0_0 X0_1 X0_l
    have X0 := Lib.hid (X0.out.stepH hb207)
    have I0 := Lib.hid (I0.out.stepH hb207)
    have HB := Lib.hid (bstepH HB.out hb207)
    have G1 := Lib.hid ho208.ints
    have lenG1 := ho208.1
    clear hb207 ho208
    have X0_0 := X0.out.cell0
    have X0_1 := X0.out.cell1
    have X0_l := X0.out.lt
    go_wp2_with fail
    obtain ⟨x209, hy211, hb210, z212, z213⟩ := new_box x206 (.cells #[.int .i64 s, .slice A1 n1 c1] 25)
    have X1 : Hid (Bx 25 x209 x206.heap.size s (.slice A1 n1 c1)) := Lib.hid (by rw [hy211]; exact Bx.new _ _ _ _)
    rw [← hy211]
    clear hy211
    clear X0_0 X0_1 X0_l
    have X0 := Lib.hid (X0.out.stepH hb210)
    have I0 := Lib.hid (I0.out.stepH hb210)
    have G1 := Lib.hid (G1.out.stepH hb210)
    have HB := Lib.hid (bstepH HB.out hb210)
    clear hb210
    have X0_0 := X0.out.cell0
    have X0_1 := X0.out.cell1
    have X0_l := X0.out.lt
    have X1_0 := X1.out.cell0
    have X1_1 := X1.out.cell1
    have X1_l := X1.out.lt
    go_wp2_with fail
    refine (s_hash0 s _ _ A1 n1 c1 os G1.out (Nat.le_refl _) Hob.out).mono ?_
    rintro e x214 ⟨rfl, hb215⟩
    clear X0_0 X0_1 X0_l X1_0 X1_1 X1_l
    have X0 := Lib.hid (X0.out.stepH hb215)
    have X1 := Lib.hid (X1.out.stepH hb215)
    have I0 := Lib.hid (I0.out.stepH hb215)
    have G1 := Lib.hid (G1.out.stepH hb215)
    have HB := Lib.hid (bstepH HB.out hb215)
    clear hb215
    have X0_0 := X0.out.cell0
    have X0_1 := X0.out.cell1
    have X0_l := X0.out.lt
    have X1_0 := X1.out.cell0
    have X1_1 := X1.out.cell1
    have X1_l := X1.out.lt
    rw [Hf.out]
    go_wp2_with fail
    go_ret
    exact ⟨rfl, HB.out⟩
set_option maxRecDepth 100000 in
set_option maxHeartbeats 4000000 in
theorem i_hashAfter (s x p : Int) (su : Bool) (w : World) (A : Option Addr) (n c : Nat) (cs : List Int) (R : Option (List Int × List Int)) (V : Int) (h : Ints w w.heap.size A n cs) (hn : n ≤ 1000000000) (hR : Hid (PlB s n cs x p su R)) (hA : Hid (Hb.ans n R = V)) (ht : Tab w) (he : ErrW w) : Calls Tryd.prog 17 #[.agg #[.int .i64 s, .slice A n c], .int .i64 x, .int .i64 p, .bool su] w fun e w' => e = .returned (.int .i64 V) ∧ Below w.heap.size w w' := by
  have HB := Lib.hid (Below.refl w.heap.size w)
  have hcl := h.1
  have I0 := Lib.hid h
  have HT := Lib.hid ht
  have HE := Lib.hid he
  clear h ht he
  rcases R with _ | ⟨os, gs⟩
  · obtain rfl : (-1 : Int) = V := hA.out
    have HV : Hid (View s (none : Option (List Int × List Int)) 0 [] [] false) := Lib.hid ⟨rfl, rfl, rfl, rfl⟩
    go_enter Tryd.func17, Tryd.ntmps17
    go_wp2_with fail
    obtain ⟨x101, hy103, hb102, z104, z105⟩ := new_box w (.cells #[.int .i64 s, .slice A n c] 25)
    have X0 : Hid (Bx 25 x101 w.heap.size s (.slice A n c)) := Lib.hid (by rw [hy103]; exact Bx.new _ _ _ _)
    rw [← hy103]
    clear hy103
    have I0 := Lib.hid (I0.out.stepH hb102)
    have HB := Lib.hid (bstepH HB.out hb102)
    clear hb102
    have X0_0 := X0.out.cell0
    have X0_1 := X0.out.cell1
    have X0_l := X0.out.lt
    go_wp2_with fail
    refine (i_plG s x p su _ A n c cs none 0 [] [] false I0.out hn hR HV (HT.out.below HB.out) (HE.out.below HB.out)).mono ?_
    rintro e x106 ⟨A1, n1, c1, A2, n2, c2, rfl, ho108, hb107⟩
    clear X0_0 X0_1 X0_l
    have X0 := Lib.hid (X0.out.stepH hb107)
    have I0 := Lib.hid (I0.out.stepH hb107)
    have HB := Lib.hid (bstepH HB.out hb107)
    have G2 := Lib.hid ho108.ints
    have lenG2 := ho108.1
    clear hb107 ho108
    have X0_0 := X0.out.cell0
    have X0_1 := X0.out.cell1
    have X0_l := X0.out.lt
    go_wp2_with fail
    obtain ⟨x109, hy111, hb110, z112, z113⟩ := new_box x106 (.cells #[.int .i64 0, .slice A1 n1 c1] 25)
    have X1 : Hid (Bx 25 x109 x106.heap.size 0 (.slice A1 n1 c1)) := Lib.hid (by rw [hy111]; exact Bx.new _ _ _ _)
    rw [← hy111]
    clear hy111
    clear X0_0 X0_1 X0_l
    have X0 := Lib.hid (X0.out.stepH hb110)
    have I0 := Lib.hid (I0.out.stepH hb110)
    have G2 := Lib.hid (G2.out.stepH hb110)
    have HB := Lib.hid (bstepH HB.out hb110)
    clear hb110
    have X0_0 := X0.out.cell0
    have X0_1 := X0.out.cell1
    have X0_l := X0.out.lt
    have X1_0 := X1.out.cell0
    have X1_1 := X1.out.cell1
    have X1_l := X1.out.lt
    go_wp2_with fail
    go_ret
    exact ⟨rfl, HB.out⟩
  · obtain ⟨k, q, rfl, rfl, hq, hB, x1, x2, s1, s2, h49, hsq, hv, hP, hp⟩ := Hb.get hR.out hcl
    have HV : Hid (View (k : Int) (some (os, gs)) k os gs true) := Lib.hid ⟨rfl, rfl, rfl, rfl⟩
    have hgl := Hb.glen hp x1 x2
    have hans : Ha.rm (cs.set q x) gs (Ha.xr (Ha.upto cs n) (Ky.key (q : Int) x)) gs.length = V := (Hb.hash hp hcl h49 hv hq x1 x2).trans hA.out
    have hin := fun i (hi : i < gs.length) => Hb.at_ hp x1 x2 hi
    have hok : Ky.ok (q : Int) x = true := Ky.ok_iff.2 (by omega)
    obtain ⟨y0, y1'⟩ := Ky.key_bd hok
    obtain ⟨t0, t1⟩ := Ha.bd hv n h49 (by omega)
    have hxr := Ha.xr_bd t0 t1 y0 y1'
    have hval := bits_xr t0 t1 y0 y1'
    have hf : Ha.ans (k : Int) cs = Ha.upto cs n := by unfold Ha.ans; rw [if_pos hB, hcl]
    obtain ⟨H, hH⟩ : ∃ H, Ha.upto cs n = H := ⟨_, rfl⟩
    rw [hH] at t0 t1 hxr hval hf hans
    obtain ⟨K, hK⟩ : ∃ K, Ky.key (q : Int) x = K := ⟨_, rfl⟩
    rw [hK] at y0 y1' hxr hval hans
    obtain ⟨h0, hh0⟩ : ∃ h0, Ha.xr H K = h0 := ⟨_, rfl⟩
    rw [hh0] at hxr hval hans
    have hv2 : ∀ c ∈ cs.set q x, 0 ≤ c ∧ c ≤ 2 := by
      intro c hc
      rcases List.mem_or_eq_of_mem_set hc with h | rfl
      · exact hv c h
      · omega
    obtain ⟨ds, hds⟩ : ∃ ds, cs.set q x = ds := ⟨_, rfl⟩
    rw [hds] at hv2 hin hans
    have hsb : setB (k : Int) cs (q : Int) x = true := by
      unfold setB
      rw [hB, hP]
      unfold Bd.okC
      simp; omega
    obtain ⟨v0, v1⟩ := hxr
    have Hf := Lib.hid hf
    have HK := Lib.hid hK
    have HA := Lib.hid hans
    have Hin := Lib.hid hin
    have Hv2 := Lib.hid hv2
    have Hds := Lib.hid hds
    have Hsb := Lib.hid hsb
    have Hbd := Lib.hid (fun j hj => Hb.bd hv2 h49 v0 v1 hin j hj)
    clear hf hK hans hin hv2 hds hsb hH hh0 hp hv hB hP hok hA
    go_enter Tryd.func17, Tryd.ntmps17
    go_wp2_with fail
    obtain ⟨x201, hy203, hb202, z204, z205⟩ := new_box w (.cells #[.int .i64 k, .slice A n c] 25)
    have X0 : Hid (Bx 25 x201 w.heap.size k (.slice A n c)) := Lib.hid (by rw [hy203]; exact Bx.new _ _ _ _)
    rw [← hy203]
    clear hy203
    have I0 := Lib.hid (I0.out.stepH hb202)
    have HB := Lib.hid (bstepH HB.out hb202)
    clear hb202
    have X0_0 := X0.out.cell0
    have X0_1 := X0.out.cell1
    have X0_l := X0.out.lt
    go_wp2_with fail
    refine (i_plG k x q su _ A n c cs _ k os gs true I0.out hn hR HV (HT.out.below HB.out) (HE.out.below HB.out)).mono ?_
    rintro e x206 ⟨A1, n1, c1, A2, n2, c2, rfl, ho208, hb207⟩
    clear X0_0 X0_1 X0_l
    have X0 := Lib.hid (X0.out.stepH hb207)
    have I0 := Lib.hid (I0.out.stepH hb207)
    have HB := Lib.hid (bstepH HB.out hb207)
    have G2 := Lib.hid ho208.ints
    have lenG2 := ho208.1
    clear hb207 ho208
    have X0_0 := X0.out.cell0
    have X0_1 := X0.out.cell1
    have X0_l := X0.out.lt
    go_wp2_with fail
    obtain ⟨x209, hy211, hb210, z212, z213⟩ := new_box x206 (.cells #[.int .i64 k, .slice A1 n1 c1] 25)
    have X1 : Hid (Bx 25 x209 x206.heap.size k (.slice A1 n1 c1)) := Lib.hid (by rw [hy211]; exact Bx.new _ _ _ _)
    rw [← hy211]
    clear hy211
    clear X0_0 X0_1 X0_l
    have X0 := Lib.hid (X0.out.stepH hb210)
    have I0 := Lib.hid (I0.out.stepH hb210)
    have G2 := Lib.hid (G2.out.stepH hb210)
    have HB := Lib.hid (bstepH HB.out hb210)
    clear hb210
    have X0_0 := X0.out.cell0
    have X0_1 := X0.out.cell1
    have X0_l := X0.out.lt
    have X1_0 := X1.out.cell0
    have X1_1 := X1.out.cell1
    have X1_l := X1.out.lt
    go_wp2_with fail
    refine (i_hash k _ _ A n c cs I0.out (Nat.le_refl _) hn).mono ?_
    rintro e x214 ⟨rfl, hb215⟩
    clear X0_0 X0_1 X0_l X1_0 X1_1 X1_l
    have X0 := Lib.hid (X0.out.stepH hb215)
    have X1 := Lib.hid (X1.out.stepH hb215)
    have I0 := Lib.hid (I0.out.stepH hb215)
    have G2 := Lib.hid (G2.out.stepH hb215)
    have HB := Lib.hid (bstepH HB.out hb215)
    clear hb215
    have X0_0 := X0.out.cell0
    have X0_1 := X0.out.cell1
    have X0_l := X0.out.lt
    have X1_0 := X1.out.cell0
    have X1_1 := X1.out.cell1
    have X1_l := X1.out.lt
    rw [Hf.out]
    go_wp2_with fail
    refine (i_key (q : Nat) x _).mono ?_
    rintro e y ⟨rfl, rfl⟩
    rw [HK.out]
    go_wp2_with fail
    refine (i_setH k q x _ A n c cs ds I0.out h49 Hsb.out Hds.out).mono ?_
    rintro e x217 ⟨A3, c3, rfl, ho219, hb218⟩
    clear X0_0 X0_1 X0_l X1_0 X1_1 X1_l
    have X0 := Lib.hid (X0.out.stepH hb218)
    have X1 := Lib.hid (X1.out.stepH hb218)
    have I0 := Lib.hid (I0.out.stepH hb218)
    have G2 := Lib.hid (G2.out.stepH hb218)
    have HB := Lib.hid (bstepH HB.out hb218)
    have P3 := Lib.hid ho219.ints
    have lenP3 := ho219.1
    clear hb218 ho219
    have X0_0 := X0.out.cell0
    have X0_1 := X0.out.cell1
    have X0_l := X0.out.lt
    have X1_0 := X1.out.cell0
    have X1_1 := X1.out.cell1
    have X1_l := X1.out.lt
    go_wp2_with fail
    obtain ⟨x220, hy222, hb221, z223, z224⟩ := new_box x217 (.cells #[.int .i64 k, .slice A3 n c3] 25)
    have X3 : Hid (Bx 25 x220 x217.heap.size k (.slice A3 n c3)) := Lib.hid (by rw [hy222]; exact Bx.new _ _ _ _)
    rw [← hy222]
    clear hy222
    clear X0_0 X0_1 X0_l X1_0 X1_1 X1_l
    have X0 := Lib.hid (X0.out.stepH hb221)
    have X1 := Lib.hid (X1.out.stepH hb221)
    have I0 := Lib.hid (I0.out.stepH hb221)
    have G2 := Lib.hid (G2.out.stepH hb221)
    have P3 := Lib.hid (P3.out.stepH hb221)
    have HB := Lib.hid (bstepH HB.out hb221)
    clear hb221
    have X0_0 := X0.out.cell0
    have X0_1 := X0.out.cell1
    have X0_l := X0.out.lt
    have X1_0 := X1.out.cell0
    have X1_1 := X1.out.cell1
    have X1_l := X1.out.lt
    have X3_0 := X3.out.cell0
    have X3_1 := X3.out.cell1
    have X3_l := X3.out.lt
    go_wp2_with fail
    obtain ⟨Y, hY⟩ : ∃ Y : World, Y = x220 := ⟨_, rfl⟩
    rw [← hY] at X0 X1 X3 I0 G2 P3 HB X0_0 X0_1 X0_l X1_0 X1_1 X1_l X3_0 X3_1 X3_l ⊢
    clear hY
    go_loopg [12, 43] (n2 + 1) (fun m va vb wr => ∃ j : Nat, j + m = n2 + 1 ∧ j ≤ n2 ∧ va = .int .i64 (Ha.rm ds gs h0 j) ∧ vb = .int .i64 (j : Nat) ∧ wr = Y)
    case atStart => exact ⟨0, by omega, by omega, rfl, rfl, rfl⟩
    case round =>
      obtain ⟨j, hj, hjn, rfl, rfl, rfl⟩ := hrel
      obtain ⟨r0, r1⟩ := Hbd.out j (by omega)
      by_cases hjj : j = n2
      · subst hjj
        have hlt : ¬ ((j : Nat) : Int) < (j : Nat) := by omega
        obtain rfl : Ha.rm ds gs h0 j = V := by rw [← HA.out, lenG2]
        go_wp2_with fail
        go_ret
        exact ⟨rfl, HB.out⟩
      · have hlt : ((j : Nat) : Int) < n2 := by omega
        have hj0 : (0 : Int) ≤ (j : Nat) := by omega
        obtain ⟨g0, g1, g2⟩ := Hin.out j (by omega)
        obtain ⟨b2, o2, rfl, hb2B, hc2⟩ := G2.out.2.resolve_left (by omega)
        have ck := hc2 j (by omega)
        obtain ⟨i, hi⟩ := Int.eq_ofNat_of_zero_le g0
        have hrm : Ha.rm ds gs h0 (j + 1) = Ha.xr (Ha.rm ds gs h0 j) (Ky.key (gs.getD j 0) (ds.getD (gs.getD j 0).toNat 0)) := rfl
        rw [hi] at ck g0 g1 g2 hrm
        rw [Int.toNat_natCast] at g2 hrm
        obtain ⟨b3, o3, rfl, hb3B, hc3⟩ := P3.out.2.resolve_left (by omega)
        have ci := hc3 i (by omega)
        have hmem : ds.getD i 0 ∈ ds := by
          rw [List.getD_eq_getElem?_getD, List.getElem?_eq_getElem (show i < ds.length by have := P3.out.1; omega)]
          exact List.getElem_mem _
        obtain ⟨d0, d2⟩ := Hv2.out _ hmem
        obtain ⟨d, hd⟩ : ∃ d, ds.getD i 0 = d := ⟨_, rfl⟩
        rw [hd] at ci g2 hrm d0 d2
        obtain ⟨F, hF⟩ : ∃ F, Ha.rm ds gs h0 j = F := ⟨_, rfl⟩
        rw [hF] at r0 r1 hrm ⊢
        have hok : Ky.ok (i : Int) d = true := Ky.ok_iff.2 (by omega)
        obtain ⟨k0, k1⟩ := Ky.key_bd hok
        have hxr := Ha.xr_bd r0 r1 k0 k1
        have hval := bits_xr r0 r1 k0 k1
        obtain ⟨Q, hQ⟩ : ∃ Q, Ky.key (i : Int) d = Q := ⟨_, rfl⟩
        rw [hQ] at k0 k1 hxr hval hrm
        obtain ⟨Z, hZ⟩ : ∃ Z, Ha.xr F Q = Z := ⟨_, rfl⟩
        rw [hZ] at hxr hval hrm
        obtain ⟨z0, z1⟩ := hxr
        have Hrm := Lib.hid hrm
        have HQ := Lib.hid hQ
        clear hc2 hc3 hmem hd hF hZ hrm hQ hok hi
        go_wp2_with fail
        refine (i_key (i : Nat) d _).mono ?_
        rintro e y ⟨rfl, rfl⟩
        rw [HQ.out]
        go_wp2_with fail
        go_roundg (n2 - j)
        case measure => omega
        case rel => exact ⟨j + 1, by omega, by omega, by rw [Hrm.out], by go_num, rfl⟩
end Go.Proofs.YteldfjibmaigiaaDoor

namespace Go.Proofs.YteldfjibmaigiaaDoor
set_option maxRecDepth 100000
open Go.RowKit

def cnt (x : Int) (cs : List Int) : Int := ((cs.filter fun c => c == x).length : Nat)
theorem cnt_bd (x : Int) (cs : List Int) : 0 ≤ cnt x cs ∧ cnt x cs ≤ cs.length := by
  unfold cnt
  have := List.length_filter_le (fun c => c == x) cs
  omega
theorem cnt_yes {x : Int} {cs : List Int} {k : Nat} (h : k < cs.length) (hx : (cs.getD k 0 == x) = true) : cnt x (cs.take (k + 1)) = cnt x (cs.take k) + 1 := by
  have e : cs.getD k 0 = cs[k] := by simp [List.getD_eq_getElem?_getD, List.getElem?_eq_getElem h]
  rw [e] at hx
  unfold cnt
  rw [List.take_succ_eq_append_getElem h, List.filter_append, List.length_append, List.filter_cons, hx]
  simp
theorem cnt_no {x : Int} {cs : List Int} {k : Nat} (h : k < cs.length) (hx : (cs.getD k 0 == x) = false) : cnt x (cs.take (k + 1)) = cnt x (cs.take k) := by
  have e : cs.getD k 0 = cs[k] := by simp [List.getD_eq_getElem?_getD, List.getElem?_eq_getElem h]
  rw [e] at hx
  unfold cnt
  rw [List.take_succ_eq_append_getElem h, List.filter_append, List.length_append, List.filter_cons, hx]
  simp

def cntB (s : Int) (cs : List Int) (x : Int) : Int := if Bd.okB s cs then cnt x cs else -1

end Go.Proofs.YteldfjibmaigiaaDoor

namespace Go.Proofs.YteldfjibmaigiaaDoor
set_option maxRecDepth 100000
open Go.RowKit

section
variable (s : Int) (w : World) (A : Option Addr) (n c : Nat) (cs : List Int)
variable (k : Int)
end

theorem len_of {cs : List Int} {n m : Nat} (h : (othCs cs).length = m) (h0 : cs.length = n) : n = m := by rw [othCs_len] at h; omega
theorem len_mv {s k : Int} {cs : List Int} {n m : Nat} (h : (Bd.mv s k cs).length = m) (h0 : cs.length = n) : n = m := by rw [Bd.mv_len] at h; omega
theorem oth_oth {x : Int} (h0 : 0 ≤ x) (h2 : x ≤ 2) : oth (oth x) = x := by
  have h3 : x = 0 ∨ x = 1 ∨ x = 2 := by omega
  rcases h3 with rfl | rfl | rfl <;> decide
theorem othCs_twice {cs : List Int} (h : OkL cs) : othCs (othCs cs) = cs := by
  rw [okL_mem] at h
  unfold othCs
  rw [List.map_map]
  conv => rhs; rw [← List.map_id cs]
  exact List.map_congr_left fun x hx => oth_oth (h x hx).1 (h x hx).2
theorem othCs_set (l : List Int) (p : Nat) (x : Int) : othCs (l.set p x) = (othCs l).set p (oth x) := by
  unfold othCs; rw [List.map_set]
theorem othCs_getD (cs : List Int) (j : Nat) : oth (cs.getD j 0) = (othCs cs).getD j 0 := by
  unfold othCs
  rw [List.getD_eq_getElem?_getD, List.getD_eq_getElem?_getD, List.getElem?_map]
  cases cs[j]? <;> rfl
theorem steps_oth (f : Nat → Nat) (cs : List Int) (j : Nat) (l : List Int) : othCs (Bd.steps f cs j l) = Bd.steps f (othCs cs) j (othCs l) := by
  induction j with
  | zero => rfl
  | succ j ih => rw [Bd.steps, Bd.steps, othCs_set, ih, othCs_getD]
theorem mv_oth (s k : Int) (cs : List Int) : Bd.mv s k (othCs cs) = othCs (Bd.mv s k cs) := by
  unfold Bd.mv
  rw [steps_oth, othCs_len]
end Go.Proofs.YteldfjibmaigiaaDoor

namespace Go.Proofs.YteldfjibmaigiaaDoor
set_option maxRecDepth 100000

theorem perm_of_sub {l r : List Nat} (hn : l.Nodup) (hs : ∀ x ∈ l, x ∈ r) (hl : r.length ≤ l.length) : List.Perm l r := by
  induction l generalizing r with
  | nil =>
    have e : r = [] := List.eq_nil_of_length_eq_zero (by simpa using hl)
    subst e
    exact .refl _
  | cons x l ih =>
    have hx : x ∈ r := hs x (by simp)
    obtain ⟨hxl, hnl⟩ := List.nodup_cons.1 hn
    refine List.Perm.trans ?_ (List.perm_cons_erase hx).symm
    refine List.Perm.cons x (ih hnl (fun y hy => ?_) ?_)
    · have hne : y ≠ x := fun e => hxl (e ▸ hy)
      exact (List.mem_erase_of_ne hne).2 (hs y (by simp [hy]))
    · rw [List.length_erase_of_mem hx]
      simp at hl
      omega

theorem nodup_map {f : Nat → Nat} {l : List Nat} (hn : l.Nodup) (hf : ∀ a ∈ l, ∀ b ∈ l, f a = f b → a = b) : (l.map f).Nodup := by
  induction l with
  | nil => simp
  | cons x l ih =>
    obtain ⟨hx, hl⟩ := List.nodup_cons.1 hn
    rw [List.map_cons, List.nodup_cons]
    refine ⟨fun hm => ?_, ih hl fun a ha b hb => hf a (by simp [ha]) b (by simp [hb])⟩
    obtain ⟨y, hy, he⟩ := List.mem_map.1 hm
    have := hf y (by simp [hy]) x (by simp) he
    exact hx (this ▸ hy)

theorem list_as_map (cs : List Int) : cs = (List.range cs.length).map fun p => cs.getD p 0 := by
  apply List.ext_getElem
  · simp
  · intro i h1 h2
    simp [List.getD_eq_getElem?_getD, List.getElem?_eq_getElem h1]

theorem mv_perm {s k : Int} {cs : List Int} (h1 : 1 ≤ s) (h2 : s ≤ 7) (hn : (cs.length : Int) = s * s) (k1 : 0 ≤ k) (k2 : k < 8) : List.Perm (Bd.mv s k cs) cs := by
  have hp : List.Perm ((List.range cs.length).map (Bd.imgN s k)) (List.range cs.length) := by
    refine perm_of_sub (nodup_map List.nodup_range fun a ha b hb he => ?_) (fun x hx => ?_) (by simp)
    · exact Bd.imgN_inj s k cs.length h1 h2 hn k1 k2 a b (List.mem_range.1 ha) (List.mem_range.1 hb) he
    · obtain ⟨p, hp, rfl⟩ := List.mem_map.1 hx
      exact List.mem_range.2 (Bd.imgN_lt s k cs.length p h1 h2 hn (List.mem_range.1 hp)).1
  have e1 := list_as_map (Bd.mv s k cs)
  rw [Bd.mv_len] at e1
  rw [e1]
  refine ((hp.map fun q => (Bd.mv s k cs).getD q 0).symm).trans ?_
  rw [List.map_map]
  conv => rhs; rw [list_as_map cs]
  have : (List.range cs.length).map ((fun q => (Bd.mv s k cs).getD q 0) ∘ Bd.imgN s k) = (List.range cs.length).map fun p => cs.getD p 0 := by
    apply List.map_congr_left
    intro p hp
    have hp' := List.mem_range.1 hp
    have := Bd.steps_at (f := Bd.imgN s k) (cs := cs) (l := cs) (j := cs.length) (fun a b ha hb he => Bd.imgN_inj s k cs.length h1 h2 hn k1 k2 a b ha hb he) (fun a ha => (Bd.imgN_lt s k cs.length a h1 h2 hn ha).1) hp'
    show (Bd.mv s k cs).getD (Bd.imgN s k p) 0 = _
    unfold Bd.mv
    rw [List.getD_eq_getElem?_getD, this]
    rfl
  rw [this]

theorem cnt_perm {a b : List Int} (h : List.Perm a b) (x : Int) : cnt x a = cnt x b := by
  unfold cnt
  rw [(h.filter _).length_eq]
theorem cnt_mv {s k : Int} {cs : List Int} (hv : Bd.okB s cs = true) (hk : Pt.okK k = true) (x : Int) : cnt x (Bd.mv s k cs) = cnt x cs := by
  obtain ⟨a, b, c, _⟩ := (Bd.okB_iff s cs).1 hv
  obtain ⟨k1, k2⟩ := (Pt.okK_iff k).1 hk
  exact cnt_perm (mv_perm a b c k1 k2) x
theorem cnt_oth {cs : List Int} (h : OkL cs) {x : Int} (x1 : 1 ≤ x) (x2 : x ≤ 2) : cnt (3 - x) (othCs cs) = cnt x cs := by
  rw [okL_mem] at h
  unfold cnt othCs
  rw [List.filter_map, List.length_map]
  congr 2
  apply List.filter_congr
  intro c hc
  have h3 : c = 0 ∨ c = 1 ∨ c = 2 := by have := h c hc; omega
  have h4 : x = 1 ∨ x = 2 := by omega
  rcases h3 with rfl | rfl | rfl <;> rcases h4 with rfl | rfl <;> rfl
theorem cnt_nonneg (x : Int) (cs : List Int) : 0 ≤ cnt x cs := by unfold cnt; omega
end Go.Proofs.YteldfjibmaigiaaDoor

namespace Go.Proofs.YteldfjibmaigiaaDoor
set_option maxRecDepth 100000
open Go.RowKit

theorem cntB_mv {s k x N : Int} {cs : List Int} (hv : Bd.okB s cs = true) (hk : Pt.okK k = true) (hN : cntB s cs x = N) : cntB s (Bd.mv s k cs) x = N := by
  rw [← hN, cntB, cntB, if_pos hv, if_pos (okB_mv hv), cnt_mv hv hk]
theorem cntB_oth {s x N : Int} {cs : List Int} (hv : Bd.okB s cs = true) (x1 : 1 ≤ x) (x2 : x ≤ 2) (hN : cntB s cs x = N) : cntB s (othCs cs) (3 - x) = N := by
  rw [← hN, cntB, cntB, if_pos hv, if_pos (okB_oth hv), cnt_oth (okL_mem.2 ((Bd.okB_iff s cs).1 hv).2.2.2) x1 x2]
theorem cntB_ok {s x N : Int} {cs : List Int} (hN : cntB s cs x = N) (h0 : 0 ≤ N) : Bd.okB s cs = true := by
  rcases Bool.eq_false_or_eq_true (Bd.okB s cs) with h | h
  · exact h
  · rw [cntB, h] at hN
    have : (-1 : Int) = N := hN
    omega

theorem mv_at {s k : Int} {cs : List Int} (h1 : 1 ≤ s) (h2 : s ≤ 7) (hn : (cs.length : Int) = s * s) (k1 : 0 ≤ k) (k2 : k < 8) {p : Nat} (hp : p < cs.length) : (Bd.mv s k cs)[Bd.imgN s k p]? = some (cs.getD p 0) :=
  Bd.steps_at (f := Bd.imgN s k) (cs := cs) (l := cs) (j := cs.length) (fun a b ha hb he => Bd.imgN_inj s k cs.length h1 h2 hn k1 k2 a b ha hb he) (fun a ha => (Bd.imgN_lt s k cs.length a h1 h2 hn ha).1) hp
theorem imgN_comp {s a b : Int} {n p : Nat} (h1 : 1 ≤ s) (h2 : s ≤ 7) (hn : (n : Int) = s * s) (a1 : 0 ≤ a) (a2 : a < 8) (b1 : 0 ≤ b) (b2 : b < 8) (hp : p < n) : Bd.imgN s (Pt.comp a b) p = Bd.imgN s b (Bd.imgN s a p) := by
  obtain ⟨c1, c2⟩ := Pt.comp_bd a b a1 a2 b1 b2
  obtain ⟨l1, e1⟩ := Bd.imgN_lt s a n p h1 h2 hn hp
  have hc := Pt.comp_tr a b s p a1 a2 b1 b2 h1 h2 (by omega) (by omega)
  rw [Pt.tr_in s a p h1 h2 (by omega) (by omega) a1 a2, ← e1, Pt.tr_in s b _ h1 h2 (by omega) (by omega) b1 b2, Pt.tr_in s (Pt.comp a b) p h1 h2 (by omega) (by omega) c1 c2] at hc
  unfold Bd.imgN at hc ⊢
  rw [hc]
theorem mv_mv {s a b : Int} {cs : List Int} (h1 : 1 ≤ s) (h2 : s ≤ 7) (hn : (cs.length : Int) = s * s) (a1 : 0 ≤ a) (a2 : a < 8) (b1 : 0 ≤ b) (b2 : b < 8) : Bd.mv s b (Bd.mv s a cs) = Bd.mv s (Pt.comp a b) cs := by
  obtain ⟨c1, c2⟩ := Pt.comp_bd a b a1 a2 b1 b2
  have hl : (Bd.mv s a cs).length = cs.length := Bd.mv_len _ _ _
  apply List.ext_getElem?
  intro q
  by_cases hq : q < cs.length
  · obtain ⟨p, hp, rfl⟩ := Bd.imgN_sur s (Pt.comp a b) cs.length h1 h2 hn c1 c2 q hq
    obtain ⟨l1, _⟩ := Bd.imgN_lt s a cs.length p h1 h2 hn hp
    rw [mv_at h1 h2 hn c1 c2 hp, imgN_comp h1 h2 hn a1 a2 b1 b2 hp, mv_at h1 h2 (by rw [hl]; exact hn) b1 b2 (by rw [hl]; exact l1), List.getD_eq_getElem?_getD, mv_at h1 h2 hn a1 a2 hp]
    rfl
  · rw [List.getElem?_eq_none (by rw [Bd.mv_len, hl]; omega), List.getElem?_eq_none (by rw [Bd.mv_len]; omega)]

theorem Ints.dr {w : World} {n : Nat} {A : Option Addr} {xs : List Int} (h : Ints w w.heap.size A n xs) : Ints w.drew w.drew.heap.size A n xs := h
theorem len_comp {s k : Int} {cs : List Int} {n m : Nat} (h : (Bd.mv s k cs).length = m) (h0 : cs.length = n) : n = m := len_mv h h0
end Go.Proofs.YteldfjibmaigiaaDoor

namespace Go.Proofs.YteldfjibmaigiaaDoor
set_option maxRecDepth 100000
open Go.RowKit

theorem l_colorAt (s : Int) (w : World) (A : Option Addr) (n c : Nat) (cs : List Int) (q : Nat) (e : Int) (h : Ints w w.heap.size A n cs) (hq : q < n) (he : cs.getD q 0 = e) :
    Calls Tryd.prog 22 #[.agg #[.int .i64 s, .slice A n c], .int .i64 (q : Nat)] w fun e' w' => e' = .returned (.int .i64 e) ∧ Below w.heap.size w w' := by
  obtain ⟨b, o, rfl, hbB, hc⟩ : ∃ b o, A = some ⟨b, o, none⟩ ∧ b < w.heap.size ∧ ∀ j, j < n → w.cell? ⟨b, o + j, none⟩ = some (.int .i64 (cs.getD j 0)) := by
    rcases h.2 with h0 | ⟨b, o, hA, hbB, hc⟩
    · omega
    · exact ⟨b, o, hA, hbB, hc⟩
  have hb1 : Below w.heap.size w (w.alloc (.cells #[.int .i64 s, .slice (some ⟨b, o, none⟩) n c] 25)) := (Below.refl _ _).alloc (Nat.le_refl _) _
  have ck := (hb1.cell (p := ⟨b, o + q, none⟩) hbB).trans (hc q hq)
  rw [he] at ck
  have Hb := Lib.hid hb1
  have X0 := Lib.hid (Bx.new 25 w s (.slice (some ⟨b, o, none⟩) n c))
  have u0 := X0.out.cell0
  have u1 := X0.out.cell1
  have ul := X0.out.lt
  have hqI : (q : Int) < n := by omega
  clear hc h he hb1
  go_enter Tryd.func22, Tryd.ntmps22
  go_wp2_with fail
  go_ret
  exact ⟨rfl, Hb.out⟩
end Go.Proofs.YteldfjibmaigiaaDoor

namespace Go.Proofs.YteldfjibmaigiaaDoor
set_option maxRecDepth 100000
open Go.RowKit

theorem r_anyPtB (B g q : Nat) (s : Int) (w : World) (h : Rdr w B g q) (hq : q ≤ 100000000000) (s1 : 0 ≤ s) (s2 : s ≤ 8) :
    Calls Tryd.prog 26 #[.pointer (some ⟨g, 0, none⟩), .int .i64 s] w fun e w' => Got (fun x => -1 ≤ x ∧ x ≤ 64) w B g (q + 2) e w' := by
  have hlt := h.lt
  obtain ⟨m1, m2⟩ := sq8 s s1 s2
  go_enter Tryd.func26, Tryd.ntmps26
  go_wp2_with fail
  refine (r_pick B g q _ _ h (by omega)).mono ?_
  rintro e w1 ⟨x, rfl, x1, x2, hr, hw⟩
  have hz := hw.size
  have Hw := Lib.hid hw
  clear hw h
  by_cases h0 : x = 0
  · have hb : ((x : Int) == 0) = true := by simpa using h0
    clear h0
    go_wp2_with fail
    have hl := Ints.lit w1 3 [-1, s * s, 49]
    have hlt1 := hr.lt
    refine (r_one B g (q + 1) _ _ [-1, s * s, 49] _ _ (hr.below ((Below.refl _ _).alloc (Nat.le_refl _) _) hlt1) (by omega) hl (by simp) (by simp) (by simp) (by rintro b o e; injection e with e; injection e; omega)).mono ?_
    rintro e w2 ⟨y, rfl, hy, hr2, hw2⟩
    have Hr := Lib.hid hr2
    have Hy : Hid (-1 ≤ y ∧ y ≤ 64) := Lib.hid (by simp at hy; omega)
    have Hw2 := Lib.hid (gtrans Hw.out (gtrans (World.grownBy_alloc w1 _ (some g)) hw2))
    clear hr hw2 hl hy hr2
    go_wp2_with fail
    go_ret
    exact ⟨_, rfl, Hy.out, Hr.out, Hw2.out⟩
  · have hb : ((x : Int) == 0) = false := by simpa using h0
    clear h0
    go_wp2_with fail
    all_goals
      refine (r_pick B g (q + 1) _ _ hr (by omega)).mono ?_
      rintro e w2 ⟨y, rfl, y1, y2, hr2, hw2⟩
      have Hr := Lib.hid hr2
      have Hw2 := Lib.hid (gtrans Hw.out hw2)
      have Hy : Hid (-1 ≤ y ∧ y ≤ 64) := Lib.hid (by omega)
      clear hr hw2 hr2 y1 y2
      go_wp2_with fail
      go_ret
      exact ⟨_, rfl, Hy.out, Hr.out, Hw2.out⟩

/-- A drawn board and a point that may be wrong. -/
def DrawnAP (w : World) (B g lo q : Nat) (e : Ending) (w' : World) : Prop :=
  ∃ (s : Int) (A : Option Addr) (n c : Nat) (cs : List Int) (q' : Nat) (p : Int), e = .returned (.tuple #[.agg #[.int .i64 s, .slice A n c], .int .i64 p]) ∧ IntsF w' lo A n cs ∧ n ≤ 49 ∧ 0 ≤ s ∧ s ≤ 8 ∧ -1 ≤ p ∧ p ≤ 64 ∧ Rdr w' B g q' ∧ q' ≤ q ∧ w.grownBy w' (some g)

/-- The world when 'boardPoint' has stored its board. -/
theorem bp_end {w yf : World} {B g q' n c : Nat} {s : Int} {A : Option Addr} {cs : List Int} (X2 : Bx 25 yf w.heap.size 0 (.slice none 0 0)) (Hi : IntsF yf (w.heap.size + 1) A n cs) (Hr : Rdr yf B g q') (hBw : B ≤ w.heap.size) (hgw : g < w.heap.size) (Hg : w.grownBy yf (some g)) :
    ((yf.setCell ⟨w.heap.size, 0, none⟩ (.int .i64 s)).setCell ⟨w.heap.size, 1, none⟩ (.slice A n c)).cell? ⟨w.heap.size, 0, none⟩ = some (.int .i64 s) ∧
    ((yf.setCell ⟨w.heap.size, 0, none⟩ (.int .i64 s)).setCell ⟨w.heap.size, 1, none⟩ (.slice A n c)).cell? ⟨w.heap.size, 1, none⟩ = some (.slice A n c) ∧
    IntsF ((yf.setCell ⟨w.heap.size, 0, none⟩ (.int .i64 s)).setCell ⟨w.heap.size, 1, none⟩ (.slice A n c)) w.heap.size A n cs ∧
    Rdr ((yf.setCell ⟨w.heap.size, 0, none⟩ (.int .i64 s)).setCell ⟨w.heap.size, 1, none⟩ (.slice A n c)) B g q' ∧
    w.grownBy ((yf.setCell ⟨w.heap.size, 0, none⟩ (.int .i64 s)).setCell ⟨w.heap.size, 1, none⟩ (.slice A n c)) (some g) :=
  ⟨((X2.set0 s).set1 (.slice A n c)).cell0, ((X2.set0 s).set1 (.slice A n c)).cell1,
    ((Hi.far ⟨w.heap.size, 0, none⟩ (Nat.lt_succ_self _) (.int .i64 s)).far ⟨w.heap.size, 1, none⟩ (Nat.lt_succ_self _) (.slice A n c)).weaken (by omega),
    (Hr.far ⟨w.heap.size, 0, none⟩ (by show g ≠ w.heap.size; omega) (by show B ≤ w.heap.size; omega) (.int .i64 s)).far ⟨w.heap.size, 1, none⟩ (by show g ≠ w.heap.size; omega) (by show B ≤ w.heap.size; omega) (.slice A n c),
    gset (gset Hg ⟨w.heap.size, 0, none⟩ (Nat.le_refl _) (.int .i64 s)) ⟨w.heap.size, 1, none⟩ (Nat.le_refl _) (.slice A n c)⟩

end Go.Proofs.YteldfjibmaigiaaDoor

namespace Go.Proofs.YteldfjibmaigiaaDoor
set_option maxRecDepth 100000
open Go.RowKit

/-- What a law's draw of a board and two ints gives. -/
def DrawnLII (P Q : Int → Prop) (w : World) (e : Ending) (w' : World) : Prop :=
  ∃ (s : Int) (A : Option Addr) (n c : Nat) (cs : List Int) (p x : Int), e = .returned (.tuple #[.agg #[.int .i64 s, .slice A n c], .int .i64 p, .int .i64 x]) ∧ Ints w' w'.heap.size A n cs ∧ n ≤ 49 ∧ 0 ≤ s ∧ s ≤ 8 ∧ P p ∧ Q x ∧ Below w.heap.size w w'

end Go.Proofs.YteldfjibmaigiaaDoor

namespace Go.Proofs.YteldfjibmaigiaaDoor
set_option maxRecDepth 100000
open Go.RowKit

section
variable (s p x : Int) (w : World) (A : Option Addr) (n c : Nat) (cs ds : List Int)
theorem i_setW (h : Ints w w.heap.size A n cs) (hn : n ≤ 49) (hb : setB s cs p x = true) (hd : cs.set p.toNat x = ds) :
    Calls Tryd.prog 48 #[.agg #[.int .i64 s, .slice A n c], .int .i64 p, .int .i64 x] w fun e w' => ∃ A1 c1, e = .returned (.tuple #[.agg #[.int .i64 s, .slice A1 n c1], .bool true]) ∧ Own w' w.heap.size A1 n c1 ds ∧ Below w.heap.size w w' := by
  have hl := h.1
  refine (i_set s p x w w.heap.size A n c cs h (Nat.le_refl _) (by omega)).mono ?_
  rintro e w' ⟨A1, n1, c1, rfl, ho, hb1⟩
  rw [setCs, hb, if_pos rfl, hd] at ho
  have e1 := ho.1
  rw [← hd, List.length_set] at e1
  obtain rfl : n1 = n := by omega
  exact ⟨_, _, by rw [setS, hb]; rfl, ho, hb1⟩
theorem i_setN (h : Ints w w.heap.size A n cs) (hn : n ≤ 49) (hb : setB s cs p x = false) :
    Calls Tryd.prog 48 #[.agg #[.int .i64 s, .slice A n c], .int .i64 p, .int .i64 x] w fun e w' => ∃ A1 c1, e = .returned (.tuple #[.agg #[.int .i64 0, .slice A1 0 c1], .bool false]) ∧ Own w' w.heap.size A1 0 c1 [] ∧ Below w.heap.size w w' := by
  refine (i_set s p x w w.heap.size A n c cs h (Nat.le_refl _) (by omega)).mono ?_
  rintro e w' ⟨A1, n1, c1, rfl, ho, hb1⟩
  rw [setCs, hb, if_neg (by decide)] at ho
  obtain rfl : 0 = n1 := ho.1
  exact ⟨_, _, by rw [setS, hb]; rfl, ho, hb1⟩
end
theorem setB_iff {s p x : Int} {cs : List Int} : setB s cs p x = true ↔ Bd.okB s cs = true ∧ Pt.okP s p = true ∧ Bd.okC x = true := by
  unfold setB; simp [and_assoc]
theorem setB_set {s p x y : Int} {cs : List Int} (h : setB s cs p x = true) (hy : Bd.okC y = true) : setB s (cs.set p.toNat x) p y = true := by
  obtain ⟨a, b, c⟩ := setB_iff.1 h
  obtain ⟨a1, a2, a3, a4⟩ := (Bd.okB_iff s cs).1 a
  refine setB_iff.2 ⟨(Bd.okB_iff s _).2 ⟨a1, a2, by rw [List.length_set]; exact a3, fun z hz => ?_⟩, b, hy⟩
  rcases List.mem_or_eq_of_mem_set hz with h | rfl
  · exact a4 z h
  · simpa [Bd.okC] using c
theorem set_back {cs : List Int} {p : Nat} (x : Int) (h : p < cs.length) : (cs.set p x).set p (cs.getD p 0) = cs := by
  rw [List.set_set, List.getD_eq_getElem?_getD, List.getElem?_eq_getElem h]
  exact List.set_getElem_self h
end Go.Proofs.YteldfjibmaigiaaDoor

namespace Go.Proofs.YteldfjibmaigiaaDoor
set_option maxRecDepth 100000
open Go.RowKit

def DrawnLR (w : World) (e : Ending) (w' : World) : Prop :=
  ∃ (s : Int) (A : Option Addr) (n c : Nat) (cs : List Int) (x p : Int) (b : Bool), e = .returned (.tuple #[.agg #[.int .i64 s, .slice A n c], .int .i64 x, .int .i64 p, .bool b]) ∧ Ints w' w'.heap.size A n cs ∧ n ≤ 49 ∧ 0 ≤ s ∧ s ≤ 8 ∧ -1 ≤ x ∧ x ≤ 8 ∧ Below w.heap.size w w'
theorem d_hashAft (w : World) (a : Option Addr) (len cap : Nat) (zs : List Int) (h : IsRow .u8 w a len cap zs) :
    Calls Tryd.prog 19 #[.slice a len cap] w fun e w' => DrawnLR w e w' := by
  have hb1 : Below w.heap.size w (w.alloc (.cells #[.int .i64 0, .slice none 0 0] 25)) := (Below.refl _ _).alloc (Nat.le_refl _) _
  have X2 := Lib.hid (Bx.new 25 w 0 (.slice none 0 0))
  have hsz : w.heap.size < (w.alloc (.cells #[.int .i64 0, .slice none 0 0] 25)).heap.size := by simp
  have Hsz := Lib.hid hsz
  have Hb := Lib.hid hb1
  have H := Lib.hid (h.below hb1)
  clear h hb1 hsz
  go_enter Tryd.func19, Tryd.ntmps19
  go_wp2_with fail
  refine (d_playO _ _ _ _ zs H.out).mono ?_
  rintro e y ⟨s, A, n, c, cs, x, p, b, rfl, hi, hn, s0, s8, x0, x8, hb⟩
  have X2 := Lib.hid (X2.out.step hb)
  have Hb := Lib.hid (bstep Hb.out hb)
  have Hi := Lib.hid ((hi.far ⟨w.heap.size, 0, none⟩ Hsz.out (.int .i64 s)).far ⟨w.heap.size, 1, none⟩ Hsz.out (.slice A n c)).ints
  clear hi hb
  have r0 := X2.out.cell0
  have r1 := X2.out.cell1
  have r2 := X2.out.frozen 0
  have r3 := X2.out.frozen 1
  have r4 := X2.out.lt
  have K0 := Lib.hid ((X2.out.set0 s).cell0)
  have K1 := Lib.hid (((X2.out.set0 s).set1 (.slice A n c)).cell1)
  have Hb3 := Lib.hid ((Hb.out.setCell (p := ⟨w.heap.size, 0, none⟩) (Nat.le_refl _) (.int .i64 s)).setCell (p := ⟨w.heap.size, 1, none⟩) (Nat.le_refl _) (.slice A n c))
  go_wp2_with fail
  have k0 := K0.out
  have k1 := K1.out
  refine bodyPost_ret (v := .tuple #[.agg #[.int .i64 s, .slice A n c], .int .i64 x, .int .i64 p, .bool b]) (by simp [results, Tryd.results19, go_sem, k0, k1]) rfl ?_
  exact ⟨_, _, _, _, _, _, _, _, rfl, Hi.out, hn, s0, s8, x0, x8, Hb3.out⟩
def BelowY (Y w : World) : Prop := Below Y.heap.size Y w
theorem BelowY.step {Y w w' : World} (h : BelowY Y w) (hb : Below w.heap.size w w') : BelowY Y w' := bstep h hb
theorem Hb.cell {w : World} {B b o n : Nat} {xs : List Int} {j : Nat} {v : Int} (h : Ints w B (some ⟨b, o, none⟩) n xs) (hj : j < n) (hv : xs.getD j 0 = v) : w.cell? ⟨b, o + j, none⟩ = some (.int .i64 v) := by
  rcases h.2 with h0 | ⟨b', o', e, _, hc⟩
  · omega
  · injection e with e
    injection e with e1 e2
    subst e1; subst e2
    rw [← hv]
    exact hc j hj
theorem i_plB (s x p : Int) (su : Bool) (w : World) (A : Option Addr) (n c : Nat) (cs : List Int) (R : Option (List Int × List Int)) (rs : Int) (rc rg : List Int) (ok : Bool) (h : Ints w w.heap.size A n cs) (hn : n ≤ 1000000000) (hR : Hid (PlB s n cs x p su R)) (hV : Hid (View s R rs rc rg ok)) (ht : Tab w) (he : ErrW w) : Calls Tryd.prog 7 #[.agg #[.int .i64 s, .slice A n c], .int .i64 x, .int .i64 p, .bool su] w fun e w' => ∃ A1 n1 c1 A2 n2 c2, e = .returned (.tuple #[.agg #[.int .i64 rs, .slice A1 n1 c1], .slice A2 n2 c2, .bool ok]) ∧ (Own w' w.heap.size A1 n1 c1 rc ∧ Own w' w.heap.size A2 n2 c2 rg) ∧ Below w.heap.size w w' := by
  refine (i_PlV s x p su w _ A n c cs R rs rc rg ok h (Nat.le_refl _) hn hR hV ht he).mono ?_
  rintro e w' ⟨A1, n1, c1, A2, n2, c2, mid, rfl, h1, h2, h3, h4, h5, h6⟩
  exact ⟨A1, n1, c1, A2, n2, c2, rfl, ⟨h1, h3.weaken h4⟩, h6⟩
end Go.Proofs.YteldfjibmaigiaaDoor

