/-
  The model's list of eyes and of false eyes.
-/
import Derived.Test.YtfpibldknjcehaaDoorEyeV
namespace Go.Proofs.YtfpibldknjcehaaDoor
set_option maxRecDepth 100000
open Go.RowKit

theorem own_blk {w : World} {B n c g : Nat} {A : Option Addr} {xs : List Int} (h : Own w B A n c xs) (hg : (Value.slice A n c).ownBlock = some g) : A = some ⟨g, 0, none⟩ := by
  rcases h.2.2 with ⟨e, _⟩ | ⟨g', cap, cur, e, _⟩
  · rw [e] at hg; cases hg
  · have hA : A = some ⟨g', 0, none⟩ := by injection e
    rw [hA] at hg ⊢
    have : g' = g := by simpa [Value.ownBlock] using hg
    rw [this]

/-- Two lists of the call's own, apart from each other. -/
structure TwoL (w : World) (B : Nat) (A : Option Addr) (n c : Nat) (xs : List Int) (D : Option Addr) (m d : Nat) (ys : List Int) : Prop where
  one : Own w B A n c xs
  two : Own w B D m d ys
  apart : ∀ g, A = some ⟨g, 0, none⟩ → D ≠ some ⟨g, 0, none⟩
theorem TwoL.below {w w' : World} {B n c m d : Nat} {A D : Option Addr} {xs ys : List Int} (h : TwoL w B A n c xs D m d ys) (hb : Below w.heap.size w w') : TwoL w' B A n c xs D m d ys := ⟨h.one.below hb, h.two.below hb, h.apart⟩
theorem TwoL.swap {w : World} {B n c m d : Nat} {A D : Option Addr} {xs ys : List Int} (h : TwoL w B A n c xs D m d ys) : TwoL w B D m d ys A n c xs := ⟨h.two, h.one, fun g h1 h2 => h.apart g h2 h1⟩
theorem TwoL.grow {w w' : World} {B n c c' m d : Nat} {A A' D : Option Addr} {xs xs' ys : List Int} (h : TwoL w B A n c xs D m d ys) (ho : Own w' B A' (n + 1) c' xs') (hg : w.grownBy w' (Value.slice A n c).ownBlock)
    (hat : ∀ g, A' = some ⟨g, 0, none⟩ → (Value.slice A n c).ownBlock = some g ∨ w.heap.size < g) : TwoL w' B A' (n + 1) c' xs' D m d ys := by
  refine ⟨ho, h.two.kept hg ?_, ?_⟩
  · intro g hD e
    exact h.apart g (own_blk h.one e) hD
  · intro g hA hD
    rcases hat g hA with e | e
    · exact h.apart g (own_blk h.one e) hD
    · have := (h.two.ge hD).2
      omega
theorem TwoL.under {w w' a : World} {B n c m d : Nat} {A D : Option Addr} {xs ys : List Int} (h : TwoL w B A n c xs D m d ys) (hb : Below B a w) (hg : w.grownBy w' (Value.slice A n c).ownBlock) (hB : B ≤ w.heap.size) : Below B a w' :=
  hb.grown hg hB (fun _ hk => (h.one.ge (own_blk h.one hk)).1)

section
variable (t : Nat) (x : Int) (w : World) (B : Nat) (A : Option Addr) (n c : Nat) (cs : List Int) (h : Ints w B A n cs) (hB : B ≤ w.heap.size) (h1 : 1 ≤ t) (h2 : t ≤ 7) (hn : n = t * t) (hv : Bd.okB t cs = true) (x1 : 1 ≤ x) (x2 : x ≤ 2)
  (m f : Nat) (hm : ∀ q, q < n → m.testBit q = eyeS t cs q x) (hf : ∀ q, q < n → f.testBit q = (encS t cs q x && !eyeS t cs q x))
include h hB h1 h2 hn hv x1 x2 hm hf

set_option maxHeartbeats 2000000 in
theorem s_EyesV : Calls Tryd.prog 10 #[.agg #[.int .i64 (t : Nat), .slice A n c], .int .i64 x] w fun e w' => ∃ A n1 c1 D n2 c2, e = .returned (.tuple #[.slice A n1 c1, .slice D n2 c2]) ∧ TwoL w' w.heap.size A n1 c1 (Bt.pts m n) D n2 c2 (Bt.pts f n) ∧ Below w.heap.size w w' := by
  have hb0 : Below w.heap.size w (w.alloc (.cells #[.int .i64 (t : Nat), .slice A n c] 27)) := (Below.refl _ _).alloc (Nat.le_refl _) _
  obtain ⟨W0, hW0⟩ : ∃ W, W = w.alloc (.cells #[.int .i64 (t : Nat), .slice A n c] 27) := ⟨_, rfl⟩
  have hs0 : W0.heap.size = w.heap.size + 1 := by rw [hW0]; simp
  have Bx0 : Bx 27 W0 w.heap.size (t : Nat) (.slice A n c) := by rw [hW0]; exact Bx.new _ _ _ _
  rw [← hW0] at hb0
  obtain ⟨W1, hW1⟩ : ∃ W, W = W0.alloc (.cells #[] 3) := ⟨_, rfl⟩
  obtain ⟨W2, hW2⟩ : ∃ W, W = W1.alloc (.cells #[] 3) := ⟨_, rfl⟩
  have b1 : Below W0.heap.size W0 W1 := by rw [hW1]; exact (Below.refl _ _).alloc (Nat.le_refl _) _
  have b2 : Below W1.heap.size W1 W2 := by rw [hW2]; exact (Below.refl _ _).alloc (Nat.le_refl _) _
  have hs1 : W1.heap.size = w.heap.size + 2 := by rw [hW1]; simp [hs0]
  have hs2 : W2.heap.size = w.heap.size + 3 := by rw [hW2]; simp [hs1]
  have o1 : Own W1 (w.heap.size + 1) (some ⟨w.heap.size + 1, 0, none⟩) 0 0 [] := by
    have := Own.bare W0 (w.heap.size + 1) (by omega)
    rw [← hW1, hs0] at this; exact this
  have o2 : Own W2 (w.heap.size + 1) (some ⟨w.heap.size + 1 + 1, 0, none⟩) 0 0 [] := by
    have := Own.bare W1 (w.heap.size + 1) (by omega)
    rw [← hW2, hs1] at this; exact this
  have two : TwoL W2 (w.heap.size + 1) (some ⟨w.heap.size + 1, 0, none⟩) 0 0 [] (some ⟨w.heap.size + 1 + 1, 0, none⟩) 0 0 [] := ⟨o1.below b2, o2, fun g e1 e2 => by injection e1 with e1; injection e2 with e2; injection e1 with e1; injection e2 with e2; omega⟩
  have hbb : Below w.heap.size w W2 := (hb0.trans (b1.mono (by omega))).trans (b2.mono (by omega))
  have H := Lib.hid (h.below hbb hB)
  have Bxx := Lib.hid ((Bx0.below b1 (by omega)).below b2 (by omega))
  have Hb := Lib.hid hbb
  have HW : W2 = ((w.alloc (.cells #[.int .i64 (t : Nat), .slice A n c] 27)).alloc (.cells #[] 3)).alloc (.cells #[] 3) := by rw [hW2, hW1, hW0]
  have Htwo := Lib.hid two
  obtain ⟨g1, g2, g3⟩ := Bt.sq_nat t h1 h2
  have hn49 : n ≤ 49 := by omega
  have hn1 : 1 ≤ n := by omega
  have Hv := Lib.hid hv
  have Hx : Hid ((decide (1 ≤ x) && decide (x ≤ 2)) = true) := Lib.hid (by simp [x1, x2])
  have CE : Hid (∀ (q : Nat) w, q < n → Ints w B A n cs → B ≤ w.heap.size → Calls Tryd.prog 20 #[.agg #[.int .i64 (t : Nat), .slice A n c], .int .i64 (q : Nat), .int .i64 x] w fun e w' => e = .returned (.bool (m.testBit q)) ∧ Below w.heap.size w w') := Lib.hid fun q w hq h hB => by
    rw [hm q hq]; exact s_isEye t q x w B A n c cs h hB h1 h2 hn (by omega) x1 x2
  have CN : Hid (∀ (q : Nat) w, q < n → Ints w B A n cs → B ≤ w.heap.size → m.testBit q = false → Calls Tryd.prog 28 #[.agg #[.int .i64 (t : Nat), .slice A n c], .int .i64 (q : Nat), .int .i64 x] w fun e w' => e = .returned (.bool (f.testBit q)) ∧ Below w.heap.size w w') := Lib.hid fun q w hq h hB hmq => by
    rw [hf q hq, ← hm q hq, hmq, Bool.not_false, Bool.and_true]; exact s_enclosed t q x w B A n c cs h hB h1 h2 hn (by omega)
  have HNf : Hid (∀ q, q < n → m.testBit q = true → f.testBit q = false) := Lib.hid fun q hq e => by rw [hf q hq, ← hm q hq, e, Bool.not_true, Bool.and_false]
  clear h h1 h2 hn hv x1 x2 hm hf hb0 hs0 hs1 b1 b2 o1 o2 two hbb g1 g2 g3 Bx0 hW1 hW2 hW0
  have v0 := Bxx.out.cell0
  have v1 := Bxx.out.cell1
  go_enter Tryd.func10, Tryd.ntmps10
  go_wp2_with fail
  rw [← HW]
  refine (s_validBoard _ _ _ _ _ _ _ H.out (by omega) (by omega)).mono ?_
  rintro e y ⟨rfl, hb⟩
  have H2 := Lib.hid (H.out.below hb (by omega))
  have Bx2 := Lib.hid (Bxx.out.below hb (by omega))
  have Ht2 := Lib.hid (Htwo.out.below hb)
  have Hb2 := Lib.hid (Hb.out.trans (hb.mono (by omega)))
  have hys : w.heap.size + 3 ≤ y.heap.size := by have := hb.size; omega
  have v0 := Bx2.out.cell0
  have v1 := Bx2.out.cell1
  clear hb HW
  rw [Hv.out]
  go_wp2_with fail
  refine (s_eyeColor _ _).mono ?_
  rintro e w' ⟨rfl, rfl⟩
  rw [Hx.out]
  clear v0 v1
  go_wp2_with fail
  go_loopw [6, 7, 8] (fun v u i wr => ∃ (k : Nat) (A1 : Option Addr) (n1 c1 : Nat) (D : Option Addr) (n2 c2 : Nat), k ≤ n ∧ v = .slice A1 n1 c1 ∧ u = .slice D n2 c2 ∧ i = .int .i64 (k : Nat) ∧ n1 ≤ k ∧ n2 ≤ k ∧ TwoL wr (w.heap.size + 1) A1 n1 c1 (Bt.pts m k) D n2 c2 (Bt.pts f k) ∧ Below (w.heap.size + 1) y wr) (fun _ _ i _ => n - (intOf i).toNat)
  case atStart => exact ⟨0, _, _, _, _, _, _, by omega, rfl, rfl, rfl, Nat.le_refl _, Nat.le_refl _, Ht2.out, Below.refl _ _⟩
  case round =>
    obtain ⟨k, A1, n1, c1, D, n2, c2, hk, rfl, rfl, rfl, hn1k, hn2k, htw, hbr⟩ := hrel
    have Bxr := Lib.hid (Bx2.out.below hbr (by omega))
    have Hr := Lib.hid (H2.out.below hbr (by omega))
    have Hbr := Lib.hid hbr
    have Htw := Lib.hid htw
    have hwr : w.heap.size + 3 ≤ wr.heap.size := by have := hbr.size; omega
    have v0 := Bxr.out.cell0
    have v1 := Bxr.out.cell1
    clear hbr htw
    by_cases hkn : k < n
    · have hkI : (k : Int) < n := by omega
      rcases Bool.eq_false_or_eq_true (m.testBit k) with e | e
      · have Hf0 := Lib.hid (HNf.out k hkn e)
        have He := Lib.hid e
        clear e
        go_wp2_with fail
        refine (CE.out k _ hkn Hr.out (by omega)).mono ?_
        rintro e y3 ⟨rfl, hb⟩
        rw [He.out]
        have Ht3 := Lib.hid (Htw.out.below hb)
        have Hb3 := Lib.hid (Hbr.out.trans (hb.mono (by omega)))
        have hz := hb.size
        clear hb v0 v1
        go_wp2_with (at_builtin; refine app1at rfl _ _ rfl _ _ _ _ _ _ _ _ rfl rfl (by simp) Ht3.out.one (by omega) (by omega) ?_; intro A' c' w' hown' hlt' hg' hat')
        have Ht4 := Lib.hid (Ht3.out.grow hown' hg' hat')
        have Hb4 := Lib.hid (Ht3.out.under Hb3.out hg' (by omega))
        clear hown' hg' hat'
        go_roundw
        case rel => exact ⟨k + 1, _, _, _, _, _, _, by omega, rfl, rfl, by go_num, by omega, by omega, by rw [Bt.pts_yes He.out, Bt.pts_no Hf0.out]; exact Ht4.out, Hb4.out⟩
        case measure => simp [intOf] <;> omega
      · have He := Lib.hid e
        clear e
        rcases Bool.eq_false_or_eq_true (f.testBit k) with e | e
        · have Hf0 := Lib.hid e
          clear e
          go_wp2_with fail
          refine (CE.out k _ hkn Hr.out (by omega)).mono ?_
          rintro e y3 ⟨rfl, hb⟩
          rw [He.out]
          have Ht3 := Lib.hid (Htw.out.below hb)
          have Hb3 := Lib.hid (Hbr.out.trans (hb.mono (by omega)))
          have Hr3 := Lib.hid (Hr.out.below hb (by omega))
          have Bx3 := Lib.hid (Bxr.out.below hb (by omega))
          have hz := hb.size
          clear hb v0 v1
          have v0 := Bx3.out.cell0
          have v1 := Bx3.out.cell1
          go_wp2_with fail
          refine (CN.out k _ hkn Hr3.out (by omega) He.out).mono ?_
          rintro e y4 ⟨rfl, hb⟩
          rw [Hf0.out]
          have Ht4 := Lib.hid (Ht3.out.below hb).swap
          have Hb4 := Lib.hid (Hb3.out.trans (hb.mono (by omega)))
          have hz2 := hb.size
          clear hb v0 v1
          go_wp2_with (at_builtin; refine app1at rfl _ _ rfl _ _ _ _ _ _ _ _ rfl rfl (by simp) Ht4.out.one (by omega) (by omega) ?_; intro A' c' w' hown' hlt' hg' hat')
          have Ht5 := Lib.hid (Ht4.out.grow hown' hg' hat').swap
          have Hb5 := Lib.hid (Ht4.out.under Hb4.out hg' (by omega))
          clear hown' hg' hat'
          go_roundw
          case rel => exact ⟨k + 1, _, _, _, _, _, _, by omega, rfl, rfl, by go_num, by omega, by omega, by rw [Bt.pts_yes Hf0.out, Bt.pts_no He.out]; exact Ht5.out, Hb5.out⟩
          case measure => simp [intOf] <;> omega
        · have Hf0 := Lib.hid e
          clear e
          go_wp2_with fail
          refine (CE.out k _ hkn Hr.out (by omega)).mono ?_
          rintro e y3 ⟨rfl, hb⟩
          rw [He.out]
          have Ht3 := Lib.hid (Htw.out.below hb)
          have Hb3 := Lib.hid (Hbr.out.trans (hb.mono (by omega)))
          have Hr3 := Lib.hid (Hr.out.below hb (by omega))
          have Bx3 := Lib.hid (Bxr.out.below hb (by omega))
          have hz := hb.size
          clear hb v0 v1
          have v0 := Bx3.out.cell0
          have v1 := Bx3.out.cell1
          go_wp2_with fail
          refine (CN.out k _ hkn Hr3.out (by omega) He.out).mono ?_
          rintro e y4 ⟨rfl, hb⟩
          rw [Hf0.out]
          have Ht4 := Lib.hid (Ht3.out.below hb)
          have Hb4 := Lib.hid (Hb3.out.trans (hb.mono (by omega)))
          have hz2 := hb.size
          clear hb v0 v1
          go_wp2_with fail
          go_roundw
          case rel => exact ⟨k + 1, _, _, _, _, _, _, by omega, rfl, rfl, by go_num, by omega, by omega, by rw [Bt.pts_no Hf0.out, Bt.pts_no He.out]; exact Ht4.out, Hb4.out⟩
          case measure => simp [intOf] <;> omega
    · obtain rfl : k = n := by omega
      have Hbf := Lib.hid (Hb2.out.trans (Hbr.out.mono (by omega)))
      go_wp2_with fail
      go_ret2
      exact ⟨_, _, _, _, _, _, rfl, ⟨Htw.out.one.weaken (by omega), Htw.out.two.weaken (by omega), Htw.out.apart⟩, Hbf.out⟩
end
end Go.Proofs.YtfpibldknjcehaaDoor
