/-
  The draw of a size and a text that may be a point's name.
-/
import Derived.Test.YtcloolldnjhljaaDoorDrawNm
namespace Go.Proofs.YtcloolldnjhljaaDoor
set_option maxRecDepth 100000
open Go.RowKit

def GotS (w : World) (B g q : Nat) (e : Ending) (w' : World) : Prop :=
  ∃ t : ByteArray, e = .returned (.string t) ∧ t.size ≤ 100 ∧ Rdr w' B g q ∧ w.grownBy w' (some g)

theorem r_of (B g q b n c : Nat) (w : World) (h : Rdr w B g q) (hq : q ≤ 1000000000000) (hn0 : 0 < n) (hn : n ≤ 1000) (hb : b < w.heap.size) (hbg : b ≠ g)
    (hc : ∀ j, j < n → ∃ t : ByteArray, t.size ≤ 100 ∧ w.cell? ⟨b, j, none⟩ = some (.string t)) :
    Calls Tryd.prog 42 #[.pointer (some ⟨g, 0, none⟩), .slice (some ⟨b, 0, none⟩) n c] w fun e w' => GotS w B g (q + 1) e w' := by
  have Hc := Lib.hid hc
  clear hc
  go_enter Tryd.func42, Tryd.ntmps42
  go_wp2_with fail
  refine (r_pick B g q _ _ h hq).mono ?_
  rintro e w1 ⟨x, rfl, x1, x2, hr, hw⟩
  obtain ⟨k, rfl⟩ := Int.eq_ofNat_of_zero_le x1
  have hk : k < n := by omega
  obtain ⟨t, ht, hct⟩ := Hc.out k hk
  have hcell := (World.cell?_of_block (w' := w1) (w := w) (a := ⟨b, k, none⟩) (hw.block b (by omega) (by simpa using hbg))).trans hct
  have hlt : (k : Int) < n := by omega
  have Hr := Lib.hid hr
  have Hw := Lib.hid hw
  have Ht := Lib.hid ht
  clear hr hw hct ht
  go_wp2_with fail
  go_ret
  exact ⟨_, rfl, Ht.out, Hr.out, Hw.out⟩

def TwoS (w : World) (e : Ending) (w' : World) : Prop := ∃ (x : Int) (t : ByteArray), e = .returned (.tuple #[.int .i64 x, .string t]) ∧ t.size ≤ 100 ∧ Below w.heap.size w w'

theorem nm_size (s p : Int) : (nm s p).size ≤ 100 := by
  unfold nm
  split
  · rw [nmRC, strOfNums_size]; simp
  · simp [ByteArray.size]

set_option maxHeartbeats 2000000 in
theorem d_pp (w : World) (a : Option Addr) (len cap : Nat) (zs : List Int) (h : IsRow .u8 w a len cap zs) :
    Calls Tryd.prog 27 #[.slice a len cap] w fun e w' => TwoS w e w' := by
  go_enter Tryd.func27, Tryd.ntmps27
  go_wp2_with fail
  refine (r_new w a len cap zs h).mono ?_
  rintro e w1 ⟨g, rfl, hr, hb⟩
  go_wp2_with fail
  refine (r_anySize _ g 0 _ hr (by omega)).mono ?_
  rintro e w2 ⟨s, rfl, ⟨s1, s2⟩, hr2, hw2⟩
  have hb2 := bg hb hb.size hw2 hr2.1
  clear hb hw2 hr
  go_wp2_with fail
  refine (r_anyPoint _ g 1 s _ hr2 (by omega) s1 s2).mono ?_
  rintro e w3 ⟨p, rfl, _, hr3, hw3⟩
  have hb3 := bg hb2 hb2.size hw3 hr3.1
  clear hb2 hw3 hr2
  go_wp2_with fail
  refine (s_PN s p _).mono ?_
  rintro e w4 ⟨rfl, hb4⟩
  have hr4 := hr3.below hb4 hr3.lt
  have Hb4 := Lib.hid (hb3.trans (hb4.mono hb3.size))
  have Hsz := Lib.hid (nm_size s p)
  clear hb3 hb4 hr3
  go_wp2_with fail
  refine (r_pick _ g _ _ _ hr4 (by omega)).mono ?_
  rintro e w5 ⟨z, rfl, z1, z2, hr5, hw5⟩
  have Hb5 := Lib.hid (bg Hb4.out Hb4.out.size hw5 hr5.1)
  have hg5 := hr5.1
  have hl5 := hr5.lt
  have Hr5 := Lib.hid hr5
  clear hw5 hr4 hr5
  by_cases hz : z = 0
  · have bz : (z == 0) = true := by simpa using hz
    have hzz := Lib.hid hz
    clear hz
    go_wp2_with fail
    refine (r_of _ g _ w5.heap.size 11 _ _ (Hr5.out.below ((Below.refl _ _).alloc (Nat.le_refl _) _) hl5) (by omega) (by omega) (by omega) (by simp) (by omega) (fun j hj => ?_)).mono ?_
    · rw [World.cell?_alloc_at _ _ _ _ rfl]
      have : j = 0 ∨ j = 1 ∨ j = 2 ∨ j = 3 ∨ j = 4 ∨ j = 5 ∨ j = 6 ∨ j = 7 ∨ j = 8 ∨ j = 9 ∨ j = 10 := by omega
      rcases this with rfl | rfl | rfl | rfl | rfl | rfl | rfl | rfl | rfl | rfl | rfl <;> exact ⟨_, by decide, rfl⟩
    · rintro e w6 ⟨t, rfl, ht, hr6, hw6⟩
      have Hb6 := Lib.hid ((Hb5.out.alloc Hb5.out.size _).grown hw6 (by simp; have := Hb5.out.size; omega) (fun k e => by have := Option.some.inj e; omega))
      have Ht := Lib.hid ht
      clear hr6 hw6 ht
      go_wp2_with fail
      go_ret2
      exact ⟨_, _, rfl, Ht.out, Hb6.out⟩
  · have bz : (z == 0) = false := by simpa using hz
    clear hz
    go_wp2_with fail
    go_ret2
    exact ⟨_, _, rfl, Hsz.out, Hb5.out⟩
end Go.Proofs.YtcloolldnjhljaaDoor
