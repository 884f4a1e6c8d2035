/-
  The draws over a reader: 'one' of a list, a size, a point; and the whole draws of points' arguments: ints, and nothing that was there before is written.
-/
import Derived.Test.YteldfjibmaigiaaDoorReader
import Derived.Test.YteldfjibmaigiaaDoorWords
import Derived.RegionTactic
import Derived.OpenShut
namespace Go.Proofs.YteldfjibmaigiaaDoor
set_option maxRecDepth 100000
open Go.RowKit

def Got (P : Int → Prop) (w : World) (B g q : Nat) (e : Ending) (w' : World) : Prop :=
  ∃ x : Int, e = .returned (.int .i64 x) ∧ P x ∧ Rdr w' B g q ∧ w.grownBy w' (some g)

theorem r_one (B g q : Nat) (A : Option Addr) (c : Nat) (xs : List Int) (B' : Nat) (w : World) (h : Rdr w B g q) (hq : q ≤ 1000000000000) (hx : Ints w B' A xs.length xs) (hB : B' ≤ w.heap.size) (hpos : 0 < xs.length) (hl : xs.length ≤ 1000000)
    (hg : ∀ b o, A = some ⟨b, o, none⟩ → b ≠ g) :
    Calls Tryd.prog 51 #[.pointer (some ⟨g, 0, none⟩), .slice A xs.length c] w fun e w' => Got (· ∈ xs) w B g (q + 1) e w' := by
  rcases hx.2 with h0 | ⟨b, o, rfl, hb, hc⟩
  · omega
  · have hbg := hg b o rfl
    clear hg
    go_enter Tryd.func51, Tryd.ntmps51
    go_wp2_with fail
    refine (r_pick B g q _ _ h hq).mono ?_
    rintro e w1 ⟨x, rfl, x1, x2, hr, hw⟩
    obtain ⟨n, rfl⟩ := Int.eq_ofNat_of_zero_le x1
    have hn : n < xs.length := by omega
    have hcell := (World.cell?_of_block (w' := w1) (w := w) (a := ⟨b, o + n, none⟩) (hw.block b (by omega) (by simpa using hbg))).trans (hc n hn)
    clear hc
    have hlt : (n : Int) < xs.length := by omega
    have Hr := Lib.hid hr
    have Hw := Lib.hid hw
    clear hr hw
    go_wp2_with fail
    go_ret
    exact ⟨_, rfl, by simp, Hr.out, Hw.out⟩

theorem sq8 (s : Int) (h1 : 0 ≤ s) (h2 : s ≤ 8) : 0 ≤ s * s ∧ s * s ≤ 64 := by
  have : s = 0 ∨ s = 1 ∨ s = 2 ∨ s = 3 ∨ s = 4 ∨ s = 5 ∨ s = 6 ∨ s = 7 ∨ s = 8 := by omega
  rcases this with rfl | rfl | rfl | rfl | rfl | rfl | rfl | rfl | rfl <;> decide

theorem r_anyPoint (B g q : Nat) (s : Int) (w : World) (h : Rdr w B g q) (hq : q ≤ 100000000000) (s1 : 0 ≤ s) (s2 : s ≤ 8) :
    Calls Tryd.prog 26 #[.pointer (some ⟨g, 0, none⟩), .int .i64 s] w fun e w' => Got (fun _ => True) w B g (q + 2) e w' := by
  have hlt := h.lt
  obtain ⟨m1, m2⟩ := sq8 s s1 s2
  go_enter Tryd.func26, Tryd.ntmps26
  go_wp2_with fail
  refine (r_pick B g q _ _ h (by omega)).mono ?_
  rintro e w1 ⟨x, rfl, x1, x2, hr, hw⟩
  have hz := hw.size
  have Hw := Lib.hid hw
  clear hw h
  by_cases h0 : x = 0
  · have hb : ((x : Int) == 0) = true := by simpa using h0
    clear h0
    go_wp2_with fail
    have hl := Ints.lit w1 3 [-1, s * s, 49]
    have hlt1 := hr.lt
    refine (r_one B g (q + 1) _ _ [-1, s * s, 49] _ _ (hr.below ((Below.refl _ _).alloc (Nat.le_refl _) _) hlt1) (by omega) hl (by simp) (by simp) (by simp) (by rintro b o e; injection e with e; injection e; omega)).mono ?_
    rintro e w2 ⟨y, rfl, hy, hr2, hw2⟩
    have Hr := Lib.hid hr2
    have Hw2 := Lib.hid (gtrans Hw.out (gtrans (World.grownBy_alloc w1 _ (some g)) hw2))
    clear hr hw2 hl hy hr2
    go_wp2_with fail
    go_ret
    exact ⟨_, rfl, trivial, Hr.out, Hw2.out⟩
  · have hb : ((x : Int) == 0) = false := by simpa using h0
    clear h0
    go_wp2_with fail
    all_goals
      refine (r_pick B g (q + 1) _ _ hr (by omega)).mono ?_
      rintro e w2 ⟨y, rfl, y1, y2, hr2, hw2⟩
      have Hr := Lib.hid hr2
      have Hw2 := Lib.hid (gtrans Hw.out hw2)
      clear hr hw2 hr2
      go_wp2_with fail
      go_ret
      exact ⟨_, rfl, trivial, Hr.out, Hw2.out⟩

/-- What a law is told of the code that came in: nil, or a row of bytes. -/
def IsRow (k : IntKind) (w : World) (a : Option Addr) (len cap : Nat) (zs : List Int) : Prop :=
  (a = none ∧ len = 0 ∧ cap = 0 ∧ zs = []) ∨
  ∃ x, a = some x ∧ len ≤ cap ∧ cap ≤ maxLen ∧ zs.length = cap ∧ (∀ i, i < zs.length → w.cell? (x.add i) = some (.int k (zs.getD i 0))) ∧ ∀ n ∈ zs, (Lit.int k n).wf = true

theorem code_of {w : World} {a : Option Addr} {len cap : Nat} {zs : List Int} (h : IsRow .u8 w a len cap zs) (n : Nat) (hn : n ≤ len) (h2 : n ≤ 2000) : Code w w.heap.size a n := by
  by_cases h0 : n = 0
  · exact .inl h0
  · rcases h with ⟨_, h, _⟩ | ⟨x, rfl, hl, _, hz, hcell, hwz⟩
    · omega
    · obtain ⟨b, off, spot⟩ := x
      have hc := hcell 0 (by omega)
      have hspot : spot = none := by simpa [Addr.add] using World.cell?_spot hc
      subst hspot
      refine .inr ⟨b, off, rfl, ?_, h2, fun j hj => ?_⟩
      · exact World.block_lt_of_cell? w _ hc
      · have hj' := hcell j (by omega)
        have e : (⟨b, off, none⟩ : Addr).add j = ⟨b, off + j, none⟩ := by by_cases hj0 : j = 0 <;> simp [Addr.add, hj0]
        rw [e] at hj'
        refine ⟨_, ?_, ?_, hj'⟩
        all_goals
          have hlt : j < zs.length := by omega
          have hm : zs.getD j 0 ∈ zs := by
            rw [List.getD_eq_getElem?_getD, List.getElem?_eq_getElem hlt]; exact List.getElem_mem _
          have := bounds_u8 (hwz _ hm)
          omega

theorem r_new (w : World) (a : Option Addr) (len cap : Nat) (zs : List Int) (h : IsRow .u8 w a len cap zs) :
    Calls Tryd.prog 23 #[.slice a len cap] w fun e w' => ∃ g, e = .returned (.pointer (some ⟨g, 0, none⟩)) ∧ Rdr w' w.heap.size g 0 ∧ Below w.heap.size w w' := by
  have hcode := code_of h (min len 2000) (by omega) (by omega)
  have hcap : 2000 < len → 2000 ≤ cap := fun hl => by rcases h with ⟨_, h, _⟩ | ⟨x, _, h, _⟩ <;> omega
  have hlen : len ≤ 9223372036854775807 := by
    rcases h with ⟨_, h, _⟩ | ⟨x, _, h, h', _⟩
    · omega
    · unfold maxLen at h'; omega
  have Hc := Lib.hid hcode
  have hn : 2000 < len → a ≠ none := fun hl e => by subst e; rcases h with ⟨_, h, _⟩ | ⟨x, h, _⟩ <;> simp_all
  clear hcode
  by_cases hl : 2000 < len
  · have hcap' := hcap hl
    have hn' := hn hl
    clear hcap hn
    obtain ⟨x, rfl⟩ := Option.ne_none_iff_exists'.1 hn'
    clear hn'
    go_enter Tryd.func23, Tryd.ntmps23
    go_wp2
    go_ret
    have hb : Below w.heap.size w (w.alloc (.cells #[.slice (some x) 2000 cap, .int .i64 0] 75)) := (Below.refl _ _).alloc (Nat.le_refl _) _
    refine ⟨_, rfl, ⟨Nat.le_refl _, _, _, _, heap_alloc_new w _, ?_⟩, hb⟩
    have := Hc.out
    rw [Nat.min_eq_right (by omega)] at this
    exact this.keep fun k hk => hb.block k hk
  · clear hcap hn
    go_enter Tryd.func23, Tryd.ntmps23
    go_wp2
    go_ret
    have hb : Below w.heap.size w (w.alloc (.cells #[.slice a len cap, .int .i64 0] 75)) := (Below.refl _ _).alloc (Nat.le_refl _) _
    refine ⟨_, rfl, ⟨Nat.le_refl _, _, _, _, heap_alloc_new w _, ?_⟩, hb⟩
    have := Hc.out
    rw [Nat.min_eq_left (by omega)] at this
    exact this.keep fun k hk => hb.block k hk
end Go.Proofs.YteldfjibmaigiaaDoor
