/-
  The program's RemoveDead.
-/
import Derived.Test.YtmokpaofljdehaaVdI
import Derived.Test.YtmokpaofljdehaaCopy
import Derived.Test.YtmokpaofljdehaaBoardI
import Derived.Test.YtmokpaofljdehaaRows2
import Derived.Deep.RegionWith
import Derived.Deep.DeepCutAuto
namespace Go.Proofs.Ytmokpaofljdehaa
set_option maxRecDepth 100000
open Go.RowKit

theorem run_eql_nil {P : Program} (w : World) (t e : TypeId) (a : Option Addr) (l c : Nat) (h : P.underlying t = some (.slice e)) : (binOp .eql t (.slice a l c) (.slice none 0 0)).run P w = .ok (.bool a.isNone) w := by
  have h9 : ∀ d : Nat, (Op.equalIn (d + 1) t (.slice a l c) (.slice none 0 0)).run P w = .ok a.isNone w := fun d => by
    cases a <;> simp [Op.equalIn, run_underlying h]
  simp only [binOp]
  simp [Op.equal, Op.maxDepth, h9 9999]

theorem i_clone (w : World) (B : Nat) (A : Option Addr) (n c : Nat) (xs : List Int) (h : Ints w B A n xs) (hB : B ≤ w.heap.size) (hn : n ≤ 1000000) (h0 : 0 < n) :
    Calls Try.prog 54 #[.slice A n c] w fun e w' => ∃ A' c', e = .returned (.slice A' n c') ∧ Own w' w.heap.size A' n c' xs ∧ Below w.heap.size w w' := by
  obtain ⟨b, o, rfl⟩ : ∃ b o, A = some ⟨b, o, none⟩ := by
    rcases h.2 with h1 | ⟨b, o, hA, _⟩
    · omega
    · exact ⟨b, o, hA⟩
  have q22 : ∀ (w : World) (a : Option Addr) (n c : Nat), (binOp .eql 22 (.slice a n c) (.slice none 0 0)).run Try.prog w = .ok (.bool a.isNone) w := fun w a n c => run_eql_nil w _ _ a n c Try.underlying22
  have hb1 : Below w.heap.size w (w.alloc (.cells #[] 3)) := (Below.refl _ _).alloc (Nat.le_refl _) _
  have H := Lib.hid (h.below hb1 hB)
  have Ho := Lib.hid (Own.bare w w.heap.size (Nat.le_refl _))
  have Hb := Lib.hid hb1
  clear h hb1
  go_enter Try.func54, Try.ntmps54
  go_wp2_with (at_builtin; refine appAll rfl _ _ rfl _ _ _ _ _ _ _ _ _ _ _ rfl rfl Ho.out H.out (by simp) (by omega) ?_; intro A' c' w1 hown hb _; simp only [Nat.zero_add, List.nil_append] at hown)
  have Ho1 := Lib.hid hown
  have Hb1 := Lib.hid (Hb.out.trans (hb.mono (Nat.le_refl _)))
  clear hown hb
  go_ret
  exact ⟨_, _, by simp, Ho1.out, Hb1.out⟩

def CpRel (s : Int) (n : Nat) (cs : List Int) (W : World) (p : Value) (wx : World) : Prop :=
  ∃ (A' : Option Addr) (c' gb : Nat), p = .pointer (some ⟨gb, 0, none⟩) ∧ Bx 29 wx gb s (.slice A' n c') ∧ Own wx W.heap.size A' n c' cs ∧ (∀ q, A' = some ⟨q, 0, none⟩ → q ≠ gb) ∧ W.heap.size ≤ gb ∧ Below W.heap.size W wx
theorem CpRel.make {s : Int} {n c3 m1 : Nat} {os : List Int} {W y : World} {A3 : Option Addr} (h3 : Own y m1 A3 n c3 os) (hm : W.heap.size ≤ m1) (hb : Below W.heap.size W y) :
    CpRel s n os W (.pointer (some ⟨y.heap.size, 0, none⟩)) (y.alloc (.cells #[.int .i64 s, .slice A3 n c3] 29)) := by
  have hb2 : Below y.heap.size y (y.alloc (.cells #[.int .i64 s, .slice A3 n c3] 29)) := (Below.refl _ _).alloc (Nat.le_refl _) _
  exact ⟨A3, c3, _, rfl, Bx.new _ _ _ _, (h3.below hb2).weaken hm, fun q e => by have := (h3.ge e).2; omega, hb.size, hb.trans (hb2.mono hb.size)⟩
theorem CpRel.late {s : Int} {n c3 m1 g : Nat} {os : List Int} {W y : World} {A3 : Option Addr} {t : Int} {u : Value} (hx : Bx 29 y g t u) (h3 : Own y m1 A3 n c3 os) (hm : W.heap.size ≤ m1) (k3 : g < m1 ∨ ∀ q, A3 = some ⟨q, 0, none⟩ → q ≠ g) (hb : Below W.heap.size W y) (hg : W.heap.size ≤ g) :
    CpRel s n os W (.pointer (some ⟨g, 0, none⟩)) ((y.setCell ⟨g, 0, none⟩ (.int .i64 s)).setCell ⟨g, 1, none⟩ (.slice A3 n c3)) := by
  have f3 : ∀ q, A3 = some ⟨q, 0, none⟩ → q ≠ g := fun q e => by
    rcases k3 with k | k
    · have := (h3.ge e).1; omega
    · exact k q e
  exact ⟨A3, c3, g, rfl, (hx.set0 s).set1 _, ((h3.far ⟨g, 0, none⟩ f3 (.int .i64 s)).far ⟨g, 1, none⟩ f3 (.slice A3 n c3)).weaken hm, f3, hg, (hb.setCell (p := ⟨g, 0, none⟩) hg (.int .i64 s)).setCell (p := ⟨g, 1, none⟩) hg (.slice A3 n c3)⟩
theorem CpRel.late2 {s : Int} {n c3 m1 : Nat} {os : List Int} {W y : World} {A3 : Option Addr} (h3 : Own y m1 A3 n c3 os) (hm : W.heap.size ≤ m1) (hb : Below W.heap.size W y) :
    CpRel s n os W (.pointer (some ⟨y.heap.size, 0, none⟩)) (((y.alloc (.cells #[.int .i64 0, .slice none 0 0] 29)).setCell ⟨y.heap.size, 0, none⟩ (.int .i64 s)).setCell ⟨y.heap.size, 1, none⟩ (.slice A3 n c3)) := by
  have hb2 : Below y.heap.size y (y.alloc (.cells #[.int .i64 0, .slice none 0 0] 29)) := (Below.refl _ _).alloc (Nat.le_refl _) _
  exact CpRel.late (Bx.new 29 y 0 (.slice none 0 0)) (h3.below hb2) hm (.inr fun q e => by have := (h3.ge e).2; omega) (hb.trans (hb2.mono hb.size)) hb.size
end Go.Proofs.Ytmokpaofljdehaa
