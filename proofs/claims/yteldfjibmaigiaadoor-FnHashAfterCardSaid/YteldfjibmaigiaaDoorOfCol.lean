/-
  The model's 'ofColor': for each point whether it has a color.
-/
import Derived.Test.YteldfjibmaigiaaDoorWordsB
import Derived.Test.YteldfjibmaigiaaDoorRows2
import Derived.Deep.DeepCutAuto
import Derived.Deep.RegionWith
namespace Go.Proofs.YteldfjibmaigiaaDoor
set_option maxRecDepth 100000
open Go.RowKit

def OwnB (w : World) (B : Nat) (A : Option Addr) (n c : Nat) (bs : List Bool) : Prop :=
  bs.length = n ∧ w.ownsRow B 4 1 (.slice A n c) n (bs.map Value.bool)
theorem OwnB.alloc {w : World} {B n c : Nat} {A : Option Addr} {bs : List Bool} (h : OwnB w B A n c bs) (o : Obj) : OwnB (w.alloc o) B A n c bs := ⟨h.1, h.2.alloc o⟩
theorem OwnB.bare (w : World) (B : Nat) (hB : B ≤ w.heap.size) : OwnB (w.alloc (.cells #[] 4)) B (some ⟨w.heap.size, 0, none⟩) 0 0 [] :=
  ⟨rfl, World.ownsRow_made w #[] 0 hB (by simp) rfl⟩
/-- Where a row of bools that is not empty lies, and what its cells hold. -/
theorem OwnB.read {w : World} {B n c : Nat} {A : Option Addr} {bs : List Bool} (h : OwnB w B A n c bs) (hn : 0 < n) : ∃ g, A = some ⟨g, 0, none⟩ ∧ B ≤ g ∧ g < w.heap.size ∧ ∀ j, j < n → w.cell? ⟨g, 0 + j, none⟩ = some (.bool (bs.getD j false)) := by
  obtain ⟨g, cap, hv, hg, hlt⟩ := World.ownsRow.form h.2 hn
  have hA : A = some ⟨g, 0, none⟩ := by injection hv
  subst hA
  refine ⟨g, rfl, hg, hlt, fun j hj => ?_⟩
  have hj' : j < bs.length := by have := h.1; omega
  rw [Nat.zero_add, World.ownsRow.cellAt h.2 j (by omega)]
  simp [List.getElem?_eq_getElem hj', List.getD_eq_getElem?_getD]

/-- 'append(bs, b)' of one bool. -/
theorem app1b {ops : Array Oper} {rest : List Oper} {o : Oper} {a : Act} {Q : Exit → Act → World → Prop} (hgd : o.guard = none) (s x : Operand)
    (ho : o.op = .call { callee := .builtin .append, args := #[s, x], argTypes := #[91, 91] })
    (w : World) (B : Nat) (A : Option Addr) (n c : Nat) (xs : List Bool) (y : Bool) (G : Nat) (hs : a.eval s = .slice A n c) (hx : a.eval x = .slice (some ⟨G, 0, none⟩) 1 1) (hG : w.heap.size = G)
    (hown : OwnB w B A n c xs) (hB : B ≤ w.heap.size) (hn : n ≤ 1000000000)
    (h : ∀ A' c' w', OwnB w' B A' (n + 1) c' (xs ++ [y]) → Below B w w' → wpList Tryd.prog ops Q rest (a.put o.dst (.slice A' (n + 1) c')) w') :
    wpList Tryd.prog ops Q (o :: rest) a (w.alloc (.cells #[.bool y] 4)) := by
  subst hG
  obtain ⟨i0, hi, hz0, hz1, hz2⟩ := info_parts info_bool
  refine wpList_append_own _ hgd s x 91 ho B 4 i0 (.bool false) 1 1 Tryd.underlying91 hi hz0 hz1 hz2 rfl (by decide) _ n _ hs (hown.2.alloc _) ⟨w.heap.size, 0, none⟩ 1 1 [.bool y] hx rfl (cell_one_new _ _ _) ?_ ?_ ?_ ?_ ?_
  · intro u hu; simp at hu; subst hu; rfl
  · unfold maxLen; omega
  · omega
  · simp; omega
  · intro v' w' hown' hgrow hnil
    have hne : v' ≠ .slice none 0 0 := fun e => by have := (hnil.1 e).2; omega
    rcases hown'.2 with ⟨hv, _⟩ | ⟨g, cap, cur, hv, hr⟩
    · exact absurd hv hne
    · subst hv
      have hgr : w.grownBy w' (Value.slice A n c).ownBlock := gtrans (World.grownBy_alloc w _ _) hgrow
      exact h _ _ _ ⟨by simp [hown.1], by simpa using hown'⟩ (below_g hgr hB fun k hk => (World.ownsRow.lt hown.2 k hk).1)

def hasCol (x : Int) (cs : List Int) : List Bool := cs.map fun c => c == x
theorem hasCol_len (x : Int) (cs : List Int) : (hasCol x cs).length = cs.length := by simp [hasCol]
theorem hasCol_at {x : Int} {cs : List Int} {k : Nat} (h : k < cs.length) : (hasCol x cs).getD k false = (cs.getD k 0 == x) := by
  simp [hasCol, List.getD_eq_getElem?_getD, List.getElem?_eq_getElem h]
theorem hasCol_succ {x : Int} {cs : List Int} {k : Nat} (h : k < cs.length) : hasCol x (cs.take (k + 1)) = hasCol x (cs.take k) ++ [cs.getD k 0 == x] := by
  unfold hasCol
  rw [List.take_succ_eq_append_getElem h, List.map_append]
  have e : cs.getD k 0 = cs[k] := by simp [List.getD_eq_getElem?_getD, List.getElem?_eq_getElem h]
  rw [e]
  rfl

theorem s_ofColor (s x : Int) (w : World) (B : Nat) (A : Option Addr) (n c : Nat) (cs : List Int) (h : Ints w B A n cs) (hB : B ≤ w.heap.size) (hn : n ≤ 1000000) :
    Calls Tryd.prog 93 #[.agg #[.int .i64 s, .slice A n c], .int .i64 x] w fun e w' => ∃ A' c', e = .returned (.slice A' n c') ∧ OwnB w' w.heap.size A' n c' (hasCol x cs) ∧ Below w.heap.size w w' := by
  have hl := h.1
  have hb1 : Below w.heap.size w (w.alloc (.cells #[.int .i64 s, .slice A n c] 25)) := (Below.refl _ _).alloc (Nat.le_refl _) _
  have X0 := Lib.hid (Bx.new 25 w s (.slice A n c))
  have H := Lib.hid (h.below hb1 hB)
  have Hb := Lib.hid hb1
  have Hl := Lib.hid hl
  clear h hl hb1
  go_enter Tryd.func93, Tryd.ntmps93
  go_upto_region 1 with (fail)
  obtain ⟨y, hy⟩ : ∃ y, y = w.alloc (.cells #[.int .i64 s, .slice A n c] 25) := ⟨_, rfl⟩
  have hyz : w.heap.size < y.heap.size := by rw [hy]; simp
  rw [← hy] at X0 H Hb ⊢
  clear hy
  have Ho := Lib.hid (OwnB.bare y y.heap.size (Nat.le_refl _))
  have Hb2 := Lib.hid ((Below.refl y.heap.size y).alloc (Nat.le_refl _) (.cells #[] 4))
  have v0 := X0.out.cell0
  have v1 := X0.out.cell1
  go_wp2_with fail
  clear v0 v1
  go_loopw [5, 6] (fun v i wr => ∃ j A' c', j ≤ n ∧ i = .int .i64 (j : Nat) ∧ v = .slice A' j c' ∧ OwnB wr y.heap.size A' j c' (hasCol x (cs.take j)) ∧ Below y.heap.size y wr) (fun _ i _ => n - (intOf i).toNat)
  case atStart => exact ⟨0, _, _, by omega, rfl, rfl, Ho.out, Hb2.out⟩
  case round =>
    clear Ho Hb2
    obtain ⟨j, A', c', hj, rfl, rfl, ho, hb⟩ := hrel
    have X0r := Lib.hid (X0.out.below hb hyz)
    have v0 := X0r.out.cell0
    have v1 := X0r.out.cell1
    have vl := X0r.out.lt
    have hz := hb.size
    have Hor := Lib.hid ho
    have Hbr := Lib.hid hb
    have Hir := Lib.hid (H.out.below hb (by omega))
    clear ho hb
    by_cases hjn : j < n
    · have hA : ∃ b o, A = some ⟨b, o, none⟩ ∧ b < B ∧ wr.cell? ⟨b, o + j, none⟩ = some (.int .i64 (cs.getD j 0)) := by
        rcases Hir.out.2 with h0 | ⟨b, o, hA, hbB, hc⟩
        · omega
        · exact ⟨b, o, hA, hbB, hc j hjn⟩
      obtain ⟨b, o, hA, hbB, hck⟩ := hA
      rw [hA] at v1
      clear hA
      have Hsn := Lib.hid (hasCol_succ (x := x) (cs := cs) (k := j) (by rw [Hl.out]; exact hjn))
      obtain ⟨z, hz0⟩ : ∃ z, cs.getD j 0 = z := ⟨_, rfl⟩
      rw [hz0] at hck Hsn
      obtain ⟨bz, hbz⟩ : ∃ bz, (z == x) = bz := ⟨_, rfl⟩
      rw [hbz] at Hsn
      have hjn' : (j : Int) < n := by omega
      clear hz0
      go_wp2_with (at_builtin; refine app1b rfl _ _ rfl _ _ _ _ _ _ bz _ rfl rfl rfl Hor.out hz (by omega) ?_; intro A9 c9 w9 hown9 hb9)
      go_roundw
      case rel => exact ⟨j + 1, _, _, by omega, by go_num, rfl, by rw [Hsn.out]; exact hown9, Hbr.out.trans hb9⟩
      case measure => simp [intOf]; omega
    · obtain rfl : j = n := by omega
      have hfull : hasCol x (cs.take j) = hasCol x cs := by rw [List.take_of_length_le (by rw [Hl.out]; exact Nat.le_refl _)]
      have Hf := Lib.hid hfull
      clear hfull
      go_wp2_with fail
      go_ret
      have ho := Hor.out
      rw [Hf.out] at ho
      refine ⟨_, _, rfl, ⟨ho.1, ho.2.1, ?_⟩, Hb.out.trans (Hbr.out.mono (by omega))⟩
      rcases ho.2.2 with h2 | ⟨g, cap, cur, hv, hg, r⟩
      · exact .inl h2
      · exact .inr ⟨g, cap, cur, hv, by omega, r⟩
end Go.Proofs.YteldfjibmaigiaaDoor
