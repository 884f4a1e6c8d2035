/-
  The model's copies of lists and boards.
-/
import Derived.Test.YteldfjibmaigiaaDoorRows2
import Derived.Deep.RegionWith
import Derived.Deep.DeepCutAuto
namespace Go.Proofs.YteldfjibmaigiaaDoor
set_option maxRecDepth 100000
open Go.RowKit

section
variable {P : Program} (w : World)
theorem run_app_nil (base : Nat) (t ty e : TypeId) (i : TypeInfo) (size : Nat) (ht : P.underlying t = some (.slice e)) (hi : P.info? e = some i)
    (v : Value) (n : Nat) (xs : List Value) (hown : w.ownsRow base e size v n xs) (c : Nat) : (Builtin.append_ #[t, t] ty #[v, .slice none 0 c]).run P w = .ok v w := by
  rcases hown.2 with ⟨rfl, rfl⟩ | ⟨g, cap, cur, rfl, _, _, hnc, _⟩
  · simp [Builtin.append_, run_underlying ht, sizeOf, typeInfo, hi, Builtin.lenOf, Builtin.firstCells]
  · simp [Builtin.append_, run_underlying ht, sizeOf, typeInfo, hi, Builtin.lenOf, Builtin.firstCells, hnc, storeCells]
end

/-- 'append(ys, xs...)' of a row that is read onto a row of the call's own. -/
theorem appAll {ops : Array Oper} {rest : List Oper} {o : Oper} {a : Act} {Q : Exit → Act → World → Prop} (hgd : o.guard = none) (s x : Operand)
    (ho : o.op = .call { callee := .builtin .append, args := #[s, x], argTypes := #[23, 23] })
    (w : World) (B : Nat) (As : Option Addr) (m cs0 : Nat) (ys : List Int) (B' : Nat) (A : Option Addr) (n c : Nat) (xs : List Int) (hs : a.eval s = .slice As m cs0) (hx : a.eval x = .slice A n c)
    (hown : Own w B As m cs0 ys) (hin : Ints w B' A n xs) (hB : B ≤ w.heap.size) (hn : m + n ≤ 1000000000)
    (h : ∀ A' c' w', Own w' B A' (m + n) c' (ys ++ xs) → Below B w w' → w.grownBy w' (Value.slice As m cs0).ownBlock → wpList Tryd.prog ops Q rest (a.put o.dst (.slice A' (m + n) c')) w') :
    wpList Tryd.prog ops Q (o :: rest) a w := by
  obtain ⟨i0, hi, hz0, hz1, hz2⟩ := info_parts info_int
  have hl := hin.1
  rcases A with _ | ad
  · have hn0 : n = 0 := by
      rcases hin.2 with h0 | ⟨b, o, hA, _⟩
      · exact h0
      · cases hA
    subst hn0
    have hxs : xs = [] := List.eq_nil_of_length_eq_zero hl
    subst hxs
    refine wpList_plain hgd fun K hK => ?_
    have hrun := run_app_nil (P := Tryd.prog) w B 23 o.type 3 i0 1 Tryd.underlying23 hi _ _ _ hown.2 c
    have := h As cs0 w (by simpa using hown) (Below.refl _ _) (World.grownBy.refl _ _)
    unfold Oper.wp
    simp [execOp, ho, resolve, invoke, builtin, hs, hx, hrun, Result.andThen]
    exact hK _ _ (by simpa using this)
  · refine wpList_append_own _ hgd s x 23 ho B 3 i0 (.int .i64 0) 1 8 Tryd.underlying23 hi hz0 hz1 hz2 rfl (by decide) _ m _ hs hown.2 ad n c (xs.map (Value.int .i64)) hx (by rw [List.length_map, hl]; omega) ?_ ?_ ?_ ?_ hB ?_
    · intro j u hj
      rcases hin.2 with h0 | ⟨b, o, hA, _, hc⟩
      · subst h0
        have hxs : xs = [] := List.eq_nil_of_length_eq_zero hl
        subst hxs
        simp at hj
      · injection hA with hA
        subst hA
        have hj' : j < xs.length := by
          rcases Nat.lt_or_ge j xs.length with h | h
          · exact h
          · rw [List.getElem?_eq_none (by rw [List.length_map]; exact h)] at hj; cases hj
        have e : (⟨b, o, none⟩ : Addr).add j = ⟨b, o + j, none⟩ := by by_cases hj0 : j = 0 <;> simp [Addr.add, hj0]
        rw [e, hc j (by omega)]
        rw [← hj]
        simp [List.getElem?_eq_getElem hj', List.getD_eq_getElem?_getD]
    · exact ints_oneCell _ _
    · unfold maxLen; omega
    · omega
    · intro v' w' hown' hgr hnil
      rcases hown'.2 with ⟨hv, hz⟩ | ⟨g, cap, cur, hv, hr⟩
      · subst hv
        have hz' : m + n = 0 := hz
        have e : (Value.slice none 0 0) = .slice none (m + n) 0 := by rw [hz']
        rw [e] at hown' ⊢
        exact h _ _ _ ⟨by rw [List.length_append, hown.1, hl], by simpa using hown'⟩ (below_g hgr hB (fun k hk => (World.ownsRow.lt hown.2 k hk).1)) hgr
      · subst hv
        exact h _ _ _ ⟨by rw [List.length_append, hown.1, hl], by simpa using hown'⟩ (below_g hgr hB (fun k hk => (World.ownsRow.lt hown.2 k hk).1)) hgr

theorem s_copyInts (w : World) (B : Nat) (A : Option Addr) (n c : Nat) (xs : List Int) (h : Ints w B A n xs) (hB : B ≤ w.heap.size) (hn : n ≤ 1000000) :
    Calls Tryd.prog 83 #[.slice A n c] w fun e w' => ∃ A' c', e = .returned (.slice A' n c') ∧ Own w' w.heap.size A' n c' xs ∧ Below w.heap.size w w' := by
  have hb1 : Below w.heap.size w (w.alloc (.cells #[] 3)) := (Below.refl _ _).alloc (Nat.le_refl _) _
  have H := Lib.hid (h.below hb1 hB)
  have Ho := Lib.hid (Own.bare w w.heap.size (Nat.le_refl _))
  have Hb := Lib.hid hb1
  clear h hb1
  go_enter Tryd.func83, Tryd.ntmps83
  go_wp2_with (at_builtin; refine appAll rfl _ _ rfl _ _ _ _ _ _ _ _ _ _ _ rfl rfl Ho.out H.out (by simp) (by omega) ?_; intro A' c' w1 hown hb _; simp only [Nat.zero_add, List.nil_append] at hown)
  have Ho1 := Lib.hid hown
  have Hb1 := Lib.hid (Hb.out.trans (hb.mono (Nat.le_refl _)))
  clear hown hb
  go_ret
  exact ⟨_, _, by simp, Ho1.out, Hb1.out⟩

theorem s_copyBoard (s : Int) (w : World) (B : Nat) (A : Option Addr) (n c : Nat) (xs : List Int) (h : Ints w B A n xs) (hB : B ≤ w.heap.size) (hn : n ≤ 1000000) :
    Calls Tryd.prog 63 #[.agg #[.int .i64 s, .slice A n c]] w fun e w' => ∃ A' c', e = .returned (.agg #[.int .i64 s, .slice A' n c']) ∧ Own w' w.heap.size A' n c' xs ∧ Below w.heap.size w w' := by
  have e1 : (w.alloc (.cells #[.int .i64 s, .slice A n c] 25)).heap.size = w.heap.size + 1 := by simp
  have x0 := (Bx.new 25 w s (.slice A n c)).alloc (.cells #[.int .i64 0, .slice none 0 0] 25)
  have x1 := Bx.new 25 (w.alloc (.cells #[.int .i64 s, .slice A n c] 25)) 0 (.slice none 0 0)
  rw [e1] at x1
  have hb2 : Below w.heap.size w ((w.alloc (.cells #[.int .i64 s, .slice A n c] 25)).alloc (.cells #[.int .i64 0, .slice none 0 0] 25)) := ((Below.refl _ _).alloc (Nat.le_refl _) _).alloc (by simp) _
  have H := Lib.hid (h.below hb2 hB)
  have X0 := Lib.hid x0
  have X1 := Lib.hid x1
  have Hb := Lib.hid hb2
  clear e1 x0 x1 hb2 h
  go_enter Tryd.func63, Tryd.ntmps63
  go_upto_region 1 with (fail)
  obtain ⟨y2, hy2⟩ : ∃ y, y = ((w.alloc (.cells #[.int .i64 s, .slice A n c] 25)).alloc (.cells #[.int .i64 0, .slice none 0 0] 25)) := ⟨_, rfl⟩
  rw [← hy2] at H X0 X1 Hb ⊢
  clear hy2
  have z2 := X1.out.lt
  have u00 := X0.out.cell0
  have u01 := X0.out.cell1
  have u02 := X0.out.lt
  go_cut [] (fun wx => ∃ A' c', Bx 25 wx (w.heap.size + 1) s (.slice A' n c') ∧ Own wx y2.heap.size A' n c' xs ∧ Below w.heap.size w wx)
  case first =>
    go_region_with (go_at_call 83; refine (s_copyInts _ B _ _ _ xs (by exact H.out) ?_ (by omega)).mono ?_; (show B ≤ y2.heap.size; omega); rintro e y ⟨A', c', rfl, ho, hb⟩; have hbw : Below y2.heap.size y2 y := ⟨hb.os, hb.tape, hb.output, hb.size, hb.block⟩; have u0 := (X0.out.below hbw X0.out.lt).cell0; have u1 := (X0.out.below hbw X0.out.lt).cell1; have v0 := (X1.out.below hbw X1.out.lt).cell0; have v1 := (X1.out.below hbw X1.out.lt).cell1; have v2 := (X1.out.below hbw X1.out.lt).frozen 0; have v3 := (X1.out.below hbw X1.out.lt).frozen 1; have v4 := (X1.out.below hbw X1.out.lt).lt; have HX1 := Lib.hid (X1.out.below hbw X1.out.lt); have Ho : Hid (Own y y2.heap.size A' n c' xs) := Lib.hid ho; have Hb' := Lib.hid hbw; clear ho hb hbw)
    all_goals go_wp2_with fail
    all_goals go_meet
    all_goals
      have ho2 := (Ho.out.far ⟨w.heap.size + 1, 0, none⟩ (fun g hA => by have := (Ho.out.ge hA).1; show g ≠ w.heap.size + 1; omega) (.int .i64 s)).far ⟨w.heap.size + 1, 1, none⟩ (fun g hA => by have := (Ho.out.ge hA).1; show g ≠ w.heap.size + 1; omega) (.slice A' n c')
      have hb3 := ((Hb.out.trans (Hb'.out.mono (by omega))).setCell (p := ⟨w.heap.size + 1, 0, none⟩) (by show w.heap.size ≤ w.heap.size + 1; omega) (.int .i64 s)).setCell (p := ⟨w.heap.size + 1, 1, none⟩) (by show w.heap.size ≤ w.heap.size + 1; omega) (.slice A' n c')
      exact ⟨A', c', (HX1.out.set0 s).set1 _, ho2, hb3⟩
  case rest =>
    obtain ⟨A', c', hx, ho, hb⟩ := hcut
    have Ho := Lib.hid ho
    have Hb2 := Lib.hid hb
    clear ho hb
    go_wp2_with fail
    have k0 := hx.cell0
    have k1 := hx.cell1
    refine bodyPost_ret (v := .agg #[.int .i64 s, .slice A' n c']) (by simp [results, Tryd.results63, go_sem, k0, k1]) rfl ?_
    exact ⟨_, _, rfl, Ho.out.weaken (by omega), Hb2.out⟩
end Go.Proofs.YteldfjibmaigiaaDoor
