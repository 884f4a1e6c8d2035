/-
  An append of a whole row onto an own row, as a step of a region that draws its order.
-/
import Derived.Test.YteldfjibmaigiaaDoorCopy
import Derived.Deep.RegionLaw
namespace Go.Proofs.YteldfjibmaigiaaDoor
set_option maxRecDepth 100000
open Go.RowKit

theorem stepAppAll {ops : Array Oper} {o : Oper} {a : Act} {K : Act → World → Prop} {Q : Exit → Act → World → Prop} {E : Prop} (hgd : o.guard = none) (s x : Operand)
    (ho : o.op = .call { callee := .builtin .append, args := #[s, x], argTypes := #[23, 23] })
    (w : World) (B : Nat) (As : Option Addr) (m cs0 : Nat) (ys : List Int) (B' : Nat) (A : Option Addr) (n c : Nat) (xs : List Int) (hs : a.eval s = .slice As m cs0) (hx : a.eval x = .slice A n c)
    (hown : Own w B As m cs0 ys) (hin : Ints w B' A n xs) (hB : B ≤ w.heap.size) (hn : m + n ≤ 1000000000) (hpos : 0 < n)
    (h : ∀ A' c' w', Own w' B A' (m + n) c' (ys ++ xs) → Below B w w' → w.grownBy w' (Value.slice As m cs0).ownBlock → K (a.put o.dst (.slice A' (m + n) c')) w') :
    if Region.wanted o (yielded ops a.tmps) = true then Oper.wp Tryd.prog o a w K Q else E := by
  obtain ⟨i0, hi, hz0, hz1, hz2⟩ := info_parts info_int
  have hl := hin.1
  rcases hin.2 with h0 | ⟨b, o', rfl, _, hc⟩
  · omega
  · refine step_append_lies w hgd s x 23 ho B 3 i0 (.int .i64 0) 1 8 Tryd.underlying23 hi hz0 hz1 hz2 rfl (by decide) _ m _ hs hown.2 _ n c (xs.map (Value.int .i64)) hx (by rw [List.length_map, hl]; omega) ?_ (ints_oneCell _ _) hpos (by unfold maxLen; omega) (by omega) hB _ rfl ?_
    · intro j u hj
      have hj' : j < xs.length := by
        rcases Nat.lt_or_ge j xs.length with h | h
        · exact h
        · rw [List.getElem?_eq_none (by rw [List.length_map]; exact h)] at hj; cases hj
      have e : (⟨b, o', none⟩ : Addr).add j = ⟨b, o' + j, none⟩ := by by_cases hj0 : j = 0 <;> simp [Addr.add, hj0]
      rw [e, hc j (by omega)]
      rw [← hj]
      simp [List.getElem?_eq_getElem hj', List.getD_eq_getElem?_getD]
    · intro g cap w' hown' hgr _ _
      exact h _ _ _ ⟨by rw [List.length_append, hown.1, hl], by simpa using hown'⟩ (below_g hgr hB (fun k hk => (World.ownsRow.lt hown.2 k hk).1)) hgr
/-- A call of a Go function, as a step of a region that draws its order. -/
theorem stepCall {P : Program} {ops : Array Oper} {o : Oper} {a : Act} {K : Act → World → Prop} {Q : Exit → Act → World → Prop} {E : Prop} (hgd : o.guard = none) (w : World) (f : FuncId) (args : Array Operand) (tys : Array TypeId)
    (ho : o.op = .call { callee := .value (.func f), args := args, argTypes := tys }) (hf : (P.funcs[f]?).map (fun fn => (fn.name == "runtime.NumGoroutine", fn.body.isNone)) = some (false, false)) (vs : Array Value) (hvs : args.map a.eval = vs) (R : Ending → World → Prop) (hc : Calls P f vs w R)
    (h : ∀ e w', R e w' → ∃ v, e = .returned v ∧ K (a.put o.dst v) w') :
    if Region.wanted o (yielded ops a.tmps) = true then Oper.wp P o a w K Q else E := by
  have hw : Region.wanted o (yielded ops a.tmps) = true := by simp [Region.wanted, hgd]
  rw [if_pos hw]
  have hrun : (execOp a.eval o).run P w = .ok (.enter f vs) w := by
    subst hvs
    obtain ⟨fn, hfn, he⟩ := Option.map_eq_some_iff.1 hf
    obtain ⟨e1, e2⟩ := Prod.mk.inj he
    simp [execOp, ho, resolve, invoke, Act.eval, Result.andThen, Deferred.ofValue, callFunc, Sem.run_bind, hfn]
    rw [if_neg (by simpa using e1), if_neg (by intro h; rw [h] at e2; cases e2)]
  unfold Oper.wp
  rw [hrun, Oper.upon_enter]
  refine hc.mono ?_
  intro e w' hr
  obtain ⟨v, rfl, hk⟩ := h e w' hr
  exact hk
end Go.Proofs.YteldfjibmaigiaaDoor
