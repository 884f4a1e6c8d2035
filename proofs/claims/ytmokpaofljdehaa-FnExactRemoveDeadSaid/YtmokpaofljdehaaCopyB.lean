/-
  'copy' of a whole row onto a row of the call's own.
-/
import Derived.Test.YtmokpaofljdehaaCopy
import Derived.Laws.CopyOwn
namespace Go.Proofs.Ytmokpaofljdehaa
set_option maxRecDepth 100000
open Go.RowKit

theorem size_int : (Try.prog.info? 3).map (·.size) = some 1 := by kernel_rfl

theorem copyFull {ops : Array Oper} {rest : List Oper} {o : Oper} {a : Act} {Q : Exit → Act → World → Prop} (hgd : o.guard = none) (d s : Operand)
    (ho : o.op = .call { callee := .builtin .copy, args := #[d, s], argTypes := #[22, 22] })
    (w : World) (B g n c : Nat) (ys : List Int) (B' : Nat) (A : Option Addr) (c' : Nat) (xs : List Int) (hd : a.eval d = .slice (some ⟨g, 0, none⟩) n c) (hs : a.eval s = .slice A n c')
    (hown : Own w B (some ⟨g, 0, none⟩) n c ys) (hin : Ints w B' A n xs) (hpos : 0 < n)
    (h : ∀ w', Own w' B (some ⟨g, 0, none⟩) n c xs → w.grownBy w' (some g) → wpList Try.prog ops Q rest (a.put o.dst (goInt n)) w') :
    wpList Try.prog ops Q (o :: rest) a w := by
  have hl := hin.1
  rcases hin.2 with h0 | ⟨b, off, rfl, hbB, hc⟩
  · omega
  rcases hown.2.2 with ⟨e, _⟩ | ⟨g', cap, cur, e, hb, hh, hnc, hcm, hcs, htake⟩
  · cases e
  · obtain ⟨rfl, rfl⟩ : g = g' ∧ c = cap := by
      injection e with e1 e2 e3
      injection e1 with e1
      injection e1 with e1
      exact ⟨e1, e3⟩
    have hlen : (xs.map (Value.int .i64)).length = n := by rw [List.length_map, hl]
    refine wpList_copy_own hgd d s 22 22 ho 3 Try.underlying22 size_int g 0 n c ⟨b, off, none⟩ n c' hd hs cur 3 hh (xs.map (Value.int .i64)) (by rw [hlen]; simp) ?_ (by rw [hlen, hcs]; omega) (ints_oneCell _ _) ?_
    · intro j u hj
      have hj' : j < xs.length := by
        rcases Nat.lt_or_ge j xs.length with h | h
        · exact h
        · rw [List.getElem?_eq_none (by rw [List.length_map]; exact h)] at hj; cases hj
      have e : (⟨b, off, none⟩ : Addr).add j = ⟨b, off + j, none⟩ := by by_cases hj0 : j = 0 <;> simp [Addr.add, hj0]
      rw [e, hc j (by omega), ← hj]
      simp [List.getElem?_eq_getElem hj', List.getD_eq_getElem?_getD]
    · rw [hlen]
      refine h _ ⟨hl, by rw [List.length_map, hl]; omega, .inr ⟨g, c, _, rfl, hb, setRow_heap w g _ _ _ _ hh, hnc, hcm, ?_, ?_⟩⟩ ⟨rfl, rfl, rfl, by simp [World.setRow], fun k _ hk => setRow_other w g k _ (fun e => hk (by rw [e]))⟩
      · simp [hl, hcs]; omega
      · simp [hl]
end Go.Proofs.Ytmokpaofljdehaa
