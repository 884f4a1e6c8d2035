/-
  Lists of switches in the laws: copied, compared, marked; a list that came in.
-/
import Derived.Test.YtjolappndbmmaaaSwO
import Derived.Test.YtjolappndbmmaaaHoU
import Derived.Deep.SlicePairs
import Derived.Lib.SmallJoins
import Derived.Deep.RegionWith
import Derived.Deep.DeepCutAuto
namespace Go.Proofs.Ytjolappndbmmaaa
set_option maxRecDepth 100000
open Go.RowKit Go.ChangeShapes Go.WideShapes Go.ChangeAt Go.Joins Go.Deep

theorem flat_repl : ∀ n, flat (List.replicate n (0, 0)) = List.replicate (n * 2) (Value.int .i64 0)
  | 0 => rfl
  | n + 1 => by rw [List.replicate_succ, flat, flat_repl n, show (n + 1) * 2 = n * 2 + 1 + 1 by omega, List.replicate_succ, List.replicate_succ]
theorem flat_set : ∀ (ls : List (Int × Int)) (j : Nat) (l r : Int), ((flat ls).set (j * 2) (.int .i64 l)).set (j * 2 + 1) (.int .i64 r) = flat (ls.set j (l, r))
  | [], _, _, _ => by simp [flat]
  | x :: xs, 0, l, r => by simp [flat]
  | x :: xs, j + 1, l, r => by
    rw [show (j + 1) * 2 = j * 2 + 1 + 1 by omega]
    simp only [flat, List.set_cons_succ]
    rw [flat_set xs j l r]
theorem made2 (z : Value) (n : Nat) : (madeCells #[z, z] n).toList = List.replicate n z := by
  apply List.ext_getElem
  · simp [size_madeCells]
  · intro i h1 h2
    simp [madeCells]
    rcases Nat.mod_two_eq_zero_or_one i with h | h <;> rw [h] <;> rfl
set_option maxRecDepth 100000 in
/-- 'make([]Switch, n)'. -/
theorem makeSw {ops : Array Oper} {rest : List Oper} {o : Oper} {a : Act} {Q : Exit → Act → World → Prop} (hg : o.guard = none) (l : Operand) (hop : o.op = Op.makeSlice 31 l l)
    (w : World) (L : Int) (n : Nat) (hl : a.eval l = .int .i64 L) (hL : L = (n : Int)) (hn : n ≤ 1000000000)
    (h : ∀ w', OwS w' w.heap.size (some ⟨w.heap.size, 0, none⟩) n n (List.replicate n (0, 0)) → Below w.heap.size w w' → wpList Try.prog ops Q rest (a.put o.dst (.slice (some ⟨w.heap.size, 0, none⟩) n n)) w') :
    wpList Try.prog ops Q (o :: rest) a w := by
  obtain ⟨i0, hi, hz0, hz1, hz2⟩ := info_parts info_sw
  refine wpList_make_full w hg l l _ hop w.heap.size 39 i0 (.agg #[.int .i64 0, .int .i64 0]) 2 Try.underlying31 hi hz0 hz1 .i64 .i64 L L n hl hl hL hL (by rw [hz2]; omega) (by unfold maxLen; omega) (Nat.le_refl _) ?_
  intro w' hown hgr
  rw [show (Value.agg #[Value.int IntKind.i64 0, .int .i64 0]).cells = #[.int .i64 0, .int .i64 0] from rfl, made2, ← flat_repl] at hown
  exact h w' ⟨by simp, hown⟩ (below_g hgr (Nat.le_refl _) (fun k e => by cases e))
theorem OwS.stored {w : World} {B n c g : Nat} {ls : List (Int × Int)} (h : OwS w B (some ⟨g, 0, none⟩) n c ls) (j : Nat) (l r : Int) :
    OwS ((w.setCell ⟨g, j * 2, none⟩ (.int .i64 l)).setCell ⟨g, j * 2 + 1, none⟩ (.int .i64 r)) B (some ⟨g, 0, none⟩) n c (ls.set j (l, r)) ∧ w.grownBy ((w.setCell ⟨g, j * 2, none⟩ (.int .i64 l)).setCell ⟨g, j * 2 + 1, none⟩ (.int .i64 r)) (some g) := by
  have h1 := World.ownsRow.stored h.2 (j * 2) (.int .i64 l)
  have h2 := World.ownsRow.stored h1.1 (j * 2 + 1) (.int .i64 r)
  rw [flat_set] at h2
  exact ⟨⟨by simpa using h.1, h2.1⟩, gtrans h1.2 h2.2⟩
theorem OwS.cells {w : World} {B n c g : Nat} {ls : List (Int × Int)} (h : OwS w B (some ⟨g, 0, none⟩) n c ls) {j : Nat} (hj : j < n) :
    w.cell? ⟨g, j * 2, none⟩ = some (.int .i64 (ls.getD j (0, 0)).1) ∧ w.cell? ⟨g, j * 2 + 1, none⟩ = some (.int .i64 (ls.getD j (0, 0)).2) := by
  have hg := flat_get ls j (by rw [h.1]; exact hj)
  have e : ∀ i : Nat, (⟨g, 0, none⟩ : Addr).add i = ⟨g, i, none⟩ := fun i => by by_cases hj0 : i = 0 <;> simp [Addr.add, hj0]
  have c0 := World.ownsRow.cells h.2 (g := g) rfl (j * 2) _ hg.1
  have c1 := World.ownsRow.cells h.2 (g := g) rfl (j * 2 + 1) _ hg.2
  rw [e] at c0 c1
  exact ⟨c0, c1⟩
theorem OwS.frozen {w : World} {B n c g : Nat} {ls : List (Int × Int)} (h : OwS w B (some ⟨g, 0, none⟩) n c ls) (i : Nat) : w.frozen? ⟨g, i, none⟩ = false := World.ownsRow.frozenAt h.2 i
theorem OwS.some {w : World} {B n c : Nat} {A : Option Addr} {ls : List (Int × Int)} (h : OwS w B A n c ls) (hn : 0 < n) : ∃ g, A = some ⟨g, 0, none⟩ := by
  rcases h.2.2 with ⟨_, h0⟩ | ⟨g, cap, cur, hv, _⟩
  · omega
  · exact ⟨g, by injection hv⟩
theorem OwS.below {w w' : World} {B n c : Nat} {A : Option Addr} {ls : List (Int × Int)} (h : OwS w B A n c ls) (hb : Below w.heap.size w w') : OwS w' B A n c ls :=
  h.kept (gbelow none hb (Nat.le_refl _)) (fun g _ => by simp)
theorem OwS.weaken {w : World} {B B' n c : Nat} {A : Option Addr} {ls : List (Int × Int)} (h : OwS w B A n c ls) (hB : B' ≤ B) : OwS w B' A n c ls := by
  refine ⟨h.1, h.2.1, ?_⟩
  rcases h.2.2 with h2 | ⟨g, cap, cur, hv, hg, r⟩
  · exact .inl h2
  · exact .inr ⟨g, cap, cur, hv, by omega, r⟩
theorem Sws.more {w : World} {B B' n : Nat} {A : Option Addr} {ls : List (Int × Int)} (h : Sws w B A n ls) (hB : B ≤ B') : Sws w B' A n ls := by
  refine ⟨h.1, ?_⟩
  rcases h.2 with h | ⟨b, o, hA, hb, hc⟩
  · exact .inl h
  · exact .inr ⟨b, o, hA, by omega, hc⟩
theorem Sws.low {w w' : World} {B n : Nat} {A : Option Addr} {ls : List (Int × Int)} (h : Sws w B A n ls) {B' : Nat} (hb : Below B' w w') (hB : B ≤ B') : Sws w' B A n ls := by
  refine ⟨h.1, ?_⟩
  rcases h.2 with h0 | ⟨b, o, hA, hbB, hc⟩
  · exact .inl h0
  · exact .inr ⟨b, o, hA, hbB, fun j hj => ⟨(hb.cell (p := ⟨b, o + j * 2, none⟩) (by show b < _; omega)).trans (hc j hj).1, (hb.cell (p := ⟨b, o + j * 2 + 1, none⟩) (by show b < _; omega)).trans (hc j hj).2⟩⟩
theorem fill_pair {cs : List (Int × Int)} {n k : Nat} (hl : cs.length = n) (hk : k < n) :
    (cs.take k ++ List.replicate (n - k) (0, 0)).set k (cs.getD k (0, 0)) = cs.take (k + 1) ++ List.replicate (n - (k + 1)) (0, 0) := by
  have hlt : (cs.take k).length = k := by rw [List.length_take]; omega
  obtain ⟨m, hm⟩ : ∃ m, n - k = m + 1 := ⟨n - k - 1, by omega⟩
  have e : cs.getD k (0, 0) = cs[k]'(by omega) := by simp [List.getD_eq_getElem?_getD, List.getElem?_eq_getElem (show k < cs.length by omega)]
  have e2 : cs.take (k + 1) = cs.take k ++ [cs[k]'(by omega)] := List.take_succ_eq_append_getElem (by omega)
  rw [List.set_append_right _ _ (by omega), hlt, Nat.sub_self, hm, List.replicate_succ, List.set_cons_zero, e2, show n - (k + 1) = m by omega, e, List.append_assoc]
  rfl

theorem l_szSw (w : World) (A : Option Addr) (n c : Nat) (L : Int) (hn : n ≤ 9223372036854775807) (h1 : L = 1048576) : Calls Try.prog 28 #[.slice A n c, .int .i64 L] w fun e w' => e = .returned (.int .i64 (if 1048576 < n then -1 else L - n)) ∧ w' = w := by
  subst h1
  by_cases h : 1048576 < n
  · have hlt : (1048576 : Int) - n < 0 := by omega
    rw [if_pos h]
    go_enter Try.func28, Try.ntmps28
    go_wp2_with fail
    go_ret
    exact ⟨rfl, rfl⟩
  · have hlt : ¬ (1048576 : Int) - n < 0 := by omega
    rw [if_neg h]
    go_enter Try.func28, Try.ntmps28
    go_wp2_with fail
    go_ret
    exact ⟨rfl, rfl⟩
theorem l_toSw1 (x y : Int) (w : World) : Calls Try.prog 64 #[.agg #[.int .i64 x, .int .i64 y]] w fun r w' => r = .returned (.agg #[.int .i64 x, .int .i64 y]) ∧ Below w.heap.size w w' := by
  go_enter Try.func64, Try.ntmps64
  go_wp2
  go_returns
  exact ⟨rfl, (((Below.refl _ _).alloc (Nat.le_refl _) _).alloc (by simp) _).alloc (by simp; omega) _⟩
set_option maxRecDepth 100000 in
set_option maxHeartbeats 4000000 in
theorem l_toSws (w : World) (B : Nat) (A : Option Addr) (n c : Nat) (ls : List (Int × Int)) (h : Sws w B A n ls) (hB : B ≤ w.heap.size) (hn : n ≤ 1048576) :
    Calls Try.prog 29 #[.slice A n c] w fun e w' => ∃ A' c', e = .returned (.slice A' n c') ∧ OwS w' w.heap.size A' n c' ls ∧ Below w.heap.size w w' := by
  have H := Lib.hid h
  have Hl := Lib.hid h.1
  clear h
  go_enter Try.func29, Try.ntmps29
  go_wp2_with (at_make; refine makeSw rfl _ rfl _ _ n rfl rfl (by omega) ?_; intro w1 hown hb)
  have Ho := Lib.hid hown
  have Hb := Lib.hid hb
  clear hown hb
  go_wp2_with fail
  go_loopg [4] (n + 1) (fun q v4 wr => ∃ k : Nat, k + q = n + 1 ∧ k ≤ n ∧ v4 = .int .i64 (k : Nat) ∧ OwS wr w.heap.size (some ⟨w.heap.size, 0, none⟩) n n (ls.take k ++ List.replicate (n - k) (0, 0)) ∧ Below w.heap.size w wr)
  case atStart => exact ⟨0, by omega, by omega, rfl, by simpa using Ho.out, Hb.out⟩
  case round =>
    clear Ho Hb
    obtain ⟨k, hk, hkn, rfl, ho, hb⟩ := hrel
    obtain ⟨wi, rfl⟩ : ∃ wi : World, wi = wr := ⟨_, rfl⟩
    by_cases hkk : k = n
    · subst hkk
      have ho2 : OwS wi w.heap.size (some ⟨w.heap.size, 0, none⟩) k k ls := by
        have := ho
        rw [Nat.sub_self, List.take_of_length_le (by rw [Hl.out]; exact Nat.le_refl _)] at this
        simpa using this
      have Ho := Lib.hid ho2
      have Hb := Lib.hid hb
      have hlt : ¬ ((k : Nat) : Int) < (k : Nat) := by omega
      clear ho ho2 hb
      go_wp2_with fail
      go_ret
      exact ⟨_, _, rfl, Ho.out, Hb.out⟩
    · have hlt : ((k : Nat) : Int) < n := by omega
      have hk0 : (0 : Int) ≤ (k : Nat) := by omega
      rcases H.out.2 with h0 | ⟨b, o, rfl, hbB, hc⟩
      · omega
      obtain ⟨c0, c1⟩ := hc k (by omega)
      have c0 := (hb.cell (p := ⟨b, o + k * 2, none⟩) (by show b < _; omega)).trans c0
      have c1 := (hb.cell (p := ⟨b, o + k * 2 + 1, none⟩) (by show b < _; omega)).trans c1
      have Ho := Lib.hid ho
      have Hb := Lib.hid hb
      have hp : ls.getD k (0, 0) = ((ls.getD k (0, 0)).1, (ls.getD k (0, 0)).2) := rfl
      obtain ⟨l, hl⟩ : ∃ l, (ls.getD k (0, 0)).1 = l := ⟨_, rfl⟩
      obtain ⟨r, hr⟩ : ∃ r, (ls.getD k (0, 0)).2 = r := ⟨_, rfl⟩
      rw [hl] at c0
      rw [hr] at c1
      rw [hl, hr] at hp
      have Hp := Lib.hid hp
      have hz := hb.size
      clear ho hb hc hl hr hp
      go_wp2_with fail
      refine (l_toSw1 l r _).mono ?_
      rintro e w2 ⟨rfl, hb2⟩
      have Ho2 := Lib.hid (Ho.out.below hb2)
      have Hb2 := Lib.hid (Hb.out.trans (hb2.mono hz))
      obtain ⟨d0, d1⟩ := Ho2.out.cells (j := k) (by omega)
      have f0 := Ho2.out.frozen (k * 2)
      have f1 := Ho2.out.frozen (k * 2 + 1)
      have hst := (Ho2.out.stored k l r).1
      rw [← Hp.out, fill_pair Hl.out (by omega)] at hst
      obtain ⟨u0, e0⟩ : ∃ u, w2.cell? ⟨w.heap.size, k * 2, none⟩ = some u := ⟨_, d0⟩
      obtain ⟨u1, e1⟩ : ∃ u, w2.cell? ⟨w.heap.size, k * 2 + 1, none⟩ = some u := ⟨_, d1⟩
      have Hs := Lib.hid hst
      have Hb3 := Lib.hid ((Hb2.out.setCell (p := ⟨w.heap.size, k * 2, none⟩) (Nat.le_refl _) (.int .i64 l)).setCell (p := ⟨w.heap.size, k * 2 + 1, none⟩) (Nat.le_refl _) (.int .i64 r))
      clear hb2 hst d0 d1 c0 c1
      go_wp2_with fail
      go_roundg (n - k)
      case measure => omega
      case rel => exact ⟨k + 1, by omega, by omega, by go_num, Hs.out, Hb3.out⟩
theorem l_eqSw1 (x y : Int) (w : World) : Calls Try.prog 65 #[.agg #[.int .i64 x, .int .i64 y], .agg #[.int .i64 x, .int .i64 y]] w fun r w' => r = .returned (.bool true) ∧ Below w.heap.size w w' := by
  have hx : (x != x) = false := by simp
  have hy : (y != y) = false := by simp
  go_enter Try.func65, Try.ntmps65
  go_wp2
  go_ret
  exact ⟨rfl, ((Below.refl _ _).alloc (Nat.le_refl _) _).alloc (by simp) _⟩
set_option maxRecDepth 100000 in
set_option maxHeartbeats 4000000 in
theorem l_eqSws (w : World) (B B' : Nat) (A A' : Option Addr) (n c c' : Nat) (ls : List (Int × Int)) (h : Sws w B A n ls) (h' : Sws w B' A' n ls) (hB : B ≤ w.heap.size) (hB' : B' ≤ w.heap.size) (hn : n ≤ 1048576) :
    Calls Try.prog 31 #[.slice A n c, .slice A' n c'] w fun e w' => e = .returned (.bool true) ∧ Below w.heap.size w w' := by
  have H := Lib.hid h
  have H' := Lib.hid h'
  have hnn : (((n : Nat) : Int) != ((n : Nat) : Int)) = false := by simp
  clear h h'
  go_enter Try.func31, Try.ntmps31
  go_wp2_with fail
  go_loopg [5] (n + 1) (fun q v5 wr => ∃ k : Nat, k + q = n + 1 ∧ k ≤ n ∧ v5 = .int .i64 (k : Nat) ∧ Below w.heap.size w wr)
  case atStart => exact ⟨0, by omega, by omega, rfl, Below.refl _ _⟩
  case round =>
    obtain ⟨k, hk, hkn, rfl, hb⟩ := hrel
    obtain ⟨wi, rfl⟩ : ∃ wi : World, wi = wr := ⟨_, rfl⟩
    by_cases hkk : k = n
    · subst hkk
      have Hb := Lib.hid hb
      have hlt : ¬ ((k : Nat) : Int) < (k : Nat) := by omega
      clear hb
      go_wp2_with fail
      go_ret
      exact ⟨rfl, Hb.out⟩
    · have hlt : ((k : Nat) : Int) < n := by omega
      have hk0 : (0 : Int) ≤ (k : Nat) := by omega
      rcases H.out.2 with h0 | ⟨b, o, rfl, hbB, hc⟩
      · omega
      rcases H'.out.2 with h0 | ⟨b', o', rfl, hbB', hc'⟩
      · omega
      obtain ⟨c0, c1⟩ := hc k (by omega)
      have c0 := (hb.cell (p := ⟨b, o + k * 2, none⟩) (by show b < _; omega)).trans c0
      have c1 := (hb.cell (p := ⟨b, o + k * 2 + 1, none⟩) (by show b < _; omega)).trans c1
      obtain ⟨c0', c1'⟩ := hc' k (by omega)
      have c0' := (hb.cell (p := ⟨b', o' + k * 2, none⟩) (by show b' < _; omega)).trans c0'
      have c1' := (hb.cell (p := ⟨b', o' + k * 2 + 1, none⟩) (by show b' < _; omega)).trans c1'
      have Hb := Lib.hid hb
      obtain ⟨l, hl⟩ : ∃ l, (ls.getD k (0, 0)).1 = l := ⟨_, rfl⟩
      obtain ⟨r, hr⟩ : ∃ r, (ls.getD k (0, 0)).2 = r := ⟨_, rfl⟩
      rw [hl] at c0 c0'
      rw [hr] at c1 c1'
      have hz := hb.size
      clear hb hc hc' hl hr
      go_wp2_with fail
      go_region_with (first | (go_at_call 65; refine (l_eqSw1 l r _).mono ?_; rintro e y ⟨rfl, hy⟩; have HY : Hid (Below wi.heap.size wi y) := Lib.hid ⟨hy.os, hy.tape, hy.output, hy.size, hy.block⟩; clear hy))
      all_goals go_wp2_with fail
      all_goals go_roundg (n - k)
      all_goals try omega
      all_goals exact ⟨k + 1, by omega, by omega, by go_num, Hb.out.trans (HY.out.mono hz)⟩
set_option maxRecDepth 100000 in
set_option maxHeartbeats 4000000 in
theorem l_markSws (w : World) (B : Nat) (A : Option Addr) (n c : Nat) (ls : List (Int × Int)) (h : OwS w B A n c ls) (hn : n ≤ 1048576) :
    Calls Try.prog 32 #[.slice A n c, .int .i64 1] w fun e w' => e = .returned (.int .i64 (1 + 2 * n)) ∧ Below B w w' ∧ w.grownBy w' (Value.slice A n c).ownBlock := by
  have H := Lib.hid h
  clear h
  go_enter Try.func32, Try.ntmps32
  go_wp2_with fail
  go_loopg [1, 5] (n + 1) (fun q v1 v5 wr => ∃ k : Nat, ∃ ls', k + q = n + 1 ∧ k ≤ n ∧ v1 = .int .i64 (1 + 2 * (k : Nat)) ∧ v5 = .int .i64 (k : Nat) ∧ OwS wr B A n c ls' ∧ Below B w wr ∧ w.grownBy wr (Value.slice A n c).ownBlock)
  case atStart => exact ⟨0, ls, by omega, by omega, rfl, rfl, H.out, Below.refl _ _, World.grownBy.refl _ _⟩
  case round =>
    obtain ⟨k, ls', hk, hkn, rfl, rfl, ho, hb, hg⟩ := hrel
    by_cases hkk : k = n
    · subst hkk
      have Hb := Lib.hid hb
      have Hg := Lib.hid hg
      have hlt : ¬ ((k : Nat) : Int) < (k : Nat) := by omega
      clear hb ho hg
      go_wp2_with fail
      go_ret
      exact ⟨rfl, Hb.out, Hg.out⟩
    · have hlt : ((k : Nat) : Int) < n := by omega
      have hk0 : (0 : Int) ≤ (k : Nat) := by omega
      obtain ⟨g, rfl⟩ := ho.some (by omega)
      obtain ⟨d0, d1⟩ := ho.cells (j := k) (by omega)
      have f0 := ho.frozen (k * 2)
      have f1 := ho.frozen (k * 2 + 1)
      obtain ⟨u0, e0⟩ : ∃ u, wr.cell? ⟨g, k * 2, none⟩ = some u := ⟨_, d0⟩
      obtain ⟨u1, e1⟩ : ∃ u, wr.cell? ⟨g, k * 2 + 1, none⟩ = some u := ⟨_, d1⟩
      have hst := ho.stored k (1 + 2 * (k : Nat)) (1 + 2 * (k : Nat) + 1)
      have hgB := (ho.ge rfl).1
      have Hs := Lib.hid hst.1
      have Hg2 := Lib.hid (show w.grownBy _ (some g) from gtrans hg hst.2)
      have Hb3 := Lib.hid ((hb.setCell (p := ⟨g, k * 2, none⟩) (by show B ≤ g; omega) (.int .i64 (1 + 2 * (k : Nat)))).setCell (p := ⟨g, k * 2 + 1, none⟩) (by show B ≤ g; omega) (.int .i64 (1 + 2 * (k : Nat) + 1)))
      clear hst d0 d1 ho hb hg
      go_wp2_with fail
      go_roundg (n - k)
      case measure => omega
      case rel => exact ⟨k + 1, _, by omega, by omega, by go_num, by go_num, Hs.out, Hb3.out, Hg2.out⟩
theorem cellsSwL : Try.prog.cellsOf 70 = 2 := by kernel_rfl
theorem open_sws {H : Type} {enc : TypeId × Value → H} {w : World} {base : Nat} {spare : Nat → Bool} {held : Bool} {r : Reach} {b0 : Nat} {v : Value} {d : DataW H} {p : List MemPlace}
    (hv : Value.okWide Try.prog w r b0 40 v) (h : DataW.Trod enc Try.prog w base spare held 40 v d p) :
    ∃ (A : Option Addr) (n c : Nat) (cs : List (Int × Int)), v = .slice A n c ∧ Sws w w.heap.size A n cs ∧ n ≤ 9223372036854775807 := by
  obtain ⟨A, n, c, rfl⟩ := okWide_slice Try.underlying40 hv
  obtain ⟨fuel, hf⟩ := h
  rcases open_slice_pairs Try.underlying40 Try.underlying70 cellsSwL rfl rfl (by kernel_rfl) (by kernel_rfl) hf with ⟨hcs, _⟩ | ⟨x, l, c', m, n', V0, V1, D0, D1, P0, P1, hcs, _, hl, hm, hz, _, hx⟩
  · simp [Value.cells] at hcs
    obtain ⟨rfl, rfl, rfl⟩ := hcs
    exact ⟨none, 0, 0, [], rfl, ⟨rfl, .inl rfl⟩, by omega⟩
  · simp [Value.cells] at hcs
    obtain ⟨rfl, rfl, rfl⟩ := hcs
    have hlz : n ≤ m := by rw [hz]; split <;> omega
    have each : ∀ i, i < n → ∃ q : Int × Int, V0 i = .int .i64 q.1 ∧ V1 i = .int .i64 q.2 := by
      intro i hi
      obtain ⟨_, _, t0, t1⟩ := hx i (by omega)
      obtain ⟨a, e0, _, _⟩ := DataW.trod_int Try.underlying3 t0
      obtain ⟨b, e1, _, _⟩ := DataW.trod_int Try.underlying3 t1
      exact ⟨(a, b), by simpa using e0, by simpa using e1⟩
    obtain ⟨Q, hQ⟩ := choose_lt each
    refine ⟨some x, n, c, (List.range n).map Q, rfl, ⟨by simp, ?_⟩, by unfold maxLen at hm; omega⟩
    by_cases h0 : n = 0
    · exact .inl h0
    · obtain ⟨b, off, spot⟩ := x
      have hc := (hx 0 (by omega)).1
      have hspot : spot = none := by simpa [Addr.add] using World.cell?_spot hc
      subst hspot
      refine .inr ⟨b, off, rfl, World.block_lt_of_cell? w _ hc, fun j hj => ?_⟩
      obtain ⟨h1, h2, _, _⟩ := hx j (by omega)
      obtain ⟨q1, q2⟩ := hQ j hj
      have e : ∀ i : Nat, (⟨b, off, none⟩ : Addr).add i = ⟨b, off + i, none⟩ := fun i => by by_cases hj0 : i = 0 <;> simp [Addr.add, hj0]
      rw [e, q1] at h1
      rw [e, q2] at h2
      have hg : ((List.range n).map Q).getD j (0, 0) = Q j := by simp [List.getD_eq_getElem?_getD, hj]
      rw [hg]
      exact ⟨h1, h2⟩
end Go.Proofs.Ytjolappndbmmaaa
