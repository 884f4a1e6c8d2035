/-
  Texts that laws over drawn boards stand on: Step, Count, Valid, CntP, DrawLI, LawP, ColAt, Point, DrawP, NbImpl, UnS, SpecVB, GrpI, NextTo, LibI, ListsB, GrpF.
-/
import Derived.Test.YtpopbcmfbcmojaaAny
import Derived.Test.YtpopbcmfbcmojaaLists
import Derived.Test.YtpopbcmfbcmojaaBoardI
import Derived.Test.YtpopbcmfbcmojaaTrS
import Derived.Deep.RegionWith
import Derived.Test.YtpopbcmfbcmojaaImplPtB
import Derived.Test.YtpopbcmfbcmojaaNbSpec
import Derived.Test.YtpopbcmfbcmojaaUn
import Derived.Test.YtpopbcmfbcmojaaGroupS
import Derived.Test.YtpopbcmfbcmojaaBoard
import Derived.Test.YtpopbcmfbcmojaaLibs
import Derived.Test.YtpopbcmfbcmojaaFactPt
import Derived.BigQuiet
import Derived.Deep.QuietTactic
namespace Go.Proofs.Ytpopbcmfbcmojaa
set_option maxRecDepth 100000
open Go.RowKit

theorem undrew {a b : World} (h : Below a.drew.heap.size a.drew b) : Below a.heap.size a b := ⟨h.os, h.tape, h.output, h.size, h.block⟩
theorem Ints.step {w w' : World} {n : Nat} {A : Option Addr} {xs : List Int} (h : Ints w w.heap.size A n xs) (hb : Below w.heap.size w w') : Ints w' w'.heap.size A n xs := (h.below hb (Nat.le_refl _)).more hb.size
theorem Bx.step {t : TypeId} {w w' : World} {g : Nat} {s : Int} {v : Value} (h : Bx t w g s v) (hb : Below w.heap.size w w') : Bx t w' g s v := h.below hb h.lt
theorem bstep {a w w' : World} (h : Below a.heap.size a w) (hb : Below w.heap.size w w') : Below a.heap.size a w' := h.trans (hb.mono h.size)

theorem IsRow.below {k : IntKind} {w w' : World} {a : Option Addr} {len cap : Nat} {zs : List Int} (h : IsRow k w a len cap zs) (hb : Below w.heap.size w w') : IsRow k w' a len cap zs := by
  rcases h with h | ⟨x, hx, h1, h2, h3, h4, h5⟩
  · exact .inl h
  · refine .inr ⟨x, hx, h1, h2, h3, fun i hi => ?_, h5⟩
    have := h4 i hi
    exact (World.cell?_of_block (w := w) (a := x.add i) (hb.block _ (World.block_lt_of_cell? w _ this))).trans this

/-- What a law's draw of a board gives. -/
def DrawnL (w : World) (e : Ending) (w' : World) : Prop :=
  ∃ (s : Int) (A : Option Addr) (n c : Nat) (cs : List Int), e = .returned (.agg #[.int .i64 s, .slice A n c]) ∧ Ints w' w'.heap.size A n cs ∧ n ≤ 49 ∧ 0 ≤ s ∧ s ≤ 8 ∧ Below w.heap.size w w'
/-- The same with an int. -/
def DrawnLI (P : Int → Prop) (w : World) (e : Ending) (w' : World) : Prop :=
  ∃ (s : Int) (A : Option Addr) (n c : Nat) (cs : List Int) (x : Int), e = .returned (.tuple #[.agg #[.int .i64 s, .slice A n c], .int .i64 x]) ∧ Ints w' w'.heap.size A n cs ∧ n ≤ 49 ∧ 0 ≤ s ∧ s ≤ 8 ∧ P x ∧ Below w.heap.size w w'

end Go.Proofs.Ytpopbcmfbcmojaa

namespace Go.Proofs.Ytpopbcmfbcmojaa
set_option maxRecDepth 100000
open Go.RowKit

def cnt (x : Int) (cs : List Int) : Int := ((cs.filter fun c => c == x).length : Nat)
theorem cnt_bd (x : Int) (cs : List Int) : 0 ≤ cnt x cs ∧ cnt x cs ≤ cs.length := by
  unfold cnt
  have := List.length_filter_le (fun c => c == x) cs
  omega
theorem cnt_yes {x : Int} {cs : List Int} {k : Nat} (h : k < cs.length) (hx : (cs.getD k 0 == x) = true) : cnt x (cs.take (k + 1)) = cnt x (cs.take k) + 1 := by
  have e : cs.getD k 0 = cs[k] := by simp [List.getD_eq_getElem?_getD, List.getElem?_eq_getElem h]
  rw [e] at hx
  unfold cnt
  rw [List.take_succ_eq_append_getElem h, List.filter_append, List.length_append, List.filter_cons, hx]
  simp
theorem cnt_no {x : Int} {cs : List Int} {k : Nat} (h : k < cs.length) (hx : (cs.getD k 0 == x) = false) : cnt x (cs.take (k + 1)) = cnt x (cs.take k) := by
  have e : cs.getD k 0 = cs[k] := by simp [List.getD_eq_getElem?_getD, List.getElem?_eq_getElem h]
  rw [e] at hx
  unfold cnt
  rw [List.take_succ_eq_append_getElem h, List.filter_append, List.length_append, List.filter_cons, hx]
  simp

def cntB (s : Int) (cs : List Int) (x : Int) : Int := if Bd.okB s cs then cnt x cs else -1

end Go.Proofs.Ytpopbcmfbcmojaa

namespace Go.Proofs.Ytpopbcmfbcmojaa
set_option maxRecDepth 100000
open Go.RowKit

section
variable (s : Int) (w : World) (A : Option Addr) (n c : Nat) (cs : List Int)
theorem i_invV (h : Ints w w.heap.size A n cs) (hn : n ≤ 49) (hv : Bd.okB s cs = true) : Calls Try.prog 16 #[.agg #[.int .i64 s, .slice A n c]] w fun e w' => Made s (othCs cs) w e w' := by
  have := i_inv s w w.heap.size A n c cs h (Nat.le_refl _) (by omega)
  rwa [invS, invCs, if_pos hv, if_pos hv] at this
theorem i_invN (h : Ints w w.heap.size A n cs) (hn : n ≤ 49) (hv : Bd.okB s cs = false) : Calls Try.prog 16 #[.agg #[.int .i64 s, .slice A n c]] w fun e w' => Made 0 [] w e w' := by
  have := i_inv s w w.heap.size A n c cs h (Nat.le_refl _) (by omega)
  rwa [invS, invCs, if_neg (by rw [hv]; decide), if_neg (by rw [hv]; decide)] at this
variable (k : Int)
theorem i_trV (h : Ints w w.heap.size A n cs) (hn : n ≤ 49) (hv : Bd.okB s cs = true) (hk : Pt.okK k = true) : Calls Try.prog 13 #[.agg #[.int .i64 s, .slice A n c], .int .i64 k] w fun e w' => Made s (Bd.mv s k cs) w e w' := by
  have := i_trB s k w w.heap.size A n c cs h (Nat.le_refl _) (by omega)
  rwa [trS, trCs, show trOk s cs k = true by rw [trOk, hv, hk]; rfl, if_pos rfl, if_pos rfl] at this
theorem i_trN (h : Ints w w.heap.size A n cs) (hn : n ≤ 49) (hv : trOk s cs k = false) : Calls Try.prog 13 #[.agg #[.int .i64 s, .slice A n c], .int .i64 k] w fun e w' => Made 0 [] w e w' := by
  have := i_trB s k w w.heap.size A n c cs h (Nat.le_refl _) (by omega)
  rwa [trS, trCs, hv, if_neg (by decide), if_neg (by decide)] at this
end

theorem len_of {cs : List Int} {n m : Nat} (h : (othCs cs).length = m) (h0 : cs.length = n) : n = m := by rw [othCs_len] at h; omega
theorem len_mv {s k : Int} {cs : List Int} {n m : Nat} (h : (Bd.mv s k cs).length = m) (h0 : cs.length = n) : n = m := by rw [Bd.mv_len] at h; omega
theorem oth_oth {x : Int} (h0 : 0 ≤ x) (h2 : x ≤ 2) : oth (oth x) = x := by
  have h3 : x = 0 ∨ x = 1 ∨ x = 2 := by omega
  rcases h3 with rfl | rfl | rfl <;> decide
theorem othCs_twice {cs : List Int} (h : OkL cs) : othCs (othCs cs) = cs := by
  rw [okL_mem] at h
  unfold othCs
  rw [List.map_map]
  conv => rhs; rw [← List.map_id cs]
  exact List.map_congr_left fun x hx => oth_oth (h x hx).1 (h x hx).2
theorem othCs_set (l : List Int) (p : Nat) (x : Int) : othCs (l.set p x) = (othCs l).set p (oth x) := by
  unfold othCs; rw [List.map_set]
theorem othCs_getD (cs : List Int) (j : Nat) : oth (cs.getD j 0) = (othCs cs).getD j 0 := by
  unfold othCs
  rw [List.getD_eq_getElem?_getD, List.getD_eq_getElem?_getD, List.getElem?_map]
  cases cs[j]? <;> rfl
theorem steps_oth (f : Nat → Nat) (cs : List Int) (j : Nat) (l : List Int) : othCs (Bd.steps f cs j l) = Bd.steps f (othCs cs) j (othCs l) := by
  induction j with
  | zero => rfl
  | succ j ih => rw [Bd.steps, Bd.steps, othCs_set, ih, othCs_getD]
theorem mv_oth (s k : Int) (cs : List Int) : Bd.mv s k (othCs cs) = othCs (Bd.mv s k cs) := by
  unfold Bd.mv
  rw [steps_oth, othCs_len]
end Go.Proofs.Ytpopbcmfbcmojaa

namespace Go.Proofs.Ytpopbcmfbcmojaa
set_option maxRecDepth 100000

theorem perm_of_sub {l r : List Nat} (hn : l.Nodup) (hs : ∀ x ∈ l, x ∈ r) (hl : r.length ≤ l.length) : List.Perm l r := by
  induction l generalizing r with
  | nil =>
    have e : r = [] := List.eq_nil_of_length_eq_zero (by simpa using hl)
    subst e
    exact .refl _
  | cons x l ih =>
    have hx : x ∈ r := hs x (by simp)
    obtain ⟨hxl, hnl⟩ := List.nodup_cons.1 hn
    refine List.Perm.trans ?_ (List.perm_cons_erase hx).symm
    refine List.Perm.cons x (ih hnl (fun y hy => ?_) ?_)
    · have hne : y ≠ x := fun e => hxl (e ▸ hy)
      exact (List.mem_erase_of_ne hne).2 (hs y (by simp [hy]))
    · rw [List.length_erase_of_mem hx]
      simp at hl
      omega

theorem nodup_map {f : Nat → Nat} {l : List Nat} (hn : l.Nodup) (hf : ∀ a ∈ l, ∀ b ∈ l, f a = f b → a = b) : (l.map f).Nodup := by
  induction l with
  | nil => simp
  | cons x l ih =>
    obtain ⟨hx, hl⟩ := List.nodup_cons.1 hn
    rw [List.map_cons, List.nodup_cons]
    refine ⟨fun hm => ?_, ih hl fun a ha b hb => hf a (by simp [ha]) b (by simp [hb])⟩
    obtain ⟨y, hy, he⟩ := List.mem_map.1 hm
    have := hf y (by simp [hy]) x (by simp) he
    exact hx (this ▸ hy)

theorem list_as_map (cs : List Int) : cs = (List.range cs.length).map fun p => cs.getD p 0 := by
  apply List.ext_getElem
  · simp
  · intro i h1 h2
    simp [List.getD_eq_getElem?_getD, List.getElem?_eq_getElem h1]

theorem mv_perm {s k : Int} {cs : List Int} (h1 : 1 ≤ s) (h2 : s ≤ 7) (hn : (cs.length : Int) = s * s) (k1 : 0 ≤ k) (k2 : k < 8) : List.Perm (Bd.mv s k cs) cs := by
  have hp : List.Perm ((List.range cs.length).map (Bd.imgN s k)) (List.range cs.length) := by
    refine perm_of_sub (nodup_map List.nodup_range fun a ha b hb he => ?_) (fun x hx => ?_) (by simp)
    · exact Bd.imgN_inj s k cs.length h1 h2 hn k1 k2 a b (List.mem_range.1 ha) (List.mem_range.1 hb) he
    · obtain ⟨p, hp, rfl⟩ := List.mem_map.1 hx
      exact List.mem_range.2 (Bd.imgN_lt s k cs.length p h1 h2 hn (List.mem_range.1 hp)).1
  have e1 := list_as_map (Bd.mv s k cs)
  rw [Bd.mv_len] at e1
  rw [e1]
  refine ((hp.map fun q => (Bd.mv s k cs).getD q 0).symm).trans ?_
  rw [List.map_map]
  conv => rhs; rw [list_as_map cs]
  have : (List.range cs.length).map ((fun q => (Bd.mv s k cs).getD q 0) ∘ Bd.imgN s k) = (List.range cs.length).map fun p => cs.getD p 0 := by
    apply List.map_congr_left
    intro p hp
    have hp' := List.mem_range.1 hp
    have := Bd.steps_at (f := Bd.imgN s k) (cs := cs) (l := cs) (j := cs.length) (fun a b ha hb he => Bd.imgN_inj s k cs.length h1 h2 hn k1 k2 a b ha hb he) (fun a ha => (Bd.imgN_lt s k cs.length a h1 h2 hn ha).1) hp'
    show (Bd.mv s k cs).getD (Bd.imgN s k p) 0 = _
    unfold Bd.mv
    rw [List.getD_eq_getElem?_getD, this]
    rfl
  rw [this]

theorem cnt_perm {a b : List Int} (h : List.Perm a b) (x : Int) : cnt x a = cnt x b := by
  unfold cnt
  rw [(h.filter _).length_eq]
theorem cnt_mv {s k : Int} {cs : List Int} (hv : Bd.okB s cs = true) (hk : Pt.okK k = true) (x : Int) : cnt x (Bd.mv s k cs) = cnt x cs := by
  obtain ⟨a, b, c, _⟩ := (Bd.okB_iff s cs).1 hv
  obtain ⟨k1, k2⟩ := (Pt.okK_iff k).1 hk
  exact cnt_perm (mv_perm a b c k1 k2) x
theorem cnt_oth {cs : List Int} (h : OkL cs) {x : Int} (x1 : 1 ≤ x) (x2 : x ≤ 2) : cnt (3 - x) (othCs cs) = cnt x cs := by
  rw [okL_mem] at h
  unfold cnt othCs
  rw [List.filter_map, List.length_map]
  congr 2
  apply List.filter_congr
  intro c hc
  have h3 : c = 0 ∨ c = 1 ∨ c = 2 := by have := h c hc; omega
  have h4 : x = 1 ∨ x = 2 := by omega
  rcases h3 with rfl | rfl | rfl <;> rcases h4 with rfl | rfl <;> rfl
theorem cnt_nonneg (x : Int) (cs : List Int) : 0 ≤ cnt x cs := by unfold cnt; omega
end Go.Proofs.Ytpopbcmfbcmojaa

namespace Go.Proofs.Ytpopbcmfbcmojaa
set_option maxRecDepth 100000
open Go.RowKit

end Go.Proofs.Ytpopbcmfbcmojaa

namespace Go.Proofs.Ytpopbcmfbcmojaa
set_option maxRecDepth 100000
open Go.RowKit

theorem cntB_mv {s k x N : Int} {cs : List Int} (hv : Bd.okB s cs = true) (hk : Pt.okK k = true) (hN : cntB s cs x = N) : cntB s (Bd.mv s k cs) x = N := by
  rw [← hN, cntB, cntB, if_pos hv, if_pos (okB_mv hv), cnt_mv hv hk]
theorem cntB_oth {s x N : Int} {cs : List Int} (hv : Bd.okB s cs = true) (x1 : 1 ≤ x) (x2 : x ≤ 2) (hN : cntB s cs x = N) : cntB s (othCs cs) (3 - x) = N := by
  rw [← hN, cntB, cntB, if_pos hv, if_pos (okB_oth hv), cnt_oth (okL_mem.2 ((Bd.okB_iff s cs).1 hv).2.2.2) x1 x2]
theorem cntB_ok {s x N : Int} {cs : List Int} (hN : cntB s cs x = N) (h0 : 0 ≤ N) : Bd.okB s cs = true := by
  rcases Bool.eq_false_or_eq_true (Bd.okB s cs) with h | h
  · exact h
  · rw [cntB, h] at hN
    have : (-1 : Int) = N := hN
    omega

theorem mv_at {s k : Int} {cs : List Int} (h1 : 1 ≤ s) (h2 : s ≤ 7) (hn : (cs.length : Int) = s * s) (k1 : 0 ≤ k) (k2 : k < 8) {p : Nat} (hp : p < cs.length) : (Bd.mv s k cs)[Bd.imgN s k p]? = some (cs.getD p 0) :=
  Bd.steps_at (f := Bd.imgN s k) (cs := cs) (l := cs) (j := cs.length) (fun a b ha hb he => Bd.imgN_inj s k cs.length h1 h2 hn k1 k2 a b ha hb he) (fun a ha => (Bd.imgN_lt s k cs.length a h1 h2 hn ha).1) hp
theorem imgN_comp {s a b : Int} {n p : Nat} (h1 : 1 ≤ s) (h2 : s ≤ 7) (hn : (n : Int) = s * s) (a1 : 0 ≤ a) (a2 : a < 8) (b1 : 0 ≤ b) (b2 : b < 8) (hp : p < n) : Bd.imgN s (Pt.comp a b) p = Bd.imgN s b (Bd.imgN s a p) := by
  obtain ⟨c1, c2⟩ := Pt.comp_bd a b a1 a2 b1 b2
  obtain ⟨l1, e1⟩ := Bd.imgN_lt s a n p h1 h2 hn hp
  have hc := Pt.comp_tr a b s p a1 a2 b1 b2 h1 h2 (by omega) (by omega)
  rw [Pt.tr_in s a p h1 h2 (by omega) (by omega) a1 a2, ← e1, Pt.tr_in s b _ h1 h2 (by omega) (by omega) b1 b2, Pt.tr_in s (Pt.comp a b) p h1 h2 (by omega) (by omega) c1 c2] at hc
  unfold Bd.imgN at hc ⊢
  rw [hc]
theorem mv_mv {s a b : Int} {cs : List Int} (h1 : 1 ≤ s) (h2 : s ≤ 7) (hn : (cs.length : Int) = s * s) (a1 : 0 ≤ a) (a2 : a < 8) (b1 : 0 ≤ b) (b2 : b < 8) : Bd.mv s b (Bd.mv s a cs) = Bd.mv s (Pt.comp a b) cs := by
  obtain ⟨c1, c2⟩ := Pt.comp_bd a b a1 a2 b1 b2
  have hl : (Bd.mv s a cs).length = cs.length := Bd.mv_len _ _ _
  apply List.ext_getElem?
  intro q
  by_cases hq : q < cs.length
  · obtain ⟨p, hp, rfl⟩ := Bd.imgN_sur s (Pt.comp a b) cs.length h1 h2 hn c1 c2 q hq
    obtain ⟨l1, _⟩ := Bd.imgN_lt s a cs.length p h1 h2 hn hp
    rw [mv_at h1 h2 hn c1 c2 hp, imgN_comp h1 h2 hn a1 a2 b1 b2 hp, mv_at h1 h2 (by rw [hl]; exact hn) b1 b2 (by rw [hl]; exact l1), List.getD_eq_getElem?_getD, mv_at h1 h2 hn a1 a2 hp]
    rfl
  · rw [List.getElem?_eq_none (by rw [Bd.mv_len, hl]; omega), List.getElem?_eq_none (by rw [Bd.mv_len]; omega)]

theorem Ints.dr {w : World} {n : Nat} {A : Option Addr} {xs : List Int} (h : Ints w w.heap.size A n xs) : Ints w.drew w.drew.heap.size A n xs := h
/-- An image whose size and cells have names. -/
theorem i_trW (s k : Int) (w : World) (A : Option Addr) (n c : Nat) (cs ds : List Int) (h : Ints w w.heap.size A n cs) (hn : n ≤ 49) (hv : Bd.okB s cs = true) (hk : Pt.okK k = true) (hd : Bd.mv s k cs = ds) :
    Calls Try.prog 13 #[.agg #[.int .i64 s, .slice A n c], .int .i64 k] w fun e w' => ∃ A1 c1, e = .returned (.agg #[.int .i64 s, .slice A1 n c1]) ∧ Own w' w.heap.size A1 n c1 ds ∧ Below w.heap.size w w' := by
  have hl := h.1
  refine (i_trV s w A n c cs k h hn hv hk).mono ?_
  rintro e w' ⟨A1, n1, c1, rfl, ho, hb⟩
  rw [hd] at ho
  have e1 := ho.1
  rw [← hd, Bd.mv_len] at e1
  obtain rfl : n1 = n := by omega
  exact ⟨_, _, rfl, ho, hb⟩
theorem len_comp {s k : Int} {cs : List Int} {n m : Nat} (h : (Bd.mv s k cs).length = m) (h0 : cs.length = n) : n = m := len_mv h h0
end Go.Proofs.Ytpopbcmfbcmojaa

namespace Go.Proofs.Ytpopbcmfbcmojaa
set_option maxRecDepth 100000
open Go.RowKit

theorem l_colorAt (s : Int) (w : World) (A : Option Addr) (n c : Nat) (cs : List Int) (q : Nat) (e : Int) (h : Ints w w.heap.size A n cs) (hq : q < n) (he : cs.getD q 0 = e) :
    Calls Try.prog 41 #[.agg #[.int .i64 s, .slice A n c], .int .i64 (q : Nat)] w fun e' w' => e' = .returned (.int .i64 e) ∧ Below w.heap.size w w' := by
  obtain ⟨b, o, rfl, hbB, hc⟩ : ∃ b o, A = some ⟨b, o, none⟩ ∧ b < w.heap.size ∧ ∀ j, j < n → w.cell? ⟨b, o + j, none⟩ = some (.int .i64 (cs.getD j 0)) := by
    rcases h.2 with h0 | ⟨b, o, hA, hbB, hc⟩
    · omega
    · exact ⟨b, o, hA, hbB, hc⟩
  have hb1 : Below w.heap.size w (w.alloc (.cells #[.int .i64 s, .slice (some ⟨b, o, none⟩) n c] 25)) := (Below.refl _ _).alloc (Nat.le_refl _) _
  have ck := (hb1.cell (p := ⟨b, o + q, none⟩) hbB).trans (hc q hq)
  rw [he] at ck
  have Hb := Lib.hid hb1
  have X0 := Lib.hid (Bx.new 25 w s (.slice (some ⟨b, o, none⟩) n c))
  have u0 := X0.out.cell0
  have u1 := X0.out.cell1
  have ul := X0.out.lt
  have hqI : (q : Int) < n := by omega
  clear hc h he hb1
  go_enter Try.func41, Try.ntmps41
  go_wp2_with fail
  go_ret
  exact ⟨rfl, Hb.out⟩
end Go.Proofs.Ytpopbcmfbcmojaa

namespace Go.Proofs.Ytpopbcmfbcmojaa
set_option maxRecDepth 100000
open Go.RowKit

theorem r_anyPtB (B g q : Nat) (s : Int) (w : World) (h : Rdr w B g q) (hq : q ≤ 100000000000) (s1 : 0 ≤ s) (s2 : s ≤ 8) :
    Calls Try.prog 81 #[.pointer (some ⟨g, 0, none⟩), .int .i64 s] w fun e w' => Got (fun x => -1 ≤ x ∧ x ≤ 64) w B g (q + 2) e w' := by
  have hlt := h.lt
  obtain ⟨m1, m2⟩ := sq8 s s1 s2
  go_enter Try.func81, Try.ntmps81
  go_wp2_with fail
  refine (r_pick B g q _ _ h (by omega)).mono ?_
  rintro e w1 ⟨x, rfl, x1, x2, hr, hw⟩
  have hz := hw.size
  have Hw := Lib.hid hw
  clear hw h
  by_cases h0 : x = 0
  · have hb : ((x : Int) == 0) = true := by simpa using h0
    clear h0
    go_wp2_with fail
    have hl := Ints.lit w1 3 [-1, s * s, 49]
    have hlt1 := hr.lt
    refine (r_one B g (q + 1) _ _ [-1, s * s, 49] _ _ (hr.below ((Below.refl _ _).alloc (Nat.le_refl _) _) hlt1) (by omega) hl (by simp) (by simp) (by simp) (by rintro b o e; injection e with e; injection e; omega)).mono ?_
    rintro e w2 ⟨y, rfl, hy, hr2, hw2⟩
    have Hr := Lib.hid hr2
    have Hy : Hid (-1 ≤ y ∧ y ≤ 64) := Lib.hid (by simp at hy; omega)
    have Hw2 := Lib.hid (gtrans Hw.out (gtrans (World.grownBy_alloc w1 _ (some g)) hw2))
    clear hr hw2 hl hy hr2
    go_wp2_with fail
    go_ret
    exact ⟨_, rfl, Hy.out, Hr.out, Hw2.out⟩
  · have hb : ((x : Int) == 0) = false := by simpa using h0
    clear h0
    go_wp2_with fail
    all_goals
      refine (r_pick B g (q + 1) _ _ hr (by omega)).mono ?_
      rintro e w2 ⟨y, rfl, y1, y2, hr2, hw2⟩
      have Hr := Lib.hid hr2
      have Hw2 := Lib.hid (gtrans Hw.out hw2)
      have Hy : Hid (-1 ≤ y ∧ y ≤ 64) := Lib.hid (by omega)
      clear hr hw2 hr2 y1 y2
      go_wp2_with fail
      go_ret
      exact ⟨_, rfl, Hy.out, Hr.out, Hw2.out⟩

/-- A drawn board and a point that may be wrong. -/
def DrawnAP (w : World) (B g lo q : Nat) (e : Ending) (w' : World) : Prop :=
  ∃ (s : Int) (A : Option Addr) (n c : Nat) (cs : List Int) (q' : Nat) (p : Int), e = .returned (.tuple #[.agg #[.int .i64 s, .slice A n c], .int .i64 p]) ∧ IntsF w' lo A n cs ∧ n ≤ 49 ∧ 0 ≤ s ∧ s ≤ 8 ∧ -1 ≤ p ∧ p ≤ 64 ∧ Rdr w' B g q' ∧ q' ≤ q ∧ w.grownBy w' (some g)

/-- The world when 'boardPoint' has stored its board. -/
theorem bp_end {w yf : World} {B g q' n c : Nat} {s : Int} {A : Option Addr} {cs : List Int} (X2 : Bx 25 yf w.heap.size 0 (.slice none 0 0)) (Hi : IntsF yf (w.heap.size + 1) A n cs) (Hr : Rdr yf B g q') (hBw : B ≤ w.heap.size) (hgw : g < w.heap.size) (Hg : w.grownBy yf (some g)) :
    ((yf.setCell ⟨w.heap.size, 0, none⟩ (.int .i64 s)).setCell ⟨w.heap.size, 1, none⟩ (.slice A n c)).cell? ⟨w.heap.size, 0, none⟩ = some (.int .i64 s) ∧
    ((yf.setCell ⟨w.heap.size, 0, none⟩ (.int .i64 s)).setCell ⟨w.heap.size, 1, none⟩ (.slice A n c)).cell? ⟨w.heap.size, 1, none⟩ = some (.slice A n c) ∧
    IntsF ((yf.setCell ⟨w.heap.size, 0, none⟩ (.int .i64 s)).setCell ⟨w.heap.size, 1, none⟩ (.slice A n c)) w.heap.size A n cs ∧
    Rdr ((yf.setCell ⟨w.heap.size, 0, none⟩ (.int .i64 s)).setCell ⟨w.heap.size, 1, none⟩ (.slice A n c)) B g q' ∧
    w.grownBy ((yf.setCell ⟨w.heap.size, 0, none⟩ (.int .i64 s)).setCell ⟨w.heap.size, 1, none⟩ (.slice A n c)) (some g) :=
  ⟨((X2.set0 s).set1 (.slice A n c)).cell0, ((X2.set0 s).set1 (.slice A n c)).cell1,
    ((Hi.far ⟨w.heap.size, 0, none⟩ (Nat.lt_succ_self _) (.int .i64 s)).far ⟨w.heap.size, 1, none⟩ (Nat.lt_succ_self _) (.slice A n c)).weaken (by omega),
    (Hr.far ⟨w.heap.size, 0, none⟩ (by show g ≠ w.heap.size; omega) (by show B ≤ w.heap.size; omega) (.int .i64 s)).far ⟨w.heap.size, 1, none⟩ (by show g ≠ w.heap.size; omega) (by show B ≤ w.heap.size; omega) (.slice A n c),
    gset (gset Hg ⟨w.heap.size, 0, none⟩ (Nat.le_refl _) (.int .i64 s)) ⟨w.heap.size, 1, none⟩ (Nat.le_refl _) (.slice A n c)⟩

set_option maxRecDepth 100000 in
set_option maxHeartbeats 8000000 in
theorem r_bp (B g q : Nat) (w : World) (h : Rdr w B g q) (hq : q ≤ 1000000000) :
    Calls Try.prog 44 #[.pointer (some ⟨g, 0, none⟩)] w fun e w' => DrawnAP w B g w.heap.size (q + 205) e w' := by
  have hlt := h.lt
  have hb1 : Below w.heap.size w (w.alloc (.cells #[.int .i64 0, .slice none 0 0] 25)) := (Below.refl _ _).alloc (Nat.le_refl _) _
  have X2 := Lib.hid (Bx.new 25 w 0 (.slice none 0 0))
  have Hr := Lib.hid (h.below hb1 hlt)
  have Hb := Lib.hid hb1
  have hsz : (w.alloc (.cells #[.int .i64 0, .slice none 0 0] 25)).heap.size = w.heap.size + 1 := by simp
  have Hsz := Lib.hid hsz
  clear h hb1 hsz
  go_enter Try.func44, Try.ntmps44
  go_wp2_with fail
  refine (r_any B g q _ Hr.out (by omega)).mono ?_
  rintro e y ⟨s, A, n, c, cs, q1, rfl, hi, hn, s0, s8, hr, hq1, hg⟩
  rw [Hsz.out] at hi
  have X2 := Lib.hid (X2.out.grown hg (fun e => by have := Option.some.inj e; omega))
  have Hg := Lib.hid (gtrans (gbelow (some g) Hb.out (Nat.le_refl _)) hg)
  have Hr := Lib.hid hr
  have Hi := Lib.hid hi
  have z2 := X2.out.lt
  clear hr hg hi Hb
  go_upto_region 2 with (fail)
  obtain ⟨y3, hy3, hb3, z3, z4⟩ := new_box y (.cells #[.int .i64 s, .slice A n c] 25)
  have X4 : Hid (Bx 25 y3 y.heap.size s (.slice A n c)) := Lib.hid (by rw [hy3]; exact Bx.new _ _ _ _)
  rw [← hy3]
  clear hy3
  have X2 := Lib.hid (X2.out.below hb3 X2.out.lt)
  have Hr := Lib.hid (Hr.out.below hb3 Hr.out.lt)
  have Hi := Lib.hid (Hi.out.below hb3)
  have Hg := Lib.hid (gtrans Hg.out (gbelow (some g) hb3 (Nat.le_refl _)))
  clear hb3
  have t0 := X4.out.cell0
  have t1 := X4.out.cell1
  have t2 := X4.out.lt
  go_wp2_with fail
  refine (r_anyPtB B g q1 s _ Hr.out (by omega) s0 s8).mono ?_
  rintro e y4 ⟨p, rfl, ⟨p1, p2⟩, hr, hg⟩
  have X2 := Lib.hid (X2.out.grown hg (fun e => by have := Option.some.inj e; omega))
  have X4 := Lib.hid (X4.out.grown hg (fun e => by have := Option.some.inj e; omega))
  have Hi := Lib.hid (Hi.out.grown hg (by omega))
  have Hg := Lib.hid (gtrans Hg.out hg)
  have Hr := Lib.hid hr
  clear hr hg t0 t1 t2
  have t0 := X4.out.cell0
  have t1 := X4.out.cell1
  have t2 := X4.out.lt
  go_wp2_with fail
  refine (r_pick B g (q1 + 2) _ _ Hr.out (by omega)).mono ?_
  rintro e y5 ⟨f, rfl, f1, f2, hr, hg⟩
  have X2 := Lib.hid (X2.out.grown hg (fun e => by have := Option.some.inj e; omega))
  have X4 := Lib.hid (X4.out.grown hg (fun e => by have := Option.some.inj e; omega))
  have Hi := Lib.hid (Hi.out.grown hg (by omega))
  have Hg := Lib.hid (gtrans Hg.out hg)
  have Hr := Lib.hid hr
  have z5 := X4.out.lt
  clear hr hg t0 t1 t2 f2
  by_cases hf : f = 0 ∧ 0 < n
  · obtain ⟨hf0, hn0⟩ := hf
    have hfb : ((f : Int) == 0) = true := by simpa using hf0
    have hnI : (0 : Int) < n := by omega
    have t0 := X4.out.cell0
    have t1 := X4.out.cell1
    have t2 := X4.out.lt
    clear hf0
    go_wp2_with fail
    go_loopw [5, 6] (fun v i wr => ∃ (k : Nat) (p : Int), k ≤ n ∧ i = .int .i64 (k : Nat) ∧ v = .int .i64 p ∧ -1 ≤ p ∧ p ≤ 64 ∧ Bx 25 wr w.heap.size 0 (.slice none 0 0) ∧ Bx 25 wr y.heap.size s (.slice A n c) ∧ IntsF wr (w.heap.size + 1) A n cs ∧ Rdr wr B g (q1 + 2 + 1) ∧ w.grownBy wr (some g)) (fun _ i _ => n - (intOf i).toNat)
    case atStart => exact ⟨0, p, by omega, rfl, rfl, p1, p2, X2.out, X4.out, Hi.out, Hr.out, Hg.out⟩
    case round =>
      clear t0 t1 t2 p1 p2 X2 X4 Hi Hr Hg
      obtain ⟨k, p9, hk, rfl, rfl, p1, p2, x2, x4, hi, hr, hg⟩ := hrel
      have X2 := Lib.hid x2
      have X4 := Lib.hid x4
      have Hi := Lib.hid hi
      have Hr := Lib.hid hr
      have Hg := Lib.hid hg
      clear x2 x4 hi hr hg
      have t0 := X4.out.cell0
      have t1 := X4.out.cell1
      have t2 := X4.out.lt
      by_cases hkn : k < n
      · have hkI : (k : Int) < n := by omega
        by_cases hp0 : 0 ≤ p9
        · obtain ⟨pn, rfl⟩ := Int.eq_ofNat_of_zero_le hp0
          obtain ⟨m, hm⟩ : ∃ m, pn % n = m := ⟨_, rfl⟩
          have hmn : m < n := by rw [← hm]; exact Nat.mod_lt _ hn0
          have hmod : Int.tmod (pn : Int) (n : Int) = (m : Int) := by rw [← hm]; rfl
          obtain ⟨m2, hm2⟩ : ∃ m, (pn + 1) % n = m := ⟨_, rfl⟩
          have hmn2 : m2 < n := by rw [← hm2]; exact Nat.mod_lt _ hn0
          have hmod2 : Int.tmod ((pn : Int) + 1) (n : Int) = (m2 : Int) := by rw [← hm2]; rfl
          obtain ⟨b, o, hA, hbl, hc⟩ : ∃ b o, A = some ⟨b, o, none⟩ ∧ b < wr.heap.size ∧ ∀ j, j < n → wr.cell? ⟨b, o + j, none⟩ = some (.int .i64 (cs.getD j 0)) := by
            rcases Hi.out.ints.2 with h0 | ⟨b, o, hA, hbB, hc⟩
            · omega
            · exact ⟨b, o, hA, hbB, hc⟩
          have ck := hc m hmn
          obtain ⟨e0, he0⟩ : ∃ e, cs.getD m 0 = e := ⟨_, rfl⟩
          rw [he0] at ck
          rw [hA] at t1
          clear hc he0 hm hm2
          by_cases he : e0 = 0
          · subst he
            go_wp2_with fail
            go_quiet (fail)
            go_wp2_with fail
            go_roundw
            case rel => exact ⟨k + 1, _, by omega, by go_num, rfl, by omega, by omega, X2.out.drewN _, X4.out.drewN _, Hi.out, Hr.out, ⟨Hg.out.os, Hg.out.tape, Hg.out.output, Hg.out.size, Hg.out.block⟩⟩
            case measure => simp [intOf]; omega
          · have heb : (e0 == 0) = false := by simpa using he
            go_wp2_with fail
            go_quiet (fail)
            clear ck
            obtain ⟨yf, hyf⟩ : ∃ y, y = wr.drewN nq := ⟨_, rfl⟩
            have X2 : Hid (Bx 25 yf w.heap.size 0 (.slice none 0 0)) := Lib.hid (by rw [hyf]; exact X2.out.drewN _)
            have X4 : Hid (Bx 25 yf y.heap.size s (.slice A n c)) := Lib.hid (by rw [hyf]; exact X4.out.drewN _)
            have Hi : Hid (IntsF yf (w.heap.size + 1) A n cs) := Lib.hid (by rw [hyf]; exact Hi.out)
            have Hr : Hid (Rdr yf B g (q1 + 2 + 1)) := Lib.hid (by rw [hyf]; exact Hr.out)
            have Hg : Hid (w.grownBy yf (some g)) := Lib.hid (by rw [hyf]; exact ⟨Hg.out.os, Hg.out.tape, Hg.out.output, Hg.out.size, Hg.out.block⟩)
            rw [← hyf]
            clear hyf t0 t1 t2
            have hBg := Hr.out.1
            obtain ⟨k0', k1', hi9, hr9, hg9⟩ := bp_end (s := s) (c := c) X2.out Hi.out Hr.out (by omega) (by omega) Hg.out
            have K0 := Lib.hid k0'
            have K1 := Lib.hid k1'
            have Hi9 := Lib.hid hi9
            have Hr9 := Lib.hid hr9
            have Hg9 := Lib.hid hg9
            have r0 := X2.out.cell0
            have r1 := X2.out.cell1
            have r2 := X2.out.frozen 0
            have r3 := X2.out.frozen 1
            have r4 := X2.out.lt
            have t0 := X4.out.cell0
            have t1 := X4.out.cell1
            have t2 := X4.out.lt
            clear k0' k1' hi9 hr9 hg9
            rw [hA] at K0 K1 Hi9 Hr9 Hg9
            go_wp2_with fail
            have k0 := K0.out
            have k1 := K1.out
            refine bodyPost_ret (v := .tuple #[.agg #[.int .i64 s, .slice (some ⟨b, o, none⟩) n c], .int .i64 (pn : Nat)]) (by simp [results, Try.results44, go_sem, k0, k1]) rfl ?_
            exact ⟨_, _, _, _, _, _, _, rfl, Hi9.out, hn, s0, s8, by omega, by omega, Hr9.out, by omega, Hg9.out⟩
        · obtain rfl : p9 = -1 := by omega
          clear hp0
          go_wp2_with fail
          go_quiet (fail)
          obtain ⟨yf, hyf⟩ : ∃ y, y = wr.drewN nq := ⟨_, rfl⟩
          have X2 : Hid (Bx 25 yf w.heap.size 0 (.slice none 0 0)) := Lib.hid (by rw [hyf]; exact X2.out.drewN _)
          have X4 : Hid (Bx 25 yf y.heap.size s (.slice A n c)) := Lib.hid (by rw [hyf]; exact X4.out.drewN _)
          have Hi : Hid (IntsF yf (w.heap.size + 1) A n cs) := Lib.hid (by rw [hyf]; exact Hi.out)
          have Hr : Hid (Rdr yf B g (q1 + 2 + 1)) := Lib.hid (by rw [hyf]; exact Hr.out)
          have Hg : Hid (w.grownBy yf (some g)) := Lib.hid (by rw [hyf]; exact ⟨Hg.out.os, Hg.out.tape, Hg.out.output, Hg.out.size, Hg.out.block⟩)
          rw [← hyf]
          clear hyf t0 t1 t2
          have hBg := Hr.out.1
          obtain ⟨k0', k1', hi9, hr9, hg9⟩ := bp_end (s := s) (c := c) X2.out Hi.out Hr.out (by omega) (by omega) Hg.out
          have K0 := Lib.hid k0'
          have K1 := Lib.hid k1'
          have Hi9 := Lib.hid hi9
          have Hr9 := Lib.hid hr9
          have Hg9 := Lib.hid hg9
          have r0 := X2.out.cell0
          have r1 := X2.out.cell1
          have r2 := X2.out.frozen 0
          have r3 := X2.out.frozen 1
          have r4 := X2.out.lt
          have t0 := X4.out.cell0
          have t1 := X4.out.cell1
          have t2 := X4.out.lt
          clear k0' k1' hi9 hr9 hg9
          go_wp2_with fail
          have k0 := K0.out
          have k1 := K1.out
          refine bodyPost_ret (v := .tuple #[.agg #[.int .i64 s, .slice A n c], .int .i64 (-1)]) (by simp [results, Try.results44, go_sem, k0, k1]) rfl ?_
          exact ⟨_, _, _, _, _, _, _, rfl, Hi9.out, hn, s0, s8, by omega, by omega, Hr9.out, by omega, Hg9.out⟩
      · have hkI : ¬ (k : Int) < n := by omega
        go_wp2_with fail
        go_quiet (fail)
        obtain ⟨yf, hyf⟩ : ∃ y, y = wr.drewN nq := ⟨_, rfl⟩
        have X2 : Hid (Bx 25 yf w.heap.size 0 (.slice none 0 0)) := Lib.hid (by rw [hyf]; exact X2.out.drewN _)
        have X4 : Hid (Bx 25 yf y.heap.size s (.slice A n c)) := Lib.hid (by rw [hyf]; exact X4.out.drewN _)
        have Hi : Hid (IntsF yf (w.heap.size + 1) A n cs) := Lib.hid (by rw [hyf]; exact Hi.out)
        have Hr : Hid (Rdr yf B g (q1 + 2 + 1)) := Lib.hid (by rw [hyf]; exact Hr.out)
        have Hg : Hid (w.grownBy yf (some g)) := Lib.hid (by rw [hyf]; exact ⟨Hg.out.os, Hg.out.tape, Hg.out.output, Hg.out.size, Hg.out.block⟩)
        rw [← hyf]
        clear hyf t0 t1 t2
        have hBg := Hr.out.1
        obtain ⟨k0', k1', hi9, hr9, hg9⟩ := bp_end (s := s) (c := c) X2.out Hi.out Hr.out (by omega) (by omega) Hg.out
        have K0 := Lib.hid k0'
        have K1 := Lib.hid k1'
        have Hi9 := Lib.hid hi9
        have Hr9 := Lib.hid hr9
        have Hg9 := Lib.hid hg9
        have r0 := X2.out.cell0
        have r1 := X2.out.cell1
        have r2 := X2.out.frozen 0
        have r3 := X2.out.frozen 1
        have r4 := X2.out.lt
        have t0 := X4.out.cell0
        have t1 := X4.out.cell1
        have t2 := X4.out.lt
        clear k0' k1' hi9 hr9 hg9
        go_wp2_with fail
        have k0 := K0.out
        have k1 := K1.out
        refine bodyPost_ret (v := .tuple #[.agg #[.int .i64 s, .slice A n c], .int .i64 p9]) (by simp [results, Try.results44, go_sem, k0, k1]) rfl ?_
        exact ⟨_, _, _, _, _, _, _, rfl, Hi9.out, hn, s0, s8, by omega, by omega, Hr9.out, by omega, Hg9.out⟩
  · by_cases hf0 : f = 0
    · have hn0 : n = 0 := by omega
      have hfb : ((f : Int) == 0) = true := by simpa using hf0
      have t0 := X4.out.cell0
      have t1 := X4.out.cell1
      have t2 := X4.out.lt
      subst hn0
      clear hf0
      have hBg := Hr.out.1
      obtain ⟨k0', k1', hi9, hr9, hg9⟩ := bp_end (s := s) (c := c) X2.out Hi.out Hr.out (by omega) (by omega) Hg.out
      have K0 := Lib.hid k0'
      have K1 := Lib.hid k1'
      have Hi9 := Lib.hid hi9
      have Hr9 := Lib.hid hr9
      have Hg9 := Lib.hid hg9
      have r0 := X2.out.cell0
      have r1 := X2.out.cell1
      have r2 := X2.out.frozen 0
      have r3 := X2.out.frozen 1
      have r4 := X2.out.lt
      have t0 := X4.out.cell0
      have t1 := X4.out.cell1
      have t2 := X4.out.lt
      clear k0' k1' hi9 hr9 hg9
      go_wp2_with fail
      have k0 := K0.out
      have k1 := K1.out
      refine bodyPost_ret (v := .tuple #[.agg #[.int .i64 s, .slice A 0 c], .int .i64 p]) (by simp [results, Try.results44, go_sem, k0, k1]) rfl ?_
      exact ⟨_, _, _, _, _, _, _, rfl, Hi9.out, hn, s0, s8, by omega, by omega, Hr9.out, by omega, Hg9.out⟩
    · have hfb : ((f : Int) == 0) = false := by simpa using hf0
      clear hf0
      have hBg := Hr.out.1
      obtain ⟨k0', k1', hi9, hr9, hg9⟩ := bp_end (s := s) (c := c) X2.out Hi.out Hr.out (by omega) (by omega) Hg.out
      have K0 := Lib.hid k0'
      have K1 := Lib.hid k1'
      have Hi9 := Lib.hid hi9
      have Hr9 := Lib.hid hr9
      have Hg9 := Lib.hid hg9
      have r0 := X2.out.cell0
      have r1 := X2.out.cell1
      have r2 := X2.out.frozen 0
      have r3 := X2.out.frozen 1
      have r4 := X2.out.lt
      have t0 := X4.out.cell0
      have t1 := X4.out.cell1
      have t2 := X4.out.lt
      clear k0' k1' hi9 hr9 hg9
      go_wp2_with fail
      have k0 := K0.out
      have k1 := K1.out
      refine bodyPost_ret (v := .tuple #[.agg #[.int .i64 s, .slice A n c], .int .i64 p]) (by simp [results, Try.results44, go_sem, k0, k1]) rfl ?_
      exact ⟨_, _, _, _, _, _, _, rfl, Hi9.out, hn, s0, s8, by omega, by omega, Hr9.out, by omega, Hg9.out⟩
end Go.Proofs.Ytpopbcmfbcmojaa

namespace Go.Proofs.Ytpopbcmfbcmojaa
set_option maxRecDepth 100000
open Go.RowKit

/-- What a law's draw of a board and two ints gives. -/
def DrawnLII (P Q : Int → Prop) (w : World) (e : Ending) (w' : World) : Prop :=
  ∃ (s : Int) (A : Option Addr) (n c : Nat) (cs : List Int) (p x : Int), e = .returned (.tuple #[.agg #[.int .i64 s, .slice A n c], .int .i64 p, .int .i64 x]) ∧ Ints w' w'.heap.size A n cs ∧ n ≤ 49 ∧ 0 ≤ s ∧ s ≤ 8 ∧ P p ∧ Q x ∧ Below w.heap.size w w'

set_option maxRecDepth 100000 in
set_option maxHeartbeats 4000000 in
theorem d_grp (w : World) (a : Option Addr) (len cap : Nat) (zs : List Int) (h : IsRow .u8 w a len cap zs) :
    Calls Try.prog 38 #[.slice a len cap] w fun e w' => DrawnLI (fun x => -1 ≤ x ∧ x ≤ 64) w e w' := by
  have hb1 : Below w.heap.size w (w.alloc (.cells #[.int .i64 0, .slice none 0 0] 25)) := (Below.refl _ _).alloc (Nat.le_refl _) _
  have X2 := Lib.hid (Bx.new 25 w 0 (.slice none 0 0))
  have Hb := Lib.hid hb1
  have hsz : (w.alloc (.cells #[.int .i64 0, .slice none 0 0] 25)).heap.size = w.heap.size + 1 := by simp
  have Hsz := Lib.hid hsz
  have H := Lib.hid (h.below hb1)
  clear h hb1 hsz
  go_enter Try.func38, Try.ntmps38
  go_wp2_with fail
  refine (r_new _ _ _ _ zs H.out).mono ?_
  rintro e y ⟨g, rfl, hr, hb⟩
  have Hg := Lib.hid hr.1
  rw [Hsz.out] at Hg
  have hg1 := Hg.out
  have X2 := Lib.hid (X2.out.below hb X2.out.lt)
  have Hb := Lib.hid (Hb.out.trans (hb.mono (by rw [Hsz.out]; omega)))
  have zy := X2.out.lt
  obtain ⟨Bq, Hr⟩ : ∃ Bq, Hid (Rdr y Bq g 0) := ⟨_, Lib.hid hr⟩
  clear hr hb
  go_wp2_with fail
  have hgy := Hr.out.lt
  refine (r_bp Bq g 0 _ Hr.out (by omega)).mono ?_
  rintro e y2 ⟨s, A, n, c, cs, q', p, rfl, hi, hn, s0, s8, p1, p2, hr, hq, hg⟩
  have X2 := Lib.hid (X2.out.grown hg (fun e => by have := Option.some.inj e; omega))
  have Hb := Lib.hid (Hb.out.trans (below_g hg (by omega) (fun k hk => by have := Option.some.inj hk; omega)))
  have Hi := Lib.hid (((hi.far ⟨w.heap.size, 0, none⟩ (by show w.heap.size < y.heap.size; omega) (.int .i64 s)).far ⟨w.heap.size, 1, none⟩ (by show w.heap.size < y.heap.size; omega) (.slice A n c)).ints)
  clear hi hr hg hq
  have r0 := X2.out.cell0
  have r1 := X2.out.cell1
  have r2 := X2.out.frozen 0
  have r3 := X2.out.frozen 1
  have r4 := X2.out.lt
  have K0 := Lib.hid ((X2.out.set0 s).cell0)
  have K1 := Lib.hid (((X2.out.set0 s).set1 (.slice A n c)).cell1)
  have Hb3 := Lib.hid ((Hb.out.setCell (p := ⟨w.heap.size, 0, none⟩) (Nat.le_refl _) (.int .i64 s)).setCell (p := ⟨w.heap.size, 1, none⟩) (Nat.le_refl _) (.slice A n c))
  go_wp2_with fail
  have k0 := K0.out
  have k1 := K1.out
  refine bodyPost_ret (v := .tuple #[.agg #[.int .i64 s, .slice A n c], .int .i64 p]) (by simp [results, Try.results38, go_sem, k0, k1]) rfl ?_
  exact ⟨_, _, _, _, _, _, rfl, Hi.out, hn, s0, s8, ⟨p1, p2⟩, Hb3.out⟩

end Go.Proofs.Ytpopbcmfbcmojaa

namespace Go.Proofs.Ytpopbcmfbcmojaa
set_option maxRecDepth 100000
open Go.RowKit

theorem i_nbs (s p : Int) (w : World) (h1 : 1 ≤ s) (h2 : s ≤ 7) (h3 : 0 ≤ p) (h4 : p < s * s) :
    Calls Try.prog 42 #[.int .i64 s, .int .i64 p] w fun e w' => ∃ A n c, e = .returned (.slice A n c) ∧ Own w' w.heap.size A n c (Pt.nbs s p) ∧ Below w.heap.size w w' := by
  have hp : Pt.okP s p = true := (Pt.okP_iff s p).2 ⟨h1, h2, h3, h4⟩
  have hb := Pt.sq_bd s h1 h2
  obtain ⟨d1, d2, d3, d4, d5⟩ := Pt.dm s p h1 h2 h3 h4
  have hrow := Pt.row_pos s p h1 h2 h3 h4
  clear d5
  go_enter Try.func42, Try.ntmps42
  go_wp2_with fail
  refine (i_point _ _ _).mono ?_
  rintro e w' ⟨rfl, rfl⟩
  go_wp2_with fail
  refine (i_place _ _ _ h1 h2 h3 h4).mono ?_
  rintro e w1 ⟨rfl, hb1⟩
  have hz1 := hb1.size
  go_upto_if 16 with (fail)
  have At := Lib.hid (At2.new w1 (p / s) (p % s))
  have Hw := Lib.hid (hb1.alloc hz1 (.cells #[.int .i64 (p / s), .int .i64 (p % s)] 64))
  clear hb1
  obtain ⟨wb, hwb⟩ : ∃ wb, wb = w1.alloc (.cells #[.int .i64 (p / s), .int .i64 (p % s)] 64) := ⟨_, rfl⟩
  rw [← hwb] at At Hw
  have hzb : wb.heap.size = w1.heap.size + 1 := by rw [hwb]; simp
  have Hzb := Lib.hid hzb
  have hlb : w1.heap.size < wb.heap.size := by omega
  rw [← hwb]
  clear hwb hzb
  have Ho := Lib.hid (Own.nil wb wb.heap.size)
  have Hb := Lib.hid (Below.refl wb.heap.size wb)
  have c0 := At.out.cell0
  have c1 := At.out.cell1
  go_cut [6] (fun v wx => Slc wb.heap.size wb v wx (Pt.nbL s p))
  case first =>
    by_cases hA : s ≤ p
    · have hA' : 0 < p / s := hrow.1.2 hA
      go_wp2_with (at_builtin; refine app1 rfl _ _ rfl _ _ _ _ _ _ _ _ rfl rfl (by simp) Ho.out (Nat.le_refl _) (by omega) ?_; intro A' c' w' hown' hb' hlt' _)
      go_meet
      exact ⟨_, _, _, rfl, by rw [Pt.nbL, if_pos hA]; exact hown', hb'⟩
    · have hA' : ¬ 0 < p / s := fun h => hA (hrow.1.1 h)
      go_wp2_with fail
      go_meet
      exact ⟨_, _, _, rfl, by rw [Pt.nbL, if_neg (by omega)]; exact Ho.out, Hb.out⟩
  case rest =>
    clear Ho Hb c0 c1
    obtain ⟨A, n, c, rfl, ho, hbe⟩ := hcut
    have hn := ho.1
    have hz := hbe.size
    have hn1 : n ≤ 1 := by rw [← hn]; exact len_if _
    have Ho := Lib.hid ho
    have Hb := Lib.hid hbe
    clear hn ho hbe
    have c0 := (At.out.below Hb.out hlb).cell0
    have c1 := (At.out.below Hb.out hlb).cell1
    go_upto_if 25 with (fail)
    go_cut [6] (fun v wx => Slc wb.heap.size wb v wx (Pt.nbL s p ++ Pt.nbA s p))
    case first =>
      by_cases hA : 0 < p % s
      · go_wp2_with (at_builtin; refine app1 rfl _ _ rfl _ _ _ _ _ _ _ _ rfl rfl (by simp) Ho.out hz (by omega) ?_; intro A' c' w' hown' hb' hlt' _)
        go_meet
        exact ⟨_, _, _, rfl, by rw [Pt.nbA, if_pos hA]; exact hown', Hb.out.trans (hb'.mono (by omega))⟩
      · go_wp2_with fail
        go_meet
        exact ⟨_, _, _, rfl, by rw [Pt.nbA, if_neg (by omega), List.append_nil]; exact Ho.out, Hb.out⟩
    case rest =>
      clear Ho Hb hz c0 c1
      obtain ⟨A, n, c, rfl, ho, hbe⟩ := hcut
      have hn := ho.1
      have hz := hbe.size
      have hn2 : n ≤ 2 := by rw [← hn, List.length_append]; exact Nat.add_le_add (len_if _) (len_if _)
      have Ho := Lib.hid ho
      have Hb := Lib.hid hbe
      clear hn ho hbe
      have c0 := (At.out.below Hb.out hlb).cell0
      have c1 := (At.out.below Hb.out hlb).cell1
      go_upto_if 35 with (fail)
      go_cut [6] (fun v wx => Slc wb.heap.size wb v wx (Pt.nbL s p ++ Pt.nbA s p ++ Pt.nbB s p))
      case first =>
        by_cases hA : p % s < s - 1
        · go_wp2_with (at_builtin; refine app1 rfl _ _ rfl _ _ _ _ _ _ _ _ rfl rfl (by simp) Ho.out hz (by omega) ?_; intro A' c' w' hown' hb' hlt' _)
          go_meet
          exact ⟨_, _, _, rfl, by rw [Pt.nbB, if_pos hA]; exact hown', Hb.out.trans (hb'.mono (by omega))⟩
        · go_wp2_with fail
          go_meet
          exact ⟨_, _, _, rfl, by rw [Pt.nbB, if_neg (by omega), List.append_nil]; exact Ho.out, Hb.out⟩
      case rest =>
        clear Ho Hb hz c0 c1
        obtain ⟨A, n, c, rfl, ho, hbe⟩ := hcut
        have hn := ho.1
        have hz := hbe.size
        have hn3 : n ≤ 3 := by rw [← hn, List.length_append, List.length_append]; exact Nat.add_le_add (Nat.add_le_add (len_if _) (len_if _)) (len_if _)
        have Ho := Lib.hid ho
        have Hb := Lib.hid hbe
        clear hn ho hbe
        have c0 := (At.out.below Hb.out hlb).cell0
        have c1 := (At.out.below Hb.out hlb).cell1
        by_cases hA : p + s < s * s
        · have hA' : p / s < s - 1 := hrow.2.2 hA
          have Hf : Hid (Pt.nbs s p = Pt.nbL s p ++ Pt.nbA s p ++ Pt.nbB s p ++ [p + s]) := Lib.hid (by rw [Pt.nbs, Pt.nbU, if_pos hA])
          go_wp2_with (at_builtin; refine app1 rfl _ _ rfl _ _ _ _ _ _ _ _ rfl rfl (by simp) Ho.out hz (by omega) ?_; intro A' c' w' hown' hb' hlt' _)
          go_ret
          exact ⟨_, _, _, rfl, by rw [Hf.out]; exact hown'.weaken (by omega), Hw.out.trans ((Hb.out.trans (hb'.mono (by omega))).mono (by omega))⟩
        · have hA' : ¬ p / s < s - 1 := fun h => hA (hrow.2.1 h)
          have Hf : Hid (Pt.nbs s p = Pt.nbL s p ++ Pt.nbA s p ++ Pt.nbB s p) := Lib.hid (by rw [Pt.nbs, Pt.nbU, if_neg hA, List.append_nil])
          go_wp2_with fail
          go_ret
          exact ⟨_, _, _, rfl, by rw [Hf.out]; exact Ho.out.weaken (by omega), Hw.out.trans (Hb.out.mono (by omega))⟩

theorem nb_no {s p : Int} (h : Pt.okP s p = false) : Pt.nb s p = [] := by rw [Pt.nb, h]; rfl
theorem nb_yes {s p : Int} (h : Pt.okP s p = true) : Pt.nb s p = Pt.nbs s p := by rw [Pt.nb, if_pos h]

theorem i_nb (s p : Int) (w : World) :
    Calls Try.prog 42 #[.int .i64 s, .int .i64 p] w fun e w' => ∃ A n c, e = .returned (.slice A n c) ∧ Own w' w.heap.size A n c (Pt.nb s p) ∧ Below w.heap.size w w' := by
  by_cases h : Pt.okP s p = true
  · obtain ⟨h1, h2, h3, h4⟩ := (Pt.okP_iff s p).1 h
    rw [nb_yes h]
    exact i_nbs s p w h1 h2 h3 h4
  · have h' : Pt.okP s p = false := by simpa using h
    have H := Lib.hid (nb_no h')
    go_enter Try.func42, Try.ntmps42
    go_wp2_with fail
    refine (i_point _ _ _).mono ?_
    rintro e w' ⟨rfl, rfl⟩
    go_wp2_with fail
    go_ret
    exact ⟨_, _, _, rfl, by rw [H.out]; exact Own.nil _ _, Below.refl _ _⟩

end Go.Proofs.Ytpopbcmfbcmojaa

namespace Go.Proofs.Ytpopbcmfbcmojaa
set_option maxRecDepth 100000
open Go.RowKit

theorem nbs_sy {s : Int} {n : Nat} (h1 : 1 ≤ s) (h2 : s ≤ 7) (hn : (n : Int) = s * s) : ∀ x : Int, 0 ≤ x → x < n → ∀ y ∈ Pt.nbs s x, x ∈ Pt.nbs s y := by
  intro x h0 hx y hy
  obtain ⟨m1, _, _⟩ := Pt.nbs_all s x h1 h2 h0 (by omega)
  have := List.all_eq_true.1 m1 y hy
  simp only [Bool.and_eq_true, decide_eq_true_eq] at this
  simpa using this.1.2

/-- The points whose set begins with a point, as a list of marks. -/
def inSet (r : Nat → Nat) (p n : Nat) : List Bool := (List.range n).map fun q => r q == r p
theorem inSet_len (r : Nat → Nat) (p n : Nat) : (inSet r p n).length = n := by simp [inSet]
theorem inSet_at {r : Nat → Nat} {p n q : Nat} (h : q < n) : (inSet r p n).getD q false = (r q == r p) := by
  simp [inSet, List.getD_eq_getElem?_getD, h]

set_option maxRecDepth 100000 in
set_option maxHeartbeats 4000000 in
theorem i_setOf (w : World) (B g n c : Nat) (u : List Int) (r : Nat → Nat) (p : Nat) (h : Own w B (some ⟨g, 0, none⟩) n c u) (hu : Un.Un u n r) (hp : p < n) (hn : n ≤ 1000) :
    Calls Try.prog 79 #[.slice (some ⟨g, 0, none⟩) n c, .int .i64 (p : Nat)] w fun e w' => ∃ A m c', e = .returned (.slice A m c') ∧ Own w' w.heap.size A m c' (Fl.pts (inSet r p n) n) ∧ Fst B g n c r w w' := by
  have hgw := (h.ge rfl).2
  have H := Lib.hid h
  have Hu := Lib.hid hu
  clear h hu
  go_enter Try.func79, Try.ntmps79
  go_wp2_with fail
  refine (i_firstOf _ _ _ _ _ _ _ _ H.out Hu.out hp).mono ?_
  rintro e y ⟨rfl, u1, ho1, hu1, hg1⟩
  have H1 := Lib.hid ho1
  have Hu1 := Lib.hid hu1
  have Hg1 := Lib.hid hg1
  have hzy := hg1.size
  have hgy := (ho1.ge rfl).2
  have hrp := (hu1.fix p hp).1
  clear H Hu ho1 hu1 hg1
  obtain ⟨a, ha⟩ : ∃ a, r p = a := ⟨_, rfl⟩
  have Ha := Lib.hid ha
  rw [ha] at hrp ⊢
  clear ha
  go_wp2_with fail
  go_loopw [6, 13] (fun v i wr => ∃ (j m c' : Nat) (A : Option Addr) (u2 : List Int), j ≤ n ∧ i = .int .i64 (j : Nat) ∧ v = .slice A m c' ∧ Own wr y.heap.size A m c' (Fl.pts (inSet r p n) j) ∧ Own wr B (some ⟨g, 0, none⟩) n c u2 ∧ Un.Un u2 n r ∧ y.grownBy wr (some g)) (fun _ i _ => n - (intOf i).toNat)
  case atStart => exact ⟨0, 0, 0, none, _, by omega, rfl, rfl, Own.nil _ _, H1.out, Hu1.out, World.grownBy.refl _ _⟩
  case round =>
    clear H1 Hu1
    obtain ⟨wo, rfl⟩ : ∃ wo : World, wo = wr := ⟨_, rfl⟩
    obtain ⟨j, m, c', A, u2, hj, rfl, rfl, ho, hf, hun, hgr⟩ := hrel
    have hm := ho.1
    have hm2 := Fl.pts_len (inSet r p n) j
    have hzr := hgr.size
    have Ho := Lib.hid ho
    have Hf := Lib.hid hf
    have Hun := Lib.hid hun
    have Hgr := Lib.hid hgr
    have hm3 : m ≤ 1000 := by omega
    clear ho hf hun hgr hm hm2
    by_cases hjn : j < n
    · go_wp2_with fail
      refine (i_firstOf _ _ _ _ _ _ _ _ Hf.out Hun.out hjn).mono ?_
      rintro e y2 ⟨rfl, u3, hf3, hun3, hg3⟩
      have hrj := (hun3.fix j hjn).1
      have hz3 := hg3.size
      have ho3 := Ho.out.kept hg3 (fun g2 e e2 => by have := (Ho.out.ge e).1; injection e2 with e2; omega)
      have Ho3 := Lib.hid ho3
      have Hf3 := Lib.hid hf3
      have Hun3 := Lib.hid hun3
      have Hg3 := Lib.hid (gtrans Hgr.out hg3)
      have Hin := Lib.hid (inSet_at (r := r) (p := p) hjn)
      clear Ho Hf Hun Hgr hf3 hun3 hg3 ho3
      obtain ⟨b, hb⟩ : ∃ b, r j = b := ⟨_, rfl⟩
      have Hbb := Lib.hid hb
      rw [hb] at hrj ⊢
      clear hb
      by_cases hab : b = a
      · have Hy := Lib.hid (show Fl.pts (inSet r p n) (j + 1) = Fl.pts (inSet r p n) j ++ [(j : Int)] from Fl.pts_yes (by rw [Hin.out, Ha.out, Hbb.out]; simpa using hab))
        have hab2 : (b : Int) = a := by omega
        go_wp2_with (at_builtin; refine app1 rfl _ _ rfl _ _ _ _ _ _ _ _ rfl rfl rfl Ho3.out (by omega) (by omega) ?_; intro A' c2 w' hown' hb' hlt' hgrow)
        have hfa : ∀ q, (Value.slice A m c').ownBlock = some q → y.heap.size ≤ q := fun q e2 => (Ho3.out.ge (own_block Ho3.out e2)).1
        have Hf4 : Hid (Own w' B (some ⟨g, 0, none⟩) n c u3) := Lib.hid (Hf3.out.kept hgrow (fun q e e2 => by injection e with e; injection e with e; have := hfa q e2; omega))
        have Hg4 : Hid (y.grownBy w' (some g)) := Lib.hid ⟨hgrow.os.trans Hg3.out.os, hgrow.tape.trans Hg3.out.tape, hgrow.output.trans Hg3.out.output, Nat.le_trans Hg3.out.size hgrow.size, fun i hi hne => (hgrow.block i (Nat.lt_of_lt_of_le hi Hg3.out.size) (fun e2 => by have := hfa i e2.symm; omega)).trans (Hg3.out.block i hi hne)⟩
        have Ho4 := Lib.hid hown'
        clear hown' hb' hgrow hfa
        go_roundw
        case rel => exact ⟨j + 1, _, _, _, _, by omega, by go_num, rfl, by rw [Hy.out]; exact Ho4.out, Hf4.out, Hun3.out, Hg4.out⟩
        case measure => simp [intOf]; omega
      · have Hy := Lib.hid (show Fl.pts (inSet r p n) (j + 1) = Fl.pts (inSet r p n) j from Fl.pts_no (by rw [Hin.out, Ha.out, Hbb.out]; simpa using hab))
        have hab2 : ¬ (b : Int) = a := by omega
        go_wp2_with fail
        go_roundw
        case rel => exact ⟨j + 1, _, _, _, _, by omega, by go_num, rfl, by rw [Hy.out]; exact Ho3.out, Hf3.out, Hun3.out, Hg3.out⟩
        case measure => simp [intOf]; omega
    · obtain rfl : j = n := by omega
      go_wp2_with fail
      go_ret
      exact ⟨_, _, _, rfl, Ho.out.weaken (by omega), _, Hf.out, Hun.out, gtrans Hg1.out Hgr.out⟩

/-- What 'joinEqual' returns: a forest of the connected points of one color. -/
def Joined (s : Int) (n : Nat) (cs : List Int) (w : World) (e : Ending) (w' : World) : Prop :=
  ∃ g c' u r, e = .returned (.slice (some ⟨g, 0, none⟩) n c') ∧ Own w' w.heap.size (some ⟨g, 0, none⟩) n c' u ∧ Un.Un u n r ∧ Un.Jn s n cs r n 0 ∧ Below w.heap.size w w'

set_option maxRecDepth 100000 in
set_option maxHeartbeats 4000000 in
theorem i_joinEqual (s : Int) (w : World) (B : Nat) (A : Option Addr) (n c : Nat) (cs : List Int) (h : Ints w B A n cs) (hB : B ≤ w.heap.size) (h1 : 1 ≤ s) (h2 : s ≤ 7) (hn : (n : Int) = s * s) :
    Calls Try.prog 78 #[.agg #[.int .i64 s, .slice A n c]] w fun e w' => Joined s n cs w e w' := by
  have hsq := Pt.sq_bd s h1 h2
  have hn49 : n ≤ 49 := by omega
  have hn1 : 0 < n := by omega
  have Hnn := Lib.hid (nbs_in h1 h2 hn)
  have Hsy := Lib.hid (nbs_sy h1 h2 hn)
  have hl := h.1
  have hb1 : Below w.heap.size w (w.alloc (.cells #[.int .i64 s, .slice A n c] 25)) := (Below.refl _ _).alloc (Nat.le_refl _) _
  have X0 := Lib.hid (Bx.new 25 w s (.slice A n c))
  have H := Lib.hid (h.below hb1 hB)
  have Hb := Lib.hid hb1
  have Hn := Lib.hid hn
  have Hl := Lib.hid hl
  clear h hb1 hn hl
  go_enter Try.func78, Try.ntmps78
  go_upto_region 1 with (fail)
  obtain ⟨y0, hy⟩ : ∃ y, y = w.alloc (.cells #[.int .i64 s, .slice A n c] 25) := ⟨_, rfl⟩
  have hyz : w.heap.size < y0.heap.size := by rw [hy]; simp
  rw [← hy] at X0 H Hb ⊢
  clear hy
  obtain ⟨b, o, rfl, hbB, hc⟩ : ∃ b o, A = some ⟨b, o, none⟩ ∧ b < B ∧ ∀ j, j < n → y0.cell? ⟨b, o + j, none⟩ = some (.int .i64 (cs.getD j 0)) := by
    rcases H.out.2 with h0 | ⟨b, o, hA, hbB, hc⟩
    · omega
    · exact ⟨b, o, hA, hbB, hc⟩
  have Hc := Lib.hid hc
  clear hc
  have u0 := X0.out.cell0
  have u1 := X0.out.cell1
  have ul := X0.out.lt
  go_wp2_with fail
  refine (i_newUnions _ _ (by omega)).mono ?_
  rintro e y1 ⟨c1, rfl, ho1, hb1⟩
  have hz1 := hb1.size
  have X1 := Lib.hid (X0.out.below hb1 ul)
  have Ho1 := Lib.hid ho1
  have Hb1 := Lib.hid hb1
  clear ho1 hb1 u0 u1
  have u0 := X1.out.cell0
  have u1 := X1.out.cell1
  have ul1 := X1.out.lt
  go_wp2_with fail
  go_loopw [15] (fun i wr => ∃ (k : Nat) (u : List Int) (r : Nat → Nat), k ≤ n ∧ i = .int .i64 (k : Nat) ∧ Own wr y0.heap.size (some ⟨y0.heap.size, 0, none⟩) n c1 u ∧ Un.Un u n r ∧ Un.Jn s n cs r k 0 ∧ Below y0.heap.size y0 wr) (fun i _ => n - (intOf i).toNat)
  case atStart => exact ⟨0, _, id, by omega, rfl, Ho1.out, by have := Un.Un.start n; simpa [marks] using this, Un.Jn.start s n cs, Hb1.out⟩
  case round =>
    clear Ho1 Hb1 X1 u0 u1 ul1
    obtain ⟨wo, rfl⟩ : ∃ wo : World, wo = wr := ⟨_, rfl⟩
    obtain ⟨k, u, r, hk, rfl, ho, hun, hjn, hbr⟩ := hrel
    have hz := hbr.size
    have hgl := (ho.ge rfl).2
    have X0r := Lib.hid (X0.out.below hbr ul)
    have Ho := Lib.hid ho
    have Hun := Lib.hid hun
    have Hjn := Lib.hid hjn
    have Hbr := Lib.hid hbr
    clear ho hun hjn hbr
    by_cases hkn : k < n
    · have ck := (Hbr.out.cell (p := ⟨b, o + k, none⟩) (by show b < _; omega)).trans (Hc.out k hkn)
      obtain ⟨x, hx⟩ : ∃ x, cs.getD k 0 = x := ⟨_, rfl⟩
      have Hx := Lib.hid hx
      rw [hx] at ck
      clear hx
      have v0 := X0r.out.cell0
      have v1 := X0r.out.cell1
      have vl := X0r.out.lt
      have hk0 : (0 : Int) ≤ (k : Nat) := by omega
      have hkss : ((k : Nat) : Int) < s * s := by have := Hn.out; omega
      have hkI : (k : Int) < n := by omega
      go_wp2_with fail
      refine (i_nbs s k _ h1 h2 hk0 hkss).mono ?_
      rintro e yc ⟨A2, n2, c2, rfl, ho2, hb2⟩
      have hn2 : n2 ≤ 4 := by
        have := ho2.1
        rw [Pt.nbs, List.length_append, List.length_append, List.length_append] at this
        have := len_if (P := s ≤ (k : Int)) ((k : Int) - s)
        have := len_if (P := 0 < (k : Int) % s) ((k : Int) - 1)
        have := len_if (P := (k : Int) % s < s - 1) ((k : Int) + 1)
        have := len_if (P := (k : Int) + s < s * s) ((k : Int) + s)
        unfold Pt.nbL Pt.nbA Pt.nbB Pt.nbU at *
        omega
      have hzc := hb2.size
      have Ho2 := Lib.hid ho2
      have Hlo := Lib.hid ho2.1
      have X0c := Lib.hid (X0r.out.below hb2 vl)
      have Hoc := Lib.hid (Ho.out.below hb2)
      have Hbc := Lib.hid (Hbr.out.trans (hb2.mono (by omega)))
      clear ho2 hb2 v0 v1 ck Ho
      go_wp2_with fail
      go_loopw [25] (fun i wi => ∃ (j : Nat) (u2 : List Int) (r2 : Nat → Nat), j ≤ n2 ∧ i = .int .i64 (j : Nat) ∧ Own wi y0.heap.size (some ⟨y0.heap.size, 0, none⟩) n c1 u2 ∧ Un.Un u2 n r2 ∧ Un.Jn s n cs r2 k j ∧ yc.grownBy wi (some y0.heap.size)) (fun i _ => n2 - (intOf i).toNat)
      case atStart => exact ⟨0, _, _, by omega, rfl, Hoc.out, Hun.out, Hjn.out, World.grownBy.refl _ _⟩
      case round =>
        clear Hoc Hun Hjn
        obtain ⟨j, u2, r2, hj, rfl, ho, hun, hjn, hgr⟩ := hrel
        have hzi := hgr.size
        by_cases hjn2 : j < n2
        · have Xi := Lib.hid (X0c.out.grown hgr (by simp; omega))
          have v0 := Xi.out.cell0
          have v1 := Xi.out.cell1
          have vl := Xi.out.lt
          obtain ⟨nb, hA2⟩ : ∃ nb, A2 = some ⟨nb, 0, none⟩ := by
            obtain ⟨g, cap, hv, _⟩ := World.ownsRow.form Ho2.out.2 (by omega)
            exact ⟨g, by injection hv⟩
          have hnb := Ho2.out.ge hA2
          have hon := Ho2.out.kept hgr (fun g e e2 => by have := (Ho2.out.ge e).1; injection e2 with e2; omega)
          rw [hA2] at hon
          have hjl : j < (Pt.nbs s k).length := by rw [Hlo.out]; exact hjn2
          have hcn := hon.cellD j hjn2
          have hmem : (Pt.nbs s k).getD j 0 ∈ Pt.nbs s k := by
            rw [List.getD_eq_getElem?_getD, List.getElem?_eq_getElem hjl]; exact List.getElem_mem _
          obtain ⟨q0, qn⟩ := Hnn.out k hk0 hkI _ hmem
          obtain ⟨q, hq⟩ : ∃ q, (Pt.nbs s k).getD j 0 = q := ⟨_, rfl⟩
          rw [hq] at hcn q0 qn
          obtain ⟨d, rfl⟩ := Int.eq_ofNat_of_zero_le q0
          have hdn : d < n := by omega
          have cb := hgr.cell ((Hbc.out.cell (p := ⟨b, o + d, none⟩) (by show b < _; omega)).trans (Hc.out d hdn)) (by simp; omega)
          obtain ⟨e0, he0⟩ : ∃ e0, cs.getD d 0 = e0 := ⟨_, rfl⟩
          rw [he0] at cb
          have Hq := Lib.hid hq
          have Hjl := Lib.hid hjl
          have He0 := Lib.hid he0
          have Ho := Lib.hid ho
          have Hun := Lib.hid hun
          have Hjn := Lib.hid hjn
          have Hgr := Lib.hid hgr
          have HA := Lib.hid hA2
          rw [hA2]
          have hj2 : (j : Int) < n2 := by omega
          clear hq hmem hjl he0 hA2 hon ho hun hjn hgr
          by_cases hcol : e0 = x
          · have Hst := Lib.hid (Hjn.out.join Hnn.out Hsy.out Hl.out hkn hdn Hjl.out Hq.out (by rw [He0.out, Hx.out]; exact hcol))
            go_wp2_with fail
            refine (i_join _ _ _ _ _ _ _ _ _ Ho.out Hun.out hkn hdn).mono ?_
            rintro e y9 ⟨rfl, u3, ho3, hun3, hg3⟩
            have Ho3 := Lib.hid ho3
            have Hun3 := Lib.hid hun3
            have Hg3 := Lib.hid (gtrans Hgr.out hg3)
            clear ho3 hun3 hg3
            go_wp2_with fail
            go_roundw
            case rel => exact ⟨j + 1, _, _, by omega, by go_num, Ho3.out, Hun3.out, Hst.out, Hg3.out⟩
            case measure => simp [intOf]; omega
          · have Hst := Lib.hid (Hjn.out.skip Hjl.out Hq.out (by rw [He0.out, Hx.out]; exact hcol))
            go_wp2_with fail
            go_roundw
            case rel => exact ⟨j + 1, _, _, by omega, by go_num, Ho.out, Hun.out, Hst.out, Hgr.out⟩
            case measure => simp [intOf]; omega
        · have Hjn2 := Lib.hid (hjn.next (by rw [Hlo.out]; omega))
          have Ho := Lib.hid ho
          have Hun := Lib.hid hun
          have Hgr := Lib.hid hgr
          clear ho hun hjn hgr
          go_wp2_with fail
          go_roundw
          case rel => exact ⟨k + 1, _, _, by omega, by go_num, Ho.out, Hun.out, Hjn2.out, Hbc.out.grown Hgr.out (by omega) (fun k e => by injection e; omega)⟩
          case measure => simp [intOf]; omega
    · obtain rfl : k = n := by omega
      go_wp2_with fail
      go_ret
      exact ⟨_, _, _, _, rfl, Ho.out.weaken (by omega), Hun.out, Hjn.out, Hb.out.trans (Hbr.out.mono (by omega))⟩
end Go.Proofs.Ytpopbcmfbcmojaa

namespace Go.Proofs.Ytpopbcmfbcmojaa
set_option maxRecDepth 100000
open Go.RowKit

end Go.Proofs.Ytpopbcmfbcmojaa

namespace Go.Proofs.Ytpopbcmfbcmojaa
set_option maxRecDepth 100000
open Go.RowKit

/-- Is there a stone? -/
def hst (s : Int) (cs : List Int) (p : Int) : Bool := Bd.okB s cs && (Pt.okP s p && !(cs.getD p.toNat 0 == 0))

/-- The group of a stone, as a list; nothing where there is no stone. -/
def GrpIs (s : Int) (n : Nat) (cs : List Int) (p : Int) (l : List Int) : Prop := (hst s cs p = true → Reached s n (hasCol (cs.getD p.toNat 0) cs) p l) ∧ (hst s cs p = false → l = [])

theorem pts_ext {S T : List Bool} {n : Nat} (h : ∀ q, q < n → S.getD q false = T.getD q false) : Fl.pts S n = Fl.pts T n := by
  unfold Fl.pts
  congr 1
  refine List.filter_congr fun q hq => ?_
  exact h q (List.mem_range.1 hq)

theorem Reached.one {s : Int} {n : Nat} {keep : List Bool} {p : Int} {l l' : List Int} (h : Reached s n keep p l) (h' : Reached s n keep p l') : l = l' := by
  obtain ⟨S, _, hS, rfl⟩ := h
  obtain ⟨T, _, hT, rfl⟩ := h'
  refine pts_ext fun q _ => ?_
  have e1 := hS (q : Int) (by omega)
  have e2 := hT (q : Int) (by omega)
  unfold Fl.at_ at e1 e2
  rw [Int.toNat_natCast] at e1 e2
  rw [Bool.eq_iff_iff]
  exact e1.trans e2.symm

theorem GrpIs.one {s : Int} {n : Nat} {cs : List Int} {p : Int} {l l' : List Int} (h : GrpIs s n cs p l) (h' : GrpIs s n cs p l') : l = l' := by
  rcases Bool.eq_false_or_eq_true (hst s cs p) with e | e
  · exact (h.1 e).one (h'.1 e)
  · rw [h.2 e, h'.2 e]

/-- The marks of the points of a property. -/
theorem marks_of (n : Nat) (P : Nat → Prop) : ∃ S : List Bool, S.length = n ∧ ∀ q, q < n → (S.getD q false = true ↔ P q) := by
  induction n with
  | zero => exact ⟨[], rfl, fun q h => absurd h (by omega)⟩
  | succ n ih =>
    obtain ⟨S, hl, h⟩ := ih
    have key : ∀ b : Bool, (b = true ↔ P n) → ∃ S : List Bool, S.length = n + 1 ∧ ∀ q, q < n + 1 → (S.getD q false = true ↔ P q) := by
      intro b hb
      refine ⟨S ++ [b], by simp [hl], fun q hq => ?_⟩
      by_cases e : q = n
      · subst e
        simp [List.getD_eq_getElem?_getD, ← hl, hb]
      · rw [List.getD_eq_getElem?_getD, List.getElem?_append_left (by omega), ← List.getD_eq_getElem?_getD]
        exact h q (by omega)
    by_cases hp : P n
    · exact key true (by simp [hp])
    · exact key false (by simp [hp])

theorem Reached.make {s : Int} {n : Nat} (h1 : 1 ≤ s) (h2 : s ≤ 7) (hn : (n : Int) = s * s) (keep : List Bool) {p : Int} (hp : 0 ≤ p ∧ p < n) : ∃ l, Reached s n keep p l := by
  obtain ⟨S, hl, h⟩ := marks_of n fun q => Fl.Reach s keep p (q : Int)
  refine ⟨Fl.pts S n, S, hl, fun y hy => ?_, rfl⟩
  obtain ⟨q, rfl⟩ := Int.eq_ofNat_of_zero_le hy
  by_cases hq : q < n
  · have := h q hq
    unfold Fl.at_
    rw [Int.toNat_natCast]
    exact this
  · constructor
    · intro e
      unfold Fl.at_ at e
      rw [Int.toNat_natCast, List.getD_eq_getElem?_getD, List.getElem?_eq_none (by omega)] at e
      cases e
    · intro e
      have := (Fl.reach_in (nbs_in h1 h2 hn) hp e).2
      omega

theorem hst_iff {s : Int} {cs : List Int} {p : Int} (h : hst s cs p = true) : Bd.okB s cs = true ∧ Pt.okP s p = true ∧ cs.getD p.toNat 0 ≠ 0 := by
  unfold hst at h
  simp only [Bool.and_eq_true, Bool.not_eq_true', beq_eq_false_iff_ne] at h
  exact ⟨h.1, h.2.1, h.2.2⟩

theorem GrpIs.make (s : Int) (n : Nat) (cs : List Int) (p : Int) (hn : cs.length = n) : ∃ l, GrpIs s n cs p l := by
  rcases Bool.eq_false_or_eq_true (hst s cs p) with e | e
  · obtain ⟨a, b, _⟩ := hst_iff e
    obtain ⟨q1, q2, q3, _⟩ := (Bd.okB_iff s cs).1 a
    obtain ⟨_, _, p1, p2⟩ := (Pt.okP_iff s p).1 b
    obtain ⟨l, hl⟩ := Reached.make q1 q2 (n := n) (by omega) (hasCol (cs.getD p.toNat 0) cs) ⟨p1, by omega⟩
    exact ⟨l, ⟨fun _ => hl, fun h => absurd (e.symm.trans h) (by decide)⟩⟩
  · exact ⟨[], ⟨fun h => absurd (e.symm.trans h) (by decide), fun _ => rfl⟩⟩

theorem GrpIs.few {s : Int} {n : Nat} {cs : List Int} {p : Int} {l : List Int} (h : GrpIs s n cs p l) : l.length ≤ n := by
  rcases Bool.eq_false_or_eq_true (hst s cs p) with e | e
  · exact (h.1 e).few
  · rw [h.2 e]; exact Nat.zero_le _

set_option maxRecDepth 100000 in
set_option maxHeartbeats 4000000 in
theorem i_hasStone (s p : Int) (w : World) (B : Nat) (A : Option Addr) (n c : Nat) (cs : List Int) (h : Ints w B A n cs) (hB : B ≤ w.heap.size) (hn : n ≤ 1000000000) :
    Calls Try.prog 77 #[.agg #[.int .i64 s, .slice A n c], .int .i64 p] w fun e w' => e = .returned (.bool (hst s cs p)) ∧ Below w.heap.size w w' := by
  have hb1 : Below w.heap.size w (w.alloc (.cells #[.int .i64 s, .slice A n c] 25)) := (Below.refl _ _).alloc (Nat.le_refl _) _
  have hl := h.1
  have X0 := Lib.hid (Bx.new 25 w s (.slice A n c))
  have H := Lib.hid (h.below hb1 hB)
  have Hb := Lib.hid hb1
  clear h hb1
  by_cases hv : Bd.okB s cs = true
  · obtain ⟨q1, q2, q3, _⟩ := (Bd.okB_iff s cs).1 hv
    have q4 := Pt.sq_bd s q1 q2
    have hn49 : n ≤ 49 := by omega
    by_cases hp : Pt.okP s p = true
    · obtain ⟨_, _, p1, p2⟩ := (Pt.okP_iff s p).1 hp
      have hpp : (decide (0 ≤ p) && decide (p < s * s)) = true := by simp [p1, p2]
      obtain ⟨q, rfl⟩ := Int.eq_ofNat_of_zero_le p1
      have hqn : q < n := by omega
      by_cases hz : cs.getD q 0 = 0
      · have hh : hst s cs (q : Int) = false := by unfold hst; rw [hv, hp, Int.toNat_natCast, hz]; rfl
        have Hh := Lib.hid hh
        clear hh
        go_enter Try.func77, Try.ntmps77
        go_wp2_with fail
        refine (i_validBoard _ _ _ _ _ _ _ H.out (by simp; omega) (by omega)).mono ?_
        rintro e y2 ⟨rfl, hb⟩
        rw [hv]
        have X2 := Lib.hid (X0.out.below hb X0.out.lt)
        have H2 := Lib.hid (H.out.below hb (by simp; omega))
        have Hb2 := Lib.hid (Hb.out.trans (hb.mono (by simp)))
        have zy2 := hb.size
        clear hb X0 H Hb
        have u00 := X2.out.cell0
        have u01 := X2.out.cell1
        have u02 := X2.out.lt
        clear hv
        go_wp2_with fail
        refine (i_point _ _ _).mono ?_
        rintro e w' ⟨rfl, rfl⟩
        rw [hp]
        clear hp hpp
        obtain ⟨b, o, rfl, hbB, hc⟩ : ∃ b o, A = some ⟨b, o, none⟩ ∧ b < B ∧ ∀ j, j < n → y2.cell? ⟨b, o + j, none⟩ = some (.int .i64 (cs.getD j 0)) := by
          rcases H2.out.2 with h0 | ⟨b, o, hA, hbB, hc⟩
          · omega
          · exact ⟨b, o, hA, hbB, hc⟩
        have ck := hc q hqn
        rw [hz] at ck
        clear hc hz
        go_wp2_with fail
        go_ret
        exact ⟨by rw [Hh.out]; rfl, Hb2.out⟩
      · have hh : hst s cs (q : Int) = true := by unfold hst; rw [hv, hp, Int.toNat_natCast]; simpa using hz
        have Hh := Lib.hid hh
        clear hh
        go_enter Try.func77, Try.ntmps77
        go_wp2_with fail
        refine (i_validBoard _ _ _ _ _ _ _ H.out (by simp; omega) (by omega)).mono ?_
        rintro e y2 ⟨rfl, hb⟩
        rw [hv]
        have X2 := Lib.hid (X0.out.below hb X0.out.lt)
        have H2 := Lib.hid (H.out.below hb (by simp; omega))
        have Hb2 := Lib.hid (Hb.out.trans (hb.mono (by simp)))
        have zy2 := hb.size
        clear hb X0 H Hb
        have u00 := X2.out.cell0
        have u01 := X2.out.cell1
        have u02 := X2.out.lt
        clear hv
        go_wp2_with fail
        refine (i_point _ _ _).mono ?_
        rintro e w' ⟨rfl, rfl⟩
        rw [hp]
        clear hp hpp
        obtain ⟨b, o, rfl, hbB, hc⟩ : ∃ b o, A = some ⟨b, o, none⟩ ∧ b < B ∧ ∀ j, j < n → y2.cell? ⟨b, o + j, none⟩ = some (.int .i64 (cs.getD j 0)) := by
          rcases H2.out.2 with h0 | ⟨b, o, hA, hbB, hc⟩
          · omega
          · exact ⟨b, o, hA, hbB, hc⟩
        have ck := hc q hqn
        obtain ⟨x, hx⟩ : ∃ x, cs.getD q 0 = x := ⟨_, rfl⟩
        have Hx := Lib.hid hx
        rw [hx] at ck hz
        have hxb : (x != 0) = true := by simpa using hz
        have hxc : (x == 0) = false := by simpa using hz
        clear hc hx hz
        go_wp2_with fail
        go_ret
        exact ⟨by rw [Hh.out]; rfl, Hb2.out⟩
    · have hp' : Pt.okP s p = false := by simpa using hp
      have hh : hst s cs p = false := by unfold hst; rw [hp']; simp
      have Hh := Lib.hid hh
      clear hh hp
      have hp := hp'
      have hpp : (decide (0 ≤ p) && decide (p < s * s)) = false := by
        rcases Bool.eq_false_or_eq_true (decide (0 ≤ p) && decide (p < s * s)) with e | e
        · rw [Bool.and_eq_true, decide_eq_true_eq, decide_eq_true_eq] at e
          rw [(Pt.okP_iff s p).2 ⟨q1, q2, e.1, e.2⟩] at hp'
          cases hp'
        · exact e
      clear hp'
      go_enter Try.func77, Try.ntmps77
      go_wp2_with fail
      refine (i_validBoard _ _ _ _ _ _ _ H.out (by simp; omega) (by omega)).mono ?_
      rintro e y2 ⟨rfl, hb⟩
      rw [hv]
      have X2 := Lib.hid (X0.out.below hb X0.out.lt)
      have H2 := Lib.hid (H.out.below hb (by simp; omega))
      have Hb2 := Lib.hid (Hb.out.trans (hb.mono (by simp)))
      have zy2 := hb.size
      clear hb X0 H Hb
      have u00 := X2.out.cell0
      have u01 := X2.out.cell1
      have u02 := X2.out.lt
      clear hv
      go_wp2_with fail
      refine (i_point _ _ _).mono ?_
      rintro e w' ⟨rfl, rfl⟩
      rw [hp]
      clear hp hpp
      go_wp2_with fail
      go_ret
      exact ⟨by rw [Hh.out]; rfl, Hb2.out⟩
  · have hv' : Bd.okB s cs = false := by simpa using hv
    have hh : hst s cs p = false := by unfold hst; rw [hv']; rfl
    have Hh := Lib.hid hh
    clear hh hv
    have hv := hv'
    clear hv'
    go_enter Try.func77, Try.ntmps77
    go_wp2_with fail
    refine (i_validBoard _ _ _ _ _ _ _ H.out (by simp; omega) (by omega)).mono ?_
    rintro e y2 ⟨rfl, hb⟩
    rw [hv]
    have X2 := Lib.hid (X0.out.below hb X0.out.lt)
    have H2 := Lib.hid (H.out.below hb (by simp; omega))
    have Hb2 := Lib.hid (Hb.out.trans (hb.mono (by simp)))
    have zy2 := hb.size
    clear hb X0 H Hb
    have u00 := X2.out.cell0
    have u01 := X2.out.cell1
    have u02 := X2.out.lt
    clear hv
    go_wp2_with fail
    go_ret
    exact ⟨by rw [Hh.out]; rfl, Hb2.out⟩

set_option maxRecDepth 100000 in
set_option maxHeartbeats 4000000 in
theorem s_GroupOf (s p : Int) (w : World) (B : Nat) (A : Option Addr) (n c : Nat) (cs : List Int) (h : Ints w B A n cs) (hB : B ≤ w.heap.size) (hn : n ≤ 1000000000) (l : List Int) (Hl : Hid (GrpIs s n cs p l)) :
    Calls Try.prog 40 #[.agg #[.int .i64 s, .slice A n c], .int .i64 p] w fun e w' => ∃ A' m' c', e = .returned (.slice A' m' c') ∧ Own w' w.heap.size A' m' c' l ∧ Below w.heap.size w w' := by
  have hb1 : Below w.heap.size w (w.alloc (.cells #[.int .i64 s, .slice A n c] 25)) := (Below.refl _ _).alloc (Nat.le_refl _) _
  have hl := h.1
  have X0 := Lib.hid (Bx.new 25 w s (.slice A n c))
  have H := Lib.hid (h.below hb1 hB)
  have Hb := Lib.hid hb1
  clear h hb1
  by_cases hv : Bd.okB s cs = true
  · obtain ⟨q1, q2, q3, _⟩ := (Bd.okB_iff s cs).1 hv
    have q4 := Pt.sq_bd s q1 q2
    have hn49 : n ≤ 49 := by omega
    by_cases hp : Pt.okP s p = true
    · obtain ⟨_, _, p1, p2⟩ := (Pt.okP_iff s p).1 hp
      have hpp : (decide (0 ≤ p) && decide (p < s * s)) = true := by simp [p1, p2]
      obtain ⟨q, rfl⟩ := Int.eq_ofNat_of_zero_le p1
      have hqn : q < n := by omega
      by_cases hz : cs.getD q 0 = 0
      · have hh : hst s cs (q : Int) = false := by unfold hst; rw [hv, hp, Int.toNat_natCast, hz]; rfl
        have Hh := Lib.hid hh
        clear hh
        go_enter Try.func40, Try.ntmps40
        go_wp2_with fail
        refine (s_validBoard _ _ _ _ _ _ _ H.out (by simp; omega) (by omega)).mono ?_
        rintro e y2 ⟨rfl, hb⟩
        rw [hv]
        have X2 := Lib.hid (X0.out.below hb X0.out.lt)
        have H2 := Lib.hid (H.out.below hb (by simp; omega))
        have Hb2 := Lib.hid (Hb.out.trans (hb.mono (by simp)))
        have zy2 := hb.size
        clear hb X0 H Hb
        have u00 := X2.out.cell0
        have u01 := X2.out.cell1
        have u02 := X2.out.lt
        clear hv
        go_wp2_with fail
        refine (s_vpoint _ _ _ q1 q2).mono ?_
        rintro e w' ⟨rfl, rfl⟩
        rw [hpp]
        clear hp hpp
        obtain ⟨b, o, rfl, hbB, hc⟩ : ∃ b o, A = some ⟨b, o, none⟩ ∧ b < B ∧ ∀ j, j < n → y2.cell? ⟨b, o + j, none⟩ = some (.int .i64 (cs.getD j 0)) := by
          rcases H2.out.2 with h0 | ⟨b, o, hA, hbB, hc⟩
          · omega
          · exact ⟨b, o, hA, hbB, hc⟩
        have ck := hc q hqn
        rw [hz] at ck
        clear hc hz
        go_wp2_with fail
        go_ret
        exact ⟨_, _, _, rfl, by rw [Hl.out.2 Hh.out]; exact Own.nil _ _, Hb2.out⟩
      · have hh : hst s cs (q : Int) = true := by unfold hst; rw [hv, hp, Int.toNat_natCast]; simpa using hz
        have Hh := Lib.hid hh
        clear hh
        go_enter Try.func40, Try.ntmps40
        go_wp2_with fail
        refine (s_validBoard _ _ _ _ _ _ _ H.out (by simp; omega) (by omega)).mono ?_
        rintro e y2 ⟨rfl, hb⟩
        rw [hv]
        have X2 := Lib.hid (X0.out.below hb X0.out.lt)
        have H2 := Lib.hid (H.out.below hb (by simp; omega))
        have Hb2 := Lib.hid (Hb.out.trans (hb.mono (by simp)))
        have zy2 := hb.size
        clear hb X0 H Hb
        have u00 := X2.out.cell0
        have u01 := X2.out.cell1
        have u02 := X2.out.lt
        clear hv
        go_wp2_with fail
        refine (s_vpoint _ _ _ q1 q2).mono ?_
        rintro e w' ⟨rfl, rfl⟩
        rw [hpp]
        clear hp hpp
        obtain ⟨b, o, rfl, hbB, hc⟩ : ∃ b o, A = some ⟨b, o, none⟩ ∧ b < B ∧ ∀ j, j < n → y2.cell? ⟨b, o + j, none⟩ = some (.int .i64 (cs.getD j 0)) := by
          rcases H2.out.2 with h0 | ⟨b, o, hA, hbB, hc⟩
          · omega
          · exact ⟨b, o, hA, hbB, hc⟩
        have ck := hc q hqn
        obtain ⟨x, hx⟩ : ∃ x, cs.getD q 0 = x := ⟨_, rfl⟩
        have Hx := Lib.hid hx
        rw [hx] at ck hz
        have hxb : (x != 0) = true := by simpa using hz
        have hxc : (x == 0) = false := by simpa using hz
        clear hc hx hz
        go_wp2_with fail
        refine (s_groupOf s q _ B _ n _ cs H2.out (by omega) q1 q2 (by omega) hqn).mono ?_
        rintro e y3 ⟨A3, m3, c3, l3, rfl, ho, hr, hb⟩
        have hl3 : l3 = l := Reached.one hr (by have := Hl.out.1 Hh.out; rw [Int.toNat_natCast] at this; exact this)
        rw [hl3] at ho
        have Ho := Lib.hid ho
        have Hb3 := Lib.hid (Hb2.out.trans (hb.mono (by omega)))
        clear ho hb hr hl3
        go_wp2_with fail
        go_ret
        exact ⟨_, _, _, rfl, Ho.out.weaken (by omega), Hb3.out⟩
    · have hp' : Pt.okP s p = false := by simpa using hp
      have hh : hst s cs p = false := by unfold hst; rw [hp']; simp
      have Hh := Lib.hid hh
      clear hh hp
      have hp := hp'
      have hpp : (decide (0 ≤ p) && decide (p < s * s)) = false := by
        rcases Bool.eq_false_or_eq_true (decide (0 ≤ p) && decide (p < s * s)) with e | e
        · rw [Bool.and_eq_true, decide_eq_true_eq, decide_eq_true_eq] at e
          rw [(Pt.okP_iff s p).2 ⟨q1, q2, e.1, e.2⟩] at hp'
          cases hp'
        · exact e
      clear hp'
      go_enter Try.func40, Try.ntmps40
      go_wp2_with fail
      refine (s_validBoard _ _ _ _ _ _ _ H.out (by simp; omega) (by omega)).mono ?_
      rintro e y2 ⟨rfl, hb⟩
      rw [hv]
      have X2 := Lib.hid (X0.out.below hb X0.out.lt)
      have H2 := Lib.hid (H.out.below hb (by simp; omega))
      have Hb2 := Lib.hid (Hb.out.trans (hb.mono (by simp)))
      have zy2 := hb.size
      clear hb X0 H Hb
      have u00 := X2.out.cell0
      have u01 := X2.out.cell1
      have u02 := X2.out.lt
      clear hv
      go_wp2_with fail
      refine (s_vpoint _ _ _ q1 q2).mono ?_
      rintro e w' ⟨rfl, rfl⟩
      rw [hpp]
      clear hp hpp
      go_wp2_with fail
      go_ret
      exact ⟨_, _, _, rfl, by rw [Hl.out.2 Hh.out]; exact Own.nil _ _, Hb2.out⟩
  · have hv' : Bd.okB s cs = false := by simpa using hv
    have hh : hst s cs p = false := by unfold hst; rw [hv']; rfl
    have Hh := Lib.hid hh
    clear hh hv
    have hv := hv'
    clear hv'
    go_enter Try.func40, Try.ntmps40
    go_wp2_with fail
    refine (s_validBoard _ _ _ _ _ _ _ H.out (by simp; omega) (by omega)).mono ?_
    rintro e y2 ⟨rfl, hb⟩
    rw [hv]
    have X2 := Lib.hid (X0.out.below hb X0.out.lt)
    have H2 := Lib.hid (H.out.below hb (by simp; omega))
    have Hb2 := Lib.hid (Hb.out.trans (hb.mono (by simp)))
    have zy2 := hb.size
    clear hb X0 H Hb
    have u00 := X2.out.cell0
    have u01 := X2.out.cell1
    have u02 := X2.out.lt
    clear hv
    go_wp2_with fail
    go_ret
    exact ⟨_, _, _, rfl, by rw [Hl.out.2 Hh.out]; exact Own.nil _ _, Hb2.out⟩

theorem inSet_reached {s : Int} {n : Nat} {cs : List Int} {r : Nat → Nat} {q : Nat} (h1 : 1 ≤ s) (h2 : s ≤ 7) (hn : (n : Int) = s * s) (hl : cs.length = n) (h : Un.Jn s n cs r n 0) (hq : q < n) : Reached s n (hasCol (cs.getD q 0) cs) (q : Int) (Fl.pts (inSet r q n) n) := by
  refine ⟨inSet r q n, inSet_len _ _ _, fun y hy => ?_, rfl⟩
  obtain ⟨z, rfl⟩ := Int.eq_ofNat_of_zero_le hy
  have e : hasCol (cs.getD q 0) cs = Un.col cs q := rfl
  by_cases hz : z < n
  · have := h.iff (nbs_in h1 h2 hn) hl hq (z : Int) ⟨by omega, by omega⟩
    rw [e, ← this]
    unfold Fl.at_
    rw [Int.toNat_natCast, inSet_at hz]
    simp
  · constructor
    · intro e
      unfold Fl.at_ at e
      rw [Int.toNat_natCast, List.getD_eq_getElem?_getD, List.getElem?_eq_none (by rw [inSet_len]; omega)] at e
      cases e
    · intro e
      have := (Fl.reach_in (nbs_in h1 h2 hn) ⟨by omega, by omega⟩ e).2
      omega

set_option maxRecDepth 100000 in
set_option maxHeartbeats 4000000 in
theorem i_GroupOf (s p : Int) (w : World) (B : Nat) (A : Option Addr) (n c : Nat) (cs : List Int) (h : Ints w B A n cs) (hB : B ≤ w.heap.size) (hn : n ≤ 1000000000) (l : List Int) (Hl : Hid (GrpIs s n cs p l)) :
    Calls Try.prog 39 #[.agg #[.int .i64 s, .slice A n c], .int .i64 p] w fun e w' => ∃ A' m' c', e = .returned (.slice A' m' c') ∧ Own w' w.heap.size A' m' c' l ∧ Below w.heap.size w w' := by
  have hb1 : Below w.heap.size w (w.alloc (.cells #[.int .i64 s, .slice A n c] 25)) := (Below.refl _ _).alloc (Nat.le_refl _) _
  have hl := h.1
  have X0 := Lib.hid (Bx.new 25 w s (.slice A n c))
  have H := Lib.hid (h.below hb1 hB)
  have Hb := Lib.hid hb1
  clear h hb1
  go_enter Try.func39, Try.ntmps39
  go_wp2_with fail
  refine (i_hasStone _ _ _ _ _ _ _ _ H.out (by simp; omega) hn).mono ?_
  rintro e y2 ⟨rfl, hb⟩
  have X0 := Lib.hid (X0.out.below hb X0.out.lt)
  have H := Lib.hid (H.out.below hb (by simp; omega))
  have Hb := Lib.hid (Hb.out.trans (hb.mono (by simp)))
  have zy2 := hb.size
  clear hb
  have u00 := X0.out.cell0
  have u01 := X0.out.cell1
  have u02 := X0.out.lt
  rcases Bool.eq_false_or_eq_true (hst s cs p) with hh | hh
  · have Hh := Lib.hid hh
    obtain ⟨a1, a2, _⟩ := hst_iff hh
    obtain ⟨q1, q2, q3, _⟩ := (Bd.okB_iff s cs).1 a1
    obtain ⟨_, _, p1, p2⟩ := (Pt.okP_iff s p).1 a2
    have q4 := Pt.sq_bd s q1 q2
    obtain ⟨q, rfl⟩ := Int.eq_ofNat_of_zero_le p1
    have hqn : q < n := by omega
    rw [hh]
    clear hh a1 a2
    go_wp2_with fail
    refine (i_joinEqual s _ B _ n _ cs H.out (by omega) q1 q2 (by omega)).mono ?_
    rintro e y3 ⟨g, c3, u3, r, rfl, ho, hun, hjn, hb3⟩
    have hz3 := hb3.size
    have Ho := Lib.hid ho
    have Hun := Lib.hid hun
    have Hb3 := Lib.hid (Hb.out.trans (hb3.mono (by omega)))
    have hr := inSet_reached q1 q2 (by omega) hl hjn hqn
    have hg := (ho.ge rfl).1
    have hl3 : Fl.pts (inSet r q n) n = l := Reached.one hr (by have := Hl.out.1 Hh.out; rw [Int.toNat_natCast] at this; exact this)
    have Hl3 := Lib.hid hl3
    clear ho hun hb3 hjn hr hl3
    go_wp2_with fail
    refine (i_setOf _ _ _ _ _ _ r q Ho.out Hun.out hqn (by omega)).mono ?_
    rintro e y4 ⟨A4, m4, c4, rfl, ho4, u4, ho5, hun5, hg5⟩
    rw [Hl3.out] at ho4
    have Ho4 := Lib.hid ho4
    have Hb4 : Hid (Below w.heap.size w y4) := Lib.hid (Hb3.out.grown hg5 (by omega) (fun k e => by injection e; omega))
    clear ho4 ho5 hun5 hg5
    go_wp2_with fail
    go_ret
    exact ⟨_, _, _, rfl, Ho4.out.weaken (by omega), Hb4.out⟩
  · have Hh := Lib.hid hh
    rw [hh]
    clear hh
    go_wp2_with fail
    go_ret
    exact ⟨_, _, _, rfl, by rw [Hl.out.2 Hh.out]; exact Own.nil _ _, Hb.out⟩
end Go.Proofs.Ytpopbcmfbcmojaa

namespace Go.Proofs.Ytpopbcmfbcmojaa
set_option maxRecDepth 100000
open Go.RowKit

theorem nbs_few (s z : Int) : (Pt.nbs s z).length ≤ 4 := by
  rw [Pt.nbs, List.length_append, List.length_append, List.length_append]
  have := len_if (P := s ≤ z) (z - s)
  have := len_if (P := 0 < z % s) (z - 1)
  have := len_if (P := z % s < s - 1) (z + 1)
  have := len_if (P := z + s < s * s) (z + s)
  unfold Pt.nbL Pt.nbA Pt.nbB Pt.nbU at *
  omega

end Go.Proofs.Ytpopbcmfbcmojaa

namespace Go.Proofs.Ytpopbcmfbcmojaa
set_option maxRecDepth 100000
open Go.RowKit

theorem bi_one {s x : Int} {n : Nat} {cs L : List Int} {S T : List Bool} (h : Bs.BI s n cs x L [] S) (h' : Bs.BI s n cs x L [] T) : Fl.pts S n = Fl.pts T n := by
  refine pts_ext fun q hq => ?_
  have e1 := h.all (q : Int) (by omega) (by omega)
  have e2 := h'.all (q : Int) (by omega) (by omega)
  unfold Fl.at_ at e1 e2
  rw [Int.toNat_natCast] at e1 e2
  rw [Bool.eq_iff_iff]
  exact e1.trans e2.symm

theorem bi_make (s x : Int) (n : Nat) (cs L : List Int) : ∃ S, Bs.BI s n cs x L [] S := by
  obtain ⟨S, hl, h⟩ := marks_of n fun q => (cs.getD q 0 == x) = true ∧ ∃ z ∈ L, (q : Int) ∈ Pt.nbs s z
  refine ⟨S, hl, fun y h0 hn => ?_⟩
  obtain ⟨q, rfl⟩ := Int.eq_ofNat_of_zero_le h0
  unfold Fl.at_
  rw [Int.toNat_natCast, h q (by omega)]
  simp

theorem bi_none {s x : Int} {n : Nat} {cs : List Int} {S : List Bool} (h : Bs.BI s n cs x [] [] S) : Fl.pts S n = [] := by
  rw [bi_one h (Bs.start s n cs x)]
  unfold Fl.pts
  rw [List.map_eq_nil_iff, List.filter_eq_nil_iff]
  intro q _
  rw [List.getD_eq_getElem?_getD, List.getElem?_replicate]
  split <;> simp

/-- The liberties of a stone, as a list; nothing where there is no stone. -/
def LibIs (s : Int) (n : Nat) (cs : List Int) (p : Int) (l : List Int) : Prop := ∃ g S, GrpIs s n cs p g ∧ Bs.BI s n cs 0 g [] S ∧ l = Fl.pts S n

theorem LibIs.make (s : Int) (n : Nat) (cs : List Int) (p : Int) (hn : cs.length = n) : ∃ l, LibIs s n cs p l := by
  obtain ⟨g, hg⟩ := GrpIs.make s n cs p hn
  obtain ⟨S, hS⟩ := bi_make s 0 n cs g
  exact ⟨_, g, S, hg, hS, rfl⟩

theorem LibIs.few {s : Int} {n : Nat} {cs : List Int} {p : Int} {l : List Int} (h : LibIs s n cs p l) : l.length ≤ n := by
  obtain ⟨_, S, _, _, rfl⟩ := h
  exact Fl.pts_len S n

theorem LibIs.of {s : Int} {n : Nat} {cs : List Int} {p : Int} {l g : List Int} {S : List Bool} (h : LibIs s n cs p l) (hg : GrpIs s n cs p g) (hS : Bs.BI s n cs 0 g [] S) : Fl.pts S n = l := by
  obtain ⟨g', S', hg', hS', rfl⟩ := h
  rw [hg'.one hg] at hS'
  exact bi_one hS hS'

theorem LibIs.nil {s : Int} {n : Nat} {cs : List Int} {p : Int} {l : List Int} (h : LibIs s n cs p l) (hh : hst s cs p = false) : l = [] := by
  obtain ⟨g', S', hg', hS', rfl⟩ := h
  rw [hg'.2 hh] at hS'
  exact bi_none hS'

theorem LibIs.one {s : Int} {n : Nat} {cs : List Int} {p : Int} {l l' : List Int} (h : LibIs s n cs p l) (h' : LibIs s n cs p l') : l = l' := by
  obtain ⟨g', S', hg', hS', rfl⟩ := h
  exact h'.of hg' hS'

theorem GrpIs.fit {s : Int} {n m : Nat} {cs g : List Int} {p : Int} (h : GrpIs s n cs p g) (hl : cs.length = n) (hm : g.length = m) (hn : n ≤ 1000000000) :
    (m = 0 ∨ (1 ≤ s ∧ s ≤ 7 ∧ (n : Int) = s * s)) ∧ (∀ j, j < m → 0 ≤ g.getD j 0 ∧ g.getD j 0 < n) ∧ m ≤ 1000 := by
  rcases Bool.eq_false_or_eq_true (hst s cs p) with e | e
  · obtain ⟨a, _, _⟩ := hst_iff e
    obtain ⟨q1, q2, q3, _⟩ := (Bd.okB_iff s cs).1 a
    have q4 := Pt.sq_bd s q1 q2
    have hf := (h.1 e).few
    exact ⟨.inr ⟨q1, q2, by omega⟩, fun j hj => (h.1 e).small j (by omega), by omega⟩
  · have := h.2 e
    subst this
    have : m = 0 := by simpa using hm.symm
    subst this
    exact ⟨.inl rfl, fun j hj => absurd hj (by omega), by omega⟩

end Go.Proofs.Ytpopbcmfbcmojaa

namespace Go.Proofs.Ytpopbcmfbcmojaa
set_option maxRecDepth 100000
open Go.RowKit

theorem mem_at {xs : List Int} {x : Int} (h : x ∈ xs) : ∃ j, j < xs.length ∧ xs.getD j 0 = x ∧ ∀ i, i < j → xs.getD i 0 ≠ x := by
  induction xs with
  | nil => cases h
  | cons y l ih =>
    by_cases hy : y = x
    · exact ⟨0, by simp, by simpa using hy, fun i hi => by omega⟩
    · have hm : x ∈ l := by
        rcases List.mem_cons.1 h with h | h
        · exact absurd h.symm hy
        · exact h
      obtain ⟨j, hj, he, hb⟩ := ih hm
      refine ⟨j + 1, by simpa using hj, by simpa using he, fun i hi => ?_⟩
      match i with
      | 0 => simpa using hy
      | i + 1 => simpa using hb i (by omega)

theorem in_t (w : World) (B : Nat) (A : Option Addr) (n c : Nat) (xs : List Int) (x : Int) (h : Ints w B A n xs) (hn : n ≤ 1000000000) (hx : x ∈ xs) :
    Calls Try.prog 26 #[.slice A n c, .int .i64 x] w fun e w' => e = .returned (.bool true) ∧ w = w' := by
  obtain ⟨m, hm, he, hb⟩ := mem_at hx
  rw [h.1] at hm
  rcases h.2 with h0 | ⟨b, o, rfl, hlt, hc⟩
  · omega
  · have Hc := Lib.hid hc
    have Hb := Lib.hid hb
    have He := Lib.hid he
    clear hc hb he hx h
    go_enter Try.func26, Try.ntmps26
    go_wp2_with fail
    go_loop [5] (fun i => ∃ k : Nat, k ≤ m ∧ i = .int .i64 k) (fun i => n - (intOf i).toNat)
    case atStart => exact ⟨0, by omega, rfl⟩
    case round =>
      obtain ⟨k, hk, rfl⟩ := hrel
      have hck := Hc.out k (by omega)
      obtain ⟨y, hy⟩ : ∃ y, xs.getD k 0 = y := ⟨_, rfl⟩
      rw [hy] at hck
      by_cases hkm : k = m
      · have hyx : (y == x) = true := by rw [← hy, hkm, He.out]; simp
        clear hy hkm
        go_wp2_with fail
        go_ret
        exact ⟨rfl, rfl⟩
      · have hyx : (y == x) = false := by rw [← hy]; simpa using Hb.out k (by omega)
        clear hy
        go_wp2_with fail
        go_round
        case rel => exact ⟨k + 1, by omega, by go_num⟩
        case measure => simp [intOf]; omega

theorem rises_at {xs : List Int} (h : Pt.rises xs = true) (k : Nat) (hk : k + 1 < xs.length) : xs.getD k 0 < xs.getD (k + 1) 0 := by
  induction xs generalizing k with
  | nil => simp at hk
  | cons a l ih =>
    match l, k, hk, h with
    | [], k, hk, _ => simp at hk
    | b :: l, 0, _, h => simp [Pt.rises] at h; simpa using h.1
    | b :: l, k + 1, hk, h => simp [Pt.rises] at h; simpa using ih h.2 k (by simpa using hk)

theorem asc_t (w : World) (B : Nat) (A : Option Addr) (n c : Nat) (xs : List Int) (h : Ints w B A n xs) (hn : n ≤ 1000000000) (hx : Pt.rises xs = true) :
    Calls Try.prog 43 #[.slice A n c] w fun e w' => Drew (.bool true) w e w' := by
  have hr := rises_at hx
  rw [h.1] at hr
  have Hr := Lib.hid hr
  clear hr hx
  rcases h.2 with rfl | ⟨b, o, rfl, hlt, hc⟩
  · clear h
    go_enter Try.func43, Try.ntmps43
    go_wp2_with fail
    go_rounds 1
    go_ret
    exact ⟨0, rfl, rfl⟩
  · have Hc := Lib.hid hc
    clear hc h
    go_enter Try.func43, Try.ntmps43
    go_wp2_with fail
    go_loopw [3] (fun i wr => ∃ k : Nat, 1 ≤ k ∧ k ≤ n + 1 ∧ i = .int .i64 k ∧ ∃ d, wr = w.drewN d) (fun i _ => n + 1 - (intOf i).toNat)
    case atStart => exact ⟨1, by omega, by omega, rfl, 0, rfl⟩
    case round =>
      obtain ⟨k, hk1, hk2, rfl, d, rfl⟩ := hrel
      by_cases hlt : k < n
      · obtain ⟨j, rfl⟩ : ∃ j, k = j + 1 := ⟨k - 1, by omega⟩
        have c1 := Hc.out j (by omega)
        have c2 := Hc.out (j + 1) hlt
        have hab := Hr.out j hlt
        obtain ⟨x, hx⟩ : ∃ x, xs.getD j 0 = x := ⟨_, rfl⟩
        obtain ⟨y, hy⟩ : ∃ y, xs.getD (j + 1) 0 = y := ⟨_, rfl⟩
        rw [hx] at c1
        rw [hy] at c2
        rw [hx, hy] at hab
        clear hx hy
        have hd : decide (y ≤ x) = false := by rw [decide_eq_false_iff_not]; omega
        have e1 : IntKind.i64.wrap (((j + 1 : Nat) : Int) - 1) = (j : Int) := by rw [show (((j + 1 : Nat) : Int) - 1) = (j : Int) by omega]; exact IntWalk.i64_in _ (by omega)
        go_wp2_with fail
        go_quiet (fail)
        go_wp2_with fail
        go_roundw
        case rel => exact ⟨j + 1 + 1, by omega, by omega, by go_num, _, rfl⟩
        case measure => simp [intOf]; omega
      · go_wp2_with fail
        go_ret
        exact ⟨_, rfl, rfl⟩
end Go.Proofs.Ytpopbcmfbcmojaa

namespace Go.Proofs.Ytpopbcmfbcmojaa
set_option maxRecDepth 100000
open Go.RowKit

theorem pts_mem2 {S : List Bool} {n : Nat} {y : Int} : y ∈ Fl.pts S n ↔ ∃ q : Nat, q < n ∧ S.getD q false = true ∧ y = (q : Int) := by
  unfold Fl.pts
  simp only [List.mem_map, List.mem_filter, List.mem_range]
  constructor
  · rintro ⟨q, ⟨a, b⟩, rfl⟩; exact ⟨q, a, b, rfl⟩
  · rintro ⟨q, a, b, rfl⟩; exact ⟨q, ⟨a, b⟩, rfl⟩

theorem pts_asc (S : List Bool) (n : Nat) : ∀ j, j + 1 < (Fl.pts S n).length → (Fl.pts S n).getD j 0 < (Fl.pts S n).getD (j + 1) 0 := by
  have hp : (Fl.pts S n).Pairwise (· < ·) := by
    unfold Fl.pts
    rw [List.pairwise_map]
    exact (List.pairwise_lt_range.filter _).imp fun h => by omega
  intro j hj
  have := List.pairwise_iff_getElem.1 hp j (j + 1) (by omega) hj (by omega)
  simpa [List.getD_eq_getElem?_getD, List.getElem?_eq_getElem hj, List.getElem?_eq_getElem (show j < (Fl.pts S n).length by omega)] using this

section
variable {s : Int} {n : Nat} {cs g : List Int}
theorem Reached.mem (h1 : 1 ≤ s) (h2 : s ≤ 7) (hn : (n : Int) = s * s) {keep : List Bool} {p : Nat} (hp : p < n) (h : Reached s n keep (p : Int) g) (q : Nat) : (q : Int) ∈ g ↔ Fl.Reach s keep (p : Int) (q : Int) := by
  obtain ⟨S, hl, hS, rfl⟩ := h
  have e := hS (q : Int) (by omega)
  unfold Fl.at_ at e
  rw [Int.toNat_natCast] at e
  rw [pts_mem2]
  constructor
  · rintro ⟨q', _, a, b⟩
    obtain rfl : q' = q := by omega
    exact e.1 a
  · intro hr
    have := (Fl.reach_in (nbs_in h1 h2 hn) ⟨by omega, by omega⟩ hr).2
    exact ⟨q, by omega, e.2 hr, rfl⟩

theorem hasCol_self {p : Nat} (hp : p < cs.length) : Fl.at_ (hasCol (cs.getD p 0) cs) (p : Int) = true := by
  unfold Fl.at_; rw [Int.toNat_natCast, hasCol_at hp]; simp

/-- A point of the group of a stone: its color and its group. -/
theorem Reached.point (h1 : 1 ≤ s) (h2 : s ≤ 7) (hn : (n : Int) = s * s) (hl : cs.length = n) {p : Nat} (hp : p < n) (h : Reached s n (hasCol (cs.getD p 0) cs) (p : Int) g) {q : Nat} (hq : q < n) (hr : Fl.Reach s (hasCol (cs.getD p 0) cs) (p : Int) (q : Int)) :
    cs.getD q 0 = cs.getD p 0 ∧ Reached s n (hasCol (cs.getD q 0) cs) (q : Int) g := by
  have hk := Un.reach_kept (hasCol_self (cs := cs) (p := p) (by omega)) hr
  have hc : cs.getD q 0 = cs.getD p 0 := by
    unfold Fl.at_ at hk
    rw [Int.toNat_natCast, hasCol_at (by omega)] at hk
    simpa using hk
  refine ⟨hc, ?_⟩
  rw [hc]
  obtain ⟨S, a, b, rfl⟩ := h
  have hb := Un.reach_back (nbs_in h1 h2 hn) (nbs_sy h1 h2 hn) ⟨by omega, by omega⟩ (hasCol_self (cs := cs) (p := p) (by omega)) hr
  exact ⟨S, a, fun y hy => (b y hy).trans ⟨fun r => Un.reach_trans hb r, fun r => Un.reach_trans hr r⟩, rfl⟩

/-- The k-th point of a group. -/
theorem Reached.nth (h1 : 1 ≤ s) (h2 : s ≤ 7) (hn : (n : Int) = s * s) {keep : List Bool} {p : Nat} (hp : p < n) (h : Reached s n keep (p : Int) g) {k : Nat} (hk : k < g.length) : ∃ q : Nat, q < n ∧ g.getD k 0 = (q : Int) ∧ Fl.Reach s keep (p : Int) (q : Int) := by
  have hm : g.getD k 0 ∈ g := by rw [List.getD_eq_getElem?_getD, List.getElem?_eq_getElem hk]; exact List.getElem_mem _
  obtain ⟨a, b⟩ := h.small k hk
  obtain ⟨q, hq⟩ := Int.eq_ofNat_of_zero_le a
  have hq' : g.getD k 0 = (q : Int) := hq
  exact ⟨q, by omega, hq', (h.mem h1 h2 hn hp q).1 (by rw [← hq']; exact hm)⟩
theorem Reached.asc {keep : List Bool} {p : Int} (h : Reached s n keep p g) : ∀ j, j + 1 < g.length → g.getD j 0 < g.getD (j + 1) 0 := by
  obtain ⟨S, _, _, rfl⟩ := h
  exact pts_asc S n
end

section
variable (w : World) (A A' : Option Addr) (n c c' : Nat) (xs : List Int)
theorem eqi_b (h : Ints w w.heap.size A n xs) (h' : Ints w w.heap.size A' n xs) (hn : n ≤ 1000000000) :
    Calls Try.prog 23 #[.slice A n c, .slice A' n c'] w fun e w' => e = .returned (.bool true) ∧ Below w.heap.size w w' := by
  refine (eqi_t w _ _ A A' n c c' xs h h' hn).mono ?_
  rintro e w' ⟨k, rfl, rfl⟩
  exact ⟨rfl, ⟨rfl, rfl, rfl, Nat.le_refl _, fun _ _ => rfl⟩⟩

def IsIn (y : Int) (xs : List Int) (w : World) (e : Ending) (w' : World) : Prop := ∃ b : Bool, e = .returned (.bool b) ∧ (b = true ↔ y ∈ xs) ∧ w = w'
theorem l_isIn (y : Int) (h : Ints w w.heap.size A n xs) (hn : n ≤ 1000000000) :
    Calls Try.prog 26 #[.slice A n c, .int .i64 y] w fun e w' => IsIn y xs w e w' := by
  have hl := h.1
  rcases h.2 with rfl | ⟨b, o, rfl, hlt, hc⟩
  · have hx : xs = [] := List.eq_nil_of_length_eq_zero hl
    clear h
    go_enter Try.func26, Try.ntmps26
    go_wp2_with fail
    go_rounds 1
    go_ret
    exact ⟨_, rfl, by rw [hx]; simp, rfl⟩
  · have Hc := Lib.hid hc
    have Hl := Lib.hid hl
    clear hc h hl
    go_enter Try.func26, Try.ntmps26
    go_wp2_with fail
    go_loop [5] (fun i => ∃ k : Nat, k ≤ n ∧ i = .int .i64 k ∧ ∀ j, j < k → xs.getD j 0 ≠ y) (fun i => n - (intOf i).toNat)
    case atStart => exact ⟨0, by omega, rfl, fun j hj => absurd hj (by omega)⟩
    case round =>
      obtain ⟨k, hk, rfl, hno⟩ := hrel
      have Hno := Lib.hid hno
      clear hno
      by_cases hlt : k < n
      · have c1 := Hc.out k hlt
        obtain ⟨x, hx⟩ : ∃ x, xs.getD k 0 = x := ⟨_, rfl⟩
        have Hx := Lib.hid hx
        rw [hx] at c1
        clear hx
        have hki : (k : Int) < n := by omega
        by_cases hxy : x = y
        · subst hxy
          have Hin : Hid (x ∈ xs) := Lib.hid (by
            rw [← Hx.out, List.getD_eq_getElem?_getD, List.getElem?_eq_getElem (by rw [Hl.out]; exact hlt)]; exact List.getElem_mem _)
          go_wp2_with fail
          go_ret
          exact ⟨_, rfl, by simp [Hin.out], rfl⟩
        · go_wp2_with fail
          go_round
          case rel => exact ⟨k + 1, by omega, by go_num, fun j hj => by by_cases e : j = k; (· subst e; rw [Hx.out]; exact hxy); (· exact Hno.out j (by omega))⟩
          case measure => simp [intOf]; omega
      · have Hout : Hid (¬ y ∈ xs) := Lib.hid (fun hm => by
          obtain ⟨j, hj, e⟩ := List.mem_iff_getElem.1 hm
          refine Hno.out j (by have := Hl.out; omega) ?_
          rw [List.getD_eq_getElem?_getD, List.getElem?_eq_getElem hj]
          exact e)
        go_wp2_with fail
        go_ret
        exact ⟨_, rfl, by simp [Hout.out], rfl⟩
theorem l_isInY (y : Int) (h : Ints w w.heap.size A n xs) (hn : n ≤ 1000000000) (hy : y ∈ xs) :
    Calls Try.prog 26 #[.slice A n c, .int .i64 y] w fun e w' => e = .returned (.bool true) ∧ Below w.heap.size w w' := by
  refine (l_isIn w A n c xs y h hn).mono ?_
  rintro e w' ⟨b, rfl, hb, rfl⟩
  rw [hb.2 hy]
  exact ⟨rfl, Below.refl _ _⟩

theorem l_ascends (h : Ints w w.heap.size A n xs) (hn : n ≤ 1000000) (ha : ∀ j, j + 1 < xs.length → xs.getD j 0 < xs.getD (j + 1) 0) :
    Calls Try.prog 43 #[.slice A n c] w fun e w' => e = .returned (.bool true) ∧ Below w.heap.size w w' := by
  have hl := h.1
  rcases h.2 with rfl | ⟨b, o, rfl, hlt, hc⟩
  · clear h ha
    go_enter Try.func43, Try.ntmps43
    go_wp2_with fail
    go_rounds 1
    go_ret
    exact ⟨rfl, Below.refl _ _⟩
  · have Hc := Lib.hid hc
    have Hl := Lib.hid hl
    have Ha := Lib.hid ha
    clear hc h hl ha
    go_enter Try.func43, Try.ntmps43
    go_wp2_with fail
    go_loopw [3] (fun i wr => ∃ k : Nat, 1 ≤ k ∧ (k ≤ n ∨ k = 1) ∧ i = .int .i64 k ∧ ∃ d, wr = w.drewN d) (fun i _ => n - (intOf i).toNat)
    case atStart => exact ⟨1, by omega, by omega, rfl, 0, rfl⟩
    case round =>
      obtain ⟨k, hk1, hk, rfl, d, rfl⟩ := hrel
      obtain ⟨i, rfl⟩ : ∃ i, k = i + 1 := ⟨k - 1, by omega⟩
      by_cases hlt : i + 1 < n
      · have c1 := Hc.out (i + 1) hlt
        have c0 := Hc.out i (by omega)
        have hh := Ha.out i (by rw [Hl.out]; exact hlt)
        obtain ⟨x1, hx1⟩ : ∃ x, xs.getD (i + 1) 0 = x := ⟨_, rfl⟩
        obtain ⟨x0, hx0⟩ : ∃ x, xs.getD i 0 = x := ⟨_, rfl⟩
        rw [hx1] at c1 hh
        rw [hx0] at c0 hh
        clear hx1 hx0
        have hki : ((i : Int) + 1) < n := by omega
        have hno : ¬ (x1 ≤ x0) := by omega
        go_wp2_with fail
        go_quiet (fail)
        go_wp2_with fail
        go_roundw
        case rel => exact ⟨i + 1 + 1, by omega, by omega, by go_num, _, rfl⟩
        case measure => simp [intOf]; omega
      · go_wp2_with fail
        go_ret
        exact ⟨rfl, ⟨rfl, rfl, rfl, Nat.le_refl _, fun _ _ => rfl⟩⟩
end

section
variable (s p : Int) (w : World) (A : Option Addr) (n c m : Nat) (cs l : List Int)
theorem i_GroupW (h : Ints w w.heap.size A n cs) (hn : n ≤ 49) (Hl : Hid (GrpIs s n cs p l)) (hm : l.length = m) :
    Calls Try.prog 39 #[.agg #[.int .i64 s, .slice A n c], .int .i64 p] w fun e w' => ∃ A1 c1, e = .returned (.slice A1 m c1) ∧ Own w' w.heap.size A1 m c1 l ∧ Below w.heap.size w w' := by
  refine (i_GroupOf s p w _ A n c cs h (Nat.le_refl _) (by omega) l Hl).mono ?_
  rintro e w' ⟨A1, m1, c1, rfl, ho, hb⟩
  obtain rfl : m1 = m := ho.1.symm.trans hm
  exact ⟨_, _, rfl, ho, hb⟩
theorem s_GroupW (h : Ints w w.heap.size A n cs) (hn : n ≤ 49) (Hl : Hid (GrpIs s n cs p l)) (hm : l.length = m) :
    Calls Try.prog 40 #[.agg #[.int .i64 s, .slice A n c], .int .i64 p] w fun e w' => ∃ A1 c1, e = .returned (.slice A1 m c1) ∧ Own w' w.heap.size A1 m c1 l ∧ Below w.heap.size w w' := by
  refine (s_GroupOf s p w _ A n c cs h (Nat.le_refl _) (by omega) l Hl).mono ?_
  rintro e w' ⟨A1, m1, c1, rfl, ho, hb⟩
  obtain rfl : m1 = m := ho.1.symm.trans hm
  exact ⟨_, _, rfl, ho, hb⟩
end
end Go.Proofs.Ytpopbcmfbcmojaa

