/-
  Texts that laws over drawn boards stand on: Valid, CntP, DrawLI, LawP, DrawSz, BnW.
-/
import Derived.Test.YtmddkifadknlfaaStep
import Derived.Test.YtmddkifadknlfaaTrS
import Derived.Test.YtmddkifadknlfaaCount
import Derived.Test.YtmddkifadknlfaaDraw
namespace Go.Proofs.Ytmddkifadknlfaa
set_option maxRecDepth 100000
open Go.RowKit

section
variable (s : Int) (w : World) (A : Option Addr) (n c : Nat) (cs : List Int)
variable (k : Int)
theorem i_trV (h : Ints w w.heap.size A n cs) (hn : n ≤ 49) (hv : Bd.okB s cs = true) (hk : Pt.okK k = true) : Calls Try.prog 14 #[.agg #[.int .i64 s, .slice A n c], .int .i64 k] w fun e w' => Made s (Bd.mv s k cs) w e w' := by
  have := i_trB s k w w.heap.size A n c cs h (Nat.le_refl _) (by omega)
  rwa [trS, trCs, show trOk s cs k = true by rw [trOk, hv, hk]; rfl, if_pos rfl, if_pos rfl] at this
theorem i_trN (h : Ints w w.heap.size A n cs) (hn : n ≤ 49) (hv : trOk s cs k = false) : Calls Try.prog 14 #[.agg #[.int .i64 s, .slice A n c], .int .i64 k] w fun e w' => Made 0 [] w e w' := by
  have := i_trB s k w w.heap.size A n c cs h (Nat.le_refl _) (by omega)
  rwa [trS, trCs, hv, if_neg (by decide), if_neg (by decide)] at this
end

theorem len_of {cs : List Int} {n m : Nat} (h : (othCs cs).length = m) (h0 : cs.length = n) : n = m := by rw [othCs_len] at h; omega
theorem len_mv {s k : Int} {cs : List Int} {n m : Nat} (h : (Bd.mv s k cs).length = m) (h0 : cs.length = n) : n = m := by rw [Bd.mv_len] at h; omega
theorem oth_oth {x : Int} (h0 : 0 ≤ x) (h2 : x ≤ 2) : oth (oth x) = x := by
  have h3 : x = 0 ∨ x = 1 ∨ x = 2 := by omega
  rcases h3 with rfl | rfl | rfl <;> decide
theorem othCs_twice {cs : List Int} (h : OkL cs) : othCs (othCs cs) = cs := by
  rw [okL_mem] at h
  unfold othCs
  rw [List.map_map]
  conv => rhs; rw [← List.map_id cs]
  exact List.map_congr_left fun x hx => oth_oth (h x hx).1 (h x hx).2
theorem othCs_set (l : List Int) (p : Nat) (x : Int) : othCs (l.set p x) = (othCs l).set p (oth x) := by
  unfold othCs; rw [List.map_set]
theorem othCs_getD (cs : List Int) (j : Nat) : oth (cs.getD j 0) = (othCs cs).getD j 0 := by
  unfold othCs
  rw [List.getD_eq_getElem?_getD, List.getD_eq_getElem?_getD, List.getElem?_map]
  cases cs[j]? <;> rfl
theorem steps_oth (f : Nat → Nat) (cs : List Int) (j : Nat) (l : List Int) : othCs (Bd.steps f cs j l) = Bd.steps f (othCs cs) j (othCs l) := by
  induction j with
  | zero => rfl
  | succ j ih => rw [Bd.steps, Bd.steps, othCs_set, ih, othCs_getD]
theorem mv_oth (s k : Int) (cs : List Int) : Bd.mv s k (othCs cs) = othCs (Bd.mv s k cs) := by
  unfold Bd.mv
  rw [steps_oth, othCs_len]
end Go.Proofs.Ytmddkifadknlfaa

namespace Go.Proofs.Ytmddkifadknlfaa
set_option maxRecDepth 100000

theorem perm_of_sub {l r : List Nat} (hn : l.Nodup) (hs : ∀ x ∈ l, x ∈ r) (hl : r.length ≤ l.length) : List.Perm l r := by
  induction l generalizing r with
  | nil =>
    have e : r = [] := List.eq_nil_of_length_eq_zero (by simpa using hl)
    subst e
    exact .refl _
  | cons x l ih =>
    have hx : x ∈ r := hs x (by simp)
    obtain ⟨hxl, hnl⟩ := List.nodup_cons.1 hn
    refine List.Perm.trans ?_ (List.perm_cons_erase hx).symm
    refine List.Perm.cons x (ih hnl (fun y hy => ?_) ?_)
    · have hne : y ≠ x := fun e => hxl (e ▸ hy)
      exact (List.mem_erase_of_ne hne).2 (hs y (by simp [hy]))
    · rw [List.length_erase_of_mem hx]
      simp at hl
      omega

theorem nodup_map {f : Nat → Nat} {l : List Nat} (hn : l.Nodup) (hf : ∀ a ∈ l, ∀ b ∈ l, f a = f b → a = b) : (l.map f).Nodup := by
  induction l with
  | nil => simp
  | cons x l ih =>
    obtain ⟨hx, hl⟩ := List.nodup_cons.1 hn
    rw [List.map_cons, List.nodup_cons]
    refine ⟨fun hm => ?_, ih hl fun a ha b hb => hf a (by simp [ha]) b (by simp [hb])⟩
    obtain ⟨y, hy, he⟩ := List.mem_map.1 hm
    have := hf y (by simp [hy]) x (by simp) he
    exact hx (this ▸ hy)

theorem list_as_map (cs : List Int) : cs = (List.range cs.length).map fun p => cs.getD p 0 := by
  apply List.ext_getElem
  · simp
  · intro i h1 h2
    simp [List.getD_eq_getElem?_getD, List.getElem?_eq_getElem h1]

theorem mv_perm {s k : Int} {cs : List Int} (h1 : 1 ≤ s) (h2 : s ≤ 7) (hn : (cs.length : Int) = s * s) (k1 : 0 ≤ k) (k2 : k < 8) : List.Perm (Bd.mv s k cs) cs := by
  have hp : List.Perm ((List.range cs.length).map (Bd.imgN s k)) (List.range cs.length) := by
    refine perm_of_sub (nodup_map List.nodup_range fun a ha b hb he => ?_) (fun x hx => ?_) (by simp)
    · exact Bd.imgN_inj s k cs.length h1 h2 hn k1 k2 a b (List.mem_range.1 ha) (List.mem_range.1 hb) he
    · obtain ⟨p, hp, rfl⟩ := List.mem_map.1 hx
      exact List.mem_range.2 (Bd.imgN_lt s k cs.length p h1 h2 hn (List.mem_range.1 hp)).1
  have e1 := list_as_map (Bd.mv s k cs)
  rw [Bd.mv_len] at e1
  rw [e1]
  refine ((hp.map fun q => (Bd.mv s k cs).getD q 0).symm).trans ?_
  rw [List.map_map]
  conv => rhs; rw [list_as_map cs]
  have : (List.range cs.length).map ((fun q => (Bd.mv s k cs).getD q 0) ∘ Bd.imgN s k) = (List.range cs.length).map fun p => cs.getD p 0 := by
    apply List.map_congr_left
    intro p hp
    have hp' := List.mem_range.1 hp
    have := Bd.steps_at (f := Bd.imgN s k) (cs := cs) (l := cs) (j := cs.length) (fun a b ha hb he => Bd.imgN_inj s k cs.length h1 h2 hn k1 k2 a b ha hb he) (fun a ha => (Bd.imgN_lt s k cs.length a h1 h2 hn ha).1) hp'
    show (Bd.mv s k cs).getD (Bd.imgN s k p) 0 = _
    unfold Bd.mv
    rw [List.getD_eq_getElem?_getD, this]
    rfl
  rw [this]

theorem cnt_perm {a b : List Int} (h : List.Perm a b) (x : Int) : cnt x a = cnt x b := by
  unfold cnt
  rw [(h.filter _).length_eq]
theorem cnt_mv {s k : Int} {cs : List Int} (hv : Bd.okB s cs = true) (hk : Pt.okK k = true) (x : Int) : cnt x (Bd.mv s k cs) = cnt x cs := by
  obtain ⟨a, b, c, _⟩ := (Bd.okB_iff s cs).1 hv
  obtain ⟨k1, k2⟩ := (Pt.okK_iff k).1 hk
  exact cnt_perm (mv_perm a b c k1 k2) x
theorem cnt_oth {cs : List Int} (h : OkL cs) {x : Int} (x1 : 1 ≤ x) (x2 : x ≤ 2) : cnt (3 - x) (othCs cs) = cnt x cs := by
  rw [okL_mem] at h
  unfold cnt othCs
  rw [List.filter_map, List.length_map]
  congr 2
  apply List.filter_congr
  intro c hc
  have h3 : c = 0 ∨ c = 1 ∨ c = 2 := by have := h c hc; omega
  have h4 : x = 1 ∨ x = 2 := by omega
  rcases h3 with rfl | rfl | rfl <;> rcases h4 with rfl | rfl <;> rfl
theorem cnt_nonneg (x : Int) (cs : List Int) : 0 ≤ cnt x cs := by unfold cnt; omega
end Go.Proofs.Ytmddkifadknlfaa

namespace Go.Proofs.Ytmddkifadknlfaa
set_option maxRecDepth 100000
open Go.RowKit

end Go.Proofs.Ytmddkifadknlfaa

namespace Go.Proofs.Ytmddkifadknlfaa
set_option maxRecDepth 100000
open Go.RowKit

theorem i_cntV (s : Int) (w : World) (A : Option Addr) (n c : Nat) (cs : List Int) (x N : Int) (h : Ints w w.heap.size A n cs) (hn : n ≤ 49) (hN : cntB s cs x = N) :
    Calls Try.prog 9 #[.agg #[.int .i64 s, .slice A n c], .int .i64 x] w fun e w' => e = .returned (.int .i64 N) ∧ Below w.heap.size w w' := by
  have := i_count s w w.heap.size A n c cs x h (Nat.le_refl _) (by omega)
  rwa [hN] at this
theorem cntB_mv {s k x N : Int} {cs : List Int} (hv : Bd.okB s cs = true) (hk : Pt.okK k = true) (hN : cntB s cs x = N) : cntB s (Bd.mv s k cs) x = N := by
  rw [← hN, cntB, cntB, if_pos hv, if_pos (okB_mv hv), cnt_mv hv hk]
theorem cntB_oth {s x N : Int} {cs : List Int} (hv : Bd.okB s cs = true) (x1 : 1 ≤ x) (x2 : x ≤ 2) (hN : cntB s cs x = N) : cntB s (othCs cs) (3 - x) = N := by
  rw [← hN, cntB, cntB, if_pos hv, if_pos (okB_oth hv), cnt_oth (okL_mem.2 ((Bd.okB_iff s cs).1 hv).2.2.2) x1 x2]
theorem cntB_ok {s x N : Int} {cs : List Int} (hN : cntB s cs x = N) (h0 : 0 ≤ N) : Bd.okB s cs = true := by
  rcases Bool.eq_false_or_eq_true (Bd.okB s cs) with h | h
  · exact h
  · rw [cntB, h] at hN
    have : (-1 : Int) = N := hN
    omega

theorem mv_at {s k : Int} {cs : List Int} (h1 : 1 ≤ s) (h2 : s ≤ 7) (hn : (cs.length : Int) = s * s) (k1 : 0 ≤ k) (k2 : k < 8) {p : Nat} (hp : p < cs.length) : (Bd.mv s k cs)[Bd.imgN s k p]? = some (cs.getD p 0) :=
  Bd.steps_at (f := Bd.imgN s k) (cs := cs) (l := cs) (j := cs.length) (fun a b ha hb he => Bd.imgN_inj s k cs.length h1 h2 hn k1 k2 a b ha hb he) (fun a ha => (Bd.imgN_lt s k cs.length a h1 h2 hn ha).1) hp
theorem imgN_comp {s a b : Int} {n p : Nat} (h1 : 1 ≤ s) (h2 : s ≤ 7) (hn : (n : Int) = s * s) (a1 : 0 ≤ a) (a2 : a < 8) (b1 : 0 ≤ b) (b2 : b < 8) (hp : p < n) : Bd.imgN s (Pt.comp a b) p = Bd.imgN s b (Bd.imgN s a p) := by
  obtain ⟨c1, c2⟩ := Pt.comp_bd a b a1 a2 b1 b2
  obtain ⟨l1, e1⟩ := Bd.imgN_lt s a n p h1 h2 hn hp
  have hc := Pt.comp_tr a b s p a1 a2 b1 b2 h1 h2 (by omega) (by omega)
  rw [Pt.tr_in s a p h1 h2 (by omega) (by omega) a1 a2, ← e1, Pt.tr_in s b _ h1 h2 (by omega) (by omega) b1 b2, Pt.tr_in s (Pt.comp a b) p h1 h2 (by omega) (by omega) c1 c2] at hc
  unfold Bd.imgN at hc ⊢
  rw [hc]
theorem mv_mv {s a b : Int} {cs : List Int} (h1 : 1 ≤ s) (h2 : s ≤ 7) (hn : (cs.length : Int) = s * s) (a1 : 0 ≤ a) (a2 : a < 8) (b1 : 0 ≤ b) (b2 : b < 8) : Bd.mv s b (Bd.mv s a cs) = Bd.mv s (Pt.comp a b) cs := by
  obtain ⟨c1, c2⟩ := Pt.comp_bd a b a1 a2 b1 b2
  have hl : (Bd.mv s a cs).length = cs.length := Bd.mv_len _ _ _
  apply List.ext_getElem?
  intro q
  by_cases hq : q < cs.length
  · obtain ⟨p, hp, rfl⟩ := Bd.imgN_sur s (Pt.comp a b) cs.length h1 h2 hn c1 c2 q hq
    obtain ⟨l1, _⟩ := Bd.imgN_lt s a cs.length p h1 h2 hn hp
    rw [mv_at h1 h2 hn c1 c2 hp, imgN_comp h1 h2 hn a1 a2 b1 b2 hp, mv_at h1 h2 (by rw [hl]; exact hn) b1 b2 (by rw [hl]; exact l1), List.getD_eq_getElem?_getD, mv_at h1 h2 hn a1 a2 hp]
    rfl
  · rw [List.getElem?_eq_none (by rw [Bd.mv_len, hl]; omega), List.getElem?_eq_none (by rw [Bd.mv_len]; omega)]

theorem Ints.dr {w : World} {n : Nat} {A : Option Addr} {xs : List Int} (h : Ints w w.heap.size A n xs) : Ints w.drew w.drew.heap.size A n xs := h
/-- An image whose size and cells have names. -/
theorem i_trW (s k : Int) (w : World) (A : Option Addr) (n c : Nat) (cs ds : List Int) (h : Ints w w.heap.size A n cs) (hn : n ≤ 49) (hv : Bd.okB s cs = true) (hk : Pt.okK k = true) (hd : Bd.mv s k cs = ds) :
    Calls Try.prog 14 #[.agg #[.int .i64 s, .slice A n c], .int .i64 k] w fun e w' => ∃ A1 c1, e = .returned (.agg #[.int .i64 s, .slice A1 n c1]) ∧ Own w' w.heap.size A1 n c1 ds ∧ Below w.heap.size w w' := by
  have hl := h.1
  refine (i_trV s w A n c cs k h hn hv hk).mono ?_
  rintro e w' ⟨A1, n1, c1, rfl, ho, hb⟩
  rw [hd] at ho
  have e1 := ho.1
  rw [← hd, Bd.mv_len] at e1
  obtain rfl : n1 = n := by omega
  exact ⟨_, _, rfl, ho, hb⟩
theorem len_comp {s k : Int} {cs : List Int} {n m : Nat} (h : (Bd.mv s k cs).length = m) (h0 : cs.length = n) : n = m := len_mv h h0
end Go.Proofs.Ytmddkifadknlfaa

namespace Go.Proofs.Ytmddkifadknlfaa
set_option maxRecDepth 100000
open Go.RowKit

theorem r_anySize (B g q : Nat) (w : World) (h : Rdr w B g q) (hq : q ≤ 1000000000000) :
    Calls Try.prog 23 #[.pointer (some ⟨g, 0, none⟩)] w fun e w' => Got (fun x => 0 ≤ x ∧ x ≤ 8) w B g (q + 1) e w' := by
  have hlt := h.lt
  go_enter Try.func23, Try.ntmps23
  go_wp2_with fail
  have hl := Ints.lit w 3 [3, 5, 4, 2, 7, 6, 1, 0, 8, 3, 5, 4]
  refine (r_one B g q _ _ [3, 5, 4, 2, 7, 6, 1, 0, 8, 3, 5, 4] _ _ (h.below ((Below.refl _ _).alloc (Nat.le_refl _) _) hlt) hq hl (by simp) (by simp) (by simp) (by rintro b o e; injection e with e; injection e; omega)).mono ?_
  rintro e w1 ⟨x, rfl, hx, hr, hw⟩
  have Hr := Lib.hid hr
  have Hw := Lib.hid (gtrans (World.grownBy_alloc w _ (some g)) hw)
  have Hx := Lib.hid hx
  clear hr hw hl hx
  go_wp2_with fail
  go_ret
  refine ⟨_, rfl, ?_, Hr.out, Hw.out⟩
  have := Hx.out
  simp at this
  omega
end Go.Proofs.Ytmddkifadknlfaa

namespace Go.Proofs.Ytmddkifadknlfaa
set_option maxRecDepth 100000
open Go.RowKit

theorem d_bn (w : World) (a : Option Addr) (len cap : Nat) (zs : List Int) (h : IsRow .u8 w a len cap zs) :
    Calls Try.prog 10 #[.slice a len cap] w fun e w' => ∃ s : Int, e = .returned (.int .i64 s) ∧ 0 ≤ s ∧ s ≤ 8 ∧ Below w.heap.size w w' := by
  have H := Lib.hid h
  clear h
  go_enter Try.func10, Try.ntmps10
  go_wp2_with fail
  refine (r_new _ _ _ _ zs H.out).mono ?_
  rintro e y ⟨g, rfl, hr, hb⟩
  have hg1 := hr.1
  have Hr := Lib.hid hr
  have Hb := Lib.hid hb
  clear hr hb
  go_wp2_with fail
  refine (r_anySize _ g 0 _ Hr.out (by omega)).mono ?_
  rintro e y2 ⟨s, rfl, ⟨s0, s8⟩, hr, hg⟩
  have Hb := Lib.hid (Hb.out.trans (below_g hg Hb.out.size (fun k hk => by have := Option.some.inj hk; omega)))
  clear hr hg
  go_wp2_with fail
  go_ret
  exact ⟨s, rfl, s0, s8, Hb.out⟩

section
variable (s : Int) (h1 : 1 ≤ s) (h2 : s ≤ 7)
include h1 h2
theorem len_repl : (((List.replicate (s * s).toNat (0 : Int)).length : Nat) : Int) = s * s := by
  have := Pt.sq_bd s h1 h2
  rw [List.length_replicate]; omega
theorem okB_repl : Bd.okB s (List.replicate (s * s).toNat 0) = true := by
  have hl := len_repl s h1 h2
  refine (Bd.okB_iff _ _).2 ⟨h1, h2, by first | exact hl | exact hl.symm, fun c hc => ?_⟩
  have := List.eq_of_mem_replicate hc
  omega
theorem mv_repl (k : Int) (k1 : 0 ≤ k) (k2 : k < 8) : Bd.mv s k (List.replicate (s * s).toNat 0) = List.replicate (s * s).toNat 0 := by
  have := mv_perm h1 h2 (len_repl s h1 h2) k1 k2
  exact List.perm_replicate.1 this
theorem cnt_repl : cntB s (List.replicate (s * s).toNat 0) 0 = s * s := by
  have hl := len_repl s h1 h2
  rw [cntB, if_pos (okB_repl s h1 h2)]
  unfold cnt
  rw [List.filter_eq_self.2 (fun c hc => by have := List.eq_of_mem_replicate hc; simp [this])]
  exact hl
theorem sq_len : ((s * s).toNat : Int) = s * s ∧ (s * s).toNat ≤ 49 := by
  have := Pt.sq_bd s h1 h2
  omega
theorem i_newV (w : World) (n : Nat) (Z : List Int) (hn : (s * s).toNat = n) (hZ : List.replicate (s * s).toNat 0 = Z) : Calls Try.prog 11 #[.int .i64 s] w fun e w' => ∃ A c, e = .returned (.agg #[.int .i64 s, .slice A n c]) ∧ Own w' w.heap.size A n c Z ∧ Below w.heap.size w w' := by
  refine (i_new s w).mono ?_
  have hs : newS s = s := by rw [newS, if_pos ((Pt.okS_iff s).2 ⟨h1, h2⟩)]
  have hc : newCs s = Z := by rw [newCs, if_pos ((Pt.okS_iff s).2 ⟨h1, h2⟩), hZ]
  rintro e w' ⟨A, m, c, rfl, ho, hb⟩
  rw [hs, hc] at *
  have e1 := ho.1
  rw [← hZ, List.length_replicate, hn] at e1
  subst e1
  exact ⟨A, c, rfl, ho, hb⟩
theorem s_newV (w : World) (n : Nat) (Z : List Int) (hn : (s * s).toNat = n) (hZ : List.replicate (s * s).toNat 0 = Z) : Calls Try.prog 13 #[.int .i64 s] w fun e w' => ∃ A c, e = .returned (.agg #[.int .i64 s, .slice A n c]) ∧ Own w' w.heap.size A n c Z ∧ Below w.heap.size w w' := by
  refine (s_new s w).mono ?_
  have hs : newS s = s := by rw [newS, if_pos ((Pt.okS_iff s).2 ⟨h1, h2⟩)]
  have hc : newCs s = Z := by rw [newCs, if_pos ((Pt.okS_iff s).2 ⟨h1, h2⟩), hZ]
  rintro e w' ⟨A, m, c, rfl, ho, hb⟩
  rw [hs, hc] at *
  have e1 := ho.1
  rw [← hZ, List.length_replicate, hn] at e1
  subst e1
  exact ⟨A, c, rfl, ho, hb⟩
end
section
variable (s : Int) (h1 : Pt.okS s = false)
include h1
theorem i_newN (w : World) : Calls Try.prog 11 #[.int .i64 s] w fun e w' => ∃ A c, e = .returned (.agg #[.int .i64 0, .slice A 0 c]) ∧ Own w' w.heap.size A 0 c [] ∧ Below w.heap.size w w' := by
  refine (i_new s w).mono ?_
  have hs : newS s = 0 := by rw [newS, h1]; rfl
  have hc : newCs s = [] := by rw [newCs, h1]; rfl
  rintro e w' ⟨A, m, c, rfl, ho, hb⟩
  rw [hs, hc] at *
  obtain rfl : 0 = m := ho.1
  exact ⟨A, c, rfl, ho, hb⟩
theorem s_newN (w : World) : Calls Try.prog 13 #[.int .i64 s] w fun e w' => ∃ A c, e = .returned (.agg #[.int .i64 0, .slice A 0 c]) ∧ Own w' w.heap.size A 0 c [] ∧ Below w.heap.size w w' := by
  refine (s_new s w).mono ?_
  have hs : newS s = 0 := by rw [newS, h1]; rfl
  have hc : newCs s = [] := by rw [newCs, h1]; rfl
  rintro e w' ⟨A, m, c, rfl, ho, hb⟩
  rw [hs, hc] at *
  obtain rfl : 0 = m := ho.1
  exact ⟨A, c, rfl, ho, hb⟩
end
theorem i_vbW (s : Int) (w : World) (A : Option Addr) (n c : Nat) (cs : List Int) (b : Bool) (h : Ints w w.heap.size A n cs) (hn : n ≤ 49) (hb : Bd.okB s cs = b) :
    Calls Try.prog 6 #[.agg #[.int .i64 s, .slice A n c]] w fun e w' => e = .returned (.bool b) ∧ Below w.heap.size w w' := by
  subst hb
  exact i_validBoard s w _ A n c cs h (Nat.le_refl _) (by omega)
end Go.Proofs.Ytmddkifadknlfaa

