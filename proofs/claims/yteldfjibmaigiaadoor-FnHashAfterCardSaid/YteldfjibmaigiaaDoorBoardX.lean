/-
  What the exact laws do with boards: sizes, copies, comparing, marking, finding the marks.
-/
import Derived.Test.YteldfjibmaigiaaDoorBoard
import Derived.Test.YteldfjibmaigiaaDoorMarks
namespace Go.Proofs.YteldfjibmaigiaaDoor
set_option maxRecDepth 100000
open Go.RowKit

theorem x_sz (w : World) (A : Option Addr) (n c : Nat) (hn : n ≤ 1048576) :
    Calls Tryd.prog 45 #[.slice A n c, .int .i64 1048576] w fun e w' => e = .returned (.int .i64 (1048576 - n)) ∧ w = w' := by
  go_enter Tryd.func45, Tryd.ntmps45
  go_wp2_with fail
  go_ret
  exact ⟨rfl, rfl⟩
theorem x_sz_no (w : World) (A : Option Addr) (n c : Nat) (hn : 1048576 < n) (hm : n ≤ 9223372036854775807) :
    Calls Tryd.prog 45 #[.slice A n c, .int .i64 1048576] w fun e w' => e = .returned (.int .i64 (-1)) ∧ w = w' := by
  go_enter Tryd.func45, Tryd.ntmps45
  go_wp2_with fail
  go_ret
  exact ⟨rfl, rfl⟩
theorem x_szB (w : World) (s : Int) (A : Option Addr) (n c : Nat) (hn : n ≤ 1048576) :
    Calls Tryd.prog 14 #[.agg #[.int .i64 s, .slice A n c], .int .i64 1048576] w fun e w' => e = .returned (.int .i64 (1048576 - n)) ∧ Below w.heap.size w w' := by
  go_enter Tryd.func14, Tryd.ntmps14
  go_wp2_with fail
  refine (x_sz _ _ _ _ hn).mono ?_
  rintro e w' ⟨rfl, rfl⟩
  go_wp2_with fail
  go_ret
  exact ⟨rfl, (Below.refl _ _).alloc (Nat.le_refl _) _⟩
theorem x_szB_no (w : World) (s : Int) (A : Option Addr) (n c : Nat) (hn : 1048576 < n) (hm : n ≤ 9223372036854775807) :
    Calls Tryd.prog 14 #[.agg #[.int .i64 s, .slice A n c], .int .i64 1048576] w fun e w' => e = .returned (.int .i64 (-1)) ∧ Below w.heap.size w w' := by
  go_enter Tryd.func14, Tryd.ntmps14
  go_wp2_with fail
  refine (x_sz_no _ _ _ _ hn hm).mono ?_
  rintro e w' ⟨rfl, rfl⟩
  go_wp2_with fail
  go_ret
  exact ⟨rfl, (Below.refl _ _).alloc (Nat.le_refl _) _⟩

theorem fill_succ {cs : List Int} {n k : Nat} (hl : cs.length = n) (hk : k < n) :
    (cs.take k ++ List.replicate (n - k) 0).set k (cs.getD k 0) = cs.take (k + 1) ++ List.replicate (n - (k + 1)) 0 := by
  have hlt : (cs.take k).length = k := by rw [List.length_take]; omega
  obtain ⟨m, hm⟩ : ∃ m, n - k = m + 1 := ⟨n - k - 1, by omega⟩
  have e : cs.getD k 0 = cs[k]'(by omega) := by simp [List.getD_eq_getElem?_getD, List.getElem?_eq_getElem (show k < cs.length by omega)]
  have e2 : cs.take (k + 1) = cs.take k ++ [cs[k]'(by omega)] := List.take_succ_eq_append_getElem (by omega)
  rw [List.set_append_right _ _ (by omega), hlt, Nat.sub_self, hm, List.replicate_succ, List.set_cons_zero, e2, show n - (k + 1) = m by omega, e, List.append_assoc]
  rfl

theorem x_copy (w : World) (B : Nat) (A : Option Addr) (n c : Nat) (cs : List Int) (h : Ints w B A n cs) (hB : B ≤ w.heap.size) (hn : n ≤ 1048576) :
    Calls Tryd.prog 47 #[.slice A n c] w fun e w' => ∃ A' c', e = .returned (.slice A' n c') ∧ Own w' w.heap.size A' n c' cs ∧ Below w.heap.size w w' := by
  have hl := h.1
  have Hl := Lib.hid hl
  have H := Lib.hid h
  clear h hl
  go_enter Tryd.func47, Tryd.ntmps47
  go_wp2_with (at_make; refine make0 rfl _ rfl _ w.heap.size _ n rfl rfl (by omega) (Nat.le_refl _) ?_; intro w1 hown hb hlt)
  have Ho := Lib.hid hown
  have Hb := Lib.hid hb
  clear hown hb
  go_loopw [4] (fun i wr => ∃ k : Nat, k ≤ n ∧ i = .int .i64 k ∧ Own wr w.heap.size (some ⟨w.heap.size, 0, none⟩) n n (cs.take k ++ List.replicate (n - k) 0) ∧ Below w.heap.size w wr) (fun i _ => n - (intOf i).toNat)
  case atStart => exact ⟨0, by omega, rfl, by simpa using Ho.out, Hb.out⟩
  case round =>
    clear Ho Hb
    obtain ⟨k, hk, rfl, ho, hb⟩ := hrel
    by_cases hkn : k < n
    · rcases H.out.2 with h0 | ⟨b, o, rfl, hbB, hc⟩
      · omega
      · have hck := (hb.cell (p := ⟨b, o + k, none⟩) (by show b < _; omega)).trans (hc k hkn)
        have hcell : ∃ u, wr.cell? ⟨w.heap.size, k, none⟩ = some u := by
          have := World.ownsRow.cellAt ho.2 k (by omega)
          rw [this]
          exact ⟨_, List.getElem?_eq_getElem (by rw [List.length_map, ho.1]; exact hkn)⟩
        obtain ⟨u, hu⟩ := hcell
        have hf := World.ownsRow.frozenAt ho.2 k
        have hst := (ho.stored k (cs.getD k 0)).1
        rw [fill_succ Hl.out hkn] at hst
        obtain ⟨x, hx⟩ : ∃ x, cs.getD k 0 = x := ⟨_, rfl⟩
        rw [hx] at hst hck
        have Hs := Lib.hid hst
        have Hb := Lib.hid hb
        have hne : b ≠ w.heap.size := by omega
        clear hx hst ho hb hc
        go_wp2_with fail
        go_roundw
        case rel => exact ⟨k + 1, by omega, by go_num, Hs.out, Hb.out.setCell (Nat.le_refl _) _⟩
        case measure => simp [intOf]; omega
    · obtain rfl : k = n := by omega
      have ho2 : Own wr w.heap.size (some ⟨w.heap.size, 0, none⟩) k k cs := by
        have := ho
        rw [Nat.sub_self, List.take_of_length_le (by rw [Hl.out]; exact Nat.le_refl _)] at this
        simpa using this
      have Ho := Lib.hid ho2
      have Hb := Lib.hid hb
      clear ho ho2 hb
      go_wp2_with fail
      go_ret
      exact ⟨_, _, rfl, Ho.out, Hb.out⟩

/-- A board that the call made, its number of cells told. -/
def MadeN (s' : Int) (n : Nat) (cs' : List Int) (w : World) (e : Ending) (w' : World) : Prop :=
  ∃ A c, e = .returned (.agg #[.int .i64 s', .slice A n c]) ∧ Own w' w.heap.size A n c cs' ∧ Below w.heap.size w w'

theorem x_toB (w : World) (s : Int) (B : Nat) (A : Option Addr) (n c : Nat) (cs : List Int) (h : Ints w B A n cs) (hB : B ≤ w.heap.size) (hn : n ≤ 1048576) :
    Calls Tryd.prog 16 #[.agg #[.int .i64 s, .slice A n c]] w fun e w' => MadeN s n cs w e w' := by
  have hb3 : Below w.heap.size w (((w.alloc (.cells #[.int .i64 s, .slice A n c] 37)).alloc (.cells #[.int .i64 0, .slice none 0 0] 25)).alloc (.cells #[.int .i64 s, .slice none 0 0] 25)) :=
    (((Below.refl _ _).alloc (Nat.le_refl _) _).alloc (by simp) _).alloc (by simp; omega) _
  have Hi := Lib.hid (h.below hb3 hB)
  have Hb3 := Lib.hid hb3
  clear h hb3
  go_enter Tryd.func16, Tryd.ntmps16
  go_wp2_with fail
  refine (x_copy _ _ _ _ _ _ Hi.out (by simp; omega) hn).mono ?_
  rintro e w1 ⟨A1, c1, rfl, ho, hb⟩
  have e0 : (((w.alloc (.cells #[.int .i64 s, .slice A n c] 37)).alloc (.cells #[.int .i64 0, .slice none 0 0] 25)).alloc (.cells #[.int .i64 s, .slice none 0 0] 25)).heap.size = w.heap.size + 1 + 1 + 1 := by simp
  have x1 := ((Bx.new 25 (w.alloc (.cells #[.int .i64 s, .slice A n c] 37)) 0 (.slice none 0 0)).alloc (.cells #[.int .i64 s, .slice none 0 0] 25)).below hb (by simp)
  have x2 := (Bx.new 25 ((w.alloc (.cells #[.int .i64 s, .slice A n c] 37)).alloc (.cells #[.int .i64 0, .slice none 0 0] 25)) s (.slice none 0 0)).below hb (by simp)
  rw [e0] at ho
  have e1 : (w.alloc (.cells #[.int .i64 s, .slice A n c] 37)).heap.size = w.heap.size + 1 := by simp
  have e2 : ((w.alloc (.cells #[.int .i64 s, .slice A n c] 37)).alloc (.cells #[.int .i64 0, .slice none 0 0] 25)).heap.size = w.heap.size + 1 + 1 := by simp
  rw [e1] at x1
  rw [e2] at x2
  have hbw := Hb3.out.trans (hb.mono (by omega))
  clear e0 e1 e2 hb Hb3 Hi
  have c20 := x2.cell0
  have c21 := x2.cell1
  have f21 := x2.frozen 1
  have k21 := (x2.set1 (.slice A1 n c1)).cell1
  have k20 := (x2.set1 (.slice A1 n c1)).cell0
  have y1 := x1.far (p := ⟨w.heap.size + 1 + 1, 1, none⟩) (by simp) (.slice A1 n c1)
  have c10 := y1.cell0
  have c11 := y1.cell1
  have f10 := y1.frozen 0
  have f11 := y1.frozen 1
  have hl1 := x1.lt
  have hl2 := x2.lt
  have y2 := y1.set0 s
  have K0 := Lib.hid (y2.cell0)
  have y3 := y2.set1 (.slice A1 n c1)
  have K1 := Lib.hid (y3.cell1)
  have c12 := y2.cell1
  have f12 := y2.frozen 1
  have Ho := Lib.hid (((ho.far ⟨w.heap.size + 1 + 1, 1, none⟩ (fun g hA => by have := (ho.ge hA).1; show g ≠ w.heap.size + 1 + 1; omega) (.slice A1 n c1)).far ⟨w.heap.size + 1, 0, none⟩ (fun g hA => by have := (ho.ge hA).1; show g ≠ w.heap.size + 1; omega) (.int .i64 s)).far ⟨w.heap.size + 1, 1, none⟩ (fun g hA => by have := (ho.ge hA).1; show g ≠ w.heap.size + 1; omega) (.slice A1 n c1))
  have Hb := Lib.hid (((hbw.setCell (p := ⟨w.heap.size + 1 + 1, 1, none⟩) (by show w.heap.size ≤ w.heap.size + 1 + 1; omega) (.slice A1 n c1)).setCell (p := ⟨w.heap.size + 1, 0, none⟩) (by show w.heap.size ≤ w.heap.size + 1; omega) (.int .i64 s)).setCell (p := ⟨w.heap.size + 1, 1, none⟩) (by show w.heap.size ≤ w.heap.size + 1; omega) (.slice A1 n c1))
  clear x1 x2 y1 y2 y3 ho hbw
  go_wp2_with fail
  have k0 := K0.out
  have k1 := K1.out
  refine bodyPost_ret (v := .agg #[.int .i64 s, .slice A1 n c1]) (by simp [results, Tryd.results16, go_sem, k0, k1]) rfl ?_
  exact ⟨_, _, rfl, Ho.out.weaken (by omega), Hb.out⟩
end Go.Proofs.YteldfjibmaigiaaDoor
