/-
  Boards in memory: validity in both packages, copies, comparing, marking.
-/
import Derived.Test.YteldfjibmaigiaaDoorPureBd
import Derived.Test.YteldfjibmaigiaaDoorSpecA
import Derived.Test.YteldfjibmaigiaaDoorWords
import Derived.Test.YteldfjibmaigiaaDoorLists
import Derived.Laws.ResultCell
namespace Go.Proofs.YteldfjibmaigiaaDoor
set_option maxRecDepth 100000
open Go.RowKit

theorem cell_box (w : World) (s : Int) (v : Value) (t : TypeId) : (w.alloc (.cells #[.int .i64 s, v] t)).cell? ⟨w.heap.size, 1, none⟩ = some v := by
  rw [World.cell?_alloc_at _ _ _ _ rfl]; rfl

theorem s_allIn (w : World) (B : Nat) (A : Option Addr) (n c : Nat) (cs : List Int) (h : Ints w B A n cs) (hn : n ≤ 1000000000) :
    Calls Tryd.prog 61 #[.slice A n c, .int .i64 0, .int .i64 2] w fun e w' => e = .returned (.bool (Bd.okCs cs)) ∧ w = w' := by
  have hl := h.1
  rcases h.2 with rfl | ⟨b, o, rfl, hlt, hc⟩
  · have hx : cs = [] := List.eq_nil_of_length_eq_zero hl
    subst hx
    clear h hl
    go_enter Tryd.func61, Tryd.ntmps61
    go_wp2_with fail
    go_rounds 1
    go_ret
    exact ⟨rfl, rfl⟩
  · have Hc := Lib.hid hc
    have Hl := Lib.hid hl
    clear hc h hl
    go_enter Tryd.func61, Tryd.ntmps61
    go_wp2_with fail
    go_loop [7] (fun i => ∃ k : Nat, k ≤ n ∧ i = .int .i64 k ∧ Hid (Bd.okCs (cs.take k) = true)) (fun i => n - (intOf i).toNat)
    case atStart => exact ⟨0, by omega, rfl, Lib.hid rfl⟩
    case round =>
      obtain ⟨k, hk, rfl, hok⟩ := hrel
      by_cases hlt : k < n
      · have c1 := Hc.out k hlt
        have hstep := Lib.hid (Bd.okCs_take_succ (cs := cs) (k := k) (by rw [Hl.out]; exact hlt))
        have hbad := Lib.hid (Bd.okCs_false (cs := cs) (k := k) (by rw [Hl.out]; exact hlt))
        obtain ⟨x, hx⟩ : ∃ x, cs.getD k 0 = x := ⟨_, rfl⟩
        rw [hx] at c1 hstep hbad
        clear hx
        by_cases hxc : Bd.okC x = true
        · have hd : (decide (0 ≤ x) && decide (x ≤ 2)) = true := hxc
          have Hx := Lib.hid hxc
          clear hxc
          go_wp2_with fail
          refine (s_range _ _ _ _).mono ?_
          rintro e w' ⟨rfl, rfl⟩
          rw [hd]
          clear hd
          go_wp2_with fail
          go_round
          case rel => exact ⟨k + 1, by omega, by go_num, Lib.hid (by rw [hstep.out, hok.out, Hx.out]; rfl)⟩
          case measure => simp [intOf]; omega
        · have hd : (decide (0 ≤ x) && decide (x ≤ 2)) = false := by simpa [Bd.okC] using hxc
          have Hx := Lib.hid (hbad.out (by simpa using hxc))
          clear hxc
          go_wp2_with fail
          refine (s_range _ _ _ _).mono ?_
          rintro e w' ⟨rfl, rfl⟩
          rw [hd]
          clear hd
          go_wp2_with fail
          go_ret
          exact ⟨ret_bool Hx.out.symm, rfl⟩
      · have hfull : Bd.okCs cs = true := by
          have := hok.out
          rwa [List.take_of_length_le (by rw [Hl.out]; omega)] at this
        have Hf := Lib.hid hfull
        clear hfull
        go_wp2_with fail
        go_ret
        exact ⟨ret_bool Hf.out.symm, rfl⟩

theorem s_validBoard (s : Int) (w : World) (B : Nat) (A : Option Addr) (n c : Nat) (cs : List Int) (h : Ints w B A n cs) (hB : B ≤ w.heap.size) (hn : n ≤ 1000000000) :
    Calls Tryd.prog 36 #[.agg #[.int .i64 s, .slice A n c]] w fun e w' => e = .returned (.bool (Bd.okB s cs)) ∧ Below w.heap.size w w' := by
  have hl := h.1
  have hb1 : Below w.heap.size w (w.alloc (.cells #[.int .i64 s, .slice A n c] 25)) := (Below.refl _ _).alloc (Nat.le_refl _) _
  have Hi := Lib.hid (h.below hb1 hB)
  have Hb := Lib.hid hb1
  clear h hb1
  by_cases h1 : Pt.okS s = true
  · obtain ⟨s1, s2⟩ := (Pt.okS_iff s).1 h1
    have hsq := Pt.sq_bd s s1 s2
    by_cases h2 : ((n : Int) == s * s) = true
    · have Hf := Lib.hid (show Bd.okB s cs = Bd.okCs cs by rw [Bd.okB, h1, hl, h2]; rfl)
      clear hl
      go_enter Tryd.func36, Tryd.ntmps36
      go_wp2_with fail
      refine (s_size _ _).mono ?_
      rintro e w' ⟨rfl, rfl⟩
      go_wp2_with fail
      refine (s_allIn _ _ _ _ _ _ Hi.out hn).mono ?_
      rintro e w' ⟨rfl, rfl⟩
      go_wp2_with fail
      go_ret
      exact ⟨ret_bool Hf.out.symm, Hb.out⟩
    · have h2' : ((n : Int) == s * s) = false := by simpa using h2
      have Hf := Lib.hid (show Bd.okB s cs = false by rw [Bd.okB, h1, hl, h2']; rfl)
      clear hl h2
      go_enter Tryd.func36, Tryd.ntmps36
      go_wp2_with fail
      refine (s_size _ _).mono ?_
      rintro e w' ⟨rfl, rfl⟩
      go_wp2_with fail
      go_ret
      exact ⟨ret_bool Hf.out.symm, Hb.out⟩
  · have h1' : Pt.okS s = false := by simpa using h1
    have Hf := Lib.hid (show Bd.okB s cs = false by rw [Bd.okB, h1']; rfl)
    clear hl h1
    go_enter Tryd.func36, Tryd.ntmps36
    go_wp2_with fail
    refine (s_size _ _).mono ?_
    rintro e w' ⟨rfl, rfl⟩
    go_wp2_with fail
    go_ret
    exact ⟨ret_bool Hf.out.symm, Hb.out⟩
end Go.Proofs.YteldfjibmaigiaaDoor
