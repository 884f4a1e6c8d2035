/-
  Lists of ints in memory: equal lists compare equal.
-/
import Derived.Test.YteldfjibmaigiaaDoorWords
import Derived.LoopTactic
namespace Go.Proofs.YteldfjibmaigiaaDoor
set_option maxRecDepth 100000
open Go.RowKit

def Drew (v : Value) (w : World) (e : Ending) (w' : World) : Prop := ∃ k, e = .returned v ∧ w' = w.drewN k

theorem eqi_t (w : World) (B B' : Nat) (A A' : Option Addr) (n c c' : Nat) (xs : List Int) (h : Ints w B A n xs) (h' : Ints w B' A' n xs) (hn : n ≤ 1000000000) :
    Calls Tryd.prog 10 #[.slice A n c, .slice A' n c'] w fun e w' => Drew (.bool true) w e w' := by
  rcases h.2 with rfl | ⟨b, o, rfl, hlt, hc⟩
  · clear h h'
    go_enter Tryd.func10, Tryd.ntmps10
    go_wp2_with fail
    go_rounds 1
    go_ret
    exact ⟨0, rfl, rfl⟩
  · rcases h'.2 with rfl | ⟨b', o', rfl, hlt', hc'⟩
    · clear h h' hc
      go_enter Tryd.func10, Tryd.ntmps10
      go_wp2_with fail
      go_rounds 1
      go_ret
      exact ⟨0, rfl, rfl⟩
    · have Hc := Lib.hid hc
      have Hc' := Lib.hid hc'
      clear hc hc' h h'
      go_enter Tryd.func10, Tryd.ntmps10
      go_wp2_with fail
      go_loopw [5] (fun i wr => ∃ k : Nat, k ≤ n ∧ i = .int .i64 k ∧ ∃ d, wr = w.drewN d) (fun i _ => n - (intOf i).toNat)
      case atStart => exact ⟨0, by omega, rfl, 0, rfl⟩
      case round =>
        obtain ⟨k, hk, rfl, d, rfl⟩ := hrel
        by_cases hlt : k < n
        · have c1 := Hc.out k hlt
          have c2 := Hc'.out k hlt
          obtain ⟨x, hx⟩ : ∃ x, xs.getD k 0 = x := ⟨_, rfl⟩
          rw [hx] at c1 c2
          clear hx
          have hki : (k : Int) < n := by omega
          go_wp2_with fail
          go_quiet (fail)
          go_wp2_with fail
          go_roundw
          case rel => exact ⟨k + 1, by omega, by go_num, _, rfl⟩
          case measure => simp [intOf]; omega
        · go_wp2_with fail
          go_ret
          exact ⟨_, rfl, rfl⟩

theorem eqs_t (w : World) (B B' : Nat) (A A' : Option Addr) (n c c' : Nat) (xs : List Int) (h : Ints w B A n xs) (h' : Ints w B' A' n xs) (hn : n ≤ 1000000000) :
    Calls Tryd.prog 49 #[.slice A n c, .slice A' n c'] w fun e w' => Drew (.bool true) w e w' := by
  rcases h.2 with rfl | ⟨b, o, rfl, hlt, hc⟩
  · clear h h'
    go_enter Tryd.func49, Tryd.ntmps49
    go_wp2_with fail
    go_rounds 1
    go_ret
    exact ⟨0, rfl, rfl⟩
  · rcases h'.2 with rfl | ⟨b', o', rfl, hlt', hc'⟩
    · clear h h' hc
      go_enter Tryd.func49, Tryd.ntmps49
      go_wp2_with fail
      go_rounds 1
      go_ret
      exact ⟨0, rfl, rfl⟩
    · have Hc := Lib.hid hc
      have Hc' := Lib.hid hc'
      clear hc hc' h h'
      go_enter Tryd.func49, Tryd.ntmps49
      go_wp2_with fail
      go_loopw [5] (fun i wr => ∃ k : Nat, k ≤ n ∧ i = .int .i64 k ∧ ∃ d, wr = w.drewN d) (fun i _ => n - (intOf i).toNat)
      case atStart => exact ⟨0, by omega, rfl, 0, rfl⟩
      case round =>
        obtain ⟨k, hk, rfl, d, rfl⟩ := hrel
        by_cases hlt : k < n
        · have c1 := Hc.out k hlt
          have c2 := Hc'.out k hlt
          obtain ⟨x, hx⟩ : ∃ x, xs.getD k 0 = x := ⟨_, rfl⟩
          rw [hx] at c1 c2
          clear hx
          have hki : (k : Int) < n := by omega
          go_wp2_with fail
          go_quiet (fail)
          go_wp2_with fail
          go_roundw
          case rel => exact ⟨k + 1, by omega, by go_num, _, rfl⟩
          case measure => simp [intOf]; omega
        · go_wp2_with fail
          go_ret
          exact ⟨_, rfl, rfl⟩


end Go.Proofs.YteldfjibmaigiaaDoor
