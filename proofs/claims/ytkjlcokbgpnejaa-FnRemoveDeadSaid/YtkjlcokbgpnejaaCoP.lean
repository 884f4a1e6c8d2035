/-
  The program's 'connectedParts' and 'partsWhere': the connected parts of an area.
-/
import Derived.Test.YtkjlcokbgpnejaaTkP
import Derived.Test.YtkjlcokbgpnejaaGs
import Derived.Test.YtkjlcokbgpnejaaUnS
namespace Go.Proofs.Ytkjlcokbgpnejaa
set_option maxRecDepth 100000
open Go.RowKit

/-- The parts of an area that begin at its first k points. -/
def PL (s : Int) (n : Nat) (K : List Bool) : Nat → List (List Int) → Prop
  | 0, ls => ls = []
  | k + 1, ls => ∃ l0, PL s n K k l0 ∧ ((Pa.PF s K k ∧ ∃ g, Reached s n K (k : Int) g ∧ ls = l0 ++ [g]) ∨ (¬ Pa.PF s K k ∧ ls = l0))
theorem PL.one {s : Int} {n : Nat} {K : List Bool} : ∀ {k : Nat} {ls ls' : List (List Int)}, PL s n K k ls → PL s n K k ls' → ls = ls' := by
  intro k
  induction k with
  | zero => intro ls ls' h h'; exact h.trans h'.symm
  | succ k ih =>
    intro ls ls' h h'
    obtain ⟨l0, h0, h⟩ := h
    obtain ⟨l1, h1, h'⟩ := h'
    have e := ih h0 h1
    subst e
    rcases h with ⟨a, g, hg, rfl⟩ | ⟨a, rfl⟩ <;> rcases h' with ⟨b, g', hg', rfl⟩ | ⟨b, rfl⟩
    · rw [hg.one hg']
    · exact absurd a b
    · exact absurd b a
    · rfl
theorem PL.small {s : Int} {n : Nat} {K : List Bool} : ∀ {k : Nat} {ls : List (List Int)}, PL s n K k ls → ls.length ≤ k := by
  intro k
  induction k with
  | zero => intro ls h; cases (show ls = [] from h); exact Nat.le_refl _
  | succ k ih =>
    intro ls h
    obtain ⟨l0, h0, h⟩ := h
    have := ih h0
    rcases h with ⟨_, g, hg, rfl⟩ | ⟨_, rfl⟩
    · rw [List.length_append]; simp; omega
    · omega
/-- The groups of a color are the parts of its points. -/
theorem PL.ofGL {s x : Int} {n : Nat} {cs : List Int} (hl : cs.length = n) : ∀ {k : Nat} {ls : List (List Int)}, k ≤ n → GL s n cs x k ls → PL s n (hasCol x cs) k ls := by
  intro k
  induction k with
  | zero => intro ls _ h; exact h
  | succ k ih =>
    intro ls hk h
    obtain ⟨l0, h0, h⟩ := h
    have key : GF s cs x k ↔ Pa.PF s (hasCol x cs) k := by
      unfold GF Pa.PF
      rw [hasCol_at (by omega)]
      constructor
      · rintro ⟨a, b⟩
        rw [a] at b
        exact ⟨by rw [a]; exact beq_self_eq_true _, b⟩
      · rintro ⟨a, b⟩
        have a' : cs.getD k 0 = x := by simpa using a
        exact ⟨a', by rw [a']; exact b⟩
    refine ⟨l0, ih (by omega) h0, ?_⟩
    rcases h with ⟨a, g, hg, rfl⟩ | ⟨a, rfl⟩
    · exact .inl ⟨key.1 a, g, by rw [a.1] at hg; exact hg, rfl⟩
    · exact .inr ⟨fun h => a (key.2 h), rfl⟩

theorem gbel {w a b : World} {ga : Nat} (h : w.grownBy a (some ga)) (hb : Below w.heap.size a b) : w.grownBy b (some ga) :=
  ⟨hb.os.trans h.os, hb.tape.trans h.tape, hb.output.trans h.output, Nat.le_trans h.size hb.size, fun k hk hne => (hb.block k hk).trans (h.block k hk hne)⟩

set_option maxRecDepth 100000 in
set_option maxHeartbeats 8000000 in
theorem i_connectedParts (s : Int) (w : World) (ga n : Nat) (K : List Bool) (h1 : 1 ≤ s) (h2 : s ≤ 7) (hn : (n : Int) = s * s) (hK : K.length = n) (hbl : Bl w ga K) :
    Calls Try.prog 75 #[.int .i64 s, .slice (some ⟨ga, 0, none⟩) n n] w fun e w' => ∃ A m c ls, e = .returned (.slice A m c) ∧ SS w' w.heap.size w'.heap.size A m c ls ∧ PL s n K n ls ∧ w.grownBy w' (some ga) := by
  have hsq := Pt.sq_bd s h1 h2
  have hn49 : n ≤ 49 := by omega
  have hga := hbl.lt
  have Hnn := Lib.hid (nbs_in h1 h2 hn)
  have Hsy := Lib.hid (nbs_sy h1 h2 hn)
  have Hn := Lib.hid hn
  have Hbl := Lib.hid hbl
  have Hak := Lib.hid (Pa.AK.start (s := s) (n := n) hK)
  have Hss := Lib.hid (SS.nil w w.heap.size w.heap.size)
  have Hg := Lib.hid (World.grownBy.refl w (some ga))
  clear hn hbl hK
  go_enter Try.func75, Try.ntmps75
  go_wp2_with fail
  go_loopw [5, 9] (fun v i wr => ∃ (k m c' : Nat) (A' : Option Addr) (l0 : List (List Int)) (ar : List Bool), k ≤ n ∧ i = .int .i64 (k : Nat) ∧ v = .slice A' m c' ∧ SS wr w.heap.size wr.heap.size A' m c' l0 ∧ PL s n K k l0 ∧ Bl wr ga ar ∧ Pa.AK s n K k ar ∧ w.grownBy wr (some ga)) (fun _ i _ => n - (intOf i).toNat)
  case atStart => exact ⟨0, 0, 0, _, [], _, by omega, rfl, rfl, Hss.out, rfl, Hbl.out, Hak.out, Hg.out⟩
  case round =>
    clear Hss Hbl Hak Hg
    obtain ⟨wo, rfl⟩ : ∃ wo : World, wo = wr := ⟨_, rfl⟩
    obtain ⟨k, m, c', A', l0, ar, hk, rfl, rfl, hss, hpl, hbl, hak, hg⟩ := hrel
    have hz := hg.size
    have hm := hss.len
    have hm2 := hpl.small
    have hm3 : m ≤ 49 := by omega
    have Hss := Lib.hid hss
    have Hpl := Lib.hid hpl
    have Hbl := Lib.hid hbl
    have Hak := Lib.hid hak
    have Hg := Lib.hid hg
    clear hss hpl hbl hak hg hm hm2
    by_cases hkn : k < n
    · have hkI : (k : Int) < n := by omega
      have cs := Hbl.out.cell (j := k) (by rw [Hak.out.1]; exact hkn)
      rcases Bool.eq_false_or_eq_true (ar.getD k false) with hv | hv
      · have Hpf := Lib.hid ((Hak.out.first hkn).1 hv)
        have Hv := Lib.hid hv
        rw [hv] at cs
        clear hv
        go_wp2_with fail
        refine (i_takePart s k _ ga n ar h1 h2 Hn.out hkn Hv.out Hak.out.1 Hbl.out).mono ?_
        rintro e y ⟨A5, m5, c5, S, ar', rfl, ho, hS, hall, hbl, hal, har, hgt⟩
        have hzl := hgt.size
        have Hss2 : Hid (SS y w.heap.size wo.heap.size A' m c' l0) := Lib.hid (Hss.out.kept hgt (fun g e => by injection e with e; subst e; exact .inl hga))
        have Hol := Lib.hid ho
        have hSq : ∀ q : Nat, S.getD q false = true ↔ Fl.Reach s ar (k : Int) (q : Int) := fun q => by
          have h9 := hall (q : Int) (by omega)
          unfold Fl.at_ at h9
          rw [Int.toNat_natCast] at h9
          exact h9
        have Hak2 := Lib.hid (Hak.out.take Hnn.out Hsy.out hkn Hv.out hSq hal har)
        have Hrl : Hid (Reached s n K (k : Int) (Fl.pts S n)) := Lib.hid ⟨S, hS, fun y hy => (hall y hy).trans (Hak.out.reach Hnn.out hkn Hv.out y), rfl⟩
        have Hbl2 := Lib.hid hbl
        have Hg2 := Lib.hid (gtrans Hg.out hgt)
        clear ho hall hbl hal har hgt hSq cs hS
        go_wp2_with (at_builtin; refine app1S rfl _ _ rfl _ _ _ _ _ _ _ _ _ _ _ _ rfl rfl rfl Hss2.out Hol.out (by omega) (by omega) (by omega) ?_; intro A6 c6 w6 hss6 hlt6 hb6 hg6)
        have Hss6 := Lib.hid hss6
        have Hbl6 := Lib.hid (Hbl2.out.grown hg6 (fun e => by
          obtain ⟨_, _, vs, ra, rn, rc, _, a4, _⟩ := Hss2.out
          have := (World.ownsRow.lt a4 ga e.symm).1
          omega))
        have Hg6 := Lib.hid (gbel Hg2.out hb6)
        clear hss6 hb6 hg6
        go_roundw
        case rel => exact ⟨k + 1, _, _, _, _, _, by omega, by go_num, rfl, Hss6.out, ⟨_, Hpl.out, .inl ⟨Hpf.out, _, Hrl.out, rfl⟩⟩, Hbl6.out, Hak2.out, Hg6.out⟩
        case measure => simp [intOf]; omega
      · have Hpf : Hid (¬ Pa.PF s K k) := Lib.hid (fun h => by rw [(Hak.out.first hkn).2 h] at hv; cases hv)
        have Hak2 := Lib.hid (Hak.out.skip Hnn.out Hsy.out hkn hv)
        rw [hv] at cs
        clear hv
        go_wp2_with fail
        go_roundw
        case rel => exact ⟨k + 1, _, _, _, _, _, by omega, by go_num, rfl, Hss.out, ⟨_, Hpl.out, .inr ⟨Hpf.out, rfl⟩⟩, Hbl.out, Hak2.out, Hg.out⟩
        case measure => simp [intOf]; omega
    · have hkn2 : k = n := by omega
      have Hpn : Hid (PL s n K n l0) := Lib.hid (by have h9 := Hpl.out; rw [hkn2] at h9; exact h9)
      clear hkn2
      go_wp2_with fail
      go_ret
      exact ⟨_, _, _, _, rfl, Hss.out, Hpn.out, Hg.out⟩
end Go.Proofs.Ytkjlcokbgpnejaa
