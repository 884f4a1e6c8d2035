/-
  FormatBoard in both packages: for every board (the program's: where the row's capacity is not below its length, as Go's always is).
-/
import Derived.Test.YtmddkifadknlfaaFmtS
import Derived.Test.YtmddkifadknlfaaBoardX
import Derived.Test.YtmddkifadknlfaaSpecVB
import Derived.Test.YtmddkifadknlfaaBuild
import Derived.Test.YtmddkifadknlfaaShelf
namespace Go.Proofs.Ytmddkifadknlfaa
set_option maxRecDepth 100000
open Go.RowKit

/-- What FormatBoard answers. -/
def fmtB (s : Int) (cs : List Int) : ByteArray := if Bd.okB s cs then strOfNums (Fm.fmt s.toNat cs) else ⟨#[]⟩

theorem bytes_of (xs : List Int) (h : ∀ x ∈ xs, 0 ≤ x ∧ x ≤ 255) : Lib.byteCells (xs.map fun n => UInt8.ofNat n.toNat) = xs.map (Value.int .u8) := by
  unfold Lib.byteCells
  rw [List.map_map]
  refine List.map_congr_left fun x hx => ?_
  have := h x hx
  have e : (UInt8.ofNat x.toNat).toNat = x.toNat := by simp; omega
  show Value.int .u8 ((UInt8.ofNat x.toNat).toNat : Int) = Value.int .u8 x
  rw [e]
  congr 1
  omega
theorem fmt_bytes (s : Nat) (cs : List Int) : ∀ x ∈ Fm.fmt s cs, 0 ≤ x ∧ x ≤ 255 := by
  intro x hx
  unfold Fm.fmt at hx
  obtain ⟨i, _, rfl⟩ := List.mem_map.1 hx
  have := Fm.at_bd s cs i
  omega

set_option maxRecDepth 100000 in
set_option maxHeartbeats 4000000 in
theorem i_FormatV (k : Nat) (w : World) (B : Nat) (A : Option Addr) (n c : Nat) (cs : List Int) (h : Ints w B A n cs) (hB : B ≤ w.heap.size) (hc : n ≤ c) (hc2 : c ≤ 9223372036854775807) (hv : Bd.okB (k : Int) cs = true) :
    Calls Try.prog 8 #[.agg #[.int .i64 (k : Nat), .slice A n c]] w fun e w' => e = .returned (.string (strOfNums (Fm.fmt k cs))) ∧ Below w.heap.size w w' := by
  obtain ⟨q1, q2, q3, q4⟩ := (Bd.okB_iff (k : Int) cs).1 hv
  have hl := h.1
  have hsq := Pt.sq_bd (k : Int) q1 q2
  have hnk : n = k * k := by
    have : (n : Int) = ((k * k : Nat) : Int) := by rw [← hl]; push_cast; exact q3
    exact_mod_cast this
  have hn49 : n ≤ 49 := by omega
  have hk1 : 1 ≤ k := by omega
  have hk7 : k ≤ 7 := by omega
  obtain ⟨b0, o0, rfl, hbB, hcc⟩ : ∃ b o, A = some ⟨b, o, none⟩ ∧ b < B ∧ ∀ j, j < n → w.cell? ⟨b, o + j, none⟩ = some (.int .i64 (cs.getD j 0)) := by
    rcases h.2 with h0 | ⟨b, o, hA, hbB, hc⟩
    · exfalso
      have := Nat.mul_le_mul hk1 hk1
      omega
    · exact ⟨b, o, hA, hbB, hc⟩
  have hok : ∀ j, j < n → 0 ≤ cs.getD j 0 ∧ cs.getD j 0 ≤ 2 := fun j hj => by
    have hj' : j < cs.length := by omega
    rw [List.getD_eq_getElem?_getD, List.getElem?_eq_getElem hj']
    exact q4 _ (List.getElem_mem hj')
  have hb1 : Below w.heap.size w (w.alloc (.cells #[.int .i64 (k : Nat), .slice (some ⟨b0, o0, none⟩) n c] 25)) := (Below.refl _ _).alloc (Nat.le_refl _) _
  have X0 := Lib.hid (Bx.new 25 w (k : Nat) (.slice (some ⟨b0, o0, none⟩) n c))
  have H := Lib.hid (h.below hb1 hB)
  have Hb := Lib.hid hb1
  have Hcc := Lib.hid hcc
  have Hok := Lib.hid hok
  have Hv := Lib.hid hv
  have Hnk := Lib.hid hnk
  have HL := Lib.hid hl
  clear h hb1 hcc hok hv hnk hl q3 q4
  go_enter Try.func8, Try.ntmps8
  go_wp2_with fail
  refine (i_validBoard _ _ _ _ _ _ _ H.out (by simp; omega) (by omega)).mono ?_
  rintro e y ⟨rfl, hb⟩
  rw [Hv.out]
  have X0 := Lib.hid (X0.out.below hb X0.out.lt)
  have Hb := Lib.hid (Hb.out.trans (hb.mono (by simp)))
  have hzy := X0.out.lt
  clear hb H
  have u0 := X0.out.cell0
  have u1 := X0.out.cell1
  go_wp2_with fail
  have hbw := Bu.new y
  have X0 := Lib.hid (X0.out.alloc (.cells #[.pointer none, .slice none 0 0] 43))
  have Hb := Lib.hid (Hb.out.alloc (by omega) (.cells #[.pointer none, .slice none 0 0] 43))
  obtain ⟨g, hg⟩ : ∃ g, y.heap.size = g := ⟨_, rfl⟩
  obtain ⟨y1, hy1⟩ : ∃ y1, y1 = y.alloc (.cells #[.pointer none, .slice none 0 0] 43) := ⟨_, rfl⟩
  have hz1 : g < y1.heap.size := by rw [hy1, ← hg]; simp
  rw [← hy1, hg] at hbw
  rw [← hy1] at X0 Hb
  rw [hg, ← hy1]
  rw [hg] at hzy
  have HB := Lib.hid hbw
  clear hbw hy1 hg u0 u1
  have HW := Lib.hid (Below.refl g y1)
  go_loopw [4] (fun v wr => ∃ (q : Int) (r : Nat), q = (k : Int) - 1 - r ∧ r ≤ k ∧ v = .int .i64 q ∧ Bu wr g g ((Fm.fmt k cs).take (r * (k + 1))) ∧ Below g y1 wr) (fun v _ => (intOf v + 1).toNat)
  case atStart => exact ⟨_, 0, by omega, by omega, rfl, by simpa using HB.out, HW.out⟩
  case round =>
    clear HB HW
    obtain ⟨q, r, hq, hr, rfl, hbu, hbl⟩ := hrel
    have HB := Lib.hid hbu
    have HW := Lib.hid hbl
    have X1 := Lib.hid (X0.out.below hbl (by omega))
    have hzr := hbl.size
    have u0 := X1.out.cell0
    have u1 := X1.out.cell1
    clear hbu hbl
    by_cases hrk : r < k
    · obtain ⟨rk, hrkq⟩ : ∃ rk : Nat, q = rk := ⟨k - 1 - r, by omega⟩
      subst hrkq
      have hrk' : rk = k - 1 - r := by omega
      obtain ⟨m, hm⟩ : ∃ m, rk * k = m := ⟨_, rfl⟩
      have hmk : m + k ≤ n := by
        rw [Hnk.out, ← hm]
        have : (rk + 1) * k ≤ k * k := Nat.mul_le_mul_right k (by omega)
        rw [Nat.add_mul, Nat.one_mul] at this
        exact this
      have e1 : (rk : Int) * (k : Int) = (m : Int) := by rw [← hm]; push_cast; rfl
      have e2 : ((rk : Int) + 1) * (k : Int) = (m : Int) + k := by rw [Int.add_mul, Int.one_mul, e1]
      have hlo : (m : Int) ≤ (m : Int) + k := by omega
      have hhi : (m : Int) + k ≤ c := by omega
      have Hm := Lib.hid hm
      have Hrk := Lib.hid hrk'
      have hq0 : (0 : Int) ≤ (rk : Int) := by omega
      have hrk6 : rk ≤ 6 := by omega
      have e3 : m + k - m = k := by omega
      obtain ⟨Q, hQ⟩ : ∃ Q, r * (k + 1) = Q := ⟨_, rfl⟩
      have hQL : Q + (k + 1) ≤ k * (k + 1) := by
        have : (r + 1) * (k + 1) ≤ k * (k + 1) := Nat.mul_le_mul_right (k + 1) (by omega)
        rw [Nat.add_mul, Nat.one_mul, hQ] at this
        exact this
      have hL56 : k * (k + 1) ≤ 56 := by
        have : k * (k + 1) ≤ 7 * 8 := Nat.mul_le_mul hk7 (by omega)
        omega
      rw [hQ] at HB
      have hat : ∀ i, i < k → Fm.at_ k cs (Q + i) = Fm.let_ (cs.getD (m + i) 0) := fun i hi => by rw [← hQ, Fm.at_rc cs hi, ← hrk', hm]
      have hend : Fm.at_ k cs (Q + k) = 47 := by rw [← hQ]; exact Fm.at_end cs
      have Hat := Lib.hid hat
      have Hend := Lib.hid hend
      have HQ := Lib.hid hQ
      have Hq := Lib.hid hq
      clear hm hrk' hq hat hend hQ
      go_wp2_with fail
      rw [e3]
      clear e3
      go_loopw [30] (fun v wi => ∃ i : Nat, i ≤ k ∧ v = .int .i64 (i : Nat) ∧ Bu wi g g ((Fm.fmt k cs).take (Q + i)) ∧ Below g y1 wi) (fun v _ => k - (intOf v).toNat)
      case atStart => exact ⟨0, by omega, rfl, by simpa using HB.out, HW.out⟩
      case round =>
        clear HB HW u0 u1 X1
        obtain ⟨i, hi, rfl, hbu, hbl⟩ := hrel
        have HB := Lib.hid hbu
        have HW := Lib.hid hbl
        have X1 := Lib.hid (X0.out.below hbl (by omega))
        have hzi := hbl.size
        have u0 := X1.out.cell0
        have u1 := X1.out.cell1
        have hlen : ((Fm.fmt k cs).take (Q + i)).length ≤ 1000000 := by rw [List.length_take, Fm.fmt_len]; omega
        have HLen := Lib.hid hlen
        clear hlen
        by_cases hik : i < k
        · have hiI : (i : Int) < k := by omega
          have hcl : ∀ w9, Below g y1 w9 → w9.cell? ⟨b0, o0 + m + i, none⟩ = some (.int .i64 (cs.getD (m + i) 0)) := fun w9 hb9 => by
            have h1 := Hcc.out (m + i) (by omega)
            have h2 := (Hb.out.cell (p := ⟨b0, o0 + (m + i), none⟩) (by show b0 < _; omega)).trans h1
            have h3 := (hb9.cell (p := ⟨b0, o0 + (m + i), none⟩) (by show b0 < _; omega)).trans h2
            rw [Nat.add_assoc]
            exact h3
          have ck := hcl _ hbl
          have hx := Hok.out (m + i) (by omega)
          have ht := Fm.fmt_take (s := k) (cs := cs) (i := Q + i) (by omega)
          rw [Hat.out i hik] at ht
          obtain ⟨x, hxe⟩ : ∃ x, cs.getD (m + i) 0 = x := ⟨_, rfl⟩
          rw [hxe] at ck hx ht
          have Ht := Lib.hid ht
          clear hcl hxe ht hbu hbl
          rcases let_of hx.1 hx.2 with ⟨rfl, hl⟩ | ⟨rfl, hl⟩ | ⟨rfl, hl⟩
          all_goals
            rw [hl] at Ht
            clear hl hx
            go_wp2_with fail
            refine (g_writeByte g g _ _ _ HB.out HLen.out (by omega)).mono ?_
            rintro e wj ⟨rfl, hbu, hbl⟩
            have HB9 := Lib.hid hbu
            have HW9 := Lib.hid (HW.out.trans hbl)
            clear hbu hbl
            go_wp2_with fail
            go_roundw
            case rel => exact ⟨i + 1, by omega, by go_num, by rw [← Nat.add_assoc, Ht.out]; exact HB9.out, HW9.out⟩
            case measure => simp [intOf]; omega
        · have hik' : i = k := by omega
          have ht := Fm.fmt_take (s := k) (cs := cs) (i := Q + k) (by omega)
          rw [Hend.out] at ht
          have Ht := Lib.hid ht
          have HB : Hid (Bu wr g g ((Fm.fmt k cs).take (Q + k))) := Lib.hid (by have h9 := hbu; rw [hik'] at h9; exact h9)
          have HLen : Hid (((Fm.fmt k cs).take (Q + k)).length ≤ 1000000) := Lib.hid (by have h9 := HLen.out; rw [hik'] at h9; exact h9)
          have hiI : ¬ (i : Int) < k := by omega
          clear ht hbu hbl hik'
          go_wp2_with fail
          refine (g_writeByte g g _ _ _ HB.out HLen.out (by omega)).mono ?_
          rintro e wj ⟨rfl, hbu, hbl⟩
          have HB9 := Lib.hid hbu
          have HW9 := Lib.hid (HW.out.trans hbl)
          clear hbu hbl
          go_wp2_with fail
          go_roundw
          case rel => exact ⟨_, r + 1, by have := Hq.out; omega, by omega, rfl, by
            have e9 : (r + 1) * (k + 1) = Q + k + 1 := by have h9 := HQ.out; rw [Nat.add_mul, Nat.one_mul, h9, Nat.add_assoc]
            rw [e9, Ht.out]
            exact HB9.out, HW9.out⟩
          case measure => simp [intOf]
    · have hrk' : r = k := by omega
      have hq1 : q = -1 := by omega
      have hfull : (Fm.fmt k cs).take (r * (k + 1)) = Fm.fmt k cs := by rw [hrk']; exact List.take_of_length_le (by rw [Fm.fmt_len]; exact Nat.le_refl _)
      have hlib := HB.out.lib
      rw [hfull, ← bytes_of _ (fmt_bytes k cs)] at hlib
      have HLib := Lib.hid hlib
      subst hq1
      clear hlib hfull hrk' hq
      go_wp2_with fail
      refine (Try.Builder_String_any g g _ _ HLib.out (by omega)).mono ?_
      rintro e w9 ⟨rfl, hb9⟩
      have Hf := Lib.hid (Hb.out.trans ((HW.out.trans hb9).mono (by omega)))
      clear hb9
      go_wp2_with fail
      go_ret
      exact ⟨rfl, Hf.out⟩
end Go.Proofs.Ytmddkifadknlfaa
