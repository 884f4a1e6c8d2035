/-
  The model's 'formatBoard'.
-/
import Derived.Test.YteldfjibmaigiaaDoorWordsU
import Derived.Test.YteldfjibmaigiaaDoorFmtP
import Derived.Test.YteldfjibmaigiaaDoorRows2
import Derived.Test.YteldfjibmaigiaaDoorPlayP
import Derived.Laws.BytesArg
namespace Go.Proofs.YteldfjibmaigiaaDoor
set_option maxRecDepth 100000
open Go.RowKit

theorem OwU.head {w : World} {B n c : Nat} {A : Option Addr} {xs : List Int} (h : OwU w B A n c xs) (hn : 0 < n) : ∃ g, A = some ⟨g, 0, none⟩ ∧ B ≤ g ∧ ∀ j, j < n → w.cell? ⟨g, 0 + j, none⟩ = some (.int .u8 (xs.getD j 0)) := by
  obtain ⟨g, cap, hv, hg, hlt⟩ := World.ownsRow.form h.2 hn
  have hA : A = some ⟨g, 0, none⟩ := by injection hv
  subst hA
  refine ⟨g, rfl, hg, fun j hj => ?_⟩
  have hj' : j < xs.length := by have := h.1; omega
  have := World.ownsRow.cells h.2 (g := g) rfl j (.int .u8 (xs.getD j 0)) (by simp [List.getElem?_eq_getElem hj', List.getD_eq_getElem?_getD])
  have e : (⟨g, 0, none⟩ : Addr).add j = ⟨g, 0 + j, none⟩ := by by_cases hj0 : j = 0 <;> simp [Addr.add, hj0]
  rw [e] at this
  exact this

theorem let_of {c : Int} (h0 : 0 ≤ c) (h2 : c ≤ 2) : (c = 0 ∧ Fm.let_ c = 46) ∨ (c = 1 ∧ Fm.let_ c = 88) ∨ (c = 2 ∧ Fm.let_ c = 79) := by
  have : c = 0 ∨ c = 1 ∨ c = 2 := by omega
  rcases this with rfl | rfl | rfl <;> decide

set_option maxRecDepth 100000 in
set_option maxHeartbeats 4000000 in
theorem s_formatBoard (s : Nat) (w : World) (B : Nat) (A : Option Addr) (n c : Nat) (cs : List Int) (h : Ints w B A n cs) (hB : B ≤ w.heap.size) (h1 : 1 ≤ s) (h2 : s ≤ 7) (hn : n = s * s) (hok : OkL cs) :
    Calls Tryd.prog 87 #[.agg #[.int .i64 (s : Nat), .slice A n c]] w fun e w' => e = .returned (.string (strOfNums (Fm.fmt s cs))) ∧ Below w.heap.size w w' := by
  have hb1 : Below w.heap.size w (w.alloc (.cells #[.int .i64 (s : Nat), .slice A n c] 25)) := (Below.refl _ _).alloc (Nat.le_refl _) _
  have x0 := Bx.new 25 w (s : Nat) (.slice A n c)
  have hi := h.below hb1 hB
  have Hl := Lib.hid h.1
  have Hn := Lib.hid hn
  have Hok := Lib.hid hok
  clear h hn hok
  go_enter Tryd.func87, Tryd.ntmps87
  go_upto_region 1 with (fail)
  obtain ⟨y, hy⟩ : ∃ y, y = w.alloc (.cells #[.int .i64 (s : Nat), .slice A n c] 25) := ⟨_, rfl⟩
  have hyz : y.heap.size = w.heap.size + 1 := by rw [hy]; simp
  rw [← hy] at x0 hi hb1 ⊢
  have X0 := Lib.hid x0
  have Hi := Lib.hid hi
  have Hb := Lib.hid hb1
  have Hyz := Lib.hid hyz
  clear hy x0 hi hb1 hyz
  have t0 := X0.out.cell0
  have t1 := X0.out.cell1
  have t2 := X0.out.lt
  go_wp2_with fail
  have Ho := Lib.hid (OwU.bare y (w.heap.size + 1) (by rw [Hyz.out]; exact Nat.le_refl _))
  have Hb2 := Lib.hid ((Below.refl (w.heap.size + 1) y).alloc (by rw [Hyz.out]; exact Nat.le_refl _) (.cells #[] 5))
  go_loopw [3, 4] (fun v3 v4 wr => ∃ k A1 n1 c1, k ≤ s ∧ v3 = .slice A1 n1 c1 ∧ v4 = .int .i64 ((s : Int) - 1 - (k : Nat)) ∧ OwU wr (w.heap.size + 1) A1 n1 c1 ((Fm.fmt s cs).take (k * (s + 1))) ∧ Below (w.heap.size + 1) y wr) (fun _ v _ => (intOf v + 1).toNat)
  case atStart => exact ⟨0, _, _, _, by omega, rfl, by simp, by simpa using Ho.out, Hb2.out⟩
  case round =>
    clear Ho Hb2 t0 t1 t2
    obtain ⟨k, A1, n1, c1, hk, rfl, rfl, ho, hb⟩ := hrel
    have X0r := Lib.hid (X0.out.below hb (by omega))
    have Hir := Lib.hid (Hi.out.below hb (by omega))
    have Ho := Lib.hid ho
    have Hbr := Lib.hid hb
    have hzr := hb.size
    clear ho hb
    have t0 := X0r.out.cell0
    have t1 := X0r.out.cell1
    have t2 := X0r.out.lt
    by_cases hks : k < s
    · obtain ⟨r, hr⟩ : ∃ r : Nat, (s : Int) - 1 - (k : Nat) = (r : Nat) := ⟨s - 1 - k, by omega⟩
      have hrs : r < s := by omega
      have hrk : r = s - 1 - k := by omega
      have hrow : r * s + s ≤ s * s := by
        have := Nat.mul_le_mul_right s (show r + 1 ≤ s by omega)
        rw [Nat.add_mul, Nat.one_mul] at this
        exact this
      have hss : s * s ≤ 49 := Nat.le_trans (Nat.mul_le_mul h2 h2) (by decide)
      have hkk : k * (s + 1) + (s + 1) ≤ s * (s + 1) := by
        have := Nat.mul_le_mul_right (s + 1) (show k + 1 ≤ s by omega)
        rw [Nat.add_mul, Nat.one_mul] at this
        exact this
      have hb56 : s * (s + 1) ≤ 56 := Nat.le_trans (Nat.mul_le_mul h2 (show s + 1 ≤ 8 by omega)) (by decide)
      obtain ⟨m, hm⟩ : ∃ m : Nat, r * s = m := ⟨_, rfl⟩
      have hmi : ((r : Nat) : Int) * ((s : Nat) : Int) = (m : Nat) := by rw [← hm]; simp
      have Hm := Lib.hid hm
      have Hrk := Lib.hid hrk
      have hms : m + s ≤ n := by rw [← hm, Hn.out]; exact hrow
      have hm49 : n ≤ 49 := by rw [Hn.out]; exact hss
      obtain ⟨q, hq⟩ : ∃ q : Nat, k * (s + 1) = q := ⟨_, rfl⟩
      obtain ⟨L, hL⟩ : ∃ L : Nat, s * (s + 1) = L := ⟨_, rfl⟩
      rw [hq, hL] at hkk
      rw [hL] at hb56
      have Hq := Lib.hid hq
      have HL := Lib.hid hL
      rw [hr]
      have Hr := Lib.hid hr
      clear hr hm hrk hrow hss hq hL
      go_wp2_with fail
      go_loopw [3, 5] (fun v3 v5 wq => ∃ i A2 n2 c2, i ≤ s ∧ v5 = .int .i64 (i : Nat) ∧ v3 = .slice A2 n2 c2 ∧ OwU wq (w.heap.size + 1) A2 n2 c2 ((Fm.fmt s cs).take (q + i)) ∧ Below (w.heap.size + 1) y wq) (fun _ v _ => s - (intOf v).toNat)
      case atStart => exact ⟨0, _, _, _, by omega, rfl, rfl, by rw [← Hq.out]; exact Ho.out, Hbr.out⟩
      case round =>
        clear Ho Hbr X0r Hir t0 t1 t2 hzr
        obtain ⟨i, A2, n2, c2, hi, rfl, rfl, ho, hb⟩ := hrel
        have X0q := Lib.hid (X0.out.below hb (by omega))
        have Hiq := Lib.hid (Hi.out.below hb (by omega))
        have Ho := Lib.hid ho
        have Hbq := Lib.hid hb
        have hzq := hb.size
        have hn2 : n2 ≤ 56 := by have := ho.1; rw [List.length_take, Fm.fmt_len, HL.out] at this; omega
        have hzy : w.heap.size + 1 ≤ wr.heap.size := by have := Hyz.out; omega
        clear ho hb
        have t0 := X0q.out.cell0
        have t1 := X0q.out.cell1
        have t2 := X0q.out.lt
        by_cases his : i < s
        · obtain ⟨b, o, rfl, hbB, hc⟩ : ∃ b o, A = some ⟨b, o, none⟩ ∧ b < B ∧ ∀ j, j < n → wr.cell? ⟨b, o + j, none⟩ = some (.int .i64 (cs.getD j 0)) := by
            rcases Hiq.out.2 with h0 | ⟨b, o, hA, hbB, hc⟩
            · omega
            · exact ⟨b, o, hA, hbB, hc⟩
          have hck := hc (m + i) (by omega)
          have hx02 := Hok.out (m + i) (by rw [Hl.out]; omega)
          have hta : Fm.at_ s cs (q + i) = Fm.let_ (cs.getD (m + i) 0) := by rw [← Hq.out, Fm.at_rc cs his, ← Hrk.out, Hm.out]
          obtain ⟨x, hx⟩ : ∃ x, cs.getD (m + i) 0 = x := ⟨_, rfl⟩
          rw [hx] at hck hx02 hta
          have hmi2 : (m : Int) + (i : Nat) < n := by omega
          have htk := Fm.fmt_take (cs := cs) (show q + i < s * (s + 1) by rw [HL.out]; omega)
          rw [hta] at htk
          have Htk := Lib.hid htk
          clear hx hc hta htk
          rcases let_of hx02.1 hx02.2 with ⟨rfl, hl⟩ | ⟨rfl, hl⟩ | ⟨rfl, hl⟩
          all_goals
            rw [hl] at Htk
            clear hl hx02
            go_wp2_with (at_builtin; refine appU1 rfl _ _ rfl _ _ _ _ _ _ _ _ rfl rfl rfl Ho.out hzy (by omega) ?_; intro A' c' w9 hown' hb' hlt' hgrow')
            have Ho9 := Lib.hid hown'
            have Hb9 := Lib.hid (Hbq.out.trans hb')
            clear hown' hb' hlt' hgrow'
            go_roundw
            case rel => exact ⟨i + 1, _, _, _, by omega, by go_num, rfl, by rw [← Nat.add_assoc, Htk.out]; exact Ho9.out, Hb9.out⟩
            case measure => simp [intOf]; omega
        · obtain rfl : i = s := by omega
          have hta : Fm.at_ i cs (q + i) = 47 := by rw [← Hq.out]; exact Fm.at_end cs
          have htk := Fm.fmt_take (cs := cs) (show q + i < i * (i + 1) by rw [HL.out]; omega)
          rw [hta] at htk
          have Htk := Lib.hid htk
          clear hta htk
          go_wp2_with (at_builtin; refine appU1 rfl _ _ rfl _ _ _ _ _ _ _ _ rfl rfl rfl Ho.out hzy (by omega) ?_; intro A' c' w9 hown' hb' hlt' hgrow')
          have Ho9 := Lib.hid hown'
          have Hb9 := Lib.hid (Hbq.out.trans hb')
          have He : Hid ((r : Int) - 1 = (i : Int) - 1 - ((k + 1 : Nat) : Int)) := Lib.hid (by have := Hr.out; omega)
          clear hown' hb' hlt' hgrow'
          go_roundw
          case rel => exact ⟨k + 1, _, _, _, by omega, rfl, by rw [He.out], by rw [Nat.add_mul, Nat.one_mul, Hq.out, ← Nat.add_assoc, Htk.out]; exact Ho9.out, Hb9.out⟩
          case measure => simp [intOf]
    · obtain rfl : k = s := by omega
      have hfull : (Fm.fmt k cs).take (k * (k + 1)) = Fm.fmt k cs := List.take_of_length_le (by rw [Fm.fmt_len]; exact Nat.le_refl _)
      have ho := Ho.out
      rw [hfull] at ho
      have hlen := ho.1
      rw [Fm.fmt_len] at hlen
      have hpos : 0 < n1 := by rw [← hlen]; exact Nat.mul_pos (by omega) (by omega)
      obtain ⟨g, rfl, _, hcell⟩ := ho.head hpos
      have hconv := run_convert_bytes_arg (P := Tryd.prog) wr 22 5 Tryd.underlying22 Tryd.underlying5 g 0 n1 c1 (Fm.fmt k cs) ho.1 hcell 9 Tryd.underlying9
      have he : (k : Int) - 1 - (k : Nat) = -1 := by omega
      have Hfin := Lib.hid ((Hb.out.trans (Hbr.out.mono (by omega))))
      rw [he]
      clear ho hlen hcell hfull he
      go_wp2_with fail
      go_ret
      exact ⟨rfl, Hfin.out⟩
end Go.Proofs.YteldfjibmaigiaaDoor
