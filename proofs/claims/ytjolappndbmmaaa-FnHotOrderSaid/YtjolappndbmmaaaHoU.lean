/-
  HotOrder of the program: the indices of valid switches in their order, or nil.
-/
import Derived.Test.YtjolappndbmmaaaHoT
namespace Go.Proofs.Ytjolappndbmmaaa
set_option maxRecDepth 100000
open Go.RowKit

def Ho.heat (ls : List (Int × Int)) (k : Int) : Int := (ls.getD k.toNat (0, 0)).1 - (ls.getD k.toNat (0, 0)).2
/-- What HotOrder answers. -/
def HotIs (ls : List (Int × Int)) (n : Nat) (d : List Int) : Prop := ((decide (n ≤ 6) && Sw.all ls) = true → Ho.Ord (Ho.heat ls) n d) ∧ ((decide (n ≤ 6) && Sw.all ls) = false → d = [])
theorem HotIs.one {ls : List (Int × Int)} {n : Nat} {d d' : List Int} (h : HotIs ls n d) (h' : HotIs ls n d') : d = d' := by
  cases hv : (decide (n ≤ 6) && Sw.all ls) with
  | true => exact (h.1 hv).one (h'.1 hv)
  | false => rw [h.2 hv, h'.2 hv]

set_option maxRecDepth 100000 in
set_option maxHeartbeats 4000000 in
theorem i_hot (w : World) (B : Nat) (A : Option Addr) (n c : Nat) (ls : List (Int × Int)) (h : Sws w B A n ls) (hB : B ≤ w.heap.size) (hn : n ≤ 1048576) :
    Calls Try.prog 23 #[.slice A n c] w fun e w' => ∃ A' m c' d, e = .returned (.slice A' m c') ∧ HotIs ls n d ∧ Own w' w.heap.size A' m c' d ∧ Below w.heap.size w w' := by
  have H := Lib.hid h
  have hln := h.1
  clear h
  have hb1 : Below w.heap.size w (w.alloc (.cells #[.slice A n c] 31)) := (Below.refl _ _).alloc (Nat.le_refl _) _
  obtain ⟨y, hy⟩ : ∃ y, w.alloc (.cells #[.slice A n c] 31) = y := ⟨_, rfl⟩
  have hyz : y.heap.size = w.heap.size + 1 := by rw [← hy]; simp
  have hyc : y.cell? ⟨w.heap.size, 0, none⟩ = some (.slice A n c) := by
    have hh : y.heap[w.heap.size]? = some (.cells #[.slice A n c] 31 (0, 0)) := by rw [← hy]; exact heap_alloc_new w _
    simp [World.cell?, hh]
  rw [hy] at hb1
  have Hy := Lib.hid hy
  have Hb1 := Lib.hid hb1
  have HS := Lib.hid (H.out.below hb1)
  clear hy hb1
  go_enter Try.func23, Try.ntmps23
  go_wp2_with fail
  rw [Hy.out]
  go_wp2_with fail
  refine (i_vsw y B A n c ls HS.out hn).mono ?_
  rintro e y2 ⟨rfl, hb2⟩
  have hyc := cell_below hyc hb2
  have HS2 := Lib.hid (HS.out.below hb2)
  have hz2 := hb2.size
  have Hb2 := Lib.hid (Hb1.out.trans (hb2.mono (by omega)))
  clear hb2
  by_cases hv : (decide (n ≤ 6) && Sw.all ls) = true
  · rw [hv]
    have hv2 := hv
    rw [Bool.and_eq_true, decide_eq_true_eq] at hv2
    obtain ⟨h6, hall⟩ := hv2
    have Hv := Lib.hid hv
    have Hall := Lib.hid hall
    clear hv hall
    go_wp2_with fail
    go_loopg [3, 10] (n + 1) (fun q v u wr => ∃ (k : Nat) (A1 : Option Addr) (c1 : Nat), k + q = n + 1 ∧ k ≤ n ∧ v = .slice A1 k c1 ∧ u = .int .i64 (k : Nat) ∧ (k = 0 → A1 = none) ∧ Own wr y2.heap.size A1 k c1 (Ho.rng k) ∧ Below y2.heap.size y2 wr)
    case atStart => exact ⟨0, none, 0, by omega, by omega, rfl, rfl, fun _ => rfl, Own.nil _ _, Below.refl _ _⟩
    case round =>
      obtain ⟨k, A1, c1, hk, hkn, rfl, rfl, hA0, ho, hb⟩ := hrel
      obtain ⟨wi, rfl⟩ : ∃ wi : World, wi = wr := ⟨_, rfl⟩
      have Ho1 := Lib.hid ho
      have Hb := Lib.hid hb
      have hzi := hb.size
      clear ho hb
      by_cases hkk : k = n
      · have hlt : ¬ ((k : Nat) : Int) < n := by omega
        subst hkk
        have hmf : ∀ (fn : Fn) (first cap : Array Value) (w : World), (Instr.makeFunc fn first cap).run Try.prog w = .ok (.func fn first cap) w := fun _ _ _ _ => rfl
        by_cases hk0 : k = 0
        · subst hk0
          obtain rfl : A1 = none := hA0 rfl
          have Ho3 := Lib.hid (Own.weaken Ho1.out (B' := w.heap.size) (by omega))
          have Hb3 := Lib.hid (Hb2.out.trans (Hb.out.mono (by omega)))
          go_wp2_with fail
          refine (i_sortStableN wi c1 _).mono ?_
          rintro e w3 ⟨rfl, rfl⟩
          go_wp2_with fail
          go_ret
          exact ⟨_, _, _, [], rfl, ⟨fun _ => Ho.Ord.nil _, fun hf => absurd (Hv.out.symm.trans hf) (by decide)⟩, Ho3.out, Hb3.out⟩
        · have hA : ∃ g, A1 = some ⟨g, 0, none⟩ := by
            obtain ⟨g, cap, hvv, _⟩ := World.ownsRow.form Ho1.out.2 (by omega)
            exact ⟨g, by injection hvv⟩
          obtain ⟨g, rfl⟩ := hA
          have hclo : ∃ b o, A = some ⟨b, o, none⟩ ∧ b < B ∧ Clo y2 w.heap.size b o k c (Ho.heat ls) := by
            rcases HS2.out.2 with h0 | ⟨b, o, hA, hbB, hc⟩
            · omega
            · refine ⟨b, o, hA, hbB, ?_, fun j hj => ?_⟩
              · rw [← hA]; exact hyc
              · obtain ⟨c0, c1⟩ := hc j hj
                exact ⟨_, _, c0, c1, Sw.all_iff.1 Hall.out j (by omega), rfl⟩
          obtain ⟨b, o, rfl, hbB, hcl⟩ := hclo
          have Hcl := Lib.hid (hcl.below Hb.out (by omega) (by omega))
          clear hcl
          go_wp2_with fail
          refine (i_sortStable wi y2.heap.size g k c1 w.heap.size b o c (Ho.heat ls) (by omega) h6 Ho1.out Hcl.out (by omega) (by omega)).mono ?_
          rintro e w3 ⟨rfl, d, hord, ho3, hb3⟩
          have Ho3 := Lib.hid (Own.weaken ho3 (B' := w.heap.size) (by omega))
          have Hord := Lib.hid hord
          have Hb3 := Lib.hid (Hb2.out.trans ((Hb.out.trans hb3).mono (by omega)))
          clear ho3 hord hb3
          go_wp2_with fail
          go_ret
          exact ⟨_, _, _, d, rfl, ⟨fun _ => Hord.out, fun hf => absurd (Hv.out.symm.trans hf) (by decide)⟩, Ho3.out, Hb3.out⟩
      · have hlt : ((k : Nat) : Int) < n := by omega
        have hk1 : k + 1 ≤ 1000000000 := by omega
        have Hrs := Lib.hid (Ho.rng_succ k)
        go_wp2_with (at_builtin; refine app1 rfl _ _ rfl _ _ _ _ _ _ _ _ rfl rfl (by simp) Ho1.out (by omega) (by omega) ?_; intro A' c' w' hown' hb' hlt' _)
        go_roundg (n - k)
        case measure => omega
        case rel => exact ⟨k + 1, A', c', by omega, by omega, rfl, by go_num, fun h => absurd h (by omega), by rw [Hrs.out]; exact hown', Hb.out.trans (hb'.mono (by omega))⟩
  · have hv' : (decide (n ≤ 6) && Sw.all ls) = false := by simpa using hv
    rw [hv']
    have Hv := Lib.hid hv'
    clear hv hv'
    go_wp2_with fail
    go_ret
    exact ⟨_, _, _, [], rfl, ⟨fun hf => absurd (Hv.out.symm.trans hf) (by decide), fun _ => rfl⟩, Own.nil _ _, Hb2.out⟩
end Go.Proofs.Ytjolappndbmmaaa
