/-
  HotScore of both packages: the sum over the order, the players in turn.
-/
import Derived.Test.YtjolappndbmmaaaHoM
namespace Go.Proofs.Ytjolappndbmmaaa
set_option maxRecDepth 100000
open Go.RowKit

def Ho.cnt (ls : List (Int × Int)) (left : Bool) (i : Int) : Int := if left = true then (ls.getD i.toNat (0, 0)).1 else (ls.getD i.toNat (0, 0)).2
def Ho.turn (left : Bool) (k : Nat) : Bool := if k % 2 = 0 then left else !left
/-- What the first k of an order count. -/
def Ho.part (ls : List (Int × Int)) (left : Bool) (d : List Int) : Nat → Int
  | 0 => 0
  | k + 1 => Ho.part ls left d k + Ho.cnt ls (Ho.turn left k) (d.getD k 0)
theorem Ho.turn_next (left : Bool) (k : Nat) : Ho.turn left (k + 1) = !Ho.turn left k := by
  unfold Ho.turn
  rcases Nat.mod_two_eq_zero_or_one k with h | h
  · rw [if_neg (by omega), if_pos h]
  · rw [if_pos (by omega), if_neg (by omega), Bool.not_not]
theorem Ho.get {H : Int → Int} {n k : Nat} {d : List Int} (h : Ho.Ord H n d) (hk : k < n) : ∃ i : Nat, d.getD k 0 = (i : Int) ∧ i < n := by
  have hl : k < d.length := by rw [h.len]; exact hk
  have hm : d[k] ∈ d := List.getElem_mem hl
  obtain ⟨h1, h2⟩ := h.mem.1 hm
  obtain ⟨i, hi⟩ := Int.eq_ofNat_of_zero_le h1
  refine ⟨i, ?_, by omega⟩
  rw [List.getD_eq_getElem?_getD, List.getElem?_eq_getElem hl]
  exact hi
theorem Ho.cnt_bd {ls : List (Int × Int)} {i : Nat} (h : Sw.all ls = true) (hi : i < ls.length) (b : Bool) : -99 ≤ Ho.cnt ls b (i : Int) ∧ Ho.cnt ls b (i : Int) ≤ 99 := by
  have := Sw.ok_iff.1 (Sw.all_iff.1 h i hi)
  unfold Ho.cnt
  rw [Int.toNat_natCast]
  split <;> omega
theorem Ho.part_bd {ls : List (Int × Int)} {left : Bool} {d : List Int} {n : Nat} (h : Sw.all ls = true) (hl : ls.length = n) (hd : Ho.Ord (Ho.heat ls) n d) : ∀ k, k ≤ n → -99 * (k : Int) ≤ Ho.part ls left d k ∧ Ho.part ls left d k ≤ 99 * (k : Int)
  | 0, _ => by simp [Ho.part]
  | k + 1, hk => by
    have ih := Ho.part_bd (left := left) h hl hd k (by omega)
    obtain ⟨i, hi, hin⟩ := Ho.get hd (show k < n by omega)
    have hc := Ho.cnt_bd h (show i < ls.length by omega) (Ho.turn left k)
    rw [Ho.part, hi]
    omega
/-- What HotScore answers. -/
def HsIs (ls : List (Int × Int)) (left : Bool) (n : Nat) (v : Int) (b : Bool) : Prop :=
  ((decide (n ≤ 6) && Sw.all ls) = true → b = true ∧ ∃ d, Ho.Ord (Ho.heat ls) n d ∧ v = Ho.part ls left d n) ∧ ((decide (n ≤ 6) && Sw.all ls) = false → b = false ∧ v = 0)
theorem HsIs.one {ls : List (Int × Int)} {left : Bool} {n : Nat} {v v' : Int} {b b' : Bool} (h : HsIs ls left n v b) (h' : HsIs ls left n v' b') : v = v' ∧ b = b' := by
  cases hv : (decide (n ≤ 6) && Sw.all ls) with
  | true =>
    obtain ⟨rfl, d, hd, rfl⟩ := h.1 hv
    obtain ⟨rfl, d', hd', rfl⟩ := h'.1 hv
    rw [hd.one hd']
    exact ⟨rfl, rfl⟩
  | false =>
    obtain ⟨rfl, rfl⟩ := h.2 hv
    obtain ⟨rfl, rfl⟩ := h'.2 hv
    exact ⟨rfl, rfl⟩
/-- How HotScore ends. -/
def HsPost (ls : List (Int × Int)) (left : Bool) (n : Nat) (w : World) (e : Ending) (w' : World) : Prop := ∃ v b, e = .returned (.tuple #[.int .i64 v, .bool b]) ∧ HsIs ls left n v b ∧ Below w.heap.size w w'
theorem i_counts (l r : Int) (b : Bool) (w : World) : Calls Try.prog 66 #[.agg #[.int .i64 l, .int .i64 r], .bool b] w fun e w' => e = .returned (.int .i64 (if b = true then l else r)) ∧ Below w.heap.size w w' := by
  cases b
  · go_enter Try.func66, Try.ntmps66
    go_wp2
    go_ret
    exact ⟨rfl, (Below.refl _ _).alloc (Nat.le_refl _) _⟩
  · go_enter Try.func66, Try.ntmps66
    go_wp2
    go_ret
    exact ⟨rfl, (Below.refl _ _).alloc (Nat.le_refl _) _⟩

set_option maxRecDepth 100000 in
set_option maxHeartbeats 4000000 in
theorem i_hotScore (w : World) (B : Nat) (A : Option Addr) (n c : Nat) (ls : List (Int × Int)) (left : Bool) (h : Sws w B A n ls) (hB : B ≤ w.heap.size) (hn : n ≤ 1048576) :
    Calls Try.prog 36 #[.slice A n c, .bool left] w fun e w' => HsPost ls left n w e w' := by
  have H := Lib.hid h
  have hln := h.1
  clear h
  go_enter Try.func36, Try.ntmps36
  go_wp2_with fail
  refine (i_vsw w B A n c ls H.out hn).mono ?_
  rintro e y ⟨rfl, hb⟩
  have HS := Lib.hid (H.out.below hb)
  have Hb := Lib.hid hb
  have hzy := hb.size
  clear hb
  by_cases hv : (decide (n ≤ 6) && Sw.all ls) = true
  · rw [hv]
    have hv2 := hv
    rw [Bool.and_eq_true, decide_eq_true_eq] at hv2
    obtain ⟨h6, hall⟩ := hv2
    have Hv := Lib.hid hv
    have Hall := Lib.hid hall
    clear hv hall
    go_wp2_with fail
    refine (i_hot y B A n c ls HS.out (by omega) hn).mono ?_
    rintro e y2 ⟨A1, m, c1, d, rfl, hd, ho, hb2⟩
    have hd2 := hd.1 Hv.out
    have hdl := hd2.len
    have hom := ho.1
    obtain rfl : m = n := by omega
    have Hd := Lib.hid hd2
    have Ho1 := Lib.hid (Own.weaken ho (B' := w.heap.size) (by omega))
    have Hb2 := Lib.hid (Hb.out.trans (hb2.mono (by omega)))
    clear hd hd2 ho hb2
    go_wp2_with fail
    go_loopg [1, 6, 15] (m + 1) (fun q v1 v6 v15 wr => ∃ k : Nat, k + q = m + 1 ∧ k ≤ m ∧ v1 = .bool (Ho.turn left k) ∧ v6 = .int .i64 (Ho.part ls left d k) ∧ v15 = .int .i64 (k : Nat) ∧ Own wr w.heap.size A1 m c1 d ∧ Below w.heap.size w wr)
    case atStart => exact ⟨0, by omega, by omega, rfl, rfl, rfl, Ho1.out, Hb2.out⟩
    case round =>
      clear Ho1 Hb2
      obtain ⟨k, hk, hkn, rfl, rfl, rfl, ho, hb⟩ := hrel
      obtain ⟨wi, rfl⟩ : ∃ wi : World, wi = wr := ⟨_, rfl⟩
      have HO := Lib.hid ho
      have HB9 := Lib.hid hb
      have Hsw := Lib.hid (H.out.below hb)
      clear ho hb
      by_cases hkk : k = m
      · have hlt : ¬ ((k : Nat) : Int) < m := by omega
        subst hkk
        go_wp2_with fail
        go_ret2
        exact ⟨_, _, rfl, ⟨fun _ => ⟨rfl, d, Hd.out, rfl⟩, fun hf => absurd (Hv.out.symm.trans hf) (by decide)⟩, HB9.out⟩
      · have hlt : ((k : Nat) : Int) < m := by omega
        have hk0 : (0 : Int) ≤ (k : Nat) := by omega
        obtain ⟨g, rfl⟩ : ∃ g, A1 = some ⟨g, 0, none⟩ := by
          obtain ⟨g, cap, hvv, _⟩ := World.ownsRow.form HO.out.2 (by omega)
          exact ⟨g, by injection hvv⟩
        obtain ⟨i, hi, him⟩ := Ho.get Hd.out (show k < m by omega)
        have ck : wi.cell? ⟨g, k, none⟩ = some (.int .i64 (i : Nat)) := by
          rw [World.ownsRow.cellAt HO.out.2 k (by omega)]
          simp [List.getElem?_eq_getElem (show k < d.length by omega)]
          rw [List.getD_eq_getElem?_getD, List.getElem?_eq_getElem (show k < d.length by omega)] at hi
          exact hi
        rcases Hsw.out.2 with h0 | ⟨b, o, rfl, hbB, hc⟩
        · omega
        · obtain ⟨c0, c1'⟩ := hc i him
          obtain ⟨⟨l, r⟩, hlr⟩ : ∃ x, ls.getD i (0, 0) = x := ⟨_, rfl⟩
          rw [hlr] at c0 c1'
          simp only at c0 c1'
          have hin : ((i : Nat) : Int) < m := by omega
          have hi0 : (0 : Int) ≤ (i : Nat) := by omega
          obtain ⟨P, hP⟩ : ∃ P, Ho.part ls left d k = P := ⟨_, rfl⟩
          obtain ⟨C, hC⟩ : ∃ C, (if Ho.turn left k = true then l else r) = C := ⟨_, rfl⟩
          have hcnt : Ho.cnt ls (Ho.turn left k) (d.getD k 0) = C := by rw [hi, Ho.cnt, Int.toNat_natCast, hlr]; exact hC
          have hPb := Ho.part_bd (left := left) Hall.out hln Hd.out k (by omega)
          rw [hP] at hPb
          obtain ⟨hp1, hp2⟩ := hPb
          have hcb := Ho.cnt_bd Hall.out (show i < ls.length by omega) (Ho.turn left k)
          rw [← hi, hcnt] at hcb
          obtain ⟨hc1, hc2⟩ := hcb
          have Hnext := Lib.hid (show Ho.part ls left d (k + 1) = P + C by rw [Ho.part, hP, hcnt])
          have Htn := Lib.hid (Ho.turn_next left k)
          have HC := Lib.hid hC
          obtain ⟨T, hT⟩ : ∃ T, Ho.turn left k = T := ⟨_, rfl⟩
          rw [hT] at Htn HC
          rw [hP, hT]
          clear hc hP hC hcnt hlr hi
          go_wp2_with fail
          refine (i_counts l r T _).mono ?_
          rintro e w5 ⟨rfl, hb5⟩
          rw [HC.out]
          have HO5 := Lib.hid (HO.out.below hb5)
          have HB5 := Lib.hid (bstep HB9.out hb5)
          clear hb5
          go_wp2_with fail
          go_roundg (m - k)
          case measure => omega
          case rel => exact ⟨k + 1, by omega, by omega, by rw [Htn.out], by rw [Hnext.out], by go_num, HO5.out, HB5.out⟩
  · have hv' : (decide (n ≤ 6) && Sw.all ls) = false := by simpa using hv
    rw [hv']
    have Hv := Lib.hid hv'
    clear hv hv'
    go_wp2_with fail
    go_ret2
    exact ⟨_, _, rfl, ⟨fun hf => absurd (Hv.out.symm.trans hf) (by decide), fun _ => ⟨rfl, rfl⟩⟩, Hb.out⟩
end Go.Proofs.Ytjolappndbmmaaa
