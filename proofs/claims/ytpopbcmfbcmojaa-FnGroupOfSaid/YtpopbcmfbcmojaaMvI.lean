/-
  The program's lists of images and of moved cells.
-/
import Derived.Test.YtpopbcmfbcmojaaPureMv
import Derived.Test.YtpopbcmfbcmojaaImplPtB
import Derived.Test.YtpopbcmfbcmojaaInvS
namespace Go.Proofs.Ytpopbcmfbcmojaa
set_option maxRecDepth 100000
open Go.RowKit

def imgs (s k : Int) (n : Nat) : List Int := (List.range n).map fun (p : Nat) => Pt.img s k p
theorem imgs_len (s k : Int) (n : Nat) : (imgs s k n).length = n := by simp [imgs]
theorem imgs_at (s k : Int) (n j : Nat) (h : j < n) : (imgs s k n).getD j 0 = Pt.img s k j := by
  simp [imgs, List.getD_eq_getElem?_getD, h]

theorem i_imagesOf (s k : Int) (n : Nat) (w : World) (h1 : 1 ≤ s) (h2 : s ≤ 7) (hn : (n : Int) = s * s) (k1 : 0 ≤ k) (k2 : k < 8) :
    Calls Try.prog 54 #[.int .i64 s, .int .i64 k] w fun e w' => ∃ A' c', e = .returned (.slice A' n c') ∧ Own w' w.heap.size A' n c' (imgs s k n) ∧ Below w.heap.size w w' := by
  have hsq := Pt.sq_bd s h1 h2
  have hn1 : s * s ≤ n := by omega
  have hn2 : (n : Int) ≤ s * s := by omega
  have hn49 : n ≤ 49 := by omega
  have Hn := Lib.hid hn
  clear hn
  go_enter Try.func54, Try.ntmps54
  go_wp2_with (at_make; refine make0 rfl _ rfl _ w.heap.size _ n rfl (by omega) (by omega) (Nat.le_refl _) ?_; intro w1 hown hb hlt)
  have Ho := Lib.hid hown
  have Hb := Lib.hid hb
  clear hown hb
  go_loopw [13] (fun i wr => ∃ j : Nat, j ≤ n ∧ i = .int .i64 j ∧ Own wr w.heap.size (some ⟨w.heap.size, 0, none⟩) n n ((imgs s k n).take j ++ List.replicate (n - j) 0) ∧ Below w.heap.size w wr) (fun i _ => n - (intOf i).toNat)
  case atStart => exact ⟨0, by omega, rfl, by simpa using Ho.out, Hb.out⟩
  case round =>
    clear Ho Hb
    obtain ⟨j, hj, rfl, ho, hb⟩ := hrel
    by_cases hjn : j < n
    · have htr := Pt.tr_in s k j h1 h2 (by omega) (by omega) k1 k2
      have Ht := Lib.hid htr
      have Ho := Lib.hid ho
      have Hb := Lib.hid hb
      have hzr := hb.size
      clear htr ho hb
      go_wp2_with fail
      refine (i_tr _ _ _ _).mono ?_
      rintro e y ⟨rfl, hb⟩
      have ho := Ho.out.below hb
      have Hb2 := Lib.hid (Hb.out.trans (hb.mono hzr))
      have hcell : ∃ u, y.cell? ⟨w.heap.size, j, none⟩ = some u := by
        have := World.ownsRow.cellAt ho.2 j (by omega)
        rw [this]
        exact ⟨_, List.getElem?_eq_getElem (by rw [List.length_map, ho.1]; exact hjn)⟩
      obtain ⟨u, hu⟩ := hcell
      have hf := World.ownsRow.frozenAt ho.2 j
      have hst := (ho.stored j ((imgs s k n).getD j 0)).1
      rw [fill_succ (imgs_len s k n) hjn, imgs_at s k n j hjn, ← Ht.out] at hst
      have Hs := Lib.hid hst
      clear hst ho hb
      go_wp2_with fail
      go_roundw
      case rel => exact ⟨j + 1, by omega, by go_num, Hs.out, Hb2.out.setCell (Nat.le_refl _) _⟩
      case measure => simp [intOf]; omega
    · obtain rfl : j = n := by omega
      have ho2 : Own wr w.heap.size (some ⟨w.heap.size, 0, none⟩) j j (imgs s k j) := by
        have := ho
        rw [Nat.sub_self, List.take_of_length_le (by rw [imgs_len]; exact Nat.le_refl _)] at this
        simpa using this
      have Ho := Lib.hid ho2
      have Hb := Lib.hid hb
      clear ho ho2 hb
      go_wp2_with fail
      go_ret
      exact ⟨_, _, rfl, Ho.out, Hb.out⟩

theorem i_movedTo (s k : Int) (w : World) (B B' : Nat) (A A' : Option Addr) (n c c' : Nat) (cs : List Int) (h : Ints w B A n cs) (h' : Ints w B' A' n (imgs s k n)) (hB : B ≤ w.heap.size) (hB' : B' ≤ w.heap.size)
    (h1 : 1 ≤ s) (h2 : s ≤ 7) (hn : (n : Int) = s * s) (k1 : 0 ≤ k) (k2 : k < 8) :
    Calls Try.prog 53 #[.slice A n c, .slice A' n c'] w fun e w' => ∃ A1 c1, e = .returned (.slice A1 n c1) ∧ Own w' w.heap.size A1 n c1 (Bd.mv s k cs) ∧ Below w.heap.size w w' := by
  have hsq := Pt.sq_bd s h1 h2
  have hn49 : n ≤ 49 := by omega
  have hn1 : 0 < n := by omega
  have hl := h.1
  have Hfin := Lib.hid (Bd.mv_any s k cs (List.replicate n 0) h1 h2 (by rw [hl]; exact hn) k1 k2 (by rw [List.length_replicate, hl]))
  have Hl := Lib.hid hl
  have H := Lib.hid h
  have H' := Lib.hid h'
  have Hn := Lib.hid hn
  clear h h' hl hn
  go_enter Try.func53, Try.ntmps53
  go_wp2_with (at_make; refine make0t 58 Try.underlying58 rfl _ rfl _ w.heap.size _ n rfl rfl (by omega) (Nat.le_refl _) ?_; intro w1 hown hb hlt)
  have Ho := Lib.hid hown
  have Hb := Lib.hid hb
  clear hown hb
  go_loopw [13] (fun i wr => ∃ j : Nat, j ≤ n ∧ i = .int .i64 j ∧ Own wr w.heap.size (some ⟨w.heap.size, 0, none⟩) n n (Bd.steps (Bd.imgN s k) cs j (List.replicate n 0)) ∧ Below w.heap.size w wr) (fun i _ => n - (intOf i).toNat)
  case atStart => exact ⟨0, by omega, rfl, Ho.out, Hb.out⟩
  case round =>
    clear Ho Hb
    obtain ⟨j, hj, rfl, ho, hb⟩ := hrel
    by_cases hjn : j < n
    · rcases H.out.2 with h0 | ⟨b, o, rfl, hbB, hc⟩
      · omega
      rcases H'.out.2 with h0 | ⟨b', o', rfl, hbB', hc'⟩
      · omega
      have hck := (hb.cell (p := ⟨b, o + j, none⟩) (by show b < _; omega)).trans (hc j hjn)
      have hck' := (hb.cell (p := ⟨b', o' + j, none⟩) (by show b' < _; omega)).trans (hc' j hjn)
      obtain ⟨m1, m2⟩ := Bd.imgN_lt s k n j h1 h2 Hn.out hjn
      rw [imgs_at s k n j hjn, ← m2] at hck'
      have hcell : ∃ u, wr.cell? ⟨w.heap.size, Bd.imgN s k j, none⟩ = some u := by
        have := World.ownsRow.cellAt ho.2 (Bd.imgN s k j) (by omega)
        rw [this]
        exact ⟨_, List.getElem?_eq_getElem (by rw [List.length_map, ho.1]; exact m1)⟩
      obtain ⟨u, hu⟩ := hcell
      have hf := World.ownsRow.frozenAt ho.2 (Bd.imgN s k j)
      have hst : Own (wr.setCell ⟨w.heap.size, Bd.imgN s k j, none⟩ (.int .i64 (cs.getD j 0))) w.heap.size (some ⟨w.heap.size, 0, none⟩) n n (Bd.steps (Bd.imgN s k) cs (j + 1) (List.replicate n 0)) := (ho.stored (Bd.imgN s k j) (cs.getD j 0)).1
      obtain ⟨x, hx⟩ : ∃ x, cs.getD j 0 = x := ⟨_, rfl⟩
      obtain ⟨q, hq⟩ : ∃ q, Bd.imgN s k j = q := ⟨_, rfl⟩
      rw [hx] at hst hck
      rw [hq] at hst hck' hu hf m1
      have hqn : (q : Int) < n := by omega
      have Hs := Lib.hid hst
      have Hb := Lib.hid hb
      have hne : b ≠ w.heap.size := by omega
      have hne' : b' ≠ w.heap.size := by omega
      clear hx hq m2 hst ho hb hc hc'
      go_wp2_with fail
      go_roundw
      case rel => exact ⟨j + 1, by omega, by go_num, Hs.out, Hb.out.setCell (Nat.le_refl _) _⟩
      case measure => simp [intOf]; omega
    · obtain rfl : j = n := by omega
      have ho2 : Own wr w.heap.size (some ⟨w.heap.size, 0, none⟩) j j (Bd.mv s k cs) := by
        rw [← Hfin.out, Hl.out]; exact ho
      have Ho := Lib.hid ho2
      have Hb := Lib.hid hb
      clear ho ho2 hb
      go_wp2_with fail
      go_ret
      exact ⟨_, _, rfl, Ho.out, Hb.out⟩
end Go.Proofs.Ytpopbcmfbcmojaa
