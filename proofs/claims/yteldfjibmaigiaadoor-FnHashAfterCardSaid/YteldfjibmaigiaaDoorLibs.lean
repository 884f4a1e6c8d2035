/-
  The model's liberties of a point's group.
-/
import Derived.Test.YteldfjibmaigiaaDoorGroupS
import Derived.Test.YteldfjibmaigiaaDoorBesides
namespace Go.Proofs.YteldfjibmaigiaaDoor
set_option maxRecDepth 100000
open Go.RowKit

theorem Reached.small {s : Int} {n : Nat} {keep : List Bool} {p : Int} {l : List Int} (h : Reached s n keep p l) : ∀ j, j < l.length → 0 ≤ l.getD j 0 ∧ l.getD j 0 < n := by
  obtain ⟨S, _, _, rfl⟩ := h
  intro j hj
  have hm : (Fl.pts S n).getD j 0 ∈ Fl.pts S n := by
    rw [List.getD_eq_getElem?_getD, List.getElem?_eq_getElem hj]; exact List.getElem_mem _
  generalize (Fl.pts S n).getD j 0 = y at hm
  unfold Fl.pts at hm
  obtain ⟨q, hq, rfl⟩ := List.mem_map.1 hm
  have := List.mem_range.1 (List.mem_filter.1 hq).1
  omega

theorem Reached.few {s : Int} {n : Nat} {keep : List Bool} {p : Int} {l : List Int} (h : Reached s n keep p l) : l.length ≤ n := by
  obtain ⟨S, _, _, rfl⟩ := h
  exact Fl.pts_len S n

def LibRel (w : World) (s : Int) (n : Nat) (cs : List Int) (p : Nat) (v : Value) (wx : World) : Prop :=
  ∃ A m c' l S, v = .slice A m c' ∧ Own wx w.heap.size A m c' (Fl.pts S n) ∧ Reached s n (hasCol (cs.getD p 0) cs) p l ∧ Bs.BI s n cs 0 l [] S ∧ Below w.heap.size w wx

set_option maxRecDepth 100000 in
set_option maxHeartbeats 4000000 in
theorem s_liberties (s : Int) (p : Nat) (w : World) (B : Nat) (A : Option Addr) (n c : Nat) (cs : List Int) (h : Ints w B A n cs) (hB : B ≤ w.heap.size) (h1 : 1 ≤ s) (h2 : s ≤ 7) (hn : (n : Int) = s * s) (hp : p < n) :
    Calls Tryd.prog 66 #[.agg #[.int .i64 s, .slice A n c], .int .i64 p] w fun e w' => ∃ A m c' l S, e = .returned (.slice A m c') ∧ Own w' w.heap.size A m c' (Fl.pts S n) ∧ Reached s n (hasCol (cs.getD p 0) cs) p l ∧ Bs.BI s n cs 0 l [] S ∧ Below w.heap.size w w' := by
  have hsq := Pt.sq_bd s h1 h2
  have hn49 : n ≤ 49 := by omega
  have hb1 : Below w.heap.size w (w.alloc (.cells #[.int .i64 s, .slice A n c] 25)) := (Below.refl _ _).alloc (Nat.le_refl _) _
  have X0 := Lib.hid (Bx.new 25 w s (.slice A n c))
  have H := Lib.hid (h.below hb1 hB)
  have Hb := Lib.hid hb1
  have Hn := Lib.hid hn
  clear h hb1 hn
  go_enter Tryd.func66, Tryd.ntmps66
  go_upto_region 1 with (fail)
  obtain ⟨y0, hy⟩ : ∃ y, y = w.alloc (.cells #[.int .i64 s, .slice A n c] 25) := ⟨_, rfl⟩
  have hyz : w.heap.size < y0.heap.size := by rw [hy]; simp
  rw [← hy] at X0 H Hb ⊢
  clear hy
  have u0 := X0.out.cell0
  have u1 := X0.out.cell1
  have ul := X0.out.lt
  go_cut [4] (fun v wx => LibRel w s n cs p v wx)
  case first =>
    go_region_with (first | (go_at_call 85; refine (s_groupOf s p _ B _ n _ cs (by exact H.out) ?_ h1 h2 Hn.out hp).mono ?_; (show B ≤ y0.heap.size; omega); rintro e ya ⟨Aa, ma, ca, l, rfl, hoa, hra, hba⟩; have hbw : Below y0.heap.size y0 ya := ⟨hba.os, hba.tape, hba.output, hba.size, hba.block⟩; have za := hbw.size; have u2 := (X0.out.below hbw ul).cell0; have u3 := (X0.out.below hbw ul).cell1; have Hoa : Hid (Own ya y0.heap.size Aa ma ca l) := Lib.hid hoa; have Hra := Lib.hid hra; have Hba := Lib.hid hbw; clear hoa hra hba hbw) | (go_at_call 84; refine (s_besides s 0 _ B _ _ _ n _ ma ca cs l (by exact H.out.below Hba.out (by omega)) (by exact Hoa.out.ints) ?_ ?_ h1 h2 Hn.out (by have := Hra.out.small; rw [Hoa.out.1] at this; exact this) (by have := Hra.out.few; rw [Hoa.out.1] at this; omega)).mono ?_; (show B ≤ ya.heap.size; omega); (show ya.heap.size ≤ ya.heap.size; omega); rintro e yb ⟨Ab, mb, cb, S, rfl, hob, hS, hbb⟩; have Hob : Hid (Own yb y0.heap.size Ab mb cb (Fl.pts S n)) := Lib.hid (Own.weaken hob za); have HS := Lib.hid hS; have Hbb : Hid (Below y0.heap.size y0 yb) := Lib.hid (Hba.out.trans ((show Below ya.heap.size ya yb from ⟨hbb.os, hbb.tape, hbb.output, hbb.size, hbb.block⟩).mono za)); clear hob hS hbb))
    all_goals go_wp2_with fail
    all_goals go_meet
    all_goals exact ⟨_, _, _, _, S, rfl, Hob.out.weaken (by omega), Hra.out, HS.out, Hb.out.trans (Hbb.out.mono (by omega))⟩
  case rest =>
    obtain ⟨A9, m9, c9, l9, S9, rfl, ho, hr, hS, hb⟩ := hcut
    have Ho := Lib.hid ho
    have Hr := Lib.hid hr
    have HS := Lib.hid hS
    have Hb9 := Lib.hid hb
    clear ho hr hS hb
    go_wp2_with fail
    go_ret
    exact ⟨_, _, _, _, _, rfl, Ho.out, Hr.out, HS.out, Hb9.out⟩
end Go.Proofs.YteldfjibmaigiaaDoor
