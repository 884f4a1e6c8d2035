/-
  The model's group of a point: the points of its color that can be reached from it.
-/
import Derived.Test.YteldfjibmaigiaaDoorFlood
import Derived.Test.YteldfjibmaigiaaDoorOfCol
namespace Go.Proofs.YteldfjibmaigiaaDoor
set_option maxRecDepth 100000
open Go.RowKit

/-- The list of the points that are reached. -/
def Reached (s : Int) (n : Nat) (keep : List Bool) (p : Int) (l : List Int) : Prop :=
  ∃ S : List Bool, S.length = n ∧ (∀ y, 0 ≤ y → (Fl.at_ S y = true ↔ Fl.Reach s keep p y)) ∧ l = Fl.pts S n

def GrpRel (w : World) (s : Int) (n : Nat) (cs : List Int) (p : Nat) (v : Value) (wx : World) : Prop :=
  ∃ A m c' l, v = .slice A m c' ∧ Own wx w.heap.size A m c' l ∧ Reached s n (hasCol (cs.getD p 0) cs) p l ∧ Below w.heap.size w wx

set_option maxRecDepth 100000 in
set_option maxHeartbeats 4000000 in
theorem s_groupOf (s : Int) (p : Nat) (w : World) (B : Nat) (A : Option Addr) (n c : Nat) (cs : List Int) (h : Ints w B A n cs) (hB : B ≤ w.heap.size) (h1 : 1 ≤ s) (h2 : s ≤ 7) (hn : (n : Int) = s * s) (hp : p < n) :
    Calls Tryd.prog 85 #[.agg #[.int .i64 s, .slice A n c], .int .i64 p] w fun e w' => ∃ A m c' l, e = .returned (.slice A m c') ∧ Own w' w.heap.size A m c' l ∧ Reached s n (hasCol (cs.getD p 0) cs) p l ∧ Below w.heap.size w w' := by
  have hsq := Pt.sq_bd s h1 h2
  have hn49 : n ≤ 49 := by omega
  have hl := h.1
  have hb1 : Below w.heap.size w (w.alloc (.cells #[.int .i64 s, .slice A n c] 25)) := (Below.refl _ _).alloc (Nat.le_refl _) _
  have X0 := Lib.hid (Bx.new 25 w s (.slice A n c))
  have H := Lib.hid (h.below hb1 hB)
  have Hb := Lib.hid hb1
  have Hl := Lib.hid hl
  have Hn := Lib.hid hn
  have hpn : (p : Int) < n := by omega
  clear h hl hb1 hn
  go_enter Tryd.func85, Tryd.ntmps85
  go_upto_region 1 with (fail)
  obtain ⟨y0, hy⟩ : ∃ y, y = w.alloc (.cells #[.int .i64 s, .slice A n c] 25) := ⟨_, rfl⟩
  have hyz : w.heap.size < y0.heap.size := by rw [hy]; simp
  rw [← hy] at X0 H Hb ⊢
  clear hy
  have hA : ∃ b o, A = some ⟨b, o, none⟩ ∧ b < B ∧ ∀ j, j < n → y0.cell? ⟨b, o + j, none⟩ = some (.int .i64 (cs.getD j 0)) := by
    rcases H.out.2 with h0 | ⟨b, o, hA, hbB, hc⟩
    · omega
    · exact ⟨b, o, hA, hbB, hc⟩
  obtain ⟨b, o, hA, hbB, hc⟩ := hA
  have Hc := Lib.hid hc
  clear hc
  subst hA
  have u0 := X0.out.cell0
  have u1 := X0.out.cell1
  have ul := X0.out.lt
  have ck := Hc.out p hp
  obtain ⟨x, hx⟩ : ∃ x, cs.getD p 0 = x := ⟨_, rfl⟩
  have Hx := Lib.hid hx
  rw [hx] at ck
  clear hx
  go_cut [4] (fun v wx => GrpRel w s n cs p v wx)
  case first =>
    go_region_with (first | (go_at_call 93; refine (s_ofColor s x _ B _ n _ cs (by exact H.out) ?_ (by omega)).mono ?_; (show B ≤ y0.heap.size; omega); rintro e ya ⟨Aa, ca, rfl, hoa, hba⟩; have hbw : Below y0.heap.size y0 ya := ⟨hba.os, hba.tape, hba.output, hba.size, hba.block⟩; have za := hbw.size; have u2 := (X0.out.below hbw ul).cell0; have u3 := (X0.out.below hbw ul).cell1; have u4 := (hbw.cell (p := ⟨b, o + p, none⟩) (by show b < _; omega)).trans ck; obtain ⟨gk, hgk, hgk1, hgk2, hgk3⟩ := OwnB.read hoa (by omega); rw [hgk]; have Hk3 := Lib.hid hgk3; have Hba := Lib.hid hbw; clear hoa hba hbw hgk hgk3) | (go_at_call 92; refine (s_flood s p _ gk 0 n _ (hasCol x cs) h1 h2 Hn.out (by omega) hpn (by rw [hasCol_len]; exact Hl.out) (by exact hgk2) (by exact Hk3.out)).mono ?_; rintro e yb ⟨Ab, mb, cb, S, rfl, hob, hS1, hS2, hbb⟩; have Hob : Hid (Own yb y0.heap.size Ab mb cb (Fl.pts S n)) := Lib.hid (Own.weaken hob za); have HS1 := Lib.hid hS1; have HS2 := Lib.hid hS2; have Hbb : Hid (Below y0.heap.size y0 yb) := Lib.hid (Hba.out.trans ((show Below ya.heap.size ya yb from ⟨hbb.os, hbb.tape, hbb.output, hbb.size, hbb.block⟩).mono za)); clear hob hS1 hS2 hbb))
    all_goals go_wp2_with fail
    all_goals go_meet
    all_goals exact ⟨_, _, _, _, rfl, Hob.out.weaken (by omega), ⟨S, HS1.out, by rw [Hx.out]; exact HS2.out, rfl⟩, Hb.out.trans (Hbb.out.mono (by omega))⟩
  case rest =>
    obtain ⟨A9, m9, c9, l9, rfl, ho, hr, hb⟩ := hcut
    have Ho := Lib.hid ho
    have Hr := Lib.hid hr
    have Hb9 := Lib.hid hb
    clear ho hr hb
    go_wp2_with fail
    go_ret
    exact ⟨_, _, _, _, rfl, Ho.out, Hr.out, Hb9.out⟩
end Go.Proofs.YteldfjibmaigiaaDoor
