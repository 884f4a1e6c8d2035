/-
  The model's 'play'.
-/
import Derived.Test.YteldfjibmaigiaaDoorPlayP
import Derived.Test.YteldfjibmaigiaaDoorRemoved
import Derived.Test.YteldfjibmaigiaaDoorSorted
import Derived.Test.YteldfjibmaigiaaDoorStepApp
namespace Go.Proofs.YteldfjibmaigiaaDoor
set_option maxRecDepth 100000
open Go.RowKit

/-- What a placed stone leads to, in memory. -/
def PlayedP (s : Int) (n : Nat) (R : Option (List Int × List Int) → Prop) (w : World) (e : Ending) (w' : World) : Prop :=
  (R none ∧ e = .returned (.tuple #[.agg #[.int .i64 0, .slice none 0 0], .slice none 0 0, .bool false]) ∧ Below w.heap.size w w') ∨
  ∃ os gs A1 c1 A2 n2 c2, R (some (os, gs)) ∧ e = .returned (.tuple #[.agg #[.int .i64 s, .slice A1 n c1], .slice A2 n2 c2, .bool true]) ∧ Own w' w.heap.size A1 n c1 os ∧ Own w' w.heap.size A2 n2 c2 gs ∧ Below w.heap.size w w'

def RemRel (w y4 : World) (gb : Nat) (s : Int) (n : Nat) (cs : List Int) (x : Int) (A : Option Addr) (c : Nat) (v : Value) (wx : World) : Prop :=
  ∃ A1 c1 A2 n2 c2 S os, v = .slice A2 n2 c2 ∧ Bx 25 wx gb s (.slice A1 n c1) ∧ Own wx y4.heap.size A1 n c1 os ∧ Own wx y4.heap.size A2 n2 c2 (Fl.pts S n) ∧ RI s n cs x n S os ∧
    Bx 25 wx w.heap.size s (.slice A n c) ∧ Bx 25 wx (w.heap.size + 1) 0 (.slice none 0 0) ∧ Below w.heap.size w wx ∧ y4.heap.size ≤ wx.heap.size

set_option maxRecDepth 100000 in
set_option maxHeartbeats 8000000 in
theorem s_play (s x : Int) (p : Nat) (su : Bool) (w : World) (B : Nat) (A : Option Addr) (n c : Nat) (cs : List Int) (h : Ints w B A n cs) (hB : B ≤ w.heap.size) (h1 : 1 ≤ s) (h2 : s ≤ 7) (hn : (n : Int) = s * s) (hp : p < n) (x1 : 1 ≤ x) (x2 : x ≤ 2) :
    Calls Tryd.prog 39 #[.agg #[.int .i64 s, .slice A n c], .int .i64 x, .int .i64 p, .bool su] w fun e w' => PlayedP s n (Plays s n cs x p su) w e w' := by
  have hsq := Pt.sq_bd s h1 h2
  have hn49 : n ≤ 49 := by omega
  have e1 : (w.alloc (.cells #[.int .i64 s, .slice A n c] 25)).heap.size = w.heap.size + 1 := by simp
  have x0 := (Bx.new 25 w s (.slice A n c)).alloc (.cells #[.int .i64 0, .slice none 0 0] 25)
  have xx := Bx.new 25 (w.alloc (.cells #[.int .i64 s, .slice A n c] 25)) 0 (.slice none 0 0)
  rw [e1] at xx
  have hb2 : Below w.heap.size w ((w.alloc (.cells #[.int .i64 s, .slice A n c] 25)).alloc (.cells #[.int .i64 0, .slice none 0 0] 25)) := ((Below.refl _ _).alloc (Nat.le_refl _) _).alloc (by simp) _
  have Hl := Lib.hid h.1
  have H := Lib.hid (h.below hb2 hB)
  have X0 := Lib.hid x0
  have X1 := Lib.hid xx
  have Hb := Lib.hid hb2
  have Hn := Lib.hid hn
  have hpn : (p : Int) < n := by omega
  obtain ⟨b, o, hA, hbB, hc⟩ : ∃ b o, A = some ⟨b, o, none⟩ ∧ b < B ∧ ∀ j, j < n → ((w.alloc (.cells #[.int .i64 s, .slice A n c] 25)).alloc (.cells #[.int .i64 0, .slice none 0 0] 25)).cell? ⟨b, o + j, none⟩ = some (.int .i64 (cs.getD j 0)) := by
    rcases (h.below hb2 hB).2 with h0 | ⟨b, o, hA, hbB, hc⟩
    · omega
    · exact ⟨b, o, hA, hbB, hc⟩
  subst hA
  have ck := hc p hp
  obtain ⟨u, hu⟩ : ∃ u, cs.getD p 0 = u := ⟨_, rfl⟩
  have Hu := Lib.hid hu
  rw [hu] at ck
  clear e1 x0 xx hb2 h hn hc hu
  by_cases hu0 : u = 0
  · have hbx : (u != 0) = false := by simpa using hu0
    have Hu0 : Hid (cs.getD p 0 = 0) := Lib.hid (by rw [Hu.out, hu0])
    clear hu0
    go_enter Tryd.func39, Tryd.ntmps39
    go_wp2_with fail
    refine (s_copyBoard _ _ _ _ _ _ _ H.out (by simp; omega) (by omega)).mono ?_
    rintro e y ⟨A1, c1, rfl, ho, hb⟩
    have X0 := Lib.hid (X0.out.below hb X0.out.lt)
    have X1 := Lib.hid (X1.out.below hb X1.out.lt)
    have Hb := Lib.hid (Hb.out.trans (hb.mono (by simp; omega)))
    have Ho := Lib.hid (ho.weaken (B' := w.heap.size + 1 + 1) (by simp))
    obtain ⟨g, hA1⟩ : ∃ g, A1 = some ⟨g, 0, none⟩ := by
      obtain ⟨g, cap, hv, _⟩ := World.ownsRow.form ho.2 (by omega)
      exact ⟨g, by injection hv⟩
    subst hA1
    have hg1 := (Ho.out.ge rfl).1
    have hg2 := (Ho.out.ge rfl).2
    clear hb ho ck
    go_upto_region 4 with (fail)
    obtain ⟨y3, hy3, hb3, z3, z4⟩ := new_box y (.cells #[.int .i64 s, .slice (some ⟨g, 0, none⟩) n c1] 25)
    have X3 : Hid (Bx 25 y3 y.heap.size s (.slice (some ⟨g, 0, none⟩) n c1)) := Lib.hid (by rw [hy3]; exact Bx.new _ _ _ _)
    rw [← hy3]
    clear hy3
    have X0 := Lib.hid (X0.out.below hb3 X0.out.lt)
    have X1 := Lib.hid (X1.out.below hb3 X1.out.lt)
    have Ho := Lib.hid (Ho.out.below hb3)
    have z1 : w.heap.size + 1 < y.heap.size := by have := X1.out.lt; omega
    have Hb := Lib.hid (Hb.out.trans (hb3.mono (by omega)))
    clear hb3
    obtain ⟨v, hv⟩ : ∃ v, y3.cell? ⟨g, p, none⟩ = some v := by
      have := World.ownsRow.cellAt Ho.out.2 p (by omega)
      rw [this]
      exact ⟨_, List.getElem?_eq_getElem (by rw [List.length_map, Ho.out.1]; exact hp)⟩
    have hf := World.ownsRow.frozenAt Ho.out.2 p
    have t0 := X3.out.cell0
    have t1 := X3.out.cell1
    have t2 := X3.out.lt
    go_upto_region 5 with (fail)
    obtain ⟨y4, hy4⟩ : ∃ y4, y4 = y3.setCell ⟨g, p, none⟩ (.int .i64 x) := ⟨_, rfl⟩
    have es : y4.heap.size = y3.heap.size := by rw [hy4]; simp [World.setCell]
    have X0 : Hid (Bx 25 y4 w.heap.size s (.slice (some ⟨b, o, none⟩) n c)) := Lib.hid (by rw [hy4]; exact X0.out.far (by show w.heap.size ≠ g; omega) _)
    have X1 : Hid (Bx 25 y4 (w.heap.size + 1) 0 (.slice none 0 0)) := Lib.hid (by rw [hy4]; exact X1.out.far (by show w.heap.size + 1 ≠ g; omega) _)
    have X3 : Hid (Bx 25 y4 y.heap.size s (.slice (some ⟨g, 0, none⟩) n c1)) := Lib.hid (by rw [hy4]; exact X3.out.far (by show y.heap.size ≠ g; omega) _)
    have Ho : Hid (Own y4 (w.heap.size + 1 + 1) (some ⟨g, 0, none⟩) n c1 (cs.set p x)) := Lib.hid (by rw [hy4]; exact (Ho.out.stored p x).1)
    have Hb : Hid (Below w.heap.size w y4) := Lib.hid (by rw [hy4]; exact Hb.out.setCell (by show w.heap.size ≤ g; omega) _)
    rw [← hy4]
    clear hy4 hv hf t0 t1 t2
    have t0 := X3.out.cell0
    have t1 := X3.out.cell1
    have t2 := X3.out.lt
    have t3 := X3.out.frozen 0
    have t4 := X3.out.frozen 1
    go_cut [12] (fun v wx => RemRel w y4 y.heap.size s n (cs.set p x) (oth x) (some ⟨b, o, none⟩) c v wx)
    case first =>
      go_region_with (first | (go_at_call 65; refine (s_opp _ _ x1 x2).mono ?_; rintro e w9 ⟨rfl, rfl⟩) | (go_at_call 64; refine (s_removed s (oth x) _ y4.heap.size _ n _ (cs.set p x) (by exact Ho.out.ints) ?_ h1 h2 Hn.out).mono ?_; (show y4.heap.size ≤ y4.heap.size; omega); rintro e ya ⟨Aa, ca, Ab, nb, cb, S, os, rfl, hoa, hob, hri, hba⟩; have hbw : Below y4.heap.size y4 ya := ⟨hba.os, hba.tape, hba.output, hba.size, hba.block⟩; have za := hbw.size; have v0 := (X3.out.below hbw t2).cell0; have v1 := (X3.out.below hbw t2).cell1; have v2 := (X3.out.below hbw t2).frozen 0; have v3 := (X3.out.below hbw t2).frozen 1; have v4 := (X3.out.below hbw t2).lt; have HX3 := Lib.hid (X3.out.below hbw t2); have Hoa : Hid (Own ya y4.heap.size Aa n ca os) := Lib.hid hoa; have Hob : Hid (Own ya y4.heap.size Ab nb cb (Fl.pts S n)) := Lib.hid hob; have Hri := Lib.hid hri; have Hba := Lib.hid hbw; clear hoa hob hri hba hbw))
      all_goals go_wp2_with fail
      all_goals go_meet
      all_goals
        have hX3 := (HX3.out.set0 s).set1 (.slice Aa n ca)
        have ho9 := (Hoa.out.far ⟨y.heap.size, 0, none⟩ (fun g hA => by have := (Hoa.out.ge hA).1; show g ≠ y.heap.size; omega) (.int .i64 s)).far ⟨y.heap.size, 1, none⟩ (fun g hA => by have := (Hoa.out.ge hA).1; show g ≠ y.heap.size; omega) (.slice Aa n ca)
        have hg9 := (Hob.out.far ⟨y.heap.size, 0, none⟩ (fun g hA => by have := (Hob.out.ge hA).1; show g ≠ y.heap.size; omega) (.int .i64 s)).far ⟨y.heap.size, 1, none⟩ (fun g hA => by have := (Hob.out.ge hA).1; show g ≠ y.heap.size; omega) (.slice Aa n ca)
        have hx0 := ((X0.out.below Hba.out X0.out.lt).far (p := ⟨y.heap.size, 0, none⟩) (by show w.heap.size ≠ y.heap.size; omega) (.int .i64 s)).far (p := ⟨y.heap.size, 1, none⟩) (by show w.heap.size ≠ y.heap.size; omega) (.slice Aa n ca)
        have hx1 := ((X1.out.below Hba.out X1.out.lt).far (p := ⟨y.heap.size, 0, none⟩) (by show w.heap.size + 1 ≠ y.heap.size; omega) (.int .i64 s)).far (p := ⟨y.heap.size, 1, none⟩) (by show w.heap.size + 1 ≠ y.heap.size; omega) (.slice Aa n ca)
        have hbb := ((Hb.out.trans (Hba.out.mono (by omega))).setCell (p := ⟨y.heap.size, 0, none⟩) (by show w.heap.size ≤ y.heap.size; omega) (.int .i64 s)).setCell (p := ⟨y.heap.size, 1, none⟩) (by show w.heap.size ≤ y.heap.size; omega) (.slice Aa n ca)
        exact ⟨_, _, _, _, _, _, _, rfl, hX3, ho9, hg9, Hri.out, hx0, hx1, hbb, by simp [World.setCell]; omega⟩
    case rest =>
      clear X0 X1 X3 Ho Hb t0 t1 t2 t3 t4
      obtain ⟨A1, c1, A2, n2, c2, S, os, rfl, hx3, ho, hg, hri, hx0, hx1, hb, hz9⟩ := hcut
      have X0 := Lib.hid hx0
      have X1 := Lib.hid hx1
      have X3 := Lib.hid hx3
      have Ho := Lib.hid ho
      have Hg := Lib.hid hg
      have Hri := Lib.hid hri
      have Hb := Lib.hid hb
      clear hx0 hx1 hx3 ho hg hri hb
      have t0 := X3.out.cell0
      have t1 := X3.out.cell1
      have t2 := X3.out.lt
      go_wp2_with fail
      refine (s_liberties s p _ _ _ n _ os Ho.out.ints (Nat.le_refl _) h1 h2 Hn.out hp).mono ?_
      rintro e yl ⟨A5, m5, c5, l5, S5, rfl, hol, hrl, hbl, hbb⟩
      have hm5 : m5 ≤ 49 := by have := hol.1; have := Fl.pts_len S5 n; omega
      have Hiff := Lib.hid (noLib_iff hrl hbl)
      have Hm5 := Lib.hid hol.1
      have zl := hbb.size
      have X0 := Lib.hid (X0.out.below hbb X0.out.lt)
      have X1 := Lib.hid (X1.out.below hbb X1.out.lt)
      have X3 := Lib.hid (X3.out.below hbb X3.out.lt)
      have Ho := Lib.hid (Ho.out.below hbb)
      have Hg := Lib.hid (Hg.out.below hbb)
      have Hb := Lib.hid (Hb.out.trans (hbb.mono (by omega)))
      clear hol hrl hbl hbb t0 t1 t2
      have t0 := X3.out.cell0
      have t1 := X3.out.cell1
      have t2 := X3.out.lt
      have r0 := X1.out.cell0
      have r1 := X1.out.cell1
      have r2 := X1.out.frozen 0
      have r3 := X1.out.frozen 1
      have r4 := X1.out.lt
      by_cases hm0 : m5 = 0
      · have Hno : Hid (NoLib s n os p) := Lib.hid (Hiff.out.1 (by rw [Hm5.out]; exact hm0))
        subst hm0
        cases su with
        | false =>
          have K0 := Lib.hid ((X1.out.set0 0).cell0)
          have K1 := Lib.hid (((X1.out.set0 0).set1 (.slice none 0 0)).cell1)
          have Hb3 := Lib.hid ((Hb.out.setCell (p := ⟨w.heap.size + 1, 0, none⟩) (by show w.heap.size ≤ w.heap.size + 1; omega) (.int .i64 0)).setCell (p := ⟨w.heap.size + 1, 1, none⟩) (by show w.heap.size ≤ w.heap.size + 1; omega) (.slice none 0 0))
          go_wp2_with fail
          have k0 := K0.out
          have k1 := K1.out
          refine bodyPost_ret (v := .tuple #[.agg #[.int .i64 0, .slice none 0 0], .slice none 0 0, .bool false]) (by simp [results, Tryd.results39, go_sem, k0, k1]) rfl ?_
          exact .inl ⟨.lost S os Hu0.out Hri.out Hno.out rfl, rfl, Hb3.out⟩
        | true =>
          go_wp2_with fail
          refine (s_removed s x _ _ _ n _ os Ho.out.ints (Nat.le_refl _) h1 h2 Hn.out).mono ?_
          rintro e yr ⟨Aa, ca, Ab, nb, cb, S2, os2, rfl, hoa, hob, hri2, hba⟩
          have zr := hba.size
          have Hr2 := Lib.hid (fun g (hA : A2 = some ⟨g, 0, none⟩) => (Hg.out.ge hA).2)
          have Hra := Lib.hid (fun g (hA : Aa = some ⟨g, 0, none⟩) => (hoa.ge hA).1)
          have hn2 : n2 ≤ 49 := by have := Hg.out.1; have := Fl.pts_len S n; omega
          have hnb : nb ≤ 49 := by have := hob.1; have := Fl.pts_len S2 n; omega
          have hnb0 : 0 < nb := by have := hob.1; have := pts_own Hl.out Hri.out hri2 Hno.out hp x1 x2; omega
          have Hlen := Lib.hid (show (Fl.pts S n ++ Fl.pts S2 n).length = n2 + nb by rw [List.length_append, Hg.out.1, hob.1])
          have Hne := Lib.hid (pts_own Hl.out Hri.out hri2 Hno.out hp x1 x2)
          have X1 := Lib.hid (X1.out.below hba X1.out.lt)
          have X3 := Lib.hid (X3.out.below hba X3.out.lt)
          have Hg := Lib.hid (Hg.out.below hba)
          have Hb := Lib.hid (Hb.out.trans (hba.mono (by omega)))
          have Hoa := Lib.hid hoa
          have Hob := Lib.hid hob
          have Hri2 := Lib.hid hri2
          clear hoa hob hri2 hba t0 t1 t2 r0 r1 r2 r3 r4
          have t0 := X3.out.cell0
          have t1 := X3.out.cell1
          have t2 := X3.out.lt
          have t3 := X3.out.frozen 0
          have t4 := X3.out.frozen 1
          go_upto_region 11 with (fail)
          obtain ⟨y6, hy6⟩ : ∃ y6, y6 = (yr.setCell ⟨y.heap.size, 0, none⟩ (.int .i64 s)).setCell ⟨y.heap.size, 1, none⟩ (.slice Aa n ca) := ⟨_, rfl⟩
          have es : y6.heap.size = yr.heap.size := by rw [hy6]; simp [World.setCell]
          have Hoa : Hid (Own y6 (w.heap.size + 1 + 1) Aa n ca os2) := Lib.hid (by rw [hy6]; exact ((Hoa.out.far ⟨y.heap.size, 0, none⟩ (fun g hA => by have := (Hoa.out.ge hA).1; show g ≠ y.heap.size; omega) (.int .i64 s)).far ⟨y.heap.size, 1, none⟩ (fun g hA => by have := (Hoa.out.ge hA).1; show g ≠ y.heap.size; omega) (.slice Aa n ca)).weaken (by omega))
          have Hob : Hid (Own y6 yl.heap.size Ab nb cb (Fl.pts S2 n)) := Lib.hid (by rw [hy6]; exact ((Hob.out.far ⟨y.heap.size, 0, none⟩ (fun g hA => by have := (Hob.out.ge hA).1; show g ≠ y.heap.size; omega) (.int .i64 s)).far ⟨y.heap.size, 1, none⟩ (fun g hA => by have := (Hob.out.ge hA).1; show g ≠ y.heap.size; omega) (.slice Aa n ca)))
          have Hg : Hid (Own y6 y4.heap.size A2 n2 c2 (Fl.pts S n)) := Lib.hid (by rw [hy6]; exact ((Hg.out.far ⟨y.heap.size, 0, none⟩ (fun g hA => by have := (Hg.out.ge hA).1; show g ≠ y.heap.size; omega) (.int .i64 s)).far ⟨y.heap.size, 1, none⟩ (fun g hA => by have := (Hg.out.ge hA).1; show g ≠ y.heap.size; omega) (.slice Aa n ca)))
          have X3 : Hid (Bx 25 y6 y.heap.size s (.slice Aa n ca)) := Lib.hid (by rw [hy6]; exact (X3.out.set0 s).set1 (.slice Aa n ca))
          have X1 : Hid (Bx 25 y6 (w.heap.size + 1) 0 (.slice none 0 0)) := Lib.hid (by rw [hy6]; exact (X1.out.far (p := ⟨y.heap.size, 0, none⟩) (by show w.heap.size + 1 ≠ y.heap.size; omega) (.int .i64 s)).far (p := ⟨y.heap.size, 1, none⟩) (by show w.heap.size + 1 ≠ y.heap.size; omega) (.slice Aa n ca))
          have Hb : Hid (Below w.heap.size w y6) := Lib.hid (by rw [hy6]; exact ((Hb.out.setCell (p := ⟨y.heap.size, 0, none⟩) (by show w.heap.size ≤ y.heap.size; omega) (.int .i64 s)).setCell (p := ⟨y.heap.size, 1, none⟩) (by show w.heap.size ≤ y.heap.size; omega) (.slice Aa n ca)))
          rw [← hy6]
          clear hy6 t0 t1 t2 t3 t4
          have t0 := X3.out.cell0
          have t1 := X3.out.cell1
          have t2 := X3.out.lt
          go_region_law (first | (refine stepAppAll rfl _ _ rfl _ y4.heap.size _ _ _ (Fl.pts S n) _ _ _ _ (Fl.pts S2 n) rfl rfl (by exact Hg.out) (by exact Hob.out.ints) (by show y4.heap.size ≤ y6.heap.size; omega) (by omega) (by omega) ?_; intro A9 c9 w9 hown hb9 hgr; have hb9w : Below y4.heap.size y6 w9 := ⟨hb9.os, hb9.tape, hb9.output, hb9.size, hb9.block⟩; have hgrw : y6.grownBy w9 (Value.slice A2 n2 c2).ownBlock := ⟨hgr.os, hgr.tape, hgr.output, hgr.size, hgr.block⟩; have z9 := hb9w.size; have HX1 := Lib.hid (X1.out.below hb9w (by omega)); have HX3 := Lib.hid (X3.out.below hb9w (by omega)); have Hob9 := Lib.hid (Own.kept Hoa.out hgrw (fun g hA e => by have h1 := Hra.out g hA; have h2 := Hr2.out g (own_block Hg.out e |> fun e2 => by rw [e2]); omega)); have Hown : Hid (Own w9 y4.heap.size A9 (n2 + nb) c9 (Fl.pts S n ++ Fl.pts S2 n)) := Lib.hid hown; have Hb9 := Lib.hid (Hb.out.trans (hb9w.mono (by omega))); have s0 := HX3.out.cell0; have s1 := HX3.out.cell1; clear hown hb9 hgr hb9w hgrw) | (refine stepCall rfl _ 67 _ _ rfl (by kernel_rfl) #[.slice A9 (n2 + nb) c9] (by simp [Act.eval]) _ (s_sorted _ w9.heap.size _ _ _ (Fl.pts S n ++ Fl.pts S2 n) (by exact Hown.out.ints) (by show w9.heap.size ≤ w9.heap.size; omega) (by omega)) ?_; rintro e w10 ⟨A10, c10, ys, rfl, hoy, hso, hb10⟩; refine ⟨_, rfl, ?_⟩; have hb10w : Below w9.heap.size w9 w10 := ⟨hb10.os, hb10.tape, hb10.output, hb10.size, hb10.block⟩; have z10 := hb10w.size; have HX1' := Lib.hid (HX1.out.below hb10w HX1.out.lt); have r0 := HX1'.out.cell0; have r1 := HX1'.out.cell1; have r2 := HX1'.out.frozen 0; have r3 := HX1'.out.frozen 1; have r4 := HX1'.out.lt; have s2 := (HX3.out.below hb10w HX3.out.lt).cell0; have s3 := (HX3.out.below hb10w HX3.out.lt).cell1; have Hoa' := Lib.hid (Hob9.out.below hb10w); have Hoy : Hid (Own w10 w9.heap.size A10 (n2 + nb) c10 ys) := Lib.hid hoy; have Hso := Lib.hid hso; have Hb10 := Lib.hid (Hb9.out.trans (hb10w.mono (by have := Hb9.out.size; omega))); clear hoy hso hb10 hb10w))
          all_goals go_wp2_with fail
          all_goals
            have k0 := (HX1'.out.set0 s).cell0
            have k1 := ((HX1'.out.set0 s).set1 (.slice Aa n ca)).cell1
            refine bodyPost_ret (v := .tuple #[.agg #[.int .i64 s, .slice Aa n ca], .slice A10 (n2 + nb) c10, .bool true]) (by simp [results, Tryd.results39, go_sem, k0, k1]) rfl ?_
            have ho3 := (Hoa'.out.far ⟨w.heap.size + 1, 0, none⟩ (fun g hA => by have := (Hoa'.out.ge hA).1; show g ≠ w.heap.size + 1; omega) (.int .i64 s)).far ⟨w.heap.size + 1, 1, none⟩ (fun g hA => by have := (Hoa'.out.ge hA).1; show g ≠ w.heap.size + 1; omega) (.slice Aa n ca)
            have hg3 := (Hoy.out.far ⟨w.heap.size + 1, 0, none⟩ (fun g hA => by have := (Hoy.out.ge hA).1; have := Hb9.out.size; show g ≠ w.heap.size + 1; omega) (.int .i64 s)).far ⟨w.heap.size + 1, 1, none⟩ (fun g hA => by have := (Hoy.out.ge hA).1; have := Hb9.out.size; show g ≠ w.heap.size + 1; omega) (.slice Aa n ca)
            have hb3 := (Hb10.out.setCell (p := ⟨w.heap.size + 1, 0, none⟩) (by show w.heap.size ≤ w.heap.size + 1; omega) (.int .i64 s)).setCell (p := ⟨w.heap.size + 1, 1, none⟩) (by show w.heap.size ≤ w.heap.size + 1; omega) (.slice Aa n ca)
            exact .inr ⟨_, _, _, _, _, _, _, .both S os S2 os2 ys (n2 + nb) Hu0.out Hri.out Hno.out rfl Hri2.out Hso.out Hlen.out, rfl, ho3.weaken (by omega), hg3.weaken (by have := Hb9.out.size; omega), hb3⟩
      · have Hno : Hid (¬ NoLib s n os p) := Lib.hid (fun h => hm0 (by rw [← Hm5.out]; exact Hiff.out.2 h))
        have K0 := Lib.hid ((X1.out.set0 s).cell0)
        have K1 := Lib.hid (((X1.out.set0 s).set1 (.slice A1 n c1)).cell1)
        have Hb3 := Lib.hid ((Hb.out.setCell (p := ⟨w.heap.size + 1, 0, none⟩) (by show w.heap.size ≤ w.heap.size + 1; omega) (.int .i64 s)).setCell (p := ⟨w.heap.size + 1, 1, none⟩) (by show w.heap.size ≤ w.heap.size + 1; omega) (.slice A1 n c1))
        have Ho3 := Lib.hid ((Ho.out.far ⟨w.heap.size + 1, 0, none⟩ (fun g hA => by have := (Ho.out.ge hA).1; show g ≠ w.heap.size + 1; omega) (.int .i64 s)).far ⟨w.heap.size + 1, 1, none⟩ (fun g hA => by have := (Ho.out.ge hA).1; show g ≠ w.heap.size + 1; omega) (.slice A1 n c1))
        have Hg3 := Lib.hid ((Hg.out.far ⟨w.heap.size + 1, 0, none⟩ (fun g hA => by have := (Hg.out.ge hA).1; show g ≠ w.heap.size + 1; omega) (.int .i64 s)).far ⟨w.heap.size + 1, 1, none⟩ (fun g hA => by have := (Hg.out.ge hA).1; show g ≠ w.heap.size + 1; omega) (.slice A1 n c1))
        go_wp2_with fail
        have k0 := K0.out
        have k1 := K1.out
        refine bodyPost_ret (v := .tuple #[.agg #[.int .i64 s, .slice A1 n c1], .slice A2 n2 c2, .bool true]) (by simp [results, Tryd.results39, go_sem, k0, k1]) rfl ?_
        exact .inr ⟨_, _, _, _, _, _, _, .lives S os Hu0.out Hri.out Hno.out, rfl, Ho3.out.weaken (by omega), Hg3.out.weaken (by omega), Hb3.out⟩
  · have hbx : (u != 0) = true := by simpa using hu0
    have Hu0 : Hid (cs.getD p 0 ≠ 0) := Lib.hid (by rw [Hu.out]; exact hu0)
    clear hu0
    go_enter Tryd.func39, Tryd.ntmps39
    go_wp2_with fail
    have k0 := X1.out.cell0
    have k1 := X1.out.cell1
    refine bodyPost_ret (v := .tuple #[.agg #[.int .i64 0, .slice none 0 0], .slice none 0 0, .bool false]) (by simp [results, Tryd.results39, go_sem]) rfl ?_
    exact .inl ⟨.taken Hu0.out, rfl, Hb.out⟩
end Go.Proofs.YteldfjibmaigiaaDoor
