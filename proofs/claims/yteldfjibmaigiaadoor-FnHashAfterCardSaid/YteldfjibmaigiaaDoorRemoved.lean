/-
  The model's 'removed'.
-/
import Derived.Test.YteldfjibmaigiaaDoorRmPure
import Derived.Test.YteldfjibmaigiaaDoorInvS
namespace Go.Proofs.YteldfjibmaigiaaDoor
set_option maxRecDepth 100000
open Go.RowKit

set_option maxRecDepth 100000 in
set_option maxHeartbeats 4000000 in
theorem s_removed (s x : Int) (w : World) (B : Nat) (A : Option Addr) (n c : Nat) (cs : List Int) (h : Ints w B A n cs) (hB : B ≤ w.heap.size) (h1 : 1 ≤ s) (h2 : s ≤ 7) (hn : (n : Int) = s * s) :
    Calls Tryd.prog 64 #[.agg #[.int .i64 s, .slice A n c], .int .i64 x] w fun e w' => ∃ A1 c1 A2 n2 c2 S os, e = .returned (.tuple #[.agg #[.int .i64 s, .slice A1 n c1], .slice A2 n2 c2]) ∧
      Own w' w.heap.size A1 n c1 os ∧ Own w' w.heap.size A2 n2 c2 (Fl.pts S n) ∧ RI s n cs x n S os ∧ Below w.heap.size w w' := by
  have hsq := Pt.sq_bd s h1 h2
  have hn49 : n ≤ 49 := by omega
  have e1 : (w.alloc (.cells #[.int .i64 s, .slice A n c] 25)).heap.size = w.heap.size + 1 := by simp
  have x0 := (Bx.new 25 w s (.slice A n c)).alloc (.cells #[.int .i64 0, .slice none 0 0] 25)
  have x1 := Bx.new 25 (w.alloc (.cells #[.int .i64 s, .slice A n c] 25)) 0 (.slice none 0 0)
  rw [e1] at x1
  have hb2 : Below w.heap.size w ((w.alloc (.cells #[.int .i64 s, .slice A n c] 25)).alloc (.cells #[.int .i64 0, .slice none 0 0] 25)) := ((Below.refl _ _).alloc (Nat.le_refl _) _).alloc (by simp) _
  have Hst := Lib.hid (RI.start (s := s) (n := n) (cs := cs) x h.1)
  have H := Lib.hid (h.below hb2 hB)
  have X0 := Lib.hid x0
  have X1 := Lib.hid x1
  have Hb := Lib.hid hb2
  have Hn := Lib.hid hn
  clear e1 x0 x1 hb2 h hn
  go_enter Tryd.func64, Tryd.ntmps64
  go_wp2_with fail
  refine (s_copyBoard _ _ _ _ _ _ _ H.out (by simp; omega) (by omega)).mono ?_
  rintro e y ⟨A1, c1, rfl, ho, hb⟩
  have X0 := Lib.hid (X0.out.below hb X0.out.lt)
  have X1 := Lib.hid (X1.out.below hb X1.out.lt)
  have H := Lib.hid (H.out.below hb (by simp; omega))
  have Hb := Lib.hid (Hb.out.trans (hb.mono (by simp; omega)))
  have Ho := Lib.hid (ho.weaken (B' := w.heap.size + 1 + 1) (by simp))
  have Hr := Lib.hid (fun g (hA : A1 = some ⟨g, 0, none⟩) => (ho.ge hA).2)
  clear hb ho
  have z1 := X1.out.lt
  have u00 := X0.out.cell0
  have u01 := X0.out.cell1
  have u02 := X0.out.lt
  go_upto_region 2 with (fail)
  obtain ⟨y3, hy3, hb3, z3, z4⟩ := new_box y (.cells #[.int .i64 s, .slice A1 n c1] 25)
  have X3 : Hid (Bx 25 y3 y.heap.size s (.slice A1 n c1)) := Lib.hid (by rw [hy3]; exact Bx.new _ _ _ _)
  rw [← hy3]
  clear hy3 u00 u01
  have X0 := Lib.hid (X0.out.below hb3 X0.out.lt)
  have X1 := Lib.hid (X1.out.below hb3 X1.out.lt)
  have H := Lib.hid (H.out.below hb3 (by omega))
  have Ho := Lib.hid (Ho.out.below hb3)
  have Hb := Lib.hid (Hb.out.trans (hb3.mono (by omega)))
  clear hb3
  go_upto_region 3 with (fail)
  have Hog := Lib.hid (Own.bare y3 y3.heap.size (Nat.le_refl _))
  have Hbg := Lib.hid ((Below.refl y3.heap.size y3).alloc (Nat.le_refl _) (.cells #[] 3))
  have Ho := Lib.hid (Ho.out.below Hbg.out)
  have X3 := Lib.hid (X3.out.below Hbg.out X3.out.lt)
  go_wp2_with fail
  go_loopw [7, 8] (fun v i wr => ∃ k S os A4 n4 c4, k ≤ n ∧ i = .int .i64 (k : Nat) ∧ v = .slice A4 n4 c4 ∧ Own wr (w.heap.size + 1 + 1) A1 n c1 os ∧ Own wr y3.heap.size A4 n4 c4 (Fl.pts S k) ∧ RI s n cs x k S os ∧ Bx 25 wr y.heap.size s (.slice A1 n c1) ∧ Below (w.heap.size + 1 + 1) y3 wr) (fun _ i _ => n - (intOf i).toNat)
  case atStart => exact ⟨0, _, _, _, _, _, by omega, rfl, rfl, Ho.out, by exact Hog.out, Hst.out, X3.out, Hbg.out.mono (by omega)⟩
  case round =>
    clear X3 Ho Hog Hbg Hst
    obtain ⟨k, S, os, A4, n4, c4, hk, rfl, rfl, ho, hg, hri, hx3, hbr⟩ := hrel
    have hzr := hbr.size
    have hn4 : n4 ≤ 49 := by have := hg.1; have := Fl.pts_len S k; omega
    have X0r := Lib.hid (X0.out.below hbr (by omega))
    have X1r := Lib.hid (X1.out.below hbr (by omega))
    have Hir := Lib.hid (H.out.below hbr (by omega))
    have Ho := Lib.hid ho
    have Hg := Lib.hid hg
    have Hri := Lib.hid hri
    have X3 := Lib.hid hx3
    have Hbr := Lib.hid hbr
    clear ho hg hri hx3 hbr
    have v00 := X0r.out.cell0
    have v01 := X0r.out.cell1
    have v02 := X0r.out.lt
    by_cases hkn : k < n
    · obtain ⟨b, o, rfl, hbB, hc⟩ : ∃ b o, A = some ⟨b, o, none⟩ ∧ b < B ∧ ∀ j, j < n → wr.cell? ⟨b, o + j, none⟩ = some (.int .i64 (cs.getD j 0)) := by
        rcases Hir.out.2 with h0 | ⟨b, o, hA, hbB, hc⟩
        · omega
        · exact ⟨b, o, hA, hbB, hc⟩
      have hck := hc k hkn
      have hkk : (k : Int) < n := by omega
      clear hc
      obtain ⟨u, hx⟩ : ∃ u, cs.getD k 0 = u := ⟨_, rfl⟩
      have Hx := Lib.hid hx
      rw [hx] at hck
      clear hx
      by_cases hux : u = x
      · have hbx : (u == x) = true := by simpa using hux
        have Hux := Lib.hid hux
        clear hux
        go_wp2_with fail
        refine (s_liberties s k _ B _ n _ cs Hir.out (by omega) h1 h2 Hn.out hkn).mono ?_
        rintro e yl ⟨A5, m5, c5, l5, S5, rfl, hol, hrl, hbl, hbb⟩
        have hm5 : m5 ≤ 49 := by have := hol.1; have := Fl.pts_len S5 n; omega
        have Hiff := Lib.hid (noLib_iff hrl hbl)
        have Hm5 := Lib.hid hol.1
        have hzl := hbb.size
        have z7 := X3.out.lt
        have X3l := Lib.hid (X3.out.below hbb X3.out.lt)
        have Hol := Lib.hid (Ho.out.below hbb)
        have Hgl := Lib.hid (Hg.out.below hbb)
        have Hbrl := Lib.hid (Hbr.out.trans (hbb.mono (by omega)))
        clear hol hrl hbl hbb v00 v01 hck
        by_cases hm0 : m5 = 0
        · have hyes : cs.getD k 0 = x ∧ NoLib s n cs (k : Nat) := ⟨by rw [Hx.out]; exact Hux.out, Hiff.out.1 (by rw [Hm5.out]; exact hm0)⟩
          have Hri2 := Lib.hid (Hri.out.take hkn hyes)
          have Hpt := Lib.hid (show Fl.pts (S.set k true) (k + 1) = Fl.pts S k ++ [(k : Int)] by
            rw [Fl.pts_yes (by have hl : k < S.length := by { rw [Hri.out.len]; exact hkn }
                               simp [List.getD_eq_getElem?_getD, hl]), pts_set])
          clear hyes
          subst hm0
          obtain ⟨g, hA1⟩ : ∃ g, A1 = some ⟨g, 0, none⟩ := by
            obtain ⟨g, cap, hv, _⟩ := World.ownsRow.form Hol.out.2 (by omega)
            exact ⟨g, by injection hv⟩
          subst hA1
          have hg1 := (Hol.out.ge rfl).1
          have hg2 := Hr.out g rfl
          obtain ⟨u9, hu9⟩ : ∃ u, yl.cell? ⟨g, k, none⟩ = some u := by
            have := World.ownsRow.cellAt Hol.out.2 k (by omega)
            rw [this]
            exact ⟨_, List.getElem?_eq_getElem (by rw [List.length_map, Hol.out.1]; exact hkn)⟩
          have hf9 := World.ownsRow.frozenAt Hol.out.2 k
          have w30 := X3l.out.cell0
          have w31 := X3l.out.cell1
          have w32 := X3l.out.lt
          have HoS := Lib.hid (Hol.out.stored k 0).1
          have HgS := Lib.hid (Hgl.out.far ⟨g, k, none⟩ (fun g2 hA => by have := (Hgl.out.ge hA).1; show g2 ≠ g; omega) (.int .i64 0))
          have Hes := Lib.hid (show (yl.setCell ⟨g, k, none⟩ (.int .i64 0)).heap.size = yl.heap.size by simp [World.setCell])
          go_wp2_with (at_builtin; refine app1at rfl _ _ rfl (yl.setCell ⟨g, k, none⟩ (.int .i64 0)) _ _ _ _ _ _ _ rfl rfl Hes.out HgS.out (by rw [Hes.out]; omega) (by omega) ?_; intro A' c' w9 hown' hlt' hgrow hloc')
          rw [Hes.out] at hlt'
          have hfa : ∀ q, (Value.slice A4 n4 c4).ownBlock = some q → y3.heap.size ≤ q := fun q e2 => (HgS.out.ge (own_block HgS.out e2)).1
          have ho9 : Own w9 (w.heap.size + 1 + 1) (some ⟨g, 0, none⟩) n c1 (os.set k 0) := HoS.out.kept hgrow (fun q e e2 => by injection e with e; injection e with e; have := hfa q e2; omega)
          have hx9 := (X3l.out.far (p := ⟨g, k, none⟩) (by show y.heap.size ≠ g; omega) (.int .i64 0)).grown hgrow (fun e => by have := hfa _ e.symm; omega)
          have hbr9 := (Hbrl.out.setCell (p := ⟨g, k, none⟩) hg1 (.int .i64 0)).grown hgrow (by rw [Hes.out]; omega) (fun q hq => by have := hfa q hq; omega)
          have Ho9 := Lib.hid ho9
          have Hx9 := Lib.hid hx9
          have Hbr9 := Lib.hid hbr9
          have Hg9 := Lib.hid hown'
          clear hown' hgrow hloc' hfa ho9 hx9 hbr9 hu9 hf9
          go_roundw
          case rel => exact ⟨k + 1, _, _, _, _, _, by omega, by go_num, rfl, Ho9.out, by rw [Hpt.out]; exact Hg9.out, Hri2.out, Hx9.out, Hbr9.out⟩
          case measure => simp [intOf]; omega
        · have Hri2 := Lib.hid (Hri.out.no (fun h => hm0 (by rw [← Hm5.out]; exact Hiff.out.2 h.2)))
          have Hpt := Lib.hid (show Fl.pts S (k + 1) = Fl.pts S k from Fl.pts_no (by
            rcases Bool.eq_false_or_eq_true (S.getD k false) with h | h
            · have := ((Hri.out.yes k hkn).1 h).1; omega
            · exact h))
          go_wp2_with fail
          go_roundw
          case rel => exact ⟨k + 1, _, _, _, _, _, by omega, by go_num, rfl, Hol.out, by rw [Hpt.out]; exact Hgl.out, Hri2.out, X3l.out, Hbrl.out⟩
          case measure => simp [intOf]; omega
      · have hbx : (u == x) = false := by simpa using hux
        have Hri2 := Lib.hid (Hri.out.no (fun h => hux (by rw [← Hx.out]; exact h.1)))
        have Hpt := Lib.hid (show Fl.pts S (k + 1) = Fl.pts S k from Fl.pts_no (by
            rcases Bool.eq_false_or_eq_true (S.getD k false) with h | h
            · have := ((Hri.out.yes k hkn).1 h).1; omega
            · exact h))
        clear hux
        go_wp2_with fail
        go_roundw
        case rel => exact ⟨k + 1, _, _, _, _, _, by omega, by go_num, rfl, Ho.out, by rw [Hpt.out]; exact Hg.out, Hri2.out, X3.out, Hbr.out⟩
        case measure => simp [intOf]; omega
    · have hbw : Below w.heap.size w wr := Hb.out.trans (Hbr.out.mono (by omega))
      obtain rfl : k = n := by omega
      have ho2 := (Ho.out.far ⟨w.heap.size + 1, 0, none⟩ (fun g hA => by have := (Ho.out.ge hA).1; show g ≠ w.heap.size + 1; omega) (.int .i64 s)).far ⟨w.heap.size + 1, 1, none⟩ (fun g hA => by have := (Ho.out.ge hA).1; show g ≠ w.heap.size + 1; omega) (.slice A1 k c1)
      have hg2 := (Hg.out.far ⟨w.heap.size + 1, 0, none⟩ (fun g hA => by have := (Hg.out.ge hA).1; show g ≠ w.heap.size + 1; omega) (.int .i64 s)).far ⟨w.heap.size + 1, 1, none⟩ (fun g hA => by have := (Hg.out.ge hA).1; show g ≠ w.heap.size + 1; omega) (.slice A1 k c1)
      have hb3 := (hbw.setCell (p := ⟨w.heap.size + 1, 0, none⟩) (by show w.heap.size ≤ w.heap.size + 1; omega) (.int .i64 s)).setCell (p := ⟨w.heap.size + 1, 1, none⟩) (by show w.heap.size ≤ w.heap.size + 1; omega) (.slice A1 k c1)
      have Ho2 := Lib.hid ho2
      have Hg2 := Lib.hid hg2
      have Hb3 := Lib.hid hb3
      have K0 := Lib.hid ((X1r.out.set0 s).cell0)
      have K1 := Lib.hid (((X1r.out.set0 s).set1 (.slice A1 k c1)).cell1)
      have v30 := X3.out.cell0
      have v31 := X3.out.cell1
      have v32 := X3.out.lt
      have v10 := X1r.out.cell0
      have v11 := X1r.out.cell1
      have v12 := X1r.out.frozen 0
      have v13 := X1r.out.frozen 1
      have v14 := X1r.out.lt
      clear ho2 hg2 hb3 hbw
      go_wp2_with fail
      have k0 := K0.out
      have k1 := K1.out
      refine bodyPost_ret (v := .tuple #[.agg #[.int .i64 s, .slice A1 k c1], .slice A4 n4 c4]) (by simp [results, Tryd.results64, go_sem, k0, k1]) rfl ?_
      exact ⟨_, _, _, _, _, S, os, rfl, Ho2.out.weaken (by omega), Hg2.out.weaken (by omega), Hri.out, Hb3.out⟩
end Go.Proofs.YteldfjibmaigiaaDoor
