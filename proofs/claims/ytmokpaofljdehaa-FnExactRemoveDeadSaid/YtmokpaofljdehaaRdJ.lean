/-
  The program's RemoveDead: for every board and every list.
-/
import Derived.Test.YtmokpaofljdehaaRdI
import Derived.Deep.RegionHeld3
namespace Go.Proofs.Ytmokpaofljdehaa
set_option maxRecDepth 100000
open Go.RowKit

theorem i_validDeadT (s : Int) (w : World) (B B' : Nat) (A P : Option Addr) (n c m pc : Nat) (cs ds : List Int) (h : Ints w B A n cs) (h' : Ints w B' P m ds) (hB : B ≤ w.heap.size) (hB' : B' ≤ w.heap.size) (hv : Bd.okB s cs = true) (hm : m ≤ 1048576) (b : Bool) (hD : Hid ((b = true → Dead s cs ds) ∧ (b = false → ¬ Dead s cs ds))) :
    Calls Try.prog 53 #[.agg #[.int .i64 s, .slice A n c], .slice P m pc] w fun e w' => e = .returned (.bool b) ∧ Below w.heap.size w w' := by
  refine (i_validDead s w B B' A P n c m pc cs ds h h' hB hB' hv hm).mono ?_
  rintro e w' ⟨b', rfl, h1, h2, h3⟩
  refine ⟨?_, h3⟩
  rcases Bool.eq_false_or_eq_true b with rfl | rfl <;> rcases Bool.eq_false_or_eq_true b' with rfl | rfl
  · rfl
  · exact absurd (hD.out.1 rfl) (h2 rfl)
  · exact absurd (h1 rfl) (hD.out.2 rfl)
  · rfl

theorem two_far {t : TypeId} {y : World} {g g2 : Nat} {s : Int} {v v2 : Value} {s2 : Int} (h : Bx t y g s v) (hne : g ≠ g2) : ((y.setCell ⟨g2, 0, none⟩ (.int .i64 s2)).setCell ⟨g2, 1, none⟩ v2).cell? ⟨g, 0, none⟩ = some (.int .i64 s) ∧ ((y.setCell ⟨g2, 0, none⟩ (.int .i64 s2)).setCell ⟨g2, 1, none⟩ v2).cell? ⟨g, 1, none⟩ = some v :=
  ⟨((h.far (p := ⟨g2, 0, none⟩) hne _).far (p := ⟨g2, 1, none⟩) hne _).cell0, ((h.far (p := ⟨g2, 0, none⟩) hne _).far (p := ⟨g2, 1, none⟩) hne _).cell1⟩
theorem two_far2 {t : TypeId} {y : World} {g : Nat} {s : Int} {v v2 : Value} {s2 : Int} {o : Obj} (h : Bx t y g s v) : (((y.alloc o).setCell ⟨y.heap.size, 0, none⟩ (.int .i64 s2)).setCell ⟨y.heap.size, 1, none⟩ v2).cell? ⟨g, 0, none⟩ = some (.int .i64 s) ∧ (((y.alloc o).setCell ⟨y.heap.size, 0, none⟩ (.int .i64 s2)).setCell ⟨y.heap.size, 1, none⟩ v2).cell? ⟨g, 1, none⟩ = some v :=
  two_far (h.alloc o) (by have := h.lt; omega)

/-- What RemoveDead leads to, at a board and a list. -/
def RmvE (s : Int) (cs ds : List Int) (w : World) (e : Ending) (w' : World) : Prop :=
  ∃ (ok : Bool) (s' : Int) (cs' : List Int) (A : Option Addr) (n c : Nat), Rmv s cs ds ok s' cs' ∧ e = .returned (.tuple #[.agg #[.int .i64 s', .slice A n c], .bool ok]) ∧ Own w' w.heap.size A n c cs' ∧ Below w.heap.size w w'

set_option maxRecDepth 100000 in
set_option maxHeartbeats 8000000 in
theorem i_Rmv (s : Int) (w : World) (B B' : Nat) (A P : Option Addr) (n c m pc : Nat) (cs ds : List Int) (h : Ints w B A n cs) (h' : Ints w B' P m ds) (hB : B ≤ w.heap.size) (hB' : B' ≤ w.heap.size) (hn : n ≤ 1048576) (hm : m ≤ 1048576) :
    Calls Try.prog 21 #[.agg #[.int .i64 s, .slice A n c], .slice P m pc] w fun e w' => RmvE s cs ds w e w' := by
  have e1 : (w.alloc (.cells #[.int .i64 s, .slice A n c] 29)).heap.size = w.heap.size + 1 := by simp
  have x0 := (Bx.new 29 w s (.slice A n c)).alloc (.cells #[.int .i64 0, .slice none 0 0] 29)
  have x1 := Bx.new 29 (w.alloc (.cells #[.int .i64 s, .slice A n c] 29)) 0 (.slice none 0 0)
  rw [e1] at x1
  have hb2 : Below w.heap.size w ((w.alloc (.cells #[.int .i64 s, .slice A n c] 29)).alloc (.cells #[.int .i64 0, .slice none 0 0] 29)) := ((Below.refl _ _).alloc (Nat.le_refl _) _).alloc (by simp) _
  have H := Lib.hid (h.below hb2 hB)
  have HP := Lib.hid (h'.below hb2 hB')
  have Hcl := Lib.hid h.1
  have Hdl := Lib.hid h'.1
  have X0 := Lib.hid x0
  have X1 := Lib.hid x1
  have Hb := Lib.hid hb2
  clear e1 x0 x1 hb2 h h'
  go_enter Try.func21, Try.ntmps21
  go_upto_region 1 with (fail)
  obtain ⟨y2, hy2⟩ : ∃ y, y = ((w.alloc (.cells #[.int .i64 s, .slice A n c] 29)).alloc (.cells #[.int .i64 0, .slice none 0 0] 29)) := ⟨_, rfl⟩
  rw [← hy2] at H HP X0 X1 Hb ⊢
  clear hy2
  have z2 := X1.out.lt
  have u00 := X0.out.cell0
  have u01 := X0.out.cell1
  have u02 := X0.out.lt
  rcases Bool.eq_false_or_eq_true (Bd.okB s cs) with hv | hv
  · obtain ⟨h1, h2, h3, _⟩ := (Bd.okB_iff s cs).1 hv
    have hsq := Pt.sq_bd s h1 h2
    have hn49 : n ≤ 49 := by have := Hcl.out; omega
    have hn0 : 0 < n := by
      have := Hcl.out
      have h9 := Int.mul_le_mul h1 h1 (by decide) (by omega)
      omega
    have Hv := Lib.hid hv
    clear h3
    by_cases hD : Dead s cs ds
    · have HD := Lib.hid hD
      clear hD
      go_wp2_with fail
      refine (i_validBoard _ _ _ _ _ _ _ H.out (by omega) (by omega)).mono ?_
      rintro e y3 ⟨rfl, hb⟩
      rw [hv]
      have X0 := Lib.hid (X0.out.below hb X0.out.lt)
      have X1 := Lib.hid (X1.out.below hb X1.out.lt)
      have H := Lib.hid (H.out.below hb (by omega))
      have HP := Lib.hid (HP.out.below hb (by omega))
      have Hb := Lib.hid (Hb.out.trans (hb.mono (by omega)))
      have z3 := hb.size
      clear hb u00 u01 u02 hv
      have u00 := X0.out.cell0
      have u01 := X0.out.cell1
      have u02 := X0.out.lt
      go_wp2_with fail
      refine (i_validDeadT s _ _ _ _ _ _ _ _ _ cs ds H.out HP.out (by omega) (by omega) Hv.out hm true (Lib.hid ⟨fun _ => HD.out, fun h => by cases h⟩)).mono ?_
      rintro e y4 ⟨rfl, hb⟩
      have X0 := Lib.hid (X0.out.below hb X0.out.lt)
      have X1 := Lib.hid (X1.out.below hb X1.out.lt)
      have H := Lib.hid (H.out.below hb (by omega))
      have HP := Lib.hid (HP.out.below hb (by omega))
      have Hb := Lib.hid (Hb.out.trans (hb.mono (by omega)))
      have z4 := hb.size
      clear hb u00 u01 u02
      have u00 := X0.out.cell0
      have u01 := X0.out.cell1
      have u02 := X0.out.lt
      go_wp2_with fail
      have hbz : Below y4.heap.size y4 (y4.alloc (.cells #[.int .i64 0, .slice none 0 0] 29)) := (Below.refl _ _).alloc (Nat.le_refl _) _
      have Hz := Lib.hid (H.out.below hbz (by omega))
      have X0z := Lib.hid (X0.out.below hbz X0.out.lt)
      have XZ := Lib.hid (Bx.new 29 y4 0 (.slice none 0 0))
      have Hbz := Lib.hid hbz
      have hne : w.heap.size ≠ y4.heap.size := by omega
      clear hbz
      go_cut [6] (fun p wx => CpRel s n cs y4 p wx)
      case first =>
        go_region_held3 (fun w' => w'.cell? ⟨w.heap.size, 0, none⟩ = some (.int .i64 s) ∧ w'.cell? ⟨w.heap.size, 1, none⟩ = some (.slice A n c)) (first | exact ⟨u00, u01⟩ | exact two_far HX0.out hne | exact two_far2 HX0.out | go_keep) (first | (go_at_call 54; refine (i_clone _ B _ n _ cs (by exact H.out) (by show B ≤ y4.heap.size; omega) (by omega) hn0).mono ?_; rintro e yc ⟨A3, c3, rfl, ho3, hb9⟩; have hbw : Below y4.heap.size y4 yc := ⟨hb9.os, hb9.tape, hb9.output, hb9.size, hb9.block⟩; have u00 := (X0.out.below hbw X0.out.lt).cell0; have u01 := (X0.out.below hbw X0.out.lt).cell1; have HX0 := Lib.hid (X0.out.below hbw X0.out.lt); have HO3 : Hid (Own yc y4.heap.size A3 n c3 cs) := Lib.hid ho3; have HB9 := Lib.hid hbw; clear ho3 hb9 hbw) | (go_at_call 54; refine (i_clone _ B _ n _ cs (by exact Hz.out) (by show B ≤ (y4.alloc _).heap.size; simp; omega) (by omega) hn0).mono ?_; rintro e yc ⟨A3, c3, rfl, ho3, hb9⟩; have hbw : Below (y4.alloc (.cells #[.int .i64 0, .slice none 0 0] 29)).heap.size (y4.alloc (.cells #[.int .i64 0, .slice none 0 0] 29)) yc := ⟨hb9.os, hb9.tape, hb9.output, hb9.size, hb9.block⟩; have HX0 := Lib.hid (X0z.out.below hbw X0z.out.lt); have X9 := Lib.hid (XZ.out.below hbw XZ.out.lt); have u00 := (X0z.out.below hbw X0z.out.lt).cell0; have u01 := (X0z.out.below hbw X0z.out.lt).cell1; have k9_0 := X9.out.cell0; have k9_1 := X9.out.cell1; have k9_2 := X9.out.frozen 0; have k9_3 := X9.out.frozen 1; have k9_4 := X9.out.lt; have HO3 : Hid (Own yc (y4.alloc (.cells #[.int .i64 0, .slice none 0 0] 29)).heap.size A3 n c3 cs) := Lib.hid ho3; have HB9 : Hid (Below y4.heap.size y4 yc) := Lib.hid (Hbz.out.trans (hbw.mono Hbz.out.size)); clear ho3 hb9 hbw))
        all_goals go_wp2_with fail
        all_goals go_meet
        all_goals first | exact CpRel.make HO3.out (Nat.le_refl _) HB9.out | exact CpRel.late2 HO3.out (Nat.le_refl _) HB9.out | exact CpRel.late X9.out HO3.out Hbz.out.size (.inl XZ.out.lt) HB9.out (Nat.le_refl _)
      case rest =>
        obtain ⟨A3, c3, gb, rfl, hx6, ho, hnq, hgb, hb⟩ := hcut
        obtain ⟨g, hA3⟩ : ∃ g, A3 = some ⟨g, 0, none⟩ := by
          obtain ⟨g, cap, hv, _⟩ := World.ownsRow.form ho.2 hn0
          exact ⟨g, by injection hv⟩
        subst hA3
        have hgne : g ≠ gb := hnq g rfl
        have hg1 := ho.ge rfl
        have X1 := Lib.hid (X1.out.below hb (by omega))
        have HP := Lib.hid (HP.out.below hb (by omega))
        have X6 := Lib.hid hx6
        have Hb := Lib.hid (Hb.out.trans (hb.mono (by omega)))
        have Ho := Lib.hid ho
        have zc := hb.size
        have Ht0 : Hid (clr cs (ds.take 0) = cs) := Lib.hid (by simp [clr])
        have Hg0 := Lib.hid (World.grownBy.refl wc (some g))
        have Ho0 : Hid (Own wc y4.heap.size (some ⟨g, 0, none⟩) n c3 (clr cs (ds.take 0))) := Lib.hid (by rw [Ht0.out]; exact Ho.out)
        clear hb hx6 ho hnq u00 u01 u02 hne
        go_wp2_with fail
        go_loopw [27] (fun v wr => ∃ k : Nat, k ≤ m ∧ v = .int .i64 (k : Nat) ∧ Own wr y4.heap.size (some ⟨g, 0, none⟩) n c3 (clr cs (ds.take k)) ∧ wc.grownBy wr (some g)) (fun v _ => m - (intOf v).toNat)
        case atStart => exact ⟨0, by omega, rfl, Ho0.out, Hg0.out⟩
        case round =>
          clear Ho0 Hg0 Ht0 Ho
          obtain ⟨k, hk, rfl, ho, hg⟩ := hrel
          have Ho := Lib.hid ho
          have Hg := Lib.hid hg
          have hgz := hg.size
          have Hbw := Lib.hid (below_g hg zc (fun q e => by injection e with e; omega))
          have X1 := Lib.hid (X1.out.below Hbw.out (by omega))
          have HP := Lib.hid (HP.out.below Hbw.out (by omega))
          have X6 := Lib.hid (X6.out.grown hg (fun e => hgne (by injection e with e; exact e.symm)))
          clear ho hg
          have x60 := X6.out.cell0
          have x61 := X6.out.cell1
          have x62 := X6.out.lt
          by_cases hkm : k < m
          · obtain ⟨bp, op, rfl, hbP, hcp⟩ : ∃ bp op, P = some ⟨bp, op, none⟩ ∧ bp < B' ∧ ∀ j, j < m → wr.cell? ⟨bp, op + j, none⟩ = some (.int .i64 (ds.getD j 0)) := by
              rcases HP.out.2 with h0 | ⟨b, o, hA, hbB, hc⟩
              · omega
              · exact ⟨b, o, hA, hbB, hc⟩
            have cz := hcp k hkm
            have hon := HD.out.on k (by rw [Hdl.out]; exact hkm)
            have Htk := Lib.hid (clr_take (cs := cs) (ds := ds) (i := k) (by rw [Hdl.out]; exact hkm))
            obtain ⟨d, hd⟩ : ∃ d, ds.getD k 0 = d := ⟨_, rfl⟩
            rw [hd] at cz hon Htk
            obtain ⟨e, rfl⟩ := Int.eq_ofNat_of_zero_le hon.1
            have hen : e < n := by have := Hcl.out; omega
            have hkm' : (k : Int) < m := by omega
            have Hst := Lib.hid (Own.stored Ho.out e 0)
            have Htk2 : Hid (clr cs (ds.take (k + 1)) = (clr cs (ds.take k)).set e 0) := Lib.hid (by rw [Htk.out, Int.toNat_natCast])
            obtain ⟨u, hu⟩ : ∃ u, wr.cell? ⟨g, e, none⟩ = some u := by
              have := World.ownsRow.cellAt Ho.out.2 e (by omega)
              rw [this]
              exact ⟨_, List.getElem?_eq_getElem (by rw [List.length_map, Ho.out.1]; exact hen)⟩
            have hf := World.ownsRow.frozenAt Ho.out.2 e
            clear hcp hd hon Htk
            go_wp2_with fail
            go_roundw
            case rel => exact ⟨k + 1, by omega, by go_num, by rw [Htk2.out]; exact Hst.out.1, gtrans Hg.out Hst.out.2⟩
            case measure => simp [intOf]; omega
          · have hfull : ds.take k = ds := List.take_of_length_le (by rw [Hdl.out]; omega)
            have Ho : Hid (Own wr y4.heap.size (some ⟨g, 0, none⟩) n c3 (clr cs ds)) := Lib.hid (by have h9 := Ho.out; rw [hfull] at h9; exact h9)
            have Hb := Lib.hid (Hb.out.trans (Hbw.out.mono (by omega)))
            have K0 := Lib.hid ((X1.out.set0 s).cell0)
            have K1 := Lib.hid (((X1.out.set0 s).set1 (.slice (some ⟨g, 0, none⟩) n c3)).cell1)
            have Hb3 := Lib.hid ((Hb.out.setCell (p := ⟨w.heap.size + 1, 0, none⟩) (by show w.heap.size ≤ w.heap.size + 1; omega) (.int .i64 s)).setCell (p := ⟨w.heap.size + 1, 1, none⟩) (by show w.heap.size ≤ w.heap.size + 1; omega) (.slice (some ⟨g, 0, none⟩) n c3))
            have Ho3 := Lib.hid ((Ho.out.far ⟨w.heap.size + 1, 0, none⟩ (fun g hA => by have := (Ho.out.ge hA).1; show g ≠ w.heap.size + 1; omega) (.int .i64 s)).far ⟨w.heap.size + 1, 1, none⟩ (fun g hA => by have := (Ho.out.ge hA).1; show g ≠ w.heap.size + 1; omega) (.slice (some ⟨g, 0, none⟩) n c3))
            have t0 := X1.out.cell0
            have t1 := X1.out.cell1
            have t2 := X1.out.frozen 0
            have t3 := X1.out.frozen 1
            have t4 := X1.out.lt
            clear hfull
            go_wp2_with fail
            have k0 := K0.out
            have k1 := K1.out
            refine bodyPost_ret (v := .tuple #[.agg #[.int .i64 s, .slice (some ⟨g, 0, none⟩) n c3], .bool true]) (by simp [results, Try.results21, go_sem, k0, k1]) rfl ?_
            exact ⟨true, s, _, _, _, _, .inl ⟨rfl, Hv.out, HD.out, rfl, rfl⟩, rfl, Ho3.out.weaken (by omega), Hb3.out⟩
    · have HD := Lib.hid hD
      have HN : Hid (¬ (Bd.okB s cs = true ∧ Dead s cs ds)) := Lib.hid (fun h => hD h.2)
      clear hD
      go_wp2_with fail
      refine (i_validBoard _ _ _ _ _ _ _ H.out (by omega) (by omega)).mono ?_
      rintro e y3 ⟨rfl, hb⟩
      rw [hv]
      have X0 := Lib.hid (X0.out.below hb X0.out.lt)
      have X1 := Lib.hid (X1.out.below hb X1.out.lt)
      have H := Lib.hid (H.out.below hb (by omega))
      have HP := Lib.hid (HP.out.below hb (by omega))
      have Hb := Lib.hid (Hb.out.trans (hb.mono (by omega)))
      have z3 := hb.size
      clear hb u00 u01 u02 hv
      have u00 := X0.out.cell0
      have u01 := X0.out.cell1
      have u02 := X0.out.lt
      go_wp2_with fail
      refine (i_validDeadT s _ _ _ _ _ _ _ _ _ cs ds H.out HP.out (by omega) (by omega) Hv.out hm false (Lib.hid ⟨fun h => (by cases h), fun _ => HD.out⟩)).mono ?_
      rintro e y4 ⟨rfl, hb⟩
      have X1 := Lib.hid (X1.out.below hb X1.out.lt)
      have Hb := Lib.hid (Hb.out.trans (hb.mono (by omega)))
      have z4 := hb.size
      clear hb u00 u01 u02
      have K0 := Lib.hid ((X1.out.set0 0).cell0)
      have K1 := Lib.hid (((X1.out.set0 0).set1 (.slice none 0 0)).cell1)
      have Hb3 := Lib.hid ((Hb.out.setCell (p := ⟨w.heap.size + 1, 0, none⟩) (by show w.heap.size ≤ w.heap.size + 1; omega) (.int .i64 0)).setCell (p := ⟨w.heap.size + 1, 1, none⟩) (by show w.heap.size ≤ w.heap.size + 1; omega) (.slice none 0 0))
      have t0 := X1.out.cell0
      have t1 := X1.out.cell1
      have t2 := X1.out.frozen 0
      have t3 := X1.out.frozen 1
      have t4 := X1.out.lt
      go_wp2_with fail
      have k0 := K0.out
      have k1 := K1.out
      refine bodyPost_ret (v := .tuple #[.agg #[.int .i64 0, .slice none 0 0], .bool false]) (by simp [results, Try.results21, go_sem, k0, k1]) rfl ?_
      exact ⟨false, 0, [], _, _, _, .inr ⟨rfl, HN.out, rfl, rfl⟩, rfl, Own.nil _ _, Hb3.out⟩
  · have HN : Hid (¬ (Bd.okB s cs = true ∧ Dead s cs ds)) := Lib.hid (fun h => by rw [hv] at h; cases h.1)
    go_wp2_with fail
    refine (i_validBoard _ _ _ _ _ _ _ H.out (by omega) (by omega)).mono ?_
    rintro e y3 ⟨rfl, hb⟩
    rw [hv]
    have X0 := Lib.hid (X0.out.below hb X0.out.lt)
    have X1 := Lib.hid (X1.out.below hb X1.out.lt)
    have H := Lib.hid (H.out.below hb (by omega))
    have HP := Lib.hid (HP.out.below hb (by omega))
    have Hb := Lib.hid (Hb.out.trans (hb.mono (by omega)))
    have z3 := hb.size
    clear hb u00 u01 u02 hv
    have u00 := X0.out.cell0
    have u01 := X0.out.cell1
    have u02 := X0.out.lt
    have K0 := Lib.hid ((X1.out.set0 0).cell0)
    have K1 := Lib.hid (((X1.out.set0 0).set1 (.slice none 0 0)).cell1)
    have Hb3 := Lib.hid ((Hb.out.setCell (p := ⟨w.heap.size + 1, 0, none⟩) (by show w.heap.size ≤ w.heap.size + 1; omega) (.int .i64 0)).setCell (p := ⟨w.heap.size + 1, 1, none⟩) (by show w.heap.size ≤ w.heap.size + 1; omega) (.slice none 0 0))
    have t0 := X1.out.cell0
    have t1 := X1.out.cell1
    have t2 := X1.out.frozen 0
    have t3 := X1.out.frozen 1
    have t4 := X1.out.lt
    go_wp2_with fail
    have k0 := K0.out
    have k1 := K1.out
    refine bodyPost_ret (v := .tuple #[.agg #[.int .i64 0, .slice none 0 0], .bool false]) (by simp [results, Try.results21, go_sem, k0, k1]) rfl ?_
    exact ⟨false, 0, [], _, _, _, .inr ⟨rfl, HN.out, rfl, rfl⟩, rfl, Own.nil _ _, Hb3.out⟩
end Go.Proofs.Ytmokpaofljdehaa
