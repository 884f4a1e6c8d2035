/-
  The model's RemoveDead: for every board and every list.
-/
import Derived.Test.YtmokpaofljdehaaRdJ
import Derived.Test.YtmokpaofljdehaaCopyB
import Derived.Test.YtmokpaofljdehaaIsIn
namespace Go.Proofs.Ytmokpaofljdehaa
set_option maxRecDepth 100000
open Go.RowKit

/-- The first i dead points have stones and whole groups. -/
def DGr (s : Int) (cs ds : List Int) (i : Nat) : Prop := ∀ j, j < i → cs.getD (ds.getD j 0).toNat 0 ≠ 0 ∧ ∀ q ∈ Pt.nbs s (ds.getD j 0), cs.getD q.toNat 0 = cs.getD (ds.getD j 0).toNat 0 → q ∈ ds
theorem DGr.start (s : Int) (cs ds : List Int) : DGr s cs ds 0 := fun j hj => absurd hj (Nat.not_lt_zero j)
theorem DGr.step {s : Int} {cs ds : List Int} {i : Nat} (h : DGr s cs ds i) (h1 : cs.getD (ds.getD i 0).toNat 0 ≠ 0) (h2 : ∀ q ∈ Pt.nbs s (ds.getD i 0), cs.getD q.toNat 0 = cs.getD (ds.getD i 0).toNat 0 → q ∈ ds) : DGr s cs ds (i + 1) := by
  intro j hj
  by_cases e : j = i
  · subst e; exact ⟨h1, h2⟩
  · exact h j (by omega)
theorem Dead.ofAsc {s : Int} {cs ds : List Int} {n : Nat} (hl : cs.length = n) (h : ascIn ds 0 ((n : Int) - 1) = true) (hg : DGr s cs ds ds.length) : Dead s cs ds := by
  rw [ascIn, Bool.and_eq_true, ascAt_iff, inAt_iff] at h
  exact ⟨h.1, fun i hi => by have := h.2 i hi; omega, fun i hi => (hg i hi).1, fun i hi => (hg i hi).2⟩
theorem Dead.asc_yes {s : Int} {cs ds : List Int} {n : Nat} (hl : cs.length = n) (h : Dead s cs ds) : ascIn ds 0 ((n : Int) - 1) = true := by
  rw [ascIn, Bool.and_eq_true, ascAt_iff, inAt_iff]
  exact ⟨h.asc, fun i hi => by have := h.on i hi; omega⟩

set_option maxRecDepth 100000 in
set_option maxHeartbeats 8000000 in
theorem s_Rmv (s : Int) (w : World) (B B' : Nat) (A P : Option Addr) (n c m pc : Nat) (cs ds : List Int) (h : Ints w B A n cs) (h' : Ints w B' P m ds) (hB : B ≤ w.heap.size) (hB' : B' ≤ w.heap.size) (hn : n ≤ 1048576) (hm : m ≤ 1048576) :
    Calls Try.prog 18 #[.agg #[.int .i64 s, .slice A n c], .slice P m pc] w fun e w' => RmvE s cs ds w e w' := by
  have e1 : (w.alloc (.cells #[.int .i64 s, .slice A n c] 29)).heap.size = w.heap.size + 1 := by simp
  have x0 := (Bx.new 29 w s (.slice A n c)).alloc (.cells #[.int .i64 0, .slice none 0 0] 29)
  have x1 := Bx.new 29 (w.alloc (.cells #[.int .i64 s, .slice A n c] 29)) 0 (.slice none 0 0)
  rw [e1] at x1
  have hb2 : Below w.heap.size w ((w.alloc (.cells #[.int .i64 s, .slice A n c] 29)).alloc (.cells #[.int .i64 0, .slice none 0 0] 29)) := ((Below.refl _ _).alloc (Nat.le_refl _) _).alloc (by simp) _
  have H := Lib.hid (h.below hb2 hB)
  have HP := Lib.hid (h'.below hb2 hB')
  have Hcl := Lib.hid h.1
  have Hdl := Lib.hid h'.1
  have X0 := Lib.hid x0
  have X1 := Lib.hid x1
  have Hb := Lib.hid hb2
  clear e1 x0 x1 hb2 h h'
  go_enter Try.func18, Try.ntmps18
  go_upto_region 1 with (fail)
  obtain ⟨y2, hy2⟩ : ∃ y, y = ((w.alloc (.cells #[.int .i64 s, .slice A n c] 29)).alloc (.cells #[.int .i64 0, .slice none 0 0] 29)) := ⟨_, rfl⟩
  rw [← hy2] at H HP X0 X1 Hb ⊢
  clear hy2
  have z2 := X1.out.lt
  have u00 := X0.out.cell0
  have u01 := X0.out.cell1
  have u02 := X0.out.lt
  rcases Bool.eq_false_or_eq_true (Bd.okB s cs) with hv | hv
  · obtain ⟨h1, h2, h3, _⟩ := (Bd.okB_iff s cs).1 hv
    have hsq := Pt.sq_bd s h1 h2
    have hnq : (n : Int) = s * s := by have := Hcl.out; omega
    have hn49 : n ≤ 49 := by omega
    have hn0 : 0 < n := by
      have h9 := Int.mul_le_mul h1 h1 (by decide) (by omega)
      omega
    have Hnn := Lib.hid (nbs_in h1 h2 hnq)
    have Hv := Lib.hid hv
    have Hnq := Lib.hid hnq
    clear h3 hnq
    have wn : IntKind.i64.wrap ((n : Int) - 1) = (n : Int) - 1 := by simp [IntKind.wrap, IntKind.bits, IntKind.signed]; omega
    go_wp2_with fail
    refine (s_validBoard _ _ _ _ _ _ _ H.out (by omega) (by omega)).mono ?_
    rintro e y3 ⟨rfl, hb⟩
    rw [hv]
    have X0 := Lib.hid (X0.out.below hb X0.out.lt)
    have X1 := Lib.hid (X1.out.below hb X1.out.lt)
    have H := Lib.hid (H.out.below hb (by omega))
    have HP := Lib.hid (HP.out.below hb (by omega))
    have Hb := Lib.hid (Hb.out.trans (hb.mono (by omega)))
    have z3 := hb.size
    clear hb u00 u01 u02 hv
    have u00 := X0.out.cell0
    have u01 := X0.out.cell1
    have u02 := X0.out.lt
    go_wp2_with fail
    refine (s_asc _ _ _ _ _ ds 0 _ HP.out (by omega)).mono ?_
    rintro e y4 ⟨rfl, qa, hqa⟩
    have hy34 : Below y3.heap.size y3 y4 := by rw [hqa]; exact drew_below (Below.refl _ _) qa
    have X0 := Lib.hid (X0.out.below hy34 X0.out.lt)
    have X1 := Lib.hid (X1.out.below hy34 X1.out.lt)
    have H := Lib.hid (H.out.below hy34 (by omega))
    have HP := Lib.hid (HP.out.below hy34 (by omega))
    have Hb := Lib.hid (Hb.out.trans (hy34.mono (by omega)))
    have z4 := hy34.size
    clear hqa hy34 u00 u01 u02
    have u00 := X0.out.cell0
    have u01 := X0.out.cell1
    have u02 := X0.out.lt
    obtain ⟨ba, hba⟩ : ∃ ba, ascIn ds 0 ((n : Int) - 1) = ba := ⟨_, rfl⟩
    rw [hba]
    rcases Bool.eq_false_or_eq_true ba with rfl | rfl
    · have Hba := Lib.hid hba
      clear hba
      go_wp2_with fail
      refine (s_copyBoard s _ _ _ _ _ cs H.out (by omega) (by omega)).mono ?_
      rintro e y5 ⟨A3, c3, rfl, ho, hb⟩
      obtain ⟨g, hA3⟩ : ∃ g, A3 = some ⟨g, 0, none⟩ := by
        obtain ⟨g, cap, hv, _⟩ := World.ownsRow.form ho.2 hn0
        exact ⟨g, by injection hv⟩
      subst hA3
      have hg1 := ho.ge rfl
      have X0 := Lib.hid (X0.out.below hb X0.out.lt)
      have X1 := Lib.hid (X1.out.below hb X1.out.lt)
      have H := Lib.hid (H.out.below hb (by omega))
      have HP := Lib.hid (HP.out.below hb (by omega))
      have Hb := Lib.hid (Hb.out.trans (hb.mono (by omega)))
      have z5 := hb.size
      have Ho := Lib.hid ho
      clear hb ho u00 u01 u02
      go_upto_region 4 with (fail)
      obtain ⟨y6, hy6, hb6, z6, z6'⟩ := new_box y5 (.cells #[.int .i64 s, .slice (some ⟨g, 0, none⟩) n c3] 29)
      have X6 : Hid (Bx 29 y6 y5.heap.size s (.slice (some ⟨g, 0, none⟩) n c3)) := Lib.hid (by rw [hy6]; exact Bx.new _ _ _ _)
      rw [← hy6]
      clear hy6
      have X0 := Lib.hid (X0.out.below hb6 X0.out.lt)
      have X1 := Lib.hid (X1.out.below hb6 X1.out.lt)
      have H := Lib.hid (H.out.below hb6 (by omega))
      have HP := Lib.hid (HP.out.below hb6 (by omega))
      have Hb := Lib.hid (Hb.out.trans (hb6.mono (by omega)))
      have Ho := Lib.hid (Ho.out.below hb6)
      have Hg0 := Lib.hid (DGr.start s cs ds)
      have Ht0 : Hid (clr cs (ds.take 0) = cs) := Lib.hid (by simp [clr])
      have Ho0 : Hid (Own y6 y4.heap.size (some ⟨g, 0, none⟩) n c3 (clr cs (ds.take 0))) := Lib.hid (by rw [Ht0.out]; exact Ho.out)
      have Hr0 := Lib.hid (World.grownBy.refl y6 (some g))
      clear hb6
      go_wp2_with fail
      go_loopw [7] (fun v wr => ∃ k : Nat, k ≤ m ∧ v = .int .i64 (k : Nat) ∧ DGr s cs ds k ∧ Own wr y4.heap.size (some ⟨g, 0, none⟩) n c3 (clr cs (ds.take k)) ∧ y6.grownBy wr (some g)) (fun v _ => m - (intOf v).toNat)
      case atStart => exact ⟨0, by omega, rfl, Hg0.out, Ho0.out, Hr0.out⟩
      case round =>
        clear Hg0 Ho0 Hr0 Ho Ht0
        obtain ⟨wo, rfl⟩ : ∃ wo : World, wo = wr := ⟨_, rfl⟩
        obtain ⟨k, hk, rfl, hdg, ho, hg⟩ := hrel
        have Hdg := Lib.hid hdg
        have Ho := Lib.hid ho
        have Hg := Lib.hid hg
        have hgz := hg.size
        have Hbw := Lib.hid (below_g (B := y4.heap.size) hg (by omega) (fun q e => by injection e with e; omega))
        have X0 := Lib.hid (X0.out.below Hbw.out (by omega))
        have X1 := Lib.hid (X1.out.below Hbw.out (by omega))
        have H := Lib.hid (H.out.below Hbw.out (by omega))
        have HP := Lib.hid (HP.out.below Hbw.out (by omega))
        have X6 := Lib.hid (X6.out.grown hg (fun e => by injection e with e; omega))
        clear hdg ho hg
        have x00 := X0.out.cell0
        have x01 := X0.out.cell1
        have x02 := X0.out.lt
        by_cases hkm : k < m
        · obtain ⟨bp, op, rfl, hbP, hcp⟩ : ∃ bp op, P = some ⟨bp, op, none⟩ ∧ bp < B' ∧ ∀ j, j < m → wo.cell? ⟨bp, op + j, none⟩ = some (.int .i64 (ds.getD j 0)) := by
            rcases HP.out.2 with h0 | ⟨b, o, hA, hbB, hc⟩
            · omega
            · exact ⟨b, o, hA, hbB, hc⟩
          obtain ⟨b, o, rfl, hbB, hc⟩ : ∃ b o, A = some ⟨b, o, none⟩ ∧ b < B ∧ ∀ j, j < n → wo.cell? ⟨b, o + j, none⟩ = some (.int .i64 (cs.getD j 0)) := by
            rcases H.out.2 with h0 | ⟨b, o, hA, hbB, hc⟩
            · omega
            · exact ⟨b, o, hA, hbB, hc⟩
          have cz := hcp k hkm
          have hkl : k < ds.length := by rw [Hdl.out]; exact hkm
          have hon : 0 ≤ ds.getD k 0 ∧ ds.getD k 0 ≤ (n : Int) - 1 := by
            have h9 := Hba.out
            rw [ascIn, Bool.and_eq_true, inAt_iff] at h9
            exact h9.2 k hkl
          have Htk := Lib.hid (clr_take (cs := cs) (ds := ds) (i := k) hkl)
          have Hkl := Lib.hid hkl
          obtain ⟨d, hd⟩ : ∃ d, ds.getD k 0 = d := ⟨_, rfl⟩
          rw [hd] at cz hon Htk
          obtain ⟨e, rfl⟩ := Int.eq_ofNat_of_zero_le hon.1
          have Hd := Lib.hid hd
          have hen : e < n := by omega
          have ce := hc e hen
          obtain ⟨x, hx⟩ : ∃ x, cs.getD e 0 = x := ⟨_, rfl⟩
          rw [hx] at ce
          have Hx := Lib.hid hx
          have hkm' : (k : Int) < m := by omega
          have heI : (e : Int) < n := by omega
          clear hcp hc hd hx hkl hon
          by_cases hx0 : x = 0
          · have HN : Hid (¬ (Bd.okB s cs = true ∧ Dead s cs ds)) := Lib.hid (fun h => by
              have := h.2.stone k Hkl.out
              rw [Hd.out, Int.toNat_natCast, Hx.out] at this
              exact this hx0)
            have hxb : (x == 0) = true := by simpa using hx0
            have Hb := Lib.hid (Hb.out.trans (Hbw.out.mono (by omega)))
            clear hx0
            go_wp2_with fail
            go_quiet (fail)
            have K0 := Lib.hid (((X1.out.drewN nq).set0 0).cell0)
            have K1 := Lib.hid ((((X1.out.drewN nq).set0 0).set1 (.slice none 0 0)).cell1)
            have Hb3 := Lib.hid (((drew_below Hb.out nq).setCell (p := ⟨w.heap.size + 1, 0, none⟩) (by show w.heap.size ≤ w.heap.size + 1; omega) (.int .i64 0)).setCell (p := ⟨w.heap.size + 1, 1, none⟩) (by show w.heap.size ≤ w.heap.size + 1; omega) (.slice none 0 0))
            have t0 := X1.out.cell0
            have t1 := X1.out.cell1
            have t2 := X1.out.frozen 0
            have t3 := X1.out.frozen 1
            have t4 := X1.out.lt
            go_wp2_with fail
            have k0 := K0.out
            have k1 := K1.out
            refine bodyPost_ret (v := .tuple #[.agg #[.int .i64 0, .slice none 0 0], .bool false]) (by simp [results, Try.results18, go_sem, k0, k1]) rfl ?_
            exact ⟨false, 0, [], _, _, _, .inr ⟨rfl, HN.out, rfl, rfl⟩, rfl, Own.nil _ _, Hb3.out⟩
          · have hxb : (x == 0) = false := by simpa using hx0
            have Hx0 := Lib.hid hx0
            clear hx0
            go_wp2_with fail
            go_quiet (fail)
            obtain ⟨w7, hw7⟩ : ∃ w7, w7 = wo.drewN nq := ⟨_, rfl⟩
            have hb7 : Below wo.heap.size wo w7 := by rw [hw7]; exact drew_below (Below.refl _ _) nq
            have Ho : Hid (Own w7 y4.heap.size (some ⟨g, 0, none⟩) n c3 (clr cs (ds.take k))) := Lib.hid (by rw [hw7]; exact Ho.out.drewN nq)
            have Hg : Hid (y6.grownBy w7 (some g)) := Lib.hid (by rw [hw7]; exact gtrans Hg.out (gdrewN _ _ _))
            rw [← hw7]
            clear hw7
            have X0 := Lib.hid (X0.out.below hb7 x02)
            have X1 := Lib.hid (X1.out.below hb7 (by omega))
            have X6 := Lib.hid (X6.out.below hb7 (by omega))
            have H := Lib.hid (H.out.below hb7 (by omega))
            have HP := Lib.hid (HP.out.below hb7 (by omega))
            have Hb := Lib.hid (Hb.out.trans ((Hbw.out.trans (hb7.mono (by omega))).mono (by omega)))
            have z7 := hb7.size
            have cz := (hb7.cell (p := ⟨bp, op + k, none⟩) (by show bp < _; omega)).trans cz
            clear hb7 x00 x01 x02 ce
            have x00 := X0.out.cell0
            have x01 := X0.out.cell1
            have x02 := X0.out.lt
            go_wp2_with fail
            go_region_held3 (fun w' => w'.cell? ⟨w.heap.size, 0, none⟩ = some (.int .i64 s) ∧ w'.cell? ⟨w.heap.size, 1, none⟩ = some (.slice (some ⟨b, o, none⟩) n c) ∧ w'.cell? ⟨bp, op + k, none⟩ = some (.int .i64 (e : Nat))) (first | exact ⟨x00, x01, cz⟩ | go_keep) (first | (go_at_call 50; refine (s_groupOf s e _ B _ n _ cs (by exact H.out) (by show B ≤ w7.heap.size; omega) h1 h2 Hnq.out hen).mono ?_; rintro e9 y8 ⟨A8, m8, c8, l, rfl, ho8, hr8, hb8⟩; have hbw : Below w7.heap.size w7 y8 := ⟨hb8.os, hb8.tape, hb8.output, hb8.size, hb8.block⟩; have Hb8 := Lib.hid hbw; have Ho8 : Hid (Own y8 w7.heap.size A8 m8 c8 l) := Lib.hid ho8; have Hr8 := Lib.hid hr8; have x00 := (X0.out.below hbw x02).cell0; have x01 := (X0.out.below hbw x02).cell1; have cz := (hbw.cell (p := ⟨bp, op + k, none⟩) (by show bp < _; omega)).trans cz; clear ho8 hr8 hb8 hbw))
            have z8 := Hb8.out.size
            have X1 := Lib.hid (X1.out.below Hb8.out (by omega))
            have X6 := Lib.hid (X6.out.below Hb8.out (by omega))
            have HP := Lib.hid (HP.out.below Hb8.out (by omega))
            have Ho := Lib.hid (Ho.out.below Hb8.out)
            have Hg := Lib.hid (gtrans Hg.out (gbelow (some g) Hb8.out (Nat.le_refl _)))
            have Hb := Lib.hid (Hb.out.trans (Hb8.out.mono (by omega)))
            have hm8 : m8 ≤ 49 := by
              obtain ⟨S8, hS8, _, hl8⟩ := Hr8.out
              have h9 := Fl.pts_len S8 n
              rw [← hl8, Ho8.out.1] at h9
              omega
            clear x00 x01 x02
            go_wp2_with fail
            go_loop [9] (fun v => ∃ j : Nat, j ≤ m8 ∧ v = .int .i64 (j : Nat) ∧ ∀ y ∈ l.take j, y ∈ ds) (fun v => m8 - (intOf v).toNat)
            case atStart => exact ⟨0, by omega, rfl, fun y hy => by simp at hy⟩
            case round =>
              obtain ⟨j, hj, rfl, hin⟩ := hrel
              have Hin := Lib.hid hin
              clear hin
              by_cases hjm : j < m8
              · obtain ⟨g8, hA8⟩ : ∃ g8, A8 = some ⟨g8, 0, none⟩ := by
                  obtain ⟨g, cap, hv, _⟩ := World.ownsRow.form Ho8.out.2 (by omega)
                  exact ⟨g, by injection hv⟩
                have hon := Ho8.out
                rw [hA8] at hon
                have hjl : j < l.length := by rw [hon.1]; exact hjm
                have hcl := hon.cellD j hjm
                have hel : l[j] = l.getD j 0 := by rw [List.getD_eq_getElem?_getD, List.getElem?_eq_getElem hjl]; rfl
                obtain ⟨z, hz⟩ : ∃ z, l.getD j 0 = z := ⟨_, rfl⟩
                rw [hz] at hcl hel
                have Hel := Lib.hid hel
                have hjI : (j : Int) < m8 := by omega
                rw [hA8]
                clear hon hel hz hA8
                by_cases hzd : z ∈ ds
                · have hdz : decide (z ∈ ds) = true := decide_eq_true hzd
                  have Hn2 : Hid (∀ y ∈ l.take (j + 1), y ∈ ds) := Lib.hid (fun y hy => by
                    rw [List.take_succ_eq_append_getElem hjl, List.mem_append, List.mem_singleton] at hy
                    rcases hy with hy | hy
                    · exact Hin.out y hy
                    · rw [hy, Hel.out]; exact hzd)
                  clear hzd
                  go_wp2_with fail
                  refine (s_isIn _ _ _ _ _ ds z HP.out (by omega)).mono ?_
                  rintro e9 w9 ⟨rfl, rfl⟩
                  rw [hdz]
                  clear hdz
                  go_wp2_with fail
                  go_round
                  case rel => exact ⟨j + 1, by omega, by go_num, Hn2.out⟩
                  case measure => simp [intOf]; omega
                · have hdz : decide (z ∈ ds) = false := decide_eq_false hzd
                  have HN : Hid (¬ (Bd.okB s cs = true ∧ Dead s cs ds)) := Lib.hid (fun h => by
                    have hr := Hr8.out
                    have h9 := h.2.group (n := n) Hkl.out (l := l) (by rw [Hd.out, Int.toNat_natCast]; exact hr) z (by rw [← Hel.out]; exact List.getElem_mem _)
                    exact hzd h9)
                  clear hzd
                  go_wp2_with fail
                  refine (s_isIn _ _ _ _ _ ds z HP.out (by omega)).mono ?_
                  rintro e9 w9 ⟨rfl, rfl⟩
                  rw [hdz]
                  clear hdz
                  have K0 := Lib.hid ((X1.out.set0 0).cell0)
                  have K1 := Lib.hid (((X1.out.set0 0).set1 (.slice none 0 0)).cell1)
                  have Hb3 := Lib.hid ((Hb.out.setCell (p := ⟨w.heap.size + 1, 0, none⟩) (by show w.heap.size ≤ w.heap.size + 1; omega) (.int .i64 0)).setCell (p := ⟨w.heap.size + 1, 1, none⟩) (by show w.heap.size ≤ w.heap.size + 1; omega) (.slice none 0 0))
                  have t0 := X1.out.cell0
                  have t1 := X1.out.cell1
                  have t2 := X1.out.frozen 0
                  have t3 := X1.out.frozen 1
                  have t4 := X1.out.lt
                  go_wp2_with fail
                  have k0 := K0.out
                  have k1 := K1.out
                  refine bodyPost_ret (v := .tuple #[.agg #[.int .i64 0, .slice none 0 0], .bool false]) (by simp [results, Try.results18, go_sem, k0, k1]) rfl ?_
                  exact ⟨false, 0, [], _, _, _, .inr ⟨rfl, HN.out, rfl, rfl⟩, rfl, Own.nil _ _, Hb3.out⟩
              · have Hst := Lib.hid (Hdg.out.step (i := k) (by rw [Hd.out, Int.toNat_natCast, Hx.out]; exact Hx0.out) (by
                  rw [Hd.out]
                  refine whole_of (n := n) Hcl.out Hnn.out ⟨by omega, by omega⟩ (l := l) (by rw [Int.toNat_natCast]; exact Hr8.out) ?_
                  have h9 := Hin.out
                  rw [List.take_of_length_le (by rw [Ho8.out.1]; omega)] at h9
                  exact h9))
                have Hsv := Lib.hid (Own.stored Ho.out e 0)
                have Htk2 : Hid (clr cs (ds.take (k + 1)) = (clr cs (ds.take k)).set e 0) := Lib.hid (by rw [Htk.out, Int.toNat_natCast])
                obtain ⟨u, hu⟩ : ∃ u, y8.cell? ⟨g, e, none⟩ = some u := by
                  have := World.ownsRow.cellAt Ho.out.2 e (by omega)
                  rw [this]
                  exact ⟨_, List.getElem?_eq_getElem (by rw [List.length_map, Ho.out.1]; exact hen)⟩
                have hf := World.ownsRow.frozenAt Ho.out.2 e
                have x60 := X6.out.cell0
                have x61 := X6.out.cell1
                have x62 := X6.out.lt
                go_wp2_with fail
                have Hsd : Hid (y6.grownBy (y8.setCell ⟨g, e, none⟩ (.int .i64 0)).drew (some g)) := Lib.hid (gtrans (gtrans Hg.out Hsv.out.2) (gdrewN _ 1 _))
                have Hsn : Hid (Own (y8.setCell ⟨g, e, none⟩ (.int .i64 0)).drew y4.heap.size (some ⟨g, 0, none⟩) n c3 (clr cs (ds.take (k + 1)))) := Lib.hid (by rw [Htk2.out]; exact Hsv.out.1.drewN 1)
                go_region
                go_wp2_with fail
                go_roundw
                case rel => exact ⟨k + 1, by omega, by go_num, Hst.out, Hsn.out, Hsd.out⟩
                case measure => simp [intOf]; omega
        · have hfull : ds.take k = ds := List.take_of_length_le (by rw [Hdl.out]; omega)
          have hkm2 : k = m := by omega
          have HD : Hid (Dead s cs ds) := Lib.hid (Dead.ofAsc Hcl.out Hba.out (by rw [Hdl.out, ← hkm2]; exact Hdg.out))
          have Ho : Hid (Own wo y4.heap.size (some ⟨g, 0, none⟩) n c3 (clr cs ds)) := Lib.hid (by have h9 := Ho.out; rw [hfull] at h9; exact h9)
          have Hb := Lib.hid (Hb.out.trans (Hbw.out.mono (by omega)))
          have x60 := X6.out.cell0
          have x61 := X6.out.cell1
          have x62 := X6.out.lt
          have K0 := Lib.hid ((X1.out.set0 s).cell0)
          have K1 := Lib.hid (((X1.out.set0 s).set1 (.slice (some ⟨g, 0, none⟩) n c3)).cell1)
          have Hb3 := Lib.hid ((Hb.out.setCell (p := ⟨w.heap.size + 1, 0, none⟩) (by show w.heap.size ≤ w.heap.size + 1; omega) (.int .i64 s)).setCell (p := ⟨w.heap.size + 1, 1, none⟩) (by show w.heap.size ≤ w.heap.size + 1; omega) (.slice (some ⟨g, 0, none⟩) n c3))
          have Ho3 := Lib.hid ((Ho.out.far ⟨w.heap.size + 1, 0, none⟩ (fun g hA => by have := (Ho.out.ge hA).1; show g ≠ w.heap.size + 1; omega) (.int .i64 s)).far ⟨w.heap.size + 1, 1, none⟩ (fun g hA => by have := (Ho.out.ge hA).1; show g ≠ w.heap.size + 1; omega) (.slice (some ⟨g, 0, none⟩) n c3))
          have t0 := X1.out.cell0
          have t1 := X1.out.cell1
          have t2 := X1.out.frozen 0
          have t3 := X1.out.frozen 1
          have t4 := X1.out.lt
          clear hfull hkm2
          go_wp2_with fail
          have k0 := K0.out
          have k1 := K1.out
          refine bodyPost_ret (v := .tuple #[.agg #[.int .i64 s, .slice (some ⟨g, 0, none⟩) n c3], .bool true]) (by simp [results, Try.results18, go_sem, k0, k1]) rfl ?_
          exact ⟨true, s, _, _, _, _, .inl ⟨rfl, Hv.out, HD.out, rfl, rfl⟩, rfl, Ho3.out.weaken (by omega), Hb3.out⟩
    · have HN : Hid (¬ (Bd.okB s cs = true ∧ Dead s cs ds)) := Lib.hid (fun h => by have h9 := h.2.asc_yes Hcl.out; rw [hba] at h9; cases h9)
      clear hba
      have K0 := Lib.hid ((X1.out.set0 0).cell0)
      have K1 := Lib.hid (((X1.out.set0 0).set1 (.slice none 0 0)).cell1)
      have Hb3 := Lib.hid ((Hb.out.setCell (p := ⟨w.heap.size + 1, 0, none⟩) (by show w.heap.size ≤ w.heap.size + 1; omega) (.int .i64 0)).setCell (p := ⟨w.heap.size + 1, 1, none⟩) (by show w.heap.size ≤ w.heap.size + 1; omega) (.slice none 0 0))
      have t0 := X1.out.cell0
      have t1 := X1.out.cell1
      have t2 := X1.out.frozen 0
      have t3 := X1.out.frozen 1
      have t4 := X1.out.lt
      go_wp2_with fail
      have k0 := K0.out
      have k1 := K1.out
      refine bodyPost_ret (v := .tuple #[.agg #[.int .i64 0, .slice none 0 0], .bool false]) (by simp [results, Try.results18, go_sem, k0, k1]) rfl ?_
      exact ⟨false, 0, [], _, _, _, .inr ⟨rfl, HN.out, rfl, rfl⟩, rfl, Own.nil _ _, Hb3.out⟩
  · have HN : Hid (¬ (Bd.okB s cs = true ∧ Dead s cs ds)) := Lib.hid (fun h => by rw [hv] at h; cases h.1)
    go_wp2_with fail
    refine (s_validBoard _ _ _ _ _ _ _ H.out (by omega) (by omega)).mono ?_
    rintro e y3 ⟨rfl, hb⟩
    rw [hv]
    have X1 := Lib.hid (X1.out.below hb X1.out.lt)
    have Hb := Lib.hid (Hb.out.trans (hb.mono (by omega)))
    clear hb u00 u01 u02 hv
    have K0 := Lib.hid ((X1.out.set0 0).cell0)
    have K1 := Lib.hid (((X1.out.set0 0).set1 (.slice none 0 0)).cell1)
    have Hb3 := Lib.hid ((Hb.out.setCell (p := ⟨w.heap.size + 1, 0, none⟩) (by show w.heap.size ≤ w.heap.size + 1; omega) (.int .i64 0)).setCell (p := ⟨w.heap.size + 1, 1, none⟩) (by show w.heap.size ≤ w.heap.size + 1; omega) (.slice none 0 0))
    have t0 := X1.out.cell0
    have t1 := X1.out.cell1
    have t2 := X1.out.frozen 0
    have t3 := X1.out.frozen 1
    have t4 := X1.out.lt
    go_wp2_with fail
    have k0 := K0.out
    have k1 := K1.out
    refine bodyPost_ret (v := .tuple #[.agg #[.int .i64 0, .slice none 0 0], .bool false]) (by simp [results, Try.results18, go_sem, k0, k1]) rfl ?_
    exact ⟨false, 0, [], _, _, _, .inr ⟨rfl, HN.out, rfl, rfl⟩, rfl, Own.nil _ _, Hb3.out⟩
end Go.Proofs.Ytmokpaofljdehaa
