/-
  The program's ParseBoard: the board that a text asks for, or none.
-/
import Derived.Test.YtmokpaofljdehaaPbW
import Derived.Test.YtmokpaofljdehaaBoardI
import Derived.Test.YtmokpaofljdehaaRows2
import Derived.Test.YtmokpaofljdehaaPlayP
import Derived.Deep.QuietTactic
import Derived.Deep.RegionHeld3
import Derived.BigQuiet
import Derived.IntWalk
namespace Go.Proofs.Ytmokpaofljdehaa
set_option maxRecDepth 100000
open Go.RowKit

theorem own_capP {w : World} {B n c : Nat} {A : Option Addr} {xs : List Int} (h : Own w B A n c xs) : n ≤ c ∧ c ≤ 9223372036854775807 := by
  rcases h.2.2 with ⟨e, _⟩ | ⟨g, cap, cur, e, _, _, h1, h2, _⟩
  · injection e with _ e1 e2; omega
  · injection e with _ _ e2
    unfold maxLen at h2
    omega

set_option maxRecDepth 100000 in
set_option maxHeartbeats 8000000 in
theorem i_ParseE (S : ByteArray) (w : World) (hS : S.size ≤ 1048576) :
    Calls Try.prog 31 #[.string S] w fun e w' => ParsedE S w e w' := by
  have hb1 : Below w.heap.size w (w.alloc (.cells #[.int .i64 0, .slice none 0 0] 29)) := (Below.refl _ _).alloc (Nat.le_refl _) _
  have x0 := Bx.new 29 w 0 (.slice none 0 0)
  go_enter Try.func31, Try.ntmps31
  go_upto_region 1 with (fail)
  obtain ⟨y, hy⟩ : ∃ y, y = w.alloc (.cells #[.int .i64 0, .slice none 0 0] 29) := ⟨_, rfl⟩
  have hyz : y.heap.size = w.heap.size + 1 := by rw [hy]; simp
  rw [← hy] at x0 hb1 ⊢
  have X0 := Lib.hid x0
  have Hb := Lib.hid hb1
  have Hyz := Lib.hid hyz
  clear hy x0 hb1 hyz
  have t0 := X0.out.cell0
  have t1 := X0.out.cell1
  have t2 := X0.out.frozen 0
  have t3 := X0.out.frozen 1
  have t4 := X0.out.lt
  have K0 := Lib.hid ((X0.out.set0 0).cell0)
  have K1 := Lib.hid (((X0.out.set0 0).set1 (.slice none 0 0)).cell1)
  have Hb3 := Lib.hid ((Hb.out.setCell (p := ⟨w.heap.size, 0, none⟩) (Nat.le_refl _) (.int .i64 0)).setCell (p := ⟨w.heap.size, 1, none⟩) (Nat.le_refl _) (.slice none 0 0))
  rcases Fm.slash S with ⟨hix, hq⟩ | ⟨m, hix, hm, hm47, hq⟩
  · have HN : Hid (Fm.NoB S) := Lib.hid (Fm.no_text S.size hq (.inl (Nat.le_refl _)) (fun h => by
      have := Nat.mul_le_mul_left S.size (show 2 ≤ S.size + 1 by omega)
      omega))
    have hix' : Lib.indexByte S.data.toList (Int.toNat 47).toUInt8 = -1 := hix
    have hok : Pt.okS (-1) = false := by decide
    clear hix hq
    go_wp2_with fail
    refine (i_indexByte _ _ _).mono ?_
    rintro e w' ⟨rfl, rfl⟩
    rw [hix']
    clear hix'
    go_wp2_with fail
    refine (i_size _ _).mono ?_
    rintro e w' ⟨rfl, rfl⟩
    rw [hok]
    clear hok
    go_wp2_with fail
    have k0 := K0.out
    have k1 := K1.out
    refine bodyPost_ret (v := .tuple #[.agg #[.int .i64 0, .slice none 0 0], .bool false]) (by simp [results, Try.results31, go_sem, k0, k1]) rfl ?_
    exact ⟨false, 0, [], _, _, _, .inr ⟨rfl, rfl, rfl, HN.out⟩, rfl, Own.nil _ _, Hb3.out⟩
  · have hix' : Lib.indexByte S.data.toList (Int.toNat 47).toUInt8 = (m : Nat) := hix
    have Hq := Lib.hid hq
    have Hm47 := Lib.hid hm47
    clear hix hq hm47
    by_cases hv : 1 ≤ m ∧ m ≤ 7
    · have hok : Pt.okS (m : Nat) = true := (Pt.okS_iff _).2 (by omega)
      obtain ⟨L, hkL⟩ : ∃ L : Nat, ((m : Nat) : Int) * (((m : Nat) : Int) + 1) = (L : Nat) := ⟨m * (m + 1), by simp⟩
      have hLk : L = m * (m + 1) := by have : ((L : Nat) : Int) = ((m * (m + 1) : Nat) : Int) := by rw [← hkL]; simp
                                       omega
      have hL72 : L ≤ 72 := by rw [hLk]; exact Nat.le_trans (Nat.mul_le_mul hv.2 (show m + 1 ≤ 8 by omega)) (by decide)
      have HLk := Lib.hid hLk
      clear hLk
      by_cases hSL : S.size = L
      · have hd : decide ((S.size : Int) = (L : Int)) = true := by rw [hSL]; simp
        have hSn : ((S.size : Int) != (L : Int)) = false := by rw [hSL]; simp
        have HSL : Hid (S.size = m * (m + 1)) := Lib.hid (by rw [hSL, HLk.out])
        have hSL1 : S.size ≤ L ∧ L ≤ S.size := by omega
        clear hSL
        go_wp2_with fail
        refine (i_indexByte _ _ _).mono ?_
        rintro e w' ⟨rfl, rfl⟩
        rw [hix']
        clear hix'
        go_wp2_with fail
        refine (i_size _ _).mono ?_
        rintro e w' ⟨rfl, rfl⟩
        rw [hok]
        go_wp2_with fail
        refine (i_new _ _).mono ?_
        rintro e y1 ⟨A1, n1, c1, rfl, ho, hb⟩
        have hs0 : newS (m : Nat) = (m : Nat) := by rw [newS, if_pos hok]
        have hc0 : newCs (m : Nat) = List.replicate (m * m) 0 := by
          rw [newCs, if_pos hok]
          congr 1
        rw [hs0]
        rw [hc0] at ho
        have hn1 : n1 = m * m := by have := ho.1; rw [List.length_replicate] at this; omega
        have Hn1 := Lib.hid hn1
        have hn49 : n1 ≤ 49 := by rw [hn1]; exact Nat.le_trans (Nat.mul_le_mul hv.2 hv.2) (by decide)
        have hn0 : 0 < n1 := by rw [hn1]; exact Nat.mul_pos (by omega) (by omega)
        have hcap := own_capP ho
        obtain ⟨g, hA1⟩ : ∃ g, A1 = some ⟨g, 0, none⟩ := by
          obtain ⟨g, cap, hv, _⟩ := World.ownsRow.form ho.2 (by omega)
          exact ⟨g, by injection hv⟩
        have hg1 := (ho.ge hA1).1
        have hg2 := (ho.ge hA1).2
        have zy1 := hb.size
        have X0 := Lib.hid (X0.out.below hb X0.out.lt)
        have Hb := Lib.hid (Hb.out.trans (hb.mono (by rw [Hyz.out]; omega)))
        have Ho := Lib.hid (ho.weaken (B' := w.heap.size + 1) (by rw [Hyz.out]; exact Nat.le_refl _))
        rw [hA1] at Ho ⊢
        have hyw := Hyz.out
        clear ho hA1 hb hn1 hs0 hc0 hok hSn hd t0 t1 t2 t3 t4 K0 K1 Hb3
        go_upto_region 5 with (fail)
        obtain ⟨y4, hy4, hb4, z4, z4'⟩ := new_box y1 (.cells #[.int .i64 (m : Nat), .slice (some ⟨g, 0, none⟩) n1 c1] 29)
        have X5 : Hid (Bx 29 y4 y1.heap.size (m : Nat) (.slice (some ⟨g, 0, none⟩) n1 c1)) := Lib.hid (by rw [hy4]; exact Bx.new _ _ _ _)
        rw [← hy4]
        clear hy4
        have X0 := Lib.hid (X0.out.below hb4 X0.out.lt)
        have Hb := Lib.hid (Hb.out.trans (hb4.mono (by omega)))
        have Ho := Lib.hid (Ho.out.below hb4)
        have Hz : Hid (∀ c ∈ List.replicate (m * m) (0 : Int), 0 ≤ c ∧ c ≤ 2) := Lib.hid (fun c hc => by rw [List.eq_of_mem_replicate hc]; omega)
        have Hr0 : Hid (Fm.Rows S m 0 (List.replicate (m * m) 0)) := Lib.hid (fun l hl => absurd hl (Nat.not_lt_zero l))
        clear hb4
        go_wp2_with fail
        go_loopw [27] (fun v wr => ∃ (line : Nat) (cs : List Int), line ≤ m ∧ v = .int .i64 (line : Nat) ∧ Own wr (w.heap.size + 1) (some ⟨g, 0, none⟩) n1 c1 cs ∧ (∀ c ∈ cs, 0 ≤ c ∧ c ≤ 2) ∧ Fm.Rows S m line cs ∧ Bx 29 wr y1.heap.size (m : Nat) (.slice (some ⟨g, 0, none⟩) n1 c1) ∧ Bx 29 wr w.heap.size 0 (.slice none 0 0) ∧ Below w.heap.size w wr) (fun v _ => m - (intOf v).toNat)
        case atStart => exact ⟨0, _, by omega, rfl, Ho.out, Hz.out, Hr0.out, X5.out, X0.out, Hb.out⟩
        case round =>
          clear Ho Hz Hr0 X5 X0 Hb
          obtain ⟨line, cs, hl, rfl, ho, hz, hrw, hx5, hx0, hbr⟩ := hrel
          have X0 := Lib.hid hx0
          have X5 := Lib.hid hx5
          have Ho := Lib.hid ho
          have Hz := Lib.hid hz
          have Hrw := Lib.hid hrw
          have Hb := Lib.hid hbr
          have zr := hbr.size
          clear hx0 hx5 ho hz hrw hbr
          have t0 := X0.out.cell0
          have t1 := X0.out.cell1
          have t2 := X0.out.frozen 0
          have t3 := X0.out.frozen 1
          have t4 := X0.out.lt
          have u0 := X5.out.cell0
          have u1 := X5.out.cell1
          have u2 := X5.out.lt
          by_cases hlm : line < m
          · obtain ⟨r, hr⟩ : ∃ r, m - 1 - line = r := ⟨_, rfl⟩
            obtain ⟨Q, hQ⟩ : ∃ Q, line * (m + 1) = Q := ⟨_, rfl⟩
            obtain ⟨R, hR⟩ : ∃ R, r * m = R := ⟨_, rfl⟩
            obtain ⟨E, hE⟩ : ∃ E, Q + m = E := ⟨_, rfl⟩
            have hQL : Q + (m + 1) ≤ L := by
              have h3 := Nat.mul_le_mul_right (m + 1) (show line + 1 ≤ m by omega)
              rw [Nat.add_mul, Nat.one_mul, hQ] at h3
              rw [HLk.out]
              exact h3
            have hRn : R + m ≤ n1 := by
              have h3 := Nat.mul_le_mul_right m (show r + 1 ≤ m by omega)
              rw [Nat.add_mul, Nat.one_mul, hR] at h3
              rw [Hn1.out]
              exact h3
            have hES : E < S.size := by omega
            have w1 : IntKind.i64.wrap (((m : Nat) : Int) + 1) = (m : Nat) + 1 := IntWalk.i64_in _ (by omega)
            have w2 : IntKind.i64.wrap (((line : Nat) : Int) * (((m : Nat) : Int) + 1)) = (Q : Nat) := by
              rw [show ((line : Nat) : Int) * (((m : Nat) : Int) + 1) = (Q : Nat) by rw [← hQ]; simp]
              exact IntWalk.i64_in _ (by omega)
            have w3 : IntKind.i64.wrap ((m : Nat) - 1 : Int) = (m : Nat) - 1 := IntWalk.i64_in _ (by omega)
            have w4 : IntKind.i64.wrap ((m : Nat) - 1 - (line : Nat) : Int) = (r : Nat) := by
              rw [show ((m : Nat) - 1 - (line : Nat) : Int) = (r : Nat) by omega]
              exact IntWalk.i64_in _ (by omega)
            have w5 : IntKind.i64.wrap (((Q : Nat) : Int) + (m : Nat)) = (E : Nat) := by
              rw [show ((Q : Nat) : Int) + (m : Nat) = (E : Nat) by omega]
              exact IntWalk.i64_in _ (by omega)
            have w6 : IntKind.i64.wrap (((r : Nat) : Int) * (m : Nat)) = (R : Nat) := by
              rw [show ((r : Nat) : Int) * (m : Nat) = (R : Nat) by rw [← hR]; simp]
              exact IntWalk.i64_in _ (by omega)
            have w7 : IntKind.i64.wrap (((r : Nat) : Int) + 1) = (r : Nat) + 1 := IntWalk.i64_in _ (by omega)
            obtain ⟨R2, hR2⟩ : ∃ R2, R + m = R2 := ⟨_, rfl⟩
            have w8 : IntKind.i64.wrap ((((r : Nat) : Int) + 1) * (m : Nat)) = (R2 : Nat) := by
              rw [show (((r : Nat) : Int) + 1) * (m : Nat) = (R2 : Nat) by rw [Int.add_mul, Int.one_mul, ← hR2, ← hR]; simp]
              exact IntWalk.i64_in _ (by omega)
            have hcR : ¬ c1 = R := by omega
            have e3 : R2 - R = m := by omega
            have hlo : ((R : Nat) : Int) ≤ (R2 : Nat) := by omega
            have hhi : ((R2 : Nat) : Int) ≤ (c1 : Nat) := by omega
            have hlo2 : ((Q : Nat) : Int) ≤ (E : Nat) := by omega
            have hhi2 : ((E : Nat) : Int) ≤ (S.size : Nat) := by omega
            have hE0 : ((E : Nat) : Int) < (S.size : Nat) := by omega
            have HT := Lib.hid (ext_size (S := S) hE (by omega))
            have HTb := Lib.hid (fun c hc => ext_byt (S := S) hE c hc)
            have HEi : Hid (line * (m + 1) + m = E) := Lib.hid (by rw [hQ, hE])
            have HQi := Lib.hid hQ
            have HRi : Hid ((m - 1 - line) * m = R) := Lib.hid (by rw [hr, hR])
            clear hr hQ hR hE hR2
            have K0 := Lib.hid ((X0.out.set0 0).cell0)
            have K1 := Lib.hid (((X0.out.set0 0).set1 (.slice none 0 0)).cell1)
            by_cases h47 : Fm.byt S E = 47
            · have hb47 : ((S[E].toNat : Int) != 47) = false := by rw [← Fm.byt_eq hES, h47]; rfl
              have H47 : Hid (Fm.byt S (line * (m + 1) + m) = 47) := Lib.hid (by rw [HEi.out]; exact h47)
              clear h47
              by_cases hall : ∀ i, i < m → 0 ≤ Fm.lx (Fm.byt (S.extract Q E) i)
              · have Hall := Lib.hid hall
                clear hall
                go_upto_region 10 with (fail)
                go_region_held3 (fun w' => w'.cell? ⟨y1.heap.size, 1, none⟩ = some (.slice (some ⟨g, 0, none⟩) n1 c1)) (first | exact u1 | go_keep) ((go_at_call 64; refine (i_readRowT _ m HT.out _ (w.heap.size + 1) g n1 c1 R _ cs Ho.out.drew (by omega) (by omega) (by omega) Hall.out).mono ?_; rintro e wq ⟨rfl, cs', hr, ho, hg⟩; have Hr := Lib.hid hr; have Ho9 := Lib.hid ho; have Hg := Lib.hid hg; have X5n := Lib.hid (Bx.grown (w := wr.drew) X5.out hg (by simp; omega)); have u1 := X5n.out.cell1; clear hr ho hg))
                have X0n := Lib.hid (Bx.grown (w := wr.drew) X0.out Hg.out (by simp; omega))
                have Hbn := Lib.hid (Below.grown (w := wr.drew) (drew_below Hb.out 1) Hg.out (by simpa using zr) (fun k e => by injection e; omega))
                have Hrn := Lib.hid (Hrw.out.step hlm (fun c hc => by rw [HTb.out c hc, HQi.out]) H47.out (by rw [HRi.out]; exact Hr.out))
                have Hzn := Lib.hid (Hr.out.okL Hz.out)
                clear t0 t1 t2 t3 t4 u0 u1 u2 w1 w2 w3 w4 w5 w6 w7 w8
                go_wp2_with fail
                go_roundw
                case rel => exact ⟨line + 1, _, by omega, by go_num, Ho9.out, Hzn.out, Hrn.out, X5n.out, X0n.out, Hbn.out⟩
                case measure => simp [intOf]; omega
              · have hno : ∃ i, i < m ∧ Fm.lx (Fm.byt (S.extract Q E) i) < 0 := by
                  refine Classical.byContradiction fun hn => hall fun i hi => ?_
                  refine Classical.byContradiction fun h9 => hn ⟨i, hi, by omega⟩
                have Hno := Lib.hid hno
                have HN : Hid (Fm.NoB S) := Lib.hid (by
                  obtain ⟨i, hi, hx⟩ := hno
                  rw [HTb.out i hi, ← HQi.out] at hx
                  exact Fm.no_letter HSL.out hlm hi hx)
                clear hall hno
                go_upto_region 10 with (fail)
                go_region_held3 (fun w' => w'.cell? ⟨y1.heap.size, 1, none⟩ = some (.slice (some ⟨g, 0, none⟩) n1 c1)) (first | exact u1 | go_keep) ((go_at_call 64; refine (i_readRowF _ m HT.out _ (w.heap.size + 1) g n1 c1 R _ cs Ho.out.drew (by omega) (by omega) (by omega) Hno.out).mono ?_; rintro e wq ⟨rfl, hg⟩; have Hg := Lib.hid hg; have X5n := Lib.hid (Bx.grown (w := wr.drew) X5.out hg (by simp; omega)); have u1 := X5n.out.cell1; clear hg))
                have X0n := Lib.hid (Bx.grown (w := wr.drew) X0.out Hg.out (by simp; omega))
                have Hbn := Lib.hid (Below.grown (w := wr.drew) (drew_below Hb.out 1) Hg.out (by simpa using zr) (fun k e => by injection e; omega))
                clear t0 t1 t2 t3 t4 u0 u1 u2 K0 K1
                have t0 := X0n.out.cell0
                have t1 := X0n.out.cell1
                have t2 := X0n.out.frozen 0
                have t3 := X0n.out.frozen 1
                have t4 := X0n.out.lt
                have K0 := Lib.hid ((X0n.out.set0 0).cell0)
                have K1 := Lib.hid (((X0n.out.set0 0).set1 (.slice none 0 0)).cell1)
                have Hb3 := Lib.hid ((Hbn.out.setCell (p := ⟨w.heap.size, 0, none⟩) (Nat.le_refl _) (.int .i64 0)).setCell (p := ⟨w.heap.size, 1, none⟩) (Nat.le_refl _) (.slice none 0 0))
                go_wp2_with fail
                have k0 := K0.out
                have k1 := K1.out
                refine bodyPost_ret (v := .tuple #[.agg #[.int .i64 0, .slice none 0 0], .bool false]) (by simp [results, Try.results31, go_sem, k0, k1]) rfl ?_
                exact ⟨false, 0, [], _, _, _, .inr ⟨rfl, rfl, rfl, HN.out⟩, rfl, Own.nil _ _, Hb3.out⟩
            · have HN : Hid (Fm.NoB S) := Lib.hid (Fm.no_end HSL.out hlm (by rw [HEi.out]; exact h47))
              have hb47 : ((S[E].toNat : Int) != 47) = true := by rw [← Fm.byt_eq hES]; simpa using h47
              clear h47
              go_upto_region 10 with (fail)
              go_quiet (fail)
              have K0 := Lib.hid (((X0.out.drewN nq).set0 0).cell0)
              have K1 := Lib.hid ((((X0.out.drewN nq).set0 0).set1 (.slice none 0 0)).cell1)
              have Hb3 := Lib.hid (((drew_below Hb.out nq).setCell (p := ⟨w.heap.size, 0, none⟩) (Nat.le_refl _) (.int .i64 0)).setCell (p := ⟨w.heap.size, 1, none⟩) (Nat.le_refl _) (.slice none 0 0))
              go_wp2_with fail
              have k0 := K0.out
              have k1 := K1.out
              refine bodyPost_ret (v := .tuple #[.agg #[.int .i64 0, .slice none 0 0], .bool false]) (by simp [results, Try.results31, go_sem, k0, k1]) rfl ?_
              exact ⟨false, 0, [], _, _, _, .inr ⟨rfl, rfl, rfl, HN.out⟩, rfl, Own.nil _ _, Hb3.out⟩
          · obtain rfl : m = line := by omega
            have K0 := Lib.hid ((X0.out.set0 (m : Nat)).cell0)
            have K1 := Lib.hid (((X0.out.set0 (m : Nat)).set1 (.slice (some ⟨g, 0, none⟩) n1 c1)).cell1)
            have Hb3 := Lib.hid ((Hb.out.setCell (p := ⟨w.heap.size, 0, none⟩) (Nat.le_refl _) (.int .i64 (m : Nat))).setCell (p := ⟨w.heap.size, 1, none⟩) (Nat.le_refl _) (.slice (some ⟨g, 0, none⟩) n1 c1))
            have Ho3 := Lib.hid ((Ho.out.far ⟨w.heap.size, 0, none⟩ (fun g hA => by have := (Ho.out.ge hA).1; show g ≠ w.heap.size; omega) (.int .i64 (m : Nat))).far ⟨w.heap.size, 1, none⟩ (fun g hA => by have := (Ho.out.ge hA).1; show g ≠ w.heap.size; omega) (.slice (some ⟨g, 0, none⟩) n1 c1))
            have Hv := Lib.hid ((Bd.okB_iff (m : Nat) cs).2 ⟨by omega, by omega, by rw [Ho.out.1, Hn1.out]; simp, Hz.out⟩)
            have Hy := Lib.hid (Fm.yes_text HSL.out Hrw.out)
            go_wp2_with fail
            have k0 := K0.out
            have k1 := K1.out
            refine bodyPost_ret (v := .tuple #[.agg #[.int .i64 (m : Nat), .slice (some ⟨g, 0, none⟩) n1 c1], .bool true]) (by simp [results, Try.results31, go_sem, k0, k1]) rfl ?_
            exact ⟨true, _, cs, _, _, _, .inl ⟨rfl, Hv.out, Hy.out⟩, rfl, Ho3.out.weaken (by omega), Hb3.out⟩
      · have hSn : ((S.size : Int) != (L : Int)) = true := by simp; omega
        have HN : Hid (Fm.NoB S) := Lib.hid (Fm.no_text m Hq.out (.inr (.inr Hm47.out)) (fun h => hSL (by rw [HLk.out]; exact h.2.2)))
        go_wp2_with fail
        refine (i_indexByte _ _ _).mono ?_
        rintro e w' ⟨rfl, rfl⟩
        rw [hix']
        clear hix'
        go_wp2_with fail
        refine (i_size _ _).mono ?_
        rintro e w' ⟨rfl, rfl⟩
        rw [hok]
        clear hok
        go_wp2_with fail
        have k0 := K0.out
        have k1 := K1.out
        refine bodyPost_ret (v := .tuple #[.agg #[.int .i64 0, .slice none 0 0], .bool false]) (by simp [results, Try.results31, go_sem, k0, k1]) rfl ?_
        exact ⟨false, 0, [], _, _, _, .inr ⟨rfl, rfl, rfl, HN.out⟩, rfl, Own.nil _ _, Hb3.out⟩
    · have HN : Hid (Fm.NoB S) := Lib.hid (Fm.no_text m Hq.out (.inr (.inr Hm47.out)) (fun h => hv ⟨h.1, h.2.1⟩))
      have hok : Pt.okS (m : Nat) = false := by
        rcases Bool.eq_false_or_eq_true (Pt.okS (m : Nat)) with h | h
        · have := (Pt.okS_iff _).1 h; omega
        · exact h
      go_wp2_with fail
      refine (i_indexByte _ _ _).mono ?_
      rintro e w' ⟨rfl, rfl⟩
      rw [hix']
      clear hix'
      go_wp2_with fail
      refine (i_size _ _).mono ?_
      rintro e w' ⟨rfl, rfl⟩
      rw [hok]
      clear hok
      go_wp2_with fail
      have k0 := K0.out
      have k1 := K1.out
      refine bodyPost_ret (v := .tuple #[.agg #[.int .i64 0, .slice none 0 0], .bool false]) (by simp [results, Try.results31, go_sem, k0, k1]) rfl ?_
      exact ⟨false, 0, [], _, _, _, .inr ⟨rfl, rfl, rfl, HN.out⟩, rfl, Own.nil _ _, Hb3.out⟩
end Go.Proofs.Ytmokpaofljdehaa
