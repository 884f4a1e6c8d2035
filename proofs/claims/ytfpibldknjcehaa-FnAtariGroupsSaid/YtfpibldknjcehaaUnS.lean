/-
  The program's 'setOf' and 'joinEqual'.
-/
import Derived.Test.YtfpibldknjcehaaUn
import Derived.Test.YtfpibldknjcehaaNbImpl
import Derived.Test.YtfpibldknjcehaaGroupS
namespace Go.Proofs.Ytfpibldknjcehaa
set_option maxRecDepth 100000
open Go.RowKit

theorem nbs_sy {s : Int} {n : Nat} (h1 : 1 ≤ s) (h2 : s ≤ 7) (hn : (n : Int) = s * s) : ∀ x : Int, 0 ≤ x → x < n → ∀ y ∈ Pt.nbs s x, x ∈ Pt.nbs s y := by
  intro x h0 hx y hy
  obtain ⟨m1, _, _⟩ := Pt.nbs_all s x h1 h2 h0 (by omega)
  have := List.all_eq_true.1 m1 y hy
  simp only [Bool.and_eq_true, decide_eq_true_eq] at this
  simpa using this.1.2

/-- The points whose set begins with a point, as a list of marks. -/
def inSet (r : Nat → Nat) (p n : Nat) : List Bool := (List.range n).map fun q => r q == r p
theorem inSet_len (r : Nat → Nat) (p n : Nat) : (inSet r p n).length = n := by simp [inSet]
theorem inSet_at {r : Nat → Nat} {p n q : Nat} (h : q < n) : (inSet r p n).getD q false = (r q == r p) := by
  simp [inSet, List.getD_eq_getElem?_getD, h]

set_option maxRecDepth 100000 in
set_option maxHeartbeats 4000000 in
theorem i_setOf (w : World) (B g n c : Nat) (u : List Int) (r : Nat → Nat) (p : Nat) (h : Own w B (some ⟨g, 0, none⟩) n c u) (hu : Un.Un u n r) (hp : p < n) (hn : n ≤ 1000) :
    Calls Try.prog 91 #[.slice (some ⟨g, 0, none⟩) n c, .int .i64 (p : Nat)] w fun e w' => ∃ A m c', e = .returned (.slice A m c') ∧ Own w' w.heap.size A m c' (Fl.pts (inSet r p n) n) ∧ Fst B g n c r w w' := by
  have hgw := (h.ge rfl).2
  have H := Lib.hid h
  have Hu := Lib.hid hu
  clear h hu
  go_enter Try.func91, Try.ntmps91
  go_wp2_with fail
  refine (i_firstOf _ _ _ _ _ _ _ _ H.out Hu.out hp).mono ?_
  rintro e y ⟨rfl, u1, ho1, hu1, hg1⟩
  have H1 := Lib.hid ho1
  have Hu1 := Lib.hid hu1
  have Hg1 := Lib.hid hg1
  have hzy := hg1.size
  have hgy := (ho1.ge rfl).2
  have hrp := (hu1.fix p hp).1
  clear H Hu ho1 hu1 hg1
  obtain ⟨a, ha⟩ : ∃ a, r p = a := ⟨_, rfl⟩
  have Ha := Lib.hid ha
  rw [ha] at hrp ⊢
  clear ha
  go_wp2_with fail
  go_loopw [6, 13] (fun v i wr => ∃ (j m c' : Nat) (A : Option Addr) (u2 : List Int), j ≤ n ∧ i = .int .i64 (j : Nat) ∧ v = .slice A m c' ∧ Own wr y.heap.size A m c' (Fl.pts (inSet r p n) j) ∧ Own wr B (some ⟨g, 0, none⟩) n c u2 ∧ Un.Un u2 n r ∧ y.grownBy wr (some g)) (fun _ i _ => n - (intOf i).toNat)
  case atStart => exact ⟨0, 0, 0, none, _, by omega, rfl, rfl, Own.nil _ _, H1.out, Hu1.out, World.grownBy.refl _ _⟩
  case round =>
    clear H1 Hu1
    obtain ⟨wo, rfl⟩ : ∃ wo : World, wo = wr := ⟨_, rfl⟩
    obtain ⟨j, m, c', A, u2, hj, rfl, rfl, ho, hf, hun, hgr⟩ := hrel
    have hm := ho.1
    have hm2 := Fl.pts_len (inSet r p n) j
    have hzr := hgr.size
    have Ho := Lib.hid ho
    have Hf := Lib.hid hf
    have Hun := Lib.hid hun
    have Hgr := Lib.hid hgr
    have hm3 : m ≤ 1000 := by omega
    clear ho hf hun hgr hm hm2
    by_cases hjn : j < n
    · go_wp2_with fail
      refine (i_firstOf _ _ _ _ _ _ _ _ Hf.out Hun.out hjn).mono ?_
      rintro e y2 ⟨rfl, u3, hf3, hun3, hg3⟩
      have hrj := (hun3.fix j hjn).1
      have hz3 := hg3.size
      have ho3 := Ho.out.kept hg3 (fun g2 e e2 => by have := (Ho.out.ge e).1; injection e2 with e2; omega)
      have Ho3 := Lib.hid ho3
      have Hf3 := Lib.hid hf3
      have Hun3 := Lib.hid hun3
      have Hg3 := Lib.hid (gtrans Hgr.out hg3)
      have Hin := Lib.hid (inSet_at (r := r) (p := p) hjn)
      clear Ho Hf Hun Hgr hf3 hun3 hg3 ho3
      obtain ⟨b, hb⟩ : ∃ b, r j = b := ⟨_, rfl⟩
      have Hbb := Lib.hid hb
      rw [hb] at hrj ⊢
      clear hb
      by_cases hab : b = a
      · have Hy := Lib.hid (show Fl.pts (inSet r p n) (j + 1) = Fl.pts (inSet r p n) j ++ [(j : Int)] from Fl.pts_yes (by rw [Hin.out, Ha.out, Hbb.out]; simpa using hab))
        have hab2 : (b : Int) = a := by omega
        go_wp2_with (at_builtin; refine app1 rfl _ _ rfl _ _ _ _ _ _ _ _ rfl rfl rfl Ho3.out (by omega) (by omega) ?_; intro A' c2 w' hown' hb' hlt' hgrow)
        have hfa : ∀ q, (Value.slice A m c').ownBlock = some q → y.heap.size ≤ q := fun q e2 => (Ho3.out.ge (own_block Ho3.out e2)).1
        have Hf4 : Hid (Own w' B (some ⟨g, 0, none⟩) n c u3) := Lib.hid (Hf3.out.kept hgrow (fun q e e2 => by injection e with e; injection e with e; have := hfa q e2; omega))
        have Hg4 : Hid (y.grownBy w' (some g)) := Lib.hid ⟨hgrow.os.trans Hg3.out.os, hgrow.tape.trans Hg3.out.tape, hgrow.output.trans Hg3.out.output, Nat.le_trans Hg3.out.size hgrow.size, fun i hi hne => (hgrow.block i (Nat.lt_of_lt_of_le hi Hg3.out.size) (fun e2 => by have := hfa i e2.symm; omega)).trans (Hg3.out.block i hi hne)⟩
        have Ho4 := Lib.hid hown'
        clear hown' hb' hgrow hfa
        go_roundw
        case rel => exact ⟨j + 1, _, _, _, _, by omega, by go_num, rfl, by rw [Hy.out]; exact Ho4.out, Hf4.out, Hun3.out, Hg4.out⟩
        case measure => simp [intOf]; omega
      · have Hy := Lib.hid (show Fl.pts (inSet r p n) (j + 1) = Fl.pts (inSet r p n) j from Fl.pts_no (by rw [Hin.out, Ha.out, Hbb.out]; simpa using hab))
        have hab2 : ¬ (b : Int) = a := by omega
        go_wp2_with fail
        go_roundw
        case rel => exact ⟨j + 1, _, _, _, _, by omega, by go_num, rfl, by rw [Hy.out]; exact Ho3.out, Hf3.out, Hun3.out, Hg3.out⟩
        case measure => simp [intOf]; omega
    · obtain rfl : j = n := by omega
      go_wp2_with fail
      go_ret
      exact ⟨_, _, _, rfl, Ho.out.weaken (by omega), _, Hf.out, Hun.out, gtrans Hg1.out Hgr.out⟩

/-- What 'joinEqual' returns: a forest of the connected points of one color. -/
def Joined (s : Int) (n : Nat) (cs : List Int) (w : World) (e : Ending) (w' : World) : Prop :=
  ∃ g c' u r, e = .returned (.slice (some ⟨g, 0, none⟩) n c') ∧ Own w' w.heap.size (some ⟨g, 0, none⟩) n c' u ∧ Un.Un u n r ∧ Un.Jn s n cs r n 0 ∧ Below w.heap.size w w'

set_option maxRecDepth 100000 in
set_option maxHeartbeats 4000000 in
theorem i_joinEqual (s : Int) (w : World) (B : Nat) (A : Option Addr) (n c : Nat) (cs : List Int) (h : Ints w B A n cs) (hB : B ≤ w.heap.size) (h1 : 1 ≤ s) (h2 : s ≤ 7) (hn : (n : Int) = s * s) :
    Calls Try.prog 90 #[.agg #[.int .i64 s, .slice A n c]] w fun e w' => Joined s n cs w e w' := by
  have hsq := Pt.sq_bd s h1 h2
  have hn49 : n ≤ 49 := by omega
  have hn1 : 0 < n := by omega
  have Hnn := Lib.hid (nbs_in h1 h2 hn)
  have Hsy := Lib.hid (nbs_sy h1 h2 hn)
  have hl := h.1
  have hb1 : Below w.heap.size w (w.alloc (.cells #[.int .i64 s, .slice A n c] 25)) := (Below.refl _ _).alloc (Nat.le_refl _) _
  have X0 := Lib.hid (Bx.new 25 w s (.slice A n c))
  have H := Lib.hid (h.below hb1 hB)
  have Hb := Lib.hid hb1
  have Hn := Lib.hid hn
  have Hl := Lib.hid hl
  clear h hb1 hn hl
  go_enter Try.func90, Try.ntmps90
  go_upto_region 1 with (fail)
  obtain ⟨y0, hy⟩ : ∃ y, y = w.alloc (.cells #[.int .i64 s, .slice A n c] 25) := ⟨_, rfl⟩
  have hyz : w.heap.size < y0.heap.size := by rw [hy]; simp
  rw [← hy] at X0 H Hb ⊢
  clear hy
  obtain ⟨b, o, rfl, hbB, hc⟩ : ∃ b o, A = some ⟨b, o, none⟩ ∧ b < B ∧ ∀ j, j < n → y0.cell? ⟨b, o + j, none⟩ = some (.int .i64 (cs.getD j 0)) := by
    rcases H.out.2 with h0 | ⟨b, o, hA, hbB, hc⟩
    · omega
    · exact ⟨b, o, hA, hbB, hc⟩
  have Hc := Lib.hid hc
  clear hc
  have u0 := X0.out.cell0
  have u1 := X0.out.cell1
  have ul := X0.out.lt
  go_wp2_with fail
  refine (i_newUnions _ _ (by omega)).mono ?_
  rintro e y1 ⟨c1, rfl, ho1, hb1⟩
  have hz1 := hb1.size
  have X1 := Lib.hid (X0.out.below hb1 ul)
  have Ho1 := Lib.hid ho1
  have Hb1 := Lib.hid hb1
  clear ho1 hb1 u0 u1
  have u0 := X1.out.cell0
  have u1 := X1.out.cell1
  have ul1 := X1.out.lt
  go_wp2_with fail
  go_loopw [15] (fun i wr => ∃ (k : Nat) (u : List Int) (r : Nat → Nat), k ≤ n ∧ i = .int .i64 (k : Nat) ∧ Own wr y0.heap.size (some ⟨y0.heap.size, 0, none⟩) n c1 u ∧ Un.Un u n r ∧ Un.Jn s n cs r k 0 ∧ Below y0.heap.size y0 wr) (fun i _ => n - (intOf i).toNat)
  case atStart => exact ⟨0, _, id, by omega, rfl, Ho1.out, by have := Un.Un.start n; simpa [marks] using this, Un.Jn.start s n cs, Hb1.out⟩
  case round =>
    clear Ho1 Hb1 X1 u0 u1 ul1
    obtain ⟨wo, rfl⟩ : ∃ wo : World, wo = wr := ⟨_, rfl⟩
    obtain ⟨k, u, r, hk, rfl, ho, hun, hjn, hbr⟩ := hrel
    have hz := hbr.size
    have hgl := (ho.ge rfl).2
    have X0r := Lib.hid (X0.out.below hbr ul)
    have Ho := Lib.hid ho
    have Hun := Lib.hid hun
    have Hjn := Lib.hid hjn
    have Hbr := Lib.hid hbr
    clear ho hun hjn hbr
    by_cases hkn : k < n
    · have ck := (Hbr.out.cell (p := ⟨b, o + k, none⟩) (by show b < _; omega)).trans (Hc.out k hkn)
      obtain ⟨x, hx⟩ : ∃ x, cs.getD k 0 = x := ⟨_, rfl⟩
      have Hx := Lib.hid hx
      rw [hx] at ck
      clear hx
      have v0 := X0r.out.cell0
      have v1 := X0r.out.cell1
      have vl := X0r.out.lt
      have hk0 : (0 : Int) ≤ (k : Nat) := by omega
      have hkss : ((k : Nat) : Int) < s * s := by have := Hn.out; omega
      have hkI : (k : Int) < n := by omega
      go_wp2_with fail
      refine (i_nbs s k _ h1 h2 hk0 hkss).mono ?_
      rintro e yc ⟨A2, n2, c2, rfl, ho2, hb2⟩
      have hn2 : n2 ≤ 4 := by
        have := ho2.1
        rw [Pt.nbs, List.length_append, List.length_append, List.length_append] at this
        have := len_if (P := s ≤ (k : Int)) ((k : Int) - s)
        have := len_if (P := 0 < (k : Int) % s) ((k : Int) - 1)
        have := len_if (P := (k : Int) % s < s - 1) ((k : Int) + 1)
        have := len_if (P := (k : Int) + s < s * s) ((k : Int) + s)
        unfold Pt.nbL Pt.nbA Pt.nbB Pt.nbU at *
        omega
      have hzc := hb2.size
      have Ho2 := Lib.hid ho2
      have Hlo := Lib.hid ho2.1
      have X0c := Lib.hid (X0r.out.below hb2 vl)
      have Hoc := Lib.hid (Ho.out.below hb2)
      have Hbc := Lib.hid (Hbr.out.trans (hb2.mono (by omega)))
      clear ho2 hb2 v0 v1 ck Ho
      go_wp2_with fail
      go_loopw [25] (fun i wi => ∃ (j : Nat) (u2 : List Int) (r2 : Nat → Nat), j ≤ n2 ∧ i = .int .i64 (j : Nat) ∧ Own wi y0.heap.size (some ⟨y0.heap.size, 0, none⟩) n c1 u2 ∧ Un.Un u2 n r2 ∧ Un.Jn s n cs r2 k j ∧ yc.grownBy wi (some y0.heap.size)) (fun i _ => n2 - (intOf i).toNat)
      case atStart => exact ⟨0, _, _, by omega, rfl, Hoc.out, Hun.out, Hjn.out, World.grownBy.refl _ _⟩
      case round =>
        clear Hoc Hun Hjn
        obtain ⟨j, u2, r2, hj, rfl, ho, hun, hjn, hgr⟩ := hrel
        have hzi := hgr.size
        by_cases hjn2 : j < n2
        · have Xi := Lib.hid (X0c.out.grown hgr (by simp; omega))
          have v0 := Xi.out.cell0
          have v1 := Xi.out.cell1
          have vl := Xi.out.lt
          obtain ⟨nb, hA2⟩ : ∃ nb, A2 = some ⟨nb, 0, none⟩ := by
            obtain ⟨g, cap, hv, _⟩ := World.ownsRow.form Ho2.out.2 (by omega)
            exact ⟨g, by injection hv⟩
          have hnb := Ho2.out.ge hA2
          have hon := Ho2.out.kept hgr (fun g e e2 => by have := (Ho2.out.ge e).1; injection e2 with e2; omega)
          rw [hA2] at hon
          have hjl : j < (Pt.nbs s k).length := by rw [Hlo.out]; exact hjn2
          have hcn := hon.cellD j hjn2
          have hmem : (Pt.nbs s k).getD j 0 ∈ Pt.nbs s k := by
            rw [List.getD_eq_getElem?_getD, List.getElem?_eq_getElem hjl]; exact List.getElem_mem _
          obtain ⟨q0, qn⟩ := Hnn.out k hk0 hkI _ hmem
          obtain ⟨q, hq⟩ : ∃ q, (Pt.nbs s k).getD j 0 = q := ⟨_, rfl⟩
          rw [hq] at hcn q0 qn
          obtain ⟨d, rfl⟩ := Int.eq_ofNat_of_zero_le q0
          have hdn : d < n := by omega
          have cb := hgr.cell ((Hbc.out.cell (p := ⟨b, o + d, none⟩) (by show b < _; omega)).trans (Hc.out d hdn)) (by simp; omega)
          obtain ⟨e0, he0⟩ : ∃ e0, cs.getD d 0 = e0 := ⟨_, rfl⟩
          rw [he0] at cb
          have Hq := Lib.hid hq
          have Hjl := Lib.hid hjl
          have He0 := Lib.hid he0
          have Ho := Lib.hid ho
          have Hun := Lib.hid hun
          have Hjn := Lib.hid hjn
          have Hgr := Lib.hid hgr
          have HA := Lib.hid hA2
          rw [hA2]
          have hj2 : (j : Int) < n2 := by omega
          clear hq hmem hjl he0 hA2 hon ho hun hjn hgr
          by_cases hcol : e0 = x
          · have Hst := Lib.hid (Hjn.out.join Hnn.out Hsy.out Hl.out hkn hdn Hjl.out Hq.out (by rw [He0.out, Hx.out]; exact hcol))
            go_wp2_with fail
            refine (i_join _ _ _ _ _ _ _ _ _ Ho.out Hun.out hkn hdn).mono ?_
            rintro e y9 ⟨rfl, u3, ho3, hun3, hg3⟩
            have Ho3 := Lib.hid ho3
            have Hun3 := Lib.hid hun3
            have Hg3 := Lib.hid (gtrans Hgr.out hg3)
            clear ho3 hun3 hg3
            go_wp2_with fail
            go_roundw
            case rel => exact ⟨j + 1, _, _, by omega, by go_num, Ho3.out, Hun3.out, Hst.out, Hg3.out⟩
            case measure => simp [intOf]; omega
          · have Hst := Lib.hid (Hjn.out.skip Hjl.out Hq.out (by rw [He0.out, Hx.out]; exact hcol))
            go_wp2_with fail
            go_roundw
            case rel => exact ⟨j + 1, _, _, by omega, by go_num, Ho.out, Hun.out, Hst.out, Hgr.out⟩
            case measure => simp [intOf]; omega
        · have Hjn2 := Lib.hid (hjn.next (by rw [Hlo.out]; omega))
          have Ho := Lib.hid ho
          have Hun := Lib.hid hun
          have Hgr := Lib.hid hgr
          clear ho hun hjn hgr
          go_wp2_with fail
          go_roundw
          case rel => exact ⟨k + 1, _, _, by omega, by go_num, Ho.out, Hun.out, Hjn2.out, Hbc.out.grown Hgr.out (by omega) (fun k e => by injection e; omega)⟩
          case measure => simp [intOf]; omega
    · obtain rfl : k = n := by omega
      go_wp2_with fail
      go_ret
      exact ⟨_, _, _, _, rfl, Ho.out.weaken (by omega), Hun.out, Hjn.out, Hb.out.trans (Hbr.out.mono (by omega))⟩
end Go.Proofs.Ytfpibldknjcehaa
