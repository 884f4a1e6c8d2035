/-
  The program's TransformPoint computes 'Pt.tr', for every int; what it makes lies in new memory.
-/
import Derived.Test.YtpopbcmfbcmojaaImplPt
namespace Go.Proofs.Ytpopbcmfbcmojaa
set_option maxRecDepth 100000
open Go.RowKit

/-- A place of the call's own: block g holds a row and a column. -/
def At2 (w : World) (g : Nat) (r c : Int) : Prop := w.heap[g]? = some (.cells #[.int .i64 r, .int .i64 c] 64 (0, 0))

theorem At2.lt {w : World} {g : Nat} {r c : Int} (h : At2 w g r c) : g < w.heap.size := by
  rcases Nat.lt_or_ge g w.heap.size with hlt | hge
  · exact hlt
  · unfold At2 at h; rw [Array.getElem?_eq_none hge] at h; cases h
theorem At2.cell0 {w : World} {g : Nat} {r c : Int} (h : At2 w g r c) : w.cell? ⟨g, 0, none⟩ = some (.int .i64 r) := by
  unfold At2 at h; simp [World.cell?, h]
theorem At2.cell1 {w : World} {g : Nat} {r c : Int} (h : At2 w g r c) : w.cell? ⟨g, 1, none⟩ = some (.int .i64 c) := by
  unfold At2 at h; simp [World.cell?, h]
theorem At2.frozen {w : World} {g : Nat} {r c : Int} (h : At2 w g r c) (i : Nat) : w.frozen? ⟨g, i, none⟩ = false := by
  unfold At2 at h; simp [World.frozen?, h]
theorem At2.new (w : World) (r c : Int) : At2 (w.alloc (.cells #[.int .i64 r, .int .i64 c] 64)) w.heap.size r c := heap_alloc_new w _
theorem At2.below {w w' : World} {g B : Nat} {r c : Int} (h : At2 w g r c) (hb : Below B w w') (hg : g < B) : At2 w' g r c := (hb.block g hg).trans h
theorem At2.set2 {w : World} {g : Nat} {r c : Int} (h : At2 w g r c) (r' c' : Int) : At2 ((w.setCell ⟨g, 0, none⟩ (.int .i64 r')).setCell ⟨g, 1, none⟩ (.int .i64 c')) g r' c' := by
  unfold At2 at h ⊢
  simp [World.setCell, Array.getElem?_modify, h]

theorem i_tr_in (s k p : Int) (w : World) (h1 : 1 ≤ s) (h2 : s ≤ 7) (h3 : 0 ≤ p) (h4 : p < s * s) (k1 : 0 ≤ k) (k2 : k < 8) :
    Calls Try.prog 14 #[.int .i64 s, .int .i64 k, .int .i64 p] w fun e w' => e = .returned (.int .i64 (Pt.img s k p)) ∧ Below w.heap.size w w' := by
  have hp : Pt.okP s p = true := (Pt.okP_iff s p).2 ⟨h1, h2, h3, h4⟩
  have hk : Pt.okK k = true := (Pt.okK_iff k).2 ⟨k1, k2⟩
  obtain ⟨d1, d2, d3, d4, d5⟩ := Pt.dm s p h1 h2 h3 h4
  clear d5
  have hbeg4 : 4 ≤ k → Pt.beg s k p = (p / s, s - 1 - p % s) := fun h => by rw [Pt.beg, if_pos h]
  have hbeg3 : ¬ 4 ≤ k → Pt.beg s k p = (p / s, p % s) := fun h => by rw [Pt.beg, if_neg h]
  have H4 := Lib.hid hbeg4
  have H3 := Lib.hid hbeg3
  clear hbeg4 hbeg3
  by_cases h4k : 4 ≤ k
  · go_enter Try.func14, Try.ntmps14
    go_wp2_with fail
    refine (i_point _ _ _).mono ?_
    rintro e w' ⟨rfl, rfl⟩
    go_wp2_with fail
    refine (i_sym _ _).mono ?_
    rintro e w' ⟨rfl, rfl⟩
    go_wp2_with fail
    refine (i_place _ _ _ h1 h2 h3 h4).mono ?_
    rintro e w1 ⟨rfl, hb1⟩
    go_wp2_with fail
    refine (i_mirrored _ _ _ _ h1 h2 d3 d4).mono ?_
    rintro e w2 ⟨rfl, hb2⟩
    have ha := (At2.new w1 (p / s) (p % s)).below hb2 (by simp)
    have hs := ha.set2 (p / s) (s - 1 - p % s)
    have hz := hb1.size
    have hbw : Below w.heap.size w w2 := (hb1.alloc hz _).trans (hb2.mono (by simp; omega))
    have hbs := (hbw.setCell (p := ⟨w1.heap.size, 0, none⟩) hz (.int .i64 (p / s))).setCell (p := ⟨w1.heap.size, 1, none⟩) hz (.int .i64 (s - 1 - p % s))
    have Hs := Lib.hid hs
    have Hb := Lib.hid hbs
    have c0 := ha.cell0
    have c1 := ha.cell1
    have f0 := ha.frozen 0
    have f1 := ha.frozen 1
    have hlt := ha.lt
    clear hs hbs
    go_wp2_with fail
    clear c0 c1 f0 f1
    go_loopw [27] (fun i wr => ∃ n : Nat, n ≤ (k % 4).toNat ∧ i = .int .i64 n ∧ At2 wr w1.heap.size (Pt.rot s n (Pt.beg s k p)).1 (Pt.rot s n (Pt.beg s k p)).2 ∧ Below w.heap.size w wr) (fun i _ => (k % 4).toNat - (intOf i).toNat)
    case atStart => exact ⟨0, Nat.zero_le _, rfl, by rw [Pt.rot, H4.out h4k]; exact Hs.out, Hb.out⟩
    case round =>
      clear Hs Hb
      obtain ⟨n, hn, rfl, hat, hbr⟩ := hrel
      obtain ⟨r1, r2, r3, r4⟩ := Pt.rot_bd s n _ (Pt.beg_bd s k p h1 h2 h3 h4)
      have c0 := hat.cell0
      have c1 := hat.cell1
      by_cases hlt : (n : Int) < k % 4
      · go_wp2_with fail
        refine (i_turned _ _ _ _ h1 h2 r1 r2).mono ?_
        rintro e w3 ⟨rfl, hb3⟩
        have ha3 := hat.below hb3 hat.lt
        clear c0 c1
        have c0 := ha3.cell0
        have c1 := ha3.cell1
        have f0 := ha3.frozen 0
        have f1 := ha3.frozen 1
        have hlt3 := ha3.lt
        go_wp2_with fail
        go_roundw
        case rel => exact ⟨n + 1, by omega, by go_num, ha3.set2 _ _, ((hbr.trans (hb3.mono hbr.size)).setCell hz _).setCell hz _⟩
        case measure => simp [intOf]; omega
      · have hm : (k % 4).toNat = n := by omega
        have H := Lib.hid hm
        clear hm
        go_wp2_with fail
        refine (i_pointOn _ _ _ _ h1 h2 r1 r2 r3 r4).mono ?_
        rintro e w3 ⟨rfl, hb3⟩
        go_wp2_with fail
        go_ret
        exact ⟨ret_int (by rw [Pt.img, H.out]), hbr.trans (hb3.mono hbr.size)⟩
  · go_enter Try.func14, Try.ntmps14
    go_wp2_with fail
    refine (i_point _ _ _).mono ?_
    rintro e w' ⟨rfl, rfl⟩
    go_wp2_with fail
    refine (i_sym _ _).mono ?_
    rintro e w' ⟨rfl, rfl⟩
    go_wp2_with fail
    refine (i_place _ _ _ h1 h2 h3 h4).mono ?_
    rintro e w1 ⟨rfl, hb1⟩
    have Hs := Lib.hid (At2.new w1 (p / s) (p % s))
    have hz := hb1.size
    have Hb := Lib.hid (hb1.alloc hz (.cells #[.int .i64 (p / s), .int .i64 (p % s)] 64))
    go_wp2_with fail
    go_loopw [27] (fun i wr => ∃ n : Nat, n ≤ (k % 4).toNat ∧ i = .int .i64 n ∧ At2 wr w1.heap.size (Pt.rot s n (Pt.beg s k p)).1 (Pt.rot s n (Pt.beg s k p)).2 ∧ Below w.heap.size w wr) (fun i _ => (k % 4).toNat - (intOf i).toNat)
    case atStart => exact ⟨0, Nat.zero_le _, rfl, by rw [Pt.rot, H3.out h4k]; exact Hs.out, Hb.out⟩
    case round =>
      clear Hs Hb
      obtain ⟨n, hn, rfl, hat, hbr⟩ := hrel
      obtain ⟨r1, r2, r3, r4⟩ := Pt.rot_bd s n _ (Pt.beg_bd s k p h1 h2 h3 h4)
      have c0 := hat.cell0
      have c1 := hat.cell1
      by_cases hlt : (n : Int) < k % 4
      · go_wp2_with fail
        refine (i_turned _ _ _ _ h1 h2 r1 r2).mono ?_
        rintro e w3 ⟨rfl, hb3⟩
        have ha3 := hat.below hb3 hat.lt
        clear c0 c1
        have c0 := ha3.cell0
        have c1 := ha3.cell1
        have f0 := ha3.frozen 0
        have f1 := ha3.frozen 1
        have hlt3 := ha3.lt
        go_wp2_with fail
        go_roundw
        case rel => exact ⟨n + 1, by omega, by go_num, ha3.set2 _ _, ((hbr.trans (hb3.mono hbr.size)).setCell hz _).setCell hz _⟩
        case measure => simp [intOf]; omega
      · have hm : (k % 4).toNat = n := by omega
        have H := Lib.hid hm
        clear hm
        go_wp2_with fail
        refine (i_pointOn _ _ _ _ h1 h2 r1 r2 r3 r4).mono ?_
        rintro e w3 ⟨rfl, hb3⟩
        go_wp2_with fail
        go_ret
        exact ⟨ret_int (by rw [Pt.img, H.out]), hbr.trans (hb3.mono hbr.size)⟩

theorem i_tr (s k p : Int) (w : World) : Calls Try.prog 14 #[.int .i64 s, .int .i64 k, .int .i64 p] w fun e w' => e = .returned (.int .i64 (Pt.tr s k p)) ∧ Below w.heap.size w w' := by
  by_cases h : Pt.okP s p = true
  · by_cases hk : Pt.okK k = true
    · obtain ⟨h1, h2, h3, h4⟩ := (Pt.okP_iff s p).1 h
      obtain ⟨k1, k2⟩ := (Pt.okK_iff k).1 hk
      have hfin : Pt.tr s k p = Pt.img s k p := by rw [Pt.tr, h, hk]; rfl
      rw [hfin]
      exact i_tr_in s k p w h1 h2 h3 h4 k1 k2
    · have hk' : Pt.okK k = false := by simpa using hk
      have hfin : Pt.tr s k p = -1 := by rw [Pt.tr, h, hk']; rfl
      have H := Lib.hid hfin
      clear hfin
      go_enter Try.func14, Try.ntmps14
      go_wp2_with fail
      refine (i_point _ _ _).mono ?_
      rintro e w' ⟨rfl, rfl⟩
      go_wp2_with fail
      refine (i_sym _ _).mono ?_
      rintro e w' ⟨rfl, rfl⟩
      go_wp2_with fail
      go_ret
      exact ⟨ret_int H.out.symm, Below.refl _ _⟩
  · have h' : Pt.okP s p = false := by simpa using h
    have hfin : Pt.tr s k p = -1 := by rw [Pt.tr, h']; rfl
    have H := Lib.hid hfin
    clear hfin
    go_enter Try.func14, Try.ntmps14
    go_wp2_with fail
    refine (i_point _ _ _).mono ?_
    rintro e w' ⟨rfl, rfl⟩
    go_wp2_with fail
    go_ret
    exact ⟨ret_int H.out.symm, Below.refl _ _⟩
end Go.Proofs.Ytpopbcmfbcmojaa
