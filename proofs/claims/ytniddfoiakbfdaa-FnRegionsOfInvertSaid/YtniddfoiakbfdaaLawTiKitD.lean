/-
  Texts that a law stands on: TmS, OthR, Spo, DrD, DrW, OthW.
-/
import Derived.Test.YtniddfoiakbfdaaLawTiKitB
import Derived.Test.YtniddfoiakbfdaaLawTiKitC
import Derived.Test.YtniddfoiakbfdaaInv
import Derived.Test.YtniddfoiakbfdaaLawTiKitA
import Derived.Test.YtniddfoiakbfdaaGsI
import Derived.Test.YtniddfoiakbfdaaSorted
import Derived.Test.YtniddfoiakbfdaaCopy
import Derived.Maps.AppendAt
import Derived.Deep.RegionWith
import Derived.Test.YtniddfoiakbfdaaInvB
namespace Go.Proofs.Ytniddfoiakbfdaa
set_option maxRecDepth 100000
open Go.RowKit

theorem clr_mem (ds : List Int) : ∀ cs : List Int, (∀ c ∈ cs, 0 ≤ c ∧ c ≤ 2) → ∀ c ∈ clr cs ds, 0 ≤ c ∧ c ≤ 2 := by
  induction ds with
  | nil => intro cs h; exact h
  | cons d ds ih =>
    intro cs h
    refine ih (cs.set d.toNat 0) fun c hc => ?_
    rcases List.mem_or_eq_of_mem_set hc with h9 | rfl
    · exact h c h9
    · omega
theorem okB_clr {s : Int} {cs : List Int} (ds : List Int) (h : Bd.okB s cs = true) : Bd.okB s (clr cs ds) = true := by
  obtain ⟨h1, h2, h3, h4⟩ := (Bd.okB_iff s cs).1 h
  exact (Bd.okB_iff s _).2 ⟨h1, h2, by rw [clr_len]; exact h3, clr_mem ds cs h4⟩

/-- Are the prisoners and komi in their ranges? -/
def tmOk (bp wp km : Int) : Prop := (0 ≤ bp ∧ bp ≤ 99) ∧ (0 ≤ wp ∧ wp ≤ 99) ∧ -99 ≤ km ∧ km ≤ 99
/-- The margin by territory. -/
def tmV (m1 m2 : Nat) (b1 b2 d1 d2 bp wp km : Int) : Int := 2 * (((m1 : Nat) + b2 - d2 + wp) - ((m2 : Nat) + b1 - d1 + bp)) - km
def TmIs (s : Int) (n : Nat) (cs ds : List Int) (bp wp km v : Int) (ok : Bool) : Prop :=
  ∃ (rk : Bool) (s' : Int) (cs' : List Int), Rmv s cs ds rk s' cs' ∧
    ((ok = true ∧ rk = true ∧ tmOk bp wp km ∧ ∃ l1 l2, TrIs s n cs' 1 l1 ∧ TrIs s n cs' 2 l2 ∧ v = tmV l1.length l2.length (cnt 1 cs) (cnt 2 cs) (cnt 1 cs') (cnt 2 cs') bp wp km) ∨
     (ok = false ∧ ¬ (rk = true ∧ tmOk bp wp km) ∧ v = 0))
theorem TmIs.make (s : Int) (n : Nat) (cs ds : List Int) (bp wp km : Int) (hn : cs.length = n) : ∃ v ok, TmIs s n cs ds bp wp km v ok := by
  obtain ⟨rk, s', cs', hR⟩ := Rmv.ex s cs ds
  by_cases h : rk = true ∧ tmOk bp wp km
  · have hl : cs'.length = n := by
      rcases hR with ⟨_, _, _, _, rfl⟩ | ⟨e, _⟩
      · rw [clr_len]; exact hn
      · rw [e] at h; exact absurd h.1 (by decide)
    obtain ⟨l1, h1⟩ := TrIs.make s n cs' 1 hl
    obtain ⟨l2, h2⟩ := TrIs.make s n cs' 2 hl
    exact ⟨_, true, rk, s', cs', hR, .inl ⟨rfl, h.1, h.2, l1, l2, h1, h2, rfl⟩⟩
  · exact ⟨0, false, rk, s', cs', hR, .inr ⟨rfl, h, rfl⟩⟩
theorem ret_ib {a b : Int} {ok : Bool} (h : a = b) : Ending.returned (.tuple #[.int .i64 a, .bool ok]) = .returned (.tuple #[.int .i64 b, .bool ok]) := by rw [h]
theorem wrap_small {a : Int} (h0 : -1000 ≤ a) (h1 : a ≤ 1000) : IntKind.i64.wrap a = a := by
  simp [IntKind.wrap, IntKind.bits, IntKind.signed]; omega

theorem i_vPris (x : Int) (w : World) : Calls Try.prog 18 #[.int .i64 x] w fun e w' => e = .returned (.bool (decide (0 ≤ x) && decide (x ≤ 99))) ∧ w' = w := by
  by_cases h0 : 0 ≤ x
  · have e0 : decide (0 ≤ x) = true := decide_eq_true h0
    clear h0
    by_cases h1 : x ≤ 99
    · have e1 : decide (x ≤ 99) = true := decide_eq_true h1
      clear h1
      go_enter Try.func18, Try.ntmps18
      go_wp2_with fail
      go_ret
      exact ⟨by rw [e0, e1]; rfl, rfl⟩
    · have e1 : decide (x ≤ 99) = false := decide_eq_false h1
      clear h1
      go_enter Try.func18, Try.ntmps18
      go_wp2_with fail
      go_ret
      exact ⟨by rw [e0, e1]; rfl, rfl⟩
  · have e0 : decide (0 ≤ x) = false := decide_eq_false h0
    clear h0
    go_enter Try.func18, Try.ntmps18
    go_wp2_with fail
    go_ret
    exact ⟨by rw [e0]; rfl, rfl⟩

set_option maxRecDepth 100000 in
set_option maxHeartbeats 4000000 in
theorem i_tp (s x : Int) (w : World) (B B1 : Nat) (A A1 : Option Addr) (n c c1 : Nat) (cs cs' : List Int) (h : Ints w B A n cs) (h' : Ints w B1 A1 n cs') (hB : B ≤ w.heap.size) (hB1 : B1 ≤ w.heap.size) (hn : n ≤ 49) (o b d : Int) (l : List Int) (m : Nat) (Ho : Hid (oth x = o)) (Hc : Hid (cntB s cs o = b)) (Hd : Hid (cntB s cs' o = d)) (Hl : Hid (TrIs s n cs' x l)) (Hm : Hid (l.length = m)) (w1 : IntKind.i64.wrap (b - d) = b - d) (w2 : IntKind.i64.wrap ((m : Nat) + (b - d)) = (m : Nat) + (b - d)) :
    Calls Try.prog 20 #[.agg #[.int .i64 s, .slice A n c], .agg #[.int .i64 s, .slice A1 n c1], .int .i64 x] w fun e w' => e = .returned (.int .i64 ((m : Nat) + (b - d))) ∧ Below w.heap.size w w' := by
  have e1 : (w.alloc (.cells #[.int .i64 s, .slice A n c] 25)).heap.size = w.heap.size + 1 := by simp
  have x0 := (Bx.new 25 w s (.slice A n c)).alloc (.cells #[.int .i64 s, .slice A1 n c1] 25)
  have x1 := Bx.new 25 (w.alloc (.cells #[.int .i64 s, .slice A n c] 25)) s (.slice A1 n c1)
  rw [e1] at x1
  have hb2 : Below w.heap.size w ((w.alloc (.cells #[.int .i64 s, .slice A n c] 25)).alloc (.cells #[.int .i64 s, .slice A1 n c1] 25)) := ((Below.refl _ _).alloc (Nat.le_refl _) _).alloc (by simp) _
  have H := Lib.hid (h.below hb2 hB)
  have HP := Lib.hid (h'.below hb2 hB1)
  have X0 := Lib.hid x0
  have X1 := Lib.hid x1
  have Hb := Lib.hid hb2
  clear e1 x0 x1 hb2 h h'
  go_enter Try.func20, Try.ntmps20
  go_upto_region 1 with (fail)
  obtain ⟨y2, hy2⟩ : ∃ y, y = ((w.alloc (.cells #[.int .i64 s, .slice A n c] 25)).alloc (.cells #[.int .i64 s, .slice A1 n c1] 25)) := ⟨_, rfl⟩
  rw [← hy2] at H HP X0 X1 Hb ⊢
  clear hy2
  have z2 := X1.out.lt
  have hBz : B ≤ y2.heap.size := by omega
  have hBy : B1 ≤ y2.heap.size := by omega
  have hwz : w.heap.size ≤ y2.heap.size := by omega
  have u0 := X0.out.cell0
  have u1 := X0.out.cell1
  have u2 := X1.out.cell0
  have u3 := X1.out.cell1
  go_wp2_with fail
  refine (i_other x _).mono ?_
  rintro e w9 ⟨rfl, rfl⟩
  rw [Ho.out]
  go_wp2_with fail
  go_region_held3 (fun w' => w'.cell? ⟨w.heap.size, 0, none⟩ = some (.int .i64 s) ∧ w'.cell? ⟨w.heap.size, 1, none⟩ = some (.slice A n c) ∧ w'.cell? ⟨w.heap.size + 1, 0, none⟩ = some (.int .i64 s) ∧ w'.cell? ⟨w.heap.size + 1, 1, none⟩ = some (.slice A1 n c1)) (first | exact ⟨u0, u1, u2, u3⟩ | go_keep) (first | (have hs1 := hs1; go_at_call 44; refine (i_count s _ _ A1 n c1 cs' o (by exact HP.out) (by exact hBy) (by omega)).mono ?_; rintro e ya ⟨rfl, hb⟩; rw [Hd.out]; have X0 := Lib.hid (Bx.below (by exact X0.out) hb X0.out.lt); have X1 := Lib.hid (Bx.below (by exact X1.out) hb X1.out.lt); have H := Lib.hid (Ints.below (by exact H.out) hb (by exact hBz)); have HP := Lib.hid (Ints.below (by exact HP.out) hb (by exact hBy)); have Hb : Hid (Below w.heap.size w ya) := Lib.hid (Below.trans (by exact ⟨Hb.out.os, Hb.out.tape, Hb.out.output, Hb.out.size, Hb.out.block⟩) (hb.mono (by exact hwz))); have hBz := Nat.le_trans (show B ≤ _ from hBz) hb.size; have hwz := Nat.le_trans (show w.heap.size ≤ _ from hwz) hb.size; have hBy := Nat.le_trans (show B1 ≤ _ from hBy) hb.size; clear hb u0 u1 u2 u3; have u0 := X0.out.cell0; have u1 := X0.out.cell1; have u2 := X1.out.cell0; have u3 := X1.out.cell1; have hs2 : True := trivial) | (go_at_call 44; refine (i_count s _ B A n c cs o (by exact H.out) (by exact hBz) (by omega)).mono ?_; rintro e ya ⟨rfl, hb⟩; rw [Hc.out]; have X0 := Lib.hid (Bx.below (by exact X0.out) hb X0.out.lt); have X1 := Lib.hid (Bx.below (by exact X1.out) hb X1.out.lt); have H := Lib.hid (Ints.below (by exact H.out) hb (by exact hBz)); have HP := Lib.hid (Ints.below (by exact HP.out) hb (by exact hBy)); have Hb : Hid (Below w.heap.size w ya) := Lib.hid (Below.trans (by exact ⟨Hb.out.os, Hb.out.tape, Hb.out.output, Hb.out.size, Hb.out.block⟩) (hb.mono (by exact hwz))); have hBz := Nat.le_trans (show B ≤ _ from hBz) hb.size; have hwz := Nat.le_trans (show w.heap.size ≤ _ from hwz) hb.size; have hBy := Nat.le_trans (show B1 ≤ _ from hBy) hb.size; clear hb u0 u1 u2 u3; have u0 := X0.out.cell0; have u1 := X0.out.cell1; have u2 := X1.out.cell0; have u3 := X1.out.cell1; have hs1 : True := trivial))
  go_wp2_with fail
  refine (i_Te s x _ _ A1 n c1 cs' HP.out hBy (by omega) l Hl).mono ?_
  rintro e y3 ⟨A7, m7, c7, rfl, ho7, hb⟩
  have hm7 := ho7.1.symm.trans Hm.out
  subst hm7
  have Hb := Lib.hid (Hb.out.trans (hb.mono hwz))
  clear ho7 hb
  go_wp2_with fail
  go_ret
  exact ⟨rfl, Hb.out⟩

set_option maxRecDepth 100000 in
set_option maxHeartbeats 8000000 in
theorem s_Tm (s : Int) (w : World) (B B' : Nat) (A P : Option Addr) (n c m pc : Nat) (cs ds : List Int) (bp wp km : Int) (h : Ints w B A n cs) (h' : Ints w B' P m ds) (hB : B ≤ w.heap.size) (hB' : B' ≤ w.heap.size) (hn : n ≤ 1048576) (hm : m ≤ 1048576) (v : Int) (ok : Bool) (Hv : Hid (TmIs s n cs ds bp wp km v ok)) :
    Calls Try.prog 7 #[.agg #[.int .i64 s, .slice A n c], .slice P m pc, .int .i64 bp, .int .i64 wp, .int .i64 km] w fun e w' => e = .returned (.tuple #[.int .i64 v, .bool ok]) ∧ Below w.heap.size w w' := by
  have hb1 : Below w.heap.size w (w.alloc (.cells #[.int .i64 s, .slice A n c] 25)) := (Below.refl _ _).alloc (Nat.le_refl _) _
  have X0 := Lib.hid (Bx.new 25 w s (.slice A n c))
  have H := Lib.hid (h.below hb1 hB)
  have HP := Lib.hid (h'.below hb1 hB')
  have Hb := Lib.hid hb1
  have Hcl := Lib.hid h.1
  obtain ⟨rk, s', cs', hR, hcase⟩ := Hv.out
  have HR := Lib.hid hR
  have Hcase := Lib.hid hcase
  clear h h' hb1 hR hcase
  go_enter Try.func7, Try.ntmps7
  go_wp2_with fail
  refine (s_RmvX s _ B B' A P n c m pc cs ds rk s' cs' H.out HP.out (by simp; omega) (by simp; omega) hn hm HR).mono ?_
  rintro e y1 ⟨A1, n1, c1, rfl, ho, hb⟩
  have hwz0 : w.heap.size + 1 ≤ y1.heap.size := by have := hb.size; simpa using this
  have X0 := Lib.hid (X0.out.below hb X0.out.lt)
  have H := Lib.hid (H.out.below hb (by simp; omega))
  have Hb := Lib.hid (Hb.out.trans (hb.mono (by simp)))
  have Ho := Lib.hid (ho.weaken (B' := w.heap.size) (by simp))
  clear ho hb HP
  have u0 := X0.out.cell0
  have u1 := X0.out.cell1
  go_upto_region 2 with (fail)
  obtain ⟨y2, hy2, hb2, z2, z2'⟩ := new_box y1 (.cells #[.int .i64 s', .slice A1 n1 c1] 25)
  have X1 : Hid (Bx 25 y2 y1.heap.size s' (.slice A1 n1 c1)) := Lib.hid (by rw [hy2]; exact Bx.new _ _ _ _)
  rw [← hy2]
  clear hy2 u0 u1
  have X0 := Lib.hid (X0.out.below hb2 X0.out.lt)
  have H := Lib.hid (H.out.below hb2 (by omega))
  have Ho := Lib.hid (Ho.out.below hb2)
  have Hb := Lib.hid (Hb.out.trans (hb2.mono (by omega)))
  clear hb2
  have u0 := X0.out.cell0
  have u1 := X0.out.cell1
  have u2 := X1.out.cell0
  have u3 := X1.out.cell1
  have hBz : B ≤ y2.heap.size := by omega
  have hwz : w.heap.size ≤ y2.heap.size := by omega
  rcases Bool.eq_false_or_eq_true rk with hrk | hrk
  · by_cases hok : tmOk bp wp km
    · obtain ⟨rfl, _, _, l1, l2, hl1, hl2, hv9⟩ : ok = true ∧ rk = true ∧ tmOk bp wp km ∧ ∃ l1 l2, TrIs s n cs' 1 l1 ∧ TrIs s n cs' 2 l2 ∧ v = tmV l1.length l2.length (cnt 1 cs) (cnt 2 cs) (cnt 1 cs') (cnt 2 cs') bp wp km := by
        rcases Hcase.out with h9 | ⟨_, h9, _⟩
        · exact h9
        · exact absurd ⟨hrk, hok⟩ h9
      obtain ⟨hbv, hbv', hss⟩ : Bd.okB s cs = true ∧ Bd.okB s cs' = true ∧ s = s' := by
        rcases HR.out with ⟨_, b, _, e, f⟩ | ⟨a, _⟩
        · exact ⟨b, by rw [f]; exact okB_clr ds b, e.symm⟩
        · rw [hrk] at a; cases a
      subst hss
      obtain ⟨h1, h2, h3, _⟩ := (Bd.okB_iff s cs).1 hbv
      obtain ⟨_, _, h3', _⟩ := (Bd.okB_iff s cs').1 hbv'
      have hsq := Pt.sq_bd s h1 h2
      have hcl := Hcl.out
      have hf1 := hl1.few
      have hf2 := hl2.few
      have hc1 := cnt_bd 1 cs
      have hc2 := cnt_bd 2 cs
      have hd1 := cnt_bd 1 cs'
      have hd2 := cnt_bd 2 cs'
      have hn49 : n ≤ 49 := by omega
      have hlen' : cs'.length = n := by omega
      have Hn : Hid ((n : Int) = s * s) := Lib.hid (by omega)
      obtain ⟨⟨p1, p2⟩, ⟨p3, p4⟩, p5, p6⟩ := hok
      obtain ⟨a1, ha1⟩ : ∃ a, cnt 1 cs = a := ⟨_, rfl⟩
      obtain ⟨a2, ha2⟩ : ∃ a, cnt 2 cs = a := ⟨_, rfl⟩
      obtain ⟨e1, he1⟩ : ∃ a, cnt 1 cs' = a := ⟨_, rfl⟩
      obtain ⟨e2, he2⟩ : ∃ a, cnt 2 cs' = a := ⟨_, rfl⟩
      obtain ⟨m1, hm1⟩ : ∃ m, l1.length = m := ⟨_, rfl⟩
      obtain ⟨m2, hm2⟩ : ∃ m, l2.length = m := ⟨_, rfl⟩
      rw [ha1] at hc1 hv9
      rw [ha2] at hc2 hv9
      rw [he1] at hd1 hv9
      rw [he2] at hd2 hv9
      rw [hm1] at hf1 hv9
      rw [hm2] at hf2 hv9
      have b1 : (decide (0 ≤ bp) && decide (bp ≤ 99)) = true := by rw [decide_eq_true p1, decide_eq_true p2]; rfl
      have b2 : (decide (0 ≤ wp) && decide (wp ≤ 99)) = true := by rw [decide_eq_true p3, decide_eq_true p4]; rfl
      have b3 : (decide (-99 ≤ km) && decide (km ≤ 99)) = true := by rw [decide_eq_true p5, decide_eq_true p6]; rfl
      have w1 : IntKind.i64.wrap ((m1 : Nat) + a2) = (m1 : Nat) + a2 := wrap_small (by omega) (by omega)
      have w2 : IntKind.i64.wrap ((m1 : Nat) + a2 - e2) = (m1 : Nat) + a2 - e2 := wrap_small (by omega) (by omega)
      have w3 : IntKind.i64.wrap ((m1 : Nat) + a2 - e2 + wp) = (m1 : Nat) + a2 - e2 + wp := wrap_small (by omega) (by omega)
      have w4 : IntKind.i64.wrap ((m2 : Nat) + a1) = (m2 : Nat) + a1 := wrap_small (by omega) (by omega)
      have w5 : IntKind.i64.wrap ((m2 : Nat) + a1 - e1) = (m2 : Nat) + a1 - e1 := wrap_small (by omega) (by omega)
      have w6 : IntKind.i64.wrap ((m2 : Nat) + a1 - e1 + bp) = (m2 : Nat) + a1 - e1 + bp := wrap_small (by omega) (by omega)
      have w7 : IntKind.i64.wrap (((m1 : Nat) + a2 - e2 + wp) - ((m2 : Nat) + a1 - e1 + bp)) = ((m1 : Nat) + a2 - e2 + wp) - ((m2 : Nat) + a1 - e1 + bp) := wrap_small (by omega) (by omega)
      have w8 : IntKind.i64.wrap (2 * (((m1 : Nat) + a2 - e2 + wp) - ((m2 : Nat) + a1 - e1 + bp))) = 2 * (((m1 : Nat) + a2 - e2 + wp) - ((m2 : Nat) + a1 - e1 + bp)) := wrap_small (by omega) (by omega)
      have w9 : IntKind.i64.wrap (2 * (((m1 : Nat) + a2 - e2 + wp) - ((m2 : Nat) + a1 - e1 + bp)) - km) = 2 * (((m1 : Nat) + a2 - e2 + wp) - ((m2 : Nat) + a1 - e1 + bp)) - km := wrap_small (by omega) (by omega)
      have Hv9 := Lib.hid hv9
      have Hl1 := Lib.hid hl1
      have Hl2 := Lib.hid hl2
      have Hc1 := Lib.hid ha1
      have Hc2 := Lib.hid ha2
      have Hd1 := Lib.hid he1
      have Hd2 := Lib.hid he2
      have Hm1 := Lib.hid hm1
      have Hm2 := Lib.hid hm2
      have Hok1 : Hid (okGs s cs' 1 = true) := Lib.hid (by unfold okGs; rw [hbv']; rfl)
      have Hok2 : Hid (okGs s cs' 2 = true) := Lib.hid (by unfold okGs; rw [hbv']; rfl)
      have Hbv := Lib.hid hbv
      have Hbv' := Lib.hid hbv'
      have Hlen' := Lib.hid hlen'
      clear hl1 hl2 ha1 ha2 he1 he2 hm1 hm2 hv9 hbv hbv' h3 h3' hcl hf1 hf2 hc1 hc2 hd1 hd2 hlen'
      subst hrk
      have hn1 : n = n1 := Hlen'.out.symm.trans Ho.out.1
      subst hn1
      go_wp2_with fail
      refine (s_range _ _ _ _).mono ?_
      rintro e w9 ⟨rfl, rfl⟩
      rw [b1]
      clear b1
      go_wp2_with fail
      refine (s_range _ _ _ _).mono ?_
      rintro e w9 ⟨rfl, rfl⟩
      rw [b2]
      clear b2
      go_wp2_with fail
      refine (s_range _ _ _ _).mono ?_
      rintro e w9 ⟨rfl, rfl⟩
      rw [b3]
      clear b3
      go_wp2_with fail
      go_region_held3 (fun w' => w'.cell? ⟨w.heap.size, 0, none⟩ = some (.int .i64 s) ∧ w'.cell? ⟨w.heap.size, 1, none⟩ = some (.slice A n c) ∧ w'.cell? ⟨y1.heap.size, 0, none⟩ = some (.int .i64 s) ∧ w'.cell? ⟨y1.heap.size, 1, none⟩ = some (.slice A1 n c1)) (first | exact ⟨u0, u1, u2, u3⟩ | go_keep) (first | (have hq2 := hq2; go_at_call 24; refine (s_cnt s _ _ A1 n c1 cs' 2 (by exact Ho.out.ints) (by exact Nat.le_refl _) (by omega)).mono ?_; rintro e ya ⟨rfl, hb⟩; rw [Hd2.out]; have X0 := Lib.hid (Bx.below (by exact X0.out) hb X0.out.lt); have X1 := Lib.hid (Bx.below (by exact X1.out) hb X1.out.lt); have H := Lib.hid (Ints.below (by exact H.out) hb (by exact hBz)); have Ho := Lib.hid (Own.below (by exact Ho.out) hb); have Hb : Hid (Below w.heap.size w ya) := Lib.hid (Below.trans (by exact ⟨Hb.out.os, Hb.out.tape, Hb.out.output, Hb.out.size, Hb.out.block⟩) (hb.mono (by exact hwz))); have hBz := Nat.le_trans (show B ≤ _ from hBz) hb.size; have hwz := Nat.le_trans (show w.heap.size ≤ _ from hwz) hb.size; clear hb u0 u1 u2 u3; have u0 := X0.out.cell0; have u1 := X0.out.cell1; have u2 := X1.out.cell0; have u3 := X1.out.cell1; have hq3 : True := trivial) | (have hq1 := hq1; go_at_call 24; refine (s_cnt s _ B A n c cs 2 (by exact H.out) (by exact hBz) (by omega)).mono ?_; rintro e ya ⟨rfl, hb⟩; rw [Hc2.out]; have X0 := Lib.hid (Bx.below (by exact X0.out) hb X0.out.lt); have X1 := Lib.hid (Bx.below (by exact X1.out) hb X1.out.lt); have H := Lib.hid (Ints.below (by exact H.out) hb (by exact hBz)); have Ho := Lib.hid (Own.below (by exact Ho.out) hb); have Hb : Hid (Below w.heap.size w ya) := Lib.hid (Below.trans (by exact ⟨Hb.out.os, Hb.out.tape, Hb.out.output, Hb.out.size, Hb.out.block⟩) (hb.mono (by exact hwz))); have hBz := Nat.le_trans (show B ≤ _ from hBz) hb.size; have hwz := Nat.le_trans (show w.heap.size ≤ _ from hwz) hb.size; clear hb u0 u1 u2 u3; have u0 := X0.out.cell0; have u1 := X0.out.cell1; have u2 := X1.out.cell0; have u3 := X1.out.cell1; have hq2 : True := trivial) | (go_at_call 23; refine (s_territory s 1 _ _ A1 n c1 cs' (by exact Ho.out.ints) (by exact Nat.le_refl _) h1 h2 Hn.out (by decide) l1 (Lib.hid (Hl1.out.1 Hok1.out))).mono ?_; rintro e ya ⟨A7, m7, c7, rfl, ho7, hb⟩; have hm7 := ho7.1.symm.trans Hm1.out; subst hm7; clear ho7; have X0 := Lib.hid (Bx.below (by exact X0.out) hb X0.out.lt); have X1 := Lib.hid (Bx.below (by exact X1.out) hb X1.out.lt); have H := Lib.hid (Ints.below (by exact H.out) hb (by exact hBz)); have Ho := Lib.hid (Own.below (by exact Ho.out) hb); have Hb : Hid (Below w.heap.size w ya) := Lib.hid (Below.trans (by exact ⟨Hb.out.os, Hb.out.tape, Hb.out.output, Hb.out.size, Hb.out.block⟩) (hb.mono (by exact hwz))); have hBz := Nat.le_trans (show B ≤ _ from hBz) hb.size; have hwz := Nat.le_trans (show w.heap.size ≤ _ from hwz) hb.size; clear hb u0 u1 u2 u3; have u0 := X0.out.cell0; have u1 := X0.out.cell1; have u2 := X1.out.cell0; have u3 := X1.out.cell1; have hq1 : True := trivial))
      go_wp2_with fail
      go_region_held3 (fun w' => w'.cell? ⟨w.heap.size, 0, none⟩ = some (.int .i64 s) ∧ w'.cell? ⟨w.heap.size, 1, none⟩ = some (.slice A n c) ∧ w'.cell? ⟨y1.heap.size, 0, none⟩ = some (.int .i64 s) ∧ w'.cell? ⟨y1.heap.size, 1, none⟩ = some (.slice A1 n c1)) (first | exact ⟨u0, u1, u2, u3⟩ | go_keep) (first | (have hr2 := hr2; go_at_call 24; refine (s_cnt s _ _ A1 n c1 cs' 1 (by exact Ho.out.ints) (by exact Nat.le_refl _) (by omega)).mono ?_; rintro e ya ⟨rfl, hb⟩; rw [Hd1.out]; have X0 := Lib.hid (Bx.below (by exact X0.out) hb X0.out.lt); have X1 := Lib.hid (Bx.below (by exact X1.out) hb X1.out.lt); have H := Lib.hid (Ints.below (by exact H.out) hb (by exact hBz)); have Ho := Lib.hid (Own.below (by exact Ho.out) hb); have Hb : Hid (Below w.heap.size w ya) := Lib.hid (Below.trans (by exact ⟨Hb.out.os, Hb.out.tape, Hb.out.output, Hb.out.size, Hb.out.block⟩) (hb.mono (by exact hwz))); have hBz := Nat.le_trans (show B ≤ _ from hBz) hb.size; have hwz := Nat.le_trans (show w.heap.size ≤ _ from hwz) hb.size; clear hb u0 u1 u2 u3; have u0 := X0.out.cell0; have u1 := X0.out.cell1; have u2 := X1.out.cell0; have u3 := X1.out.cell1; have hr3 : True := trivial) | (have hr1 := hr1; go_at_call 24; refine (s_cnt s _ B A n c cs 1 (by exact H.out) (by exact hBz) (by omega)).mono ?_; rintro e ya ⟨rfl, hb⟩; rw [Hc1.out]; have X0 := Lib.hid (Bx.below (by exact X0.out) hb X0.out.lt); have X1 := Lib.hid (Bx.below (by exact X1.out) hb X1.out.lt); have H := Lib.hid (Ints.below (by exact H.out) hb (by exact hBz)); have Ho := Lib.hid (Own.below (by exact Ho.out) hb); have Hb : Hid (Below w.heap.size w ya) := Lib.hid (Below.trans (by exact ⟨Hb.out.os, Hb.out.tape, Hb.out.output, Hb.out.size, Hb.out.block⟩) (hb.mono (by exact hwz))); have hBz := Nat.le_trans (show B ≤ _ from hBz) hb.size; have hwz := Nat.le_trans (show w.heap.size ≤ _ from hwz) hb.size; clear hb u0 u1 u2 u3; have u0 := X0.out.cell0; have u1 := X0.out.cell1; have u2 := X1.out.cell0; have u3 := X1.out.cell1; have hr2 : True := trivial) | (go_at_call 23; refine (s_territory s 2 _ _ A1 n c1 cs' (by exact Ho.out.ints) (by exact Nat.le_refl _) h1 h2 Hn.out (by decide) l2 (Lib.hid (Hl2.out.1 Hok2.out))).mono ?_; rintro e ya ⟨A7, m7, c7, rfl, ho7, hb⟩; have hm7 := ho7.1.symm.trans Hm2.out; subst hm7; clear ho7; have X0 := Lib.hid (Bx.below (by exact X0.out) hb X0.out.lt); have X1 := Lib.hid (Bx.below (by exact X1.out) hb X1.out.lt); have H := Lib.hid (Ints.below (by exact H.out) hb (by exact hBz)); have Ho := Lib.hid (Own.below (by exact Ho.out) hb); have Hb : Hid (Below w.heap.size w ya) := Lib.hid (Below.trans (by exact ⟨Hb.out.os, Hb.out.tape, Hb.out.output, Hb.out.size, Hb.out.block⟩) (hb.mono (by exact hwz))); have hBz := Nat.le_trans (show B ≤ _ from hBz) hb.size; have hwz := Nat.le_trans (show w.heap.size ≤ _ from hwz) hb.size; clear hb u0 u1 u2 u3; have u0 := X0.out.cell0; have u1 := X0.out.cell1; have u2 := X1.out.cell0; have u3 := X1.out.cell1; have hr1 : True := trivial))
      go_wp2_with fail
      go_ret2
      exact ⟨ret_ib (by rw [Hv9.out]; rfl), Hb.out⟩
    · have hno : ¬ (rk = true ∧ tmOk bp wp km) := fun h9 => hok h9.2
      obtain ⟨rfl, rfl⟩ : ok = false ∧ v = 0 := by
        rcases Hcase.out with ⟨_, h9, h8, _⟩ | ⟨a, _, b⟩
        · exact absurd ⟨h9, h8⟩ hno
        · exact ⟨a, b⟩
      subst hrk
      clear hno Hcase
      rcases Bool.eq_false_or_eq_true (decide (0 ≤ bp) && decide (bp ≤ 99)) with b1 | b1
      · rcases Bool.eq_false_or_eq_true (decide (0 ≤ wp) && decide (wp ≤ 99)) with b2 | b2
        · rcases Bool.eq_false_or_eq_true (decide (-99 ≤ km) && decide (km ≤ 99)) with b3 | b3
          · exfalso
            rw [Bool.and_eq_true, decide_eq_true_eq, decide_eq_true_eq] at b1 b2 b3
            exact hok ⟨b1, b2, b3⟩
          · clear hok
            go_wp2_with fail
            refine (s_range _ _ _ _).mono ?_
            rintro e w9 ⟨rfl, rfl⟩
            rw [b1]
            clear b1
            go_wp2_with fail
            refine (s_range _ _ _ _).mono ?_
            rintro e w9 ⟨rfl, rfl⟩
            rw [b2]
            clear b2
            go_wp2_with fail
            refine (s_range _ _ _ _).mono ?_
            rintro e w9 ⟨rfl, rfl⟩
            rw [b3]
            clear b3
            go_wp2_with fail
            go_ret2
            exact ⟨rfl, Hb.out⟩
        · clear hok
          go_wp2_with fail
          refine (s_range _ _ _ _).mono ?_
          rintro e w9 ⟨rfl, rfl⟩
          rw [b1]
          clear b1
          go_wp2_with fail
          refine (s_range _ _ _ _).mono ?_
          rintro e w9 ⟨rfl, rfl⟩
          rw [b2]
          clear b2
          go_wp2_with fail
          go_ret2
          exact ⟨rfl, Hb.out⟩
      · clear hok
        go_wp2_with fail
        refine (s_range _ _ _ _).mono ?_
        rintro e w9 ⟨rfl, rfl⟩
        rw [b1]
        clear b1
        go_wp2_with fail
        go_ret2
        exact ⟨rfl, Hb.out⟩
  · have hno : ¬ (rk = true ∧ tmOk bp wp km) := fun h9 => by rw [hrk] at h9; exact absurd h9.1 (by decide)
    obtain ⟨rfl, rfl⟩ : ok = false ∧ v = 0 := by
      rcases Hcase.out with ⟨_, h9, h8, _⟩ | ⟨a, _, b⟩
      · exact absurd ⟨h9, h8⟩ hno
      · exact ⟨a, b⟩
    subst hrk
    clear hno Hcase
    go_wp2_with fail
    go_ret2
    exact ⟨rfl, Hb.out⟩

set_option maxRecDepth 100000 in
set_option maxHeartbeats 8000000 in
theorem i_Tm (s : Int) (w : World) (B B' : Nat) (A P : Option Addr) (n c m pc : Nat) (cs ds : List Int) (bp wp km : Int) (h : Ints w B A n cs) (h' : Ints w B' P m ds) (hB : B ≤ w.heap.size) (hB' : B' ≤ w.heap.size) (hn : n ≤ 1048576) (hm : m ≤ 1048576) (v : Int) (ok : Bool) (Hv : Hid (TmIs s n cs ds bp wp km v ok)) :
    Calls Try.prog 6 #[.agg #[.int .i64 s, .slice A n c], .slice P m pc, .int .i64 bp, .int .i64 wp, .int .i64 km] w fun e w' => e = .returned (.tuple #[.int .i64 v, .bool ok]) ∧ Below w.heap.size w w' := by
  have hb1 : Below w.heap.size w (w.alloc (.cells #[.int .i64 s, .slice A n c] 25)) := (Below.refl _ _).alloc (Nat.le_refl _) _
  have X0 := Lib.hid (Bx.new 25 w s (.slice A n c))
  have H := Lib.hid (h.below hb1 hB)
  have HP := Lib.hid (h'.below hb1 hB')
  have Hb := Lib.hid hb1
  have Hcl := Lib.hid h.1
  obtain ⟨rk, s', cs', hR, hcase⟩ := Hv.out
  have HR := Lib.hid hR
  have Hcase := Lib.hid hcase
  clear h h' hb1 hR hcase
  go_enter Try.func6, Try.ntmps6
  by_cases hok : tmOk bp wp km
  · obtain ⟨⟨p1, p2⟩, ⟨p3, p4⟩, p5, p6⟩ := id hok
    have b1 : (decide (0 ≤ bp) && decide (bp ≤ 99)) = true := by rw [decide_eq_true p1, decide_eq_true p2]; rfl
    have b2 : (decide (0 ≤ wp) && decide (wp ≤ 99)) = true := by rw [decide_eq_true p3, decide_eq_true p4]; rfl
    have k1 : decide (km < -99) = false := decide_eq_false (by omega)
    have k2 : decide (99 < km) = false := decide_eq_false (by omega)
    clear p1 p2 p3 p4 p5 p6
    go_wp2_with fail
    refine (i_vPris _ _).mono ?_
    rintro e w9 ⟨rfl, rfl⟩
    rw [b1]
    clear b1
    go_wp2_with fail
    refine (i_vPris _ _).mono ?_
    rintro e w9 ⟨rfl, rfl⟩
    rw [b2]
    clear b2
    go_wp2_with fail
    refine (i_RmvX s _ B B' A P n c m pc cs ds rk s' cs' H.out HP.out (by simp; omega) (by simp; omega) hn hm HR).mono ?_
    rintro e y1 ⟨A1, n1, c1, rfl, ho, hb⟩
    have hwz0 : w.heap.size + 1 ≤ y1.heap.size := by have := hb.size; simpa using this
    have X0 := Lib.hid (X0.out.below hb X0.out.lt)
    have H := Lib.hid (H.out.below hb (by simp; omega))
    have Hb := Lib.hid (Hb.out.trans (hb.mono (by simp)))
    have Ho := Lib.hid (ho.weaken (B' := w.heap.size) (by simp))
    clear ho hb HP
    have u0 := X0.out.cell0
    have u1 := X0.out.cell1
    go_upto_region 4 with (fail)
    obtain ⟨y2, hy2, hb2, z2, z2'⟩ := new_box y1 (.cells #[.int .i64 s', .slice A1 n1 c1] 25)
    have X1 : Hid (Bx 25 y2 y1.heap.size s' (.slice A1 n1 c1)) := Lib.hid (by rw [hy2]; exact Bx.new _ _ _ _)
    rw [← hy2]
    clear hy2 u0 u1
    have X0 := Lib.hid (X0.out.below hb2 X0.out.lt)
    have H := Lib.hid (H.out.below hb2 (by omega))
    have Ho := Lib.hid (Ho.out.below hb2)
    have Hb := Lib.hid (Hb.out.trans (hb2.mono (by omega)))
    clear hb2
    have u0 := X0.out.cell0
    have u1 := X0.out.cell1
    have u2 := X1.out.cell0
    have u3 := X1.out.cell1
    have hBz : B ≤ y2.heap.size := by omega
    have hwz : w.heap.size ≤ y2.heap.size := by omega
    clear k1 k2
    rcases Bool.eq_false_or_eq_true rk with hrk | hrk
    · obtain ⟨rfl, _, _, l1, l2, hl1, hl2, hv9⟩ : ok = true ∧ rk = true ∧ tmOk bp wp km ∧ ∃ l1 l2, TrIs s n cs' 1 l1 ∧ TrIs s n cs' 2 l2 ∧ v = tmV l1.length l2.length (cnt 1 cs) (cnt 2 cs) (cnt 1 cs') (cnt 2 cs') bp wp km := by
        rcases Hcase.out with h9 | ⟨_, h9, _⟩
        · exact h9
        · exact absurd ⟨hrk, hok⟩ h9
      obtain ⟨hbv, hbv', hss⟩ : Bd.okB s cs = true ∧ Bd.okB s cs' = true ∧ s = s' := by
        rcases HR.out with ⟨_, b, _, e, f⟩ | ⟨a, _⟩
        · exact ⟨b, by rw [f]; exact okB_clr ds b, e.symm⟩
        · rw [hrk] at a; cases a
      subst hss
      obtain ⟨h1, h2, h3, _⟩ := (Bd.okB_iff s cs).1 hbv
      obtain ⟨_, _, h3', _⟩ := (Bd.okB_iff s cs').1 hbv'
      have hsq := Pt.sq_bd s h1 h2
      have hcl := Hcl.out
      have hf1 := hl1.few
      have hf2 := hl2.few
      have hc1 := cnt_bd 1 cs
      have hc2 := cnt_bd 2 cs
      have hd1 := cnt_bd 1 cs'
      have hd2 := cnt_bd 2 cs'
      have hn49 : n ≤ 49 := by omega
      have hlen' : cs'.length = n := by omega
      have Hn : Hid ((n : Int) = s * s) := Lib.hid (by omega)
      obtain ⟨⟨p1, p2⟩, ⟨p3, p4⟩, p5, p6⟩ := hok
      obtain ⟨a1, ha1⟩ : ∃ a, cnt 1 cs = a := ⟨_, rfl⟩
      obtain ⟨a2, ha2⟩ : ∃ a, cnt 2 cs = a := ⟨_, rfl⟩
      obtain ⟨e1, he1⟩ : ∃ a, cnt 1 cs' = a := ⟨_, rfl⟩
      obtain ⟨e2, he2⟩ : ∃ a, cnt 2 cs' = a := ⟨_, rfl⟩
      obtain ⟨m1, hm1⟩ : ∃ m, l1.length = m := ⟨_, rfl⟩
      obtain ⟨m2, hm2⟩ : ∃ m, l2.length = m := ⟨_, rfl⟩
      rw [ha1] at hc1 hv9
      rw [ha2] at hc2 hv9
      rw [he1] at hd1 hv9
      rw [he2] at hd2 hv9
      rw [hm1] at hf1 hv9
      rw [hm2] at hf2 hv9
      have b1x : (decide (0 ≤ bp) && decide (bp ≤ 99)) = true := by rw [decide_eq_true p1, decide_eq_true p2]; rfl
      have b2x : (decide (0 ≤ wp) && decide (wp ≤ 99)) = true := by rw [decide_eq_true p3, decide_eq_true p4]; rfl
      have b3x : (decide (-99 ≤ km) && decide (km ≤ 99)) = true := by rw [decide_eq_true p5, decide_eq_true p6]; rfl
      have v1 : IntKind.i64.wrap ((m1 : Nat) + (a2 - e2) + wp) = (m1 : Nat) + (a2 - e2) + wp := wrap_small (by omega) (by omega)
      have v2 : IntKind.i64.wrap ((m2 : Nat) + (a1 - e1) + bp) = (m2 : Nat) + (a1 - e1) + bp := wrap_small (by omega) (by omega)
      have v3 : IntKind.i64.wrap (((m1 : Nat) + (a2 - e2) + wp) - ((m2 : Nat) + (a1 - e1) + bp)) = ((m1 : Nat) + (a2 - e2) + wp) - ((m2 : Nat) + (a1 - e1) + bp) := wrap_small (by omega) (by omega)
      have v4 : IntKind.i64.wrap (2 * (((m1 : Nat) + (a2 - e2) + wp) - ((m2 : Nat) + (a1 - e1) + bp))) = 2 * (((m1 : Nat) + (a2 - e2) + wp) - ((m2 : Nat) + (a1 - e1) + bp)) := wrap_small (by omega) (by omega)
      have v5 : IntKind.i64.wrap (2 * (((m1 : Nat) + (a2 - e2) + wp) - ((m2 : Nat) + (a1 - e1) + bp)) - km) = 2 * (((m1 : Nat) + (a2 - e2) + wp) - ((m2 : Nat) + (a1 - e1) + bp)) - km := wrap_small (by omega) (by omega)
      have q1 : IntKind.i64.wrap (a2 - e2) = a2 - e2 := wrap_small (by omega) (by omega)
      have q2 : IntKind.i64.wrap ((m1 : Nat) + (a2 - e2)) = (m1 : Nat) + (a2 - e2) := wrap_small (by omega) (by omega)
      have q3 : IntKind.i64.wrap (a1 - e1) = a1 - e1 := wrap_small (by omega) (by omega)
      have q4 : IntKind.i64.wrap ((m2 : Nat) + (a1 - e1)) = (m2 : Nat) + (a1 - e1) := wrap_small (by omega) (by omega)
      have Hcb1 : Hid (cntB s cs 1 = a1) := Lib.hid ((cntB_okA hbv).trans ha1)
      have Hcb2 : Hid (cntB s cs 2 = a2) := Lib.hid ((cntB_okA hbv).trans ha2)
      have Hdb1 : Hid (cntB s cs' 1 = e1) := Lib.hid ((cntB_okA hbv').trans he1)
      have Hdb2 : Hid (cntB s cs' 2 = e2) := Lib.hid ((cntB_okA hbv').trans he2)
      have Hv9 := Lib.hid hv9
      have Hl1 := Lib.hid hl1
      have Hl2 := Lib.hid hl2
      have Hc1 := Lib.hid ha1
      have Hc2 := Lib.hid ha2
      have Hd1 := Lib.hid he1
      have Hd2 := Lib.hid he2
      have Hm1 := Lib.hid hm1
      have Hm2 := Lib.hid hm2
      have Hok1 : Hid (okGs s cs' 1 = true) := Lib.hid (by unfold okGs; rw [hbv']; rfl)
      have Hok2 : Hid (okGs s cs' 2 = true) := Lib.hid (by unfold okGs; rw [hbv']; rfl)
      have Hbv := Lib.hid hbv
      have Hbv' := Lib.hid hbv'
      have Hlen' := Lib.hid hlen'
      clear hl1 hl2 ha1 ha2 he1 he2 hm1 hm2 hv9 hbv hbv' h3 h3' hcl hf1 hf2 hc1 hc2 hd1 hd2 hlen'
      subst hrk
      clear b1x b2x b3x
      have hn1 : n = n1 := Hlen'.out.symm.trans Ho.out.1
      subst hn1
      go_wp2_with fail
      refine (i_tp s 1 _ B _ A A1 n c c1 cs cs' H.out Ho.out.ints hBz (Nat.le_refl _) hn49 2 a2 e2 l1 m1 (Lib.hid rfl) Hcb2 Hdb2 Hl1 Hm1 q1 q2).mono ?_
      rintro e ya1 ⟨rfl, hb⟩
      have X0 := Lib.hid (X0.out.below hb X0.out.lt)
      have X1 := Lib.hid (X1.out.below hb X1.out.lt)
      have H := Lib.hid (H.out.below hb hBz)
      have Ho := Lib.hid (Ho.out.below hb)
      have Hb := Lib.hid (Hb.out.trans (hb.mono hwz))
      have hBz := Nat.le_trans hBz hb.size
      have hwz := Nat.le_trans hwz hb.size
      clear hb u0 u1 u2 u3
      have u0 := X0.out.cell0
      have u1 := X0.out.cell1
      have u2 := X1.out.cell0
      have u3 := X1.out.cell1
      go_wp2_with fail
      refine (i_tp s 2 _ B _ A A1 n c c1 cs cs' H.out Ho.out.ints hBz (Nat.le_refl _) hn49 1 a1 e1 l2 m2 (Lib.hid rfl) Hcb1 Hdb1 Hl2 Hm2 q3 q4).mono ?_
      rintro e ya2 ⟨rfl, hb⟩
      have X0 := Lib.hid (X0.out.below hb X0.out.lt)
      have X1 := Lib.hid (X1.out.below hb X1.out.lt)
      have H := Lib.hid (H.out.below hb hBz)
      have Ho := Lib.hid (Ho.out.below hb)
      have Hb := Lib.hid (Hb.out.trans (hb.mono hwz))
      have hBz := Nat.le_trans hBz hb.size
      have hwz := Nat.le_trans hwz hb.size
      clear hb u0 u1 u2 u3
      have u0 := X0.out.cell0
      have u1 := X0.out.cell1
      have u2 := X1.out.cell0
      have u3 := X1.out.cell1
      go_wp2_with fail
      go_ret2
      exact ⟨ret_ib (by rw [Hv9.out]; unfold tmV; omega), Hb.out⟩
    · have hno : ¬ (rk = true ∧ tmOk bp wp km) := fun h9 => by rw [hrk] at h9; exact absurd h9.1 (by decide)
      obtain ⟨rfl, rfl⟩ : ok = false ∧ v = 0 := by
        rcases Hcase.out with ⟨_, h9, h8, _⟩ | ⟨a, _, b⟩
        · exact absurd ⟨h9, h8⟩ hno
        · exact ⟨a, b⟩
      subst hrk
      clear hno Hcase
      go_wp2_with fail
      go_ret2
      exact ⟨rfl, Hb.out⟩
  · have hno : ¬ (rk = true ∧ tmOk bp wp km) := fun h9 => hok h9.2
    obtain ⟨rfl, rfl⟩ : ok = false ∧ v = 0 := by
      rcases Hcase.out with ⟨_, h9, h8, _⟩ | ⟨a, _, b⟩
      · exact absurd ⟨h9, h8⟩ hno
      · exact ⟨a, b⟩
    clear hno Hcase HR HP
    rcases Bool.eq_false_or_eq_true (decide (0 ≤ bp) && decide (bp ≤ 99)) with b1 | b1
    · rcases Bool.eq_false_or_eq_true (decide (0 ≤ wp) && decide (wp ≤ 99)) with b2 | b2
      · rcases Bool.eq_false_or_eq_true (decide (km < -99)) with k1 | k1
        · clear hok
          go_wp2_with fail
          refine (i_vPris _ _).mono ?_
          rintro e w9 ⟨rfl, rfl⟩
          rw [b1]
          clear b1
          go_wp2_with fail
          refine (i_vPris _ _).mono ?_
          rintro e w9 ⟨rfl, rfl⟩
          rw [b2]
          clear b2
          go_wp2_with fail
          go_ret2
          exact ⟨rfl, Hb.out⟩
        · rcases Bool.eq_false_or_eq_true (decide (99 < km)) with k2 | k2
          · clear hok
            go_wp2_with fail
            refine (i_vPris _ _).mono ?_
            rintro e w9 ⟨rfl, rfl⟩
            rw [b1]
            clear b1
            go_wp2_with fail
            refine (i_vPris _ _).mono ?_
            rintro e w9 ⟨rfl, rfl⟩
            rw [b2]
            clear b2
            go_wp2_with fail
            go_ret2
            exact ⟨rfl, Hb.out⟩
          · exfalso
            rw [Bool.and_eq_true, decide_eq_true_eq, decide_eq_true_eq] at b1 b2
            rw [decide_eq_false_iff_not] at k1 k2
            exact hok ⟨b1, b2, by omega, by omega⟩
      · clear hok
        go_wp2_with fail
        refine (i_vPris _ _).mono ?_
        rintro e w9 ⟨rfl, rfl⟩
        rw [b1]
        clear b1
        go_wp2_with fail
        refine (i_vPris _ _).mono ?_
        rintro e w9 ⟨rfl, rfl⟩
        rw [b2]
        clear b2
        go_wp2_with fail
        go_ret2
        exact ⟨rfl, Hb.out⟩
    · clear hok
      go_wp2_with fail
      refine (i_vPris _ _).mono ?_
      rintro e w9 ⟨rfl, rfl⟩
      rw [b1]
      clear b1
      go_wp2_with fail
      go_ret2
      exact ⟨rfl, Hb.out⟩
end Go.Proofs.Ytniddfoiakbfdaa

namespace Go.Proofs.Ytniddfoiakbfdaa
set_option maxRecDepth 100000
open Go.RowKit

theorem oth_invol (c : Int) : oth (oth c) = c := by
  unfold oth
  by_cases h1 : c = 1
  · subst h1; rfl
  · by_cases h2 : c = 2
    · subst h2; rfl
    · rw [if_neg h1, if_neg h2, if_neg h1, if_neg h2]
theorem oth_eq {c x : Int} : oth c = x ↔ c = oth x := ⟨fun h => by rw [← h, oth_invol], fun h => by rw [h, oth_invol]⟩
theorem oth_beq (c x : Int) : (oth c == x) = (c == oth x) := by
  rw [Bool.eq_iff_iff, beq_iff_eq, beq_iff_eq]
  exact oth_eq
theorem oth_st {x : Int} (h : x = 1 ∨ x = 2) : oth x = 3 - x ∧ oth (3 - x) = x := by rcases h with rfl | rfl <;> exact ⟨rfl, rfl⟩
theorem othCs_invol (cs : List Int) : othCs (othCs cs) = cs := by
  unfold othCs
  rw [List.map_map]
  conv => rhs; rw [← List.map_id cs]
  exact List.map_congr_left fun c _ => oth_invol c
theorem othCs_getD (cs : List Int) (k : Nat) : (othCs cs).getD k 0 = oth (cs.getD k 0) := by
  by_cases h : k < cs.length
  · exact othCs_at h
  · rw [List.getD_eq_getElem?_getD, List.getD_eq_getElem?_getD, List.getElem?_eq_none (by rw [othCs_len]; omega), List.getElem?_eq_none (by omega)]
    rfl
theorem hasCol_oth (x : Int) (cs : List Int) : hasCol x (othCs cs) = hasCol (oth x) cs := by
  unfold hasCol othCs
  rw [List.map_map]
  exact List.map_congr_left fun c _ => oth_beq c x
theorem notCol_oth (x : Int) (cs : List Int) : notCol x (othCs cs) = notCol (oth x) cs := by
  unfold notCol othCs
  rw [List.map_map]
  exact List.map_congr_left fun c _ => congrArg (!·) (oth_beq c x)
theorem cnt_oth (x : Int) (cs : List Int) : cnt x (othCs cs) = cnt (oth x) cs := by
  unfold cnt othCs
  rw [List.filter_map, List.length_map]
  congr 2
  refine List.filter_congr fun c _ => ?_
  exact oth_beq c x
theorem okB_othE (s : Int) (cs : List Int) : Bd.okB s (othCs cs) = Bd.okB s cs := by
  have key : ∀ l : List Int, Bd.okB s l = true → Bd.okB s (othCs l) = true := fun l h => by
    obtain ⟨h1, h2, h3, h4⟩ := (Bd.okB_iff s l).1 h
    refine (Bd.okB_iff s _).2 ⟨h1, h2, by rw [othCs_len]; exact h3, fun c hc => ?_⟩
    obtain ⟨d, hd, rfl⟩ := List.mem_map.1 hc
    have := h4 d hd
    unfold oth
    split <;> (try split) <;> omega
  rw [Bool.eq_iff_iff]
  exact ⟨fun h => by have := key _ h; rw [othCs_invol] at this; exact this, key _⟩
theorem okGs_oth {s x : Int} {cs : List Int} (h : x = 1 ∨ x = 2) : okGs s (othCs cs) x = okGs s cs (3 - x) := by
  unfold okGs
  rw [okB_othE]
  rcases h with rfl | rfl <;> rfl
theorem GF.xch {s : Int} {cs : List Int} {k : Nat} : GF s (othCs cs) 0 k ↔ GF s cs 0 k := by
  unfold GF
  rw [othCs_getD, hasCol_oth, oth_invol]
  have : oth (cs.getD k 0) = 0 ↔ cs.getD k 0 = 0 := oth_eq
  rw [this]
theorem GL.xch {s : Int} {n : Nat} {cs : List Int} : ∀ {k : Nat} {ls : List (List Int)}, GL s n cs 0 k ls → GL s n (othCs cs) 0 k ls := by
  intro k
  induction k with
  | zero => exact fun h => h
  | succ k ih =>
    rintro ls ⟨l0, h0, h⟩
    refine ⟨l0, ih h0, ?_⟩
    rcases h with ⟨hf, g, hg, e⟩ | ⟨hf, e⟩
    · exact .inl ⟨GF.xch.2 hf, g, by rw [othCs_getD, hasCol_oth, oth_invol]; exact hg, e⟩
    · exact .inr ⟨fun h => hf (GF.xch.1 h), e⟩
theorem tch_oth (s : Int) (cs : List Int) (x : Int) (g : List Int) : tch s (othCs cs) x g = tch s cs (oth x) g := by
  unfold tch
  congr 1
  funext z
  congr 1
  funext y
  rw [othCs_getD]
  exact oth_beq _ x
theorem ownR_oth {s x : Int} {cs g : List Int} (h : x = 1 ∨ x = 2) : ownR s (othCs cs) x g = ownR s cs (3 - x) g := by
  unfold ownR
  rw [tch_oth, tch_oth, (oth_st h).1, (oth_st h).2, show 3 - (3 - x) = x by omega]
theorem TM.xch {s x : Int} {n : Nat} {cs : List Int} {ls : List (List Int)} {S : List Bool} (hx : x = 1 ∨ x = 2) (h : TM s n cs (3 - x) ls S) : TM s n (othCs cs) x ls S := by
  refine ⟨h.1, fun q hq => (h.2 q hq).trans ?_⟩
  constructor
  · rintro ⟨g, a, b, c⟩; exact ⟨g, a, by rw [ownR_oth hx]; exact b, c⟩
  · rintro ⟨g, a, b, c⟩; exact ⟨g, a, by rw [← ownR_oth hx]; exact b, c⟩
theorem TrIs.xch {s x : Int} {n : Nat} {cs l : List Int} (hx : x = 1 ∨ x = 2) (h : TrIs s n cs (3 - x) l) : TrIs s n (othCs cs) x l := by
  refine ⟨fun e => ?_, fun e => h.2 (by rw [← okGs_oth hx]; exact e)⟩
  obtain ⟨ls, S, a, b, c⟩ := h.1 (by rw [← okGs_oth hx]; exact e)
  exact ⟨ls, S, a.xch, b.xch hx, c⟩
theorem ArIs.xch {s : Int} {n : Nat} {cs : List Int} {x y : Int} (h : ArIs s n cs x y) : ArIs s n (othCs cs) y x := by
  refine ⟨fun e => ?_, fun e => ?_⟩
  · obtain ⟨⟨l1, a1, b1⟩, l2, a2, b2⟩ := h.1 (by rw [← okB_othE]; exact e)
    exact ⟨⟨l2, TrIs.xch (.inl rfl) a2, by rw [cnt_oth]; exact b2⟩, l1, TrIs.xch (.inr rfl) a1, by rw [cnt_oth]; exact b1⟩
  · obtain ⟨a, b⟩ := h.2 (by rw [← okB_othE]; exact e)
    exact ⟨b, a⟩
theorem RgIs.xch {s x : Int} {n : Nat} {cs : List Int} {ls : List (List Int)} (hx : x = 1 ∨ x = 2) (h : RgIs s n cs x ls) : RgIs s n (othCs cs) (3 - x) ls := by
  have hx2 : 3 - x = 1 ∨ 3 - x = 2 := by omega
  have e0 : okGs s (othCs cs) (3 - x) = okGs s cs x := by rw [okGs_oth hx2, show 3 - (3 - x) = x by omega]
  refine ⟨fun e => ?_, fun e => h.2 (by rw [← e0]; exact e)⟩
  rw [notCol_oth, (oth_st hx).2]
  exact h.1 (by rw [← e0]; exact e)
theorem ErIs.xch {s : Int} {n : Nat} {cs : List Int} {ls : List (List Int)} (h : ErIs s n cs ls) : ErIs s n (othCs cs) ls :=
  ⟨fun e => (h.1 (by rw [← okB_othE]; exact e)).xch, fun e => h.2 (by rw [← okB_othE]; exact e)⟩
theorem Dead.xch {s : Int} {cs ds : List Int} (h : Dead s cs ds) : Dead s (othCs cs) ds := by
  refine ⟨h.asc, fun i hi => by rw [othCs_len]; exact h.on i hi, fun i hi => ?_, fun i hi q hq hc => h.whole i hi q hq ?_⟩
  · rw [othCs_getD]
    exact fun e => h.stone i hi (oth_eq.1 e)
  · rw [othCs_getD, othCs_getD] at hc
    have := congrArg oth hc
    rw [oth_invol, oth_invol] at this
    exact this
theorem clr_oth (ds : List Int) : ∀ cs : List Int, clr (othCs cs) ds = othCs (clr cs ds) := by
  induction ds with
  | nil => intro cs; rfl
  | cons d ds ih =>
    intro cs
    have e : (othCs cs).set d.toNat 0 = othCs (cs.set d.toNat 0) := by unfold othCs; rw [List.map_set]; rfl
    show clr ((othCs cs).set d.toNat 0) ds = _
    rw [e, ih]
    rfl
theorem Rmv.xch {s : Int} {cs ds : List Int} {s' : Int} {cs' : List Int} (h : Rmv s cs ds true s' cs') : Rmv s (othCs cs) ds true s' (othCs cs') := by
  rcases h with ⟨_, a, b, c, rfl⟩ | ⟨e, _⟩
  · exact .inl ⟨rfl, by rw [okB_othE]; exact a, b.xch, c, (clr_oth ds cs).symm⟩
  · cases e
/-- The margin of the exchanged board, with prisoners exchanged and without komi. -/
theorem TmIs.xch {s : Int} {n : Nat} {cs ds : List Int} {bp wp km v : Int} (h : TmIs s n cs ds bp wp km v true) : TmIs s n (othCs cs) ds wp bp 0 (-(v + km)) true := by
  obtain ⟨rk, s', cs', hR, ⟨_, rfl, h2, l1, l2, h3, h4, h5⟩ | ⟨h9, _⟩⟩ := h
  · obtain ⟨h21, h22, _, _⟩ := h2
    refine ⟨true, s', othCs cs', hR.xch, .inl ⟨rfl, rfl, ⟨h22, h21, by omega, by omega⟩, l2, l1, TrIs.xch (.inl rfl) h4, TrIs.xch (.inr rfl) h3, ?_⟩⟩
    rw [cnt_oth, cnt_oth, cnt_oth, cnt_oth, h5]
    have e1 : oth 1 = 2 := rfl
    have e2 : oth 2 = 1 := rfl
    rw [e1, e2]
    unfold tmV
    omega
  · cases h9
end Go.Proofs.Ytniddfoiakbfdaa

namespace Go.Proofs.Ytniddfoiakbfdaa
set_option maxRecDepth 100000
open Go.RowKit

theorem gup {w a b : World} {ga : Nat} (h : w.grownBy a (some ga)) (hb : Below w.heap.size a b) : w.grownBy b (some ga) :=
  ⟨hb.os.trans h.os, hb.tape.trans h.tape, hb.output.trans h.output, Nat.le_trans h.size hb.size, fun k hk hne => (hb.block k hk).trans (h.block k hk hne)⟩
theorem max_one {x : Int} {n : Nat} (h : x < max (n : Int) 1) (hn : 0 < n) : x < n := by omega

/-- A list that a draw made. -/
def DrawnD (w : World) (B g q n : Nat) (e : Ending) (w' : World) : Prop :=
  ∃ (A' : Option Addr) (n' c' : Nat) (ys : List Int) (q' : Nat), e = .returned (.slice A' n' c') ∧ IntsF w' w.heap.size A' n' ys ∧ n' ≤ n ∧ Rdr w' B g q' ∧ q' ≤ q ∧ w.grownBy w' (some g)

set_option maxRecDepth 100000 in
set_option maxHeartbeats 4000000 in
theorem r_spoil (B g q : Nat) (w : World) (B' : Nat) (A : Option Addr) (n c : Nat) (xs : List Int) (N : Int) (h : Rdr w B g q) (hq : q ≤ 1000000000) (hi : Ints w B' A n xs) (hB' : B' ≤ w.heap.size) (hn : n ≤ 10000) :
    Calls Try.prog 39 #[.pointer (some ⟨g, 0, none⟩), .slice A n c, .int .i64 N] w fun e w' => DrawnD w B g (q + 3) (n + 1) e w' := by
  have hlt := h.lt
  have HR := Lib.hid h
  have HI := Lib.hid hi
  clear h hi
  go_enter Try.func39, Try.ntmps39
  go_wp2_with fail
  refine (s_copyInts _ B' A n c xs HI.out hB' (by omega)).mono ?_
  rintro e y ⟨A1, c1, rfl, ho, hb⟩
  have hz := hb.size
  have Hr := Lib.hid (HR.out.below hb hlt)
  have Hg := Lib.hid (gbelow (some g) hb (Nat.le_refl _))
  have Ho := Lib.hid ho
  clear ho hb HR
  go_wp2_with fail
  refine (r_pick B g q _ _ Hr.out (by omega)).mono ?_
  rintro e y2 ⟨x, rfl, x1, x2, hr, hg⟩
  have hz2 := hg.size
  have Hg := Lib.hid (gtrans Hg.out hg)
  have Hr := Lib.hid hr
  have Ho := Lib.hid (Ho.out.kept hg (fun g' hA e => by have := (Ho.out.ge hA).1; have := Option.some.inj e; omega))
  clear hr hg x1 x2
  have hwz : w.heap.size ≤ y2.heap.size := by omega
  by_cases h0 : x = 0
  · subst h0
    go_wp2_with (at_builtin; refine app1 rfl _ _ rfl _ w.heap.size _ _ _ _ _ _ rfl rfl rfl Ho.out hwz (by omega) ?_; intro A' c' w' hown hb' hlt' _)
    have Hi := Lib.hid (IntsF.of hown)
    have Hr3 := Lib.hid (Hr.out.below hb' hlt)
    have Hg3 := Lib.hid (gup Hg.out hb')
    clear hown hb' hlt'
    go_wp2_with fail
    go_ret
    exact ⟨_, _, _, _, _, rfl, Hi.out, by omega, Hr3.out, by omega, Hg3.out⟩
  · have e0 : (x == 0) = false := by simpa using h0
    have Hi := Lib.hid (IntsF.of Ho.out)
    by_cases hn0 : n = 0
    · subst hn0
      by_cases h1 : x = 1
      · subst h1
        clear h0 e0
        go_wp2_with fail
        go_ret
        exact ⟨_, _, _, _, _, rfl, Hi.out, by omega, Hr.out, by omega, Hg.out⟩
      · have e1 : (x == 1) = false := by simpa using h1
        by_cases h2 : x = 2
        · subst h2
          clear h0 h1 e0 e1
          go_wp2_with fail
          go_ret
          exact ⟨_, _, _, _, _, rfl, Hi.out, by omega, Hr.out, by omega, Hg.out⟩
        · have e2 : (x == 2) = false := by simpa using h2
          clear h0 h1 h2
          go_wp2_with fail
          go_ret
          exact ⟨_, _, _, _, _, rfl, Hi.out, by omega, Hr.out, by omega, Hg.out⟩
    · have hcn := Ho.out.cap_le
      obtain ⟨ga, hA1⟩ : ∃ ga, A1 = some ⟨ga, 0, none⟩ := by
        obtain ⟨g', cap, hv, _⟩ := World.ownsRow.form Ho.out.2 (by omega)
        exact ⟨g', by injection hv⟩
      subst hA1
      have hga := Ho.out.ge rfl
      obtain ⟨m, rfl⟩ : ∃ m, n = m + 1 := ⟨n - 1, by omega⟩
      obtain ⟨d, rfl⟩ : ∃ d, c1 = d + 1 := ⟨c1 - 1, by omega⟩
      by_cases h1 : x = 1
      · subst h1
        clear h0 e0
        by_cases hd : d = 0
        · subst hd
          obtain rfl : m = 0 := by omega
          have Hj : Hid (IntsF y2 w.heap.size (some ⟨ga, 0, none⟩) 0 []) := Lib.hid ⟨rfl, .inl rfl⟩
          go_wp2_with fail
          go_ret
          exact ⟨_, _, _, _, _, rfl, Hj.out, by omega, Hr.out, by omega, Hg.out⟩
        · have hd' : ¬ (d + 1 = 1) := by omega
          have Hj := Lib.hid (IntsF.tail Hi.out)
          go_wp2_with fail
          go_ret
          exact ⟨_, _, _, _, _, rfl, Hj.out, by omega, Hr.out, by omega, Hg.out⟩
      · have e1 : (x == 1) = false := by simpa using h1
        by_cases h2 : x = 2
        · subst h2
          clear h0 h1 e0 e1
          go_wp2_with fail
          refine (r_pick B g (q + 1) _ _ Hr.out (by omega)).mono ?_
          rintro e y3 ⟨p, rfl, p1, p2, hr, hg⟩
          have p3 : p < ((m + 1 : Nat) : Int) := max_one p2 (by omega)
          have hz3 := hg.size
          have Hg := Lib.hid (gtrans Hg.out hg)
          have Ho := Lib.hid (Ho.out.kept hg (fun g' hA e => by have := (Ho.out.ge hA).1; have := Option.some.inj e; omega))
          have Hr := Lib.hid hr
          have hlt3 := hr.lt
          clear hr hg p2
          obtain ⟨t, rfl⟩ := Int.eq_ofNat_of_zero_le p1
          have htn : t < m + 1 := by omega
          go_wp2_with fail
          refine (r_one B g (q + 2) _ _ [-1, N, 0, 1] (y3.heap.size + 1) _ (by exact (show Rdr (y3.alloc (.cells #[.int .i64 (-1), .int .i64 N, .int .i64 0, .int .i64 1] 3)) B g (q + 2) from Hr.out.below ((Below.refl _ _).alloc (Nat.le_refl _) _) Hr.out.lt)) (by omega) (by exact Ints.lit y3 3 [-1, N, 0, 1]) (by show y3.heap.size + 1 ≤ (y3.alloc (.cells #[.int .i64 (-1), .int .i64 N, .int .i64 0, .int .i64 1] 3)).heap.size; simp) (by simp) (by simp) (by rintro b o e; injection e with e; injection e; omega)).mono ?_
          rintro e y5 ⟨v, rfl, hv, hr, hg⟩
          have hg5 : y3.grownBy y5 (some g) := gtrans (World.grownBy_alloc y3 (.cells #[.int .i64 (-1), .int .i64 N, .int .i64 0, .int .i64 1] 3) (some g)) ⟨hg.os, hg.tape, hg.output, hg.size, hg.block⟩
          have hz5 := hg5.size
          have Hg := Lib.hid (gtrans Hg.out hg5)
          have Ho := Lib.hid (Ho.out.kept hg5 (fun g' hA e => by have := (Ho.out.ge hA).1; have := Option.some.inj e; omega))
          have Hr := Lib.hid hr
          clear hr hg hg5 hv
          have hgz := Hr.out.lt
          have hBg := Hr.out.1
          have hst := Ho.out.stored t v
          have Hj := Lib.hid (IntsF.of hst.1)
          have Hg3 := Lib.hid (gup Hg.out (below_g (B := w.heap.size) hst.2 (by omega) (fun k e => by injection e with e; omega)))
          have Hr3 := Lib.hid (Hr.out.grown hst.2 (fun k e => by injection e with e; omega))
          obtain ⟨u, hu⟩ : ∃ u, y5.cell? ⟨ga, t, none⟩ = some u := by
            have := World.ownsRow.cellAt Ho.out.2 t (by omega)
            rw [this]
            exact ⟨_, List.getElem?_eq_getElem (by rw [List.length_map, Ho.out.1]; exact htn)⟩
          have hf := World.ownsRow.frozenAt Ho.out.2 t
          clear hst
          go_wp2_with fail
          go_ret
          exact ⟨_, _, _, _, _, rfl, Hj.out, by omega, Hr3.out, by omega, Hg3.out⟩
        · have e2 : (x == 2) = false := by simpa using h2
          clear h0 h1 h2
          go_wp2_with fail
          go_ret
          exact ⟨_, _, _, _, _, rfl, Hi.out, by omega, Hr.out, by omega, Hg.out⟩
/-- 'append(ys, xs...)' of a row that is read onto a row of the call's own. -/
theorem appAllat {ops : Array Oper} {rest : List Oper} {o : Oper} {a : Act} {Q : Exit → Act → World → Prop} (hgd : o.guard = none) (s x : Operand)
    (ho : o.op = .call { callee := .builtin .append, args := #[s, x], argTypes := #[23, 23] })
    (w : World) (B : Nat) (As : Option Addr) (m cs0 : Nat) (ys : List Int) (B' : Nat) (A : Option Addr) (n c : Nat) (xs : List Int) (hs : a.eval s = .slice As m cs0) (hx : a.eval x = .slice A n c)
    (hown : Own w B As m cs0 ys) (hin : Ints w B' A n xs) (hB : B ≤ w.heap.size) (hn : m + n ≤ 1000000000)
    (h : ∀ A' c' w', Own w' B A' (m + n) c' (ys ++ xs) → w.grownBy w' (Value.slice As m cs0).ownBlock → (∀ g, A' = some ⟨g, 0, none⟩ → As = some ⟨g, 0, none⟩ ∨ w.heap.size ≤ g) → wpList Try.prog ops Q rest (a.put o.dst (.slice A' (m + n) c')) w') :
    wpList Try.prog ops Q (o :: rest) a w := by
  obtain ⟨i0, hi, hz0, hz1, hz2⟩ := info_parts info_int
  have hl := hin.1
  rcases A with _ | ad
  · have hn0 : n = 0 := by
      rcases hin.2 with h0 | ⟨b, o, hA, _⟩
      · exact h0
      · cases hA
    subst hn0
    have hxs : xs = [] := List.eq_nil_of_length_eq_zero hl
    subst hxs
    refine wpList_plain hgd fun K hK => ?_
    have hrun := run_app_nil (P := Try.prog) w B 23 o.type 3 i0 1 Try.underlying23 hi _ _ _ hown.2 c
    have := h As cs0 w (by simpa using hown) (World.grownBy.refl _ _) (fun g e => .inl e)
    unfold Oper.wp
    simp [execOp, ho, resolve, invoke, builtin, hs, hx, hrun, Result.andThen]
    exact hK _ _ (by simpa using this)
  · refine wpList_append_own_at _ hgd s x 23 ho B 3 i0 (.int .i64 0) 1 8 Try.underlying23 hi hz0 hz1 hz2 rfl (by decide) _ m _ hs hown.2 ad n c (xs.map (Value.int .i64)) hx (by rw [List.length_map, hl]; omega) ?_ ?_ ?_ ?_ hB ?_
    · intro j u hj
      rcases hin.2 with h0 | ⟨b, o, hA, _, hc⟩
      · subst h0
        have hxs : xs = [] := List.eq_nil_of_length_eq_zero hl
        subst hxs
        simp at hj
      · injection hA with hA
        subst hA
        have hj' : j < xs.length := by
          rcases Nat.lt_or_ge j xs.length with h | h
          · exact h
          · rw [List.getElem?_eq_none (by rw [List.length_map]; exact h)] at hj; cases hj
        have e : (⟨b, o, none⟩ : Addr).add j = ⟨b, o + j, none⟩ := by by_cases hj0 : j = 0 <;> simp [Addr.add, hj0]
        rw [e, hc j (by omega)]
        rw [← hj]
        simp [List.getElem?_eq_getElem hj', List.getD_eq_getElem?_getD]
    · exact ints_oneCell _ _
    · unfold maxLen; omega
    · omega
    · intro v' w' hown' hgr hnil hat
      have hform := row_form hown.2
      rcases hown'.2 with ⟨hv, hz⟩ | ⟨g, cap, cur, hv, hr⟩
      · subst hv
        have hz' : m + n = 0 := hz
        have e : (Value.slice none 0 0) = .slice none (m + n) 0 := by rw [hz']
        rw [e] at hown' ⊢
        exact h _ _ _ ⟨by rw [List.length_append, hown.1, hl], by simpa using hown'⟩ hgr (fun g e => by cases e)
      · subst hv
        refine h _ _ _ ⟨by rw [List.length_append, hown.1, hl], by simpa using hown'⟩ hgr (fun g2 e2 => ?_)
        injection e2 with e2
        injection e2 with e2
        subst e2
        rcases hat with hat | hat
        · exact .inl (slice_block (hat.symm.trans rfl) hform)
        · right
          have : g = w.heap.size := by simpa [Value.ownBlock] using hat
          omega

theorem gfarD {w a b : World} {ga : Nat} {r : Option Nat} (h : w.grownBy a (some ga)) (hb : a.grownBy b r) (hr : ∀ k, r = some k → w.heap.size ≤ k) : w.grownBy b (some ga) :=
  ⟨hb.os.trans h.os, hb.tape.trans h.tape, hb.output.trans h.output, Nat.le_trans h.size hb.size, fun k hk hne => (hb.block k (Nat.lt_of_lt_of_le hk h.size) (fun e => by have := hr k e.symm; omega)).trans (h.block k hk hne)⟩

set_option maxRecDepth 100000 in
set_option maxHeartbeats 8000000 in
theorem r_dead (B g q lo : Nat) (w : World) (s : Int) (A : Option Addr) (n c : Nat) (cs : List Int) (h : Rdr w B g q) (hq : q ≤ 100000000) (hi : IntsF w lo A n cs) (hlo : g < lo) (hn : n ≤ 49) :
    Calls Try.prog 16 #[.pointer (some ⟨g, 0, none⟩), .agg #[.int .i64 s, .slice A n c]] w fun e w' => DrawnD w B g (q + 101) 4803 e w' := by
  have hlt := h.lt
  have hb1 : Below w.heap.size w (w.alloc (.cells #[.int .i64 s, .slice A n c] 25)) := (Below.refl _ _).alloc (Nat.le_refl _) _
  have X0 := Lib.hid (Bx.new 25 w s (.slice A n c))
  have H := Lib.hid (hi.below hb1)
  have HR := Lib.hid (h.below hb1 hlt)
  have Hcl := Lib.hid hi.1
  have Hg0 := Lib.hid (gbelow (some g) hb1 (Nat.le_refl _))
  clear h hi hb1
  go_enter Try.func16, Try.ntmps16
  go_upto_region 1 with (fail)
  obtain ⟨y0, hy⟩ : ∃ y, y = w.alloc (.cells #[.int .i64 s, .slice A n c] 25) := ⟨_, rfl⟩
  have hyz : w.heap.size < y0.heap.size := by rw [hy]; simp
  rw [← hy] at X0 H HR Hg0 ⊢
  clear hy
  go_upto_region 2 with (fail)
  obtain ⟨y1, hy1, hb01, z1, z1'⟩ := new_box y0 (.cells #[] 3)
  have Ho : Hid (Own y1 y0.heap.size (some ⟨y0.heap.size, 0, none⟩) 0 0 []) := Lib.hid (by rw [hy1]; exact Own.bare y0 y0.heap.size (Nat.le_refl _))
  rw [← hy1]
  clear hy1
  have X1 := Lib.hid (X0.out.below hb01 X0.out.lt)
  have H1 := Lib.hid (H.out.below hb01)
  have Hr1 := Lib.hid (HR.out.below hb01 (by omega))
  have Hg1 := Lib.hid (gbelow (some g) hb01 (Nat.le_refl _))
  clear hb01
  have u0 := X1.out.cell0
  have u1 := X1.out.cell1
  have ul := X1.out.lt
  rcases Bool.eq_false_or_eq_true (Bd.okB s cs) with hv | hv
  · obtain ⟨h1, h2, h3, _⟩ := (Bd.okB_iff s cs).1 hv
    have Hn : Hid ((n : Int) = s * s) := Lib.hid (by have := Hcl.out; omega)
    clear h3
    go_wp2_with fail
    refine (s_validBoard _ _ _ _ _ _ _ H1.out.ints (Nat.le_refl _) (by omega)).mono ?_
    rintro e y2 ⟨rfl, hb⟩
    rw [hv]
    clear hv
    have z2 := hb.size
    have X2 := Lib.hid (X1.out.below hb ul)
    have H2 := Lib.hid (H1.out.below hb)
    have Hr2 := Lib.hid (Hr1.out.below hb (by omega))
    have Hg2 := Lib.hid (gtrans Hg1.out (gbelow (some g) hb (Nat.le_refl _)))
    have Ho2 := Lib.hid (Ho.out.below hb)
    clear hb u0 u1
    go_wp2_with fail
    go_loopw [5, 6] (fun v i wr => ∃ (k m c' : Nat) (A' : Option Addr) (l : List Int) (q' : Nat), 1 ≤ k ∧ k ≤ 3 ∧ i = .int .i64 (k : Nat) ∧ v = .slice A' m c' ∧ m ≤ 2401 * (k - 1) ∧ Own wr y0.heap.size A' m c' l ∧ Rdr wr B g q' ∧ q' ≤ q + 49 * (k - 1) ∧ y0.grownBy wr (some g)) (fun _ i _ => 3 - (intOf i).toNat)
    case atStart => exact ⟨1, 0, 0, _, _, q, by omega, by omega, rfl, rfl, by omega, Ho2.out, Hr2.out, by omega, Hg2.out⟩
    case round =>
      clear Ho Ho2 Hr2 Hg2 X2 H2 Hr1 Hg1 X1 H1 HR
      obtain ⟨wo, rfl⟩ : ∃ wo : World, wo = wr := ⟨_, rfl⟩
      obtain ⟨k, m, c', A', l, q', hk1, hk3, rfl, rfl, hm, ho, hr, hq', hg⟩ := hrel
      have hgz := hg.size
      have X3 := Lib.hid (X0.out.grown hg (by simp; omega))
      have H3 := Lib.hid (H.out.grown hg hlo)
      have Ho3 := Lib.hid ho
      have Hr3 := Lib.hid hr
      have Hg3 := Lib.hid hg
      clear ho hr hg
      have v0 := X3.out.cell0
      have v1 := X3.out.cell1
      have vl := X3.out.lt
      have hrl := Hr3.out.lt
      by_cases hk : k ≤ 2
      · have hkI : (k : Int) ≤ 2 := by omega
        obtain ⟨ls, hls⟩ := GL.make (x := (k : Int)) (cs := cs) h1 h2 (n := n) Hn.out n (Nat.le_refl _)
        have Hls := Lib.hid hls
        have Hsm := Lib.hid hls.small
        clear hls
        go_wp2_with fail
        refine (s_groupsOf s k _ wo.heap.size A n c cs H3.out.ints (Nat.le_refl _) h1 h2 Hn.out ls Hls).mono ?_
        rintro e y4 ⟨A1, m1, c1, rfl, hss, hb⟩
        have z4 := hb.size
        have hml := hss.len
        have hm1 : m1 ≤ 49 := by have := Hsm.out.1; omega
        have Ho4 := Lib.hid (Ho3.out.below hb)
        have Hr4 := Lib.hid (Hr3.out.below hb hrl)
        have Hg4 := Lib.hid (gtrans Hg3.out (gbelow (some g) hb (Nat.le_refl _)))
        have Hlo4 : Hid (∀ g', A' = some ⟨g', 0, none⟩ → g' < wo.heap.size ∨ y4.heap.size ≤ g') := Lib.hid (fun g' e => .inl (by subst e; exact (Ho3.out.ge rfl).2))
        have Hss4 := Lib.hid hss
        have Hml := Lib.hid hml
        clear hss hb hml v0 v1
        go_wp2_with fail
        go_loopw [5, 8] (fun v i wi => ∃ (j m' c' : Nat) (A' : Option Addr) (l : List Int) (q2 : Nat), j ≤ m1 ∧ i = .int .i64 (j : Nat) ∧ v = .slice A' m' c' ∧ m' ≤ m + 49 * j ∧ Own wi y0.heap.size A' m' c' l ∧ (∀ g', A' = some ⟨g', 0, none⟩ → g' < wo.heap.size ∨ y4.heap.size ≤ g') ∧ Rdr wi B g q2 ∧ q2 ≤ q' + j ∧ y0.grownBy wi (some g) ∧ SS wi wo.heap.size y4.heap.size A1 m1 c1 ls ∧ y4.heap.size ≤ wi.heap.size) (fun _ i _ => m1 - (intOf i).toNat)
        case atStart => exact ⟨0, m, c', A', l, q', by omega, rfl, rfl, by omega, Ho4.out, Hlo4.out, Hr4.out, by omega, Hg4.out, Hss4.out, Nat.le_refl _⟩
        case round =>
          clear Ho4 Hr4 Hg4 Hlo4 Hss4 Ho3 Hr3 Hg3
          obtain ⟨wi, rfl⟩ : ∃ wi : World, wi = wr := ⟨_, rfl⟩
          obtain ⟨j, m', cc, A2, l2, q2, hj, rfl, rfl, hm', ho, hloc, hr, hq2, hg, hss, hz5⟩ := hrel
          have Ho5 := Lib.hid ho
          have Hloc5 := Lib.hid hloc
          have Hr5 := Lib.hid hr
          have Hg5 := Lib.hid hg
          have Hss5 := Lib.hid hss
          clear ho hloc hr hg hss
          by_cases hjm : j < m1
          · have hjI : (j : Int) < m1 := by omega
            go_wp2_with fail
            refine (r_pick B g q2 _ _ Hr5.out (by omega)).mono ?_
            rintro e y6 ⟨x, rfl, x1, x2, hr, hg⟩
            have hgg : g < y0.heap.size := by omega
            have hz6 := hg.size
            have Hg6 := Lib.hid (gtrans Hg5.out hg)
            have Ho6 := Lib.hid (Ho5.out.kept hg (fun g' hA e => by have := (Ho5.out.ge hA).1; have := Option.some.inj e; omega))
            have Hss6 := Lib.hid (Hss5.out.kept hg (fun g' e => .inl (by have := Option.some.inj e; omega)))
            have Hr6 := Lib.hid hr
            clear hr hg x1 x2 Ho5 Hss5 Hr5 Hg5
            by_cases hx : x = 0
            · subst hx
              obtain ⟨b, Aj, nj, cj, hA1, hcj, hoj, _⟩ := Hss6.out.at_ hjm
              subst hA1
              have hnj : nj ≤ 49 := by
                have hjl : j < ls.length := by rw [Hml.out]; exact hjm
                have h9 := Hsm.out.2 (ls.getD j []) (by rw [List.getD_eq_getElem?_getD, List.getElem?_eq_getElem hjl]; exact List.getElem_mem _)
                have := hoj.1
                omega
              have Hoj := Lib.hid hoj
              clear hoj
              go_wp2_with (at_builtin; refine appAllat rfl _ _ rfl _ y0.heap.size _ _ _ _ _ _ _ _ _ rfl rfl Ho6.out Hoj.out.ints (by omega) (by omega) ?_; intro A9 c9 w9 ho9 hg9 hloc9)
              have hz9 := hg9.size
              have Ho9 := Lib.hid ho9
              have hbl : ∀ k, (Value.slice A2 m' cc).ownBlock = some k → A2 = some ⟨k, 0, none⟩ := fun k e => slice_block e (row_form Ho6.out.2)
              have Hg9 := Lib.hid (gfarD Hg6.out hg9 (fun k e => by have e2 := hbl k e; subst e2; exact (Ho6.out.ge rfl).1))
              have Hr9 := Lib.hid (Hr6.out.grown hg9 (fun k e => by have e2 := hbl k e; subst e2; have h8 := (Ho6.out.ge rfl).1; have := Hr6.out.1; exact ⟨by omega, by omega⟩))
              have Hss9 := Lib.hid (Hss6.out.kept hg9 (fun k e => Hloc5.out k (hbl k e)))
              have Hloc9 : Hid (∀ g', A9 = some ⟨g', 0, none⟩ → g' < wo.heap.size ∨ y4.heap.size ≤ g') := Lib.hid (fun g' e => by
                rcases hloc9 g' e with h8 | h8
                · exact Hloc5.out g' h8
                · exact .inr (by omega))
              clear ho9 hg9 hloc9 hbl hcj
              go_wp2_with fail
              go_roundw
              case rel => exact ⟨j + 1, _, _, _, _, _, by omega, by go_num, rfl, by omega, Ho9.out, Hloc9.out, Hr9.out, by omega, Hg9.out, Hss9.out, by omega⟩
              case measure => simp [intOf]; omega
            · have e0 : (x == 0) = false := by simpa using hx
              clear hx
              go_wp2_with fail
              go_roundw
              case rel => exact ⟨j + 1, _, _, _, _, _, by omega, by go_num, rfl, by omega, Ho6.out, Hloc5.out, Hr6.out, by omega, Hg6.out, Hss6.out, by omega⟩
              case measure => simp [intOf]; omega
          · go_wp2_with fail
            go_roundw
            case rel => exact ⟨k + 1, _, _, _, _, _, by omega, by omega, by go_num, rfl, by omega, Ho5.out, Hr5.out, by omega, Hg5.out⟩
            case measure => simp [intOf]; omega
      · have hk3' : k = 3 := by omega
        have hkI : ¬ ((k : Int) ≤ 2) := by omega
        have hm9 : m ≤ 4802 := by omega
        go_wp2_with fail
        refine (s_sorted _ wo.heap.size _ _ _ l Ho3.out.ints (Nat.le_refl _) (by omega)).mono ?_
        rintro e y4 ⟨A5, c5, ys, rfl, ho, _, hb⟩
        have z4 := hb.size
        have Hr4 := Lib.hid (Hr3.out.below hb hrl)
        have Hg4 := Lib.hid (gtrans Hg3.out (gbelow (some g) hb (Nat.le_refl _)))
        have Ho4 := Lib.hid ho
        clear ho hb
        go_wp2_with fail
        refine (r_spoil B g q' _ y4.heap.size _ _ _ ys 49 Hr4.out (by omega) Ho4.out.ints (Nat.le_refl _) (by omega)).mono ?_
        rintro e y5 ⟨A6, n6, c6, zs, q6, rfl, hi6, hn6, hr6, hq6, hg6⟩
        have Hi6 := Lib.hid (hi6.weaken (lo' := w.heap.size) (by omega))
        have Hg6 := Lib.hid (gtrans Hg0.out (gtrans Hg4.out hg6))
        have Hr6 := Lib.hid hr6
        clear hi6 hr6 hg6
        go_wp2_with fail
        go_ret
        exact ⟨_, _, _, _, _, rfl, Hi6.out, by omega, Hr6.out, by omega, Hg6.out⟩
  · go_wp2_with fail
    refine (s_validBoard _ _ _ _ _ _ _ H1.out.ints (Nat.le_refl _) (by omega)).mono ?_
    rintro e y2 ⟨rfl, hb⟩
    rw [hv]
    clear hv
    have Hr2 := Lib.hid (Hr1.out.below hb (by omega))
    have Hg2 := Lib.hid (gtrans Hg0.out (gtrans Hg1.out (gbelow (some g) hb (Nat.le_refl _))))
    have Hi2 := Lib.hid ((IntsF.of (Ho.out.below hb)).weaken (lo' := w.heap.size) (by omega))
    clear hb
    go_wp2_with fail
    go_ret
    exact ⟨_, _, _, _, _, rfl, Hi2.out, by omega, Hr2.out, by omega, Hg2.out⟩
end Go.Proofs.Ytniddfoiakbfdaa

namespace Go.Proofs.Ytniddfoiakbfdaa
set_option maxRecDepth 100000
open Go.RowKit

/-- What a law's draw of a board and a list gives. -/
def DrawnLD (w : World) (e : Ending) (w' : World) : Prop :=
  ∃ (s : Int) (A : Option Addr) (n c : Nat) (cs : List Int) (P : Option Addr) (m pc : Nat) (ds : List Int), e = .returned (.tuple #[.agg #[.int .i64 s, .slice A n c], .slice P m pc]) ∧ Ints w' w'.heap.size A n cs ∧ n ≤ 49 ∧ 0 ≤ s ∧ s ≤ 8 ∧ Ints w' w'.heap.size P m ds ∧ m ≤ 4803 ∧ Below w.heap.size w w'
/-- The same with three ints. -/
def DrawnLM (w : World) (e : Ending) (w' : World) : Prop :=
  ∃ (s : Int) (A : Option Addr) (n c : Nat) (cs : List Int) (P : Option Addr) (m pc : Nat) (ds : List Int) (bp wp km : Int), e = .returned (.tuple #[.agg #[.int .i64 s, .slice A n c], .slice P m pc, .int .i64 bp, .int .i64 wp, .int .i64 km]) ∧ Ints w' w'.heap.size A n cs ∧ n ≤ 49 ∧ 0 ≤ s ∧ s ≤ 8 ∧ Ints w' w'.heap.size P m ds ∧ m ≤ 4803 ∧ -1 ≤ bp ∧ bp ≤ 100 ∧ -1 ≤ wp ∧ wp ≤ 100 ∧ -100 ≤ km ∧ km ≤ 100 ∧ Below w.heap.size w w'

set_option maxRecDepth 100000 in
set_option maxHeartbeats 4000000 in
theorem d_tm (w : World) (a : Option Addr) (len cap : Nat) (zs : List Int) (h : IsRow .u8 w a len cap zs) :
    Calls Try.prog 5 #[.slice a len cap] w fun e w' => DrawnLM w e w' := by
  have hb1 : Below w.heap.size w (w.alloc (.cells #[.int .i64 0, .slice none 0 0] 25)) := (Below.refl _ _).alloc (Nat.le_refl _) _
  have X2 := Lib.hid (Bx.new 25 w 0 (.slice none 0 0))
  have Hb := Lib.hid hb1
  have hsz : (w.alloc (.cells #[.int .i64 0, .slice none 0 0] 25)).heap.size = w.heap.size + 1 := by simp
  have Hsz := Lib.hid hsz
  have H := Lib.hid (h.below hb1)
  clear h hb1 hsz
  go_enter Try.func5, Try.ntmps5
  go_wp2_with fail
  refine (r_new _ _ _ _ zs H.out).mono ?_
  rintro e y ⟨g, rfl, hr, hb⟩
  have Hg := Lib.hid hr.1
  rw [Hsz.out] at Hg
  have hg1 := Hg.out
  have X2 := Lib.hid (X2.out.below hb X2.out.lt)
  have Hb := Lib.hid (Hb.out.trans (hb.mono (by rw [Hsz.out]; omega)))
  have zy := X2.out.lt
  obtain ⟨Bq, Hr⟩ : ∃ Bq, Hid (Rdr y Bq g 0) := ⟨_, Lib.hid hr⟩
  clear hr hb
  go_wp2_with fail
  have hgy := Hr.out.lt
  refine (r_any Bq g 0 _ Hr.out (by omega)).mono ?_
  rintro e y2 ⟨s, A, n, c, cs, q', rfl, hi, hn, s0, s8, hr, hq, hg⟩
  have X2 := Lib.hid (X2.out.grown hg (fun e => by have := Option.some.inj e; omega))
  have Hb := Lib.hid (Hb.out.trans (below_g hg (by omega) (fun k hk => by have := Option.some.inj hk; omega)))
  have Hi := Lib.hid hi
  have Hr := Lib.hid hr
  have hgl := hr.lt
  have zz := hg.size
  clear hi hr hg
  go_upto_region 3 with (fail)
  obtain ⟨y3, hy3, hb3, z3, z4⟩ := new_box y2 (.cells #[.int .i64 s, .slice A n c] 25)
  have X5 : Hid (Bx 25 y3 y2.heap.size s (.slice A n c)) := Lib.hid (by rw [hy3]; exact Bx.new _ _ _ _)
  rw [← hy3]
  clear hy3
  have X2 := Lib.hid (X2.out.below hb3 X2.out.lt)
  have Hr := Lib.hid (Hr.out.below hb3 Hr.out.lt)
  have Hi := Lib.hid (Hi.out.below hb3)
  have Hb := Lib.hid (Hb.out.trans (hb3.mono (by omega)))
  clear hb3
  have t0 := X5.out.cell0
  have t1 := X5.out.cell1
  have t2 := X5.out.lt
  go_wp2_with fail
  refine (r_dead Bq g q' y.heap.size _ s A n c cs Hr.out (by omega) Hi.out hgy hn).mono ?_
  rintro e y4 ⟨P7, m7, c7, ds7, q7, rfl, hi7, hm7, hr, hq7, hg⟩
  have zd := hg.size
  have X2 := Lib.hid (X2.out.grown hg (fun e => by have := Option.some.inj e; omega))
  have X5 := Lib.hid (X5.out.grown hg (fun e => by have := Option.some.inj e; omega))
  have Hi := Lib.hid (Hi.out.grown hg (by omega))
  have HP := Lib.hid hi7
  have Hb := Lib.hid (Hb.out.trans (below_g hg (by omega) (fun k hk => by have := Option.some.inj hk; omega)))
  have Hr := Lib.hid hr
  clear hi7 hr hg t0 t1 t2
  have t0 := X5.out.cell0
  have t1 := X5.out.cell1
  have t2 := X5.out.lt
  go_wp2_with fail
  refine (r_one Bq g (q7) _ _ [0, 1, 3, 99, 100, -1, 0] (y4.heap.size + 1) _ (by exact (show Rdr (y4.alloc (.cells #[.int .i64 0, .int .i64 1, .int .i64 3, .int .i64 99, .int .i64 100, .int .i64 (-1), .int .i64 0] 3)) Bq g (q7) from Hr.out.below ((Below.refl _ _).alloc (Nat.le_refl _) _) Hr.out.lt)) (by omega) (by exact Ints.lit y4 3 [0, 1, 3, 99, 100, -1, 0]) (by show y4.heap.size + 1 ≤ (y4.alloc (.cells #[.int .i64 0, .int .i64 1, .int .i64 3, .int .i64 99, .int .i64 100, .int .i64 (-1), .int .i64 0] 3)).heap.size; simp) (by simp) (by simp) (by rintro b o e; injection e with e; injection e; omega)).mono ?_
  rintro e y5 ⟨bp, rfl, hx, hr, hg⟩
  have hg5 : y4.grownBy y5 (some g) := gtrans (World.grownBy_alloc y4 (.cells #[.int .i64 0, .int .i64 1, .int .i64 3, .int .i64 99, .int .i64 100, .int .i64 (-1), .int .i64 0] 3) (some g)) ⟨hg.os, hg.tape, hg.output, hg.size, hg.block⟩
  have hbp : -1 ≤ bp ∧ bp ≤ 100 := by simp at hx; omega
  have zbp := hg5.size
  have X2 := Lib.hid (X2.out.grown hg5 (fun e => by have := Option.some.inj e; omega))
  have X5 := Lib.hid (X5.out.grown hg5 (fun e => by have := Option.some.inj e; omega))
  have Hi := Lib.hid (Hi.out.grown hg5 (by omega))
  have HP := Lib.hid (HP.out.grown hg5 (by omega))
  have Hb := Lib.hid (Hb.out.trans (below_g hg5 (by omega) (fun k hk => by have := Option.some.inj hk; omega)))
  have Hr := Lib.hid hr
  have hglbp := hr.lt
  clear hx hr hg hg5 t0 t1 t2
  have t0 := X5.out.cell0
  have t1 := X5.out.cell1
  have t2 := X5.out.lt
  go_wp2_with fail
  refine (r_one Bq g (q7 + 1) _ _ [0, 2, 5, 99, 100, -1, 0] (y5.heap.size + 1) _ (by exact (show Rdr (y5.alloc (.cells #[.int .i64 0, .int .i64 2, .int .i64 5, .int .i64 99, .int .i64 100, .int .i64 (-1), .int .i64 0] 3)) Bq g (q7 + 1) from Hr.out.below ((Below.refl _ _).alloc (Nat.le_refl _) _) Hr.out.lt)) (by omega) (by exact Ints.lit y5 3 [0, 2, 5, 99, 100, -1, 0]) (by show y5.heap.size + 1 ≤ (y5.alloc (.cells #[.int .i64 0, .int .i64 2, .int .i64 5, .int .i64 99, .int .i64 100, .int .i64 (-1), .int .i64 0] 3)).heap.size; simp) (by simp) (by simp) (by rintro b o e; injection e with e; injection e; omega)).mono ?_
  rintro e y6 ⟨wp, rfl, hx, hr, hg⟩
  have hg5 : y5.grownBy y6 (some g) := gtrans (World.grownBy_alloc y5 (.cells #[.int .i64 0, .int .i64 2, .int .i64 5, .int .i64 99, .int .i64 100, .int .i64 (-1), .int .i64 0] 3) (some g)) ⟨hg.os, hg.tape, hg.output, hg.size, hg.block⟩
  have hwp : -1 ≤ wp ∧ wp ≤ 100 := by simp at hx; omega
  have zwp := hg5.size
  have X2 := Lib.hid (X2.out.grown hg5 (fun e => by have := Option.some.inj e; omega))
  have X5 := Lib.hid (X5.out.grown hg5 (fun e => by have := Option.some.inj e; omega))
  have Hi := Lib.hid (Hi.out.grown hg5 (by omega))
  have HP := Lib.hid (HP.out.grown hg5 (by omega))
  have Hb := Lib.hid (Hb.out.trans (below_g hg5 (by omega) (fun k hk => by have := Option.some.inj hk; omega)))
  have Hr := Lib.hid hr
  have hglwp := hr.lt
  clear hx hr hg hg5 t0 t1 t2
  have t0 := X5.out.cell0
  have t1 := X5.out.cell1
  have t2 := X5.out.lt
  go_wp2_with fail
  go_region_with (first | (go_at_call 17; refine (r_one Bq g (q7 + 1 + 1) _ _ [0, 13, 15, -7, 99, 100, -99, -100] (y6.heap.size + 1) _ (by exact (show Rdr (y6.alloc (.cells #[.int .i64 0, .int .i64 13, .int .i64 15, .int .i64 (-7), .int .i64 99, .int .i64 100, .int .i64 (-99), .int .i64 (-100)] 3)) Bq g (q7 + 1 + 1) from Hr.out.below ((Below.refl _ _).alloc (Nat.le_refl _) _) Hr.out.lt)) (by omega) (by exact Ints.lit y6 3 [0, 13, 15, -7, 99, 100, -99, -100]) (by show y6.heap.size + 1 ≤ (y6.alloc (.cells #[.int .i64 0, .int .i64 13, .int .i64 15, .int .i64 (-7), .int .i64 99, .int .i64 100, .int .i64 (-99), .int .i64 (-100)] 3)).heap.size; simp) (by simp) (by simp) (by rintro b o e; injection e with e; injection e; omega)).mono ?_; rintro e y9 ⟨km, rfl, hx, hr, hg⟩; have hg5 : y6.grownBy y9 (some g) := gtrans (World.grownBy_alloc y6 (.cells #[.int .i64 0, .int .i64 13, .int .i64 15, .int .i64 (-7), .int .i64 99, .int .i64 100, .int .i64 (-99), .int .i64 (-100)] 3) (some g)) ⟨hg.os, hg.tape, hg.output, hg.size, hg.block⟩; have hkm : -100 ≤ km ∧ km ≤ 100 := (by simp at hx; omega); have HX2 := Lib.hid (X2.out.grown hg5 (fun e => by have := Option.some.inj e; omega)); have HX5 := Lib.hid (X5.out.grown hg5 (fun e => by have := Option.some.inj e; omega)); have HI := Lib.hid (Hi.out.grown hg5 (by omega)); have HP := Lib.hid (HP.out.grown hg5 (by omega)); have HB := Lib.hid (Hb.out.trans (below_g hg5 (by omega) (fun k hk => by have := Option.some.inj hk; omega))); have u0 := HX5.out.cell0; have u1 := HX5.out.cell1; have u2 := HX5.out.lt; have r0 := HX2.out.cell0; have r1 := HX2.out.cell1; have r2 := HX2.out.frozen 0; have r3 := HX2.out.frozen 1; have r4 := HX2.out.lt; clear hr hg hg5))
  all_goals go_wp2_with fail
  all_goals
    have k0 := (HX2.out.set0 s).cell0
    have k1 := ((HX2.out.set0 s).set1 (.slice A n c)).cell1
    refine bodyPost_ret (v := .tuple #[.agg #[.int .i64 s, .slice A n c], .slice P7 m7 c7, .int .i64 bp, .int .i64 wp, .int .i64 km]) (by simp [results, Try.results5, go_sem, k0, k1]) rfl ?_
    have hi3 := ((HI.out.far ⟨w.heap.size, 0, none⟩ (by show w.heap.size < y.heap.size; omega) (.int .i64 s)).far ⟨w.heap.size, 1, none⟩ (by show w.heap.size < y.heap.size; omega) (.slice A n c)).ints
    have hp3 := ((HP.out.far ⟨w.heap.size, 0, none⟩ (by show w.heap.size < y3.heap.size; omega) (.int .i64 s)).far ⟨w.heap.size, 1, none⟩ (by show w.heap.size < y3.heap.size; omega) (.slice A n c)).ints
    have hb3 := (HB.out.setCell (p := ⟨w.heap.size, 0, none⟩) (Nat.le_refl _) (.int .i64 s)).setCell (p := ⟨w.heap.size, 1, none⟩) (Nat.le_refl _) (.slice A n c)
    exact ⟨_, _, _, _, _, _, _, _, _, _, _, _, rfl, hi3, hn, s0, s8, hp3, hm7, hbp.1, hbp.2, hwp.1, hwp.2, hkm.1, hkm.2, hb3⟩

end Go.Proofs.Ytniddfoiakbfdaa

namespace Go.Proofs.Ytniddfoiakbfdaa
set_option maxRecDepth 100000
open Go.RowKit

theorem TmIs.more {s : Int} {n : Nat} {cs ds : List Int} {bp wp km v : Int} (hl : cs.length = n) (hn : n ≤ 49) (h : TmIs s n cs ds bp wp km v true) :
    ∃ z : Int, -1000 ≤ z ∧ z ≤ 1000 ∧ tmOk bp wp km ∧ v = z - 2 * bp + 2 * wp - km ∧ ∀ b w k, tmOk b w k → TmIs s n cs ds b w k (z - 2 * b + 2 * w - k) true := by
  obtain ⟨rk, s', cs', hR, ⟨_, h1, h2, l1, l2, h3, h4, h5⟩ | ⟨h9, _⟩⟩ := h
  · have hl' : cs'.length = n := by
      rcases hR with ⟨_, _, _, _, rfl⟩ | ⟨e, _⟩
      · rw [clr_len]; exact hl
      · rw [h1] at e; cases e
    have a1 := cnt_bd 1 cs
    have a2 := cnt_bd 2 cs
    have a3 := cnt_bd 1 cs'
    have a4 := cnt_bd 2 cs'
    have a5 := h3.few
    have a6 := h4.few
    refine ⟨2 * (((l1.length : Nat) + cnt 2 cs - cnt 2 cs') - ((l2.length : Nat) + cnt 1 cs - cnt 1 cs')), by omega, by omega, h2, by rw [h5]; unfold tmV; omega, fun b w k hb => ?_⟩
    exact ⟨rk, s', cs', hR, .inl ⟨rfl, h1, hb, l1, l2, h3, h4, by unfold tmV; omega⟩⟩
  · cases h9

section
variable (s : Int) (w : World) (A P : Option Addr) (n c m pc : Nat) (cs ds : List Int) (bp wp km : Int) (h : Ints w w.heap.size A n cs) (h' : Ints w w.heap.size P m ds) (hn : n ≤ 49) (hm : m ≤ 4803)
include h h' hn hm
theorem i_TmA (v : Int) (ok : Bool) (Hv : Hid (TmIs s n cs ds bp wp km v ok)) : Calls Try.prog 6 #[.agg #[.int .i64 s, .slice A n c], .slice P m pc, .int .i64 bp, .int .i64 wp, .int .i64 km] w fun e w' => e = .returned (.tuple #[.int .i64 v, .bool ok]) ∧ Below w.heap.size w w' :=
  i_Tm s w _ _ A P n c m pc cs ds bp wp km h h' (Nat.le_refl _) (Nat.le_refl _) (by omega) (by omega) v ok Hv
theorem s_TmA (v : Int) (ok : Bool) (Hv : Hid (TmIs s n cs ds bp wp km v ok)) : Calls Try.prog 7 #[.agg #[.int .i64 s, .slice A n c], .slice P m pc, .int .i64 bp, .int .i64 wp, .int .i64 km] w fun e w' => e = .returned (.tuple #[.int .i64 v, .bool ok]) ∧ Below w.heap.size w w' :=
  s_Tm s w _ _ A P n c m pc cs ds bp wp km h h' (Nat.le_refl _) (Nat.le_refl _) (by omega) (by omega) v ok Hv
end
end Go.Proofs.Ytniddfoiakbfdaa

namespace Go.Proofs.Ytniddfoiakbfdaa
set_option maxRecDepth 100000
open Go.RowKit

theorem i_invD (s : Int) (w : World) (A : Option Addr) (n c : Nat) (cs : List Int) (h : Ints w w.heap.size A n cs) (hn : n ≤ 49) (hv : Hid (Bd.okB s cs = true)) : Calls Try.prog 8 #[.agg #[.int .i64 s, .slice A n c]] w fun e w' => ∃ A' c', e = .returned (.agg #[.int .i64 s, .slice A' n c']) ∧ Own w' w.heap.size A' n c' (othCs cs) ∧ Below w.heap.size w w' := by
  have := i_inv s w w.heap.size A n c cs h (Nat.le_refl _) (by omega)
  rw [invS, invCs, if_pos hv.out, if_pos hv.out] at this
  refine this.mono ?_
  rintro e w' ⟨A', n', c', rfl, ho, hb⟩
  have e3 : n = n' := by have h1 := ho.1; have h2 := h.1; rw [othCs_len] at h1; omega
  subst e3
  exact ⟨_, _, rfl, ho, hb⟩
theorem TmIs.ok {s : Int} {n : Nat} {cs ds : List Int} {bp wp km v : Int} (h : TmIs s n cs ds bp wp km v true) : Bd.okB s cs = true := by
  obtain ⟨rk, s', cs', hR, ⟨_, rfl, _⟩ | ⟨h9, _⟩⟩ := h
  · rcases hR with ⟨_, a, _⟩ | ⟨e, _⟩
    · exact a
    · cases e
  · cases h9
end Go.Proofs.Ytniddfoiakbfdaa

