/-
  The draws of lists of switches.
-/
import Derived.Test.YtjolappndbmmaaaHoD
import Derived.Test.YtjolappndbmmaaaDrawSm
import Derived.Deep.DeepCutAuto
namespace Go.Proofs.Ytjolappndbmmaaa
set_option maxRecDepth 100000
open Go.RowKit

/-- What a draw of a list gives. -/
def GotSws (w : World) (B g : Nat) (e : Ending) (w' : World) : Prop :=
  ∃ (A : Option Addr) (n c : Nat) (ls : List (Int × Int)) (q : Nat), e = .returned (.slice A n c) ∧ n ≤ 7 ∧ q ≤ 1000 ∧ OwS w' w.heap.size A n c ls ∧ Rdr w' B g q ∧ w.grownBy w' (some g)
set_option maxRecDepth 100000 in
set_option maxHeartbeats 4000000 in
theorem r_anySws (B g : Nat) (w : World) (h : Rdr w B g 0) :
    Calls Try.prog 55 #[.pointer (some ⟨g, 0, none⟩)] w fun e w' => GotSws w B g e w' := by
  have hlt := h.lt
  go_enter Try.func55, Try.ntmps55
  go_upto_region 2 with (fail)
  obtain ⟨y, hy, hb1, z1, z2⟩ := new_box w (.cells #[] 39)
  have Hob := Lib.hid (show OwS y w.heap.size (some ⟨w.heap.size, 0, none⟩) 0 0 [] from by rw [hy]; exact OwS.bare w _ (Nat.le_refl _))
  have Hr := Lib.hid (h.below hb1 hlt)
  have Hg := Lib.hid (show w.grownBy y (some g) from ⟨hb1.os, hb1.tape, hb1.output, hb1.size, fun k hk _ => hb1.block k hk⟩)
  rw [← hy]
  clear hy hb1 h
  go_wp2_with fail
  have hl := Ints.lit y 3 [2, 3, 4, 5, 1, 0, 6, 7]
  have hlr := Hr.out.lt
  refine (r_one B g 0 _ _ [2, 3, 4, 5, 1, 0, 6, 7] (y.heap.size + 1) _ (Hr.out.below ((Below.refl _ _).alloc (Nat.le_refl _) _) hlr) (by omega) hl (by simp) (by simp) (by simp) (by rintro b o e; injection e with e; injection e; omega)).mono ?_
  rintro e w2 ⟨v, rfl, hv, hr9, hw9⟩
  have hv7 : 0 ≤ v ∧ v ≤ 7 := by simp at hv; omega
  have hgy : y.grownBy w2 (some g) := gtrans (World.grownBy_alloc y _ (some g)) hw9
  have HO := Lib.hid (Hob.out.kept hgy (fun g' e e2 => by have h1 := Option.some.inj e; injection h1; have := Option.some.inj e2; omega))
  have Hg := Lib.hid (gtrans Hg.out hgy)
  have Hr := Lib.hid hr9
  have hs2 := hgy.size
  obtain ⟨m, rfl⟩ := Int.eq_ofNat_of_zero_le hv7.1
  have hm7 : m ≤ 7 := by omega
  clear hv hv7 hw9 hgy hr9 hl
  go_wp2_with fail
  go_loopg [3, 4] (m + 1) (fun q v3 v4 wr => ∃ (k n c q9 : Nat) (A : Option Addr) (ls : List (Int × Int)), k + 1 = q ∧ n + k = m ∧ v3 = .slice A n c ∧ v4 = .int .i64 (k : Nat) ∧ q9 ≤ 1 + 5 * n ∧ OwS wr w.heap.size A n c ls ∧ Rdr wr B g q9 ∧ w.grownBy wr (some g))
  case atStart => exact ⟨m, 0, 0, 1, _, [], rfl, by omega, rfl, rfl, by omega, HO.out, Hr.out, Hg.out⟩
  case round =>
    clear HO Hr Hg
    obtain ⟨k, n, c, q9, A, ls, hk, hnk, rfl, rfl, hq9, ho, hr, hg⟩ := hrel
    obtain ⟨wi, rfl⟩ : ∃ wi : World, wi = wr := ⟨_, rfl⟩
    have HO := Lib.hid ho
    have Hr := Lib.hid hr
    have Hg := Lib.hid hg
    have hzi := hg.size
    have hn7 : n ≤ 7 := by omega
    have hq90 : q9 ≤ 1000 := by omega
    clear ho hr hg
    by_cases hk0 : k = 0
    · subst hk0
      have hlt0 : ¬ (0 : Int) < ((0 : Nat) : Int) := by omega
      go_wp2_with fail
      go_ret
      exact ⟨_, _, _, ls, q9, rfl, hn7, hq90, HO.out, Hr.out, Hg.out⟩
    · have hkp : (0 : Int) < ((k : Nat) : Int) := by omega
      go_wp2_with fail
      refine (r_anySw B g q9 _ Hr.out (by omega)).mono ?_
      rintro e w3 ⟨q3, hq3, l, r, rfl, hr3, hg3⟩
      have HO3 := Lib.hid (HO.out.kept hg3 (fun x e e2 => by have := (HO.out.ge e).1; have := Option.some.inj e2; omega))
      have Hg3 := Lib.hid (gtrans Hg.out hg3)
      have Hr3 := Lib.hid hr3
      have hz3 := hg3.size
      have Hq := Lib.hid (show q3 ≤ 1 + 5 * (n + 1) by omega)
      clear hg3 hr3 hq3 hq9 HO Hr Hg
      go_wp2_with (at_builtin; refine appSw rfl _ _ rfl _ w.heap.size _ _ _ _ _ _ _ rfl rfl (by simp) HO3.out (by omega) (by omega) ?_; intro A' c' w5 hown' hgr)
      have HO5 := Lib.hid hown'
      have Hg5 : Hid (w.grownBy w5 (some g)) := Lib.hid (by
        refine ⟨hgr.os.trans Hg3.out.os, hgr.tape.trans Hg3.out.tape, hgr.output.trans Hg3.out.output, Nat.le_trans Hg3.out.size hgr.size, fun k hk hr => (hgr.block k (by omega) (fun e => ?_)).trans (Hg3.out.block k hk hr)⟩
        have hrow := HO3.out.row e.symm
        have := (HO3.out.ge hrow).1
        omega)
      have Hr5 : Hid (Rdr w5 B g q3) := Lib.hid (Hr3.out.grown hgr (fun x e => by
        have hrow := HO3.out.row e
        have := (HO3.out.ge hrow).1
        have := Hr3.out.1
        omega))
      clear hown' hgr
      go_wp2_with fail
      go_roundg k
      case measure => omega
      case rel => exact ⟨k - 1, n + 1, c', q3, A', ls ++ [(l, r)], by omega, by omega, rfl, by go_num, by have := Hq.out; omega, HO5.out, Hr5.out, Hg5.out⟩
theorem bgS {B g : Nat} {w w1 w2 : World} (hb : Below B w w1) (hB : B ≤ w1.heap.size) (hw : w1.grownBy w2 (some g)) (hg : B ≤ g) : Below B w w2 :=
  hb.grown hw hB (fun k e => by injection e; omega)
theorem d_hot (w : World) (a : Option Addr) (len cap : Nat) (zs : List Int) (h : IsRow .u8 w a len cap zs) :
    Calls Try.prog 22 #[.slice a len cap] w fun e w' => ∃ (A : Option Addr) (n c : Nat) (ls : List (Int × Int)), e = .returned (.slice A n c) ∧ n ≤ 7 ∧ OwS w' w.heap.size A n c ls ∧ Below w.heap.size w w' := by
  go_enter Try.func22, Try.ntmps22
  go_wp2_with fail
  refine (r_new w a len cap zs h).mono ?_
  rintro e w1 ⟨g, rfl, hr, hb⟩
  go_wp2_with fail
  refine (r_anySws _ g _ hr).mono ?_
  rintro e w2 ⟨A, n, c, ls, q, rfl, hn7, hq, ho, hr2, hw2⟩
  have hb2 := bgS hb hb.size hw2 hr2.1
  have Ho := Lib.hid (show OwS w2 w.heap.size A n c ls from ⟨ho.1, by
    have h2 := ho.2
    refine ⟨h2.1, ?_⟩
    rcases h2.2 with h | ⟨g, cap, cur, e, hg, r⟩
    · exact .inl h
    · exact .inr ⟨g, cap, cur, e, by have := hb.size; omega, r⟩⟩)
  have Hb := Lib.hid hb2
  clear hb hw2 hr hr2 ho hb2 hq
  go_wp2_with fail
  go_ret
  exact ⟨_, _, _, ls, rfl, hn7, Ho.out, Hb.out⟩
theorem d_hsc (w : World) (a : Option Addr) (len cap : Nat) (zs : List Int) (h : IsRow .u8 w a len cap zs) :
    Calls Try.prog 35 #[.slice a len cap] w fun e w' => ∃ (A : Option Addr) (n c : Nat) (ls : List (Int × Int)) (b : Bool), e = .returned (.tuple #[.slice A n c, .bool b]) ∧ n ≤ 7 ∧ OwS w' w.heap.size A n c ls ∧ Below w.heap.size w w' := by
  go_enter Try.func35, Try.ntmps35
  go_wp2_with fail
  refine (r_new w a len cap zs h).mono ?_
  rintro e w1 ⟨g, rfl, hr, hb⟩
  go_wp2_with fail
  refine (r_anySws _ g _ hr).mono ?_
  rintro e w2 ⟨A, n, c, ls, q, rfl, hn7, hq, ho, hr2, hw2⟩
  have hb2 := bgS hb hb.size hw2 hr2.1
  have Ho := Lib.hid ho
  have Hb := Lib.hid hb2
  have hz := hb.size
  have hgl := hr2.1
  have hgg := hr.lt
  clear hb hw2 hr ho hb2
  go_wp2_with fail
  refine (r_pick _ g q _ _ hr2 (by omega)).mono ?_
  rintro e w3 ⟨x, rfl, x1, x2, hr3, hw3⟩
  have Ho3 := Lib.hid (Ho.out.kept hw3 (fun y e e2 => by have := (Ho.out.ge e).1; have := hgg; have := Option.some.inj e2; omega))
  have Hb3 := Lib.hid (bgS Hb.out Hb.out.size hw3 hgl)
  obtain ⟨bb, hbb⟩ : ∃ bb, (x == 0) = bb := ⟨_, rfl⟩
  have Ho4 := Lib.hid (show OwS w3 w.heap.size A n c ls from ⟨Ho3.out.1, by
    have h2 := Ho3.out.2
    refine ⟨h2.1, ?_⟩
    rcases h2.2 with h | ⟨g, cap, cur, e, hg, r⟩
    · exact .inl h
    · exact .inr ⟨g, cap, cur, e, by omega, r⟩⟩)
  clear hr2 hr3 hw3 x1 x2 Ho
  go_wp2_with fail
  go_ret2
  exact ⟨_, _, _, ls, bb, rfl, hn7, Ho4.out, Hb3.out⟩
end Go.Proofs.Ytjolappndbmmaaa
