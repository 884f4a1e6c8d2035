/-
  The program's forest of sets of points: 'newUnions', 'firstOf', 'join', 'setOf'.
-/
import Derived.Test.YtpopbcmfbcmojaaPureUn
import Derived.Test.YtpopbcmfbcmojaaInvS
import Derived.Test.YtpopbcmfbcmojaaWordsB
import Derived.Test.YtpopbcmfbcmojaaMarks
namespace Go.Proofs.Ytpopbcmfbcmojaa
set_option maxRecDepth 100000
open Go.RowKit

theorem i_newUnions (n : Nat) (w : World) (hn : n ≤ 1000) :
    Calls Try.prog 92 #[.int .i64 (n : Nat)] w fun e w' => ∃ c', e = .returned (.slice (some ⟨w.heap.size, 0, none⟩) n c') ∧ Own w' w.heap.size (some ⟨w.heap.size, 0, none⟩) n c' (marks 0 n) ∧ Below w.heap.size w w' := by
  go_enter Try.func92, Try.ntmps92
  go_wp2_with (at_make; refine make0t 78 Try.underlying78 rfl _ rfl _ w.heap.size _ n rfl rfl (by omega) (Nat.le_refl _) ?_; intro w1 hown hb hlt)
  have Ho := Lib.hid hown
  have Hb := Lib.hid hb
  clear hown hb
  go_loopw [9] (fun i wr => ∃ j : Nat, j ≤ n ∧ i = .int .i64 j ∧ Own wr w.heap.size (some ⟨w.heap.size, 0, none⟩) n n (marks 0 j ++ (List.replicate n 0).drop j) ∧ Below w.heap.size w wr) (fun i _ => n - (intOf i).toNat)
  case atStart => exact ⟨0, by omega, rfl, by simpa [marks] using Ho.out, Hb.out⟩
  case round =>
    clear Ho Hb
    obtain ⟨j, hj, rfl, ho, hb⟩ := hrel
    by_cases hjn : j < n
    · have hcell : ∃ u, wr.cell? ⟨w.heap.size, j, none⟩ = some u := by
        have := World.ownsRow.cellAt ho.2 j (by omega)
        rw [this]
        exact ⟨_, List.getElem?_eq_getElem (by rw [List.length_map, ho.1]; exact hjn)⟩
      obtain ⟨u, hu⟩ := hcell
      have hf := World.ownsRow.frozenAt ho.2 j
      have hst := (ho.stored j (0 + (j : Int))).1
      rw [marks_succ 0 j _ (by rw [List.length_replicate]; exact hjn), Int.zero_add] at hst
      have Hs := Lib.hid hst
      have Hb := Lib.hid hb
      clear hst ho hb
      go_wp2_with fail
      go_roundw
      case rel => exact ⟨j + 1, by omega, by go_num, Hs.out, Hb.out.setCell (Nat.le_refl _) _⟩
      case measure => simp [intOf]; omega
    · obtain rfl : j = n := by omega
      have ho2 : Own wr w.heap.size (some ⟨w.heap.size, 0, none⟩) j j (marks 0 j) := by
        have := ho
        rw [List.drop_of_length_le (by rw [List.length_replicate]; exact Nat.le_refl _), List.append_nil] at this
        exact this
      have Ho := Lib.hid ho2
      have Hb := Lib.hid hb
      clear ho ho2 hb
      go_wp2_with fail
      go_ret
      exact ⟨_, rfl, Ho.out, Hb.out⟩

theorem Own.cellD {w : World} {B g n c : Nat} {xs : List Int} (h : Own w B (some ⟨g, 0, none⟩) n c xs) (j : Nat) (hj : j < n) : w.cell? ⟨g, j, none⟩ = some (.int .i64 (xs.getD j 0)) := by
  rw [World.ownsRow.cellAt h.2 j (by omega)]
  simp [List.getD_eq_getElem?_getD, List.getElem?_eq_getElem (show j < xs.length by rw [h.1]; exact hj)]

/-- What the calls on a forest keep: the row at block g alone is written. -/
def Fst (B g n c : Nat) (r : Nat → Nat) (w wx : World) : Prop := ∃ u, Own wx B (some ⟨g, 0, none⟩) n c u ∧ Un.Un u n r ∧ w.grownBy wx (some g)

theorem i_firstOf (w : World) (B g n c : Nat) (u : List Int) (r : Nat → Nat) (p : Nat) (h : Own w B (some ⟨g, 0, none⟩) n c u) (hu : Un.Un u n r) (hp : p < n) :
    Calls Try.prog 94 #[.slice (some ⟨g, 0, none⟩) n c, .int .i64 (p : Nat)] w fun e w' => e = .returned (.int .i64 (r p : Nat)) ∧ Fst B g n c r w w' := by
  have H := Lib.hid h
  have Hu := Lib.hid hu
  clear h hu
  go_enter Try.func94, Try.ntmps94
  go_wp2_with fail
  go_loopw [1] (fun i wr => ∃ (k : Nat) (v : List Int), k < n ∧ r k = r p ∧ i = .int .i64 (k : Nat) ∧ Own wr B (some ⟨g, 0, none⟩) n c v ∧ Un.Un v n r ∧ w.grownBy wr (some g)) (fun i _ => (intOf i).toNat)
  case atStart => exact ⟨p, u, hp, rfl, rfl, H.out, Hu.out, World.grownBy.refl _ _⟩
  case round =>
    clear H Hu
    obtain ⟨k, v, hk, hrk, rfl, ho, hun, hgr⟩ := hrel
    obtain ⟨l1, l2⟩ := hun.lo k hk
    obtain ⟨x, hx⟩ : ∃ x : Nat, v.getD k 0 = (x : Int) := ⟨(v.getD k 0).toNat, by omega⟩
    have ck := ho.cellD k hk
    rw [hx] at ck l1 l2
    by_cases hxk : x = k
    · subst hxk
      have hroot := hun.root x hk hx
      have hrp : r p = x := hrk.symm.trans hroot
      have Hrp := Lib.hid hrp
      have Ho := Lib.hid ho
      have Hun := Lib.hid hun
      have Hgr := Lib.hid hgr
      clear ho hun hgr hrp hroot hrk hx
      go_wp2_with fail
      go_ret
      exact ⟨by rw [Hrp.out]; rfl, _, Ho.out, Hun.out, Hgr.out⟩
    · have hxn : x < n := by omega
      obtain ⟨m1, m2⟩ := hun.lo x hxn
      obtain ⟨y, hy⟩ : ∃ y : Nat, v.getD x 0 = (y : Int) := ⟨(v.getD x 0).toNat, by omega⟩
      have cx := ho.cellD x hxn
      rw [hy] at cx
      obtain ⟨q1, q2, q3⟩ := hun.half hk hx hy hxk
      have fk := World.ownsRow.frozenAt ho.2 k
      have hst := ho.stored k (y : Int)
      have Hs := Lib.hid hst.1
      have Hg := Lib.hid (gtrans hgr hst.2)
      have Hun := Lib.hid q3
      have Hr := Lib.hid (q2.trans hrk)
      have hyn : y < n := by omega
      clear ho hun hgr hst q2 q3 hrk hx hy m1 m2 l1
      go_wp2_with fail
      go_roundw
      case rel => exact ⟨y, _, hyn, Hr.out, by go_num, Hs.out, Hun.out, Hg.out⟩
      case measure => simp [intOf]; omega

theorem i_join (w : World) (B g n c : Nat) (u : List Int) (r : Nat → Nat) (p q : Nat) (h : Own w B (some ⟨g, 0, none⟩) n c u) (hu : Un.Un u n r) (hp : p < n) (hq : q < n) :
    Calls Try.prog 93 #[.slice (some ⟨g, 0, none⟩) n c, .int .i64 (p : Nat), .int .i64 (q : Nat)] w fun e w' => e = .returned (.tuple #[]) ∧ Fst B g n c (Un.joined r p q) w w' := by
  have H := Lib.hid h
  have Hu := Lib.hid hu
  clear h hu
  go_enter Try.func93, Try.ntmps93
  go_wp2_with fail
  refine (i_firstOf _ _ _ _ _ _ _ _ H.out Hu.out hp).mono ?_
  rintro e y ⟨rfl, u1, ho1, hu1, hg1⟩
  have H1 := Lib.hid ho1
  have Hu1 := Lib.hid hu1
  have Hg1 := Lib.hid hg1
  clear H Hu ho1 hu1 hg1
  go_wp2_with fail
  refine (i_firstOf _ _ _ _ _ _ _ _ H1.out Hu1.out hq).mono ?_
  rintro e y2 ⟨rfl, u2, ho2, hu2, hg2⟩
  have Hg2 := Lib.hid (gtrans Hg1.out hg2)
  have hpb := (hu2.fix p hp).1
  have hqb := (hu2.fix q hq).1
  have hst := ho2.stored (max (r p) (r q)) ((min (r p) (r q) : Nat) : Int)
  have hun := hu2.join hp hq
  have Hf := Lib.hid (show Fst B g n c (Un.joined r p q) w (y2.setCell ⟨g, max (r p) (r q), none⟩ (.int .i64 ((min (r p) (r q) : Nat) : Int))) from ⟨_, hst.1, hun, gtrans Hg2.out hst.2⟩)
  have hM : max (r p) (r q) < n := by omega
  obtain ⟨u9, hu9⟩ : ∃ v, y2.cell? ⟨g, max (r p) (r q), none⟩ = some v := ⟨_, ho2.cellD _ hM⟩
  have hf9 := World.ownsRow.frozenAt ho2.2 (max (r p) (r q))
  clear H1 Hu1 Hg1 Hg2 ho2 hu2 hg2 hst hun
  generalize hR : Un.joined r p q = R at Hf
  generalize r p = a at *
  generalize r q = b at *
  have HR := Lib.hid hR
  clear hR
  rcases Nat.lt_trichotomy a b with hab | rfl | hab
  · rw [Nat.max_eq_right (Nat.le_of_lt hab), Nat.min_eq_left (Nat.le_of_lt hab)] at Hf
    rw [Nat.max_eq_right (Nat.le_of_lt hab)] at hM hu9 hf9
    go_wp2_with fail
    refine bodyPost_end (results_none rfl _ _ _) rfl ?_
    exact ⟨rfl, by rw [HR.out]; exact Hf.out⟩
  · rw [Nat.max_self, Nat.min_self] at Hf
    rw [Nat.max_self] at hM hu9 hf9
    go_wp2_with fail
    refine bodyPost_end (results_none rfl _ _ _) rfl ?_
    exact ⟨rfl, by rw [HR.out]; exact Hf.out⟩
  · rw [Nat.max_eq_left (Nat.le_of_lt hab), Nat.min_eq_right (Nat.le_of_lt hab)] at Hf
    rw [Nat.max_eq_left (Nat.le_of_lt hab)] at hM hu9 hf9
    go_wp2_with fail
    refine bodyPost_end (results_none rfl _ _ _) rfl ?_
    exact ⟨rfl, by rw [HR.out]; exact Hf.out⟩
end Go.Proofs.Ytpopbcmfbcmojaa
