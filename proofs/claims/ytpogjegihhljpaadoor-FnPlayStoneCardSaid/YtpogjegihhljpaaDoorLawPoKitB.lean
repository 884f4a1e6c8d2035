/-
  Texts that a law stands on: ParseS, Undone, PureMv, ImplPt, ImplPtB, MvI, TrI, SpecC, TrS, Rand, Any, Step, DrawLI, DrF, EyeX, EyeY, ListsB, EyLw, Count, CapW, DrB, PoW.
-/
import Derived.Test.YtpogjegihhljpaaDoorLawPoKitA
import Derived.Test.YtpogjegihhljpaaDoorBoard
import Derived.Deep.QuietTactic
import Derived.BigQuiet
import Derived.IntWalk
import Derived.Test.YtpogjegihhljpaaDoorFactPt
import Derived.Test.YtpogjegihhljpaaDoorPureBd
import Derived.Test.YtpogjegihhljpaaDoorBase
import Derived.RegionTactic
import Derived.Laws.ResultCell
import Derived.Test.YtpogjegihhljpaaDoorSpecA
import Derived.Test.YtpogjegihhljpaaDoorLists
import Derived.Test.YtpogjegihhljpaaDoorBoardI
namespace Go.Proofs.YtpogjegihhljpaaDoor
set_option maxRecDepth 100000
open Go.RowKit

/-- What a text leads to: where the answer is yes, a valid board of the call's own. -/
def ParsedB (S : ByteArray) (w : World) (e : Ending) (w' : World) : Prop :=
  ∃ (s' : Int) (A : Option Addr) (n c : Nat) (cs : List Int) (ok : Bool), e = .returned (.tuple #[.agg #[.int .i64 s', .slice A n c], .bool ok]) ∧
    (ok = true → Own w' w.heap.size A n c cs ∧ Bd.okB s' cs = true ∧ (strOfNums (Fm.fmt s'.toNat cs)).toList = S.toList) ∧ Below w.heap.size w w'

theorem quo_rem {s p : Nat} (h1 : 1 ≤ s) (hp : p < s * s) : p / s < s ∧ p % s < s := ⟨Nat.div_lt_of_lt_mul hp, Nat.mod_lt _ (by omega)⟩
theorem okL_zero' (n : Nat) : OkL (List.replicate n 0) := okL_mem.2 fun c hc => by rw [List.eq_of_mem_replicate hc]; omega

set_option maxRecDepth 100000 in
set_option maxHeartbeats 4000000 in
theorem s_ParseBoard (S : ByteArray) (w : World) (hS : S.size ≤ 1000000) :
    Calls Tryd.prog 101 #[.string S] w fun e w' => ParsedB S w e w' := by
  have hb1 : Below w.heap.size w (w.alloc (.cells #[.int .i64 0, .slice none 0 0] 25)) := (Below.refl _ _).alloc (Nat.le_refl _) _
  have x0 := Bx.new 25 w 0 (.slice none 0 0)
  go_enter Tryd.func101, Tryd.ntmps101
  go_upto_region 1 with (fail)
  obtain ⟨y, hy⟩ : ∃ y, y = w.alloc (.cells #[.int .i64 0, .slice none 0 0] 25) := ⟨_, rfl⟩
  have hyz : y.heap.size = w.heap.size + 1 := by rw [hy]; simp
  rw [← hy] at x0 hb1 ⊢
  have X0 := Lib.hid x0
  have Hb := Lib.hid hb1
  have Hyz := Lib.hid hyz
  clear hy x0 hb1 hyz
  have t0 := X0.out.cell0
  have t1 := X0.out.cell1
  have t2 := X0.out.frozen 0
  have t3 := X0.out.frozen 1
  have t4 := X0.out.lt
  go_wp2_with fail
  go_loop [4] (fun v => ∃ k : Nat, k ≤ 8 ∧ k ≤ S.size ∧ v = .int .i64 (k : Nat)) (fun v => 8 - (intOf v).toNat)
  case atStart => exact ⟨0, by omega, by omega, rfl⟩
  case round =>
    obtain ⟨k, hk, hkS, rfl⟩ := hrel
    have hround : ∀ P : Prop, (k < S.size ∧ k ≤ 7 ∧ ∃ h : k < S.size, (S[k].toNat : Int) ≠ 47) ∨ ¬ (k < S.size ∧ k ≤ 7 ∧ ∃ h : k < S.size, (S[k].toNat : Int) ≠ 47) := fun _ => Classical.em _
    rcases hround True with ⟨hlt, h7, _, hch⟩ | hno
    · have hb : ((S[k].toNat : Int) != 47) = true := by simpa using hch
      clear hround hch
      go_wp2_with fail
      go_round
      case rel => exact ⟨k + 1, by omega, by omega, by go_num⟩
      case measure => simp [intOf]; omega
    · have hno3 : (¬ k < S.size) ∨ (k < S.size ∧ 7 < k) ∨ (k < S.size ∧ k ≤ 7 ∧ ∃ h : k < S.size, (S[k].toNat : Int) = 47) := by
        by_cases h1 : k < S.size
        · by_cases h2 : k ≤ 7
          · refine .inr (.inr ⟨h1, h2, h1, ?_⟩)
            exact Classical.byContradiction fun h3 => hno ⟨h1, h2, h1, h3⟩
          · exact .inr (.inl ⟨h1, by omega⟩)
        · exact .inl h1
      clear hno hround
      obtain ⟨n, hkk⟩ : ∃ n : Nat, ((k : Nat) : Int) * ((k : Nat) : Int) = (n : Nat) := ⟨k * k, by simp⟩
      obtain ⟨L, hkL⟩ : ∃ L : Nat, ((k : Nat) : Int) * (((k : Nat) : Int) + 1) = (L : Nat) := ⟨k * (k + 1), by simp⟩
      have hnk : n = k * k := by have : ((n : Nat) : Int) = ((k * k : Nat) : Int) := by rw [← hkk]; simp
                                 omega
      have hLk : L = k * (k + 1) := by have : ((L : Nat) : Int) = ((k * (k + 1) : Nat) : Int) := by rw [← hkL]; simp
                                       omega
      have hn64 : n ≤ 64 := by rw [hnk]; exact Nat.le_trans (Nat.mul_le_mul hk hk) (by decide)
      have hL72 : L ≤ 72 := by rw [hLk]; exact Nat.le_trans (Nat.mul_le_mul hk (show k + 1 ≤ 9 by omega)) (by decide)
      have Hnk := Lib.hid hnk
      have HLk := Lib.hid hLk
      clear hnk hLk
      by_cases hv : 1 ≤ k ∧ k ≤ 7
      · have hno2 : (¬ k < S.size) ∨ (k < S.size ∧ ∃ h : k < S.size, (S[k].toNat : Int) = 47) := by
          rcases hno3 with h | ⟨_, h⟩ | ⟨h, _, h'⟩
          · exact .inl h
          · omega
          · exact .inr ⟨h, h'⟩
        clear hno3
        rcases hno2 with hlt | ⟨hlt, _, hch⟩
        all_goals try (have hb : ((S[k].toNat : Int) != 47) = false := by simpa using hch)
        all_goals try clear hch
        all_goals
          have hok : Pt.okS (k : Nat) = true := (Pt.okS_iff _).2 (by omega)
          by_cases hSL : S.size = L
          · have hd : decide ((S.size : Int) = (L : Int)) = true := by rw [hSL]; simp
            have hSn : ((S.size : Int) != (L : Int)) = false := by rw [hSL]; simp
            have hSL1 : S.size ≤ L ∧ L ≤ S.size := by omega
            clear hSL
            go_wp2_with fail
            refine (s_size _ _).mono ?_
            rintro e w' ⟨rfl, rfl⟩
            rw [hok]
            clear hok
            go_wp2_with (at_make; refine make0 rfl _ rfl _ (w.heap.size + 1) _ n rfl rfl (by omega) (by rw [Hyz.out]; exact Nat.le_refl _) ?_; intro w1 hown hbm hltm)
            have Ho := Lib.hid hown
            have zm := hbm.size
            have hyw : w.heap.size + 1 ≤ y.heap.size ∧ y.heap.size ≤ w.heap.size + 1 := by have := Hyz.out; omega
            have X0 := Lib.hid (X0.out.below hbm X0.out.lt)
            have Hb := Lib.hid (Hb.out.trans (hbm.mono (by omega)))
            have Hokz := Lib.hid (okL_zero' n)
            clear hown hbm t0 t1 t2 t3 t4 hSn hd
            obtain ⟨y3, hy3, hb3, z3, z4⟩ := new_box w1 (.cells #[.int .i64 (k : Nat), .slice (some ⟨y.heap.size, 0, none⟩) n n] 25)
            have X5 : Hid (Bx 25 y3 w1.heap.size (k : Nat) (.slice (some ⟨y.heap.size, 0, none⟩) n n)) := Lib.hid (by rw [hy3]; exact Bx.new _ _ _ _)
            rw [← hy3]
            clear hy3
            have X0 := Lib.hid (X0.out.below hb3 X0.out.lt)
            have Ho := Lib.hid (Ho.out.below hb3)
            have Hb := Lib.hid (Hb.out.trans (hb3.mono (by omega)))
            clear hb3
            go_loopw [6] (fun v wr => ∃ (p : Nat) (cs : List Int), p ≤ n ∧ v = .int .i64 (p : Nat) ∧ Own wr (w.heap.size + 1) (some ⟨y.heap.size, 0, none⟩) n n cs ∧ OkL cs ∧ Bx 25 wr w1.heap.size (k : Nat) (.slice (some ⟨y.heap.size, 0, none⟩) n n) ∧ Below (w.heap.size + 1) y3 wr) (fun v _ => n - (intOf v).toNat)
            case atStart => exact ⟨0, _, by omega, rfl, Ho.out, Hokz.out, X5.out, Below.refl _ _⟩
            case round =>
              clear Ho Hokz X5
              obtain ⟨p, cs, hp, rfl, ho, hok, hx5, hbr⟩ := hrel
              have X0 := Lib.hid (X0.out.below hbr (by omega))
              have X5 := Lib.hid hx5
              have Ho := Lib.hid ho
              have Hok := Lib.hid hok
              have Hbr := Lib.hid hbr
              have zr := hbr.size
              clear ho hok hx5 hbr
              have t0 := X5.out.cell0
              have t1 := X5.out.cell1
              have t2 := X5.out.lt
              by_cases hpn : p < n
              · obtain ⟨q, hq⟩ : ∃ q, p / k = q := ⟨_, rfl⟩
                obtain ⟨r, hr⟩ : ∃ r, p % k = r := ⟨_, rfl⟩
                obtain ⟨hq1, hr1⟩ := quo_rem (s := k) (p := p) (by omega) (by rw [← Hnk.out]; exact hpn)
                rw [hq] at hq1
                rw [hr] at hr1
                obtain ⟨j, hj⟩ : ∃ j, (k - 1 - q) * (k + 1) + r = j := ⟨_, rfl⟩
                have hjL : j < L := by
                  have h3 := Nat.mul_le_mul_right (k + 1) (show k - 1 - q + 1 ≤ k by omega)
                  rw [Nat.add_mul, Nat.one_mul] at h3
                  rw [HLk.out, ← hj]
                  omega
                have hjS : j < S.size := by omega
                have e1 : ((p : Nat) : Int).tdiv ((k : Nat) : Int) = (q : Nat) := by rw [Int.tdiv_eq_ediv_of_nonneg (by omega), ← hq]; rfl
                have e1' : ((p : Nat) : Int) / ((k : Nat) : Int) = (q : Nat) := by rw [← hq]; rfl
                have e2 : ((p : Nat) : Int).tmod ((k : Nat) : Int) = (r : Nat) := by rw [Int.tmod_eq_emod_of_nonneg (by omega), ← hr]; rfl
                have e2' : ((p : Nat) : Int) % ((k : Nat) : Int) = (r : Nat) := by rw [← hr]; rfl
                have e3 : IntKind.i64.wrap ((k : Nat) - 1 : Int) = (k : Nat) - 1 := IntWalk.i64_in _ (by omega)
                have e6 : IntKind.i64.wrap (((k : Nat) : Int) + 1) = (k : Nat) + 1 := IntWalk.i64_in _ (by omega)
                have hjc : (j : Int) < S.size := by omega
                obtain ⟨a, ha⟩ : ∃ a, k - 1 - q = a := ⟨_, rfl⟩
                obtain ⟨M, hM⟩ : ∃ M, a * (k + 1) = M := ⟨_, rfl⟩
                have hMj : M + r = j := by rw [← hj, ← hM, ← ha]
                have hMi : ((a : Nat) : Int) * (((k : Nat) : Int) + 1) = (M : Nat) := by rw [← hM]; simp
                have e4 : IntKind.i64.wrap ((k : Nat) - 1 - (q : Nat) : Int) = (a : Nat) := by
                  rw [show ((k : Nat) - 1 - (q : Nat) : Int) = (a : Nat) by omega]
                  exact IntWalk.i64_in _ (by omega)
                have e7 : IntKind.i64.wrap (((a : Nat) : Int) * (((k : Nat) : Int) + 1)) = (M : Nat) := by
                  rw [hMi]
                  exact IntWalk.i64_in _ (by omega)
                have e8 : IntKind.i64.wrap (((M : Nat) : Int) + (r : Nat)) = (j : Nat) := by
                  rw [show ((M : Nat) : Int) + (r : Nat) = (j : Nat) by omega]
                  exact IntWalk.i64_in _ (by omega)
                obtain ⟨v, hv0⟩ : ∃ v, wr.cell? ⟨y.heap.size, p, none⟩ = some v := by
                  have := World.ownsRow.cellAt Ho.out.2 p (by omega)
                  rw [this]
                  exact ⟨_, List.getElem?_eq_getElem (by rw [List.length_map, Ho.out.1]; exact hpn)⟩
                have hf := World.ownsRow.frozenAt Ho.out.2 p
                clear hq hr hj ha hM hMj hMi
                have Hbd : Hid (Below w.heap.size w wr) := Lib.hid (Hb.out.trans (Hbr.out.mono (by omega)))
                by_cases h88 : (S[j].toNat : Int) = 88
                · have hb88 : ((S[j].toNat : Int) == 88) = true := by simpa using h88
                  clear h88
                  go_wp2_with fail
                  go_quiet (fail)
                  clear e1 e1' e2 e2' e3 e4 e6 e7 e8
                  go_wp2_with fail
                  go_roundw
                  case rel => exact ⟨p + 1, _, by omega, by go_num, (Own.stored (Ho.out.drewN nq) p 1).1, Hok.out.set p (by omega) (by omega), (X5.out.drewN nq).far (p := ⟨y.heap.size, p, none⟩) (by show w1.heap.size ≠ y.heap.size; omega) _, (drew_below Hbr.out nq).setCell (by show w.heap.size + 1 ≤ y.heap.size; omega) _⟩
                  case measure => simp [intOf]; omega
                · have hb88 : ((S[j].toNat : Int) == 88) = false := by simpa using h88
                  clear h88
                  by_cases h79 : (S[j].toNat : Int) = 79
                  · have hb79 : ((S[j].toNat : Int) == 79) = true := by simpa using h79
                    clear h79
                    go_wp2_with fail
                    go_quiet (fail)
                    clear e1 e1' e2 e2' e3 e4 e6 e7 e8
                    go_wp2_with fail
                    go_roundw
                    case rel => exact ⟨p + 1, _, by omega, by go_num, (Own.stored (Ho.out.drewN nq) p 2).1, Hok.out.set p (by omega) (by omega), (X5.out.drewN nq).far (p := ⟨y.heap.size, p, none⟩) (by show w1.heap.size ≠ y.heap.size; omega) _, (drew_below Hbr.out nq).setCell (by show w.heap.size + 1 ≤ y.heap.size; omega) _⟩
                    case measure => simp [intOf]; omega
                  · have hb79 : ((S[j].toNat : Int) == 79) = false := by simpa using h79
                    clear h79
                    go_wp2_with fail
                    go_quiet (fail)
                    clear e1 e1' e2 e2' e3 e4 e6 e7 e8
                    go_wp2_with fail
                    go_roundw
                    case rel => exact ⟨p + 1, cs, by omega, by go_num, Ho.out.drewN nq, Hok.out, X5.out.drewN nq, drew_below Hbr.out nq⟩
                    case measure => simp [intOf]; omega
              · obtain rfl : p = n := by omega
                have Hv := Lib.hid ((Bd.okB_iff (k : Nat) cs).2 ⟨by omega, by omega, by rw [Ho.out.1, Hnk.out]; simp, okL_mem.1 Hok.out⟩)
                go_wp2_with fail
                refine (s_formatBoard k _ _ _ p p cs Ho.out.ints (Nat.le_refl _) hv.1 hv.2 Hnk.out Hok.out).mono ?_
                rintro e yf ⟨rfl, hbf⟩
                have X0 := Lib.hid (X0.out.below hbf X0.out.lt)
                have X5 := Lib.hid (X5.out.below hbf X5.out.lt)
                have Ho := Lib.hid (Ho.out.below hbf)
                have Hb := Lib.hid (Hb.out.trans ((Hbr.out.trans (hbf.mono (by omega))).mono (by omega)))
                clear hbf t0 t1 t2
                have t0 := X5.out.cell0
                have t1 := X5.out.cell1
                have t2 := X5.out.lt
                have r0 := X0.out.cell0
                have r1 := X0.out.cell1
                have r2 := X0.out.frozen 0
                have r3 := X0.out.frozen 1
                have r4 := X0.out.lt
                by_cases heq : ((strOfNums (Fm.fmt k cs)).toList == S.toList) = true
                · have hbe : (!(strOfNums (Fm.fmt k cs)).toList == S.toList) = false := by rw [heq]; rfl
                  have Heq := Lib.hid (eq_of_beq heq)
                  have K0 := Lib.hid ((X0.out.set0 (k : Nat)).cell0)
                  have K1 := Lib.hid (((X0.out.set0 (k : Nat)).set1 (.slice (some ⟨y.heap.size, 0, none⟩) p p)).cell1)
                  have Hb3 := Lib.hid ((Hb.out.setCell (p := ⟨w.heap.size, 0, none⟩) (Nat.le_refl _) (.int .i64 (k : Nat))).setCell (p := ⟨w.heap.size, 1, none⟩) (Nat.le_refl _) (.slice (some ⟨y.heap.size, 0, none⟩) p p))
                  have Ho3 := Lib.hid ((Ho.out.far ⟨w.heap.size, 0, none⟩ (fun g hA => by have := (Ho.out.ge hA).1; show g ≠ w.heap.size; omega) (.int .i64 (k : Nat))).far ⟨w.heap.size, 1, none⟩ (fun g hA => by have := (Ho.out.ge hA).1; show g ≠ w.heap.size; omega) (.slice (some ⟨y.heap.size, 0, none⟩) p p))
                  clear heq
                  go_wp2_with fail
                  have k0 := K0.out
                  have k1 := K1.out
                  refine bodyPost_ret (v := .tuple #[.agg #[.int .i64 (k : Nat), .slice (some ⟨y.heap.size, 0, none⟩) p p], .bool true]) (by simp [results, Tryd.results101, go_sem, k0, k1]) rfl ?_
                  exact ⟨_, _, _, _, cs, _, rfl, fun _ => ⟨Ho3.out.weaken (by omega), Hv.out, Heq.out⟩, Hb3.out⟩
                · have hbe : (!(strOfNums (Fm.fmt k cs)).toList == S.toList) = true := by rw [Bool.eq_false_iff.2 heq]; rfl
                  clear heq
                  have K0 := Lib.hid ((X0.out.set0 0).cell0)
                  have K1 := Lib.hid (((X0.out.set0 0).set1 (.slice none 0 0)).cell1)
                  have Hb3 := Lib.hid ((Hb.out.setCell (p := ⟨w.heap.size, 0, none⟩) (Nat.le_refl _) (.int .i64 0)).setCell (p := ⟨w.heap.size, 1, none⟩) (Nat.le_refl _) (.slice none 0 0))
                  go_wp2_with fail
                  have k0 := K0.out
                  have k1 := K1.out
                  refine bodyPost_ret (v := .tuple #[.agg #[.int .i64 0, .slice none 0 0], .bool false]) (by simp [results, Tryd.results101, go_sem, k0, k1]) rfl ?_
                  exact ⟨_, _, _, _, [], _, rfl, fun h => (by cases h), Hb3.out⟩
          · have hSn : ((S.size : Int) != (L : Int)) = true := by simp; omega
            go_wp2_with fail
            refine (s_size _ _).mono ?_
            rintro e w' ⟨rfl, rfl⟩
            rw [hok]
            clear hok
            have K0 := Lib.hid ((X0.out.set0 0).cell0)
            have K1 := Lib.hid (((X0.out.set0 0).set1 (.slice none 0 0)).cell1)
            have Hb3 := Lib.hid ((Hb.out.setCell (p := ⟨w.heap.size, 0, none⟩) (Nat.le_refl _) (.int .i64 0)).setCell (p := ⟨w.heap.size, 1, none⟩) (Nat.le_refl _) (.slice none 0 0))
            go_wp2_with fail
            have k0 := K0.out
            have k1 := K1.out
            refine bodyPost_ret (v := .tuple #[.agg #[.int .i64 0, .slice none 0 0], .bool false]) (by simp [results, Tryd.results101, go_sem, k0, k1]) rfl ?_
            exact ⟨_, _, _, _, [], _, rfl, fun h => (by cases h), Hb3.out⟩
      · rcases hno3 with hlt | ⟨hlt, h7⟩ | ⟨hlt, h7, _, hch⟩
        all_goals try (have hb : ((S[k].toNat : Int) != 47) = false := by simpa using hch)
        all_goals try clear hch
        all_goals
          have hok : Pt.okS (k : Nat) = false := by
            rcases Bool.eq_false_or_eq_true (Pt.okS (k : Nat)) with h | h
            · have := (Pt.okS_iff _).1 h; omega
            · exact h
          go_wp2_with fail
          refine (s_size _ _).mono ?_
          rintro e w' ⟨rfl, rfl⟩
          rw [hok]
          clear hok
          have K0 := Lib.hid ((X0.out.set0 0).cell0)
          have K1 := Lib.hid (((X0.out.set0 0).set1 (.slice none 0 0)).cell1)
          have Hb3 := Lib.hid ((Hb.out.setCell (p := ⟨w.heap.size, 0, none⟩) (Nat.le_refl _) (.int .i64 0)).setCell (p := ⟨w.heap.size, 1, none⟩) (Nat.le_refl _) (.slice none 0 0))
          go_wp2_with fail
          have k0 := K0.out
          have k1 := K1.out
          refine bodyPost_ret (v := .tuple #[.agg #[.int .i64 0, .slice none 0 0], .bool false]) (by simp [results, Tryd.results101, go_sem, k0, k1]) rfl ?_
          exact ⟨_, _, _, _, [], _, rfl, fun h => (by cases h), Hb3.out⟩
end Go.Proofs.YtpogjegihhljpaaDoor

namespace Go.Proofs.YtpogjegihhljpaaDoor.Pt
set_option maxRecDepth 100000

def rep (s p : Int) : Nat → Int
  | 0 => p
  | n + 1 => tr s 1 (rep s p n)

theorem tr_in (s k p : Int) (h1 : 1 ≤ s) (h2 : s ≤ 7) (h3 : 0 ≤ p) (h4 : p < s * s) (k1 : 0 ≤ k) (k2 : k < 8) : tr s k p = img s k p := by
  rw [tr, (okP_iff s p).2 ⟨h1, h2, h3, h4⟩, (okK_iff k).2 ⟨k1, k2⟩]; rfl

theorem undone_parts (s k p : Int) (h1 : 1 ≤ s) (h2 : s ≤ 7) (h3 : 0 ≤ p) (h4 : p < s * s) (k1 : 0 ≤ k) (k2 : k < 8) :
    (rep s p 4 == p) = true ∧ (4 ≤ k → (tr s k (tr s k p) == p) = true) ∧ (k < 4 → (tr s (-k % 4) (tr s k p) == p) = true) ∧ (((p + 1) % (s * s) == p) = false → (tr s k ((p + 1) % (s * s)) != tr s k p) = true) := by
  have h := undone_all s k p h1 h2 h3 h4 k1 k2
  rw [tr_in s k p h1 h2 h3 h4 k1 k2]
  simp only [undone, Bool.and_eq_true, Bool.or_eq_true] at h
  refine ⟨h.1.1, fun h4 => ?_, fun h4 => ?_, fun hf => ?_⟩
  · have := h.1.2; rw [if_pos h4] at this; exact this
  · have := h.1.2; rw [if_neg (by omega), show (4 - k) % 4 = -k % 4 by omega] at this; exact this
  · rcases h.2 with h | h
    · rw [h] at hf; cases hf
    · exact h
end Go.Proofs.YtpogjegihhljpaaDoor.Pt

namespace Go.Proofs.YtpogjegihhljpaaDoor.Bd
set_option maxRecDepth 100000
open Pt

def steps (f : Nat → Nat) (cs : List Int) : Nat → List Int → List Int
  | 0, l => l
  | j + 1, l => (steps f cs j l).set (f j) (cs.getD j 0)

theorem steps_len (f : Nat → Nat) (cs : List Int) (j : Nat) (l : List Int) : (steps f cs j l).length = l.length := by
  induction j with
  | zero => rfl
  | succ j ih => rw [steps, List.length_set, ih]

theorem steps_at {f : Nat → Nat} {cs l : List Int} {j : Nat} (hinj : ∀ a b, a < j → b < j → f a = f b → a = b) (hr : ∀ a, a < j → f a < l.length) {p : Nat} (hp : p < j) : (steps f cs j l)[f p]? = some (cs.getD p 0) := by
  induction j with
  | zero => omega
  | succ j ih =>
    rw [steps, List.getElem?_set]
    by_cases h : f j = f p
    · have hjp : j = p := hinj j p (by omega) hp h
      subst hjp
      rw [if_pos rfl, if_pos (by rw [steps_len]; exact hr j (by omega))]
    · rw [if_neg h]
      exact ih (fun a b ha hb => hinj a b (by omega) (by omega)) (fun a ha => hr a (by omega)) (by
        rcases Nat.lt_or_ge p j with h1 | h1
        · exact h1
        · exact absurd (by rw [show p = j by omega]) h)

theorem steps_one {f : Nat → Nat} {cs l l' : List Int} {n : Nat} (hl : l.length = n) (hl' : l'.length = n) (hinj : ∀ a b, a < n → b < n → f a = f b → a = b) (hr : ∀ a, a < n → f a < n) (hsur : ∀ q, q < n → ∃ p, p < n ∧ f p = q) :
    steps f cs n l = steps f cs n l' := by
  apply List.ext_getElem?
  intro q
  rcases Nat.lt_or_ge q n with hq | hq
  · obtain ⟨p, hp, rfl⟩ := hsur q hq
    rw [steps_at hinj (by rw [hl]; exact hr) hp, steps_at hinj (by rw [hl']; exact hr) hp]
  · rw [List.getElem?_eq_none (by rw [steps_len]; omega), List.getElem?_eq_none (by rw [steps_len]; omega)]

/-- The image of a point, as a natural number. -/
def imgN (s k : Int) (p : Nat) : Nat := (img s k p).toNat

theorem imgN_lt (s k : Int) (n p : Nat) (h1 : 1 ≤ s) (h2 : s ≤ 7) (hn : (n : Int) = s * s) (hp : p < n) : imgN s k p < n ∧ ((imgN s k p : Nat) : Int) = img s k p := by
  have := img_bd s k p h1 h2 (by omega) (by omega)
  unfold imgN
  omega

theorem back (s k p : Int) (h1 : 1 ≤ s) (h2 : s ≤ 7) (h3 : 0 ≤ p) (h4 : p < s * s) (k1 : 0 ≤ k) (k2 : k < 8) :
    img s (if 4 ≤ k then k else -k % 4) (img s k p) = p := by
  have hi := img_bd s k p h1 h2 h3 h4
  obtain ⟨_, u2, u3, _⟩ := undone_parts s k p h1 h2 h3 h4 k1 k2
  by_cases h : 4 ≤ k
  · have := u2 h
    rw [tr_in s k p h1 h2 h3 h4 k1 k2, tr_in s k _ h1 h2 hi.1 hi.2 k1 k2] at this
    rw [if_pos h]; simpa using this
  · have := u3 (by omega)
    rw [tr_in s k p h1 h2 h3 h4 k1 k2, tr_in s _ _ h1 h2 hi.1 hi.2 (by omega) (by omega)] at this
    rw [if_neg h]; simpa using this

theorem imgN_inj (s k : Int) (n : Nat) (h1 : 1 ≤ s) (h2 : s ≤ 7) (hn : (n : Int) = s * s) (k1 : 0 ≤ k) (k2 : k < 8) (a b : Nat) (ha : a < n) (hb : b < n) (h : imgN s k a = imgN s k b) : a = b := by
  have e1 := (imgN_lt s k n a h1 h2 hn ha).2
  have e2 := (imgN_lt s k n b h1 h2 hn hb).2
  have b1 := back s k a h1 h2 (by omega) (by omega) k1 k2
  have b2 := back s k b h1 h2 (by omega) (by omega) k1 k2
  rw [← e1, h, e2, b2] at b1
  omega

theorem imgN_sur (s k : Int) (n : Nat) (h1 : 1 ≤ s) (h2 : s ≤ 7) (hn : (n : Int) = s * s) (k1 : 0 ≤ k) (k2 : k < 8) (q : Nat) (hq : q < n) : ∃ p, p < n ∧ imgN s k p = q := by
  obtain ⟨k', hk', c1, c2, hkk⟩ : ∃ k' : Int, (if 4 ≤ k' then k' else -k' % 4) = k ∧ 0 ≤ k' ∧ k' < 8 ∧ True := by
    by_cases h : 4 ≤ k
    · exact ⟨k, if_pos h, k1, k2, trivial⟩
    · exact ⟨-k % 4, by rw [if_neg (by omega)]; omega, by omega, by omega, trivial⟩
  have hb := back s k' q h1 h2 (by omega) (by omega) c1 c2
  rw [hk'] at hb
  obtain ⟨e1, e2⟩ := imgN_lt s k' n q h1 h2 hn hq
  refine ⟨imgN s k' q, e1, ?_⟩
  unfold imgN at e2 ⊢
  rw [e2, hb]
  rfl

/-- The cells behind a symmetry. -/
def mv (s k : Int) (cs : List Int) : List Int := steps (imgN s k) cs cs.length cs
theorem mv_len (s k : Int) (cs : List Int) : (mv s k cs).length = cs.length := steps_len _ _ _ _
theorem mv_any (s k : Int) (cs l : List Int) (h1 : 1 ≤ s) (h2 : s ≤ 7) (hn : (cs.length : Int) = s * s) (k1 : 0 ≤ k) (k2 : k < 8) (hl : l.length = cs.length) : steps (imgN s k) cs cs.length l = mv s k cs :=
  steps_one hl rfl (fun a b ha hb => imgN_inj s k _ h1 h2 hn k1 k2 a b ha hb) (fun a ha => (imgN_lt s k _ a h1 h2 hn ha).1) (fun q hq => imgN_sur s k _ h1 h2 hn k1 k2 q hq)
end Go.Proofs.YtpogjegihhljpaaDoor.Bd

namespace Go.Proofs.YtpogjegihhljpaaDoor
set_option maxRecDepth 100000
open Go.RowKit

theorem i_place (s p : Int) (w : World) (h1 : 1 ≤ s) (h2 : s ≤ 7) (h3 : 0 ≤ p) (h4 : p < s * s) :
    Calls Tryd.prog 110 #[.int .i64 s, .int .i64 p] w fun e w' => e = .returned (.agg #[.int .i64 (p / s), .int .i64 (p % s)]) ∧ Below w.heap.size w w' := by
  have hb := Pt.sq_bd s h1 h2
  obtain ⟨d1, d2, d3, d4, d5⟩ := Pt.dm s p h1 h2 h3 h4
  clear d5
  go_enter Tryd.func110, Tryd.ntmps110
  go_wp2
  go_region
  all_goals go_wp2
  all_goals go_returns
  all_goals exact ⟨rfl, ((Below.refl _ _).alloc (Nat.le_refl _) _).drew⟩

end Go.Proofs.YtpogjegihhljpaaDoor

namespace Go.Proofs.YtpogjegihhljpaaDoor
set_option maxRecDepth 100000
open Go.RowKit

/-- A place of the call's own: block g holds a row and a column. -/
def At2 (w : World) (g : Nat) (r c : Int) : Prop := w.heap[g]? = some (.cells #[.int .i64 r, .int .i64 c] 114 (0, 0))

theorem At2.lt {w : World} {g : Nat} {r c : Int} (h : At2 w g r c) : g < w.heap.size := by
  rcases Nat.lt_or_ge g w.heap.size with hlt | hge
  · exact hlt
  · unfold At2 at h; rw [Array.getElem?_eq_none hge] at h; cases h
theorem At2.cell0 {w : World} {g : Nat} {r c : Int} (h : At2 w g r c) : w.cell? ⟨g, 0, none⟩ = some (.int .i64 r) := by
  unfold At2 at h; simp [World.cell?, h]
theorem At2.cell1 {w : World} {g : Nat} {r c : Int} (h : At2 w g r c) : w.cell? ⟨g, 1, none⟩ = some (.int .i64 c) := by
  unfold At2 at h; simp [World.cell?, h]
theorem At2.frozen {w : World} {g : Nat} {r c : Int} (h : At2 w g r c) (i : Nat) : w.frozen? ⟨g, i, none⟩ = false := by
  unfold At2 at h; simp [World.frozen?, h]
theorem At2.new (w : World) (r c : Int) : At2 (w.alloc (.cells #[.int .i64 r, .int .i64 c] 114)) w.heap.size r c := heap_alloc_new w _
theorem At2.below {w w' : World} {g B : Nat} {r c : Int} (h : At2 w g r c) (hb : Below B w w') (hg : g < B) : At2 w' g r c := (hb.block g hg).trans h
theorem At2.set2 {w : World} {g : Nat} {r c : Int} (h : At2 w g r c) (r' c' : Int) : At2 ((w.setCell ⟨g, 0, none⟩ (.int .i64 r')).setCell ⟨g, 1, none⟩ (.int .i64 c')) g r' c' := by
  unfold At2 at h ⊢
  simp [World.setCell, Array.getElem?_modify, h]

end Go.Proofs.YtpogjegihhljpaaDoor

namespace Go.Proofs.YtpogjegihhljpaaDoor
set_option maxRecDepth 100000
open Go.RowKit

def imgs (s k : Int) (n : Nat) : List Int := (List.range n).map fun (p : Nat) => Pt.img s k p
theorem imgs_len (s k : Int) (n : Nat) : (imgs s k n).length = n := by simp [imgs]
theorem imgs_at (s k : Int) (n j : Nat) (h : j < n) : (imgs s k n).getD j 0 = Pt.img s k j := by
  simp [imgs, List.getD_eq_getElem?_getD, h]

end Go.Proofs.YtpogjegihhljpaaDoor

namespace Go.Proofs.YtpogjegihhljpaaDoor
set_option maxRecDepth 100000
open Go.RowKit

def trOk (s : Int) (cs : List Int) (k : Int) : Bool := Bd.okB s cs && Pt.okK k
def trS (s : Int) (cs : List Int) (k : Int) : Int := if trOk s cs k then s else 0
def trCs (s : Int) (cs : List Int) (k : Int) : List Int := if trOk s cs k then Bd.mv s k cs else []

end Go.Proofs.YtpogjegihhljpaaDoor

namespace Go.Proofs.YtpogjegihhljpaaDoor
set_option maxRecDepth 100000
open Go.RowKit

set_option maxHeartbeats 400000 in
theorem s_transform (s k p : Int) (w : World) (h1 : 1 ≤ s) (h2 : s ≤ 7) (h3 : 0 ≤ p) (h4 : p < s * s) (k1 : 0 ≤ k) (k2 : k < 8) :
    Calls Tryd.prog 114 #[.int .i64 s, .int .i64 k, .int .i64 p] w fun e w' => e = .returned (.int .i64 (Pt.img s k p)) ∧ w = w' := by
  have hb := Pt.sq_bd s h1 h2
  obtain ⟨d1, d2, d3, d4, d5⟩ := Pt.dm s p h1 h2 h3 h4
  clear d5
  by_cases h4k : 4 ≤ k
  all_goals
    go_enter Tryd.func114, Tryd.ntmps114
    go_wp2
    go_loop [7, 8, 9] (fun r c i => ∃ n : Nat, n ≤ (k % 4).toNat ∧ i = .int .i64 n ∧ r = .int .i64 (Pt.rot s n (Pt.beg s k p)).1 ∧ c = .int .i64 (Pt.rot s n (Pt.beg s k p)).2) (fun _ _ i => (k % 4).toNat - (intOf i).toNat)
    case atStart => exact ⟨0, Nat.zero_le _, rfl, rfl, by simp only [Pt.rot, Pt.beg]; split <;> first | rfl | omega⟩
    case round =>
      obtain ⟨n, hn, rfl, rfl, rfl⟩ := hrel
      have hr := Pt.rot_bd s n _ (Pt.beg_bd s k p h1 h2 h3 h4)
      have hl := Pt.lin_bd s _ _ h1 h2 hr.1 hr.2.1 hr.2.2.1 hr.2.2.2
      obtain ⟨r1, r2, r3, r4⟩ := hr
      obtain ⟨l1, l2, l3, l4⟩ := hl
      by_cases hlt : (n : Int) < k % 4
      · go_wp2
        go_round
        case rel => exact ⟨n + 1, by omega, by go_num, rfl, rfl⟩
        case measure => simp [intOf]; omega
      · have hm : (k % 4).toNat = n := by omega
        have H := Lib.hid hm
        clear hm
        go_wp2
        go_ret
        exact ⟨ret_int (by rw [Pt.img, H.out]), rfl⟩
end Go.Proofs.YtpogjegihhljpaaDoor

namespace Go.Proofs.YtpogjegihhljpaaDoor
set_option maxRecDepth 100000
open Go.RowKit

theorem s_rangeK7 (k : Int) (w : World) : Calls Tryd.prog 82 #[.int .i64 k, .int .i64 0, .int .i64 7] w fun e w' => e = .returned (.bool (Pt.okK k)) ∧ w = w' :=
  (s_range k 0 7 w).mono fun e w' h => ⟨by rw [h.1]; exact ret_bool (by unfold Pt.okK; congr 1; exact decide_eq_decide.2 (by omega)), h.2⟩

set_option maxHeartbeats 1600000 in
theorem s_transformBoard (s k : Int) (w : World) (B : Nat) (A : Option Addr) (n c : Nat) (cs : List Int) (h : Ints w B A n cs) (hB : B ≤ w.heap.size) (h1 : 1 ≤ s) (h2 : s ≤ 7) (hns : (n : Int) = s * s) (k1 : 0 ≤ k) (k2 : k < 8) :
    Calls Tryd.prog 103 #[.agg #[.int .i64 s, .slice A n c], .int .i64 k] w fun e w' => Made s (Bd.mv s k cs) w e w' := by
  have e1 : (w.alloc (.cells #[.int .i64 s, .slice A n c] 25)).heap.size = w.heap.size + 1 := by simp
  have x0 := (Bx.new 25 w s (.slice A n c)).alloc (.cells #[.int .i64 0, .slice none 0 0] 25)
  have x1 := Bx.new 25 (w.alloc (.cells #[.int .i64 s, .slice A n c] 25)) 0 (.slice none 0 0)
  rw [e1] at x1
  have hb2 : Below w.heap.size w ((w.alloc (.cells #[.int .i64 s, .slice A n c] 25)).alloc (.cells #[.int .i64 0, .slice none 0 0] 25)) := ((Below.refl _ _).alloc (Nat.le_refl _) _).alloc (by simp) _
  have hl := h.1
  have H := Lib.hid (h.below hb2 hB)
  have X0 := Lib.hid x0
  have X1 := Lib.hid x1
  have Hb := Lib.hid hb2
  clear e1 x0 x1 hb2 h
  have hsq := Pt.sq_bd s h1 h2
  have hn49 : n ≤ 49 := by omega
  have hn1 : 0 < n := by omega
  have hle : (n : Int) ≤ s * s := by omega
  have Hns := Lib.hid hns
  have Hl := Lib.hid hl
  clear hns hl
  go_enter Tryd.func103, Tryd.ntmps103
  go_wp2_with fail
  refine (s_copyBoard _ _ _ _ _ _ _ H.out (by simp; omega) (by omega)).mono ?_
  rintro e y ⟨A1, c1, rfl, ho, hb⟩
  have X0 := Lib.hid (X0.out.below hb X0.out.lt)
  have X1 := Lib.hid (X1.out.below hb X1.out.lt)
  have H := Lib.hid (H.out.below hb (by simp; omega))
  have Hb := Lib.hid (Hb.out.trans (hb.mono (by simp; omega)))
  have Ho := Lib.hid (ho.weaken (B' := w.heap.size + 1 + 1) (by simp))
  have hA1 : ∃ g, A1 = some ⟨g, 0, none⟩ := by
    obtain ⟨g, cap, hv, _⟩ := World.ownsRow.form ho.2 (by omega)
    exact ⟨g, by injection hv⟩
  obtain ⟨g, hA1⟩ := hA1
  have hg1 := (Ho.out.ge hA1).1
  have hg2 := (ho.ge hA1).2
  rw [hA1] at Ho ⊢
  clear hb ho hA1
  have z1 := X1.out.lt
  have u00 := X0.out.cell0
  have u01 := X0.out.cell1
  have u02 := X0.out.lt
  go_wp2_with fail
  obtain ⟨y3, hy3, hb3, z3, z4⟩ := new_box y (.cells #[.int .i64 s, .slice (some ⟨g, 0, none⟩) n c1] 25)
  have X3 : Hid (Bx 25 y3 y.heap.size s (.slice (some ⟨g, 0, none⟩) n c1)) := Lib.hid (by rw [hy3]; exact Bx.new _ _ _ _)
  rw [← hy3]
  clear hy3 u00 u01
  have X0 := Lib.hid (X0.out.below hb3 X0.out.lt)
  have X1 := Lib.hid (X1.out.below hb3 X1.out.lt)
  have H := Lib.hid (H.out.below hb3 (by omega))
  have Ho := Lib.hid (Ho.out.below hb3)
  have Hb := Lib.hid (Hb.out.trans (hb3.mono (by omega)))
  clear hb3
  go_loopw [6] (fun i wr => ∃ j : Nat, j ≤ n ∧ i = .int .i64 j ∧ Own wr (w.heap.size + 1 + 1) (some ⟨g, 0, none⟩) n c1 (Bd.steps (Bd.imgN s k) cs j cs) ∧ Bx 25 wr y.heap.size s (.slice (some ⟨g, 0, none⟩) n c1) ∧ Below (w.heap.size + 1 + 1) y3 wr) (fun i _ => n - (intOf i).toNat)
  case atStart => exact ⟨0, by omega, rfl, Ho.out, X3.out, Below.refl _ _⟩
  case round =>
    clear X3 Ho
    obtain ⟨j, hj, rfl, ho, hx3, hbr⟩ := hrel
    have X0r := Lib.hid (X0.out.below hbr (by omega))
    have X1r := Lib.hid (X1.out.below hbr (by omega))
    have Hir := Lib.hid (H.out.below hbr (by omega))
    have Hbw := Lib.hid (Hb.out.trans (hbr.mono (by omega)))
    have Ho := Lib.hid ho
    have X3 := Lib.hid hx3
    have Hbr := Lib.hid hbr
    clear ho hx3 hbr
    have v00 := X0r.out.cell0
    have v01 := X0r.out.cell1
    have v02 := X0r.out.lt
    have v30 := X3.out.cell0
    have v31 := X3.out.cell1
    have v32 := X3.out.lt
    by_cases hjn : j < n
    · have hA : ∃ b o, A = some ⟨b, o, none⟩ ∧ b < B ∧ wr.cell? ⟨b, o + j, none⟩ = some (.int .i64 (cs.getD j 0)) := by
        rcases Hir.out.2 with h0 | ⟨b, o, hA, hbB, hc⟩
        · omega
        · exact ⟨b, o, hA, hbB, hc j hjn⟩
      obtain ⟨b, o, hA, hbB, hck⟩ := hA
      have HA := Lib.hid hA
      rw [hA] at v01
      clear hA
      obtain ⟨m1, m2⟩ := Bd.imgN_lt s k n j h1 h2 Hns.out hjn
      have hjs : (j : Int) < s * s := by omega
      have hcell : ∃ u, wr.cell? ⟨g, Bd.imgN s k j, none⟩ = some u := by
        have := World.ownsRow.cellAt Ho.out.2 (Bd.imgN s k j) (by omega)
        rw [this]
        exact ⟨_, List.getElem?_eq_getElem (by rw [List.length_map, Ho.out.1]; exact m1)⟩
      obtain ⟨u, hu⟩ := hcell
      have hf := World.ownsRow.frozenAt Ho.out.2 (Bd.imgN s k j)
      have hst : Own (wr.setCell ⟨g, Bd.imgN s k j, none⟩ (.int .i64 (cs.getD j 0))) (w.heap.size + 1 + 1) (some ⟨g, 0, none⟩) n c1 (Bd.steps (Bd.imgN s k) cs (j + 1) cs) := (Ho.out.stored (Bd.imgN s k j) (cs.getD j 0)).1
      obtain ⟨x, hx⟩ : ∃ x, cs.getD j 0 = x := ⟨_, rfl⟩
      obtain ⟨q, hq⟩ : ∃ q, Bd.imgN s k j = q := ⟨_, rfl⟩
      rw [hx] at hst hck
      rw [hq] at hst hu hf m1 m2
      have hqn : (q : Int) < n := by omega
      have hjn' : (j : Int) < n := by omega
      have Hst := Lib.hid hst
      have M2 := Lib.hid m2
      clear hx hq m2 hst
      go_wp2_with fail
      go_region_with (go_at_call 114; refine (s_transform s k j _ h1 h2 (by omega) hjs k1 k2).mono ?_; rintro e w9 ⟨rfl, rfl⟩; rw [← M2.out])
      all_goals go_wp2_with fail
      all_goals go_roundw
      all_goals try (simp [intOf]; omega)
      all_goals exact ⟨j + 1, by omega, by go_num, Own.drew Hst.out, X3.out.far (p := ⟨g, q, none⟩) (by show y.heap.size ≠ g; omega) (.int .i64 x), Below.drew (Hbr.out.setCell hg1 _)⟩
    · have hjn2 : j = n := by omega
      have hfin : Own wr (w.heap.size + 1 + 1) (some ⟨g, 0, none⟩) n c1 (Bd.mv s k cs) := by
        have := Ho.out
        rw [hjn2, ← Hl.out] at this
        rw [← Hl.out]
        exact this
      clear hjn2
      have ho2 := (hfin.far ⟨w.heap.size + 1, 0, none⟩ (fun g hA => by have := (hfin.ge hA).1; show g ≠ w.heap.size + 1; omega) (.int .i64 s)).far ⟨w.heap.size + 1, 1, none⟩ (fun g hA => by have := (hfin.ge hA).1; show g ≠ w.heap.size + 1; omega) (.slice (some ⟨g, 0, none⟩) n c1)
      have hb3 := (Hbw.out.setCell (p := ⟨w.heap.size + 1, 0, none⟩) (by show w.heap.size ≤ w.heap.size + 1; omega) (.int .i64 s)).setCell (p := ⟨w.heap.size + 1, 1, none⟩) (by show w.heap.size ≤ w.heap.size + 1; omega) (.slice (some ⟨g, 0, none⟩) n c1)
      have Ho2 := Lib.hid ho2
      have Hb3 := Lib.hid hb3
      have K0 := Lib.hid ((X1r.out.set0 s).cell0)
      have K1 := Lib.hid (((X1r.out.set0 s).set1 (.slice (some ⟨g, 0, none⟩) n c1)).cell1)
      have v10 := X1r.out.cell0
      have v11 := X1r.out.cell1
      have v12 := X1r.out.frozen 0
      have v13 := X1r.out.frozen 1
      have v14 := X1r.out.lt
      clear hfin ho2 hb3
      go_wp2_with fail
      have k0 := K0.out
      have k1 := K1.out
      refine bodyPost_ret (v := .agg #[.int .i64 s, .slice (some ⟨g, 0, none⟩) n c1]) (by simp [results, Tryd.results103, go_sem, k0, k1]) rfl ?_
      exact ⟨_, _, _, rfl, Ho2.out.weaken (by omega), Hb3.out⟩

end Go.Proofs.YtpogjegihhljpaaDoor

namespace Go.Proofs.YtpogjegihhljpaaDoor
set_option maxRecDepth 100000
open Go.RowKit

theorem okL_steps {f : Nat → Nat} {cs l : List Int} (hc : OkL cs) (hl : OkL l) (j : Nat) (hj : j ≤ cs.length) : OkL (Bd.steps f cs j l) := by
  induction j with
  | zero => exact hl
  | succ j ih =>
    have h1 := hc j (by omega)
    exact (ih (by omega)).set _ h1.1 h1.2
theorem okL_mv {s k : Int} {cs : List Int} (hc : OkL cs) : OkL (Bd.mv s k cs) := okL_steps hc hc _ (Nat.le_refl _)
theorem okL_oth {cs : List Int} (hc : OkL cs) : OkL (othCs cs) := by
  rw [okL_mem] at hc ⊢
  intro c hm
  unfold othCs at hm
  obtain ⟨x, hx, rfl⟩ := List.mem_map.1 hm
  have := hc x hx
  have h3 : x = 0 ∨ x = 1 ∨ x = 2 := by omega
  rcases h3 with rfl | rfl | rfl <;> decide
theorem okB_oth {s : Int} {cs : List Int} (h : Bd.okB s cs = true) : Bd.okB s (othCs cs) = true := by
  obtain ⟨a, b, c, d⟩ := (Bd.okB_iff s cs).1 h
  exact (Bd.okB_iff s _).2 ⟨a, b, by rw [othCs_len]; exact c, okL_mem.1 (okL_oth (okL_mem.2 d))⟩
theorem okB_mv {s k : Int} {cs : List Int} (h : Bd.okB s cs = true) : Bd.okB s (Bd.mv s k cs) = true := by
  obtain ⟨a, b, c, d⟩ := (Bd.okB_iff s cs).1 h
  exact (Bd.okB_iff s _).2 ⟨a, b, by rw [Bd.mv_len]; exact c, okL_mem.1 (okL_mv (okL_mem.2 d))⟩
theorem okB_new {s : Int} (h1 : 1 ≤ s) (h2 : s ≤ 7) : Bd.okB s (List.replicate (s * s).toNat 0) = true := by
  have := Pt.sq_bd s h1 h2
  exact (Bd.okB_iff s _).2 ⟨h1, h2, by rw [List.length_replicate]; omega, okL_mem.1 (okL_zero _)⟩

/-- The texts of the corners. -/
def Nine (w : World) (g : Nat) : Prop := ∀ j, j < 9 → ∃ S : ByteArray, w.cell? ⟨g, j, none⟩ = some (.string S) ∧ S.size ≤ 100

theorem r_corners (w : World) : Calls Tryd.prog 100 #[] w fun e w' => e = .returned (.slice (some ⟨w.heap.size, 0, none⟩) 9 9) ∧ Nine w' w.heap.size ∧ Below w.heap.size w w' := by
  go_enter Tryd.func100, Tryd.ntmps100
  go_wp2_with fail
  go_ret
  refine ⟨rfl, fun j hj => ?_, (Below.refl _ _).alloc (Nat.le_refl _) _⟩
  rw [World.cell?_alloc_at _ _ _ _ rfl]
  match j, hj with
  | 0, _ => exact ⟨_, rfl, by decide⟩
  | 1, _ => exact ⟨_, rfl, by decide⟩
  | 2, _ => exact ⟨_, rfl, by decide⟩
  | 3, _ => exact ⟨_, rfl, by decide⟩
  | 4, _ => exact ⟨_, rfl, by decide⟩
  | 5, _ => exact ⟨_, rfl, by decide⟩
  | 6, _ => exact ⟨_, rfl, by decide⟩
  | 7, _ => exact ⟨_, rfl, by decide⟩
  | 8, _ => exact ⟨_, rfl, by decide⟩

set_option maxRecDepth 100000 in
set_option maxHeartbeats 8000000 in
theorem r_random (B g q : Nat) (w : World) (h : Rdr w B g q) (hq : q ≤ 10000000000) :
    Calls Tryd.prog 73 #[.pointer (some ⟨g, 0, none⟩)] w fun e w' => DrawnB w B g w.heap.size (q + 200) e w' := by
  have hlt := h.lt
  have hb1 : Below w.heap.size w (w.alloc (.cells #[.int .i64 0, .slice none 0 0] 25)) := (Below.refl _ _).alloc (Nat.le_refl _) _
  have X2 := Lib.hid (Bx.new 25 w 0 (.slice none 0 0))
  have Hr := Lib.hid (h.below hb1 hlt)
  have Hb := Lib.hid hb1
  clear h hb1
  go_enter Tryd.func73, Tryd.ntmps73
  go_wp2_with fail
  refine (r_pick B g q _ _ Hr.out (by omega)).mono ?_
  rintro e y ⟨x0, rfl, k1, k2, hr, hg⟩
  have X2 := Lib.hid (X2.out.grown hg (fun e => by have := Option.some.inj e; omega))
  have Hg := Lib.hid (gtrans (gbelow (some g) Hb.out (Nat.le_refl _)) hg)
  have Hr := Lib.hid hr
  have z2 := X2.out.lt
  clear hr hg Hb
  by_cases h0 : x0 = 0
  · subst h0
    clear k1 k2
    go_wp2_with fail
    refine (r_smallSize B g (q + 1) _ Hr.out (by omega)).mono ?_
    rintro e y2 ⟨s, rfl, ⟨s1, s2⟩, hr, hg⟩
    have X2 := Lib.hid (X2.out.grown hg (fun e => by have := Option.some.inj e; omega))
    have Hg := Lib.hid (gtrans Hg.out hg)
    have Hr := Lib.hid hr
    have z3 := X2.out.lt
    have hsq := Pt.sq_bd s s1 s2
    clear hr hg
    go_wp2_with fail
    refine (s_new s _).mono ?_
    rintro e y3 ⟨A1, n, c1, rfl, ho, hb⟩
    have hs1 : newS s = s := by rw [newS, if_pos ((Pt.okS_iff s).2 ⟨s1, s2⟩)]
    have hc1 : newCs s = List.replicate (s * s).toNat 0 := by rw [newCs, if_pos ((Pt.okS_iff s).2 ⟨s1, s2⟩)]
    rw [hc1] at ho
    rw [hs1]
    have hn : (s * s).toNat = n := by have := ho.1; simpa using this
    rw [hn] at ho
    have Hn : Hid (((n : Nat) : Int) = s * s) := Lib.hid (by omega)
    have hn49 : n ≤ 49 := by omega
    have zz := hb.size
    have X2 := Lib.hid (X2.out.below hb X2.out.lt)
    have Ho := Lib.hid ho
    have Hr := Lib.hid (Hr.out.below hb Hr.out.lt)
    have Hg := Lib.hid (gtrans Hg.out (gbelow (some g) hb (Nat.le_refl _)))
    clear hb hs1 hc1 ho hn
    go_upto_region 4 with (fail)
    obtain ⟨y4, hy4, hb4, z4, z5⟩ := new_box y3 (.cells #[.int .i64 s, .slice A1 n c1] 25)
    have X3 : Hid (Bx 25 y4 y3.heap.size s (.slice A1 n c1)) := Lib.hid (by rw [hy4]; exact Bx.new _ _ _ _)
    rw [← hy4]
    clear hy4
    have X2 := Lib.hid (X2.out.below hb4 X2.out.lt)
    have Hr := Lib.hid (Hr.out.below hb4 Hr.out.lt)
    have Hra := Lib.hid (fun g' (hA : A1 = some ⟨g', 0, none⟩) => (Ho.out.ge hA).2)
    have Ho := Lib.hid (Ho.out.below hb4)
    have Hg := Lib.hid (gtrans Hg.out (gbelow (some g) hb4 (Nat.le_refl _)))
    clear hb4
    go_wp2_with fail
    go_loopw [4] (fun v wr => ∃ (p q1 : Nat) (cs : List Int), p ≤ n ∧ v = .int .i64 (p : Nat) ∧ q1 = q + 2 + p ∧ Own wr y2.heap.size A1 n c1 cs ∧ OkL cs ∧ Bx 25 wr w.heap.size 0 (.slice none 0 0) ∧ Bx 25 wr y3.heap.size s (.slice A1 n c1) ∧ Rdr wr B g q1 ∧ w.grownBy wr (some g)) (fun v _ => n - (intOf v).toNat)
    case atStart => exact ⟨0, q + 2, _, by omega, rfl, rfl, Ho.out, okL_zero n, X2.out, X3.out, Hr.out, Hg.out⟩
    case round =>
      clear X2 X3 Ho Hr Hg
      obtain ⟨p, q1, cs, hp, rfl, hq1, ho, hok, hx2, hx3, hr, hg⟩ := hrel
      have X2 := Lib.hid hx2
      have X3 := Lib.hid hx3
      have Ho := Lib.hid ho
      have Hok := Lib.hid hok
      have Hr := Lib.hid hr
      have Hg := Lib.hid hg
      have hq2 : q1 ≤ q + 60 := by omega
      have Hq1 := Lib.hid hq1
      clear ho hok hx2 hx3 hr hg hq1
      have t0 := X3.out.cell0
      have t1 := X3.out.cell1
      have t2 := X3.out.lt
      by_cases hpn : p < n
      · obtain ⟨ga, hA1⟩ : ∃ ga, A1 = some ⟨ga, 0, none⟩ := by
          obtain ⟨ga, cap, hv, _⟩ := World.ownsRow.form Ho.out.2 (by omega)
          exact ⟨ga, by injection hv⟩
        subst hA1
        have hga1 := (Ho.out.ge rfl).1
        have hga2 := Hra.out ga rfl
        have hpi : (p : Int) < n := by omega
        go_wp2_with fail
        go_region_with (go_at_call 45; refine (r_pick B g q1 _ _ (by exact Hr.out) (by omega)).mono ?_; rintro e yp ⟨x, rfl, x1, x2, hr, hg⟩; have hgw : wr.grownBy yp (some g) := ⟨hg.os, hg.tape, hg.output, hg.size, hg.block⟩; have zp := hgw.size; have HX3 := Lib.hid (X3.out.grown hgw (fun e => by have := Option.some.inj e; omega)); have HX2 := Lib.hid (X2.out.grown hgw (fun e => by have := Option.some.inj e; omega)); have u0 := HX3.out.cell0; have u1 := HX3.out.cell1; have u2 := HX3.out.lt; have HO := Lib.hid (Ho.out.kept hgw (fun g' hA e => by have := (Ho.out.ge hA).1; have := Option.some.inj e; omega)); have u3 := World.ownsRow.cellAt HO.out.2 p (by omega); rw [List.getElem?_eq_getElem (by rw [List.length_map, HO.out.1]; exact hpn)] at u3; have u4 := World.ownsRow.frozenAt HO.out.2 p; have HR := Lib.hid hr; have HG := Lib.hid (gtrans Hg.out hgw); clear hr hg hgw)
        all_goals go_wp2_with fail
        all_goals go_roundw
        all_goals try (simp [intOf]; omega)
        all_goals
          have hr3 := HR.out.far ⟨ga, p, none⟩ (by show g ≠ ga; omega) (by have := HR.out.1; show B ≤ ga; omega) (.int .i64 x)
          have hg3 := gset HG.out ⟨ga, p, none⟩ (by show w.heap.size ≤ ga; omega) (.int .i64 x)
          exact ⟨p + 1, q1 + 1, _, by omega, by go_num, by have := Hq1.out; omega, (HO.out.stored p x).1, Hok.out.set p x1 (by omega), HX2.out.far (p := ⟨ga, p, none⟩) (by show w.heap.size ≠ ga; omega) _, HX3.out.far (p := ⟨ga, p, none⟩) (by show y3.heap.size ≠ ga; omega) _, hr3, hg3⟩
      · obtain rfl : p = n := by omega
        have Hv := Lib.hid (okB_mk s1 s2 (by rw [Ho.out.1]; exact Hn.out) Hok.out)
        have K0 := Lib.hid ((X2.out.set0 s).cell0)
        have K1 := Lib.hid (((X2.out.set0 s).set1 (.slice A1 p c1)).cell1)
        have r0 := X2.out.cell0
        have r1 := X2.out.cell1
        have r2 := X2.out.frozen 0
        have r3 := X2.out.frozen 1
        have r4 := X2.out.lt
        have hBg := Hr.out.1
        have Hr3 := Lib.hid ((Hr.out.far ⟨w.heap.size, 0, none⟩ (by show g ≠ w.heap.size; omega) (by show B ≤ w.heap.size; omega) (.int .i64 s)).far ⟨w.heap.size, 1, none⟩ (by show g ≠ w.heap.size; omega) (by show B ≤ w.heap.size; omega) (.slice A1 p c1))
        have Hg3 := Lib.hid (gset (gset Hg.out ⟨w.heap.size, 0, none⟩ (Nat.le_refl _) (.int .i64 s)) ⟨w.heap.size, 1, none⟩ (Nat.le_refl _) (.slice A1 p c1))
        have Ho3 := Lib.hid ((Ho.out.far ⟨w.heap.size, 0, none⟩ (fun g' hA => by have := (Ho.out.ge hA).1; show g' ≠ w.heap.size; omega) (.int .i64 s)).far ⟨w.heap.size, 1, none⟩ (fun g' hA => by have := (Ho.out.ge hA).1; show g' ≠ w.heap.size; omega) (.slice A1 p c1))
        go_wp2_with fail
        have k0 := K0.out
        have k1 := K1.out
        refine bodyPost_ret (v := .agg #[.int .i64 s, .slice A1 p c1]) (by simp [results, Tryd.results73, go_sem, k0, k1]) rfl ?_
        exact ⟨_, _, _, _, _, _, rfl, Ho3.out.weaken (by omega), Hv.out, Hr3.out, by omega, Hg3.out⟩
  · have e0 : (x0 == 0) = false := by simpa using h0
    by_cases h1 : x0 = 1
    · subst h1
      clear k1 k2 h0 e0
      go_wp2_with fail
      refine (r_corners _).mono ?_
      rintro e y2 ⟨rfl, hN, hb⟩
      have X2 := Lib.hid (X2.out.below hb X2.out.lt)
      have Hg := Lib.hid (gtrans Hg.out (gbelow (some g) hb (Nat.le_refl _)))
      have Hrl := Hr.out.lt
      have Hr := Lib.hid (Hr.out.below hb Hr.out.lt)
      have HN := Lib.hid hN
      have z3 := hb.size
      clear hN hb
      have zy : y.heap.size < y2.heap.size := by
        obtain ⟨S, h1, _⟩ := HN.out 0 (by omega)
        exact World.block_lt_of_cell? _ _ h1
      go_wp2_with fail
      refine (r_pick B g (q + 1) _ _ Hr.out (by omega)).mono ?_
      rintro e y3 ⟨j, rfl, j1, j2, hr, hg⟩
      obtain ⟨j, rfl⟩ := Int.eq_ofNat_of_zero_le j1
      have hj9 : j < 9 := by omega
      obtain ⟨S, hS1, hS2⟩ := HN.out j hj9
      have hc := (World.cell?_of_block (w' := y3) (w := y2) (a := ⟨y.heap.size, j, none⟩) (hg.block y.heap.size zy (by intro e; have := Option.some.inj e; omega))).trans hS1
      have X2 := Lib.hid (X2.out.grown hg (fun e => by have := Option.some.inj e; omega))
      have Hg := Lib.hid (gtrans Hg.out hg)
      have Hr := Lib.hid hr
      have z4 := hg.size
      have hj9' : (j : Int) < 9 := by omega
      clear hr hg hS1 HN j2
      go_wp2_with fail
      refine (s_ParseBoard S _ (by omega)).mono ?_
      rintro e y4 ⟨s', A, n, c, cs, ok, rfl, hwhat, hb⟩
      have X2 := Lib.hid (X2.out.below hb X2.out.lt)
      have Hg := Lib.hid (gtrans Hg.out (gbelow (some g) hb (Nat.le_refl _)))
      have Hr := Lib.hid (Hr.out.below hb Hr.out.lt)
      have Hwhat := Lib.hid hwhat
      have z5 := hb.size
      clear hwhat hb hc
      go_upto_region 13 with (fail)
      obtain ⟨y5, hy5, hb5, z6, z7⟩ := new_box y4 (.cells #[.int .i64 s', .slice A n c] 25)
      have X6 : Hid (Bx 25 y5 y4.heap.size s' (.slice A n c)) := Lib.hid (by rw [hy5]; exact Bx.new _ _ _ _)
      rw [← hy5]
      clear hy5
      have X2 := Lib.hid (X2.out.below hb5 X2.out.lt)
      have Hr := Lib.hid (Hr.out.below hb5 Hr.out.lt)
      have Hg := Lib.hid (gtrans Hg.out (gbelow (some g) hb5 (Nat.le_refl _)))
      cases ok with
      | false =>
        clear hb5 Hwhat
        go_wp2_with fail
        refine (s_new 3 _).mono ?_
        rintro e y6 ⟨A6, n6, c6, rfl, ho, hb⟩
        have hs1 : newS 3 = 3 := rfl
        have hc1 : newCs 3 = List.replicate (3 * 3 : Int).toNat 0 := rfl
        rw [hc1] at ho
        rw [hs1]
        have X2 := Lib.hid (X2.out.below hb X2.out.lt)
        have Hg := Lib.hid (gtrans Hg.out (gbelow (some g) hb (Nat.le_refl _)))
        have Hr := Lib.hid (Hr.out.below hb Hr.out.lt)
        have Ho := Lib.hid ho
        clear ho hb hs1 hc1
        have K0 := Lib.hid ((X2.out.set0 3).cell0)
        have K1 := Lib.hid (((X2.out.set0 3).set1 (.slice A6 n6 c6)).cell1)
        have r0 := X2.out.cell0
        have r1 := X2.out.cell1
        have r2 := X2.out.frozen 0
        have r3 := X2.out.frozen 1
        have r4 := X2.out.lt
        have hBg := Hr.out.1
        have Hr3 := Lib.hid ((Hr.out.far ⟨w.heap.size, 0, none⟩ (by show g ≠ w.heap.size; omega) (by show B ≤ w.heap.size; omega) (.int .i64 3)).far ⟨w.heap.size, 1, none⟩ (by show g ≠ w.heap.size; omega) (by show B ≤ w.heap.size; omega) (.slice A6 n6 c6))
        have Hg3 := Lib.hid (gset (gset Hg.out ⟨w.heap.size, 0, none⟩ (Nat.le_refl _) (.int .i64 3)) ⟨w.heap.size, 1, none⟩ (Nat.le_refl _) (.slice A6 n6 c6))
        have Ho3 := Lib.hid ((Ho.out.far ⟨w.heap.size, 0, none⟩ (fun g' hA => by have := (Ho.out.ge hA).1; show g' ≠ w.heap.size; omega) (.int .i64 3)).far ⟨w.heap.size, 1, none⟩ (fun g' hA => by have := (Ho.out.ge hA).1; show g' ≠ w.heap.size; omega) (.slice A6 n6 c6))
        go_wp2_with fail
        have k0 := K0.out
        have k1 := K1.out
        refine bodyPost_ret (v := .agg #[.int .i64 3, .slice A6 n6 c6]) (by simp [results, Tryd.results73, go_sem, k0, k1]) rfl ?_
        exact ⟨_, _, _, _, _, _, rfl, Ho3.out.weaken (by omega), okB_new (by omega) (by omega), Hr3.out, by omega, Hg3.out⟩
      | true =>
        obtain ⟨ho, hv, _⟩ := Hwhat.out rfl
        have Ho := Lib.hid (ho.below hb5)
        have Hv := Lib.hid hv
        have Hra := Lib.hid (fun g' (hA : A = some ⟨g', 0, none⟩) => (ho.ge hA).2)
        clear Hwhat ho hv hb5
        go_wp2_with fail
        refine (r_pick B g (q + 2) _ _ Hr.out (by omega)).mono ?_
        rintro e y7 ⟨f, rfl, f1, f2, hr, hg⟩
        have X2 := Lib.hid (X2.out.grown hg (fun e => by have := Option.some.inj e; omega))
        have X6 := Lib.hid (X6.out.grown hg (fun e => by have := Option.some.inj e; omega))
        have Ho := Lib.hid (Ho.out.kept hg (fun g' hA e => by have := (Ho.out.ge hA).1; have := Option.some.inj e; omega))
        have Hg := Lib.hid (gtrans Hg.out hg)
        have Hr := Lib.hid hr
        have z8 := hg.size
        clear hr hg f2
        by_cases hf : f = 0
        · have hbf : (f == 0) = true := by simpa using hf
          clear hf
          have t0 := X6.out.cell0
          have t1 := X6.out.cell1
          have t2 := X6.out.lt
          go_wp2_with fail
          refine (s_invertBoard s' _ _ _ n c cs Ho.out.ints (Nat.le_refl _) (by have := Ho.out.1; obtain ⟨a1, a2, a3, _⟩ := (Bd.okB_iff s' cs).1 Hv.out; have := Pt.sq_bd s' a1 a2; omega) ((Bd.okB_iff s' cs).1 Hv.out).2.2.2).mono ?_
          rintro e y8 ⟨A8, n8, c8, rfl, ho8, hb⟩
          have X2 := Lib.hid (X2.out.below hb X2.out.lt)
          have X6 := Lib.hid (X6.out.below hb X6.out.lt)
          have Hg := Lib.hid (gtrans Hg.out (gbelow (some g) hb (Nat.le_refl _)))
          have Hr := Lib.hid (Hr.out.below hb Hr.out.lt)
          have Ho8 := Lib.hid ho8
          have Hv8 := Lib.hid (okB_oth Hv.out)
          have z9 := hb.size
          clear ho8 hb t0 t1 t2
          have t0 := X6.out.cell0
          have t1 := X6.out.cell1
          have t2 := X6.out.lt
          have t3 := X6.out.frozen 0
          have t4 := X6.out.frozen 1
          go_upto_region 17 with (fail)
          obtain ⟨y9, hy9⟩ : ∃ y9, y9 = (y8.setCell ⟨y4.heap.size, 0, none⟩ (.int .i64 s')).setCell ⟨y4.heap.size, 1, none⟩ (.slice A8 n8 c8) := ⟨_, rfl⟩
          have es : y9.heap.size = y8.heap.size := by rw [hy9]; simp [World.setCell]
          have hBg := Hr.out.1
          have hgl := Hr.out.lt
          have X2 : Hid (Bx 25 y9 w.heap.size 0 (.slice none 0 0)) := Lib.hid (by rw [hy9]; exact (X2.out.far (p := ⟨y4.heap.size, 0, none⟩) (by show w.heap.size ≠ y4.heap.size; omega) (.int .i64 s')).far (p := ⟨y4.heap.size, 1, none⟩) (by show w.heap.size ≠ y4.heap.size; omega) (.slice A8 n8 c8))
          have X6 : Hid (Bx 25 y9 y4.heap.size s' (.slice A8 n8 c8)) := Lib.hid (by rw [hy9]; exact (X6.out.set0 s').set1 (.slice A8 n8 c8))
          have Ho8 : Hid (Own y9 y7.heap.size A8 n8 c8 (othCs cs)) := Lib.hid (by rw [hy9]; exact (Ho8.out.far ⟨y4.heap.size, 0, none⟩ (fun g' hA => by have := (Ho8.out.ge hA).1; show g' ≠ y4.heap.size; omega) (.int .i64 s')).far ⟨y4.heap.size, 1, none⟩ (fun g' hA => by have := (Ho8.out.ge hA).1; show g' ≠ y4.heap.size; omega) (.slice A8 n8 c8))
          have Hr : Hid (Rdr y9 B g (q + 2 + 1)) := Lib.hid (by rw [hy9]; exact (Hr.out.far ⟨y4.heap.size, 0, none⟩ (by show g ≠ y4.heap.size; omega) (by show B ≤ y4.heap.size; omega) (.int .i64 s')).far ⟨y4.heap.size, 1, none⟩ (by show g ≠ y4.heap.size; omega) (by show B ≤ y4.heap.size; omega) (.slice A8 n8 c8))
          have Hg : Hid (w.grownBy y9 (some g)) := Lib.hid (by rw [hy9]; exact gset (gset Hg.out ⟨y4.heap.size, 0, none⟩ (by show w.heap.size ≤ y4.heap.size; omega) (.int .i64 s')) ⟨y4.heap.size, 1, none⟩ (by show w.heap.size ≤ y4.heap.size; omega) (.slice A8 n8 c8))
          rw [← hy9]
          clear hy9 t0 t1 t2 t3 t4
          obtain ⟨v1, v2, v3, v4⟩ := (Bd.okB_iff s' (othCs cs)).1 Hv8.out
          have hlcs := Ho8.out.1
          have Hns : Hid (((n8 : Nat) : Int) = s' * s') := Lib.hid (by rw [← v3, hlcs])
          clear v3 v4 hlcs
          have t0 := X6.out.cell0
          have t1 := X6.out.cell1
          have t2 := X6.out.lt
          go_upto_region 17 with (fail)
          go_region_with (first | (go_at_call 45; refine (r_pick B g (q + 2 + 1) _ _ (by exact Hr.out) (by omega)).mono ?_; rintro e yp ⟨kk, rfl, kk1, kk2, hr, hg⟩; have hgw : y9.grownBy yp (some g) := ⟨hg.os, hg.tape, hg.output, hg.size, hg.block⟩; have zp := hgw.size; have HX6 := Lib.hid (X6.out.grown hgw (fun e => by have := Option.some.inj e; omega)); have HX2 := Lib.hid (X2.out.grown hgw (fun e => by have := Option.some.inj e; omega)); have u0 := HX6.out.cell0; have u1 := HX6.out.cell1; have u2 := HX6.out.lt; have HO := Lib.hid (Ho8.out.kept hgw (fun g' hA e => by have := (Ho8.out.ge hA).1; have := Option.some.inj e; omega)); have HR := Lib.hid hr; have HG := Lib.hid (gtrans Hg.out hgw); have kk3 : kk < 8 := (by omega); clear hr hg hgw kk2) | (go_at_call 103; refine (s_transformBoard s' kk _ yp.heap.size _ _ _ (othCs cs) (by exact HO.out.ints) ?_ v1 v2 Hns.out kk1 kk3).mono ?_; (show yp.heap.size ≤ yp.heap.size; omega); rintro e yt ⟨A3, n3, c3, rfl, ho, hb⟩; have hbw : Below yp.heap.size yp yt := ⟨hb.os, hb.tape, hb.output, hb.size, hb.block⟩; have HX2t := Lib.hid (HX2.out.below hbw HX2.out.lt); have u3 := (HX6.out.below hbw HX6.out.lt).cell0; have u4 := (HX6.out.below hbw HX6.out.lt).cell1; have r0 := HX2t.out.cell0; have r1 := HX2t.out.cell1; have r2 := HX2t.out.frozen 0; have r3 := HX2t.out.frozen 1; have r4 := HX2t.out.lt; have HO3 : Hid (Own yt yp.heap.size A3 n3 c3 (Bd.mv s' kk (othCs cs))) := Lib.hid ho; have HRt := Lib.hid (HR.out.below hbw HR.out.lt); have HGt := Lib.hid (gtrans HG.out (gbelow (some g) hbw (Nat.le_refl _))); clear ho hb hbw))
          all_goals go_wp2_with fail
          all_goals
            have k0 := (HX2t.out.set0 s').cell0
            have k1 := ((HX2t.out.set0 s').set1 (.slice A3 n3 c3)).cell1
            refine bodyPost_ret (v := .agg #[.int .i64 s', .slice A3 n3 c3]) (by simp [results, Tryd.results73, go_sem, k0, k1]) rfl ?_
            have hBg := HRt.out.1
            have hr3 := (HRt.out.far ⟨w.heap.size, 0, none⟩ (by show g ≠ w.heap.size; omega) (by show B ≤ w.heap.size; omega) (.int .i64 s')).far ⟨w.heap.size, 1, none⟩ (by show g ≠ w.heap.size; omega) (by show B ≤ w.heap.size; omega) (.slice A3 n3 c3)
            have hg3 := gset (gset HGt.out ⟨w.heap.size, 0, none⟩ (Nat.le_refl _) (.int .i64 s')) ⟨w.heap.size, 1, none⟩ (Nat.le_refl _) (.slice A3 n3 c3)
            have ho3 := (HO3.out.far ⟨w.heap.size, 0, none⟩ (fun g' hA => by have := (HO3.out.ge hA).1; show g' ≠ w.heap.size; omega) (.int .i64 s')).far ⟨w.heap.size, 1, none⟩ (fun g' hA => by have := (HO3.out.ge hA).1; show g' ≠ w.heap.size; omega) (.slice A3 n3 c3)
            exact ⟨_, _, _, _, _, _, rfl, ho3.weaken (by omega), okB_mv Hv8.out, hr3, by omega, hg3⟩
        · have hbf : (f == 0) = false := by simpa using hf
          clear hf
          obtain ⟨v1, v2, v3, v4⟩ := (Bd.okB_iff s' cs).1 Hv.out
          have hlcs := Ho.out.1
          have Hns : Hid (((n : Nat) : Int) = s' * s') := Lib.hid (by rw [← v3, hlcs])
          clear v3 v4 hlcs
          have t0 := X6.out.cell0
          have t1 := X6.out.cell1
          have t2 := X6.out.lt
          go_upto_region 17 with (fail)
          go_region_with (first | (go_at_call 45; refine (r_pick B g (q + 2 + 1) _ _ (by exact Hr.out) (by omega)).mono ?_; rintro e yp ⟨kk, rfl, kk1, kk2, hr, hg⟩; have hgw : y7.grownBy yp (some g) := ⟨hg.os, hg.tape, hg.output, hg.size, hg.block⟩; have zp := hgw.size; have HX6 := Lib.hid (X6.out.grown hgw (fun e => by have := Option.some.inj e; omega)); have HX2 := Lib.hid (X2.out.grown hgw (fun e => by have := Option.some.inj e; omega)); have u0 := HX6.out.cell0; have u1 := HX6.out.cell1; have u2 := HX6.out.lt; have HO := Lib.hid (Ho.out.kept hgw (fun g' hA e => by have := (Ho.out.ge hA).1; have := Option.some.inj e; omega)); have HR := Lib.hid hr; have HG := Lib.hid (gtrans Hg.out hgw); have kk3 : kk < 8 := (by omega); clear hr hg hgw kk2) | (go_at_call 103; refine (s_transformBoard s' kk _ yp.heap.size _ _ _ cs (by exact HO.out.ints) ?_ v1 v2 Hns.out kk1 kk3).mono ?_; (show yp.heap.size ≤ yp.heap.size; omega); rintro e yt ⟨A3, n3, c3, rfl, ho, hb⟩; have hbw : Below yp.heap.size yp yt := ⟨hb.os, hb.tape, hb.output, hb.size, hb.block⟩; have HX2t := Lib.hid (HX2.out.below hbw HX2.out.lt); have u3 := (HX6.out.below hbw HX6.out.lt).cell0; have u4 := (HX6.out.below hbw HX6.out.lt).cell1; have r0 := HX2t.out.cell0; have r1 := HX2t.out.cell1; have r2 := HX2t.out.frozen 0; have r3 := HX2t.out.frozen 1; have r4 := HX2t.out.lt; have HO3 : Hid (Own yt yp.heap.size A3 n3 c3 (Bd.mv s' kk cs)) := Lib.hid ho; have HRt := Lib.hid (HR.out.below hbw HR.out.lt); have HGt := Lib.hid (gtrans HG.out (gbelow (some g) hbw (Nat.le_refl _))); clear ho hb hbw))
          all_goals go_wp2_with fail
          all_goals
            have k0 := (HX2t.out.set0 s').cell0
            have k1 := ((HX2t.out.set0 s').set1 (.slice A3 n3 c3)).cell1
            refine bodyPost_ret (v := .agg #[.int .i64 s', .slice A3 n3 c3]) (by simp [results, Tryd.results73, go_sem, k0, k1]) rfl ?_
            have hBg := HRt.out.1
            have hr3 := (HRt.out.far ⟨w.heap.size, 0, none⟩ (by show g ≠ w.heap.size; omega) (by show B ≤ w.heap.size; omega) (.int .i64 s')).far ⟨w.heap.size, 1, none⟩ (by show g ≠ w.heap.size; omega) (by show B ≤ w.heap.size; omega) (.slice A3 n3 c3)
            have hg3 := gset (gset HGt.out ⟨w.heap.size, 0, none⟩ (Nat.le_refl _) (.int .i64 s')) ⟨w.heap.size, 1, none⟩ (Nat.le_refl _) (.slice A3 n3 c3)
            have ho3 := (HO3.out.far ⟨w.heap.size, 0, none⟩ (fun g' hA => by have := (HO3.out.ge hA).1; show g' ≠ w.heap.size; omega) (.int .i64 s')).far ⟨w.heap.size, 1, none⟩ (fun g' hA => by have := (HO3.out.ge hA).1; show g' ≠ w.heap.size; omega) (.slice A3 n3 c3)
            exact ⟨_, _, _, _, _, _, rfl, ho3.weaken (by omega), okB_mv Hv.out, hr3, by omega, hg3⟩
    · have e1 : (x0 == 1) = false := by simpa using h1
      by_cases h2 : x0 = 2
      · subst h2
        clear k1 k2 h0 h1 e0 e1
        go_wp2_with fail
        refine (r_corners _).mono ?_
        rintro e y2 ⟨rfl, hN, hb⟩
        have X2 := Lib.hid (X2.out.below hb X2.out.lt)
        have Hg := Lib.hid (gtrans Hg.out (gbelow (some g) hb (Nat.le_refl _)))
        have Hrl := Hr.out.lt
        have Hr := Lib.hid (Hr.out.below hb Hr.out.lt)
        have HN := Lib.hid hN
        have z3 := hb.size
        clear hN hb
        have zy : y.heap.size < y2.heap.size := by
          obtain ⟨S, h1, _⟩ := HN.out 0 (by omega)
          exact World.block_lt_of_cell? _ _ h1
        go_wp2_with fail
        refine (r_pick B g (q + 1) _ _ Hr.out (by omega)).mono ?_
        rintro e y3 ⟨j, rfl, j1, j2, hr, hg⟩
        obtain ⟨j, rfl⟩ := Int.eq_ofNat_of_zero_le j1
        have hj9 : j < 9 := by omega
        obtain ⟨S, hS1, hS2⟩ := HN.out j hj9
        have hc := (World.cell?_of_block (w' := y3) (w := y2) (a := ⟨y.heap.size, j, none⟩) (hg.block y.heap.size zy (by intro e; have := Option.some.inj e; omega))).trans hS1
        have X2 := Lib.hid (X2.out.grown hg (fun e => by have := Option.some.inj e; omega))
        have Hg := Lib.hid (gtrans Hg.out hg)
        have Hr := Lib.hid hr
        have z4 := hg.size
        have hj9' : (j : Int) < 9 := by omega
        clear hr hg hS1 HN j2
        go_wp2_with fail
        refine (s_ParseBoard S _ (by omega)).mono ?_
        rintro e y4 ⟨s', A, n, c, cs, ok, rfl, hwhat, hb⟩
        have X2 := Lib.hid (X2.out.below hb X2.out.lt)
        have Hg := Lib.hid (gtrans Hg.out (gbelow (some g) hb (Nat.le_refl _)))
        have Hr := Lib.hid (Hr.out.below hb Hr.out.lt)
        have Hwhat := Lib.hid hwhat
        have z5 := hb.size
        clear hwhat hb hc
        go_upto_region 13 with (fail)
        obtain ⟨y5, hy5, hb5, z6, z7⟩ := new_box y4 (.cells #[.int .i64 s', .slice A n c] 25)
        have X6 : Hid (Bx 25 y5 y4.heap.size s' (.slice A n c)) := Lib.hid (by rw [hy5]; exact Bx.new _ _ _ _)
        rw [← hy5]
        clear hy5
        have X2 := Lib.hid (X2.out.below hb5 X2.out.lt)
        have Hr := Lib.hid (Hr.out.below hb5 Hr.out.lt)
        have Hg := Lib.hid (gtrans Hg.out (gbelow (some g) hb5 (Nat.le_refl _)))
        cases ok with
        | false =>
          clear hb5 Hwhat
          go_wp2_with fail
          refine (s_new 3 _).mono ?_
          rintro e y6 ⟨A6, n6, c6, rfl, ho, hb⟩
          have hs1 : newS 3 = 3 := rfl
          have hc1 : newCs 3 = List.replicate (3 * 3 : Int).toNat 0 := rfl
          rw [hc1] at ho
          rw [hs1]
          have X2 := Lib.hid (X2.out.below hb X2.out.lt)
          have Hg := Lib.hid (gtrans Hg.out (gbelow (some g) hb (Nat.le_refl _)))
          have Hr := Lib.hid (Hr.out.below hb Hr.out.lt)
          have Ho := Lib.hid ho
          clear ho hb hs1 hc1
          have K0 := Lib.hid ((X2.out.set0 3).cell0)
          have K1 := Lib.hid (((X2.out.set0 3).set1 (.slice A6 n6 c6)).cell1)
          have r0 := X2.out.cell0
          have r1 := X2.out.cell1
          have r2 := X2.out.frozen 0
          have r3 := X2.out.frozen 1
          have r4 := X2.out.lt
          have hBg := Hr.out.1
          have Hr3 := Lib.hid ((Hr.out.far ⟨w.heap.size, 0, none⟩ (by show g ≠ w.heap.size; omega) (by show B ≤ w.heap.size; omega) (.int .i64 3)).far ⟨w.heap.size, 1, none⟩ (by show g ≠ w.heap.size; omega) (by show B ≤ w.heap.size; omega) (.slice A6 n6 c6))
          have Hg3 := Lib.hid (gset (gset Hg.out ⟨w.heap.size, 0, none⟩ (Nat.le_refl _) (.int .i64 3)) ⟨w.heap.size, 1, none⟩ (Nat.le_refl _) (.slice A6 n6 c6))
          have Ho3 := Lib.hid ((Ho.out.far ⟨w.heap.size, 0, none⟩ (fun g' hA => by have := (Ho.out.ge hA).1; show g' ≠ w.heap.size; omega) (.int .i64 3)).far ⟨w.heap.size, 1, none⟩ (fun g' hA => by have := (Ho.out.ge hA).1; show g' ≠ w.heap.size; omega) (.slice A6 n6 c6))
          go_wp2_with fail
          have k0 := K0.out
          have k1 := K1.out
          refine bodyPost_ret (v := .agg #[.int .i64 3, .slice A6 n6 c6]) (by simp [results, Tryd.results73, go_sem, k0, k1]) rfl ?_
          exact ⟨_, _, _, _, _, _, rfl, Ho3.out.weaken (by omega), okB_new (by omega) (by omega), Hr3.out, by omega, Hg3.out⟩
        | true =>
          obtain ⟨ho, hv, _⟩ := Hwhat.out rfl
          have Ho := Lib.hid (ho.below hb5)
          have Hv := Lib.hid hv
          have Hra := Lib.hid (fun g' (hA : A = some ⟨g', 0, none⟩) => (ho.ge hA).2)
          clear Hwhat ho hv hb5
          go_wp2_with fail
          refine (r_pick B g (q + 2) _ _ Hr.out (by omega)).mono ?_
          rintro e y7 ⟨f, rfl, f1, f2, hr, hg⟩
          have X2 := Lib.hid (X2.out.grown hg (fun e => by have := Option.some.inj e; omega))
          have X6 := Lib.hid (X6.out.grown hg (fun e => by have := Option.some.inj e; omega))
          have Ho := Lib.hid (Ho.out.kept hg (fun g' hA e => by have := (Ho.out.ge hA).1; have := Option.some.inj e; omega))
          have Hg := Lib.hid (gtrans Hg.out hg)
          have Hr := Lib.hid hr
          have z8 := hg.size
          clear hr hg f2
          by_cases hf : f = 0
          · have hbf : (f == 0) = true := by simpa using hf
            clear hf
            have t0 := X6.out.cell0
            have t1 := X6.out.cell1
            have t2 := X6.out.lt
            go_wp2_with fail
            refine (s_invertBoard s' _ _ _ n c cs Ho.out.ints (Nat.le_refl _) (by have := Ho.out.1; obtain ⟨a1, a2, a3, _⟩ := (Bd.okB_iff s' cs).1 Hv.out; have := Pt.sq_bd s' a1 a2; omega) ((Bd.okB_iff s' cs).1 Hv.out).2.2.2).mono ?_
            rintro e y8 ⟨A8, n8, c8, rfl, ho8, hb⟩
            have X2 := Lib.hid (X2.out.below hb X2.out.lt)
            have X6 := Lib.hid (X6.out.below hb X6.out.lt)
            have Hg := Lib.hid (gtrans Hg.out (gbelow (some g) hb (Nat.le_refl _)))
            have Hr := Lib.hid (Hr.out.below hb Hr.out.lt)
            have Ho8 := Lib.hid ho8
            have Hv8 := Lib.hid (okB_oth Hv.out)
            have z9 := hb.size
            clear ho8 hb t0 t1 t2
            have t0 := X6.out.cell0
            have t1 := X6.out.cell1
            have t2 := X6.out.lt
            have t3 := X6.out.frozen 0
            have t4 := X6.out.frozen 1
            go_upto_region 17 with (fail)
            obtain ⟨y9, hy9⟩ : ∃ y9, y9 = (y8.setCell ⟨y4.heap.size, 0, none⟩ (.int .i64 s')).setCell ⟨y4.heap.size, 1, none⟩ (.slice A8 n8 c8) := ⟨_, rfl⟩
            have es : y9.heap.size = y8.heap.size := by rw [hy9]; simp [World.setCell]
            have hBg := Hr.out.1
            have hgl := Hr.out.lt
            have X2 : Hid (Bx 25 y9 w.heap.size 0 (.slice none 0 0)) := Lib.hid (by rw [hy9]; exact (X2.out.far (p := ⟨y4.heap.size, 0, none⟩) (by show w.heap.size ≠ y4.heap.size; omega) (.int .i64 s')).far (p := ⟨y4.heap.size, 1, none⟩) (by show w.heap.size ≠ y4.heap.size; omega) (.slice A8 n8 c8))
            have X6 : Hid (Bx 25 y9 y4.heap.size s' (.slice A8 n8 c8)) := Lib.hid (by rw [hy9]; exact (X6.out.set0 s').set1 (.slice A8 n8 c8))
            have Ho8 : Hid (Own y9 y7.heap.size A8 n8 c8 (othCs cs)) := Lib.hid (by rw [hy9]; exact (Ho8.out.far ⟨y4.heap.size, 0, none⟩ (fun g' hA => by have := (Ho8.out.ge hA).1; show g' ≠ y4.heap.size; omega) (.int .i64 s')).far ⟨y4.heap.size, 1, none⟩ (fun g' hA => by have := (Ho8.out.ge hA).1; show g' ≠ y4.heap.size; omega) (.slice A8 n8 c8))
            have Hr : Hid (Rdr y9 B g (q + 2 + 1)) := Lib.hid (by rw [hy9]; exact (Hr.out.far ⟨y4.heap.size, 0, none⟩ (by show g ≠ y4.heap.size; omega) (by show B ≤ y4.heap.size; omega) (.int .i64 s')).far ⟨y4.heap.size, 1, none⟩ (by show g ≠ y4.heap.size; omega) (by show B ≤ y4.heap.size; omega) (.slice A8 n8 c8))
            have Hg : Hid (w.grownBy y9 (some g)) := Lib.hid (by rw [hy9]; exact gset (gset Hg.out ⟨y4.heap.size, 0, none⟩ (by show w.heap.size ≤ y4.heap.size; omega) (.int .i64 s')) ⟨y4.heap.size, 1, none⟩ (by show w.heap.size ≤ y4.heap.size; omega) (.slice A8 n8 c8))
            rw [← hy9]
            clear hy9 t0 t1 t2 t3 t4
            obtain ⟨v1, v2, v3, v4⟩ := (Bd.okB_iff s' (othCs cs)).1 Hv8.out
            have hlcs := Ho8.out.1
            have Hns : Hid (((n8 : Nat) : Int) = s' * s') := Lib.hid (by rw [← v3, hlcs])
            clear v3 v4 hlcs
            have t0 := X6.out.cell0
            have t1 := X6.out.cell1
            have t2 := X6.out.lt
            go_upto_region 17 with (fail)
            go_region_with (first | (go_at_call 45; refine (r_pick B g (q + 2 + 1) _ _ (by exact Hr.out) (by omega)).mono ?_; rintro e yp ⟨kk, rfl, kk1, kk2, hr, hg⟩; have hgw : y9.grownBy yp (some g) := ⟨hg.os, hg.tape, hg.output, hg.size, hg.block⟩; have zp := hgw.size; have HX6 := Lib.hid (X6.out.grown hgw (fun e => by have := Option.some.inj e; omega)); have HX2 := Lib.hid (X2.out.grown hgw (fun e => by have := Option.some.inj e; omega)); have u0 := HX6.out.cell0; have u1 := HX6.out.cell1; have u2 := HX6.out.lt; have HO := Lib.hid (Ho8.out.kept hgw (fun g' hA e => by have := (Ho8.out.ge hA).1; have := Option.some.inj e; omega)); have HR := Lib.hid hr; have HG := Lib.hid (gtrans Hg.out hgw); have kk3 : kk < 8 := (by omega); clear hr hg hgw kk2) | (go_at_call 103; refine (s_transformBoard s' kk _ yp.heap.size _ _ _ (othCs cs) (by exact HO.out.ints) ?_ v1 v2 Hns.out kk1 kk3).mono ?_; (show yp.heap.size ≤ yp.heap.size; omega); rintro e yt ⟨A3, n3, c3, rfl, ho, hb⟩; have hbw : Below yp.heap.size yp yt := ⟨hb.os, hb.tape, hb.output, hb.size, hb.block⟩; have HX2t := Lib.hid (HX2.out.below hbw HX2.out.lt); have u3 := (HX6.out.below hbw HX6.out.lt).cell0; have u4 := (HX6.out.below hbw HX6.out.lt).cell1; have r0 := HX2t.out.cell0; have r1 := HX2t.out.cell1; have r2 := HX2t.out.frozen 0; have r3 := HX2t.out.frozen 1; have r4 := HX2t.out.lt; have HO3 : Hid (Own yt yp.heap.size A3 n3 c3 (Bd.mv s' kk (othCs cs))) := Lib.hid ho; have HRt := Lib.hid (HR.out.below hbw HR.out.lt); have HGt := Lib.hid (gtrans HG.out (gbelow (some g) hbw (Nat.le_refl _))); clear ho hb hbw))
            all_goals go_wp2_with fail
            all_goals
              have k0 := (HX2t.out.set0 s').cell0
              have k1 := ((HX2t.out.set0 s').set1 (.slice A3 n3 c3)).cell1
              refine bodyPost_ret (v := .agg #[.int .i64 s', .slice A3 n3 c3]) (by simp [results, Tryd.results73, go_sem, k0, k1]) rfl ?_
              have hBg := HRt.out.1
              have hr3 := (HRt.out.far ⟨w.heap.size, 0, none⟩ (by show g ≠ w.heap.size; omega) (by show B ≤ w.heap.size; omega) (.int .i64 s')).far ⟨w.heap.size, 1, none⟩ (by show g ≠ w.heap.size; omega) (by show B ≤ w.heap.size; omega) (.slice A3 n3 c3)
              have hg3 := gset (gset HGt.out ⟨w.heap.size, 0, none⟩ (Nat.le_refl _) (.int .i64 s')) ⟨w.heap.size, 1, none⟩ (Nat.le_refl _) (.slice A3 n3 c3)
              have ho3 := (HO3.out.far ⟨w.heap.size, 0, none⟩ (fun g' hA => by have := (HO3.out.ge hA).1; show g' ≠ w.heap.size; omega) (.int .i64 s')).far ⟨w.heap.size, 1, none⟩ (fun g' hA => by have := (HO3.out.ge hA).1; show g' ≠ w.heap.size; omega) (.slice A3 n3 c3)
              exact ⟨_, _, _, _, _, _, rfl, ho3.weaken (by omega), okB_mv Hv8.out, hr3, by omega, hg3⟩
          · have hbf : (f == 0) = false := by simpa using hf
            clear hf
            obtain ⟨v1, v2, v3, v4⟩ := (Bd.okB_iff s' cs).1 Hv.out
            have hlcs := Ho.out.1
            have Hns : Hid (((n : Nat) : Int) = s' * s') := Lib.hid (by rw [← v3, hlcs])
            clear v3 v4 hlcs
            have t0 := X6.out.cell0
            have t1 := X6.out.cell1
            have t2 := X6.out.lt
            go_upto_region 17 with (fail)
            go_region_with (first | (go_at_call 45; refine (r_pick B g (q + 2 + 1) _ _ (by exact Hr.out) (by omega)).mono ?_; rintro e yp ⟨kk, rfl, kk1, kk2, hr, hg⟩; have hgw : y7.grownBy yp (some g) := ⟨hg.os, hg.tape, hg.output, hg.size, hg.block⟩; have zp := hgw.size; have HX6 := Lib.hid (X6.out.grown hgw (fun e => by have := Option.some.inj e; omega)); have HX2 := Lib.hid (X2.out.grown hgw (fun e => by have := Option.some.inj e; omega)); have u0 := HX6.out.cell0; have u1 := HX6.out.cell1; have u2 := HX6.out.lt; have HO := Lib.hid (Ho.out.kept hgw (fun g' hA e => by have := (Ho.out.ge hA).1; have := Option.some.inj e; omega)); have HR := Lib.hid hr; have HG := Lib.hid (gtrans Hg.out hgw); have kk3 : kk < 8 := (by omega); clear hr hg hgw kk2) | (go_at_call 103; refine (s_transformBoard s' kk _ yp.heap.size _ _ _ cs (by exact HO.out.ints) ?_ v1 v2 Hns.out kk1 kk3).mono ?_; (show yp.heap.size ≤ yp.heap.size; omega); rintro e yt ⟨A3, n3, c3, rfl, ho, hb⟩; have hbw : Below yp.heap.size yp yt := ⟨hb.os, hb.tape, hb.output, hb.size, hb.block⟩; have HX2t := Lib.hid (HX2.out.below hbw HX2.out.lt); have u3 := (HX6.out.below hbw HX6.out.lt).cell0; have u4 := (HX6.out.below hbw HX6.out.lt).cell1; have r0 := HX2t.out.cell0; have r1 := HX2t.out.cell1; have r2 := HX2t.out.frozen 0; have r3 := HX2t.out.frozen 1; have r4 := HX2t.out.lt; have HO3 : Hid (Own yt yp.heap.size A3 n3 c3 (Bd.mv s' kk cs)) := Lib.hid ho; have HRt := Lib.hid (HR.out.below hbw HR.out.lt); have HGt := Lib.hid (gtrans HG.out (gbelow (some g) hbw (Nat.le_refl _))); clear ho hb hbw))
            all_goals go_wp2_with fail
            all_goals
              have k0 := (HX2t.out.set0 s').cell0
              have k1 := ((HX2t.out.set0 s').set1 (.slice A3 n3 c3)).cell1
              refine bodyPost_ret (v := .agg #[.int .i64 s', .slice A3 n3 c3]) (by simp [results, Tryd.results73, go_sem, k0, k1]) rfl ?_
              have hBg := HRt.out.1
              have hr3 := (HRt.out.far ⟨w.heap.size, 0, none⟩ (by show g ≠ w.heap.size; omega) (by show B ≤ w.heap.size; omega) (.int .i64 s')).far ⟨w.heap.size, 1, none⟩ (by show g ≠ w.heap.size; omega) (by show B ≤ w.heap.size; omega) (.slice A3 n3 c3)
              have hg3 := gset (gset HGt.out ⟨w.heap.size, 0, none⟩ (Nat.le_refl _) (.int .i64 s')) ⟨w.heap.size, 1, none⟩ (Nat.le_refl _) (.slice A3 n3 c3)
              have ho3 := (HO3.out.far ⟨w.heap.size, 0, none⟩ (fun g' hA => by have := (HO3.out.ge hA).1; show g' ≠ w.heap.size; omega) (.int .i64 s')).far ⟨w.heap.size, 1, none⟩ (fun g' hA => by have := (HO3.out.ge hA).1; show g' ≠ w.heap.size; omega) (.slice A3 n3 c3)
              exact ⟨_, _, _, _, _, _, rfl, ho3.weaken (by omega), okB_mv Hv.out, hr3, by omega, hg3⟩
      · have e2 : (x0 == 2) = false := by simpa using h2
        clear h0 h1 h2
        go_wp2_with fail
        refine (r_smallSize B g (q + 1) _ Hr.out (by omega)).mono ?_
        rintro e y2 ⟨s, rfl, ⟨s1, s2⟩, hr, hg⟩
        have X2 := Lib.hid (X2.out.grown hg (fun e => by have := Option.some.inj e; omega))
        have Hg := Lib.hid (gtrans Hg.out hg)
        have Hr := Lib.hid hr
        have z3 := X2.out.lt
        clear hr hg
        go_wp2_with fail
        refine (r_played s B g (q + 1 + 1) _ Hr.out (by omega) s1 s2).mono ?_
        rintro e y3 ⟨s', A, n, c, cs, q', rfl, ho, hv, hr, hq', hg⟩
        have X2 := Lib.hid (X2.out.grown hg (fun e => by have := Option.some.inj e; omega))
        have Hg := Lib.hid (gtrans Hg.out hg)
        have Hr := Lib.hid hr
        have Ho := Lib.hid ho
        have Hv := Lib.hid hv
        have z4 := X2.out.lt
        clear hr hg ho hv
        have K0 := Lib.hid ((X2.out.set0 s').cell0)
        have K1 := Lib.hid (((X2.out.set0 s').set1 (.slice A n c)).cell1)
        have r0 := X2.out.cell0
        have r1 := X2.out.cell1
        have r2 := X2.out.frozen 0
        have r3 := X2.out.frozen 1
        have r4 := X2.out.lt
        have hBg := Hr.out.1
        have Hr3 := Lib.hid ((Hr.out.far ⟨w.heap.size, 0, none⟩ (by show g ≠ w.heap.size; omega) (by show B ≤ w.heap.size; omega) (.int .i64 s')).far ⟨w.heap.size, 1, none⟩ (by show g ≠ w.heap.size; omega) (by show B ≤ w.heap.size; omega) (.slice A n c))
        have Hg3 := Lib.hid (gset (gset Hg.out ⟨w.heap.size, 0, none⟩ (Nat.le_refl _) (.int .i64 s')) ⟨w.heap.size, 1, none⟩ (Nat.le_refl _) (.slice A n c))
        have Ho3 := Lib.hid ((Ho.out.far ⟨w.heap.size, 0, none⟩ (fun g' hA => by have := (Ho.out.ge hA).1; show g' ≠ w.heap.size; omega) (.int .i64 s')).far ⟨w.heap.size, 1, none⟩ (fun g' hA => by have := (Ho.out.ge hA).1; show g' ≠ w.heap.size; omega) (.slice A n c))
        go_wp2_with fail
        have k0 := K0.out
        have k1 := K1.out
        refine bodyPost_ret (v := .agg #[.int .i64 s', .slice A n c]) (by simp [results, Tryd.results73, go_sem, k0, k1]) rfl ?_
        exact ⟨_, _, _, _, _, _, rfl, Ho3.out.weaken (by omega), Hv.out, Hr3.out, by omega, Hg3.out⟩
end Go.Proofs.YtpogjegihhljpaaDoor

namespace Go.Proofs.YtpogjegihhljpaaDoor
set_option maxRecDepth 100000
open Go.RowKit

/-- The slice at A of n elements reads as the ints xs, and its memory lies from block lo on. -/
def IntsF (w : World) (lo : Nat) (A : Option Addr) (n : Nat) (xs : List Int) : Prop :=
  xs.length = n ∧ (n = 0 ∨ ∃ b o, A = some ⟨b, o, none⟩ ∧ lo ≤ b ∧ b < w.heap.size ∧ ∀ j, j < n → w.cell? ⟨b, o + j, none⟩ = some (.int .i64 (xs.getD j 0)))
theorem IntsF.ints {w : World} {lo n : Nat} {A : Option Addr} {xs : List Int} (h : IntsF w lo A n xs) : Ints w w.heap.size A n xs := by
  refine ⟨h.1, ?_⟩
  rcases h.2 with h | ⟨b, o, hA, _, hb, hc⟩
  · exact .inl h
  · exact .inr ⟨b, o, hA, hb, hc⟩
theorem IntsF.of {w : World} {lo n c : Nat} {A : Option Addr} {xs : List Int} (h : Own w lo A n c xs) : IntsF w lo A n xs := by
  refine ⟨h.1, ?_⟩
  rcases h.ints.2 with h0 | ⟨b, o, hA, hb, hc⟩
  · exact .inl h0
  · by_cases hn : n = 0
    · exact .inl hn
    · obtain ⟨g, cap, hv, hg, hlt⟩ := World.ownsRow.form h.2 (by omega)
      have hA2 : A = some ⟨g, 0, none⟩ := by injection hv
      have : b = g := by rw [hA] at hA2; injection hA2 with e; injection e
      exact .inr ⟨b, o, hA, by omega, hb, hc⟩
theorem IntsF.weaken {w : World} {lo lo' n : Nat} {A : Option Addr} {xs : List Int} (h : IntsF w lo A n xs) (hl : lo' ≤ lo) : IntsF w lo' A n xs := by
  refine ⟨h.1, ?_⟩
  rcases h.2 with h | ⟨b, o, hA, h1, h2, hc⟩
  · exact .inl h
  · exact .inr ⟨b, o, hA, by omega, h2, hc⟩
theorem IntsF.far {w : World} {lo n : Nat} {A : Option Addr} {xs : List Int} (h : IntsF w lo A n xs) (p : Addr) (hp : p.block < lo) (u : Value) : IntsF (w.setCell p u) lo A n xs := by
  refine ⟨h.1, ?_⟩
  rcases h.2 with h | ⟨b, o, hA, h1, h2, hc⟩
  · exact .inl h
  · exact .inr ⟨b, o, hA, h1, by simpa [World.setCell] using h2, fun j hj => (World.cell?_of_block (w' := w.setCell p u) (w := w) (a := ⟨b, o + j, none⟩) (Below.heap_setCell w p u b (by omega))).trans (hc j hj)⟩
theorem IntsF.grown {w w' : World} {lo n g : Nat} {A : Option Addr} {xs : List Int} (h : IntsF w lo A n xs) (hg : w.grownBy w' (some g)) (hl : g < lo) : IntsF w' lo A n xs := by
  refine ⟨h.1, ?_⟩
  rcases h.2 with h | ⟨b, o, hA, h1, h2, hc⟩
  · exact .inl h
  · exact .inr ⟨b, o, hA, h1, Nat.lt_of_lt_of_le h2 hg.size, fun j hj => (World.cell?_of_block (w' := w') (w := w) (a := ⟨b, o + j, none⟩) (hg.block b h2 (fun e => by have := Option.some.inj e; omega))).trans (hc j hj)⟩
theorem IntsF.below {w w' : World} {lo n : Nat} {A : Option Addr} {xs : List Int} (h : IntsF w lo A n xs) (hb : Below w.heap.size w w') : IntsF w' lo A n xs := by
  refine ⟨h.1, ?_⟩
  rcases h.2 with h | ⟨b, o, hA, h1, h2, hc⟩
  · exact .inl h
  · exact .inr ⟨b, o, hA, h1, Nat.lt_of_lt_of_le h2 hb.size, fun j hj => (World.cell?_of_block (w' := w') (w := w) (a := ⟨b, o + j, none⟩) (hb.block b h2)).trans (hc j hj)⟩
theorem IntsF.tail {w : World} {lo n b o : Nat} {xs : List Int} (h : IntsF w lo (some ⟨b, o, none⟩) (n + 1) xs) : IntsF w lo (some ⟨b, o + 1, none⟩) n xs.tail := by
  refine ⟨by rw [List.length_tail, h.1]; rfl, ?_⟩
  rcases h.2 with h0 | ⟨b', o', hA, h1, h2, hc⟩
  · omega
  · injection hA with hA
    injection hA with e1 e2
    subst e1; subst e2
    refine .inr ⟨b, o + 1, rfl, h1, h2, fun j hj => ?_⟩
    have := hc (j + 1) (by omega)
    rw [show o + 1 + j = o + (j + 1) by omega, this]
    cases xs <;> simp [List.getD_eq_getElem?_getD]

theorem Own.cap_le {w : World} {B n c : Nat} {A : Option Addr} {xs : List Int} (h : Own w B A n c xs) : n ≤ c := by
  rcases h.2.2 with ⟨e, _⟩ | ⟨g, cap, cur, e, _, _, h, _⟩
  · injection e with _ e1 e2; omega
  · injection e with _ _ e2; omega

/-- A board that a draw made: of any size from 0 to 8, any cells, at most 49. -/
def DrawnA (w : World) (B g lo q : Nat) (e : Ending) (w' : World) : Prop :=
  ∃ (s : Int) (A : Option Addr) (n c : Nat) (cs : List Int) (q' : Nat), e = .returned (.agg #[.int .i64 s, .slice A n c]) ∧ IntsF w' lo A n cs ∧ n ≤ 49 ∧ 0 ≤ s ∧ s ≤ 8 ∧ Rdr w' B g q' ∧ q' ≤ q ∧ w.grownBy w' (some g)

set_option maxRecDepth 100000 in
set_option maxHeartbeats 8000000 in
theorem r_any (B g q : Nat) (w : World) (h : Rdr w B g q) (hq : q ≤ 1000000000) :
    Calls Tryd.prog 42 #[.pointer (some ⟨g, 0, none⟩)] w fun e w' => DrawnA w B g w.heap.size (q + 202) e w' := by
  have hlt := h.lt
  have hb1 : Below w.heap.size w (w.alloc (.cells #[.int .i64 0, .slice none 0 0] 25)) := (Below.refl _ _).alloc (Nat.le_refl _) _
  have X2 := Lib.hid (Bx.new 25 w 0 (.slice none 0 0))
  have Hr := Lib.hid (h.below hb1 hlt)
  have Hb := Lib.hid hb1
  have hsz : (w.alloc (.cells #[.int .i64 0, .slice none 0 0] 25)).heap.size = w.heap.size + 1 := by simp
  have Hsz := Lib.hid hsz
  clear h hb1 hsz
  go_enter Tryd.func42, Tryd.ntmps42
  go_wp2_with fail
  refine (r_random B g q _ Hr.out (by omega)).mono ?_
  rintro e y ⟨s, A, n, c, cs, q1, rfl, ho, hv, hr, hq1, hg⟩
  rw [Hsz.out] at ho
  have X2 := Lib.hid (X2.out.grown hg (fun e => by have := Option.some.inj e; omega))
  have Hg := Lib.hid (gtrans (gbelow (some g) Hb.out (Nat.le_refl _)) hg)
  have Hr := Lib.hid hr
  obtain ⟨s1, s2, hsn, _⟩ := (Bd.okB_iff s cs).1 hv
  have hsq := Pt.sq_bd s s1 s2
  have hl := ho.1
  have hn49 : n ≤ 49 := by omega
  have hn1 : 1 ≤ n := by omega
  have z2 := X2.out.lt
  obtain ⟨ga, cap, hvv, _⟩ := World.ownsRow.form ho.2 (by omega)
  have hA : A = some ⟨ga, 0, none⟩ := by injection hvv
  subst hA
  have hga := ho.ge rfl
  have Ho := Lib.hid ho
  have hcap : n ≤ c := ho.cap_le
  clear hr hg hsn hl hv ho Hb hvv
  go_upto_region 2 with (fail)
  obtain ⟨y3, hy3, hb3, z3, z4⟩ := new_box y (.cells #[.int .i64 s, .slice (some ⟨ga, 0, none⟩) n c] 25)
  have X3 : Hid (Bx 25 y3 y.heap.size s (.slice (some ⟨ga, 0, none⟩) n c)) := Lib.hid (by rw [hy3]; exact Bx.new _ _ _ _)
  rw [← hy3]
  clear hy3
  have X2 := Lib.hid (X2.out.below hb3 X2.out.lt)
  have Hr := Lib.hid (Hr.out.below hb3 Hr.out.lt)
  have Ho := Lib.hid (Ho.out.below hb3)
  have Hg := Lib.hid (gtrans Hg.out (gbelow (some g) hb3 (Nat.le_refl _)))
  clear hb3
  go_wp2_with fail
  refine (r_pick B g q1 _ _ Hr.out (by omega)).mono ?_
  rintro e y4 ⟨x0, rfl, k1, k2, hr, hg⟩
  have X2 := Lib.hid (X2.out.grown hg (fun e => by have := Option.some.inj e; omega))
  have X3 := Lib.hid (X3.out.grown hg (fun e => by have := Option.some.inj e; omega))
  have Ho := Lib.hid (Ho.out.kept hg (fun g' hA e => by have := (Ho.out.ge hA).1; have := Option.some.inj e; omega))
  have Hg := Lib.hid (gtrans Hg.out hg)
  have Hr := Lib.hid hr
  have z5 := X3.out.lt
  clear hr hg
  by_cases h0 : x0 = 0
  · subst h0
    clear k1 k2
    have t0 := X3.out.cell0
    have t1 := X3.out.cell1
    have t2 := X3.out.lt
    have hlt4 := Hr.out.lt
    go_wp2_with fail
    have hl := Ints.lit y4 3 [0, 8, s + 1]
    refine (r_one B g (q1 + 1) _ _ [0, 8, s + 1] _ _ (Hr.out.below ((Below.refl _ _).alloc (Nat.le_refl _) _) Hr.out.lt) (by omega) hl (by simp) (by simp) (by simp) (by rintro b o e; injection e with e; injection e; omega)).mono ?_
    rintro e y5 ⟨x, rfl, hx, hr, hg⟩
    have hx8 : 0 ≤ x ∧ x ≤ 8 := by simp at hx; omega
    have hg5 := gtrans (World.grownBy_alloc y4 _ (some g)) hg
    have X2 := Lib.hid (X2.out.grown hg5 (fun e => by have := Option.some.inj e; omega))
    have X3 := Lib.hid (X3.out.grown hg5 (fun e => by have := Option.some.inj e; omega))
    have Ho := Lib.hid (Ho.out.kept hg5 (fun g' hA e => by have := (Ho.out.ge hA).1; have := Option.some.inj e; omega))
    have Hg := Lib.hid (gtrans Hg.out hg5)
    have Hr := Lib.hid hr
    clear hl hx hg hg5 hr t0 t1 t2
    have t0 := X3.out.cell0
    have t1 := X3.out.cell1
    have t2 := X3.out.lt
    have t3 := X3.out.frozen 0
    go_upto_region 9 with (fail)
    obtain ⟨y6, hy6⟩ : ∃ y6, y6 = y5.setCell ⟨y.heap.size, 0, none⟩ (.int .i64 x) := ⟨_, rfl⟩
    have hBg := Hr.out.1
    have X2 : Hid (Bx 25 y6 w.heap.size 0 (.slice none 0 0)) := Lib.hid (by rw [hy6]; exact X2.out.far (p := ⟨y.heap.size, 0, none⟩) (by show w.heap.size ≠ y.heap.size; omega) _)
    have X3 : Hid (Bx 25 y6 y.heap.size x (.slice (some ⟨ga, 0, none⟩) n c)) := Lib.hid (by rw [hy6]; exact X3.out.set0 x)
    have Ho : Hid (Own y6 (w.heap.size + 1) (some ⟨ga, 0, none⟩) n c cs) := Lib.hid (by rw [hy6]; exact Ho.out.far ⟨y.heap.size, 0, none⟩ (fun g' hA => by injection hA with hA; injection hA; show g' ≠ y.heap.size; omega) _)
    have Hr : Hid (Rdr y6 B g (q1 + 1 + 1)) := Lib.hid (by rw [hy6]; exact Hr.out.far ⟨y.heap.size, 0, none⟩ (by show g ≠ y.heap.size; omega) (by show B ≤ y.heap.size; omega) _)
    have Hg : Hid (w.grownBy y6 (some g)) := Lib.hid (by rw [hy6]; exact gset Hg.out ⟨y.heap.size, 0, none⟩ (by show w.heap.size ≤ y.heap.size; omega) _)
    rw [← hy6]
    clear hy6 t0 t1 t2 t3
    have Hi := Lib.hid (IntsF.of Ho.out)
    have K0 := Lib.hid ((X2.out.set0 x).cell0)
    have K1 := Lib.hid (((X2.out.set0 x).set1 (.slice (some ⟨ga, 0, none⟩) n c)).cell1)
    have t0 := X3.out.cell0
    have t1 := X3.out.cell1
    have t2 := X3.out.lt
    have r0 := X2.out.cell0
    have r1 := X2.out.cell1
    have r2 := X2.out.frozen 0
    have r3 := X2.out.frozen 1
    have r4 := X2.out.lt
    have hBg := Hr.out.1
    have Hr3 := Lib.hid ((Hr.out.far ⟨w.heap.size, 0, none⟩ (by show g ≠ w.heap.size; omega) (by show B ≤ w.heap.size; omega) (.int .i64 x)).far ⟨w.heap.size, 1, none⟩ (by show g ≠ w.heap.size; omega) (by show B ≤ w.heap.size; omega) (.slice (some ⟨ga, 0, none⟩) n c))
    have Hg3 := Lib.hid (gset (gset Hg.out ⟨w.heap.size, 0, none⟩ (Nat.le_refl _) (.int .i64 x)) ⟨w.heap.size, 1, none⟩ (Nat.le_refl _) (.slice (some ⟨ga, 0, none⟩) n c))
    have Hi3 := Lib.hid ((Hi.out.far ⟨w.heap.size, 0, none⟩ (Nat.lt_succ_self _) (.int .i64 x)).far ⟨w.heap.size, 1, none⟩ (Nat.lt_succ_self _) (.slice (some ⟨ga, 0, none⟩) n c))
    go_wp2_with fail
    have k0 := K0.out
    have k1 := K1.out
    refine bodyPost_ret (v := .agg #[.int .i64 x, .slice (some ⟨ga, 0, none⟩) n c]) (by simp [results, Tryd.results42, go_sem, k0, k1]) rfl ?_
    exact ⟨_, _, _, _, _, _, rfl, Hi3.out.weaken (by omega), by omega, by omega, by omega, Hr3.out, by omega, Hg3.out⟩
  · have e0 : (x0 == 0) = false := by simpa using h0
    by_cases h1 : x0 = 1
    · subst h1
      clear k1 k2 h0 e0
      obtain ⟨m, rfl⟩ : ∃ m, n = m + 1 := ⟨n - 1, by omega⟩
      obtain ⟨d, rfl⟩ : ∃ d, c = d + 1 := ⟨c - 1, by omega⟩
      have t0 := X3.out.cell0
      have t1 := X3.out.cell1
      have t2 := X3.out.lt
      have t3 := X3.out.frozen 1
      by_cases hd : d = 0
      · subst hd
        obtain rfl : m = 0 := by omega
        go_upto_region 9 with (fail)
        obtain ⟨y6, hy6⟩ : ∃ y6, y6 = y4.setCell ⟨y.heap.size, 1, none⟩ (.slice (some ⟨ga, 0, none⟩) 0 0) := ⟨_, rfl⟩
        have hBg := Hr.out.1
        have hgl := Hr.out.lt
        have X2 : Hid (Bx 25 y6 w.heap.size 0 (.slice none 0 0)) := Lib.hid (by rw [hy6]; exact X2.out.far (p := ⟨y.heap.size, 1, none⟩) (by show w.heap.size ≠ y.heap.size; omega) _)
        have X3 : Hid (Bx 25 y6 y.heap.size s (.slice (some ⟨ga, 0, none⟩) 0 0)) := Lib.hid (by rw [hy6]; exact X3.out.set1 _)
        have Ho : Hid (Own y6 (w.heap.size + 1) (some ⟨ga, 0, none⟩) (0 + 1) (0 + 1) cs) := Lib.hid (by rw [hy6]; exact Ho.out.far ⟨y.heap.size, 1, none⟩ (fun g' hA => by injection hA with hA; injection hA; show g' ≠ y.heap.size; omega) _)
        have Hr : Hid (Rdr y6 B g (q1 + 1)) := Lib.hid (by rw [hy6]; exact Hr.out.far ⟨y.heap.size, 1, none⟩ (by show g ≠ y.heap.size; omega) (by show B ≤ y.heap.size; omega) _)
        have Hg : Hid (w.grownBy y6 (some g)) := Lib.hid (by rw [hy6]; exact gset Hg.out ⟨y.heap.size, 1, none⟩ (by show w.heap.size ≤ y.heap.size; omega) _)
        rw [← hy6]
        clear hy6 t0 t1 t2 t3
        have Hi : Hid (IntsF y6 (w.heap.size + 1) (some ⟨ga, 0, none⟩) 0 []) := Lib.hid ⟨rfl, .inl rfl⟩
        have K0 := Lib.hid ((X2.out.set0 s).cell0)
        have K1 := Lib.hid (((X2.out.set0 s).set1 (.slice (some ⟨ga, 0, none⟩) 0 0)).cell1)
        have t0 := X3.out.cell0
        have t1 := X3.out.cell1
        have t2 := X3.out.lt
        have r0 := X2.out.cell0
        have r1 := X2.out.cell1
        have r2 := X2.out.frozen 0
        have r3 := X2.out.frozen 1
        have r4 := X2.out.lt
        have hBg := Hr.out.1
        have Hr3 := Lib.hid ((Hr.out.far ⟨w.heap.size, 0, none⟩ (by show g ≠ w.heap.size; omega) (by show B ≤ w.heap.size; omega) (.int .i64 s)).far ⟨w.heap.size, 1, none⟩ (by show g ≠ w.heap.size; omega) (by show B ≤ w.heap.size; omega) (.slice (some ⟨ga, 0, none⟩) 0 0))
        have Hg3 := Lib.hid (gset (gset Hg.out ⟨w.heap.size, 0, none⟩ (Nat.le_refl _) (.int .i64 s)) ⟨w.heap.size, 1, none⟩ (Nat.le_refl _) (.slice (some ⟨ga, 0, none⟩) 0 0))
        have Hi3 := Lib.hid ((Hi.out.far ⟨w.heap.size, 0, none⟩ (Nat.lt_succ_self _) (.int .i64 s)).far ⟨w.heap.size, 1, none⟩ (Nat.lt_succ_self _) (.slice (some ⟨ga, 0, none⟩) 0 0))
        go_wp2_with fail
        have k0 := K0.out
        have k1 := K1.out
        refine bodyPost_ret (v := .agg #[.int .i64 s, .slice (some ⟨ga, 0, none⟩) 0 0]) (by simp [results, Tryd.results42, go_sem, k0, k1]) rfl ?_
        exact ⟨_, _, _, _, _, _, rfl, Hi3.out.weaken (by omega), by omega, by omega, by omega, Hr3.out, by omega, Hg3.out⟩
      · have hd' : ¬ (d + 1 = 1) := by omega
        go_upto_region 9 with (fail)
        obtain ⟨y6, hy6⟩ : ∃ y6, y6 = y4.setCell ⟨y.heap.size, 1, none⟩ (.slice (some ⟨ga, 1, none⟩) m d) := ⟨_, rfl⟩
        have hBg := Hr.out.1
        have hgl := Hr.out.lt
        have X2 : Hid (Bx 25 y6 w.heap.size 0 (.slice none 0 0)) := Lib.hid (by rw [hy6]; exact X2.out.far (p := ⟨y.heap.size, 1, none⟩) (by show w.heap.size ≠ y.heap.size; omega) _)
        have X3 : Hid (Bx 25 y6 y.heap.size s (.slice (some ⟨ga, 1, none⟩) m d)) := Lib.hid (by rw [hy6]; exact X3.out.set1 _)
        have Ho : Hid (Own y6 (w.heap.size + 1) (some ⟨ga, 0, none⟩) (m + 1) (d + 1) cs) := Lib.hid (by rw [hy6]; exact Ho.out.far ⟨y.heap.size, 1, none⟩ (fun g' hA => by injection hA with hA; injection hA; show g' ≠ y.heap.size; omega) _)
        have Hr : Hid (Rdr y6 B g (q1 + 1)) := Lib.hid (by rw [hy6]; exact Hr.out.far ⟨y.heap.size, 1, none⟩ (by show g ≠ y.heap.size; omega) (by show B ≤ y.heap.size; omega) _)
        have Hg : Hid (w.grownBy y6 (some g)) := Lib.hid (by rw [hy6]; exact gset Hg.out ⟨y.heap.size, 1, none⟩ (by show w.heap.size ≤ y.heap.size; omega) _)
        rw [← hy6]
        clear hy6 t0 t1 t2 t3
        have Hi := Lib.hid (IntsF.tail (IntsF.of Ho.out))
        have K0 := Lib.hid ((X2.out.set0 s).cell0)
        have K1 := Lib.hid (((X2.out.set0 s).set1 (.slice (some ⟨ga, 1, none⟩) m d)).cell1)
        have t0 := X3.out.cell0
        have t1 := X3.out.cell1
        have t2 := X3.out.lt
        have r0 := X2.out.cell0
        have r1 := X2.out.cell1
        have r2 := X2.out.frozen 0
        have r3 := X2.out.frozen 1
        have r4 := X2.out.lt
        have hBg := Hr.out.1
        have Hr3 := Lib.hid ((Hr.out.far ⟨w.heap.size, 0, none⟩ (by show g ≠ w.heap.size; omega) (by show B ≤ w.heap.size; omega) (.int .i64 s)).far ⟨w.heap.size, 1, none⟩ (by show g ≠ w.heap.size; omega) (by show B ≤ w.heap.size; omega) (.slice (some ⟨ga, 1, none⟩) m d))
        have Hg3 := Lib.hid (gset (gset Hg.out ⟨w.heap.size, 0, none⟩ (Nat.le_refl _) (.int .i64 s)) ⟨w.heap.size, 1, none⟩ (Nat.le_refl _) (.slice (some ⟨ga, 1, none⟩) m d))
        have Hi3 := Lib.hid ((Hi.out.far ⟨w.heap.size, 0, none⟩ (Nat.lt_succ_self _) (.int .i64 s)).far ⟨w.heap.size, 1, none⟩ (Nat.lt_succ_self _) (.slice (some ⟨ga, 1, none⟩) m d))
        go_wp2_with fail
        have k0 := K0.out
        have k1 := K1.out
        refine bodyPost_ret (v := .agg #[.int .i64 s, .slice (some ⟨ga, 1, none⟩) m d]) (by simp [results, Tryd.results42, go_sem, k0, k1]) rfl ?_
        exact ⟨_, _, _, _, _, _, rfl, Hi3.out.weaken (by omega), by omega, by omega, by omega, Hr3.out, by omega, Hg3.out⟩
    · have e1 : (x0 == 1) = false := by simpa using h1
      by_cases h2 : x0 = 2
      · subst h2
        clear k1 k2 h0 h1 e0 e1
        have t0 := X3.out.cell0
        have t1 := X3.out.cell1
        have t2 := X3.out.lt
        have hlt4 := Hr.out.lt
        have hn0 : (0 : Int) < n := by omega
        go_wp2_with fail
        go_region_with (first | (go_at_call 74; refine (r_one B g (q1 + 1) _ _ [-1, 3] (y4.heap.size + 1) _ (by exact (show Rdr (y4.alloc (.cells #[.int .i64 (-1), .int .i64 3] 3)) B g (q1 + 1) from Hr.out.below ((Below.refl _ _).alloc (Nat.le_refl _) _) Hr.out.lt)) (by omega) (by exact Ints.lit y4 3 [-1, 3]) (by show y4.heap.size + 1 ≤ (y4.alloc (.cells #[.int .i64 (-1), .int .i64 3] 3)).heap.size; simp) (by simp) (by simp) (by rintro b o e; injection e with e; injection e; omega)).mono ?_; rintro e y5 ⟨x, rfl, hx, hr, hg⟩; have hg5 : y4.grownBy y5 (some g) := gtrans (World.grownBy_alloc y4 (.cells #[.int .i64 (-1), .int .i64 3] 3) (some g)) ⟨hg.os, hg.tape, hg.output, hg.size, hg.block⟩; have HX2 := Lib.hid (X2.out.grown hg5 (fun e => by have := Option.some.inj e; omega)); have HX3 := Lib.hid (X3.out.grown hg5 (fun e => by have := Option.some.inj e; omega)); have HO := Lib.hid (Ho.out.kept hg5 (fun g' hA e => by have := (Ho.out.ge hA).1; have := Option.some.inj e; omega)); have u0 := HX3.out.cell0; have u1 := HX3.out.cell1; have u2 := HX3.out.lt; have u3 := World.ownsRow.cellAt HO.out.2 0 (by omega); rw [List.getElem?_eq_getElem (by rw [List.length_map, HO.out.1]; omega)] at u3; have u4 := World.ownsRow.frozenAt HO.out.2 0; have HR := Lib.hid hr; have HG := Lib.hid (gtrans Hg.out hg5); clear hr hg hg5 hx))
        all_goals go_upto_region 9 with (fail)
        all_goals
          obtain ⟨y6, hy6⟩ : ∃ y6, y6 = y5.setCell ⟨ga, 0, none⟩ (.int .i64 x) := ⟨_, rfl⟩
          have hBg := HR.out.1
          have X2 : Hid (Bx 25 y6 w.heap.size 0 (.slice none 0 0)) := Lib.hid (by rw [hy6]; exact HX2.out.far (p := ⟨ga, 0, none⟩) (by show w.heap.size ≠ ga; omega) _)
          have X3 : Hid (Bx 25 y6 y.heap.size s (.slice (some ⟨ga, 0, none⟩) n c)) := Lib.hid (by rw [hy6]; exact HX3.out.far (p := ⟨ga, 0, none⟩) (by show y.heap.size ≠ ga; omega) _)
          have Ho : Hid (Own y6 (w.heap.size + 1) (some ⟨ga, 0, none⟩) n c (cs.set 0 x)) := Lib.hid (by rw [hy6]; exact (HO.out.stored 0 x).1)
          have Hr : Hid (Rdr y6 B g (q1 + 1 + 1)) := Lib.hid (by rw [hy6]; exact HR.out.far ⟨ga, 0, none⟩ (by show g ≠ ga; omega) (by show B ≤ ga; omega) _)
          have Hg : Hid (w.grownBy y6 (some g)) := Lib.hid (by rw [hy6]; exact gset HG.out ⟨ga, 0, none⟩ (by show w.heap.size ≤ ga; omega) _)
          rw [← hy6]
          clear hy6 u0 u1 u2 u3 u4 t0 t1 t2
          have Hi := Lib.hid (IntsF.of Ho.out)
          have K0 := Lib.hid ((X2.out.set0 s).cell0)
          have K1 := Lib.hid (((X2.out.set0 s).set1 (.slice (some ⟨ga, 0, none⟩) n c)).cell1)
          have t0 := X3.out.cell0
          have t1 := X3.out.cell1
          have t2 := X3.out.lt
          have r0 := X2.out.cell0
          have r1 := X2.out.cell1
          have r2 := X2.out.frozen 0
          have r3 := X2.out.frozen 1
          have r4 := X2.out.lt
          have hBg := Hr.out.1
          have Hr3 := Lib.hid ((Hr.out.far ⟨w.heap.size, 0, none⟩ (by show g ≠ w.heap.size; omega) (by show B ≤ w.heap.size; omega) (.int .i64 s)).far ⟨w.heap.size, 1, none⟩ (by show g ≠ w.heap.size; omega) (by show B ≤ w.heap.size; omega) (.slice (some ⟨ga, 0, none⟩) n c))
          have Hg3 := Lib.hid (gset (gset Hg.out ⟨w.heap.size, 0, none⟩ (Nat.le_refl _) (.int .i64 s)) ⟨w.heap.size, 1, none⟩ (Nat.le_refl _) (.slice (some ⟨ga, 0, none⟩) n c))
          have Hi3 := Lib.hid ((Hi.out.far ⟨w.heap.size, 0, none⟩ (Nat.lt_succ_self _) (.int .i64 s)).far ⟨w.heap.size, 1, none⟩ (Nat.lt_succ_self _) (.slice (some ⟨ga, 0, none⟩) n c))
          go_wp2_with fail
          have k0 := K0.out
          have k1 := K1.out
          refine bodyPost_ret (v := .agg #[.int .i64 s, .slice (some ⟨ga, 0, none⟩) n c]) (by simp [results, Tryd.results42, go_sem, k0, k1]) rfl ?_
          exact ⟨_, _, _, _, _, _, rfl, Hi3.out.weaken (by omega), by omega, by omega, by omega, Hr3.out, by omega, Hg3.out⟩
      · have e2 : (x0 == 2) = false := by simpa using h2
        clear h0 h1 h2
        have Hi := Lib.hid (IntsF.of Ho.out)
        have K0 := Lib.hid ((X2.out.set0 s).cell0)
        have K1 := Lib.hid (((X2.out.set0 s).set1 (.slice (some ⟨ga, 0, none⟩) n c)).cell1)
        have t0 := X3.out.cell0
        have t1 := X3.out.cell1
        have t2 := X3.out.lt
        have r0 := X2.out.cell0
        have r1 := X2.out.cell1
        have r2 := X2.out.frozen 0
        have r3 := X2.out.frozen 1
        have r4 := X2.out.lt
        have hBg := Hr.out.1
        have Hr3 := Lib.hid ((Hr.out.far ⟨w.heap.size, 0, none⟩ (by show g ≠ w.heap.size; omega) (by show B ≤ w.heap.size; omega) (.int .i64 s)).far ⟨w.heap.size, 1, none⟩ (by show g ≠ w.heap.size; omega) (by show B ≤ w.heap.size; omega) (.slice (some ⟨ga, 0, none⟩) n c))
        have Hg3 := Lib.hid (gset (gset Hg.out ⟨w.heap.size, 0, none⟩ (Nat.le_refl _) (.int .i64 s)) ⟨w.heap.size, 1, none⟩ (Nat.le_refl _) (.slice (some ⟨ga, 0, none⟩) n c))
        have Hi3 := Lib.hid ((Hi.out.far ⟨w.heap.size, 0, none⟩ (Nat.lt_succ_self _) (.int .i64 s)).far ⟨w.heap.size, 1, none⟩ (Nat.lt_succ_self _) (.slice (some ⟨ga, 0, none⟩) n c))
        go_wp2_with fail
        have k0 := K0.out
        have k1 := K1.out
        refine bodyPost_ret (v := .agg #[.int .i64 s, .slice (some ⟨ga, 0, none⟩) n c]) (by simp [results, Tryd.results42, go_sem, k0, k1]) rfl ?_
        exact ⟨_, _, _, _, _, _, rfl, Hi3.out.weaken (by omega), by omega, by omega, by omega, Hr3.out, by omega, Hg3.out⟩
end Go.Proofs.YtpogjegihhljpaaDoor

namespace Go.Proofs.YtpogjegihhljpaaDoor
set_option maxRecDepth 100000
open Go.RowKit

theorem undrew {a b : World} (h : Below a.drew.heap.size a.drew b) : Below a.heap.size a b := ⟨h.os, h.tape, h.output, h.size, h.block⟩
theorem Ints.step {w w' : World} {n : Nat} {A : Option Addr} {xs : List Int} (h : Ints w w.heap.size A n xs) (hb : Below w.heap.size w w') : Ints w' w'.heap.size A n xs := (h.below hb (Nat.le_refl _)).more hb.size
theorem Bx.step {t : TypeId} {w w' : World} {g : Nat} {s : Int} {v : Value} (h : Bx t w g s v) (hb : Below w.heap.size w w') : Bx t w' g s v := h.below hb h.lt
theorem bstep {a w w' : World} (h : Below a.heap.size a w) (hb : Below w.heap.size w w') : Below a.heap.size a w' := h.trans (hb.mono h.size)

theorem l_eqB (s : Int) (w : World) (A A' : Option Addr) (n c c' : Nat) (xs : List Int) (h : Ints w w.heap.size A n xs) (h' : Ints w w.heap.size A' n xs) (hn : n ≤ 1000000) :
    Calls Tryd.prog 15 #[.agg #[.int .i64 s, .slice A n c], .agg #[.int .i64 s, .slice A' n c']] w fun e w' => e = .returned (.bool true) ∧ Below w.heap.size w w' := by
  have hb2 : Below w.heap.size w ((w.alloc (.cells #[.int .i64 s, .slice A n c] 25)).alloc (.cells #[.int .i64 s, .slice A' n c'] 25)) := ((Below.refl _ _).alloc (Nat.le_refl _) _).alloc (by simp) _
  have H := Lib.hid (h.below hb2 (Nat.le_refl _))
  have H' := Lib.hid (h'.below hb2 (Nat.le_refl _))
  have Hb := Lib.hid hb2
  clear h h' hb2
  go_enter Tryd.func15, Tryd.ntmps15
  go_wp2_with fail
  refine (eqi_t _ _ _ _ _ n _ _ xs H.out H'.out (by omega)).mono ?_
  rintro e w' ⟨k, rfl, rfl⟩
  go_wp2_with fail
  go_ret
  exact ⟨rfl, drew_below Hb.out k⟩

theorem IsRow.below {k : IntKind} {w w' : World} {a : Option Addr} {len cap : Nat} {zs : List Int} (h : IsRow k w a len cap zs) (hb : Below w.heap.size w w') : IsRow k w' a len cap zs := by
  rcases h with h | ⟨x, hx, h1, h2, h3, h4, h5⟩
  · exact .inl h
  · refine .inr ⟨x, hx, h1, h2, h3, fun i hi => ?_, h5⟩
    have := h4 i hi
    exact (World.cell?_of_block (w := w) (a := x.add i) (hb.block _ (World.block_lt_of_cell? w _ this))).trans this

/-- What a law's draw of a board gives. -/
def DrawnL (w : World) (e : Ending) (w' : World) : Prop :=
  ∃ (s : Int) (A : Option Addr) (n c : Nat) (cs : List Int), e = .returned (.agg #[.int .i64 s, .slice A n c]) ∧ Ints w' w'.heap.size A n cs ∧ n ≤ 49 ∧ 0 ≤ s ∧ s ≤ 8 ∧ Below w.heap.size w w'
/-- The same with an int. -/
def DrawnLI (P : Int → Prop) (w : World) (e : Ending) (w' : World) : Prop :=
  ∃ (s : Int) (A : Option Addr) (n c : Nat) (cs : List Int) (x : Int), e = .returned (.tuple #[.agg #[.int .i64 s, .slice A n c], .int .i64 x]) ∧ Ints w' w'.heap.size A n cs ∧ n ≤ 49 ∧ 0 ≤ s ∧ s ≤ 8 ∧ P x ∧ Below w.heap.size w w'

end Go.Proofs.YtpogjegihhljpaaDoor

namespace Go.Proofs.YtpogjegihhljpaaDoor
set_option maxRecDepth 100000
open Go.RowKit

theorem r_anyColor (B g q : Nat) (w : World) (h : Rdr w B g q) (hq : q ≤ 1000000000000) :
    Calls Tryd.prog 43 #[.pointer (some ⟨g, 0, none⟩)] w fun e w' => Got (fun x => -1 ≤ x ∧ x ≤ 3) w B g (q + 1) e w' := by
  have hlt := h.lt
  go_enter Tryd.func43, Tryd.ntmps43
  go_wp2_with fail
  have hl := Ints.lit w 3 [1, 2, 1, 2, 1, 2, 1, 2, 1, 2, 0, 3, -1]
  refine (r_one B g q _ _ [1, 2, 1, 2, 1, 2, 1, 2, 1, 2, 0, 3, -1] _ _ (h.below ((Below.refl _ _).alloc (Nat.le_refl _) _) hlt) hq hl (by simp) (by simp) (by simp) (by rintro b o e; injection e with e; injection e; omega)).mono ?_
  rintro e w1 ⟨x, rfl, hx, hr, hw⟩
  have Hr := Lib.hid hr
  have Hw := Lib.hid (gtrans (World.grownBy_alloc w _ (some g)) hw)
  have Hx := Lib.hid hx
  clear hr hw hl hx
  go_wp2_with fail
  go_ret
  refine ⟨_, rfl, ?_, Hr.out, Hw.out⟩
  have := Hx.out
  simp at this
  omega

set_option maxRecDepth 100000 in
set_option maxHeartbeats 2000000 in
theorem d_cnt (w : World) (a : Option Addr) (len cap : Nat) (zs : List Int) (h : IsRow .u8 w a len cap zs) :
    Calls Tryd.prog 65 #[.slice a len cap] w fun e w' => DrawnLI (fun x => -1 ≤ x ∧ x ≤ 8) w e w' := by
  have hb1 : Below w.heap.size w (w.alloc (.cells #[.int .i64 0, .slice none 0 0] 25)) := (Below.refl _ _).alloc (Nat.le_refl _) _
  have X2 := Lib.hid (Bx.new 25 w 0 (.slice none 0 0))
  have Hb := Lib.hid hb1
  have hsz : (w.alloc (.cells #[.int .i64 0, .slice none 0 0] 25)).heap.size = w.heap.size + 1 := by simp
  have Hsz := Lib.hid hsz
  have H := Lib.hid (h.below hb1)
  clear h hb1 hsz
  go_enter Tryd.func65, Tryd.ntmps65
  go_wp2_with fail
  refine (r_new _ _ _ _ zs H.out).mono ?_
  rintro e y ⟨g, rfl, hr, hb⟩
  have Hg := Lib.hid hr.1
  rw [Hsz.out] at Hg
  have hg1 := Hg.out
  have X2 := Lib.hid (X2.out.below hb X2.out.lt)
  have Hb := Lib.hid (Hb.out.trans (hb.mono (by rw [Hsz.out]; omega)))
  have zy := X2.out.lt
  obtain ⟨Bq, Hr⟩ : ∃ Bq, Hid (Rdr y Bq g 0) := ⟨_, Lib.hid hr⟩
  clear hr hb
  go_wp2_with fail
  have hgy := Hr.out.lt
  refine (r_any Bq g 0 _ Hr.out (by omega)).mono ?_
  rintro e y2 ⟨s, A, n, c, cs, q', rfl, hi, hn, s0, s8, hr, hq, hg⟩
  have X2 := Lib.hid (X2.out.grown hg (fun e => by have := Option.some.inj e; omega))
  have Hb := Lib.hid (Hb.out.trans (below_g hg (by omega) (fun k hk => by have := Option.some.inj hk; omega)))
  have Hi := Lib.hid hi
  have Hr := Lib.hid hr
  have hgl := hr.lt
  have zz := hg.size
  clear hi hr hg
  go_upto_region 3 with (fail)
  obtain ⟨y3, hy3, hb3, z3, z4⟩ := new_box y2 (.cells #[.int .i64 s, .slice A n c] 25)
  have X5 : Hid (Bx 25 y3 y2.heap.size s (.slice A n c)) := Lib.hid (by rw [hy3]; exact Bx.new _ _ _ _)
  rw [← hy3]
  clear hy3
  have X2 := Lib.hid (X2.out.below hb3 X2.out.lt)
  have Hr := Lib.hid (Hr.out.below hb3 Hr.out.lt)
  have Hi := Lib.hid (Hi.out.below hb3)
  have Hb := Lib.hid (Hb.out.trans (hb3.mono (by omega)))
  clear hb3
  have t0 := X5.out.cell0
  have t1 := X5.out.cell1
  have t2 := X5.out.lt
  go_region_with (first | (go_at_call 43; refine (r_anyColor Bq g q' _ (by exact Hr.out) (by omega)).mono ?_; rintro e y5 ⟨x, rfl, hx, hr, hg⟩; have hg5 : y3.grownBy y5 (some g) := ⟨hg.os, hg.tape, hg.output, hg.size, hg.block⟩; have hx8 : -1 ≤ x ∧ x ≤ 8 := (by omega); have HX2 := Lib.hid (X2.out.grown hg5 (fun e => by have := Option.some.inj e; omega)); have HX5 := Lib.hid (X5.out.grown hg5 (fun e => by have := Option.some.inj e; omega)); have HI := Lib.hid (Hi.out.grown hg5 (by omega)); have HB := Lib.hid (Hb.out.trans (below_g hg5 (by omega) (fun k hk => by have := Option.some.inj hk; omega))); have u0 := HX5.out.cell0; have u1 := HX5.out.cell1; have u2 := HX5.out.lt; have r0 := HX2.out.cell0; have r1 := HX2.out.cell1; have r2 := HX2.out.frozen 0; have r3 := HX2.out.frozen 1; have r4 := HX2.out.lt; clear hr hg hg5))
  all_goals go_wp2_with fail
  all_goals
    have k0 := (HX2.out.set0 s).cell0
    have k1 := ((HX2.out.set0 s).set1 (.slice A n c)).cell1
    refine bodyPost_ret (v := .tuple #[.agg #[.int .i64 s, .slice A n c], .int .i64 x]) (by simp [results, Tryd.results65, go_sem, k0, k1]) rfl ?_
    have hi3 := ((HI.out.far ⟨w.heap.size, 0, none⟩ (by show w.heap.size < y.heap.size; omega) (.int .i64 s)).far ⟨w.heap.size, 1, none⟩ (by show w.heap.size < y.heap.size; omega) (.slice A n c)).ints
    have hb3 := (HB.out.setCell (p := ⟨w.heap.size, 0, none⟩) (Nat.le_refl _) (.int .i64 s)).setCell (p := ⟨w.heap.size, 1, none⟩) (Nat.le_refl _) (.slice A n c)
    exact ⟨_, _, _, _, _, _, rfl, hi3, hn, s0, s8, hx8, hb3⟩

end Go.Proofs.YtpogjegihhljpaaDoor

namespace Go.Proofs.YtpogjegihhljpaaDoor
set_option maxRecDepth 100000
open Go.RowKit

/-- The same, and the row lies in new memory. -/
def DrawnLF (P : Int → Prop) (w : World) (e : Ending) (w' : World) : Prop :=
  ∃ (s : Int) (A : Option Addr) (n c : Nat) (cs : List Int) (x : Int) (lo : Nat), e = .returned (.tuple #[.agg #[.int .i64 s, .slice A n c], .int .i64 x]) ∧ w.heap.size ≤ lo ∧ IntsF w' lo A n cs ∧ n ≤ 49 ∧ 0 ≤ s ∧ s ≤ 8 ∧ P x ∧ Below w.heap.size w w'

set_option maxRecDepth 100000 in
set_option maxHeartbeats 2000000 in
theorem d_cntF (w : World) (a : Option Addr) (len cap : Nat) (zs : List Int) (h : IsRow .u8 w a len cap zs) :
    Calls Tryd.prog 65 #[.slice a len cap] w fun e w' => DrawnLF (fun x => -1 ≤ x ∧ x ≤ 8) w e w' := by
  have hb1 : Below w.heap.size w (w.alloc (.cells #[.int .i64 0, .slice none 0 0] 25)) := (Below.refl _ _).alloc (Nat.le_refl _) _
  have X2 := Lib.hid (Bx.new 25 w 0 (.slice none 0 0))
  have Hb := Lib.hid hb1
  have hsz : (w.alloc (.cells #[.int .i64 0, .slice none 0 0] 25)).heap.size = w.heap.size + 1 := by simp
  have Hsz := Lib.hid hsz
  have H := Lib.hid (h.below hb1)
  clear h hb1 hsz
  go_enter Tryd.func65, Tryd.ntmps65
  go_wp2_with fail
  refine (r_new _ _ _ _ zs H.out).mono ?_
  rintro e y ⟨g, rfl, hr, hb⟩
  have Hg := Lib.hid hr.1
  rw [Hsz.out] at Hg
  have hg1 := Hg.out
  have X2 := Lib.hid (X2.out.below hb X2.out.lt)
  have Hb := Lib.hid (Hb.out.trans (hb.mono (by rw [Hsz.out]; omega)))
  have zy := X2.out.lt
  obtain ⟨Bq, Hr⟩ : ∃ Bq, Hid (Rdr y Bq g 0) := ⟨_, Lib.hid hr⟩
  clear hr hb
  go_wp2_with fail
  have hgy := Hr.out.lt
  refine (r_any Bq g 0 _ Hr.out (by omega)).mono ?_
  rintro e y2 ⟨s, A, n, c, cs, q', rfl, hi, hn, s0, s8, hr, hq, hg⟩
  have X2 := Lib.hid (X2.out.grown hg (fun e => by have := Option.some.inj e; omega))
  have Hb := Lib.hid (Hb.out.trans (below_g hg (by omega) (fun k hk => by have := Option.some.inj hk; omega)))
  have Hi := Lib.hid hi
  have Hr := Lib.hid hr
  have hgl := hr.lt
  have zz := hg.size
  clear hi hr hg
  go_upto_region 3 with (fail)
  obtain ⟨y3, hy3, hb3, z3, z4⟩ := new_box y2 (.cells #[.int .i64 s, .slice A n c] 25)
  have X5 : Hid (Bx 25 y3 y2.heap.size s (.slice A n c)) := Lib.hid (by rw [hy3]; exact Bx.new _ _ _ _)
  rw [← hy3]
  clear hy3
  have X2 := Lib.hid (X2.out.below hb3 X2.out.lt)
  have Hr := Lib.hid (Hr.out.below hb3 Hr.out.lt)
  have Hi := Lib.hid (Hi.out.below hb3)
  have Hb := Lib.hid (Hb.out.trans (hb3.mono (by omega)))
  clear hb3
  have t0 := X5.out.cell0
  have t1 := X5.out.cell1
  have t2 := X5.out.lt
  go_region_with (first | (go_at_call 43; refine (r_anyColor Bq g q' _ (by exact Hr.out) (by omega)).mono ?_; rintro e y5 ⟨x, rfl, hx, hr, hg⟩; have hg5 : y3.grownBy y5 (some g) := ⟨hg.os, hg.tape, hg.output, hg.size, hg.block⟩; have hx8 : -1 ≤ x ∧ x ≤ 8 := (by omega); have HX2 := Lib.hid (X2.out.grown hg5 (fun e => by have := Option.some.inj e; omega)); have HX5 := Lib.hid (X5.out.grown hg5 (fun e => by have := Option.some.inj e; omega)); have HI := Lib.hid (Hi.out.grown hg5 (by omega)); have HB := Lib.hid (Hb.out.trans (below_g hg5 (by omega) (fun k hk => by have := Option.some.inj hk; omega))); have u0 := HX5.out.cell0; have u1 := HX5.out.cell1; have u2 := HX5.out.lt; have r0 := HX2.out.cell0; have r1 := HX2.out.cell1; have r2 := HX2.out.frozen 0; have r3 := HX2.out.frozen 1; have r4 := HX2.out.lt; clear hr hg hg5))
  all_goals go_wp2_with fail
  all_goals
    have k0 := (HX2.out.set0 s).cell0
    have k1 := ((HX2.out.set0 s).set1 (.slice A n c)).cell1
    refine bodyPost_ret (v := .tuple #[.agg #[.int .i64 s, .slice A n c], .int .i64 x]) (by simp [results, Tryd.results65, go_sem, k0, k1]) rfl ?_
    have hi3 := ((HI.out.far ⟨w.heap.size, 0, none⟩ (by show w.heap.size < y.heap.size; omega) (.int .i64 s)).far ⟨w.heap.size, 1, none⟩ (by show w.heap.size < y.heap.size; omega) (.slice A n c))
    have hb3 := (HB.out.setCell (p := ⟨w.heap.size, 0, none⟩) (Nat.le_refl _) (.int .i64 s)).setCell (p := ⟨w.heap.size, 1, none⟩) (Nat.le_refl _) (.slice A n c)
    exact ⟨_, _, _, _, _, _, _, rfl, (by omega), hi3, hn, s0, s8, hx8, hb3⟩

set_option maxHeartbeats 2000000 in
theorem d_ey (w : World) (a : Option Addr) (len cap : Nat) (zs : List Int) (h : IsRow .u8 w a len cap zs) :
    Calls Tryd.prog 28 #[.slice a len cap] w fun e w' => DrawnLI (fun x => -1 ≤ x ∧ x ≤ 8) w e w' := by
  have hb1 : Below w.heap.size w (w.alloc (.cells #[.int .i64 0, .slice none 0 0] 25)) := (Below.refl _ _).alloc (Nat.le_refl _) _
  have X2 := Lib.hid (Bx.new 25 w 0 (.slice none 0 0))
  have Hb := Lib.hid hb1
  have H := Lib.hid (h.below hb1)
  clear h hb1
  go_enter Tryd.func28, Tryd.ntmps28
  go_wp2_with fail
  refine (d_cntF _ _ _ _ zs H.out).mono ?_
  rintro e y2 ⟨s, A, n, c, cs, x, lo, rfl, hlo, hi, hn, s0, s8, hx, hb⟩
  have hlo2 : w.heap.size < lo := by simp at hlo; omega
  have X2 := Lib.hid (X2.out.below hb X2.out.lt)
  have Hb := Lib.hid (Hb.out.trans (hb.mono (by simp)))
  have Hi := Lib.hid hi
  have Hx := Lib.hid hx
  clear hi hb hx
  have r0 := X2.out.cell0
  have r1 := X2.out.cell1
  have r2 := X2.out.frozen 0
  have r3 := X2.out.frozen 1
  have r4 := X2.out.lt
  have K0 := Lib.hid ((X2.out.set0 s).cell0)
  have K1 := Lib.hid (((X2.out.set0 s).set1 (.slice A n c)).cell1)
  have Hb3 := Lib.hid ((Hb.out.setCell (p := ⟨w.heap.size, 0, none⟩) (Nat.le_refl _) (.int .i64 s)).setCell (p := ⟨w.heap.size, 1, none⟩) (Nat.le_refl _) (.slice A n c))
  go_wp2_with fail
  have k0 := K0.out
  have k1 := K1.out
  refine bodyPost_ret (v := .tuple #[.agg #[.int .i64 s, .slice A n c], .int .i64 x]) (by simp [results, Tryd.results28, go_sem, k0, k1]) rfl ?_
  have hi3 := ((Hi.out.far ⟨w.heap.size, 0, none⟩ hlo2 (.int .i64 s)).far ⟨w.heap.size, 1, none⟩ hlo2 (.slice A n c)).ints
  exact ⟨_, _, _, _, _, _, rfl, hi3, hn, s0, s8, Hx.out, Hb3.out⟩

set_option maxHeartbeats 2000000 in
theorem d_cap (w : World) (a : Option Addr) (len cap : Nat) (zs : List Int) (h : IsRow .u8 w a len cap zs) :
    Calls Tryd.prog 25 #[.slice a len cap] w fun e w' => DrawnLI (fun x => -1 ≤ x ∧ x ≤ 8) w e w' := by
  have hb1 : Below w.heap.size w (w.alloc (.cells #[.int .i64 0, .slice none 0 0] 25)) := (Below.refl _ _).alloc (Nat.le_refl _) _
  have X2 := Lib.hid (Bx.new 25 w 0 (.slice none 0 0))
  have Hb := Lib.hid hb1
  have H := Lib.hid (h.below hb1)
  clear h hb1
  go_enter Tryd.func25, Tryd.ntmps25
  go_wp2_with fail
  refine (d_cntF _ _ _ _ zs H.out).mono ?_
  rintro e y2 ⟨s, A, n, c, cs, x, lo, rfl, hlo, hi, hn, s0, s8, hx, hb⟩
  have hlo2 : w.heap.size < lo := by simp at hlo; omega
  have X2 := Lib.hid (X2.out.below hb X2.out.lt)
  have Hb := Lib.hid (Hb.out.trans (hb.mono (by simp)))
  have Hi := Lib.hid hi
  have Hx := Lib.hid hx
  clear hi hb hx
  have r0 := X2.out.cell0
  have r1 := X2.out.cell1
  have r2 := X2.out.frozen 0
  have r3 := X2.out.frozen 1
  have r4 := X2.out.lt
  have K0 := Lib.hid ((X2.out.set0 s).cell0)
  have K1 := Lib.hid (((X2.out.set0 s).set1 (.slice A n c)).cell1)
  have Hb3 := Lib.hid ((Hb.out.setCell (p := ⟨w.heap.size, 0, none⟩) (Nat.le_refl _) (.int .i64 s)).setCell (p := ⟨w.heap.size, 1, none⟩) (Nat.le_refl _) (.slice A n c))
  go_wp2_with fail
  have k0 := K0.out
  have k1 := K1.out
  refine bodyPost_ret (v := .tuple #[.agg #[.int .i64 s, .slice A n c], .int .i64 x]) (by simp [results, Tryd.results25, go_sem, k0, k1]) rfl ?_
  have hi3 := ((Hi.out.far ⟨w.heap.size, 0, none⟩ hlo2 (.int .i64 s)).far ⟨w.heap.size, 1, none⟩ hlo2 (.slice A n c)).ints
  exact ⟨_, _, _, _, _, _, rfl, hi3, hn, s0, s8, Hx.out, Hb3.out⟩

end Go.Proofs.YtpogjegihhljpaaDoor

namespace Go.Proofs.YtpogjegihhljpaaDoor
set_option maxRecDepth 100000
open Go.RowKit

def eyOk (s : Int) (cs : List Int) (x : Int) : Bool := Bd.okB s cs && (decide (1 ≤ x) && decide (x ≤ 2))
def eyL (s : Int) (cs : List Int) (x : Int) : List Int := if eyOk s cs x then ((List.range cs.length).filter fun q => eyeS s cs (q : Nat) x).map fun (q : Nat) => (q : Int) else []
def eyW (s : Int) (cs : List Int) (x : Int) : List Int := if eyOk s cs x then ((List.range cs.length).filter fun q => encS s cs (q : Nat) x && !eyeS s cs (q : Nat) x).map fun (q : Nat) => (q : Int) else []
theorem eyL_len (s : Int) (cs : List Int) (x : Int) : (eyL s cs x).length ≤ cs.length := by
  unfold eyL; split
  · rw [List.length_map]; exact Nat.le_trans (List.length_filter_le _ _) (by simp)
  · simp
theorem eyW_len (s : Int) (cs : List Int) (x : Int) : (eyW s cs x).length ≤ cs.length := by
  unfold eyW; split
  · rw [List.length_map]; exact Nat.le_trans (List.length_filter_le _ _) (by simp)
  · simp
theorem pts_sel {m n : Nat} {g : Nat → Bool} (h : ∀ q, q < n → m.testBit q = g q) : Bt.pts m n = ((List.range n).filter g).map fun (q : Nat) => (q : Int) := by
  unfold Bt.pts
  congr 1
  exact List.filter_congr fun q hq => h q (List.mem_range.1 hq)

theorem ey_ltY {s Y O m k : Nat} (h : IsEy s Y O m) (hY : Y < 2 ^ k) : m < 2 ^ k := by
  refine Nat.lt_pow_two_of_testBit _ fun j hj => ?_
  rw [h j, Bt.high hY hj, Bool.false_and]
theorem i_eyesY (t : Nat) (cs : List Int) (x : Int) (n : Nat) (t1 : 1 ≤ t) (t2 : t ≤ 7) (hnn : n = t * t) (hl : cs.length = n) (hok : ∀ c ∈ cs, 0 ≤ c ∧ c ≤ 2) (hx : x = 1 ∨ x = 2) :
    ∃ m Y : Nat, m < 2 ^ 49 ∧ Y < 2 ^ (t * t) ∧ m < 2 ^ (t * t) ∧ (∀ q, q < t * t → m.testBit q = eyeS t cs q x) ∧ (∀ q, q < t * t → Y.testBit q = encS t cs q x) ∧
      ∀ w, Tab w → Calls Tryd.prog 67 #[.agg #[.int .i64 (t : Nat), .int .u64 (Bt.msk cs 0 n : Nat), .int .u64 (Bt.msk cs 1 n : Nat), .int .u64 (Bt.msk cs 2 n : Nat)], .int .i64 x] w fun e w' => e = .returned (.tuple #[.int .u64 (m : Nat), .int .u64 ((Y &&& (18446744073709551615 - m) : Nat) : Int)]) ∧ Below w.heap.size w w' := by
  have h7 := (Bt.masks t t1 t2).2.2.2.2.2.2
  have l0 : Bt.msk cs 0 n < 2 ^ (t * t) := by rw [← hnn]; exact Bt.msk_lt cs 0 n
  have l1 : Bt.msk cs 1 n < 2 ^ (t * t) := by rw [← hnn]; exact Bt.msk_lt cs 1 n
  have l2 : Bt.msk cs 2 n < 2 ^ (t * t) := by rw [← hnn]; exact Bt.msk_lt cs 2 n
  rcases hx with rfl | rfl
  · have hY := encM_lt (s := t) (M := Bt.msk cs 1 n) (O := Bt.msk cs 2 n) l0
    obtain ⟨m, hm⟩ := ey_ex t (encM t (Bt.msk cs 0 n) (Bt.msk cs 1 n) (Bt.msk cs 2 n)) (Bt.msk cs 2 n) (by omega)
    refine ⟨m, _, ey_lt hm (Nat.lt_of_lt_of_le hY h7), hY, ey_ltY hm hY, fun q hq => eye_bit t q cs 1 2 n m t1 t2 hnn hl hok (by simp) hq hm, fun q hq => enc_eq t cs 1 2 n t1 t2 hnn hl hok (by simp) q hq, fun w ht => (i_eyes1 t _ _ _ w ht t1 t2 l0 l1 l2).mono ?_⟩
    rintro e w' ⟨m', rfl, hm', hb⟩
    rw [hm'.one hm]
    exact ⟨rfl, hb⟩
  · have hY := encM_lt (s := t) (M := Bt.msk cs 2 n) (O := Bt.msk cs 1 n) l0
    obtain ⟨m, hm⟩ := ey_ex t (encM t (Bt.msk cs 0 n) (Bt.msk cs 2 n) (Bt.msk cs 1 n)) (Bt.msk cs 1 n) (by omega)
    refine ⟨m, _, ey_lt hm (Nat.lt_of_lt_of_le hY h7), hY, ey_ltY hm hY, fun q hq => eye_bit t q cs 2 1 n m t1 t2 hnn hl hok (by simp) hq hm, fun q hq => enc_eq t cs 2 1 n t1 t2 hnn hl hok (by simp) q hq, fun w ht => (i_eyes2 t _ _ _ w ht t1 t2 l0 l2 l1).mono ?_⟩
    rintro e w' ⟨m', rfl, hm', hb⟩
    rw [hm'.one hm]
    exact ⟨rfl, hb⟩

/-- What the program's sets say of the model's lists. -/
theorem ey_lists (t : Nat) (cs : List Int) (x : Int) (n : Nat) (t1 : 1 ≤ t) (t2 : t ≤ 7) (hnn : n = t * t) (hl : cs.length = n) (ho : Bd.okB t cs = true) (x1 : 1 ≤ x) (x2 : x ≤ 2) :
    ∃ m f : Nat, m < 2 ^ 49 ∧ f < 2 ^ 49 ∧ (∀ q, q < n → m.testBit q = eyeS t cs q x) ∧ (∀ q, q < n → f.testBit q = (encS t cs q x && !eyeS t cs q x)) ∧ eyL t cs x = Bt.pts m n ∧ eyW t cs x = Bt.pts f n ∧ eyL t cs x = Bt.pts m 64 ∧ eyW t cs x = Bt.pts f 64 ∧
      ∀ w, Tab w → Calls Tryd.prog 67 #[.agg #[.int .i64 (t : Nat), .int .u64 (Bt.msk cs 0 n : Nat), .int .u64 (Bt.msk cs 1 n : Nat), .int .u64 (Bt.msk cs 2 n : Nat)], .int .i64 x] w fun e w' => e = .returned (.tuple #[.int .u64 (m : Nat), .int .u64 (f : Nat)]) ∧ Below w.heap.size w w' := by
  obtain ⟨_, _, _, q4⟩ := (Bd.okB_iff (t : Int) cs).1 ho
  obtain ⟨m, Y, hml, hYl, hmn', hmb, hYb, cE⟩ := i_eyesY t cs x n t1 t2 hnn hl q4 (by omega)
  have h7 := (Bt.masks t t1 t2).2.2.2.2.2.2
  have hY64 : Y < 18446744073709551616 := by omega
  have hfb : ∀ q, (Y &&& (18446744073709551615 - m)).testBit q = (Y.testBit q && !m.testBit q) := fun q => Bt.andNot_bit hY64 (by omega)
  have hok : eyOk t cs x = true := by rw [eyOk, ho]; simp [x1, x2]
  have e1 : eyL t cs x = Bt.pts m n := by
    rw [eyL, if_pos hok, hl, pts_sel (g := fun q => eyeS t cs q x) fun q hq => hmb q (by omega)]
  have e2 : eyW t cs x = Bt.pts (Y &&& (18446744073709551615 - m)) n := by
    rw [eyW, if_pos hok, hl, pts_sel (g := fun q => encS t cs q x && !eyeS t cs q x) fun q hq => by rw [hfb, hYb q (by omega), hmb q (by omega)]]
  have fl : (Y &&& (18446744073709551615 - m)) < 2 ^ n := by rw [hnn]; exact Nat.lt_of_le_of_lt Nat.and_le_left hYl
  have hn49 : n ≤ 49 := by rw [hnn]; exact (Bt.sq_nat t t1 t2).2.1
  have hmn : ∀ q, n ≤ q → m.testBit q = false := fun q hq => Bt.high hmn' (by omega)
  refine ⟨m, _, hml, Nat.lt_of_lt_of_le fl (Nat.pow_le_pow_right (by decide) hn49), fun q hq => hmb q (by omega), fun q hq => by rw [hfb, hYb q (by omega), hmb q (by omega)], e1, e2, ?_, ?_, cE⟩
  · rw [e1]; exact (Bt.pts_gap (by omega) fun i hi _ => hmn i hi).symm
  · rw [e2]; exact (Bt.pts_more fl (by omega)).symm

section
variable (s x : Int) (w : World) (B : Nat) (A : Option Addr) (n c : Nat) (cs : List Int) (h : Ints w B A n cs) (hB : B ≤ w.heap.size) (hn : n ≤ 1000000000)
include h hB hn

set_option maxHeartbeats 2000000 in
theorem s_EyesOf : Calls Tryd.prog 30 #[.agg #[.int .i64 s, .slice A n c], .int .i64 x] w fun e w' => ∃ A n1 c1 D n2 c2, e = .returned (.tuple #[.slice A n1 c1, .slice D n2 c2]) ∧ TwoL w' w.heap.size A n1 c1 (eyL s cs x) D n2 c2 (eyW s cs x) ∧ Below w.heap.size w w' := by
  have hl := h.1
  by_cases hok : eyOk s cs x = true
  · rw [eyOk, Bool.and_eq_true, Bool.and_eq_true, decide_eq_true_eq, decide_eq_true_eq] at hok
    obtain ⟨ho, x1, x2⟩ := hok
    obtain ⟨q1, q2, q3, q4⟩ := (Bd.okB_iff s cs).1 ho
    obtain ⟨t, rfl⟩ := Int.eq_ofNat_of_zero_le (show 0 ≤ s by omega)
    have hnn : n = t * t := by
      have : (n : Int) = (t : Int) * t := by omega
      exact_mod_cast this
    obtain ⟨m, f, _, _, hm, hf, e1, e2, _, _, _⟩ := ey_lists t cs x n (by omega) (by omega) hnn hl ho x1 x2
    rw [e1, e2]
    exact s_EyesV t x w B A n c cs h hB (by omega) (by omega) hnn ho x1 x2 m f hm hf
  · have hok' : eyOk s cs x = false := by simpa using hok
    have HL := Lib.hid (show eyL s cs x = [] by rw [eyL, hok']; rfl)
    have HW := Lib.hid (show eyW s cs x = [] by rw [eyW, hok']; rfl)
    have hb0 : Below w.heap.size w (w.alloc (.cells #[.int .i64 s, .slice A n c] 25)) := (Below.refl _ _).alloc (Nat.le_refl _) _
    have hbb : Below w.heap.size w (((w.alloc (.cells #[.int .i64 s, .slice A n c] 25)).alloc (.cells #[] 3)).alloc (.cells #[] 3)) := (hb0.alloc (by simp) _).alloc (by simp; omega) _
    have Bxx := Lib.hid (((Bx.new 25 w s (.slice A n c)).alloc (.cells #[] 3)).alloc (.cells #[] 3))
    have H := Lib.hid (h.below hbb hB)
    have Hb := Lib.hid hbb
    have v0 := Bxx.out.cell0
    have v1 := Bxx.out.cell1
    have HO := Lib.hid hok'
    clear h hl hok hok' hb0 hbb
    obtain ⟨b1, e1⟩ : ∃ b, Bd.okB s cs = b := ⟨_, rfl⟩
    have He1 := Lib.hid e1
    clear e1
    cases b1
    · go_enter Tryd.func30, Tryd.ntmps30
      go_wp2_with fail
      refine (s_validBoard _ _ _ _ _ _ _ H.out (by simp; omega) hn).mono ?_
      rintro e y ⟨rfl, hb⟩
      have Hb2 := Lib.hid (Hb.out.trans (hb.mono (by simp; omega)))
      clear hb v0 v1
      rw [He1.out]
      go_wp2_with fail
      go_ret2
      exact ⟨_, _, _, _, _, _, rfl, ⟨by rw [HL.out]; exact Own.nil _ _, by rw [HW.out]; exact Own.nil _ _, fun g e => by cases e⟩, Hb2.out⟩
    · have He2 := Lib.hid (show (decide (1 ≤ x) && decide (x ≤ 2)) = false by have := HO.out; rw [eyOk, He1.out] at this; simpa using this)
      go_enter Tryd.func30, Tryd.ntmps30
      go_wp2_with fail
      refine (s_validBoard _ _ _ _ _ _ _ H.out (by simp; omega) hn).mono ?_
      rintro e y ⟨rfl, hb⟩
      have Hb2 := Lib.hid (Hb.out.trans (hb.mono (by simp; omega)))
      clear hb v0 v1
      rw [He1.out]
      go_wp2_with fail
      refine (s_eyeColor _ _).mono ?_
      rintro e w' ⟨rfl, rfl⟩
      rw [He2.out]
      go_wp2_with fail
      go_ret2
      exact ⟨_, _, _, _, _, _, rfl, ⟨by rw [HL.out]; exact Own.nil _ _, by rw [HW.out]; exact Own.nil _ _, fun g e => by cases e⟩, Hb2.out⟩

/-- The program's two lists: the second lies behind the first. -/
def TwoA (w : World) (xs ys : List Int) (e : Ending) (w' : World) : Prop := ∃ A n1 c1 D n2 c2 mid, e = .returned (.tuple #[.slice A n1 c1, .slice D n2 c2]) ∧ Own w' w.heap.size A n1 c1 xs ∧ (∀ g, A = some ⟨g, 0, none⟩ → g < mid) ∧ Own w' mid D n2 c2 ys ∧ w.heap.size ≤ mid ∧ mid ≤ w'.heap.size ∧ Below w.heap.size w w'

variable (ht : Tab w)
include ht
set_option maxHeartbeats 2000000 in
theorem i_EyesOf : Calls Tryd.prog 29 #[.agg #[.int .i64 s, .slice A n c], .int .i64 x] w (TwoA w (eyL s cs x) (eyW s cs x)) := by
  have hl := h.1
  have hb1 : Below w.heap.size w (w.alloc (.cells #[.int .i64 s, .slice A n c] 25)) := (Below.refl _ _).alloc (Nat.le_refl _) _
  have H := Lib.hid (h.below hb1 hB)
  have Hb := Lib.hid hb1
  have Bxx := Lib.hid (Bx.new 25 w s (.slice A n c))
  have HT := Lib.hid (ht.alloc (.cells #[.int .i64 s, .slice A n c] 25))
  clear h hb1 ht
  by_cases hok : eyOk s cs x = true
  · rw [eyOk, Bool.and_eq_true, Bool.and_eq_true, decide_eq_true_eq, decide_eq_true_eq] at hok
    obtain ⟨ho, x1, x2⟩ := hok
    obtain ⟨q1, q2, q3, q4⟩ := (Bd.okB_iff s cs).1 ho
    obtain ⟨t, rfl⟩ := Int.eq_ofNat_of_zero_le (show 0 ≤ s by omega)
    have hnn : n = t * t := by
      have : (n : Int) = (t : Int) * t := by omega
      exact_mod_cast this
    obtain ⟨m, f, hm49, hf49, _, _, _, _, e1, e2, cE⟩ := ey_lists t cs x n (by omega) (by omega) hnn hl ho x1 x2
    rw [e1, e2]
    have He1 := Lib.hid ho
    have He2 : Hid ((decide (1 ≤ x) && decide (x ≤ 2)) = true) := Lib.hid (by simp [x1, x2])
    have CE := Lib.hid cE
    have CP : Hid (∀ w, Ints w B A n cs → B ≤ w.heap.size → Calls Tryd.prog 48 #[.agg #[.int .i64 (t : Nat), .slice A n c]] w fun e w' => e = .returned (.agg #[.int .i64 (t : Nat), .int .u64 (Bt.msk cs 0 n : Nat), .int .u64 (Bt.msk cs 1 n : Nat), .int .u64 (Bt.msk cs 2 n : Nat)]) ∧ Below w.heap.size w w') := Lib.hid fun w h hB => i_positionOf t w B A n c cs h hB ho
    have CM : Hid (∀ w, Tab w → Calls Tryd.prog 51 #[.int .u64 (m : Nat)] w fun e w' => ∃ A n c, e = .returned (.slice A n c) ∧ Own w' w.heap.size A n c (Bt.pts m 64) ∧ Below w.heap.size w w') := Lib.hid fun w ht => i_list m w ht (by omega)
    have CF : Hid (∀ w, Tab w → Calls Tryd.prog 51 #[.int .u64 (f : Nat)] w fun e w' => ∃ A n c, e = .returned (.slice A n c) ∧ Own w' w.heap.size A n c (Bt.pts f 64) ∧ Below w.heap.size w w') := Lib.hid fun w ht => i_list f w ht (by omega)
    obtain ⟨E0, h0⟩ : ∃ E, Bt.msk cs 0 n = E := ⟨_, rfl⟩
    obtain ⟨E1, h1⟩ : ∃ E, Bt.msk cs 1 n = E := ⟨_, rfl⟩
    obtain ⟨E2, h2⟩ : ∃ E, Bt.msk cs 2 n = E := ⟨_, rfl⟩
    rw [h0, h1, h2] at CP CE
    clear ho x1 x2 q1 q2 q3 q4 hl hnn e1 e2 cE h0 h1 h2
    go_enter Tryd.func29, Tryd.ntmps29
    go_wp2_with fail
    refine (i_validBoard _ _ _ _ _ _ _ H.out (by simp; omega) hn).mono ?_
    rintro e y ⟨rfl, hb⟩
    have v0 := (Bxx.out.below hb (by simp)).cell0
    have v1 := (Bxx.out.below hb (by simp)).cell1
    have H2 := Lib.hid (H.out.below hb (by simp; omega))
    have HT2 := Lib.hid (HT.out.below hb)
    have Hb2 := Lib.hid (Hb.out.trans (hb.mono (by simp)))
    clear hb
    rw [He1.out]
    go_wp2_with fail
    refine (i_eyeStone _ _).mono ?_
    rintro e w' ⟨rfl, rfl⟩
    rw [He2.out]
    go_wp2_with fail
    refine (CP.out _ H2.out (by have := Hb2.out.size; omega)).mono ?_
    rintro e y2 ⟨rfl, hb⟩
    have HT3 := Lib.hid (HT2.out.below hb)
    have Hb3 := Lib.hid (Hb2.out.trans (hb.mono Hb2.out.size))
    clear hb v0 v1
    go_wp2_with fail
    refine (CE.out _ HT3.out).mono ?_
    rintro e y3 ⟨rfl, hb⟩
    have HT4 := Lib.hid (HT3.out.below hb)
    have Hb4 := Lib.hid (Hb3.out.trans (hb.mono Hb3.out.size))
    clear hb
    go_wp2_with fail
    refine (CM.out _ HT4.out).mono ?_
    rintro e y4 ⟨A1, n1, c1, rfl, ho1, hb⟩
    have HT5 := Lib.hid (HT4.out.below hb)
    have Hb5 := Lib.hid (Hb4.out.trans (hb.mono Hb4.out.size))
    have Ho1 := Lib.hid ho1
    clear hb ho1
    go_wp2_with fail
    refine (CF.out _ HT5.out).mono ?_
    rintro e y5 ⟨A2, n2, c2, rfl, ho2, hb⟩
    have Hb6 := Lib.hid (Hb5.out.trans (hb.mono Hb5.out.size))
    have Ho2 := Lib.hid ho2
    have Ho3 := Lib.hid (Ho1.out.below hb)
    have Hz := Lib.hid hb.size
    clear hb ho2
    go_wp2_with fail
    go_ret2
    exact ⟨_, _, _, _, _, _, y4.heap.size, rfl, Ho3.out.weaken Hb4.out.size, fun g e => (Ho1.out.ge e).2, Ho2.out, Hb5.out.size, Hz.out, Hb6.out⟩
  · have hok' : eyOk s cs x = false := by simpa using hok
    have HL := Lib.hid (show eyL s cs x = [] by rw [eyL, hok']; rfl)
    have HW := Lib.hid (show eyW s cs x = [] by rw [eyW, hok']; rfl)
    have HO := Lib.hid hok'
    clear hl hok hok'
    obtain ⟨b1, e1⟩ : ∃ b, Bd.okB s cs = b := ⟨_, rfl⟩
    have He1 := Lib.hid e1
    clear e1
    cases b1
    · go_enter Tryd.func29, Tryd.ntmps29
      go_wp2_with fail
      refine (i_validBoard _ _ _ _ _ _ _ H.out (by simp; omega) hn).mono ?_
      rintro e y ⟨rfl, hb⟩
      have Hb2 := Lib.hid (Hb.out.trans (hb.mono (by simp)))
      clear hb
      rw [He1.out]
      go_wp2_with fail
      go_ret2
      exact ⟨_, _, _, _, _, _, w.heap.size, rfl, by rw [HL.out]; exact Own.nil _ _, (fun g e => by cases e), by rw [HW.out]; exact Own.nil _ _, Nat.le_refl _, Hb2.out.size, Hb2.out⟩
    · have He2 := Lib.hid (show (decide (1 ≤ x) && decide (x ≤ 2)) = false by have := HO.out; rw [eyOk, He1.out] at this; simpa using this)
      go_enter Tryd.func29, Tryd.ntmps29
      go_wp2_with fail
      refine (i_validBoard _ _ _ _ _ _ _ H.out (by simp; omega) hn).mono ?_
      rintro e y ⟨rfl, hb⟩
      have Hb2 := Lib.hid (Hb.out.trans (hb.mono (by simp)))
      clear hb
      rw [He1.out]
      go_wp2_with fail
      refine (i_eyeStone _ _).mono ?_
      rintro e w' ⟨rfl, rfl⟩
      rw [He2.out]
      go_wp2_with fail
      go_ret2
      exact ⟨_, _, _, _, _, _, w.heap.size, rfl, by rw [HL.out]; exact Own.nil _ _, (fun g e => by cases e), by rw [HW.out]; exact Own.nil _ _, Nat.le_refl _, Hb2.out.size, Hb2.out⟩
end
end Go.Proofs.YtpogjegihhljpaaDoor

namespace Go.Proofs.YtpogjegihhljpaaDoor
set_option maxRecDepth 100000
open Go.RowKit
variable (s x : Int) (w : World) (B : Nat) (A : Option Addr) (n c : Nat) (cs : List Int) (la lb : List Int)
theorem s_EyL (ha : Hid (eyL s cs x = la)) (hb : Hid (eyW s cs x = lb)) (h : Ints w B A n cs) (hB : B ≤ w.heap.size) (hn : n ≤ 1000000000) : Calls Tryd.prog 30 #[.agg #[.int .i64 s, .slice A n c], .int .i64 x] w fun e w' => ∃ A n1 c1 D n2 c2, e = .returned (.tuple #[.slice A n1 c1, .slice D n2 c2]) ∧ TwoL w' w.heap.size A n1 c1 la D n2 c2 lb ∧ Below w.heap.size w w' := by
  rw [← ha.out, ← hb.out]; exact s_EyesOf s x w B A n c cs h hB hn
theorem i_EyL (ha : Hid (eyL s cs x = la)) (hb : Hid (eyW s cs x = lb)) (h : Ints w B A n cs) (hB : B ≤ w.heap.size) (hn : n ≤ 1000000000) (ht : Tab w) : Calls Tryd.prog 29 #[.agg #[.int .i64 s, .slice A n c], .int .i64 x] w fun e w' => ∃ A n1 c1 D n2 c2 mid, e = .returned (.tuple #[.slice A n1 c1, .slice D n2 c2]) ∧ Own w' w.heap.size A n1 c1 la ∧ (∀ g, A = some ⟨g, 0, none⟩ → g < mid) ∧ Own w' mid D n2 c2 lb ∧ w.heap.size ≤ mid ∧ mid ≤ w'.heap.size ∧ Below w.heap.size w w' := by
  rw [← ha.out, ← hb.out]; exact i_EyesOf s x w B A n c cs h hB hn ht
end Go.Proofs.YtpogjegihhljpaaDoor

namespace Go.Proofs.YtpogjegihhljpaaDoor
set_option maxRecDepth 100000
open Go.RowKit

theorem mem_at {xs : List Int} {x : Int} (h : x ∈ xs) : ∃ j, j < xs.length ∧ xs.getD j 0 = x ∧ ∀ i, i < j → xs.getD i 0 ≠ x := by
  induction xs with
  | nil => cases h
  | cons y l ih =>
    by_cases hy : y = x
    · exact ⟨0, by simp, by simpa using hy, fun i hi => by omega⟩
    · have hm : x ∈ l := by
        rcases List.mem_cons.1 h with h | h
        · exact absurd h.symm hy
        · exact h
      obtain ⟨j, hj, he, hb⟩ := ih hm
      refine ⟨j + 1, by simpa using hj, by simpa using he, fun i hi => ?_⟩
      match i with
      | 0 => simpa using hy
      | i + 1 => simpa using hb i (by omega)

theorem in_t (w : World) (B : Nat) (A : Option Addr) (n c : Nat) (xs : List Int) (x : Int) (h : Ints w B A n xs) (hn : n ≤ 1000000000) (hx : x ∈ xs) :
    Calls Tryd.prog 17 #[.slice A n c, .int .i64 x] w fun e w' => e = .returned (.bool true) ∧ w = w' := by
  obtain ⟨m, hm, he, hb⟩ := mem_at hx
  rw [h.1] at hm
  rcases h.2 with h0 | ⟨b, o, rfl, hlt, hc⟩
  · omega
  · have Hc := Lib.hid hc
    have Hb := Lib.hid hb
    have He := Lib.hid he
    clear hc hb he hx h
    go_enter Tryd.func17, Tryd.ntmps17
    go_wp2_with fail
    go_loop [5] (fun i => ∃ k : Nat, k ≤ m ∧ i = .int .i64 k) (fun i => n - (intOf i).toNat)
    case atStart => exact ⟨0, by omega, rfl⟩
    case round =>
      obtain ⟨k, hk, rfl⟩ := hrel
      have hck := Hc.out k (by omega)
      obtain ⟨y, hy⟩ : ∃ y, xs.getD k 0 = y := ⟨_, rfl⟩
      rw [hy] at hck
      by_cases hkm : k = m
      · have hyx : (y == x) = true := by rw [← hy, hkm, He.out]; simp
        clear hy hkm
        go_wp2_with fail
        go_ret
        exact ⟨rfl, rfl⟩
      · have hyx : (y == x) = false := by rw [← hy]; simpa using Hb.out k (by omega)
        clear hy
        go_wp2_with fail
        go_round
        case rel => exact ⟨k + 1, by omega, by go_num⟩
        case measure => simp [intOf]; omega

theorem rises_at {xs : List Int} (h : Pt.rises xs = true) (k : Nat) (hk : k + 1 < xs.length) : xs.getD k 0 < xs.getD (k + 1) 0 := by
  induction xs generalizing k with
  | nil => simp at hk
  | cons a l ih =>
    match l, k, hk, h with
    | [], k, hk, _ => simp at hk
    | b :: l, 0, _, h => simp [Pt.rises] at h; simpa using h.1
    | b :: l, k + 1, hk, h => simp [Pt.rises] at h; simpa using ih h.2 k (by simpa using hk)

theorem asc_t (w : World) (B : Nat) (A : Option Addr) (n c : Nat) (xs : List Int) (h : Ints w B A n xs) (hn : n ≤ 1000000000) (hx : Pt.rises xs = true) :
    Calls Tryd.prog 32 #[.slice A n c] w fun e w' => Drew (.bool true) w e w' := by
  have hr := rises_at hx
  rw [h.1] at hr
  have Hr := Lib.hid hr
  clear hr hx
  rcases h.2 with rfl | ⟨b, o, rfl, hlt, hc⟩
  · clear h
    go_enter Tryd.func32, Tryd.ntmps32
    go_wp2_with fail
    go_rounds 1
    go_ret
    exact ⟨0, rfl, rfl⟩
  · have Hc := Lib.hid hc
    clear hc h
    go_enter Tryd.func32, Tryd.ntmps32
    go_wp2_with fail
    go_loopw [3] (fun i wr => ∃ k : Nat, 1 ≤ k ∧ k ≤ n + 1 ∧ i = .int .i64 k ∧ ∃ d, wr = w.drewN d) (fun i _ => n + 1 - (intOf i).toNat)
    case atStart => exact ⟨1, by omega, by omega, rfl, 0, rfl⟩
    case round =>
      obtain ⟨k, hk1, hk2, rfl, d, rfl⟩ := hrel
      by_cases hlt : k < n
      · obtain ⟨j, rfl⟩ : ∃ j, k = j + 1 := ⟨k - 1, by omega⟩
        have c1 := Hc.out j (by omega)
        have c2 := Hc.out (j + 1) hlt
        have hab := Hr.out j hlt
        obtain ⟨x, hx⟩ : ∃ x, xs.getD j 0 = x := ⟨_, rfl⟩
        obtain ⟨y, hy⟩ : ∃ y, xs.getD (j + 1) 0 = y := ⟨_, rfl⟩
        rw [hx] at c1
        rw [hy] at c2
        rw [hx, hy] at hab
        clear hx hy
        have hd : decide (y ≤ x) = false := by rw [decide_eq_false_iff_not]; omega
        have e1 : IntKind.i64.wrap (((j + 1 : Nat) : Int) - 1) = (j : Int) := by rw [show (((j + 1 : Nat) : Int) - 1) = (j : Int) by omega]; exact IntWalk.i64_in _ (by omega)
        go_wp2_with fail
        go_quiet (fail)
        go_wp2_with fail
        go_roundw
        case rel => exact ⟨j + 1 + 1, by omega, by omega, by go_num, _, rfl⟩
        case measure => simp [intOf]; omega
      · go_wp2_with fail
        go_ret
        exact ⟨_, rfl, rfl⟩
end Go.Proofs.YtpogjegihhljpaaDoor

namespace Go.Proofs.YtpogjegihhljpaaDoor
set_option maxRecDepth 100000
open Go.RowKit

theorem in_no (w : World) (A : Option Addr) (n c : Nat) (xs : List Int) (x : Int) (h : Ints w w.heap.size A n xs) (hn : n ≤ 1000000000) (hx : x ∉ xs) :
    Calls Tryd.prog 17 #[.slice A n c, .int .i64 x] w fun e w' => e = .returned (.bool false) ∧ Below w.heap.size w w' := by
  have hne : ∀ j, j < n → xs.getD j 0 ≠ x := fun j hj e => hx (by
    have hj' : j < xs.length := by rw [h.1]; exact hj
    rw [← e, List.getD_eq_getElem?_getD, List.getElem?_eq_getElem hj']
    exact List.getElem_mem _)
  have Hne := Lib.hid hne
  clear hne hx
  rcases h.2 with rfl | ⟨b, o, rfl, hlt, hc⟩
  · clear h
    go_enter Tryd.func17, Tryd.ntmps17
    go_wp2_with fail
    go_rounds 1
    go_ret
    exact ⟨rfl, Below.refl _ _⟩
  · have Hc := Lib.hid hc
    clear hc h
    go_enter Tryd.func17, Tryd.ntmps17
    go_wp2_with fail
    go_loop [5] (fun i => ∃ k : Nat, k ≤ n ∧ i = .int .i64 k) (fun i => n - (intOf i).toNat)
    case atStart => exact ⟨0, by omega, rfl⟩
    case round =>
      obtain ⟨k, hk, rfl⟩ := hrel
      by_cases hkn : k < n
      · have hck := Hc.out k hkn
        obtain ⟨y, hy⟩ : ∃ y, xs.getD k 0 = y := ⟨_, rfl⟩
        rw [hy] at hck
        have hyx : (y == x) = false := by rw [← hy]; simpa using Hne.out k hkn
        clear hy
        go_wp2_with fail
        go_round
        case rel => exact ⟨k + 1, by omega, by go_num⟩
        case measure => simp [intOf]; omega
      · obtain rfl : k = n := by omega
        go_wp2_with fail
        go_ret
        exact ⟨rfl, Below.refl _ _⟩
theorem in_b (w : World) (A : Option Addr) (n c : Nat) (xs : List Int) (x : Int) (b : Bool) (h : Ints w w.heap.size A n xs) (hn : n ≤ 1000000000) (hb : decide (x ∈ xs) = b) :
    Calls Tryd.prog 17 #[.slice A n c, .int .i64 x] w fun e w' => e = .returned (.bool b) ∧ Below w.heap.size w w' := by
  cases b
  · exact in_no w A n c xs x h hn (by simpa using hb)
  · refine (in_t w _ A n c xs x h hn (by simpa using hb)).mono ?_
    rintro e w' ⟨rfl, rfl⟩
    exact ⟨rfl, Below.refl _ _⟩
theorem eq_b (w : World) (A A' : Option Addr) (n c c' : Nat) (xs : List Int) (h : Ints w w.heap.size A n xs) (h' : Ints w w.heap.size A' n xs) (hn : n ≤ 1000000) :
    Calls Tryd.prog 16 #[.slice A n c, .slice A' n c'] w fun e w' => e = .returned (.bool true) ∧ Below w.heap.size w w' := by
  refine (eqi_t w _ _ _ _ n _ _ xs h h' (by omega)).mono ?_
  rintro e w' ⟨k, rfl, rfl⟩
  exact ⟨rfl, drew_below (Below.refl _ _) k⟩
theorem vb_b (s : Int) (w : World) (A : Option Addr) (n c : Nat) (cs : List Int) (b : Bool) (h : Ints w w.heap.size A n cs) (hn : n ≤ 49) (hb : Bd.okB s cs = b) :
    Calls Tryd.prog 23 #[.agg #[.int .i64 s, .slice A n c]] w fun e w' => e = .returned (.bool b) ∧ Below w.heap.size w w' := by
  subst hb
  exact i_validBoard s w _ A n c cs h (Nat.le_refl _) (by omega)
theorem eye_b (s p x : Int) (w : World) (A : Option Addr) (n c : Nat) (cs : List Int) (b : Bool) (h : Ints w w.heap.size A n cs) (hn : n ≤ 49) (ht : Tab w) (hb : eyB s cs p x = b) :
    Calls Tryd.prog 31 #[.agg #[.int .i64 s, .slice A n c], .int .i64 p, .int .i64 x] w fun e w' => e = .returned (.bool b) ∧ Below w.heap.size w w' := by
  subst hb
  exact i_IsEye s p x w _ A n c cs h (Nat.le_refl _) (by omega) ht

theorem mem_eyL {s x : Int} {cs : List Int} (hv : Bd.okB s cs = true) (p : Nat) (hp : p < cs.length) : decide ((p : Int) ∈ eyL s cs x) = eyB s cs p x := by
  have hk : Pt.okP s (p : Int) = true := by
    obtain ⟨q1, q2, q3, _⟩ := (Bd.okB_iff s cs).1 hv
    exact (Pt.okP_iff s p).2 ⟨q1, q2, by omega, by omega⟩
  unfold eyL eyOk eyB
  rw [hv, hk, Bool.true_and, Bool.true_and, Bool.true_and]
  rcases e : (decide (1 ≤ x) && decide (x ≤ 2)) with _ | _
  · simp
  · rw [if_pos rfl, Bool.true_and]
    rcases e2 : eyeS s cs (p : Int) x with _ | _
    · rw [decide_eq_false_iff_not, List.mem_map]
      rintro ⟨q, hq, he⟩
      obtain rfl : q = p := by omega
      rw [List.mem_filter] at hq
      rw [e2] at hq
      exact absurd hq.2 (by decide)
    · rw [decide_eq_true_iff, List.mem_map]
      exact ⟨p, List.mem_filter.2 ⟨List.mem_range.2 hp, e2⟩, rfl⟩
theorem not_both {s x : Int} {cs : List Int} {p : Int} (h : p ∈ eyW s cs x) : p ∉ eyL s cs x := by
  intro h2
  unfold eyW at h
  unfold eyL at h2
  split at h
  · rename_i ho
    rw [if_pos ho] at h2
    obtain ⟨q, hq, he⟩ := List.mem_map.1 h
    obtain ⟨q', hq', he'⟩ := List.mem_map.1 h2
    obtain rfl : q = q' := by omega
    have a := (List.mem_filter.1 hq).2
    have b := (List.mem_filter.1 hq').2
    rw [b] at a
    simp at a
  · cases h
end Go.Proofs.YtpogjegihhljpaaDoor

namespace Go.Proofs.YtpogjegihhljpaaDoor
set_option maxRecDepth 100000
open Go.RowKit

def cnt (x : Int) (cs : List Int) : Int := ((cs.filter fun c => c == x).length : Nat)
theorem cnt_bd (x : Int) (cs : List Int) : 0 ≤ cnt x cs ∧ cnt x cs ≤ cs.length := by
  unfold cnt
  have := List.length_filter_le (fun c => c == x) cs
  omega
theorem cnt_yes {x : Int} {cs : List Int} {k : Nat} (h : k < cs.length) (hx : (cs.getD k 0 == x) = true) : cnt x (cs.take (k + 1)) = cnt x (cs.take k) + 1 := by
  have e : cs.getD k 0 = cs[k] := by simp [List.getD_eq_getElem?_getD, List.getElem?_eq_getElem h]
  rw [e] at hx
  unfold cnt
  rw [List.take_succ_eq_append_getElem h, List.filter_append, List.length_append, List.filter_cons, hx]
  simp
theorem cnt_no {x : Int} {cs : List Int} {k : Nat} (h : k < cs.length) (hx : (cs.getD k 0 == x) = false) : cnt x (cs.take (k + 1)) = cnt x (cs.take k) := by
  have e : cs.getD k 0 = cs[k] := by simp [List.getD_eq_getElem?_getD, List.getElem?_eq_getElem h]
  rw [e] at hx
  unfold cnt
  rw [List.take_succ_eq_append_getElem h, List.filter_append, List.length_append, List.filter_cons, hx]
  simp

theorem i_cnt (w : World) (B : Nat) (A : Option Addr) (n c : Nat) (cs : List Int) (x : Int) (h : Ints w B A n cs) (hn : n ≤ 1000000000) :
    Calls Tryd.prog 64 #[.slice A n c, .int .i64 x] w fun e w' => e = .returned (.int .i64 (cnt x cs)) ∧ w = w' := by
  have hl := h.1
  rcases h.2 with rfl | ⟨b, o, rfl, hlt, hc⟩
  · have hx : cs = [] := List.eq_nil_of_length_eq_zero hl
    subst hx
    clear h hl
    go_enter Tryd.func64, Tryd.ntmps64
    go_wp2_with fail
    go_rounds 1
    go_ret
    exact ⟨rfl, rfl⟩
  · have Hc := Lib.hid hc
    have Hl := Lib.hid hl
    clear hc h hl
    go_enter Tryd.func64, Tryd.ntmps64
    go_wp2_with fail
    go_loop [5, 10] (fun m i => ∃ k : Nat, k ≤ n ∧ i = .int .i64 k ∧ m = .int .i64 (cnt x (cs.take k))) (fun _ i => n - (intOf i).toNat)
    case atStart => exact ⟨0, by omega, rfl, rfl⟩
    case round =>
      obtain ⟨k, hk, rfl, rfl⟩ := hrel
      obtain ⟨b1, b2⟩ := cnt_bd x (cs.take k)
      have b3 : ((cs.take k).length : Int) ≤ k := by rw [List.length_take]; omega
      by_cases hlt : k < n
      · have c1 := Hc.out k hlt
        have hy := Lib.hid (cnt_yes (x := x) (cs := cs) (k := k) (by rw [Hl.out]; exact hlt))
        have hno := Lib.hid (cnt_no (x := x) (cs := cs) (k := k) (by rw [Hl.out]; exact hlt))
        obtain ⟨y, hyy⟩ : ∃ y, cs.getD k 0 = y := ⟨_, rfl⟩
        rw [hyy] at c1 hy hno
        clear hyy
        rcases Bool.eq_false_or_eq_true (y == x) with ht | ht
        · have Hy := Lib.hid (hy.out ht)
          clear hy hno
          go_wp2_with fail
          go_round
          case rel => exact ⟨k + 1, by omega, by go_num, by rw [Hy.out]⟩
          case measure => simp [intOf]; omega
        · have Hy := Lib.hid (hno.out ht)
          clear hy hno
          go_wp2_with fail
          go_round
          case rel => exact ⟨k + 1, by omega, by go_num, by rw [Hy.out]⟩
          case measure => simp [intOf]; omega
      · have hf : cnt x (cs.take k) = cnt x cs := by rw [List.take_of_length_le (by rw [Hl.out]; omega)]
        have Hf := Lib.hid hf
        clear hf
        go_wp2_with fail
        go_ret
        exact ⟨ret_int Hf.out, rfl⟩

def cntB (s : Int) (cs : List Int) (x : Int) : Int := if Bd.okB s cs then cnt x cs else -1

theorem i_count (s : Int) (w : World) (B : Nat) (A : Option Addr) (n c : Nat) (cs : List Int) (x : Int) (h : Ints w B A n cs) (hB : B ≤ w.heap.size) (hn : n ≤ 1000000000) :
    Calls Tryd.prog 24 #[.agg #[.int .i64 s, .slice A n c], .int .i64 x] w fun e w' => e = .returned (.int .i64 (cntB s cs x)) ∧ Below w.heap.size w w' := by
  have hb1 : Below w.heap.size w (w.alloc (.cells #[.int .i64 s, .slice A n c] 25)) := (Below.refl _ _).alloc (Nat.le_refl _) _
  have H := Lib.hid (h.below hb1 hB)
  have Hb := Lib.hid hb1
  have Bxx := Lib.hid (Bx.new 25 w s (.slice A n c))
  clear hb1 h
  by_cases hv : Bd.okB s cs = true
  · have Hf := Lib.hid (show cntB s cs x = cnt x cs by rw [cntB, if_pos hv])
    go_enter Tryd.func24, Tryd.ntmps24
    go_wp2_with fail
    refine (i_validBoard _ _ _ _ _ _ _ H.out (by simp; omega) hn).mono ?_
    rintro e y ⟨rfl, hb⟩
    have v0 := (Bxx.out.below hb (by simp)).cell0
    have v1 := (Bxx.out.below hb (by simp)).cell1
    have H2 := Lib.hid (H.out.below hb (by simp; omega))
    have Hb2 := Lib.hid (Hb.out.trans (hb.mono (by simp)))
    clear hb
    rw [hv]
    go_wp2_with fail
    refine (i_cnt _ _ _ _ _ _ _ H2.out hn).mono ?_
    rintro e y2 ⟨rfl, rfl⟩
    go_wp2_with fail
    go_ret
    exact ⟨ret_int Hf.out.symm, Hb2.out⟩
  · have hv' : Bd.okB s cs = false := by simpa using hv
    have Hf := Lib.hid (show cntB s cs x = -1 by rw [cntB, if_neg hv])
    go_enter Tryd.func24, Tryd.ntmps24
    go_wp2_with fail
    refine (i_validBoard _ _ _ _ _ _ _ H.out (by simp; omega) hn).mono ?_
    rintro e y ⟨rfl, hb⟩
    have Hb2 := Lib.hid (Hb.out.trans (hb.mono (by simp)))
    clear hb hv
    rw [hv']
    go_wp2_with fail
    go_ret
    exact ⟨ret_int Hf.out.symm, Hb2.out⟩
end Go.Proofs.YtpogjegihhljpaaDoor

namespace Go.Proofs.YtpogjegihhljpaaDoor
set_option maxRecDepth 100000
open Go.RowKit

theorem cnt_ix (x : Int) {n : Nat} {cs : List Int} (hl : cs.length = n) : cnt x cs = ((List.range n).filter fun i => cs.getD i 0 == x).length := by
  have e : cs = (List.range n).map fun p => cs.getD p 0 := by
    refine List.ext_getElem (by simp [hl]) fun i h1 h2 => ?_
    simp [List.getD_eq_getElem?_getD, List.getElem?_eq_getElem h1]
  unfold cnt
  conv => lhs; rw [e]
  rw [List.filter_map, List.length_map]
  rfl
theorem split_len (l : List Nat) (p q : Nat → Bool) (h : ∀ i ∈ l, q i = true → p i = true) : (l.filter p).length = (l.filter fun i => p i && !q i).length + (l.filter q).length := by
  induction l with
  | nil => rfl
  | cons a l ih =>
    have ih := ih fun i hi => h i (List.mem_cons_of_mem _ hi)
    have ha := h a (List.mem_cons_self ..)
    rcases hp : p a with _ | _ <;> rcases hq : q a with _ | _ <;> simp [hp, hq, ih] at ha ⊢ <;> omega
theorem pts_len_ix (S : List Bool) (n : Nat) : (Fl.pts S n).length = ((List.range n).filter fun i => S.getD i false).length := by unfold Fl.pts; rw [List.length_map]

/-- The color whose groups are taken away loses as many stones as are told. -/
theorem RI.own_cnt {s x : Int} {n : Nat} {cs os : List Int} {S : List Bool} (h : RI s n cs x n S os) (hl : cs.length = n) (hx : x ≠ 0) : cnt x os = cnt x cs - (Fl.pts S n).length := by
  rw [cnt_ix x h.olen, cnt_ix x hl, pts_len_ix]
  have e := split_len (List.range n) (fun i => cs.getD i 0 == x) (fun i => S.getD i false) fun i hi hs => by
    have := ((h.yes i (List.mem_range.1 hi)).1 hs).2.1
    simpa using this
  have e2 : (List.range n).filter (fun i => os.getD i 0 == x) = (List.range n).filter (fun i => (cs.getD i 0 == x) && !S.getD i false) := by
    apply List.filter_congr
    intro i hi
    rw [h.out i (List.mem_range.1 hi)]
    rcases S.getD i false with _ | _
    · simp
    · simp; exact fun e => hx e.symm
  rw [e2, e]; omega
/-- Empty points come from the stones that are taken away. -/
theorem RI.empty_cnt {s x : Int} {n : Nat} {cs os : List Int} {S : List Bool} (h : RI s n cs x n S os) (hl : cs.length = n) (hx : x ≠ 0) : cnt 0 os = cnt 0 cs + (Fl.pts S n).length := by
  rw [cnt_ix 0 h.olen, cnt_ix 0 hl, pts_len_ix]
  have e := split_len (List.range n) (fun i => os.getD i 0 == 0) (fun i => S.getD i false) fun i hi hs => by
    rw [h.out i (List.mem_range.1 hi), hs]; rfl
  have e2 : (List.range n).filter (fun i => (os.getD i 0 == 0) && !S.getD i false) = (List.range n).filter (fun i => cs.getD i 0 == 0) := by
    apply List.filter_congr
    intro i hi
    rw [h.out i (List.mem_range.1 hi)]
    rcases e3 : S.getD i false with _ | _
    · simp
    · have := ((h.yes i (List.mem_range.1 hi)).1 e3).2.1
      rw [this]
      simp; exact hx
  rw [e, e2]; omega
theorem set_cnt {n p : Nat} {cs : List Int} (hl : cs.length = n) (hp : p < n) (h0 : cs.getD p 0 = 0) {x z : Int} (hz : z ≠ x) (hz0 : z ≠ 0) : cnt z (cs.set p x) = cnt z cs := by
  rw [cnt_ix (n := n) z (by rw [List.length_set]; exact hl), cnt_ix z hl]
  have e2 : (List.range n).filter (fun i => (cs.set p x).getD i 0 == z) = (List.range n).filter (fun i => cs.getD i 0 == z) := by
    apply List.filter_congr
    intro i hi
    rw [Un.getD_set _ _ _ _ (by omega)]
    split
    · rename_i e
      subst e
      rw [h0]
      have a : (x == z) = false := by simpa using fun e : x = z => hz e.symm
      have b : ((0 : Int) == z) = false := by simpa using fun e : (0 : Int) = z => hz0 e.symm
      rw [a, b]
    · rfl
  rw [e2]
theorem set_cnt0 {n p : Nat} {cs : List Int} (hl : cs.length = n) (hp : p < n) (h0 : cs.getD p 0 = 0) {x : Int} (hx : x ≠ 0) : cnt 0 (cs.set p x) = cnt 0 cs - 1 := by
  rw [cnt_ix (n := n) 0 (by rw [List.length_set]; exact hl), cnt_ix 0 hl]
  have e := split_len (List.range n) (fun i => cs.getD i 0 == 0) (fun i => i == p) fun i hi hs => by
    have : i = p := by simpa using hs
    rw [this, h0]; rfl
  have e2 : (List.range n).filter (fun i => (cs.set p x).getD i 0 == 0) = (List.range n).filter (fun i => (cs.getD i 0 == 0) && !(i == p)) := by
    apply List.filter_congr
    intro i hi
    rw [Un.getD_set _ _ _ _ (by omega)]
    split
    · rename_i e; subst e
      simpa using hx
    · rename_i e
      have : (i == p) = false := by simpa using e
      rw [this]; simp
  have e3 : ((List.range n).filter (fun i => i == p)).length = 1 := by
    rw [← List.count_eq_length_filter, List.count_range]
    simp [hp]
  rw [e2, e, e3]; omega

theorem Plays.cnts {s x : Int} {n p : Nat} {cs : List Int} {su : Bool} {os gs : List Int} (h : Plays s n cs x p su (some (os, gs))) (hl : cs.length = n) (hp : p < n) (x1 : 1 ≤ x) (x2 : x ≤ 2) :
    cnt 0 os = cnt 0 cs - 1 + gs.length ∧ (su = false → cnt (3 - x) os = cnt (3 - x) cs - gs.length) := by
  have ho : oth x = 3 - x := by
    have : x = 1 ∨ x = 2 := by omega
    rcases this with rfl | rfl <;> decide
  have hl1 : (cs.set p x).length = n := by rw [List.length_set]; exact hl
  cases h with
  | lives S _ h0 hr _ =>
    rw [ho] at hr
    have a := hr.empty_cnt hl1 (by omega)
    have b := hr.own_cnt hl1 (by omega)
    rw [set_cnt0 hl hp h0 (by omega)] at a
    rw [set_cnt hl hp h0 (by omega) (by omega)] at b
    exact ⟨a, fun _ => b⟩
  | both S os1 S2 _ _ k h0 hr _ hs hr2 hso hk =>
    rw [ho] at hr
    have a := hr.empty_cnt hl1 (by omega)
    rw [set_cnt0 hl hp h0 (by omega)] at a
    have b := hr2.empty_cnt hr.olen (by omega)
    have c := hso.len
    rw [List.length_append] at c
    exact ⟨by rw [b, a, c]; omega, fun e => by rw [hs] at e; cases e⟩

theorem cb_b (s : Int) (w : World) (A : Option Addr) (n c : Nat) (cs : List Int) (x N : Int) (h : Ints w w.heap.size A n cs) (hn : n ≤ 49) (hN : cntB s cs x = N) :
    Calls Tryd.prog 24 #[.agg #[.int .i64 s, .slice A n c], .int .i64 x] w fun e w' => e = .returned (.int .i64 N) ∧ Below w.heap.size w w' := by
  have := i_count s w w.heap.size A n c cs x h (Nat.le_refl _) (by omega)
  rwa [hN] at this
/-- A move that is possible, as it is told by 'PlayStone'. -/
theorem PlB.of {s x : Int} {n q : Nat} {cs : List Int} {su : Bool} {R : Option (List Int × List Int)} (hv : Bd.okB s cs = true) (hl : cs.length = n) (hq : q < n) (x1 : 1 ≤ x) (x2 : x ≤ 2) (h : Plays s n cs x q su R) : PlB s n cs x (q : Nat) su R := by
  obtain ⟨q1, q2, q3, _⟩ := (Bd.okB_iff s cs).1 hv
  unfold PlB
  rw [if_pos ⟨hv, ⟨x1, x2⟩, (Pt.okP_iff s (q : Int)).2 ⟨q1, q2, by omega, by omega⟩⟩]
  exact h
theorem okB_play {s x : Int} {n q : Nat} {cs : List Int} {su : Bool} {os gs : List Int} (hv : Bd.okB s cs = true) (hl : cs.length = n) (x1 : 1 ≤ x) (x2 : x ≤ 2) (h : Plays s n cs x q su (some (os, gs))) : Bd.okB s os = true := by
  obtain ⟨q1, q2, q3, q4⟩ := (Bd.okB_iff s cs).1 hv
  have := h.ok hl (okL_mem.2 q4) x1 x2
  exact (Bd.okB_iff s os).2 ⟨q1, q2, by rw [this.1, ← hl]; exact q3, okL_mem.1 this.2.1⟩
theorem Tab.dr {w : World} (h : Tab w) : Tab w.drew := h
theorem ErrW.dr {w : World} (h : ErrW w) : ErrW w.drew := h
theorem tab_dr {w : World} (h : Tab w) : Tab w.drew := h
theorem err_dr {w : World} (h : ErrW w) : ErrW w.drew := h
theorem Ints.dr {w : World} {n : Nat} {A : Option Addr} {xs : List Int} (h : Ints w w.heap.size A n xs) : Ints w.drew w.drew.heap.size A n xs := h
/-- A move in a law: its board in a box, its list, and 'true'. -/
def PlRel (s : Int) (n : Nat) (os gs : List Int) (W : World) (p l b : Value) (wx : World) : Prop :=
  ∃ (A3 : Option Addr) (c3 : Nat) (A4 : Option Addr) (n4 c4 gb : Nat), p = .pointer (some ⟨gb, 0, none⟩) ∧ l = .slice A4 n4 c4 ∧ b = .bool true ∧ Bx 25 wx gb s (.slice A3 n c3) ∧ Ints wx wx.heap.size A3 n os ∧ Ints wx wx.heap.size A4 n4 gs ∧ Below W.heap.size W wx
theorem PlRel.make {s : Int} {n c3 n4 c4 m1 m2 : Nat} {os gs : List Int} {W y : World} {A3 A4 : Option Addr} (h3 : Own y m1 A3 n c3 os) (h4 : Own y m2 A4 n4 c4 gs) (hb : Below W.heap.size W y) :
    PlRel s n os gs W (.pointer (some ⟨y.heap.size, 0, none⟩)) (.slice A4 n4 c4) (.bool true) (y.alloc (.cells #[.int .i64 s, .slice A3 n c3] 25)) := by
  have hb2 : Below y.heap.size y (y.alloc (.cells #[.int .i64 s, .slice A3 n c3] 25)) := (Below.refl _ _).alloc (Nat.le_refl _) _
  exact ⟨A3, c3, A4, n4, c4, _, rfl, rfl, rfl, Bx.new _ _ _ _, (h3.below hb2).ints, (h4.below hb2).ints, hb.trans (hb2.mono hb.size)⟩
/-- The same where the box was made ahead of the answer. -/
theorem PlRel.late {s : Int} {n c3 n4 c4 m1 m2 g : Nat} {os gs : List Int} {W y : World} {A3 A4 : Option Addr} {t : Int} {u : Value} (hx : Bx 25 y g t u) (h3 : Own y m1 A3 n c3 os) (h4 : Own y m2 A4 n4 c4 gs) (k3 : g < m1 ∨ ∀ q, A3 = some ⟨q, 0, none⟩ → q ≠ g) (k4 : g < m2 ∨ ∀ q, A4 = some ⟨q, 0, none⟩ → q ≠ g) (hb : Below W.heap.size W y) (hg : W.heap.size ≤ g) :
    PlRel s n os gs W (.pointer (some ⟨g, 0, none⟩)) (.slice A4 n4 c4) (.bool true) ((y.setCell ⟨g, 0, none⟩ (.int .i64 s)).setCell ⟨g, 1, none⟩ (.slice A3 n c3)) := by
  have f3 : ∀ q, A3 = some ⟨q, 0, none⟩ → q ≠ g := fun q e => by
    rcases k3 with k | k
    · have := (h3.ge e).1; omega
    · exact k q e
  have f4 : ∀ q, A4 = some ⟨q, 0, none⟩ → q ≠ g := fun q e => by
    rcases k4 with k | k
    · have := (h4.ge e).1; omega
    · exact k q e
  exact ⟨A3, c3, A4, n4, c4, g, rfl, rfl, rfl, (hx.set0 s).set1 _, ((h3.far ⟨g, 0, none⟩ f3 (.int .i64 s)).far ⟨g, 1, none⟩ f3 (.slice A3 n c3)).ints, ((h4.far ⟨g, 0, none⟩ f4 (.int .i64 s)).far ⟨g, 1, none⟩ f4 (.slice A3 n c3)).ints, (hb.setCell (p := ⟨g, 0, none⟩) hg (.int .i64 s)).setCell (p := ⟨g, 1, none⟩) hg (.slice A3 n c3)⟩
theorem PlRel.late2 {s : Int} {n c3 n4 c4 m1 m2 : Nat} {os gs : List Int} {W y : World} {A3 A4 : Option Addr} (h3 : Own y m1 A3 n c3 os) (h4 : Own y m2 A4 n4 c4 gs) (hb : Below W.heap.size W y) :
    PlRel s n os gs W (.pointer (some ⟨y.heap.size, 0, none⟩)) (.slice A4 n4 c4) (.bool true) (((y.alloc (.cells #[.int .i64 0, .slice none 0 0] 25)).setCell ⟨y.heap.size, 0, none⟩ (.int .i64 s)).setCell ⟨y.heap.size, 1, none⟩ (.slice A3 n c3)) := by
  have hb2 : Below y.heap.size y (y.alloc (.cells #[.int .i64 0, .slice none 0 0] 25)) := (Below.refl _ _).alloc (Nat.le_refl _) _
  exact PlRel.late (Bx.new 25 y 0 (.slice none 0 0)) (h3.below hb2) (h4.below hb2) (.inr fun q e => by have := (h3.ge e).2; omega) (.inr fun q e => by have := (h4.ge e).2; omega) (hb.trans (hb2.mono hb.size)) hb.size
end Go.Proofs.YtpogjegihhljpaaDoor

namespace Go.Proofs.YtpogjegihhljpaaDoor
set_option maxRecDepth 100000
open Go.RowKit

def DrawnLB (w : World) (e : Ending) (w' : World) : Prop :=
  ∃ (s : Int) (A : Option Addr) (n c : Nat) (cs : List Int) (x : Int) (b : Bool), e = .returned (.tuple #[.agg #[.int .i64 s, .slice A n c], .int .i64 x, .bool b]) ∧ Ints w' w'.heap.size A n cs ∧ n ≤ 49 ∧ 0 ≤ s ∧ s ≤ 8 ∧ -1 ≤ x ∧ x ≤ 8 ∧ Below w.heap.size w w'

set_option maxRecDepth 100000 in
set_option maxHeartbeats 2000000 in
theorem d_poss (w : World) (a : Option Addr) (len cap : Nat) (zs : List Int) (h : IsRow .u8 w a len cap zs) :
    Calls Tryd.prog 20 #[.slice a len cap] w fun e w' => DrawnLB w e w' := by
  have hb1 : Below w.heap.size w (w.alloc (.cells #[.int .i64 0, .slice none 0 0] 25)) := (Below.refl _ _).alloc (Nat.le_refl _) _
  have X2 := Lib.hid (Bx.new 25 w 0 (.slice none 0 0))
  have Hb := Lib.hid hb1
  have hsz : (w.alloc (.cells #[.int .i64 0, .slice none 0 0] 25)).heap.size = w.heap.size + 1 := by simp
  have Hsz := Lib.hid hsz
  have H := Lib.hid (h.below hb1)
  clear h hb1 hsz
  go_enter Tryd.func20, Tryd.ntmps20
  go_wp2_with fail
  refine (r_new _ _ _ _ zs H.out).mono ?_
  rintro e y ⟨g, rfl, hr, hb⟩
  have Hg := Lib.hid hr.1
  rw [Hsz.out] at Hg
  have hg1 := Hg.out
  have X2 := Lib.hid (X2.out.below hb X2.out.lt)
  have Hb := Lib.hid (Hb.out.trans (hb.mono (by rw [Hsz.out]; omega)))
  have zy := X2.out.lt
  obtain ⟨Bq, Hr⟩ : ∃ Bq, Hid (Rdr y Bq g 0) := ⟨_, Lib.hid hr⟩
  clear hr hb
  go_wp2_with fail
  have hgy := Hr.out.lt
  refine (r_any Bq g 0 _ Hr.out (by omega)).mono ?_
  rintro e y2 ⟨s, A, n, c, cs, q', rfl, hi, hn, s0, s8, hr, hq, hg⟩
  have X2 := Lib.hid (X2.out.grown hg (fun e => by have := Option.some.inj e; omega))
  have Hb := Lib.hid (Hb.out.trans (below_g hg (by omega) (fun k hk => by have := Option.some.inj hk; omega)))
  have Hi := Lib.hid hi
  have Hr := Lib.hid hr
  have hgl := hr.lt
  have zz := hg.size
  clear hi hr hg
  go_upto_region 3 with (fail)
  obtain ⟨y3, hy3, hb3, z3, z4⟩ := new_box y2 (.cells #[.int .i64 s, .slice A n c] 25)
  have X5 : Hid (Bx 25 y3 y2.heap.size s (.slice A n c)) := Lib.hid (by rw [hy3]; exact Bx.new _ _ _ _)
  rw [← hy3]
  clear hy3
  have X2 := Lib.hid (X2.out.below hb3 X2.out.lt)
  have Hr := Lib.hid (Hr.out.below hb3 Hr.out.lt)
  have Hi := Lib.hid (Hi.out.below hb3)
  have Hb := Lib.hid (Hb.out.trans (hb3.mono (by omega)))
  clear hb3
  have t0 := X5.out.cell0
  have t1 := X5.out.cell1
  have t2 := X5.out.lt
  go_wp2_with fail
  refine (r_anyColor Bq g q' _ Hr.out (by omega)).mono ?_
  rintro e y4 ⟨x, rfl, hx, hr, hg⟩
  have hx8 : -1 ≤ x ∧ x ≤ 8 := by omega
  have X2 := Lib.hid (X2.out.grown hg (fun e => by have := Option.some.inj e; omega))
  have X5 := Lib.hid (X5.out.grown hg (fun e => by have := Option.some.inj e; omega))
  have Hi := Lib.hid (Hi.out.grown hg (by omega))
  have Hb := Lib.hid (Hb.out.trans (below_g hg (by omega) (fun k hk => by have := Option.some.inj hk; omega)))
  have Hr := Lib.hid hr
  have z5 := hg.size
  clear hr hg hx t0 t1 t2
  have t0 := X5.out.cell0
  have t1 := X5.out.cell1
  have t2 := X5.out.lt
  go_upto_region 4 with (fail)
  go_region_with (first | (go_at_call 45; refine (r_pick Bq g (q' + 1) 2 _ (by exact Hr.out) (by omega)).mono ?_; rintro e y5 ⟨p, rfl, hp1, hp2, hr, hg⟩; have hg5 : y4.grownBy y5 (some g) := ⟨hg.os, hg.tape, hg.output, hg.size, hg.block⟩; have HX2 := Lib.hid (X2.out.grown hg5 (fun e => by have := Option.some.inj e; omega)); have HX5 := Lib.hid (X5.out.grown hg5 (fun e => by have := Option.some.inj e; omega)); have HI := Lib.hid (Hi.out.grown hg5 (by omega)); have HB := Lib.hid (Hb.out.trans (below_g hg5 (by omega) (fun k hk => by have := Option.some.inj hk; omega))); have u0 := HX5.out.cell0; have u1 := HX5.out.cell1; have u2 := HX5.out.lt; have r0 := HX2.out.cell0; have r1 := HX2.out.cell1; have r2 := HX2.out.frozen 0; have r3 := HX2.out.frozen 1; have r4 := HX2.out.lt; clear hr hg hg5))
  all_goals go_wp2_with fail
  all_goals
    have k0 := (HX2.out.set0 s).cell0
    have k1 := ((HX2.out.set0 s).set1 (.slice A n c)).cell1
    refine bodyPost_ret (v := .tuple #[.agg #[.int .i64 s, .slice A n c], .int .i64 x, .bool (p == 0)]) (by simp [results, Tryd.results20, go_sem, k0, k1]) rfl ?_
    have hi3 := ((HI.out.far ⟨w.heap.size, 0, none⟩ (by show w.heap.size < y.heap.size; omega) (.int .i64 s)).far ⟨w.heap.size, 1, none⟩ (by show w.heap.size < y.heap.size; omega) (.slice A n c)).ints
    have hb3 := (HB.out.setCell (p := ⟨w.heap.size, 0, none⟩) (Nat.le_refl _) (.int .i64 s)).setCell (p := ⟨w.heap.size, 1, none⟩) (Nat.le_refl _) (.slice A n c)
    exact ⟨_, _, _, _, _, _, _, rfl, hi3, hn, s0, s8, hx8.1, hx8.2, hb3⟩
end Go.Proofs.YtpogjegihhljpaaDoor

namespace Go.Proofs.YtpogjegihhljpaaDoor
set_option maxRecDepth 100000
open Go.RowKit

theorem PPs.count {P : Nat → Prop} {f : Nat → Bool} : ∀ {k : Nat} {l : List Int}, PPs P k l → (∀ q, q < k → (P q ↔ f q = true)) → l.length = ((List.range k).filter f).length
  | 0, _, h, _ => by
    have h : _ = [] := h
    rw [h]; rfl
  | k + 1, _, ⟨l0, h0, h⟩, hf => by
    have ih := PPs.count h0 fun q hq => hf q (by omega)
    rw [List.range_succ, List.filter_append, List.length_append, ← ih]
    rcases h with ⟨a, rfl⟩ | ⟨a, rfl⟩
    · have := (hf k (by omega)).1 a
      simp [this]
    · have : f k = false := by
        rcases e : f k with _ | _
        · rfl
        · exact absurd ((hf k (by omega)).2 e) a
      simp [this]

theorem can_iff {s x : Int} {n q : Nat} {cs : List Int} {su : Bool} {R : Option (List Int × List Int)} (h : Plays s n cs x q su R) : CanP s n cs x su q ↔ R.isSome = true := by
  constructor
  · rintro ⟨r, hr⟩
    rw [h.one hr]; rfl
  · intro e
    cases R with
    | none => cases e
    | some r => exact ⟨r, h⟩
theorem pos_in {s x : Int} {n q : Nat} {cs lr : List Int} {su : Bool} {R : Option (List Int × List Int)} (hv : Bd.okB s cs = true) (hl : cs.length = n) (x1 : 1 ≤ x) (x2 : x ≤ 2) (hq : q < n) (hI : PosIs s n cs x su lr) (hR : PlB s n cs x (q : Nat) su R) : decide ((q : Int) ∈ lr) = R.isSome := by
  have hok : okX s cs x = true := by rw [okX, hv, decide_eq_true x1, decide_eq_true x2]; rfl
  have hm := (hI.1 hok).mem (q : Int)
  obtain ⟨q1, q2, q3, _⟩ := (Bd.okB_iff s cs).1 hv
  have hp : Plays s n cs x q su R := by
    unfold PlB at hR
    rw [if_pos ⟨hv, ⟨x1, x2⟩, (Pt.okP_iff s (q : Int)).2 ⟨q1, q2, by omega, by omega⟩⟩] at hR
    exact hR
  have hc := can_iff hp
  rcases e : R.isSome with _ | _
  · rw [decide_eq_false_iff_not, hm]
    rintro ⟨q', a, _, b⟩
    obtain rfl : q = q' := by omega
    have := hc.1 b
    rw [e] at this; cases this
  · rw [decide_eq_true_iff, hm]
    exact ⟨q, rfl, hq, hc.2 e⟩
/-- With suicide, a stone is possible wherever no stone stands. -/
theorem all_can {s x : Int} {n : Nat} {cs lr : List Int} (hv : Bd.okB s cs = true) (hl : cs.length = n) (x1 : 1 ≤ x) (x2 : x ≤ 2) (hI : PosIs s n cs x true lr) : cntB s cs 0 = (lr.length : Nat) := by
  have hok : okX s cs x = true := by rw [okX, hv, decide_eq_true x1, decide_eq_true x2]; rfl
  obtain ⟨q1, q2, q3, _⟩ := (Bd.okB_iff s cs).1 hv
  obtain ⟨k, rfl⟩ := Int.eq_ofNat_of_zero_le (show 0 ≤ s by omega)
  rw [cntB, if_pos hv, cnt_ix 0 hl]
  rw [(hI.1 hok).count (f := fun i => cs.getD i 0 == 0) fun q hq => ?_]
  constructor
  · rintro ⟨r, hr⟩
    simpa using plays_empty hr
  · intro e
    have e : cs.getD q 0 = 0 := by simpa using e
    obtain ⟨R, hR⟩ := plays_make k n q cs x true hv hl hq x1 x2
    cases hR with
    | taken h0 => exact absurd e h0
    | lives S os h0 hr hn => exact ⟨_, .lives S os h0 hr hn⟩
    | lost _ _ _ _ _ hs => cases hs
    | both S os S2 os2 gs k h0 hr hn hs hr2 hso hk => exact ⟨_, .both S os S2 os2 gs k h0 hr hn hs hr2 hso hk⟩

theorem i_PossT (s x : Int) (su : Bool) (w : World) (A : Option Addr) (n c : Nat) (cs lr : List Int) (N : Nat) (h : Ints w w.heap.size A n cs) (hn : n ≤ 49) (ht : Tab w) (he : ErrW w) (hI : Hid (PosIs s n cs x su lr)) (hN : lr.length = N) :
    Calls Tryd.prog 21 #[.agg #[.int .i64 s, .slice A n c], .int .i64 x, .bool su] w fun e w' => ∃ A c, e = .returned (.slice A N c) ∧ Own w' w.heap.size A N c lr ∧ Below w.heap.size w w' := by
  refine (i_Poss s x su w _ A n c cs lr h (Nat.le_refl _) (by omega) hI ht he).mono ?_
  rintro e w' ⟨A1, n1, c1, rfl, ho, hb⟩
  obtain rfl : N = n1 := by rw [← hN]; exact ho.1
  exact ⟨_, _, rfl, ho, hb⟩
end Go.Proofs.YtpogjegihhljpaaDoor

