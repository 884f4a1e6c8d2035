/-
  Names of points in both packages.
-/
import Derived.Test.YtcloolldnjhljaaDoorSpecB
import Derived.Test.YtcloolldnjhljaaDoorImplPtB
import Derived.RegionTactic
import Derived.Laws.BytesArg
import Derived.Laws.Runes
namespace Go.Proofs.YtcloolldnjhljaaDoor
set_option maxRecDepth 100000
open Go.RowKit

/-- The name of the point in row r and column c. -/
def nmRC (r c : Int) : ByteArray := strOfNums [65 + c, 49 + r]
def nm (s p : Int) : ByteArray := if Pt.okP s p then nmRC (p / s) (p % s) else ⟨#[]⟩

theorem enc_one (n : Int) (h0 : 0 ≤ n) (h1 : n < 128) : Utf8.encode n = strOfNums [n] := by
  have hv : Utf8.valid n = true := by unfold Utf8.valid; simp; omega
  have hc : n.toNat < 128 := by omega
  unfold Utf8.encode
  simp only [hv, if_true, hc]
  rfl

theorem i_small (n : Int) (w : World) (h1 : 1 ≤ n) (h2 : n ≤ 7) :
    Calls Tryd.prog 51 #[.int .i64 n] w fun e w' => e = .returned (.string (strOfNums [48 + n])) ∧ w = w' := by
  have h : n = 1 ∨ n = 2 ∨ n = 3 ∨ n = 4 ∨ n = 5 ∨ n = 6 ∨ n = 7 := by omega
  rcases h with rfl | rfl | rfl | rfl | rfl | rfl | rfl
  all_goals
    go_enter Tryd.func51, Tryd.ntmps51
    go_wp2_with fail
    go_ret
    exact ⟨rfl, rfl⟩

theorem i_itoa (n : Int) (w : World) (h1 : 1 ≤ n) (h2 : n ≤ 7) :
    Calls Tryd.prog 35 #[.int .i64 n] w fun e w' => e = .returned (.string (strOfNums [48 + n])) ∧ Below w.heap.size w w' := by
  go_enter Tryd.func35, Tryd.ntmps35
  go_wp2_with (first | (go_at_call 51; refine (i_small _ _ h1 h2).mono ?_; rintro e w' ⟨rfl, rfl⟩) | go_in)
  go_ret
  exact ⟨rfl, Below.refl _ _⟩

theorem s_PN (s p : Int) (w : World) :
    Calls Tryd.prog 22 #[.int .i64 s, .int .i64 p] w fun e w' => e = .returned (.string (nm s p)) ∧ Below w.heap.size w w' := by
  by_cases hp : Pt.okP s p = true
  · obtain ⟨h1, h2, h3, h4⟩ := (Pt.okP_iff s p).1 hp
    obtain ⟨d1, d2, d3, d4, d5⟩ := Pt.dm s p h1 h2 h3 h4
    have hb49 := Pt.sq_bd s h1 h2
    have hp49 : p ≤ 48 := by omega
    have hfin : nm s p = nmRC (p / s) (p % s) := by rw [nm, if_pos hp]
    rw [hfin]
    clear d5 hfin
    obtain ⟨r, hr⟩ : ∃ r, p / s = r := ⟨_, rfl⟩
    obtain ⟨c, hc⟩ : ∃ c, p % s = c := ⟨_, rfl⟩
    rw [hr, hc]
    rw [hr] at d1 d2
    rw [hc] at d3 d4
    have HP := Lib.hid hp
    clear hp
    go_enter Tryd.func22, Tryd.ntmps22
    go_wp2_with fail
    refine (s_point _ _ _).mono ?_
    rintro e w' ⟨rfl, rfl⟩
    rw [HP.out]
    have hconv := run_convert_bytes_arg (P := Tryd.prog) (w.alloc (.cells #[.int .u8 (65 + c), .int .u8 (49 + r)] 5)).drew 27 5 Tryd.underlying27 Tryd.underlying5 w.heap.size 0 2 2 [65 + c, 49 + r] rfl (fun i hi => by
      rw [World.cell?_drew, World.cell?_alloc_at _ _ _ _ rfl]
      have : i = 0 ∨ i = 1 := by omega
      rcases this with rfl | rfl <;> simp) 9 Tryd.underlying9
    go_wp2_with fail
    go_region
    all_goals go_wp2_with fail
    all_goals go_ret
    all_goals exact ⟨rfl, (Below.refl _ _).alloc (Nat.le_refl _) _ |>.drew⟩
  · have hp' : Pt.okP s p = false := by simpa using hp
    have hfin : nm s p = ⟨#[]⟩ := by rw [nm, if_neg hp]
    have HF := Lib.hid hfin
    have HP := Lib.hid hp'
    clear hp hp' hfin
    go_enter Tryd.func22, Tryd.ntmps22
    go_wp2_with fail
    refine (s_point _ _ _).mono ?_
    rintro e w' ⟨rfl, rfl⟩
    rw [HP.out]
    go_wp2_with fail
    go_ret
    exact ⟨by rw [HF.out]; rfl, Below.refl _ _⟩
end Go.Proofs.YtcloolldnjhljaaDoor
