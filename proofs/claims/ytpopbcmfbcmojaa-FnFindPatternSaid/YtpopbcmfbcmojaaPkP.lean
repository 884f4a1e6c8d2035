/-
  Patterns as plain functions on numbers and lists of nine cells. No program is imported.
-/
import Derived.Test.YtpopbcmfbcmojaaPureMv
namespace Go.Proofs.Ytpopbcmfbcmojaa.Pk
set_option maxRecDepth 100000
open Go.Proofs.Ytpopbcmfbcmojaa

/-- The number of eight digits, the first one the lowest. -/
def enc (a b c d e f g h : Int) : Int := a + 4 * (b + 4 * (c + 4 * (d + 4 * (e + 4 * (f + 4 * (g + 4 * h))))))
def d4 (a : Int) : Prop := 0 ≤ a ∧ a ≤ 3
/-- The cells around the middle of a board of nine. -/
def pat : List Int → Int
  | [a, b, c, d, _, e, f, g, h] => enc a b c d e f g h
  | _ => 0
def cells (n : Int) : List Int := [n % 4, n / 4 % 4, n / 16 % 4, n / 64 % 4, 0, n / 256 % 4, n / 1024 % 4, n / 4096 % 4, n / 16384 % 4]
structure Good (cs : List Int) : Prop where
  ex : ∃ a b c d e f g h, cs = [a, b, c, d, 0, e, f, g, h] ∧ d4 a ∧ d4 b ∧ d4 c ∧ d4 d ∧ d4 e ∧ d4 f ∧ d4 g ∧ d4 h

theorem good_cells (n : Int) : Good (cells n) := by
  refine ⟨_, _, _, _, _, _, _, _, rfl, ?_⟩
  unfold d4
  omega
theorem pat_cells {n : Int} (h0 : 0 ≤ n) (h1 : n ≤ 65535) : pat (cells n) = n := by
  simp only [pat, cells, enc]
  omega
theorem cells_pat {cs : List Int} (hg : Good cs) : cells (pat cs) = cs ∧ 0 ≤ pat cs ∧ pat cs ≤ 65535 := by
  obtain ⟨a, b, c, d, e, f, g, h, rfl, ha, hb, hc, hd, he, hf, hg, hh⟩ := hg
  simp only [pat, cells, enc, List.cons.injEq, and_true]
  unfold d4 at *
  refine ⟨⟨?_, ?_, ?_, ?_, ?_, ?_, ?_, ?_, ?_⟩, ?_, ?_⟩ <;> first | trivial | omega
theorem at0 : Bd.imgN 3 0 0 = 0 ∧ Bd.imgN 3 0 1 = 1 ∧ Bd.imgN 3 0 2 = 2 ∧ Bd.imgN 3 0 3 = 3 ∧ Bd.imgN 3 0 4 = 4 ∧ Bd.imgN 3 0 5 = 5 ∧ Bd.imgN 3 0 6 = 6 ∧ Bd.imgN 3 0 7 = 7 ∧ Bd.imgN 3 0 8 = 8 := by decide +kernel
theorem mv0 (a b c d e f g h m : Int) : Bd.mv 3 0 [a, b, c, d, m, e, f, g, h] = [a, b, c, d, m, e, f, g, h] := by
  obtain ⟨i0, i1, i2, i3, i4, i5, i6, i7, i8⟩ := at0
  simp [Bd.mv, Bd.steps, i0, i1, i2, i3, i4, i5, i6, i7, i8, List.set]
theorem at1 : Bd.imgN 3 1 0 = 2 ∧ Bd.imgN 3 1 1 = 5 ∧ Bd.imgN 3 1 2 = 8 ∧ Bd.imgN 3 1 3 = 1 ∧ Bd.imgN 3 1 4 = 4 ∧ Bd.imgN 3 1 5 = 7 ∧ Bd.imgN 3 1 6 = 0 ∧ Bd.imgN 3 1 7 = 3 ∧ Bd.imgN 3 1 8 = 6 := by decide +kernel
theorem mv1 (a b c d e f g h m : Int) : Bd.mv 3 1 [a, b, c, d, m, e, f, g, h] = [f, d, a, g, m, b, h, e, c] := by
  obtain ⟨i0, i1, i2, i3, i4, i5, i6, i7, i8⟩ := at1
  simp [Bd.mv, Bd.steps, i0, i1, i2, i3, i4, i5, i6, i7, i8, List.set]
theorem at2 : Bd.imgN 3 2 0 = 8 ∧ Bd.imgN 3 2 1 = 7 ∧ Bd.imgN 3 2 2 = 6 ∧ Bd.imgN 3 2 3 = 5 ∧ Bd.imgN 3 2 4 = 4 ∧ Bd.imgN 3 2 5 = 3 ∧ Bd.imgN 3 2 6 = 2 ∧ Bd.imgN 3 2 7 = 1 ∧ Bd.imgN 3 2 8 = 0 := by decide +kernel
theorem mv2 (a b c d e f g h m : Int) : Bd.mv 3 2 [a, b, c, d, m, e, f, g, h] = [h, g, f, e, m, d, c, b, a] := by
  obtain ⟨i0, i1, i2, i3, i4, i5, i6, i7, i8⟩ := at2
  simp [Bd.mv, Bd.steps, i0, i1, i2, i3, i4, i5, i6, i7, i8, List.set]
theorem at3 : Bd.imgN 3 3 0 = 6 ∧ Bd.imgN 3 3 1 = 3 ∧ Bd.imgN 3 3 2 = 0 ∧ Bd.imgN 3 3 3 = 7 ∧ Bd.imgN 3 3 4 = 4 ∧ Bd.imgN 3 3 5 = 1 ∧ Bd.imgN 3 3 6 = 8 ∧ Bd.imgN 3 3 7 = 5 ∧ Bd.imgN 3 3 8 = 2 := by decide +kernel
theorem mv3 (a b c d e f g h m : Int) : Bd.mv 3 3 [a, b, c, d, m, e, f, g, h] = [c, e, h, b, m, g, a, d, f] := by
  obtain ⟨i0, i1, i2, i3, i4, i5, i6, i7, i8⟩ := at3
  simp [Bd.mv, Bd.steps, i0, i1, i2, i3, i4, i5, i6, i7, i8, List.set]
theorem at4 : Bd.imgN 3 4 0 = 2 ∧ Bd.imgN 3 4 1 = 1 ∧ Bd.imgN 3 4 2 = 0 ∧ Bd.imgN 3 4 3 = 5 ∧ Bd.imgN 3 4 4 = 4 ∧ Bd.imgN 3 4 5 = 3 ∧ Bd.imgN 3 4 6 = 8 ∧ Bd.imgN 3 4 7 = 7 ∧ Bd.imgN 3 4 8 = 6 := by decide +kernel
theorem mv4 (a b c d e f g h m : Int) : Bd.mv 3 4 [a, b, c, d, m, e, f, g, h] = [c, b, a, e, m, d, h, g, f] := by
  obtain ⟨i0, i1, i2, i3, i4, i5, i6, i7, i8⟩ := at4
  simp [Bd.mv, Bd.steps, i0, i1, i2, i3, i4, i5, i6, i7, i8, List.set]
theorem at5 : Bd.imgN 3 5 0 = 8 ∧ Bd.imgN 3 5 1 = 5 ∧ Bd.imgN 3 5 2 = 2 ∧ Bd.imgN 3 5 3 = 7 ∧ Bd.imgN 3 5 4 = 4 ∧ Bd.imgN 3 5 5 = 1 ∧ Bd.imgN 3 5 6 = 6 ∧ Bd.imgN 3 5 7 = 3 ∧ Bd.imgN 3 5 8 = 0 := by decide +kernel
theorem mv5 (a b c d e f g h m : Int) : Bd.mv 3 5 [a, b, c, d, m, e, f, g, h] = [h, e, c, g, m, b, f, d, a] := by
  obtain ⟨i0, i1, i2, i3, i4, i5, i6, i7, i8⟩ := at5
  simp [Bd.mv, Bd.steps, i0, i1, i2, i3, i4, i5, i6, i7, i8, List.set]
theorem at6 : Bd.imgN 3 6 0 = 6 ∧ Bd.imgN 3 6 1 = 7 ∧ Bd.imgN 3 6 2 = 8 ∧ Bd.imgN 3 6 3 = 3 ∧ Bd.imgN 3 6 4 = 4 ∧ Bd.imgN 3 6 5 = 5 ∧ Bd.imgN 3 6 6 = 0 ∧ Bd.imgN 3 6 7 = 1 ∧ Bd.imgN 3 6 8 = 2 := by decide +kernel
theorem mv6 (a b c d e f g h m : Int) : Bd.mv 3 6 [a, b, c, d, m, e, f, g, h] = [f, g, h, d, m, e, a, b, c] := by
  obtain ⟨i0, i1, i2, i3, i4, i5, i6, i7, i8⟩ := at6
  simp [Bd.mv, Bd.steps, i0, i1, i2, i3, i4, i5, i6, i7, i8, List.set]
theorem at7 : Bd.imgN 3 7 0 = 0 ∧ Bd.imgN 3 7 1 = 3 ∧ Bd.imgN 3 7 2 = 6 ∧ Bd.imgN 3 7 3 = 1 ∧ Bd.imgN 3 7 4 = 4 ∧ Bd.imgN 3 7 5 = 7 ∧ Bd.imgN 3 7 6 = 2 ∧ Bd.imgN 3 7 7 = 5 ∧ Bd.imgN 3 7 8 = 8 := by decide +kernel
theorem mv7 (a b c d e f g h m : Int) : Bd.mv 3 7 [a, b, c, d, m, e, f, g, h] = [a, d, f, b, m, g, c, e, h] := by
  obtain ⟨i0, i1, i2, i3, i4, i5, i6, i7, i8⟩ := at7
  simp [Bd.mv, Bd.steps, i0, i1, i2, i3, i4, i5, i6, i7, i8, List.set]
theorem k8 {k : Int} (h0 : 0 ≤ k) (h1 : k < 8) : k = 0 ∨ k = 1 ∨ k = 2 ∨ k = 3 ∨ k = 4 ∨ k = 5 ∨ k = 6 ∨ k = 7 := by omega
theorem mv_good {k : Int} {cs : List Int} (h0 : 0 ≤ k) (h1 : k < 8) (hg : Good cs) : Good (Bd.mv 3 k cs) := by
  obtain ⟨a, b, c, d, e, f, g, h, rfl, ha, hb, hc, hd, he, hf, hg, hh⟩ := hg
  rcases k8 h0 h1 with rfl | rfl | rfl | rfl | rfl | rfl | rfl | rfl
  · rw [mv0]; exact ⟨_, _, _, _, _, _, _, _, rfl, by assumption, by assumption, by assumption, by assumption, by assumption, by assumption, by assumption, by assumption⟩
  · rw [mv1]; exact ⟨_, _, _, _, _, _, _, _, rfl, by assumption, by assumption, by assumption, by assumption, by assumption, by assumption, by assumption, by assumption⟩
  · rw [mv2]; exact ⟨_, _, _, _, _, _, _, _, rfl, by assumption, by assumption, by assumption, by assumption, by assumption, by assumption, by assumption, by assumption⟩
  · rw [mv3]; exact ⟨_, _, _, _, _, _, _, _, rfl, by assumption, by assumption, by assumption, by assumption, by assumption, by assumption, by assumption, by assumption⟩
  · rw [mv4]; exact ⟨_, _, _, _, _, _, _, _, rfl, by assumption, by assumption, by assumption, by assumption, by assumption, by assumption, by assumption, by assumption⟩
  · rw [mv5]; exact ⟨_, _, _, _, _, _, _, _, rfl, by assumption, by assumption, by assumption, by assumption, by assumption, by assumption, by assumption, by assumption⟩
  · rw [mv6]; exact ⟨_, _, _, _, _, _, _, _, rfl, by assumption, by assumption, by assumption, by assumption, by assumption, by assumption, by assumption, by assumption⟩
  · rw [mv7]; exact ⟨_, _, _, _, _, _, _, _, rfl, by assumption, by assumption, by assumption, by assumption, by assumption, by assumption, by assumption, by assumption⟩
theorem mv_two {a b : Int} (a0 : 0 ≤ a) (a1 : a < 8) (b0 : 0 ≤ b) (b1 : b < 8) : ∃ c : Int, (0 ≤ c ∧ c < 8) ∧ ∀ cs, Good cs → Bd.mv 3 b (Bd.mv 3 a cs) = Bd.mv 3 c cs := by
  rcases k8 a0 a1 with rfl | rfl | rfl | rfl | rfl | rfl | rfl | rfl <;> rcases k8 b0 b1 with rfl | rfl | rfl | rfl | rfl | rfl | rfl | rfl
  · exact ⟨0, by omega, by rintro _ ⟨_, _, _, _, _, _, _, _, rfl, _⟩; simp only [mv0]⟩
  · exact ⟨1, by omega, by rintro _ ⟨_, _, _, _, _, _, _, _, rfl, _⟩; simp only [mv0, mv1]⟩
  · exact ⟨2, by omega, by rintro _ ⟨_, _, _, _, _, _, _, _, rfl, _⟩; simp only [mv0, mv2]⟩
  · exact ⟨3, by omega, by rintro _ ⟨_, _, _, _, _, _, _, _, rfl, _⟩; simp only [mv0, mv3]⟩
  · exact ⟨4, by omega, by rintro _ ⟨_, _, _, _, _, _, _, _, rfl, _⟩; simp only [mv0, mv4]⟩
  · exact ⟨5, by omega, by rintro _ ⟨_, _, _, _, _, _, _, _, rfl, _⟩; simp only [mv0, mv5]⟩
  · exact ⟨6, by omega, by rintro _ ⟨_, _, _, _, _, _, _, _, rfl, _⟩; simp only [mv0, mv6]⟩
  · exact ⟨7, by omega, by rintro _ ⟨_, _, _, _, _, _, _, _, rfl, _⟩; simp only [mv0, mv7]⟩
  · exact ⟨1, by omega, by rintro _ ⟨_, _, _, _, _, _, _, _, rfl, _⟩; simp only [mv0, mv1]⟩
  · exact ⟨2, by omega, by rintro _ ⟨_, _, _, _, _, _, _, _, rfl, _⟩; simp only [mv1, mv2]⟩
  · exact ⟨3, by omega, by rintro _ ⟨_, _, _, _, _, _, _, _, rfl, _⟩; simp only [mv1, mv2, mv3]⟩
  · exact ⟨0, by omega, by rintro _ ⟨_, _, _, _, _, _, _, _, rfl, _⟩; simp only [mv0, mv1, mv3]⟩
  · exact ⟨7, by omega, by rintro _ ⟨_, _, _, _, _, _, _, _, rfl, _⟩; simp only [mv1, mv4, mv7]⟩
  · exact ⟨4, by omega, by rintro _ ⟨_, _, _, _, _, _, _, _, rfl, _⟩; simp only [mv1, mv4, mv5]⟩
  · exact ⟨5, by omega, by rintro _ ⟨_, _, _, _, _, _, _, _, rfl, _⟩; simp only [mv1, mv5, mv6]⟩
  · exact ⟨6, by omega, by rintro _ ⟨_, _, _, _, _, _, _, _, rfl, _⟩; simp only [mv1, mv6, mv7]⟩
  · exact ⟨2, by omega, by rintro _ ⟨_, _, _, _, _, _, _, _, rfl, _⟩; simp only [mv0, mv2]⟩
  · exact ⟨3, by omega, by rintro _ ⟨_, _, _, _, _, _, _, _, rfl, _⟩; simp only [mv1, mv2, mv3]⟩
  · exact ⟨0, by omega, by rintro _ ⟨_, _, _, _, _, _, _, _, rfl, _⟩; simp only [mv0, mv2]⟩
  · exact ⟨1, by omega, by rintro _ ⟨_, _, _, _, _, _, _, _, rfl, _⟩; simp only [mv1, mv2, mv3]⟩
  · exact ⟨6, by omega, by rintro _ ⟨_, _, _, _, _, _, _, _, rfl, _⟩; simp only [mv2, mv4, mv6]⟩
  · exact ⟨7, by omega, by rintro _ ⟨_, _, _, _, _, _, _, _, rfl, _⟩; simp only [mv2, mv5, mv7]⟩
  · exact ⟨4, by omega, by rintro _ ⟨_, _, _, _, _, _, _, _, rfl, _⟩; simp only [mv2, mv4, mv6]⟩
  · exact ⟨5, by omega, by rintro _ ⟨_, _, _, _, _, _, _, _, rfl, _⟩; simp only [mv2, mv5, mv7]⟩
  · exact ⟨3, by omega, by rintro _ ⟨_, _, _, _, _, _, _, _, rfl, _⟩; simp only [mv0, mv3]⟩
  · exact ⟨0, by omega, by rintro _ ⟨_, _, _, _, _, _, _, _, rfl, _⟩; simp only [mv0, mv1, mv3]⟩
  · exact ⟨1, by omega, by rintro _ ⟨_, _, _, _, _, _, _, _, rfl, _⟩; simp only [mv1, mv2, mv3]⟩
  · exact ⟨2, by omega, by rintro _ ⟨_, _, _, _, _, _, _, _, rfl, _⟩; simp only [mv2, mv3]⟩
  · exact ⟨5, by omega, by rintro _ ⟨_, _, _, _, _, _, _, _, rfl, _⟩; simp only [mv3, mv4, mv5]⟩
  · exact ⟨6, by omega, by rintro _ ⟨_, _, _, _, _, _, _, _, rfl, _⟩; simp only [mv3, mv5, mv6]⟩
  · exact ⟨7, by omega, by rintro _ ⟨_, _, _, _, _, _, _, _, rfl, _⟩; simp only [mv3, mv6, mv7]⟩
  · exact ⟨4, by omega, by rintro _ ⟨_, _, _, _, _, _, _, _, rfl, _⟩; simp only [mv3, mv4, mv7]⟩
  · exact ⟨4, by omega, by rintro _ ⟨_, _, _, _, _, _, _, _, rfl, _⟩; simp only [mv0, mv4]⟩
  · exact ⟨5, by omega, by rintro _ ⟨_, _, _, _, _, _, _, _, rfl, _⟩; simp only [mv1, mv4, mv5]⟩
  · exact ⟨6, by omega, by rintro _ ⟨_, _, _, _, _, _, _, _, rfl, _⟩; simp only [mv2, mv4, mv6]⟩
  · exact ⟨7, by omega, by rintro _ ⟨_, _, _, _, _, _, _, _, rfl, _⟩; simp only [mv3, mv4, mv7]⟩
  · exact ⟨0, by omega, by rintro _ ⟨_, _, _, _, _, _, _, _, rfl, _⟩; simp only [mv0, mv4]⟩
  · exact ⟨1, by omega, by rintro _ ⟨_, _, _, _, _, _, _, _, rfl, _⟩; simp only [mv1, mv4, mv5]⟩
  · exact ⟨2, by omega, by rintro _ ⟨_, _, _, _, _, _, _, _, rfl, _⟩; simp only [mv2, mv4, mv6]⟩
  · exact ⟨3, by omega, by rintro _ ⟨_, _, _, _, _, _, _, _, rfl, _⟩; simp only [mv3, mv4, mv7]⟩
  · exact ⟨5, by omega, by rintro _ ⟨_, _, _, _, _, _, _, _, rfl, _⟩; simp only [mv0, mv5]⟩
  · exact ⟨6, by omega, by rintro _ ⟨_, _, _, _, _, _, _, _, rfl, _⟩; simp only [mv1, mv5, mv6]⟩
  · exact ⟨7, by omega, by rintro _ ⟨_, _, _, _, _, _, _, _, rfl, _⟩; simp only [mv2, mv5, mv7]⟩
  · exact ⟨4, by omega, by rintro _ ⟨_, _, _, _, _, _, _, _, rfl, _⟩; simp only [mv3, mv4, mv5]⟩
  · exact ⟨3, by omega, by rintro _ ⟨_, _, _, _, _, _, _, _, rfl, _⟩; simp only [mv3, mv4, mv5]⟩
  · exact ⟨0, by omega, by rintro _ ⟨_, _, _, _, _, _, _, _, rfl, _⟩; simp only [mv0, mv5]⟩
  · exact ⟨1, by omega, by rintro _ ⟨_, _, _, _, _, _, _, _, rfl, _⟩; simp only [mv1, mv5, mv6]⟩
  · exact ⟨2, by omega, by rintro _ ⟨_, _, _, _, _, _, _, _, rfl, _⟩; simp only [mv2, mv5, mv7]⟩
  · exact ⟨6, by omega, by rintro _ ⟨_, _, _, _, _, _, _, _, rfl, _⟩; simp only [mv0, mv6]⟩
  · exact ⟨7, by omega, by rintro _ ⟨_, _, _, _, _, _, _, _, rfl, _⟩; simp only [mv1, mv6, mv7]⟩
  · exact ⟨4, by omega, by rintro _ ⟨_, _, _, _, _, _, _, _, rfl, _⟩; simp only [mv2, mv4, mv6]⟩
  · exact ⟨5, by omega, by rintro _ ⟨_, _, _, _, _, _, _, _, rfl, _⟩; simp only [mv3, mv5, mv6]⟩
  · exact ⟨2, by omega, by rintro _ ⟨_, _, _, _, _, _, _, _, rfl, _⟩; simp only [mv2, mv4, mv6]⟩
  · exact ⟨3, by omega, by rintro _ ⟨_, _, _, _, _, _, _, _, rfl, _⟩; simp only [mv3, mv5, mv6]⟩
  · exact ⟨0, by omega, by rintro _ ⟨_, _, _, _, _, _, _, _, rfl, _⟩; simp only [mv0, mv6]⟩
  · exact ⟨1, by omega, by rintro _ ⟨_, _, _, _, _, _, _, _, rfl, _⟩; simp only [mv1, mv6, mv7]⟩
  · exact ⟨7, by omega, by rintro _ ⟨_, _, _, _, _, _, _, _, rfl, _⟩; simp only [mv0, mv7]⟩
  · exact ⟨4, by omega, by rintro _ ⟨_, _, _, _, _, _, _, _, rfl, _⟩; simp only [mv1, mv4, mv7]⟩
  · exact ⟨5, by omega, by rintro _ ⟨_, _, _, _, _, _, _, _, rfl, _⟩; simp only [mv2, mv5, mv7]⟩
  · exact ⟨6, by omega, by rintro _ ⟨_, _, _, _, _, _, _, _, rfl, _⟩; simp only [mv3, mv6, mv7]⟩
  · exact ⟨1, by omega, by rintro _ ⟨_, _, _, _, _, _, _, _, rfl, _⟩; simp only [mv1, mv4, mv7]⟩
  · exact ⟨2, by omega, by rintro _ ⟨_, _, _, _, _, _, _, _, rfl, _⟩; simp only [mv2, mv5, mv7]⟩
  · exact ⟨3, by omega, by rintro _ ⟨_, _, _, _, _, _, _, _, rfl, _⟩; simp only [mv3, mv6, mv7]⟩
  · exact ⟨0, by omega, by rintro _ ⟨_, _, _, _, _, _, _, _, rfl, _⟩; simp only [mv0, mv7]⟩
theorem mv_back {a : Int} (a0 : 0 ≤ a) (a1 : a < 8) : ∃ c : Int, (0 ≤ c ∧ c < 8) ∧ ∀ cs, Good cs → Bd.mv 3 c (Bd.mv 3 a cs) = cs := by
  rcases k8 a0 a1 with rfl | rfl | rfl | rfl | rfl | rfl | rfl | rfl
  · exact ⟨0, by omega, by rintro _ ⟨_, _, _, _, _, _, _, _, rfl, _⟩; simp only [mv0]⟩
  · exact ⟨3, by omega, by rintro _ ⟨_, _, _, _, _, _, _, _, rfl, _⟩; simp only [mv1, mv3]⟩
  · exact ⟨2, by omega, by rintro _ ⟨_, _, _, _, _, _, _, _, rfl, _⟩; simp only [mv2]⟩
  · exact ⟨1, by omega, by rintro _ ⟨_, _, _, _, _, _, _, _, rfl, _⟩; simp only [mv1, mv3]⟩
  · exact ⟨4, by omega, by rintro _ ⟨_, _, _, _, _, _, _, _, rfl, _⟩; simp only [mv4]⟩
  · exact ⟨5, by omega, by rintro _ ⟨_, _, _, _, _, _, _, _, rfl, _⟩; simp only [mv5]⟩
  · exact ⟨6, by omega, by rintro _ ⟨_, _, _, _, _, _, _, _, rfl, _⟩; simp only [mv6]⟩
  · exact ⟨7, by omega, by rintro _ ⟨_, _, _, _, _, _, _, _, rfl, _⟩; simp only [mv7]⟩

/-- The image of a pattern. -/
def im (k n : Int) : Int := pat (Bd.mv 3 k (cells n))
theorem im_bd {k n : Int} (h0 : 0 ≤ k) (h1 : k < 8) : 0 ≤ im k n ∧ im k n ≤ 65535 := (cells_pat (mv_good h0 h1 (good_cells n))).2
theorem im0 {n : Int} (h0 : 0 ≤ n) (h1 : n ≤ 65535) : im 0 n = n := by
  have h := pat_cells h0 h1
  unfold im
  rw [show cells n = [n % 4, n / 4 % 4, n / 16 % 4, n / 64 % 4, 0, n / 256 % 4, n / 1024 % 4, n / 4096 % 4, n / 16384 % 4] from rfl, mv0]
  exact h
theorem im_two {a b n : Int} (a0 : 0 ≤ a) (a1 : a < 8) (b0 : 0 ≤ b) (b1 : b < 8) : ∃ c : Int, (0 ≤ c ∧ c < 8) ∧ im b (im a n) = im c n := by
  obtain ⟨c, hc, h⟩ := mv_two a0 a1 b0 b1
  refine ⟨c, hc, ?_⟩
  unfold im
  rw [(cells_pat (mv_good a0 a1 (good_cells n))).1, h _ (good_cells n)]
theorem im_back {a n : Int} (a0 : 0 ≤ a) (a1 : a < 8) (h0 : 0 ≤ n) (h1 : n ≤ 65535) : ∃ c : Int, (0 ≤ c ∧ c < 8) ∧ im c (im a n) = n := by
  obtain ⟨c, hc, h⟩ := mv_back a0 a1
  refine ⟨c, hc, ?_⟩
  unfold im
  rw [(cells_pat (mv_good a0 a1 (good_cells n))).1, h _ (good_cells n), pat_cells h0 h1]

/-- The least of the images up to k. -/
def upto (n : Int) : Nat → Int
  | 0 => im 0 n
  | k + 1 => min (upto n k) (im ((k : Int) + 1) n)
def can (n : Int) : Int := upto n 7
theorem upto_le {n : Int} : ∀ {k j : Nat}, j ≤ k → upto n k ≤ im (j : Int) n
  | 0, j, h => by
    obtain rfl : j = 0 := by omega
    exact Int.le_refl _
  | k + 1, j, h => by
    unfold upto
    by_cases hj : j = k + 1
    · subst hj
      have : ((k + 1 : Nat) : Int) = (k : Int) + 1 := by omega
      rw [this]
      omega
    · have := upto_le (n := n) (show j ≤ k by omega)
      omega
theorem upto_ex {n : Int} : ∀ k : Nat, ∃ j : Nat, j ≤ k ∧ upto n k = im (j : Int) n
  | 0 => ⟨0, by omega, rfl⟩
  | k + 1 => by
    obtain ⟨j, hj, h⟩ := upto_ex (n := n) k
    by_cases hm : upto n k ≤ im ((k : Int) + 1) n
    · refine ⟨j, by omega, ?_⟩
      rw [← h, show upto n (k + 1) = min (upto n k) (im ((k : Int) + 1) n) from rfl]
      omega
    · refine ⟨k + 1, by omega, ?_⟩
      have : ((k + 1 : Nat) : Int) = (k : Int) + 1 := by omega
      rw [this, show upto n (k + 1) = min (upto n k) (im ((k : Int) + 1) n) from rfl]
      omega
theorem can_le {n k : Int} (h0 : 0 ≤ k) (h1 : k < 8) : can n ≤ im k n := by
  obtain ⟨j, rfl⟩ := Int.eq_ofNat_of_zero_le h0
  exact upto_le (by omega)
theorem can_ex (n : Int) : ∃ k : Int, (0 ≤ k ∧ k < 8) ∧ can n = im k n := by
  obtain ⟨j, hj, h⟩ := upto_ex (n := n) 7
  exact ⟨j, by omega, h⟩
theorem can_bd (n : Int) : 0 ≤ can n ∧ can n ≤ 65535 := by
  obtain ⟨k, ⟨h0, h1⟩, h⟩ := can_ex n
  rw [h]
  exact im_bd h0 h1
theorem can_im {k n : Int} (h0 : 0 ≤ k) (h1 : k < 8) (n0 : 0 ≤ n) (n1 : n ≤ 65535) : can (im k n) = can n := by
  apply Int.le_antisymm
  · obtain ⟨b, ⟨b0, b1⟩, hb⟩ := can_ex n
    obtain ⟨c, ⟨c0, c1⟩, hc⟩ := im_back h0 h1 n0 n1
    obtain ⟨d, ⟨d0, d1⟩, hd⟩ := im_two (n := im k n) c0 c1 b0 b1
    rw [hc] at hd
    rw [hb, hd]
    exact can_le d0 d1
  · obtain ⟨b, ⟨b0, b1⟩, hb⟩ := can_ex (im k n)
    obtain ⟨d, ⟨d0, d1⟩, hd⟩ := im_two (n := n) h0 h1 b0 b1
    rw [hb, hd]
    exact can_le d0 d1
theorem can_can {n : Int} (n0 : 0 ≤ n) (n1 : n ≤ 65535) : can (can n) = can n ∧ can n ≤ n := by
  obtain ⟨k, ⟨h0, h1⟩, h⟩ := can_ex n
  constructor
  · rw [h, can_im h0 h1 n0 n1, ← h]
  · have := can_le (n := n) (k := 0) (by omega) (by omega)
    rwa [im0 n0 n1] at this

/-! ### Digits that are exchanged -/
structure Ex (f : Int → Int) : Prop where
  zero : f 0 = 0
  dig : ∀ x, d4 x → d4 (f x)
  two : ∀ x, d4 x → f (f x) = x
def inv (f : Int → Int) (n : Int) : Int := pat ((cells n).map f)
theorem map_good {f : Int → Int} (hf : Ex f) {cs : List Int} (hg : Good cs) : Good (cs.map f) := by
  obtain ⟨a, b, c, d, e, f', g, h, rfl, ha, hb, hc, hd, he, hf', hg, hh⟩ := hg
  exact ⟨_, _, _, _, _, _, _, _, by simp only [List.map]; rw [hf.zero], hf.dig _ ha, hf.dig _ hb, hf.dig _ hc, hf.dig _ hd, hf.dig _ he, hf.dig _ hf', hf.dig _ hg, hf.dig _ hh⟩
theorem map_map {f : Int → Int} (hf : Ex f) {cs : List Int} (hg : Good cs) : (cs.map f).map f = cs := by
  obtain ⟨a, b, c, d, e, f', g, h, rfl, ha, hb, hc, hd, he, hf', hg, hh⟩ := hg
  simp only [List.map]
  rw [hf.two _ ha, hf.two _ hb, hf.two _ hc, hf.two _ hd, hf.two _ he, hf.two _ hf', hf.two _ hg, hf.two _ hh, hf.zero, hf.zero]
theorem inv_bd {f : Int → Int} (hf : Ex f) (n : Int) : 0 ≤ inv f n ∧ inv f n ≤ 65535 := (cells_pat (map_good hf (good_cells n))).2
theorem inv_inv {f : Int → Int} (hf : Ex f) {n : Int} (n0 : 0 ≤ n) (n1 : n ≤ 65535) : inv f (inv f n) = n := by
  unfold inv
  rw [(cells_pat (map_good hf (good_cells n))).1, map_map hf (good_cells n), pat_cells n0 n1]
theorem mv_map {k : Int} (f : Int → Int) {cs : List Int} (h0 : 0 ≤ k) (h1 : k < 8) (hg : Good cs) : Bd.mv 3 k (cs.map f) = (Bd.mv 3 k cs).map f := by
  obtain ⟨a, b, c, d, e, f', g, h, rfl, _⟩ := hg
  rcases k8 h0 h1 with rfl | rfl | rfl | rfl | rfl | rfl | rfl | rfl
  · rw [mv0]; simp only [List.map]; rw [mv0]
  · rw [mv1]; simp only [List.map]; rw [mv1]
  · rw [mv2]; simp only [List.map]; rw [mv2]
  · rw [mv3]; simp only [List.map]; rw [mv3]
  · rw [mv4]; simp only [List.map]; rw [mv4]
  · rw [mv5]; simp only [List.map]; rw [mv5]
  · rw [mv6]; simp only [List.map]; rw [mv6]
  · rw [mv7]; simp only [List.map]; rw [mv7]
theorem im_inv {f : Int → Int} (hf : Ex f) {k : Int} (n : Int) (h0 : 0 ≤ k) (h1 : k < 8) : im k (inv f n) = inv f (im k n) := by
  unfold im inv
  rw [(cells_pat (map_good hf (good_cells n))).1, (cells_pat (mv_good h0 h1 (good_cells n))).1, mv_map f h0 h1 (good_cells n)]
theorem can_inv {f : Int → Int} (hf : Ex f) (n : Int) : can (inv f (can n)) = can (inv f n) := by
  obtain ⟨k, ⟨h0, h1⟩, h⟩ := can_ex n
  obtain ⟨b0, b1⟩ := inv_bd hf n
  rw [h, ← im_inv hf n h0 h1, can_im h0 h1 b0 b1]
end Go.Proofs.Ytpopbcmfbcmojaa.Pk
