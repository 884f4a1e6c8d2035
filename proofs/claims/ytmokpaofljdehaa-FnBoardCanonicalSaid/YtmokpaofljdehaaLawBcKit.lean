/-
  Texts that laws over drawn boards stand on: SpecVB, Build, Shelf, FmtI, FmtX, Step, Count, Valid, CntP, DrawLI, LawP, IxB, PbR, PbW, PbS, PbI, PbX, Mut, BcW.
-/
import Derived.Test.YtmokpaofljdehaaBoard
import Derived.Test.YtmokpaofljdehaaWordsU
import Derived.Lib.Builder
import Derived.Shelf.Strings.Builder1
import Derived.Shelf.Strings.BuilderF
import Derived.Shelf.Strings.BuilderK
import Derived.Shelf.Strings.BuilderCap
import Derived.Test.YtmokpaofljdehaaProg
import Derived.Test.YtmokpaofljdehaaFmtS
import Derived.Test.YtmokpaofljdehaaBoardX
import Derived.Test.YtmokpaofljdehaaRows2
import Derived.Test.YtmokpaofljdehaaAny
import Derived.Test.YtmokpaofljdehaaLists
import Derived.Test.YtmokpaofljdehaaBoardI
import Derived.Test.YtmokpaofljdehaaTrS
import Derived.Test.YtmokpaofljdehaaWords
import Derived.Lib.Bytealg
import Derived.Test.YtmokpaofljdehaaPbP
import Derived.Test.YtmokpaofljdehaaMarks
import Derived.Deep.QuietTactic
import Derived.BigQuiet
import Derived.IntWalk
import Derived.Lib.Strings
import Derived.Test.YtmokpaofljdehaaParseS
import Derived.Test.YtmokpaofljdehaaPlayP
import Derived.Deep.RegionHeld3
import Derived.Test.YtmokpaofljdehaaReader
import Derived.Deep.RegionWith
import Derived.Deep.DeepCutAuto
import Derived.Test.YtmokpaofljdehaaAnyC
namespace Go.Proofs.Ytmokpaofljdehaa
set_option maxRecDepth 100000
open Go.RowKit

end Go.Proofs.Ytmokpaofljdehaa

namespace Go.Proofs.Ytmokpaofljdehaa
set_option maxRecDepth 100000
open Go.RowKit

/-- Block b is a builder that holds the bytes xs, in blocks from B on. -/
def Bu (w : World) (B b : Nat) (xs : List Int) : Prop :=
  B ≤ b ∧ ∃ (p : Option Addr) (A : Option Addr) (c : Nat), (p = none ∨ p = some ⟨b, 0, none⟩) ∧ w.heap[b]? = some (.cells #[.pointer p, .slice A xs.length c] 79 (0, 0)) ∧ OwU w B A xs.length c xs ∧ A ≠ some ⟨b, 0, none⟩

theorem Bu.lt {w : World} {B b : Nat} {xs : List Int} (h : Bu w B b xs) : b < w.heap.size := by
  obtain ⟨_, p, A, c, _, hb, _⟩ := h
  rcases Nat.lt_or_ge b w.heap.size with h' | h'
  · exact h'
  · simp [Array.getElem?_eq_none h'] at hb
theorem Bu.new (w : World) : Bu (w.alloc (.cells #[.pointer none, .slice none 0 0] 79)) w.heap.size w.heap.size [] :=
  ⟨Nat.le_refl _, none, none, 0, .inl rfl, heap_alloc_new w _, OwU.nil _ _, by simp⟩
theorem Bu.lib {w : World} {B b : Nat} {xs : List Int} (h : Bu w B b xs) : Lib.IsBuilder 79 5 B b (xs.map (Value.int .u8)) w := by
  obtain ⟨hB, p, A, c, hp, hb, ho, hA⟩ := h
  have hne : (Value.slice A xs.length c).ownBlock ≠ some b := fun e => by
    rcases ho.2.2 with ⟨hv, _⟩ | ⟨g, cap, cur, hv, _⟩
    · rw [hv] at e; cases e
    · have hAg : A = some ⟨g, 0, none⟩ := by injection hv
      subst hAg
      have : g = b := by simpa [Value.ownBlock] using e
      subst this
      exact hA rfl
  have hl : (xs.map (Value.int .u8)).length = xs.length := by simp
  rcases hp with rfl | rfl
  · exact .inl ⟨hB, _, hb, by rw [hl]; exact ho.2, hne⟩
  · exact .inr ⟨hB, _, hb, by rw [hl]; exact ho.2, hne⟩
theorem Bu.drew {w : World} {B b : Nat} {xs : List Int} (h : Bu w B b xs) : Bu w.drew B b xs := h

theorem size_bu : (Try.prog.info? 79).map (·.size) = some 2 := by kernel_rfl
theorem lies_bu : liesAt Try.prog Try.prog.depth 79 (2 / Try.prog.cellsOf 79) 0 79 1 = true := by kernel_rfl

/-- copyCheck: behind it the builder holds its own address. -/
theorem g_check (b : Nat) (v : Value) (p : Option Addr) (w : World) (hp : p = none ∨ p = some ⟨b, 0, none⟩) (h : w.heap[b]? = some (.cells #[.pointer p, v] 79 (0, 0))) :
    Calls Try.prog 86 #[.pointer (some ⟨b, 0, none⟩)] w fun e w' => e = .returned (.tuple #[]) ∧ w'.heap[b]? = some (.cells #[.pointer (some ⟨b, 0, none⟩), v] 79 (0, 0)) ∧ w.grownBy w' (some b) := by
  obtain ⟨j, hj, hjs⟩ := Option.map_eq_some_iff.1 size_bu
  have h0 : w.cell? ⟨b, 0, none⟩ = some (.pointer p) := by simp [World.cell?, h]
  have hf : w.frozen? ⟨b, 0, none⟩ = false := by simp [World.frozen?, h]
  have hsh : w.shape? b = some (79, 2) := by simp [World.shape?, h]
  rcases hp with rfl | rfl
  · have k1 : (w.setCell ⟨b, 0, none⟩ (.pointer (some ⟨b, 0, none⟩))).heap[b]? = some (.cells #[.pointer (some ⟨b, 0, none⟩), v] 79 (0, 0)) := by simp [World.setCell, Array.getElem?_modify, h]
    have k2 : w.grownBy (w.setCell ⟨b, 0, none⟩ (.pointer (some ⟨b, 0, none⟩))) (some b) := ⟨rfl, rfl, rfl, by simp [World.setCell], fun k _ hk => Below.heap_setCell w ⟨b, 0, none⟩ _ k (fun e => hk (by rw [e]))⟩
    have K1 := Lib.hid k1
    have K2 := Lib.hid k2
    clear h k1 k2
    go_enter Try.func86, Try.ntmps86
    go_wp2
    rw [Lib.run_to_unsafe w ⟨b, 0, none⟩ Try.underlying77 Try.underlying111 hj (by rw [hjs]; decide) hsh (Nat.zero_lt_succ 1)]
    simp only [Result.andThen]
    rw [Oper.upon_value]
    go_wp2
    rw [run_callFunc_extern Try.func100 (by kernel_rfl) (by kernel_rfl) (by kernel_rfl) (e := Extern.AbiNoEscape.same) (by kernel_rfl)]
    rw [Lib.run_noEscape]
    simp only [Result.andThen]
    rw [Oper.upon_value]
    go_wp2
    rw [Lib.run_from_unsafe w ⟨b, 0, none⟩ Try.underlying111 Try.underlying77 hj hsh lies_bu]
    simp only [Result.andThen]
    rw [Oper.upon_value]
    go_wp2
    go_end0
    exact ⟨rfl, K1.out, K2.out⟩
  · have K1 := Lib.hid h
    clear h
    go_enter Try.func86, Try.ntmps86
    go_wp2
    rw [Lib.run_neq_ptr_same w _ Try.underlying77 hj]
    go_wp2
    go_end0
    exact ⟨rfl, K1.out, World.grownBy.refl _ _⟩

/-- WriteByte. -/
theorem g_writeByte (B b : Nat) (xs : List Int) (x : Int) (w : World) (h : Bu w B b xs) (hn : xs.length ≤ 1000000) (hB : B ≤ w.heap.size) :
    Calls Try.prog 65 #[.pointer (some ⟨b, 0, none⟩), .int .u8 x] w fun e w' => e = .returned .nilIface ∧ Bu w' B b (xs ++ [x]) ∧ Below B w w' := by
  have hlt := h.lt
  obtain ⟨hBb, p, A, c, hp, hb, ho, hA⟩ := h
  obtain ⟨n, hl⟩ : ∃ n, xs.length = n := ⟨_, rfl⟩
  rw [hl] at hb ho hn
  have HL := Lib.hid hl
  have Hb := Lib.hid hb
  have Ho := Lib.hid ho
  have HA := Lib.hid hA
  clear hb ho hA hl
  go_enter Try.func65, Try.ntmps65
  go_wp2_with fail
  refine (g_check b _ p _ hp Hb.out).mono ?_
  rintro e w1 ⟨rfl, hb1, hg1⟩
  have ho1 := Ho.out.kept hg1 (fun g e he => by have := Option.some.inj he; exact HA.out (by rw [e, this]))
  have hz1 := hg1.size
  have hB1 : B ≤ w1.heap.size := by omega
  have hbelow := below_g hg1 hB (fun k hk => by have := Option.some.inj hk; omega)
  have Hb1 := Lib.hid hb1
  have Ho1 := Lib.hid ho1
  have Hw1 := Lib.hid hbelow
  have d0 : w1.cell? ⟨b, 0, none⟩ = some (.pointer (some ⟨b, 0, none⟩)) := by simp [World.cell?, hb1]
  have d1 : w1.cell? ⟨b, 1, none⟩ = some (.slice A n c) := by simp [World.cell?, hb1]
  have hlt1 : b < w1.heap.size := by omega
  clear hb1 hg1 ho1 hbelow hp Hb Ho
  have hne : some b ≠ (Value.slice A n c).ownBlock := fun e => by
    rcases Ho1.out.2.2 with ⟨hv, _⟩ | ⟨g, cap, cur, hv, _⟩
    · rw [hv] at e; cases e
    · have hAg : A = some ⟨g, 0, none⟩ := by injection hv
      subst hAg
      have : b = g := by simpa [Value.ownBlock] using e
      subst this
      exact HA.out rfl
  have hnx : ∀ w2, w1.grownBy w2 (Value.slice A n c).ownBlock → w2.cell? ⟨b, 1, none⟩ = some (.slice A n c) ∧ w2.frozen? ⟨b, 1, none⟩ = false ∧ w2.heap[b]? = some (.cells #[.pointer (some ⟨b, 0, none⟩), .slice A n c] 79 (0, 0)) := fun w2 hg => by
    have hb2 := (hg.block b hlt1 hne).trans Hb1.out
    exact ⟨by simp [World.cell?, hb2], by simp [World.frozen?, hb2], hb2⟩
  have Hnx := Lib.hid hnx
  clear hne hnx
  go_wp2_with (at_builtin; refine appU1 rfl _ _ rfl _ _ _ _ _ _ _ _ rfl rfl rfl Ho1.out hB1 (by omega) ?_; intro A' c' w2 hown' hb' hlt' hgrow'; have q1 := (Hnx.out _ hgrow').1; have q2 := (Hnx.out _ hgrow').2.1; have Q3 := Lib.hid (Hnx.out _ hgrow').2.2; have Ho2 := Lib.hid hown'; have Hw2 := Lib.hid (Hw1.out.trans hb'); have Hg2 := Lib.hid hgrow'; clear hown' hb' hgrow')
  go_ret
  have hA' : A' ≠ some ⟨b, 0, none⟩ := fun e => by
    have q3 := Q3.out
    rcases Ho2.out.2.2 with ⟨hv, _⟩ | ⟨g, cap, cur, hv, _, hh, _⟩
    · rw [e] at hv; cases hv
    · rw [e] at hv
      injection hv with hv
      injection hv with hv
      injection hv with hv
      subst hv
      rw [q3] at hh
      injection hh with hh
      injection hh with _ hh
      cases hh
  have hl1 : (xs ++ [x]).length = n + 1 := by rw [List.length_append, HL.out]; rfl
  refine ⟨rfl, ⟨hBb, some ⟨b, 0, none⟩, A', c', .inr rfl, ?_, ?_, hA'⟩, Hw2.out.setCell (p := ⟨b, 1, none⟩) hBb _⟩
  · have q3 := Q3.out
    rw [hl1]
    simp [World.setCell, Array.getElem?_modify, q3]
  · rw [hl1]
    exact Ho2.out.far ⟨b, 1, none⟩ (fun g hg e => hA' (by rw [hg, e])) _
end Go.Proofs.Ytmokpaofljdehaa

namespace Go.Proofs
open Go.Shelf
def Try.lays169_ren : Go.Shelf.Ren := ⟨fun | 169 => 66 | n => n, fun | 70 => 77 | 9 => 9 | 0 => 0 | 72 => 79 | 37 => 35 | 127 => 99 | 3 => 3 | 5 => 5 | n => n, fun | n => n⟩
theorem Try.lays169 : Go.Proofs.Lays.n169 Try.prog Try.lays169_ren := {
  mixed := by kernel_rfl
  f169 := Try.func66.trans (congrArg some (by kernel_rfl))
  t0 := Try.underlying0
  a0 := Try.isAgg0
  z0 := Try.sizeOf0
  v0 := Try.zeroValue0
  t3 := Try.underlying3
  a3 := Try.isAgg3
  z3 := Try.sizeOf3
  v3 := Try.zeroValue3
  t9 := Try.underlying9
  a9 := Try.isAgg9
  z9 := Try.sizeOf9
  v9 := Try.zeroValue9
  t37 := Try.underlying35
  a37 := Try.isAgg35
  z37 := Try.sizeOf35
  v37 := Try.zeroValue35
  t70 := Try.underlying77
  a70 := Try.isAgg77
  z70 := Try.sizeOf77
  v70 := Try.zeroValue77
  t72 := Try.underlying79
  a72 := Try.isAgg79
  z72 := Try.sizeOf79
  v72 := Try.zeroValue79
  t127 := Try.underlying99
  a127 := Try.isAgg99
  z127 := Try.sizeOf99
  v127 := Try.zeroValue99 }
theorem Try.Builder_Extra_169 : Builder.Extra Try.prog Try.lays169_ren := {
  sizeBuilder := by kernel_rfl
  liesBuilder := by kernel_rfl
  t5 := Try.underlying5
  a5 := Try.isAgg5
  z5 := Try.sizeOf5
  v5 := Try.zeroValue5
  infoByte := by kernel_rfl
  cellsByte := by kernel_rfl
  sizeByte := by kernel_rfl
  neB5 := by decide }
open Go.RowKit in
theorem Try.Builder_String (B b : Nat) (l : List UInt8) (w : World) (h : Lib.IsBuilder 79 5 B b (Lib.byteCells l) w) (h0 : l ≠ []) :
    Calls Try.prog 66 #[.pointer (some ⟨b, 0, none⟩)] w fun e w' => e = .returned (.string ⟨l.toArray⟩) ∧ Below B w w' := Any.Builder_String Try.lays169 Try.Builder_Extra_169 B b l w h h0
open Go.RowKit in
theorem Try.Builder_String_empty (B b : Nat) (w : World) (h : Lib.IsBuilder 79 5 B b [] w) (hBw : B ≤ w.heap.size) :
    Calls Try.prog 66 #[.pointer (some ⟨b, 0, none⟩)] w fun e w' => e = .returned (.string ⟨#[]⟩) ∧ Below B w w' := Any.Builder_String_empty Try.lays169 Try.Builder_Extra_169 B b w h hBw
open Go.RowKit in
theorem Try.Builder_String_any (B b : Nat) (l : List UInt8) (w : World) (h : Lib.IsBuilder 79 5 B b (Lib.byteCells l) w) (hBw : B ≤ w.heap.size) :
    Calls Try.prog 66 #[.pointer (some ⟨b, 0, none⟩)] w fun e w' => e = .returned (.string ⟨l.toArray⟩) ∧ Below B w w' := Any.Builder_String_any Try.lays169 Try.Builder_Extra_169 B b l w h hBw
open Go.RowKit in
theorem Try.Builder_String_f (B b : Nat) (l : List UInt8) (w : World) (h : Lib.IsBuilderF 79 5 B b (Lib.byteCells l) w) (h0 : l ≠ []) :
    Calls Try.prog 66 #[.pointer (some ⟨b, 0, none⟩)] w fun e w' => e = .returned (.string ⟨l.toArray⟩) ∧ (Lib.IsBuilderF 79 5 B b (Lib.byteCells l) w' ∧ Below B w w') := Any.Builder_String_f Try.lays169 Try.Builder_Extra_169 B b l w h h0
open Go.RowKit in
theorem Try.Builder_String_empty_f (B b : Nat) (w : World) (h : Lib.IsBuilderF 79 5 B b [] w) (hBw : B ≤ w.heap.size) :
    Calls Try.prog 66 #[.pointer (some ⟨b, 0, none⟩)] w fun e w' => e = .returned (.string ⟨#[]⟩) ∧ (Lib.IsBuilderF 79 5 B b [] w' ∧ Below B w w') := Any.Builder_String_empty_f Try.lays169 Try.Builder_Extra_169 B b w h hBw
open Go.RowKit in
theorem Try.Builder_String_any_f (B b : Nat) (l : List UInt8) (w : World) (h : Lib.IsBuilderF 79 5 B b (Lib.byteCells l) w) (hBw : B ≤ w.heap.size) :
    Calls Try.prog 66 #[.pointer (some ⟨b, 0, none⟩)] w fun e w' => e = .returned (.string ⟨l.toArray⟩) ∧ (Lib.IsBuilderF 79 5 B b (Lib.byteCells l) w' ∧ Below B w w') := Any.Builder_String_any_f Try.lays169 Try.Builder_Extra_169 B b l w h hBw
open Go.RowKit in
theorem Try.Builder_String_k (B b : Nat) (l : List UInt8) (w : World) (h : Lib.IsBuilderF 79 5 B b (Lib.byteCells l) w) (h0 : l ≠ []) :
    Calls Try.prog 66 #[.pointer (some ⟨b, 0, none⟩)] w fun e w' => e = .returned (.string ⟨l.toArray⟩) ∧ (Lib.IsBuilderF 79 5 B b (Lib.byteCells l) w' ∧ Below B w w' ∧ Lib.OthersKept 5 (some b) w w') := Any.Builder_String_k Try.lays169 Try.Builder_Extra_169 B b l w h h0
open Go.RowKit in
theorem Try.Builder_String_empty_k (B b : Nat) (w : World) (h : Lib.IsBuilderF 79 5 B b [] w) (hBw : B ≤ w.heap.size) :
    Calls Try.prog 66 #[.pointer (some ⟨b, 0, none⟩)] w fun e w' => e = .returned (.string ⟨#[]⟩) ∧ (Lib.IsBuilderF 79 5 B b [] w' ∧ Below B w w' ∧ Lib.OthersKept 5 (some b) w w') := Any.Builder_String_empty_k Try.lays169 Try.Builder_Extra_169 B b w h hBw
open Go.RowKit in
theorem Try.Builder_String_any_k (B b : Nat) (l : List UInt8) (w : World) (h : Lib.IsBuilderF 79 5 B b (Lib.byteCells l) w) (hBw : B ≤ w.heap.size) :
    Calls Try.prog 66 #[.pointer (some ⟨b, 0, none⟩)] w fun e w' => e = .returned (.string ⟨l.toArray⟩) ∧ (Lib.IsBuilderF 79 5 B b (Lib.byteCells l) w' ∧ Below B w w' ∧ Lib.OthersKept 5 (some b) w w') := Any.Builder_String_any_k Try.lays169 Try.Builder_Extra_169 B b l w h hBw
end Go.Proofs

namespace Go.Proofs.Ytmokpaofljdehaa
set_option maxRecDepth 100000
open Go.RowKit

/-- What FormatBoard answers. -/
def fmtB (s : Int) (cs : List Int) : ByteArray := if Bd.okB s cs then strOfNums (Fm.fmt s.toNat cs) else ⟨#[]⟩

theorem bytes_of (xs : List Int) (h : ∀ x ∈ xs, 0 ≤ x ∧ x ≤ 255) : Lib.byteCells (xs.map fun n => UInt8.ofNat n.toNat) = xs.map (Value.int .u8) := by
  unfold Lib.byteCells
  rw [List.map_map]
  refine List.map_congr_left fun x hx => ?_
  have := h x hx
  have e : (UInt8.ofNat x.toNat).toNat = x.toNat := by simp; omega
  show Value.int .u8 ((UInt8.ofNat x.toNat).toNat : Int) = Value.int .u8 x
  rw [e]
  congr 1
  omega
theorem fmt_bytes (s : Nat) (cs : List Int) : ∀ x ∈ Fm.fmt s cs, 0 ≤ x ∧ x ≤ 255 := by
  intro x hx
  unfold Fm.fmt at hx
  obtain ⟨i, _, rfl⟩ := List.mem_map.1 hx
  have := Fm.at_bd s cs i
  omega

set_option maxRecDepth 100000 in
set_option maxHeartbeats 4000000 in
theorem i_FormatV (k : Nat) (w : World) (B : Nat) (A : Option Addr) (n c : Nat) (cs : List Int) (h : Ints w B A n cs) (hB : B ≤ w.heap.size) (hc : n ≤ c) (hc2 : c ≤ 9223372036854775807) (hv : Bd.okB (k : Int) cs = true) :
    Calls Try.prog 33 #[.agg #[.int .i64 (k : Nat), .slice A n c]] w fun e w' => e = .returned (.string (strOfNums (Fm.fmt k cs))) ∧ Below w.heap.size w w' := by
  obtain ⟨q1, q2, q3, q4⟩ := (Bd.okB_iff (k : Int) cs).1 hv
  have hl := h.1
  have hsq := Pt.sq_bd (k : Int) q1 q2
  have hnk : n = k * k := by
    have : (n : Int) = ((k * k : Nat) : Int) := by rw [← hl]; push_cast; exact q3
    exact_mod_cast this
  have hn49 : n ≤ 49 := by omega
  have hk1 : 1 ≤ k := by omega
  have hk7 : k ≤ 7 := by omega
  obtain ⟨b0, o0, rfl, hbB, hcc⟩ : ∃ b o, A = some ⟨b, o, none⟩ ∧ b < B ∧ ∀ j, j < n → w.cell? ⟨b, o + j, none⟩ = some (.int .i64 (cs.getD j 0)) := by
    rcases h.2 with h0 | ⟨b, o, hA, hbB, hc⟩
    · exfalso
      have := Nat.mul_le_mul hk1 hk1
      omega
    · exact ⟨b, o, hA, hbB, hc⟩
  have hok : ∀ j, j < n → 0 ≤ cs.getD j 0 ∧ cs.getD j 0 ≤ 2 := fun j hj => by
    have hj' : j < cs.length := by omega
    rw [List.getD_eq_getElem?_getD, List.getElem?_eq_getElem hj']
    exact q4 _ (List.getElem_mem hj')
  have hb1 : Below w.heap.size w (w.alloc (.cells #[.int .i64 (k : Nat), .slice (some ⟨b0, o0, none⟩) n c] 29)) := (Below.refl _ _).alloc (Nat.le_refl _) _
  have X0 := Lib.hid (Bx.new 29 w (k : Nat) (.slice (some ⟨b0, o0, none⟩) n c))
  have H := Lib.hid (h.below hb1 hB)
  have Hb := Lib.hid hb1
  have Hcc := Lib.hid hcc
  have Hok := Lib.hid hok
  have Hv := Lib.hid hv
  have Hnk := Lib.hid hnk
  have HL := Lib.hid hl
  clear h hb1 hcc hok hv hnk hl q3 q4
  go_enter Try.func33, Try.ntmps33
  go_wp2_with fail
  refine (i_validBoard _ _ _ _ _ _ _ H.out (by simp; omega) (by omega)).mono ?_
  rintro e y ⟨rfl, hb⟩
  rw [Hv.out]
  have X0 := Lib.hid (X0.out.below hb X0.out.lt)
  have Hb := Lib.hid (Hb.out.trans (hb.mono (by simp)))
  have hzy := X0.out.lt
  clear hb H
  have u0 := X0.out.cell0
  have u1 := X0.out.cell1
  go_wp2_with fail
  have hbw := Bu.new y
  have X0 := Lib.hid (X0.out.alloc (.cells #[.pointer none, .slice none 0 0] 79))
  have Hb := Lib.hid (Hb.out.alloc (by omega) (.cells #[.pointer none, .slice none 0 0] 79))
  obtain ⟨g, hg⟩ : ∃ g, y.heap.size = g := ⟨_, rfl⟩
  obtain ⟨y1, hy1⟩ : ∃ y1, y1 = y.alloc (.cells #[.pointer none, .slice none 0 0] 79) := ⟨_, rfl⟩
  have hz1 : g < y1.heap.size := by rw [hy1, ← hg]; simp
  rw [← hy1, hg] at hbw
  rw [← hy1] at X0 Hb
  rw [hg, ← hy1]
  rw [hg] at hzy
  have HB := Lib.hid hbw
  clear hbw hy1 hg u0 u1
  have HW := Lib.hid (Below.refl g y1)
  go_loopw [4] (fun v wr => ∃ (q : Int) (r : Nat), q = (k : Int) - 1 - r ∧ r ≤ k ∧ v = .int .i64 q ∧ Bu wr g g ((Fm.fmt k cs).take (r * (k + 1))) ∧ Below g y1 wr) (fun v _ => (intOf v + 1).toNat)
  case atStart => exact ⟨_, 0, by omega, by omega, rfl, by simpa using HB.out, HW.out⟩
  case round =>
    clear HB HW
    obtain ⟨q, r, hq, hr, rfl, hbu, hbl⟩ := hrel
    have HB := Lib.hid hbu
    have HW := Lib.hid hbl
    have X1 := Lib.hid (X0.out.below hbl (by omega))
    have hzr := hbl.size
    have u0 := X1.out.cell0
    have u1 := X1.out.cell1
    clear hbu hbl
    by_cases hrk : r < k
    · obtain ⟨rk, hrkq⟩ : ∃ rk : Nat, q = rk := ⟨k - 1 - r, by omega⟩
      subst hrkq
      have hrk' : rk = k - 1 - r := by omega
      obtain ⟨m, hm⟩ : ∃ m, rk * k = m := ⟨_, rfl⟩
      have hmk : m + k ≤ n := by
        rw [Hnk.out, ← hm]
        have : (rk + 1) * k ≤ k * k := Nat.mul_le_mul_right k (by omega)
        rw [Nat.add_mul, Nat.one_mul] at this
        exact this
      have e1 : (rk : Int) * (k : Int) = (m : Int) := by rw [← hm]; push_cast; rfl
      have e2 : ((rk : Int) + 1) * (k : Int) = (m : Int) + k := by rw [Int.add_mul, Int.one_mul, e1]
      have hlo : (m : Int) ≤ (m : Int) + k := by omega
      have hhi : (m : Int) + k ≤ c := by omega
      have Hm := Lib.hid hm
      have Hrk := Lib.hid hrk'
      have hq0 : (0 : Int) ≤ (rk : Int) := by omega
      have hrk6 : rk ≤ 6 := by omega
      have e3 : m + k - m = k := by omega
      obtain ⟨Q, hQ⟩ : ∃ Q, r * (k + 1) = Q := ⟨_, rfl⟩
      have hQL : Q + (k + 1) ≤ k * (k + 1) := by
        have : (r + 1) * (k + 1) ≤ k * (k + 1) := Nat.mul_le_mul_right (k + 1) (by omega)
        rw [Nat.add_mul, Nat.one_mul, hQ] at this
        exact this
      have hL56 : k * (k + 1) ≤ 56 := by
        have : k * (k + 1) ≤ 7 * 8 := Nat.mul_le_mul hk7 (by omega)
        omega
      rw [hQ] at HB
      have hat : ∀ i, i < k → Fm.at_ k cs (Q + i) = Fm.let_ (cs.getD (m + i) 0) := fun i hi => by rw [← hQ, Fm.at_rc cs hi, ← hrk', hm]
      have hend : Fm.at_ k cs (Q + k) = 47 := by rw [← hQ]; exact Fm.at_end cs
      have Hat := Lib.hid hat
      have Hend := Lib.hid hend
      have HQ := Lib.hid hQ
      have Hq := Lib.hid hq
      clear hm hrk' hq hat hend hQ
      go_wp2_with fail
      rw [e3]
      clear e3
      go_loopw [30] (fun v wi => ∃ i : Nat, i ≤ k ∧ v = .int .i64 (i : Nat) ∧ Bu wi g g ((Fm.fmt k cs).take (Q + i)) ∧ Below g y1 wi) (fun v _ => k - (intOf v).toNat)
      case atStart => exact ⟨0, by omega, rfl, by simpa using HB.out, HW.out⟩
      case round =>
        clear HB HW u0 u1 X1
        obtain ⟨i, hi, rfl, hbu, hbl⟩ := hrel
        have HB := Lib.hid hbu
        have HW := Lib.hid hbl
        have X1 := Lib.hid (X0.out.below hbl (by omega))
        have hzi := hbl.size
        have u0 := X1.out.cell0
        have u1 := X1.out.cell1
        have hlen : ((Fm.fmt k cs).take (Q + i)).length ≤ 1000000 := by rw [List.length_take, Fm.fmt_len]; omega
        have HLen := Lib.hid hlen
        clear hlen
        by_cases hik : i < k
        · have hiI : (i : Int) < k := by omega
          have hcl : ∀ w9, Below g y1 w9 → w9.cell? ⟨b0, o0 + m + i, none⟩ = some (.int .i64 (cs.getD (m + i) 0)) := fun w9 hb9 => by
            have h1 := Hcc.out (m + i) (by omega)
            have h2 := (Hb.out.cell (p := ⟨b0, o0 + (m + i), none⟩) (by show b0 < _; omega)).trans h1
            have h3 := (hb9.cell (p := ⟨b0, o0 + (m + i), none⟩) (by show b0 < _; omega)).trans h2
            rw [Nat.add_assoc]
            exact h3
          have ck := hcl _ hbl
          have hx := Hok.out (m + i) (by omega)
          have ht := Fm.fmt_take (s := k) (cs := cs) (i := Q + i) (by omega)
          rw [Hat.out i hik] at ht
          obtain ⟨x, hxe⟩ : ∃ x, cs.getD (m + i) 0 = x := ⟨_, rfl⟩
          rw [hxe] at ck hx ht
          have Ht := Lib.hid ht
          clear hcl hxe ht hbu hbl
          rcases let_of hx.1 hx.2 with ⟨rfl, hl⟩ | ⟨rfl, hl⟩ | ⟨rfl, hl⟩
          all_goals
            rw [hl] at Ht
            clear hl hx
            go_wp2_with fail
            refine (g_writeByte g g _ _ _ HB.out HLen.out (by omega)).mono ?_
            rintro e wj ⟨rfl, hbu, hbl⟩
            have HB9 := Lib.hid hbu
            have HW9 := Lib.hid (HW.out.trans hbl)
            clear hbu hbl
            go_wp2_with fail
            go_roundw
            case rel => exact ⟨i + 1, by omega, by go_num, by rw [← Nat.add_assoc, Ht.out]; exact HB9.out, HW9.out⟩
            case measure => simp [intOf]; omega
        · have hik' : i = k := by omega
          have ht := Fm.fmt_take (s := k) (cs := cs) (i := Q + k) (by omega)
          rw [Hend.out] at ht
          have Ht := Lib.hid ht
          have HB : Hid (Bu wr g g ((Fm.fmt k cs).take (Q + k))) := Lib.hid (by have h9 := hbu; rw [hik'] at h9; exact h9)
          have HLen : Hid (((Fm.fmt k cs).take (Q + k)).length ≤ 1000000) := Lib.hid (by have h9 := HLen.out; rw [hik'] at h9; exact h9)
          have hiI : ¬ (i : Int) < k := by omega
          clear ht hbu hbl hik'
          go_wp2_with fail
          refine (g_writeByte g g _ _ _ HB.out HLen.out (by omega)).mono ?_
          rintro e wj ⟨rfl, hbu, hbl⟩
          have HB9 := Lib.hid hbu
          have HW9 := Lib.hid (HW.out.trans hbl)
          clear hbu hbl
          go_wp2_with fail
          go_roundw
          case rel => exact ⟨_, r + 1, by have := Hq.out; omega, by omega, rfl, by
            have e9 : (r + 1) * (k + 1) = Q + k + 1 := by have h9 := HQ.out; rw [Nat.add_mul, Nat.one_mul, h9, Nat.add_assoc]
            rw [e9, Ht.out]
            exact HB9.out, HW9.out⟩
          case measure => simp [intOf]
    · have hrk' : r = k := by omega
      have hq1 : q = -1 := by omega
      have hfull : (Fm.fmt k cs).take (r * (k + 1)) = Fm.fmt k cs := by rw [hrk']; exact List.take_of_length_le (by rw [Fm.fmt_len]; exact Nat.le_refl _)
      have hlib := HB.out.lib
      rw [hfull, ← bytes_of _ (fmt_bytes k cs)] at hlib
      have HLib := Lib.hid hlib
      subst hq1
      clear hlib hfull hrk' hq
      go_wp2_with fail
      refine (Try.Builder_String_any g g _ _ HLib.out (by omega)).mono ?_
      rintro e w9 ⟨rfl, hb9⟩
      have Hf := Lib.hid (Hb.out.trans ((HW.out.trans hb9).mono (by omega)))
      clear hb9
      go_wp2_with fail
      go_ret
      exact ⟨rfl, Hf.out⟩
end Go.Proofs.Ytmokpaofljdehaa

namespace Go.Proofs.Ytmokpaofljdehaa
set_option maxRecDepth 100000
open Go.RowKit

theorem own_cap {w : World} {B n c : Nat} {A : Option Addr} {xs : List Int} (h : Own w B A n c xs) : n ≤ c ∧ c ≤ 9223372036854775807 := by
  rcases h.2.2 with ⟨e, _⟩ | ⟨g, cap, cur, e, _, _, h1, h2, _⟩
  · injection e with _ e1 e2; omega
  · injection e with _ _ e2
    unfold maxLen at h2
    omega

section
variable (s : Int) (w : World) (B : Nat) (A : Option Addr) (n c : Nat) (cs : List Int) (h : Ints w B A n cs) (hB : B ≤ w.heap.size) (hn : n ≤ 1000000000)
include h hB hn

set_option maxHeartbeats 2000000 in
theorem i_FormatB (hc : n ≤ c) (hc2 : c ≤ 9223372036854775807) : Calls Try.prog 33 #[.agg #[.int .i64 s, .slice A n c]] w fun e w' => e = .returned (.string (fmtB s cs)) ∧ Below w.heap.size w w' := by
  rcases Bool.eq_false_or_eq_true (Bd.okB s cs) with hv | hv
  · obtain ⟨q1, q2, _, _⟩ := (Bd.okB_iff s cs).1 hv
    obtain ⟨k, rfl⟩ := Int.eq_ofNat_of_zero_le (show 0 ≤ s by omega)
    have hf : fmtB (k : Int) cs = strOfNums (Fm.fmt k cs) := by rw [fmtB, if_pos hv]; rfl
    rw [hf]
    exact i_FormatV k w B A n c cs h hB hc hc2 hv
  · have hf : fmtB s cs = ⟨#[]⟩ := by rw [fmtB, hv]; rfl
    have HF := Lib.hid hf
    have hb1 : Below w.heap.size w (w.alloc (.cells #[.int .i64 s, .slice A n c] 29)) := (Below.refl _ _).alloc (Nat.le_refl _) _
    have X0 := Lib.hid (Bx.new 29 w s (.slice A n c))
    have H := Lib.hid (h.below hb1 hB)
    have Hb := Lib.hid hb1
    have Hv := Lib.hid hv
    clear h hb1 hv hf
    go_enter Try.func33, Try.ntmps33
    go_wp2_with fail
    refine (i_validBoard _ _ _ _ _ _ _ H.out (by simp; omega) (by omega)).mono ?_
    rintro e y ⟨rfl, hb⟩
    rw [Hv.out]
    have Hb := Lib.hid (Hb.out.trans (hb.mono (by simp)))
    clear hb
    go_wp2_with fail
    go_ret
    exact ⟨by rw [HF.out]; rfl, Hb.out⟩

set_option maxHeartbeats 2000000 in
theorem s_FormatB : Calls Try.prog 34 #[.agg #[.int .i64 s, .slice A n c]] w fun e w' => e = .returned (.string (fmtB s cs)) ∧ Below w.heap.size w w' := by
  have hl := h.1
  have hb1 : Below w.heap.size w (w.alloc (.cells #[.int .i64 s, .slice A n c] 29)) := (Below.refl _ _).alloc (Nat.le_refl _) _
  have X0 := Lib.hid (Bx.new 29 w s (.slice A n c))
  have H := Lib.hid (h.below hb1 hB)
  have Hb := Lib.hid hb1
  rcases Bool.eq_false_or_eq_true (Bd.okB s cs) with hv | hv
  · obtain ⟨q1, q2, q3, q4⟩ := (Bd.okB_iff s cs).1 hv
    obtain ⟨k, rfl⟩ := Int.eq_ofNat_of_zero_le (show 0 ≤ s by omega)
    have hf : fmtB (k : Int) cs = strOfNums (Fm.fmt k cs) := by rw [fmtB, if_pos hv]; rfl
    have hnk : n = k * k := by
      have : (n : Int) = ((k * k : Nat) : Int) := by rw [← hl]; push_cast; exact q3
      exact_mod_cast this
    have HF := Lib.hid hf
    have Hnk := Lib.hid hnk
    have Hok := Lib.hid (okL_mem.2 q4)
    have Hv := Lib.hid hv
    clear h hb1 hv hf q3 q4 hnk hl
    go_enter Try.func34, Try.ntmps34
    go_wp2_with fail
    refine (s_validBoard _ _ _ _ _ _ _ H.out (by simp; omega) (by omega)).mono ?_
    rintro e y ⟨rfl, hb⟩
    rw [Hv.out]
    have X0 := Lib.hid (X0.out.below hb X0.out.lt)
    have H := Lib.hid (H.out.below hb (by simp; omega))
    have Hb := Lib.hid (Hb.out.trans (hb.mono (by simp)))
    have hzy := X0.out.lt
    clear hb
    have u0 := X0.out.cell0
    have u1 := X0.out.cell1
    go_wp2_with fail
    refine (s_formatBoard k _ _ _ n _ cs H.out (by omega) (by omega) (by omega) Hnk.out Hok.out).mono ?_
    rintro e y2 ⟨rfl, hb⟩
    have Hb := Lib.hid (Hb.out.trans (hb.mono (by omega)))
    clear hb
    go_wp2_with fail
    go_ret
    exact ⟨by rw [HF.out]; rfl, Hb.out⟩
  · have hf : fmtB s cs = ⟨#[]⟩ := by rw [fmtB, hv]; rfl
    have HF := Lib.hid hf
    have Hv := Lib.hid hv
    clear h hb1 hv hf hl
    go_enter Try.func34, Try.ntmps34
    go_wp2_with fail
    refine (s_validBoard _ _ _ _ _ _ _ H.out (by simp; omega) (by omega)).mono ?_
    rintro e y ⟨rfl, hb⟩
    rw [Hv.out]
    have Hb := Lib.hid (Hb.out.trans (hb.mono (by simp)))
    clear hb
    go_wp2_with fail
    go_ret
    exact ⟨by rw [HF.out]; rfl, Hb.out⟩
end
end Go.Proofs.Ytmokpaofljdehaa

namespace Go.Proofs.Ytmokpaofljdehaa
set_option maxRecDepth 100000
open Go.RowKit

theorem undrew {a b : World} (h : Below a.drew.heap.size a.drew b) : Below a.heap.size a b := ⟨h.os, h.tape, h.output, h.size, h.block⟩
theorem Ints.step {w w' : World} {n : Nat} {A : Option Addr} {xs : List Int} (h : Ints w w.heap.size A n xs) (hb : Below w.heap.size w w') : Ints w' w'.heap.size A n xs := (h.below hb (Nat.le_refl _)).more hb.size
theorem Bx.step {t : TypeId} {w w' : World} {g : Nat} {s : Int} {v : Value} (h : Bx t w g s v) (hb : Below w.heap.size w w') : Bx t w' g s v := h.below hb h.lt
theorem bstep {a w w' : World} (h : Below a.heap.size a w) (hb : Below w.heap.size w w') : Below a.heap.size a w' := h.trans (hb.mono h.size)

theorem l_eqB (s : Int) (w : World) (A A' : Option Addr) (n c c' : Nat) (xs : List Int) (h : Ints w w.heap.size A n xs) (h' : Ints w w.heap.size A' n xs) (hn : n ≤ 1000000) :
    Calls Try.prog 28 #[.agg #[.int .i64 s, .slice A n c], .agg #[.int .i64 s, .slice A' n c']] w fun e w' => e = .returned (.bool true) ∧ Below w.heap.size w w' := by
  have hb2 : Below w.heap.size w ((w.alloc (.cells #[.int .i64 s, .slice A n c] 29)).alloc (.cells #[.int .i64 s, .slice A' n c'] 29)) := ((Below.refl _ _).alloc (Nat.le_refl _) _).alloc (by simp) _
  have H := Lib.hid (h.below hb2 (Nat.le_refl _))
  have H' := Lib.hid (h'.below hb2 (Nat.le_refl _))
  have Hb := Lib.hid hb2
  clear h h' hb2
  go_enter Try.func28, Try.ntmps28
  go_wp2_with fail
  refine (eqi_t _ _ _ _ _ n _ _ xs H.out H'.out (by omega)).mono ?_
  rintro e w' ⟨k, rfl, rfl⟩
  go_wp2_with fail
  go_ret
  exact ⟨rfl, drew_below Hb.out k⟩

theorem IsRow.below {k : IntKind} {w w' : World} {a : Option Addr} {len cap : Nat} {zs : List Int} (h : IsRow k w a len cap zs) (hb : Below w.heap.size w w') : IsRow k w' a len cap zs := by
  rcases h with h | ⟨x, hx, h1, h2, h3, h4, h5⟩
  · exact .inl h
  · refine .inr ⟨x, hx, h1, h2, h3, fun i hi => ?_, h5⟩
    have := h4 i hi
    exact (World.cell?_of_block (w := w) (a := x.add i) (hb.block _ (World.block_lt_of_cell? w _ this))).trans this

/-- What a law's draw of a board gives. -/
def DrawnL (w : World) (e : Ending) (w' : World) : Prop :=
  ∃ (s : Int) (A : Option Addr) (n c : Nat) (cs : List Int), e = .returned (.agg #[.int .i64 s, .slice A n c]) ∧ Ints w' w'.heap.size A n cs ∧ n ≤ 49 ∧ 0 ≤ s ∧ s ≤ 8 ∧ Below w.heap.size w w'
/-- The same with an int. -/
def DrawnLI (P : Int → Prop) (w : World) (e : Ending) (w' : World) : Prop :=
  ∃ (s : Int) (A : Option Addr) (n c : Nat) (cs : List Int) (x : Int), e = .returned (.tuple #[.agg #[.int .i64 s, .slice A n c], .int .i64 x]) ∧ Ints w' w'.heap.size A n cs ∧ n ≤ 49 ∧ 0 ≤ s ∧ s ≤ 8 ∧ P x ∧ Below w.heap.size w w'

end Go.Proofs.Ytmokpaofljdehaa

namespace Go.Proofs.Ytmokpaofljdehaa
set_option maxRecDepth 100000
open Go.RowKit

def cnt (x : Int) (cs : List Int) : Int := ((cs.filter fun c => c == x).length : Nat)
theorem cnt_bd (x : Int) (cs : List Int) : 0 ≤ cnt x cs ∧ cnt x cs ≤ cs.length := by
  unfold cnt
  have := List.length_filter_le (fun c => c == x) cs
  omega
theorem cnt_yes {x : Int} {cs : List Int} {k : Nat} (h : k < cs.length) (hx : (cs.getD k 0 == x) = true) : cnt x (cs.take (k + 1)) = cnt x (cs.take k) + 1 := by
  have e : cs.getD k 0 = cs[k] := by simp [List.getD_eq_getElem?_getD, List.getElem?_eq_getElem h]
  rw [e] at hx
  unfold cnt
  rw [List.take_succ_eq_append_getElem h, List.filter_append, List.length_append, List.filter_cons, hx]
  simp
theorem cnt_no {x : Int} {cs : List Int} {k : Nat} (h : k < cs.length) (hx : (cs.getD k 0 == x) = false) : cnt x (cs.take (k + 1)) = cnt x (cs.take k) := by
  have e : cs.getD k 0 = cs[k] := by simp [List.getD_eq_getElem?_getD, List.getElem?_eq_getElem h]
  rw [e] at hx
  unfold cnt
  rw [List.take_succ_eq_append_getElem h, List.filter_append, List.length_append, List.filter_cons, hx]
  simp

def cntB (s : Int) (cs : List Int) (x : Int) : Int := if Bd.okB s cs then cnt x cs else -1

end Go.Proofs.Ytmokpaofljdehaa

namespace Go.Proofs.Ytmokpaofljdehaa
set_option maxRecDepth 100000
open Go.RowKit

section
variable (s : Int) (w : World) (A : Option Addr) (n c : Nat) (cs : List Int)
variable (k : Int)
end

theorem len_of {cs : List Int} {n m : Nat} (h : (othCs cs).length = m) (h0 : cs.length = n) : n = m := by rw [othCs_len] at h; omega
theorem len_mv {s k : Int} {cs : List Int} {n m : Nat} (h : (Bd.mv s k cs).length = m) (h0 : cs.length = n) : n = m := by rw [Bd.mv_len] at h; omega
theorem oth_oth {x : Int} (h0 : 0 ≤ x) (h2 : x ≤ 2) : oth (oth x) = x := by
  have h3 : x = 0 ∨ x = 1 ∨ x = 2 := by omega
  rcases h3 with rfl | rfl | rfl <;> decide
theorem othCs_twice {cs : List Int} (h : OkL cs) : othCs (othCs cs) = cs := by
  rw [okL_mem] at h
  unfold othCs
  rw [List.map_map]
  conv => rhs; rw [← List.map_id cs]
  exact List.map_congr_left fun x hx => oth_oth (h x hx).1 (h x hx).2
theorem othCs_set (l : List Int) (p : Nat) (x : Int) : othCs (l.set p x) = (othCs l).set p (oth x) := by
  unfold othCs; rw [List.map_set]
theorem othCs_getD (cs : List Int) (j : Nat) : oth (cs.getD j 0) = (othCs cs).getD j 0 := by
  unfold othCs
  rw [List.getD_eq_getElem?_getD, List.getD_eq_getElem?_getD, List.getElem?_map]
  cases cs[j]? <;> rfl
theorem steps_oth (f : Nat → Nat) (cs : List Int) (j : Nat) (l : List Int) : othCs (Bd.steps f cs j l) = Bd.steps f (othCs cs) j (othCs l) := by
  induction j with
  | zero => rfl
  | succ j ih => rw [Bd.steps, Bd.steps, othCs_set, ih, othCs_getD]
theorem mv_oth (s k : Int) (cs : List Int) : Bd.mv s k (othCs cs) = othCs (Bd.mv s k cs) := by
  unfold Bd.mv
  rw [steps_oth, othCs_len]
end Go.Proofs.Ytmokpaofljdehaa

namespace Go.Proofs.Ytmokpaofljdehaa
set_option maxRecDepth 100000

theorem perm_of_sub {l r : List Nat} (hn : l.Nodup) (hs : ∀ x ∈ l, x ∈ r) (hl : r.length ≤ l.length) : List.Perm l r := by
  induction l generalizing r with
  | nil =>
    have e : r = [] := List.eq_nil_of_length_eq_zero (by simpa using hl)
    subst e
    exact .refl _
  | cons x l ih =>
    have hx : x ∈ r := hs x (by simp)
    obtain ⟨hxl, hnl⟩ := List.nodup_cons.1 hn
    refine List.Perm.trans ?_ (List.perm_cons_erase hx).symm
    refine List.Perm.cons x (ih hnl (fun y hy => ?_) ?_)
    · have hne : y ≠ x := fun e => hxl (e ▸ hy)
      exact (List.mem_erase_of_ne hne).2 (hs y (by simp [hy]))
    · rw [List.length_erase_of_mem hx]
      simp at hl
      omega

theorem nodup_map {f : Nat → Nat} {l : List Nat} (hn : l.Nodup) (hf : ∀ a ∈ l, ∀ b ∈ l, f a = f b → a = b) : (l.map f).Nodup := by
  induction l with
  | nil => simp
  | cons x l ih =>
    obtain ⟨hx, hl⟩ := List.nodup_cons.1 hn
    rw [List.map_cons, List.nodup_cons]
    refine ⟨fun hm => ?_, ih hl fun a ha b hb => hf a (by simp [ha]) b (by simp [hb])⟩
    obtain ⟨y, hy, he⟩ := List.mem_map.1 hm
    have := hf y (by simp [hy]) x (by simp) he
    exact hx (this ▸ hy)

theorem list_as_map (cs : List Int) : cs = (List.range cs.length).map fun p => cs.getD p 0 := by
  apply List.ext_getElem
  · simp
  · intro i h1 h2
    simp [List.getD_eq_getElem?_getD, List.getElem?_eq_getElem h1]

theorem mv_perm {s k : Int} {cs : List Int} (h1 : 1 ≤ s) (h2 : s ≤ 7) (hn : (cs.length : Int) = s * s) (k1 : 0 ≤ k) (k2 : k < 8) : List.Perm (Bd.mv s k cs) cs := by
  have hp : List.Perm ((List.range cs.length).map (Bd.imgN s k)) (List.range cs.length) := by
    refine perm_of_sub (nodup_map List.nodup_range fun a ha b hb he => ?_) (fun x hx => ?_) (by simp)
    · exact Bd.imgN_inj s k cs.length h1 h2 hn k1 k2 a b (List.mem_range.1 ha) (List.mem_range.1 hb) he
    · obtain ⟨p, hp, rfl⟩ := List.mem_map.1 hx
      exact List.mem_range.2 (Bd.imgN_lt s k cs.length p h1 h2 hn (List.mem_range.1 hp)).1
  have e1 := list_as_map (Bd.mv s k cs)
  rw [Bd.mv_len] at e1
  rw [e1]
  refine ((hp.map fun q => (Bd.mv s k cs).getD q 0).symm).trans ?_
  rw [List.map_map]
  conv => rhs; rw [list_as_map cs]
  have : (List.range cs.length).map ((fun q => (Bd.mv s k cs).getD q 0) ∘ Bd.imgN s k) = (List.range cs.length).map fun p => cs.getD p 0 := by
    apply List.map_congr_left
    intro p hp
    have hp' := List.mem_range.1 hp
    have := Bd.steps_at (f := Bd.imgN s k) (cs := cs) (l := cs) (j := cs.length) (fun a b ha hb he => Bd.imgN_inj s k cs.length h1 h2 hn k1 k2 a b ha hb he) (fun a ha => (Bd.imgN_lt s k cs.length a h1 h2 hn ha).1) hp'
    show (Bd.mv s k cs).getD (Bd.imgN s k p) 0 = _
    unfold Bd.mv
    rw [List.getD_eq_getElem?_getD, this]
    rfl
  rw [this]

theorem cnt_perm {a b : List Int} (h : List.Perm a b) (x : Int) : cnt x a = cnt x b := by
  unfold cnt
  rw [(h.filter _).length_eq]
theorem cnt_mv {s k : Int} {cs : List Int} (hv : Bd.okB s cs = true) (hk : Pt.okK k = true) (x : Int) : cnt x (Bd.mv s k cs) = cnt x cs := by
  obtain ⟨a, b, c, _⟩ := (Bd.okB_iff s cs).1 hv
  obtain ⟨k1, k2⟩ := (Pt.okK_iff k).1 hk
  exact cnt_perm (mv_perm a b c k1 k2) x
theorem cnt_oth {cs : List Int} (h : OkL cs) {x : Int} (x1 : 1 ≤ x) (x2 : x ≤ 2) : cnt (3 - x) (othCs cs) = cnt x cs := by
  rw [okL_mem] at h
  unfold cnt othCs
  rw [List.filter_map, List.length_map]
  congr 2
  apply List.filter_congr
  intro c hc
  have h3 : c = 0 ∨ c = 1 ∨ c = 2 := by have := h c hc; omega
  have h4 : x = 1 ∨ x = 2 := by omega
  rcases h3 with rfl | rfl | rfl <;> rcases h4 with rfl | rfl <;> rfl
theorem cnt_nonneg (x : Int) (cs : List Int) : 0 ≤ cnt x cs := by unfold cnt; omega
end Go.Proofs.Ytmokpaofljdehaa

namespace Go.Proofs.Ytmokpaofljdehaa
set_option maxRecDepth 100000
open Go.RowKit

end Go.Proofs.Ytmokpaofljdehaa

namespace Go.Proofs.Ytmokpaofljdehaa
set_option maxRecDepth 100000
open Go.RowKit

theorem cntB_mv {s k x N : Int} {cs : List Int} (hv : Bd.okB s cs = true) (hk : Pt.okK k = true) (hN : cntB s cs x = N) : cntB s (Bd.mv s k cs) x = N := by
  rw [← hN, cntB, cntB, if_pos hv, if_pos (okB_mv hv), cnt_mv hv hk]
theorem cntB_oth {s x N : Int} {cs : List Int} (hv : Bd.okB s cs = true) (x1 : 1 ≤ x) (x2 : x ≤ 2) (hN : cntB s cs x = N) : cntB s (othCs cs) (3 - x) = N := by
  rw [← hN, cntB, cntB, if_pos hv, if_pos (okB_oth hv), cnt_oth (okL_mem.2 ((Bd.okB_iff s cs).1 hv).2.2.2) x1 x2]
theorem cntB_ok {s x N : Int} {cs : List Int} (hN : cntB s cs x = N) (h0 : 0 ≤ N) : Bd.okB s cs = true := by
  rcases Bool.eq_false_or_eq_true (Bd.okB s cs) with h | h
  · exact h
  · rw [cntB, h] at hN
    have : (-1 : Int) = N := hN
    omega

theorem mv_at {s k : Int} {cs : List Int} (h1 : 1 ≤ s) (h2 : s ≤ 7) (hn : (cs.length : Int) = s * s) (k1 : 0 ≤ k) (k2 : k < 8) {p : Nat} (hp : p < cs.length) : (Bd.mv s k cs)[Bd.imgN s k p]? = some (cs.getD p 0) :=
  Bd.steps_at (f := Bd.imgN s k) (cs := cs) (l := cs) (j := cs.length) (fun a b ha hb he => Bd.imgN_inj s k cs.length h1 h2 hn k1 k2 a b ha hb he) (fun a ha => (Bd.imgN_lt s k cs.length a h1 h2 hn ha).1) hp
theorem imgN_comp {s a b : Int} {n p : Nat} (h1 : 1 ≤ s) (h2 : s ≤ 7) (hn : (n : Int) = s * s) (a1 : 0 ≤ a) (a2 : a < 8) (b1 : 0 ≤ b) (b2 : b < 8) (hp : p < n) : Bd.imgN s (Pt.comp a b) p = Bd.imgN s b (Bd.imgN s a p) := by
  obtain ⟨c1, c2⟩ := Pt.comp_bd a b a1 a2 b1 b2
  obtain ⟨l1, e1⟩ := Bd.imgN_lt s a n p h1 h2 hn hp
  have hc := Pt.comp_tr a b s p a1 a2 b1 b2 h1 h2 (by omega) (by omega)
  rw [Pt.tr_in s a p h1 h2 (by omega) (by omega) a1 a2, ← e1, Pt.tr_in s b _ h1 h2 (by omega) (by omega) b1 b2, Pt.tr_in s (Pt.comp a b) p h1 h2 (by omega) (by omega) c1 c2] at hc
  unfold Bd.imgN at hc ⊢
  rw [hc]
theorem mv_mv {s a b : Int} {cs : List Int} (h1 : 1 ≤ s) (h2 : s ≤ 7) (hn : (cs.length : Int) = s * s) (a1 : 0 ≤ a) (a2 : a < 8) (b1 : 0 ≤ b) (b2 : b < 8) : Bd.mv s b (Bd.mv s a cs) = Bd.mv s (Pt.comp a b) cs := by
  obtain ⟨c1, c2⟩ := Pt.comp_bd a b a1 a2 b1 b2
  have hl : (Bd.mv s a cs).length = cs.length := Bd.mv_len _ _ _
  apply List.ext_getElem?
  intro q
  by_cases hq : q < cs.length
  · obtain ⟨p, hp, rfl⟩ := Bd.imgN_sur s (Pt.comp a b) cs.length h1 h2 hn c1 c2 q hq
    obtain ⟨l1, _⟩ := Bd.imgN_lt s a cs.length p h1 h2 hn hp
    rw [mv_at h1 h2 hn c1 c2 hp, imgN_comp h1 h2 hn a1 a2 b1 b2 hp, mv_at h1 h2 (by rw [hl]; exact hn) b1 b2 (by rw [hl]; exact l1), List.getD_eq_getElem?_getD, mv_at h1 h2 hn a1 a2 hp]
    rfl
  · rw [List.getElem?_eq_none (by rw [Bd.mv_len, hl]; omega), List.getElem?_eq_none (by rw [Bd.mv_len]; omega)]

theorem Ints.dr {w : World} {n : Nat} {A : Option Addr} {xs : List Int} (h : Ints w w.heap.size A n xs) : Ints w.drew w.drew.heap.size A n xs := h
theorem len_comp {s k : Int} {cs : List Int} {n m : Nat} (h : (Bd.mv s k cs).length = m) (h0 : cs.length = n) : n = m := len_mv h h0
end Go.Proofs.Ytmokpaofljdehaa

namespace Go.Proofs.Ytmokpaofljdehaa
set_option maxRecDepth 100000
open Go.RowKit

theorem i_slIndexByte (s : ByteArray) (c : Int) (w : World) :
    Calls Try.prog 85 #[.string s, .int .u8 c] w fun e w' => e = .returned (.int .i64 (Lib.indexByte s.data.toList c.toNat.toUInt8)) ∧ w' = w := by
  go_enter Try.func85, Try.ntmps85
  go_wp2
  rw [run_callFunc_extern Try.func99 (by kernel_rfl) (by kernel_rfl) (by kernel_rfl) (e := Extern.BytealgIndexByte.indexByte) (by kernel_rfl), Lib.run_indexByteString]
  simp only [Result.andThen]
  rw [Oper.upon_value]
  go_wp2
  go_ret
  exact ⟨rfl, rfl⟩

theorem i_indexByte (s : ByteArray) (c : Int) (w : World) :
    Calls Try.prog 61 #[.string s, .int .u8 c] w fun e w' => e = .returned (.int .i64 (Lib.indexByte s.data.toList c.toNat.toUInt8)) ∧ w' = w := by
  go_enter Try.func61, Try.ntmps61
  go_wp2_with fail
  refine (i_slIndexByte _ _ _).mono ?_
  rintro e w' ⟨rfl, rfl⟩
  go_wp2_with fail
  go_ret
  exact ⟨rfl, rfl⟩
end Go.Proofs.Ytmokpaofljdehaa

namespace Go.Proofs.Ytmokpaofljdehaa
set_option maxRecDepth 100000
open Go.RowKit

theorem gboth {a b : World} {row : Option Nat} (h : a.grownBy b row) : a.heap.size ≤ b.heap.size := h.size

set_option maxRecDepth 100000 in
set_option maxHeartbeats 4000000 in
/-- 'readRow' on a part of a row of the call's own. -/
theorem i_readRow (T : ByteArray) (k : Nat) (hT : T.size = k) (w : World) (B g n c off cap : Nat) (cs : List Int) (h : Own w B (some ⟨g, 0, none⟩) n c cs) (hoff : off + k ≤ n) (hn : n ≤ 1000000) (hcap : k ≤ cap) :
    Calls Try.prog 64 #[.slice (some ⟨g, off, none⟩) k cap, .string T] w fun e w' =>
      ∃ (b : Bool) (cs' : List Int) (j : Nat), e = .returned (.bool b) ∧ j ≤ k ∧ Fm.Rr T off j cs cs' ∧ (b = true → j = k) ∧ (b = false → j < k ∧ Fm.lx (Fm.byt T j) < 0) ∧ Own w' B (some ⟨g, 0, none⟩) n c cs' ∧ w.grownBy w' (some g) := by
  have Hl := Lib.hid h.1
  have Ho := Lib.hid h
  have Hs := Lib.hid (Fm.Rr.start T off cs)
  have Hg := Lib.hid (World.grownBy.refl w (some g))
  clear h
  go_enter Try.func64, Try.ntmps64
  go_wp2_with fail
  go_loopw [9] (fun v wr => ∃ (j : Nat) (ds : List Int), j ≤ k ∧ v = .int .i64 (j : Nat) ∧ Fm.Rr T off j cs ds ∧ Own wr B (some ⟨g, 0, none⟩) n c ds ∧ w.grownBy wr (some g)) (fun v _ => k - (intOf v).toNat)
  case atStart => exact ⟨0, _, by omega, rfl, Hs.out, Ho.out, Hg.out⟩
  case round =>
    clear Ho Hs Hg
    obtain ⟨j, ds, hj, rfl, hr, ho, hg⟩ := hrel
    have Hr := Lib.hid hr
    have Ho := Lib.hid ho
    have Hg := Lib.hid hg
    clear hr ho hg
    by_cases hjk : j < k
    · have hjT : j < T.size := by omega
      obtain ⟨x, hx⟩ : ∃ x, Fm.lx (Fm.byt T j) = x := ⟨_, rfl⟩
      have hix : Lib.indexByte (ByteArray.mk #[46, 88, 79]).data.toList ((T[j].toNat : Int).toNat.toUInt8) = x := by
        have e : (T[j].toNat : Int).toNat.toUInt8 = T[j] := by simp
        rw [e, ← hx, Fm.byt_eq hjT]
        exact Fm.lx_index T[j]
      have hxb := Fm.lx_bd (Fm.byt T j)
      rw [hx] at hxb
      have Hx := Lib.hid hx
      clear hx
      obtain ⟨v, hv0⟩ : ∃ v, wr.cell? ⟨g, off + j, none⟩ = some v := by
        have := World.ownsRow.cellAt Ho.out.2 (off + j) (by omega)
        rw [this]
        exact ⟨_, List.getElem?_eq_getElem (by rw [List.length_map, Ho.out.1]; omega)⟩
      have hf := World.ownsRow.frozenAt Ho.out.2 (off + j)
      by_cases hneg : x < 0
      · have Hneg := Lib.hid hneg
        clear Hl
        go_wp2_with fail
        refine (i_indexByte _ _ _).mono ?_
        rintro e w' ⟨rfl, rfl⟩
        rw [hix]
        go_wp2_with fail
        go_ret
        exact ⟨false, ds, j, rfl, by omega, Hr.out, (fun h => by cases h), (fun _ => ⟨hjk, by rw [Hx.out]; exact Hneg.out⟩), Ho.out, Hg.out⟩
      · have Hr2 := Lib.hid (Hr.out.step (by have := Hl.out; omega) (by rw [Hx.out]; omega))
        rw [Hx.out] at Hr2
        have hneg' : ¬ x < 0 := hneg
        go_wp2_with fail
        refine (i_indexByte _ _ _).mono ?_
        rintro e w' ⟨rfl, rfl⟩
        rw [hix]
        go_wp2_with fail
        go_roundw
        case rel => exact ⟨j + 1, _, by omega, by go_num, Hr2.out, (Own.stored Ho.out (off + j) x).1, gtrans Hg.out (Own.stored Ho.out (off + j) x).2⟩
        case measure => simp [intOf]; omega
    · obtain rfl : j = k := by omega
      go_wp2_with fail
      go_ret
      exact ⟨true, ds, _, rfl, Nat.le_refl _, Hr.out, (fun _ => rfl), (fun h => by cases h), Ho.out, Hg.out⟩
end Go.Proofs.Ytmokpaofljdehaa

namespace Go.Proofs.Ytmokpaofljdehaa
set_option maxRecDepth 100000
open Go.RowKit

/-- What a text leads to: the board that it asks for, of the call's own, or nothing. -/
def ParsedE (S : ByteArray) (w : World) (e : Ending) (w' : World) : Prop :=
  ∃ (ok : Bool) (s' : Int) (cs : List Int) (A : Option Addr) (n c : Nat), Fm.Prs S ok s' cs ∧ e = .returned (.tuple #[.agg #[.int .i64 s', .slice A n c], .bool ok]) ∧ Own w' w.heap.size A n c cs ∧ Below w.heap.size w w'

theorem ParsedE.at {S : ByteArray} {w w' : World} {e : Ending} {ok : Bool} {s : Int} {cs : List Int} (hP : Fm.Prs S ok s cs) (h : ParsedE S w e w') :
    ∃ (A : Option Addr) (n c : Nat), e = .returned (.tuple #[.agg #[.int .i64 s, .slice A n c], .bool ok]) ∧ Own w' w.heap.size A n c cs ∧ Below w.heap.size w w' := by
  obtain ⟨ok', s', cs', A, n, c, h1, h2, h3, h4⟩ := h
  obtain ⟨rfl, rfl, rfl⟩ := hP.one h1
  exact ⟨A, n, c, h2, h3, h4⟩

theorem ext_size {S : ByteArray} {Q E m : Nat} (hE : Q + m = E) (h : E ≤ S.size) : (S.extract Q E).size = m := by
  rw [Fm.size_data, Lib.extract_data, List.length_take, List.length_drop, ← Fm.size_data]; omega
theorem ext_byt {S : ByteArray} {Q E m : Nat} (hE : Q + m = E) (c : Nat) (hc : c < m) : Fm.byt (S.extract Q E) c = Fm.byt S (Q + c) := by
  rw [Fm.byt_data, Fm.byt_data, Lib.extract_data, List.getD_eq_getElem?_getD, List.getD_eq_getElem?_getD, List.getElem?_take, if_pos (by omega), List.getElem?_drop]

section
variable (T : ByteArray) (k : Nat) (hT : T.size = k) (w : World) (B g n c off cap : Nat) (cs : List Int) (h : Own w B (some ⟨g, 0, none⟩) n c cs) (hoff : off + k ≤ n) (hn : n ≤ 1000000) (hcap : k ≤ cap)
include h hT hoff hn hcap
theorem i_readRowT (hall : ∀ i, i < k → 0 ≤ Fm.lx (Fm.byt T i)) :
    Calls Try.prog 64 #[.slice (some ⟨g, off, none⟩) k cap, .string T] w fun e w' => e = .returned (.bool true) ∧ ∃ cs', Fm.Rr T off k cs cs' ∧ Own w' B (some ⟨g, 0, none⟩) n c cs' ∧ w.grownBy w' (some g) := by
  refine (i_readRow T k hT w B g n c off cap cs h hoff hn hcap).mono ?_
  rintro e w' ⟨b, cs', j, rfl, hj, h1, h2, h3, h4, h5⟩
  rcases Bool.eq_false_or_eq_true b with rfl | rfl
  · obtain rfl := h2 rfl
    exact ⟨rfl, cs', h1, h4, h5⟩
  · have := h3 rfl
    have h9 := hall j this.1
    omega
theorem i_readRowF (hno : ∃ i, i < k ∧ Fm.lx (Fm.byt T i) < 0) :
    Calls Try.prog 64 #[.slice (some ⟨g, off, none⟩) k cap, .string T] w fun e w' => e = .returned (.bool false) ∧ w.grownBy w' (some g) := by
  refine (i_readRow T k hT w B g n c off cap cs h hoff hn hcap).mono ?_
  rintro e w' ⟨b, cs', j, rfl, hj, h1, h2, h3, h4, h5⟩
  rcases Bool.eq_false_or_eq_true b with rfl | rfl
  · obtain rfl := h2 rfl
    obtain ⟨i, hi, hx⟩ := hno
    have := h1.2.1 i hi
    omega
  · exact ⟨rfl, h5⟩
end
end Go.Proofs.Ytmokpaofljdehaa

namespace Go.Proofs.Ytmokpaofljdehaa
set_option maxRecDepth 100000
open Go.RowKit

set_option maxRecDepth 100000 in
set_option maxHeartbeats 4000000 in
theorem s_ParseE (S : ByteArray) (w : World) (hS : S.size ≤ 1048576) :
    Calls Try.prog 30 #[.string S] w fun e w' => ParsedE S w e w' := by
  have hb1 : Below w.heap.size w (w.alloc (.cells #[.int .i64 0, .slice none 0 0] 29)) := (Below.refl _ _).alloc (Nat.le_refl _) _
  have x0 := Bx.new 29 w 0 (.slice none 0 0)
  go_enter Try.func30, Try.ntmps30
  go_upto_region 1 with (fail)
  obtain ⟨y, hy⟩ : ∃ y, y = w.alloc (.cells #[.int .i64 0, .slice none 0 0] 29) := ⟨_, rfl⟩
  have hyz : y.heap.size = w.heap.size + 1 := by rw [hy]; simp
  rw [← hy] at x0 hb1 ⊢
  have X0 := Lib.hid x0
  have Hb := Lib.hid hb1
  have Hyz := Lib.hid hyz
  clear hy x0 hb1 hyz
  have t0 := X0.out.cell0
  have t1 := X0.out.cell1
  have t2 := X0.out.frozen 0
  have t3 := X0.out.frozen 1
  have t4 := X0.out.lt
  go_wp2_with fail
  go_loop [4] (fun v => ∃ k : Nat, k ≤ 8 ∧ k ≤ S.size ∧ (∀ j, j < k → Fm.byt S j ≠ 47) ∧ v = .int .i64 (k : Nat)) (fun v => 8 - (intOf v).toNat)
  case atStart => exact ⟨0, by omega, by omega, fun j hj => absurd hj (Nat.not_lt_zero j), rfl⟩
  case round =>
    obtain ⟨k, hk, hkS, hq, rfl⟩ := hrel
    have Hq := Lib.hid hq
    clear hq
    have hround : ∀ P : Prop, (k < S.size ∧ k ≤ 7 ∧ ∃ h : k < S.size, (S[k].toNat : Int) ≠ 47) ∨ ¬ (k < S.size ∧ k ≤ 7 ∧ ∃ h : k < S.size, (S[k].toNat : Int) ≠ 47) := fun _ => Classical.em _
    rcases hround True with ⟨hlt, h7, _, hch⟩ | hno
    · have hb : ((S[k].toNat : Int) != 47) = true := by simpa using hch
      have Hq2 : Hid (∀ j, j < k + 1 → Fm.byt S j ≠ 47) := Lib.hid fun j hj => by
        rcases Nat.lt_or_eq_of_le (Nat.le_of_lt_succ hj) with h | rfl
        · exact Hq.out j h
        · rw [Fm.byt_eq hlt]; exact hch
      clear hround hch
      go_wp2_with fail
      go_round
      case rel => exact ⟨k + 1, by omega, by omega, Hq2.out, by go_num⟩
      case measure => simp [intOf]; omega
    · have hno3 : (¬ k < S.size) ∨ (k < S.size ∧ 7 < k) ∨ (k < S.size ∧ k ≤ 7 ∧ ∃ h : k < S.size, (S[k].toNat : Int) = 47) := by
        by_cases h1 : k < S.size
        · by_cases h2 : k ≤ 7
          · refine .inr (.inr ⟨h1, h2, h1, ?_⟩)
            exact Classical.byContradiction fun h3 => hno ⟨h1, h2, h1, h3⟩
          · exact .inr (.inl ⟨h1, by omega⟩)
        · exact .inl h1
      have Hend : Hid (S.size ≤ k ∨ 8 ≤ k ∨ Fm.byt S k = 47) := Lib.hid (by
        rcases hno3 with h | ⟨_, h⟩ | ⟨h, _, _, h'⟩
        · exact .inl (by omega)
        · exact .inr (.inl (by omega))
        · exact .inr (.inr (by rw [Fm.byt_eq h]; exact h')))
      clear hno hround
      obtain ⟨n, hkk⟩ : ∃ n : Nat, ((k : Nat) : Int) * ((k : Nat) : Int) = (n : Nat) := ⟨k * k, by simp⟩
      obtain ⟨L, hkL⟩ : ∃ L : Nat, ((k : Nat) : Int) * (((k : Nat) : Int) + 1) = (L : Nat) := ⟨k * (k + 1), by simp⟩
      have hnk : n = k * k := by have : ((n : Nat) : Int) = ((k * k : Nat) : Int) := by rw [← hkk]; simp
                                 omega
      have hLk : L = k * (k + 1) := by have : ((L : Nat) : Int) = ((k * (k + 1) : Nat) : Int) := by rw [← hkL]; simp
                                       omega
      have hn64 : n ≤ 64 := by rw [hnk]; exact Nat.le_trans (Nat.mul_le_mul hk hk) (by decide)
      have hL72 : L ≤ 72 := by rw [hLk]; exact Nat.le_trans (Nat.mul_le_mul hk (show k + 1 ≤ 9 by omega)) (by decide)
      have Hnk := Lib.hid hnk
      have HLk := Lib.hid hLk
      clear hnk hLk
      by_cases hv : 1 ≤ k ∧ k ≤ 7
      · have hno2 : (¬ k < S.size) ∨ (k < S.size ∧ ∃ h : k < S.size, (S[k].toNat : Int) = 47) := by
          rcases hno3 with h | ⟨_, h⟩ | ⟨h, _, h'⟩
          · exact .inl h
          · omega
          · exact .inr ⟨h, h'⟩
        clear hno3
        rcases hno2 with hlt | ⟨hlt, _, hch⟩
        all_goals try (have hb : ((S[k].toNat : Int) != 47) = false := by simpa using hch)
        all_goals try clear hch
        all_goals
          have hok : Pt.okS (k : Nat) = true := (Pt.okS_iff _).2 (by omega)
          by_cases hSL : S.size = L
          · have hd : decide ((S.size : Int) = (L : Int)) = true := by rw [hSL]; simp
            have hSn : ((S.size : Int) != (L : Int)) = false := by rw [hSL]; simp
            have hSL1 : S.size ≤ L ∧ L ≤ S.size := by omega
            clear hSL
            go_wp2_with fail
            refine (s_size _ _).mono ?_
            rintro e w' ⟨rfl, rfl⟩
            rw [hok]
            clear hok
            go_wp2_with (at_make; refine make0 rfl _ rfl _ (w.heap.size + 1) _ n rfl rfl (by omega) (by rw [Hyz.out]; exact Nat.le_refl _) ?_; intro w1 hown hbm hltm)
            have Ho := Lib.hid hown
            have zm := hbm.size
            have hyw : w.heap.size + 1 ≤ y.heap.size ∧ y.heap.size ≤ w.heap.size + 1 := by have := Hyz.out; omega
            have X0 := Lib.hid (X0.out.below hbm X0.out.lt)
            have Hb := Lib.hid (Hb.out.trans (hbm.mono (by omega)))
            have Hokz := Lib.hid (okL_zero' n)
            have Hrz := Lib.hid (Fm.Rd.zero S k n)
            have HSL := Lib.hid hSL1
            clear hown hbm t0 t1 t2 t3 t4 hSn hd
            obtain ⟨y3, hy3, hb3, z3, z4⟩ := new_box w1 (.cells #[.int .i64 (k : Nat), .slice (some ⟨y.heap.size, 0, none⟩) n n] 29)
            have X5 : Hid (Bx 29 y3 w1.heap.size (k : Nat) (.slice (some ⟨y.heap.size, 0, none⟩) n n)) := Lib.hid (by rw [hy3]; exact Bx.new _ _ _ _)
            rw [← hy3]
            clear hy3
            have X0 := Lib.hid (X0.out.below hb3 X0.out.lt)
            have Ho := Lib.hid (Ho.out.below hb3)
            have Hb := Lib.hid (Hb.out.trans (hb3.mono (by omega)))
            clear hb3
            go_loopw [6] (fun v wr => ∃ (p : Nat) (cs : List Int), p ≤ n ∧ v = .int .i64 (p : Nat) ∧ Own wr (w.heap.size + 1) (some ⟨y.heap.size, 0, none⟩) n n cs ∧ OkL cs ∧ Fm.Rd S k p cs ∧ Bx 29 wr w1.heap.size (k : Nat) (.slice (some ⟨y.heap.size, 0, none⟩) n n) ∧ Below (w.heap.size + 1) y3 wr) (fun v _ => n - (intOf v).toNat)
            case atStart => exact ⟨0, _, by omega, rfl, Ho.out, Hokz.out, Hrz.out, X5.out, Below.refl _ _⟩
            case round =>
              clear Ho Hokz X5 Hrz
              obtain ⟨p, cs, hp, rfl, ho, hok, hrd, hx5, hbr⟩ := hrel
              have Hrd := Lib.hid hrd
              clear hrd
              have X0 := Lib.hid (X0.out.below hbr (by omega))
              have X5 := Lib.hid hx5
              have Ho := Lib.hid ho
              have Hok := Lib.hid hok
              have Hbr := Lib.hid hbr
              have zr := hbr.size
              clear ho hok hx5 hbr
              have t0 := X5.out.cell0
              have t1 := X5.out.cell1
              have t2 := X5.out.lt
              by_cases hpn : p < n
              · obtain ⟨q, hq⟩ : ∃ q, p / k = q := ⟨_, rfl⟩
                obtain ⟨r, hr⟩ : ∃ r, p % k = r := ⟨_, rfl⟩
                obtain ⟨hq1, hr1⟩ := quo_rem (s := k) (p := p) (by omega) (by rw [← Hnk.out]; exact hpn)
                rw [hq] at hq1
                rw [hr] at hr1
                obtain ⟨j, hj⟩ : ∃ j, (k - 1 - q) * (k + 1) + r = j := ⟨_, rfl⟩
                have hjL : j < L := by
                  have h3 := Nat.mul_le_mul_right (k + 1) (show k - 1 - q + 1 ≤ k by omega)
                  rw [Nat.add_mul, Nat.one_mul] at h3
                  rw [HLk.out, ← hj]
                  omega
                have hjS : j < S.size := by omega
                have Hbt : Hid (Fm.byt S (Fm.jof k p) = (S[j].toNat : Int)) := Lib.hid (by rw [Fm.jof, hq, hr, hj, Fm.byt_eq hjS])
                have e1 : ((p : Nat) : Int).tdiv ((k : Nat) : Int) = (q : Nat) := by rw [Int.tdiv_eq_ediv_of_nonneg (by omega), ← hq]; rfl
                have e1' : ((p : Nat) : Int) / ((k : Nat) : Int) = (q : Nat) := by rw [← hq]; rfl
                have e2 : ((p : Nat) : Int).tmod ((k : Nat) : Int) = (r : Nat) := by rw [Int.tmod_eq_emod_of_nonneg (by omega), ← hr]; rfl
                have e2' : ((p : Nat) : Int) % ((k : Nat) : Int) = (r : Nat) := by rw [← hr]; rfl
                have e3 : IntKind.i64.wrap ((k : Nat) - 1 : Int) = (k : Nat) - 1 := IntWalk.i64_in _ (by omega)
                have e6 : IntKind.i64.wrap (((k : Nat) : Int) + 1) = (k : Nat) + 1 := IntWalk.i64_in _ (by omega)
                have hjc : (j : Int) < S.size := by omega
                obtain ⟨a, ha⟩ : ∃ a, k - 1 - q = a := ⟨_, rfl⟩
                obtain ⟨M, hM⟩ : ∃ M, a * (k + 1) = M := ⟨_, rfl⟩
                have hMj : M + r = j := by rw [← hj, ← hM, ← ha]
                have hMi : ((a : Nat) : Int) * (((k : Nat) : Int) + 1) = (M : Nat) := by rw [← hM]; simp
                have e4 : IntKind.i64.wrap ((k : Nat) - 1 - (q : Nat) : Int) = (a : Nat) := by
                  rw [show ((k : Nat) - 1 - (q : Nat) : Int) = (a : Nat) by omega]
                  exact IntWalk.i64_in _ (by omega)
                have e7 : IntKind.i64.wrap (((a : Nat) : Int) * (((k : Nat) : Int) + 1)) = (M : Nat) := by
                  rw [hMi]
                  exact IntWalk.i64_in _ (by omega)
                have e8 : IntKind.i64.wrap (((M : Nat) : Int) + (r : Nat)) = (j : Nat) := by
                  rw [show ((M : Nat) : Int) + (r : Nat) = (j : Nat) by omega]
                  exact IntWalk.i64_in _ (by omega)
                obtain ⟨v, hv0⟩ : ∃ v, wr.cell? ⟨y.heap.size, p, none⟩ = some v := by
                  have := World.ownsRow.cellAt Ho.out.2 p (by omega)
                  rw [this]
                  exact ⟨_, List.getElem?_eq_getElem (by rw [List.length_map, Ho.out.1]; exact hpn)⟩
                have hf := World.ownsRow.frozenAt Ho.out.2 p
                clear hq hr hj ha hM hMj hMi
                have Hbd : Hid (Below w.heap.size w wr) := Lib.hid (Hb.out.trans (Hbr.out.mono (by omega)))
                by_cases h88 : (S[j].toNat : Int) = 88
                · have hb88 : ((S[j].toNat : Int) == 88) = true := by simpa using h88
                  have Hr2 : Hid (Fm.Rd S k (p + 1) (cs.set p 1)) := Lib.hid (Hrd.out.put (by rw [Hbt.out, h88]; rfl))
                  clear h88
                  go_wp2_with fail
                  go_quiet (fail)
                  clear e1 e1' e2 e2' e3 e4 e6 e7 e8
                  go_wp2_with fail
                  go_roundw
                  case rel => exact ⟨p + 1, _, by omega, by go_num, (Own.stored (Ho.out.drewN nq) p 1).1, Hok.out.set p (by omega) (by omega), Hr2.out, (X5.out.drewN nq).far (p := ⟨y.heap.size, p, none⟩) (by show w1.heap.size ≠ y.heap.size; omega) _, (drew_below Hbr.out nq).setCell (by show w.heap.size + 1 ≤ y.heap.size; omega) _⟩
                  case measure => simp [intOf]; omega
                · have hb88 : ((S[j].toNat : Int) == 88) = false := by simpa using h88
                  clear h88
                  by_cases h79 : (S[j].toNat : Int) = 79
                  · have hb79 : ((S[j].toNat : Int) == 79) = true := by simpa using h79
                    have Hr2 : Hid (Fm.Rd S k (p + 1) (cs.set p 2)) := Lib.hid (Hrd.out.put (by rw [Hbt.out, h79]; rfl))
                    clear h79
                    go_wp2_with fail
                    go_quiet (fail)
                    clear e1 e1' e2 e2' e3 e4 e6 e7 e8
                    go_wp2_with fail
                    go_roundw
                    case rel => exact ⟨p + 1, _, by omega, by go_num, (Own.stored (Ho.out.drewN nq) p 2).1, Hok.out.set p (by omega) (by omega), Hr2.out, (X5.out.drewN nq).far (p := ⟨y.heap.size, p, none⟩) (by show w1.heap.size ≠ y.heap.size; omega) _, (drew_below Hbr.out nq).setCell (by show w.heap.size + 1 ≤ y.heap.size; omega) _⟩
                    case measure => simp [intOf]; omega
                  · have hb79 : ((S[j].toNat : Int) == 79) = false := by simpa using h79
                    have Hr2 : Hid (Fm.Rd S k (p + 1) cs) := Lib.hid (Hrd.out.skip (by
                      rw [Hbt.out]
                      have n88 : (S[j].toNat : Int) ≠ 88 := by simpa using hb88
                      unfold Fm.col
                      rw [if_neg n88, if_neg h79]))
                    clear h79
                    go_wp2_with fail
                    go_quiet (fail)
                    clear e1 e1' e2 e2' e3 e4 e6 e7 e8
                    go_wp2_with fail
                    go_roundw
                    case rel => exact ⟨p + 1, cs, by omega, by go_num, Ho.out.drewN nq, Hok.out, Hr2.out, X5.out.drewN nq, drew_below Hbr.out nq⟩
                    case measure => simp [intOf]; omega
              · obtain rfl : p = n := by omega
                have Hv := Lib.hid ((Bd.okB_iff (k : Nat) cs).2 ⟨by omega, by omega, by rw [Ho.out.1, Hnk.out]; simp, okL_mem.1 Hok.out⟩)
                go_wp2_with fail
                refine (s_formatBoard k _ _ _ p p cs Ho.out.ints (Nat.le_refl _) hv.1 hv.2 Hnk.out Hok.out).mono ?_
                rintro e yf ⟨rfl, hbf⟩
                have X0 := Lib.hid (X0.out.below hbf X0.out.lt)
                have X5 := Lib.hid (X5.out.below hbf X5.out.lt)
                have Ho := Lib.hid (Ho.out.below hbf)
                have Hb := Lib.hid (Hb.out.trans ((Hbr.out.trans (hbf.mono (by omega))).mono (by omega)))
                clear hbf t0 t1 t2
                have t0 := X5.out.cell0
                have t1 := X5.out.cell1
                have t2 := X5.out.lt
                have r0 := X0.out.cell0
                have r1 := X0.out.cell1
                have r2 := X0.out.frozen 0
                have r3 := X0.out.frozen 1
                have r4 := X0.out.lt
                by_cases heq : ((strOfNums (Fm.fmt k cs)).toList == S.toList) = true
                · have hbe : (!(strOfNums (Fm.fmt k cs)).toList == S.toList) = false := by rw [heq]; rfl
                  have Heq := Lib.hid (eq_of_beq heq)
                  have K0 := Lib.hid ((X0.out.set0 (k : Nat)).cell0)
                  have K1 := Lib.hid (((X0.out.set0 (k : Nat)).set1 (.slice (some ⟨y.heap.size, 0, none⟩) p p)).cell1)
                  have Hb3 := Lib.hid ((Hb.out.setCell (p := ⟨w.heap.size, 0, none⟩) (Nat.le_refl _) (.int .i64 (k : Nat))).setCell (p := ⟨w.heap.size, 1, none⟩) (Nat.le_refl _) (.slice (some ⟨y.heap.size, 0, none⟩) p p))
                  have Ho3 := Lib.hid ((Ho.out.far ⟨w.heap.size, 0, none⟩ (fun g hA => by have := (Ho.out.ge hA).1; show g ≠ w.heap.size; omega) (.int .i64 (k : Nat))).far ⟨w.heap.size, 1, none⟩ (fun g hA => by have := (Ho.out.ge hA).1; show g ≠ w.heap.size; omega) (.slice (some ⟨y.heap.size, 0, none⟩) p p))
                  clear heq
                  go_wp2_with fail
                  have k0 := K0.out
                  have k1 := K1.out
                  refine bodyPost_ret (v := .tuple #[.agg #[.int .i64 (k : Nat), .slice (some ⟨y.heap.size, 0, none⟩) p p], .bool true]) (by simp [results, Try.results30, go_sem, k0, k1]) rfl ?_
                  exact ⟨true, _, cs, _, _, _, .inl ⟨rfl, Hv.out, Heq.out⟩, rfl, Ho3.out.weaken (by omega), Hb3.out⟩
                · have hbe : (!(strOfNums (Fm.fmt k cs)).toList == S.toList) = true := by rw [Bool.eq_false_iff.2 heq]; rfl
                  have HN : Hid (Fm.NoB S) := Lib.hid (Fm.no_cells (k := k) (cs := cs) (by rw [← HLk.out]; omega) (by rw [Ho.out.1, Hnk.out]) (by rw [← Hnk.out]; exact Hrd.out) (fun e => heq (by rw [e]; simp)))
                  clear heq
                  have K0 := Lib.hid ((X0.out.set0 0).cell0)
                  have K1 := Lib.hid (((X0.out.set0 0).set1 (.slice none 0 0)).cell1)
                  have Hb3 := Lib.hid ((Hb.out.setCell (p := ⟨w.heap.size, 0, none⟩) (Nat.le_refl _) (.int .i64 0)).setCell (p := ⟨w.heap.size, 1, none⟩) (Nat.le_refl _) (.slice none 0 0))
                  go_wp2_with fail
                  have k0 := K0.out
                  have k1 := K1.out
                  refine bodyPost_ret (v := .tuple #[.agg #[.int .i64 0, .slice none 0 0], .bool false]) (by simp [results, Try.results30, go_sem, k0, k1]) rfl ?_
                  exact ⟨false, 0, [], _, _, _, .inr ⟨rfl, rfl, rfl, HN.out⟩, rfl, Own.nil _ _, Hb3.out⟩
          · have hSn : ((S.size : Int) != (L : Int)) = true := by simp; omega
            have HN : Hid (Fm.NoB S) := Lib.hid (Fm.no_text k Hq.out Hend.out (fun h => hSL (by rw [HLk.out]; exact h.2.2)))
            go_wp2_with fail
            refine (s_size _ _).mono ?_
            rintro e w' ⟨rfl, rfl⟩
            rw [hok]
            clear hok
            have K0 := Lib.hid ((X0.out.set0 0).cell0)
            have K1 := Lib.hid (((X0.out.set0 0).set1 (.slice none 0 0)).cell1)
            have Hb3 := Lib.hid ((Hb.out.setCell (p := ⟨w.heap.size, 0, none⟩) (Nat.le_refl _) (.int .i64 0)).setCell (p := ⟨w.heap.size, 1, none⟩) (Nat.le_refl _) (.slice none 0 0))
            go_wp2_with fail
            have k0 := K0.out
            have k1 := K1.out
            refine bodyPost_ret (v := .tuple #[.agg #[.int .i64 0, .slice none 0 0], .bool false]) (by simp [results, Try.results30, go_sem, k0, k1]) rfl ?_
            exact ⟨false, 0, [], _, _, _, .inr ⟨rfl, rfl, rfl, HN.out⟩, rfl, Own.nil _ _, Hb3.out⟩
      · have HN : Hid (Fm.NoB S) := Lib.hid (Fm.no_text k Hq.out Hend.out (fun h => hv ⟨h.1, h.2.1⟩))
        rcases hno3 with hlt | ⟨hlt, h7⟩ | ⟨hlt, h7, _, hch⟩
        all_goals try (have hb : ((S[k].toNat : Int) != 47) = false := by simpa using hch)
        all_goals try clear hch
        all_goals
          have hok : Pt.okS (k : Nat) = false := by
            rcases Bool.eq_false_or_eq_true (Pt.okS (k : Nat)) with h | h
            · have := (Pt.okS_iff _).1 h; omega
            · exact h
          go_wp2_with fail
          refine (s_size _ _).mono ?_
          rintro e w' ⟨rfl, rfl⟩
          rw [hok]
          clear hok
          have K0 := Lib.hid ((X0.out.set0 0).cell0)
          have K1 := Lib.hid (((X0.out.set0 0).set1 (.slice none 0 0)).cell1)
          have Hb3 := Lib.hid ((Hb.out.setCell (p := ⟨w.heap.size, 0, none⟩) (Nat.le_refl _) (.int .i64 0)).setCell (p := ⟨w.heap.size, 1, none⟩) (Nat.le_refl _) (.slice none 0 0))
          go_wp2_with fail
          have k0 := K0.out
          have k1 := K1.out
          refine bodyPost_ret (v := .tuple #[.agg #[.int .i64 0, .slice none 0 0], .bool false]) (by simp [results, Try.results30, go_sem, k0, k1]) rfl ?_
          exact ⟨false, 0, [], _, _, _, .inr ⟨rfl, rfl, rfl, HN.out⟩, rfl, Own.nil _ _, Hb3.out⟩
end Go.Proofs.Ytmokpaofljdehaa

namespace Go.Proofs.Ytmokpaofljdehaa
set_option maxRecDepth 100000
open Go.RowKit

theorem own_capP {w : World} {B n c : Nat} {A : Option Addr} {xs : List Int} (h : Own w B A n c xs) : n ≤ c ∧ c ≤ 9223372036854775807 := by
  rcases h.2.2 with ⟨e, _⟩ | ⟨g, cap, cur, e, _, _, h1, h2, _⟩
  · injection e with _ e1 e2; omega
  · injection e with _ _ e2
    unfold maxLen at h2
    omega

set_option maxRecDepth 100000 in
set_option maxHeartbeats 8000000 in
theorem i_ParseE (S : ByteArray) (w : World) (hS : S.size ≤ 1048576) :
    Calls Try.prog 31 #[.string S] w fun e w' => ParsedE S w e w' := by
  have hb1 : Below w.heap.size w (w.alloc (.cells #[.int .i64 0, .slice none 0 0] 29)) := (Below.refl _ _).alloc (Nat.le_refl _) _
  have x0 := Bx.new 29 w 0 (.slice none 0 0)
  go_enter Try.func31, Try.ntmps31
  go_upto_region 1 with (fail)
  obtain ⟨y, hy⟩ : ∃ y, y = w.alloc (.cells #[.int .i64 0, .slice none 0 0] 29) := ⟨_, rfl⟩
  have hyz : y.heap.size = w.heap.size + 1 := by rw [hy]; simp
  rw [← hy] at x0 hb1 ⊢
  have X0 := Lib.hid x0
  have Hb := Lib.hid hb1
  have Hyz := Lib.hid hyz
  clear hy x0 hb1 hyz
  have t0 := X0.out.cell0
  have t1 := X0.out.cell1
  have t2 := X0.out.frozen 0
  have t3 := X0.out.frozen 1
  have t4 := X0.out.lt
  have K0 := Lib.hid ((X0.out.set0 0).cell0)
  have K1 := Lib.hid (((X0.out.set0 0).set1 (.slice none 0 0)).cell1)
  have Hb3 := Lib.hid ((Hb.out.setCell (p := ⟨w.heap.size, 0, none⟩) (Nat.le_refl _) (.int .i64 0)).setCell (p := ⟨w.heap.size, 1, none⟩) (Nat.le_refl _) (.slice none 0 0))
  rcases Fm.slash S with ⟨hix, hq⟩ | ⟨m, hix, hm, hm47, hq⟩
  · have HN : Hid (Fm.NoB S) := Lib.hid (Fm.no_text S.size hq (.inl (Nat.le_refl _)) (fun h => by
      have := Nat.mul_le_mul_left S.size (show 2 ≤ S.size + 1 by omega)
      omega))
    have hix' : Lib.indexByte S.data.toList (Int.toNat 47).toUInt8 = -1 := hix
    have hok : Pt.okS (-1) = false := by decide
    clear hix hq
    go_wp2_with fail
    refine (i_indexByte _ _ _).mono ?_
    rintro e w' ⟨rfl, rfl⟩
    rw [hix']
    clear hix'
    go_wp2_with fail
    refine (i_size _ _).mono ?_
    rintro e w' ⟨rfl, rfl⟩
    rw [hok]
    clear hok
    go_wp2_with fail
    have k0 := K0.out
    have k1 := K1.out
    refine bodyPost_ret (v := .tuple #[.agg #[.int .i64 0, .slice none 0 0], .bool false]) (by simp [results, Try.results31, go_sem, k0, k1]) rfl ?_
    exact ⟨false, 0, [], _, _, _, .inr ⟨rfl, rfl, rfl, HN.out⟩, rfl, Own.nil _ _, Hb3.out⟩
  · have hix' : Lib.indexByte S.data.toList (Int.toNat 47).toUInt8 = (m : Nat) := hix
    have Hq := Lib.hid hq
    have Hm47 := Lib.hid hm47
    clear hix hq hm47
    by_cases hv : 1 ≤ m ∧ m ≤ 7
    · have hok : Pt.okS (m : Nat) = true := (Pt.okS_iff _).2 (by omega)
      obtain ⟨L, hkL⟩ : ∃ L : Nat, ((m : Nat) : Int) * (((m : Nat) : Int) + 1) = (L : Nat) := ⟨m * (m + 1), by simp⟩
      have hLk : L = m * (m + 1) := by have : ((L : Nat) : Int) = ((m * (m + 1) : Nat) : Int) := by rw [← hkL]; simp
                                       omega
      have hL72 : L ≤ 72 := by rw [hLk]; exact Nat.le_trans (Nat.mul_le_mul hv.2 (show m + 1 ≤ 8 by omega)) (by decide)
      have HLk := Lib.hid hLk
      clear hLk
      by_cases hSL : S.size = L
      · have hd : decide ((S.size : Int) = (L : Int)) = true := by rw [hSL]; simp
        have hSn : ((S.size : Int) != (L : Int)) = false := by rw [hSL]; simp
        have HSL : Hid (S.size = m * (m + 1)) := Lib.hid (by rw [hSL, HLk.out])
        have hSL1 : S.size ≤ L ∧ L ≤ S.size := by omega
        clear hSL
        go_wp2_with fail
        refine (i_indexByte _ _ _).mono ?_
        rintro e w' ⟨rfl, rfl⟩
        rw [hix']
        clear hix'
        go_wp2_with fail
        refine (i_size _ _).mono ?_
        rintro e w' ⟨rfl, rfl⟩
        rw [hok]
        go_wp2_with fail
        refine (i_new _ _).mono ?_
        rintro e y1 ⟨A1, n1, c1, rfl, ho, hb⟩
        have hs0 : newS (m : Nat) = (m : Nat) := by rw [newS, if_pos hok]
        have hc0 : newCs (m : Nat) = List.replicate (m * m) 0 := by
          rw [newCs, if_pos hok]
          congr 1
        rw [hs0]
        rw [hc0] at ho
        have hn1 : n1 = m * m := by have := ho.1; rw [List.length_replicate] at this; omega
        have Hn1 := Lib.hid hn1
        have hn49 : n1 ≤ 49 := by rw [hn1]; exact Nat.le_trans (Nat.mul_le_mul hv.2 hv.2) (by decide)
        have hn0 : 0 < n1 := by rw [hn1]; exact Nat.mul_pos (by omega) (by omega)
        have hcap := own_capP ho
        obtain ⟨g, hA1⟩ : ∃ g, A1 = some ⟨g, 0, none⟩ := by
          obtain ⟨g, cap, hv, _⟩ := World.ownsRow.form ho.2 (by omega)
          exact ⟨g, by injection hv⟩
        have hg1 := (ho.ge hA1).1
        have hg2 := (ho.ge hA1).2
        have zy1 := hb.size
        have X0 := Lib.hid (X0.out.below hb X0.out.lt)
        have Hb := Lib.hid (Hb.out.trans (hb.mono (by rw [Hyz.out]; omega)))
        have Ho := Lib.hid (ho.weaken (B' := w.heap.size + 1) (by rw [Hyz.out]; exact Nat.le_refl _))
        rw [hA1] at Ho ⊢
        have hyw := Hyz.out
        clear ho hA1 hb hn1 hs0 hc0 hok hSn hd t0 t1 t2 t3 t4 K0 K1 Hb3
        go_upto_region 5 with (fail)
        obtain ⟨y4, hy4, hb4, z4, z4'⟩ := new_box y1 (.cells #[.int .i64 (m : Nat), .slice (some ⟨g, 0, none⟩) n1 c1] 29)
        have X5 : Hid (Bx 29 y4 y1.heap.size (m : Nat) (.slice (some ⟨g, 0, none⟩) n1 c1)) := Lib.hid (by rw [hy4]; exact Bx.new _ _ _ _)
        rw [← hy4]
        clear hy4
        have X0 := Lib.hid (X0.out.below hb4 X0.out.lt)
        have Hb := Lib.hid (Hb.out.trans (hb4.mono (by omega)))
        have Ho := Lib.hid (Ho.out.below hb4)
        have Hz : Hid (∀ c ∈ List.replicate (m * m) (0 : Int), 0 ≤ c ∧ c ≤ 2) := Lib.hid (fun c hc => by rw [List.eq_of_mem_replicate hc]; omega)
        have Hr0 : Hid (Fm.Rows S m 0 (List.replicate (m * m) 0)) := Lib.hid (fun l hl => absurd hl (Nat.not_lt_zero l))
        clear hb4
        go_wp2_with fail
        go_loopw [27] (fun v wr => ∃ (line : Nat) (cs : List Int), line ≤ m ∧ v = .int .i64 (line : Nat) ∧ Own wr (w.heap.size + 1) (some ⟨g, 0, none⟩) n1 c1 cs ∧ (∀ c ∈ cs, 0 ≤ c ∧ c ≤ 2) ∧ Fm.Rows S m line cs ∧ Bx 29 wr y1.heap.size (m : Nat) (.slice (some ⟨g, 0, none⟩) n1 c1) ∧ Bx 29 wr w.heap.size 0 (.slice none 0 0) ∧ Below w.heap.size w wr) (fun v _ => m - (intOf v).toNat)
        case atStart => exact ⟨0, _, by omega, rfl, Ho.out, Hz.out, Hr0.out, X5.out, X0.out, Hb.out⟩
        case round =>
          clear Ho Hz Hr0 X5 X0 Hb
          obtain ⟨line, cs, hl, rfl, ho, hz, hrw, hx5, hx0, hbr⟩ := hrel
          have X0 := Lib.hid hx0
          have X5 := Lib.hid hx5
          have Ho := Lib.hid ho
          have Hz := Lib.hid hz
          have Hrw := Lib.hid hrw
          have Hb := Lib.hid hbr
          have zr := hbr.size
          clear hx0 hx5 ho hz hrw hbr
          have t0 := X0.out.cell0
          have t1 := X0.out.cell1
          have t2 := X0.out.frozen 0
          have t3 := X0.out.frozen 1
          have t4 := X0.out.lt
          have u0 := X5.out.cell0
          have u1 := X5.out.cell1
          have u2 := X5.out.lt
          by_cases hlm : line < m
          · obtain ⟨r, hr⟩ : ∃ r, m - 1 - line = r := ⟨_, rfl⟩
            obtain ⟨Q, hQ⟩ : ∃ Q, line * (m + 1) = Q := ⟨_, rfl⟩
            obtain ⟨R, hR⟩ : ∃ R, r * m = R := ⟨_, rfl⟩
            obtain ⟨E, hE⟩ : ∃ E, Q + m = E := ⟨_, rfl⟩
            have hQL : Q + (m + 1) ≤ L := by
              have h3 := Nat.mul_le_mul_right (m + 1) (show line + 1 ≤ m by omega)
              rw [Nat.add_mul, Nat.one_mul, hQ] at h3
              rw [HLk.out]
              exact h3
            have hRn : R + m ≤ n1 := by
              have h3 := Nat.mul_le_mul_right m (show r + 1 ≤ m by omega)
              rw [Nat.add_mul, Nat.one_mul, hR] at h3
              rw [Hn1.out]
              exact h3
            have hES : E < S.size := by omega
            have w1 : IntKind.i64.wrap (((m : Nat) : Int) + 1) = (m : Nat) + 1 := IntWalk.i64_in _ (by omega)
            have w2 : IntKind.i64.wrap (((line : Nat) : Int) * (((m : Nat) : Int) + 1)) = (Q : Nat) := by
              rw [show ((line : Nat) : Int) * (((m : Nat) : Int) + 1) = (Q : Nat) by rw [← hQ]; simp]
              exact IntWalk.i64_in _ (by omega)
            have w3 : IntKind.i64.wrap ((m : Nat) - 1 : Int) = (m : Nat) - 1 := IntWalk.i64_in _ (by omega)
            have w4 : IntKind.i64.wrap ((m : Nat) - 1 - (line : Nat) : Int) = (r : Nat) := by
              rw [show ((m : Nat) - 1 - (line : Nat) : Int) = (r : Nat) by omega]
              exact IntWalk.i64_in _ (by omega)
            have w5 : IntKind.i64.wrap (((Q : Nat) : Int) + (m : Nat)) = (E : Nat) := by
              rw [show ((Q : Nat) : Int) + (m : Nat) = (E : Nat) by omega]
              exact IntWalk.i64_in _ (by omega)
            have w6 : IntKind.i64.wrap (((r : Nat) : Int) * (m : Nat)) = (R : Nat) := by
              rw [show ((r : Nat) : Int) * (m : Nat) = (R : Nat) by rw [← hR]; simp]
              exact IntWalk.i64_in _ (by omega)
            have w7 : IntKind.i64.wrap (((r : Nat) : Int) + 1) = (r : Nat) + 1 := IntWalk.i64_in _ (by omega)
            obtain ⟨R2, hR2⟩ : ∃ R2, R + m = R2 := ⟨_, rfl⟩
            have w8 : IntKind.i64.wrap ((((r : Nat) : Int) + 1) * (m : Nat)) = (R2 : Nat) := by
              rw [show (((r : Nat) : Int) + 1) * (m : Nat) = (R2 : Nat) by rw [Int.add_mul, Int.one_mul, ← hR2, ← hR]; simp]
              exact IntWalk.i64_in _ (by omega)
            have hcR : ¬ c1 = R := by omega
            have e3 : R2 - R = m := by omega
            have hlo : ((R : Nat) : Int) ≤ (R2 : Nat) := by omega
            have hhi : ((R2 : Nat) : Int) ≤ (c1 : Nat) := by omega
            have hlo2 : ((Q : Nat) : Int) ≤ (E : Nat) := by omega
            have hhi2 : ((E : Nat) : Int) ≤ (S.size : Nat) := by omega
            have hE0 : ((E : Nat) : Int) < (S.size : Nat) := by omega
            have HT := Lib.hid (ext_size (S := S) hE (by omega))
            have HTb := Lib.hid (fun c hc => ext_byt (S := S) hE c hc)
            have HEi : Hid (line * (m + 1) + m = E) := Lib.hid (by rw [hQ, hE])
            have HQi := Lib.hid hQ
            have HRi : Hid ((m - 1 - line) * m = R) := Lib.hid (by rw [hr, hR])
            clear hr hQ hR hE hR2
            have K0 := Lib.hid ((X0.out.set0 0).cell0)
            have K1 := Lib.hid (((X0.out.set0 0).set1 (.slice none 0 0)).cell1)
            by_cases h47 : Fm.byt S E = 47
            · have hb47 : ((S[E].toNat : Int) != 47) = false := by rw [← Fm.byt_eq hES, h47]; rfl
              have H47 : Hid (Fm.byt S (line * (m + 1) + m) = 47) := Lib.hid (by rw [HEi.out]; exact h47)
              clear h47
              by_cases hall : ∀ i, i < m → 0 ≤ Fm.lx (Fm.byt (S.extract Q E) i)
              · have Hall := Lib.hid hall
                clear hall
                go_upto_region 10 with (fail)
                go_region_held3 (fun w' => w'.cell? ⟨y1.heap.size, 1, none⟩ = some (.slice (some ⟨g, 0, none⟩) n1 c1)) (first | exact u1 | go_keep) ((go_at_call 64; refine (i_readRowT _ m HT.out _ (w.heap.size + 1) g n1 c1 R _ cs Ho.out.drew (by omega) (by omega) (by omega) Hall.out).mono ?_; rintro e wq ⟨rfl, cs', hr, ho, hg⟩; have Hr := Lib.hid hr; have Ho9 := Lib.hid ho; have Hg := Lib.hid hg; have X5n := Lib.hid (Bx.grown (w := wr.drew) X5.out hg (by simp; omega)); have u1 := X5n.out.cell1; clear hr ho hg))
                have X0n := Lib.hid (Bx.grown (w := wr.drew) X0.out Hg.out (by simp; omega))
                have Hbn := Lib.hid (Below.grown (w := wr.drew) (drew_below Hb.out 1) Hg.out (by simpa using zr) (fun k e => by injection e; omega))
                have Hrn := Lib.hid (Hrw.out.step hlm (fun c hc => by rw [HTb.out c hc, HQi.out]) H47.out (by rw [HRi.out]; exact Hr.out))
                have Hzn := Lib.hid (Hr.out.okL Hz.out)
                clear t0 t1 t2 t3 t4 u0 u1 u2 w1 w2 w3 w4 w5 w6 w7 w8
                go_wp2_with fail
                go_roundw
                case rel => exact ⟨line + 1, _, by omega, by go_num, Ho9.out, Hzn.out, Hrn.out, X5n.out, X0n.out, Hbn.out⟩
                case measure => simp [intOf]; omega
              · have hno : ∃ i, i < m ∧ Fm.lx (Fm.byt (S.extract Q E) i) < 0 := by
                  refine Classical.byContradiction fun hn => hall fun i hi => ?_
                  refine Classical.byContradiction fun h9 => hn ⟨i, hi, by omega⟩
                have Hno := Lib.hid hno
                have HN : Hid (Fm.NoB S) := Lib.hid (by
                  obtain ⟨i, hi, hx⟩ := hno
                  rw [HTb.out i hi, ← HQi.out] at hx
                  exact Fm.no_letter HSL.out hlm hi hx)
                clear hall hno
                go_upto_region 10 with (fail)
                go_region_held3 (fun w' => w'.cell? ⟨y1.heap.size, 1, none⟩ = some (.slice (some ⟨g, 0, none⟩) n1 c1)) (first | exact u1 | go_keep) ((go_at_call 64; refine (i_readRowF _ m HT.out _ (w.heap.size + 1) g n1 c1 R _ cs Ho.out.drew (by omega) (by omega) (by omega) Hno.out).mono ?_; rintro e wq ⟨rfl, hg⟩; have Hg := Lib.hid hg; have X5n := Lib.hid (Bx.grown (w := wr.drew) X5.out hg (by simp; omega)); have u1 := X5n.out.cell1; clear hg))
                have X0n := Lib.hid (Bx.grown (w := wr.drew) X0.out Hg.out (by simp; omega))
                have Hbn := Lib.hid (Below.grown (w := wr.drew) (drew_below Hb.out 1) Hg.out (by simpa using zr) (fun k e => by injection e; omega))
                clear t0 t1 t2 t3 t4 u0 u1 u2 K0 K1
                have t0 := X0n.out.cell0
                have t1 := X0n.out.cell1
                have t2 := X0n.out.frozen 0
                have t3 := X0n.out.frozen 1
                have t4 := X0n.out.lt
                have K0 := Lib.hid ((X0n.out.set0 0).cell0)
                have K1 := Lib.hid (((X0n.out.set0 0).set1 (.slice none 0 0)).cell1)
                have Hb3 := Lib.hid ((Hbn.out.setCell (p := ⟨w.heap.size, 0, none⟩) (Nat.le_refl _) (.int .i64 0)).setCell (p := ⟨w.heap.size, 1, none⟩) (Nat.le_refl _) (.slice none 0 0))
                go_wp2_with fail
                have k0 := K0.out
                have k1 := K1.out
                refine bodyPost_ret (v := .tuple #[.agg #[.int .i64 0, .slice none 0 0], .bool false]) (by simp [results, Try.results31, go_sem, k0, k1]) rfl ?_
                exact ⟨false, 0, [], _, _, _, .inr ⟨rfl, rfl, rfl, HN.out⟩, rfl, Own.nil _ _, Hb3.out⟩
            · have HN : Hid (Fm.NoB S) := Lib.hid (Fm.no_end HSL.out hlm (by rw [HEi.out]; exact h47))
              have hb47 : ((S[E].toNat : Int) != 47) = true := by rw [← Fm.byt_eq hES]; simpa using h47
              clear h47
              go_upto_region 10 with (fail)
              go_quiet (fail)
              have K0 := Lib.hid (((X0.out.drewN nq).set0 0).cell0)
              have K1 := Lib.hid ((((X0.out.drewN nq).set0 0).set1 (.slice none 0 0)).cell1)
              have Hb3 := Lib.hid (((drew_below Hb.out nq).setCell (p := ⟨w.heap.size, 0, none⟩) (Nat.le_refl _) (.int .i64 0)).setCell (p := ⟨w.heap.size, 1, none⟩) (Nat.le_refl _) (.slice none 0 0))
              go_wp2_with fail
              have k0 := K0.out
              have k1 := K1.out
              refine bodyPost_ret (v := .tuple #[.agg #[.int .i64 0, .slice none 0 0], .bool false]) (by simp [results, Try.results31, go_sem, k0, k1]) rfl ?_
              exact ⟨false, 0, [], _, _, _, .inr ⟨rfl, rfl, rfl, HN.out⟩, rfl, Own.nil _ _, Hb3.out⟩
          · obtain rfl : m = line := by omega
            have K0 := Lib.hid ((X0.out.set0 (m : Nat)).cell0)
            have K1 := Lib.hid (((X0.out.set0 (m : Nat)).set1 (.slice (some ⟨g, 0, none⟩) n1 c1)).cell1)
            have Hb3 := Lib.hid ((Hb.out.setCell (p := ⟨w.heap.size, 0, none⟩) (Nat.le_refl _) (.int .i64 (m : Nat))).setCell (p := ⟨w.heap.size, 1, none⟩) (Nat.le_refl _) (.slice (some ⟨g, 0, none⟩) n1 c1))
            have Ho3 := Lib.hid ((Ho.out.far ⟨w.heap.size, 0, none⟩ (fun g hA => by have := (Ho.out.ge hA).1; show g ≠ w.heap.size; omega) (.int .i64 (m : Nat))).far ⟨w.heap.size, 1, none⟩ (fun g hA => by have := (Ho.out.ge hA).1; show g ≠ w.heap.size; omega) (.slice (some ⟨g, 0, none⟩) n1 c1))
            have Hv := Lib.hid ((Bd.okB_iff (m : Nat) cs).2 ⟨by omega, by omega, by rw [Ho.out.1, Hn1.out]; simp, Hz.out⟩)
            have Hy := Lib.hid (Fm.yes_text HSL.out Hrw.out)
            go_wp2_with fail
            have k0 := K0.out
            have k1 := K1.out
            refine bodyPost_ret (v := .tuple #[.agg #[.int .i64 (m : Nat), .slice (some ⟨g, 0, none⟩) n1 c1], .bool true]) (by simp [results, Try.results31, go_sem, k0, k1]) rfl ?_
            exact ⟨true, _, cs, _, _, _, .inl ⟨rfl, Hv.out, Hy.out⟩, rfl, Ho3.out.weaken (by omega), Hb3.out⟩
      · have hSn : ((S.size : Int) != (L : Int)) = true := by simp; omega
        have HN : Hid (Fm.NoB S) := Lib.hid (Fm.no_text m Hq.out (.inr (.inr Hm47.out)) (fun h => hSL (by rw [HLk.out]; exact h.2.2)))
        go_wp2_with fail
        refine (i_indexByte _ _ _).mono ?_
        rintro e w' ⟨rfl, rfl⟩
        rw [hix']
        clear hix'
        go_wp2_with fail
        refine (i_size _ _).mono ?_
        rintro e w' ⟨rfl, rfl⟩
        rw [hok]
        clear hok
        go_wp2_with fail
        have k0 := K0.out
        have k1 := K1.out
        refine bodyPost_ret (v := .tuple #[.agg #[.int .i64 0, .slice none 0 0], .bool false]) (by simp [results, Try.results31, go_sem, k0, k1]) rfl ?_
        exact ⟨false, 0, [], _, _, _, .inr ⟨rfl, rfl, rfl, HN.out⟩, rfl, Own.nil _ _, Hb3.out⟩
    · have HN : Hid (Fm.NoB S) := Lib.hid (Fm.no_text m Hq.out (.inr (.inr Hm47.out)) (fun h => hv ⟨h.1, h.2.1⟩))
      have hok : Pt.okS (m : Nat) = false := by
        rcases Bool.eq_false_or_eq_true (Pt.okS (m : Nat)) with h | h
        · have := (Pt.okS_iff _).1 h; omega
        · exact h
      go_wp2_with fail
      refine (i_indexByte _ _ _).mono ?_
      rintro e w' ⟨rfl, rfl⟩
      rw [hix']
      clear hix'
      go_wp2_with fail
      refine (i_size _ _).mono ?_
      rintro e w' ⟨rfl, rfl⟩
      rw [hok]
      clear hok
      go_wp2_with fail
      have k0 := K0.out
      have k1 := K1.out
      refine bodyPost_ret (v := .tuple #[.agg #[.int .i64 0, .slice none 0 0], .bool false]) (by simp [results, Try.results31, go_sem, k0, k1]) rfl ?_
      exact ⟨false, 0, [], _, _, _, .inr ⟨rfl, rfl, rfl, HN.out⟩, rfl, Own.nil _ _, Hb3.out⟩
end Go.Proofs.Ytmokpaofljdehaa

namespace Go.Proofs.Ytmokpaofljdehaa
set_option maxRecDepth 100000
open Go.RowKit
section
variable (S : ByteArray) (ok : Bool) (s : Int) (cs : List Int) (w : World) (hP : Fm.Prs S ok s cs) (hS : S.size ≤ 1048576)
include hP hS
theorem s_ParseX : Calls Try.prog 30 #[.string S] w fun e w' => ∃ A n c, e = .returned (.tuple #[.agg #[.int .i64 s, .slice A n c], .bool ok]) ∧ Own w' w.heap.size A n c cs ∧ Below w.heap.size w w' :=
  (s_ParseE S w hS).mono fun _ _ h => h.at hP
theorem i_ParseX : Calls Try.prog 31 #[.string S] w fun e w' => ∃ A n c, e = .returned (.tuple #[.agg #[.int .i64 s, .slice A n c], .bool ok]) ∧ Own w' w.heap.size A n c cs ∧ Below w.heap.size w w' :=
  (i_ParseE S w hS).mono fun _ _ h => h.at hP
end
end Go.Proofs.Ytmokpaofljdehaa

namespace Go.Proofs.Ytmokpaofljdehaa
set_option maxRecDepth 100000
open Go.RowKit

theorem ext_le (S : ByteArray) (a b : Nat) : (S.extract a b).size ≤ S.size := by
  rw [Fm.size_data, Lib.extract_data, List.length_take, List.length_drop, ← Fm.size_data]; omega
theorem app_size (a b : ByteArray) : (a ++ b).size = a.size + b.size := by simp

def GotT (N : Nat) (w : World) (B g q : Nat) (e : Ending) (w' : World) : Prop :=
  ∃ t : ByteArray, e = .returned (.string t) ∧ t.size ≤ N ∧ Rdr w' B g q ∧ w.grownBy w' (some g)

theorem r_ofT (B g q b n c : Nat) (w : World) (h : Rdr w B g q) (hq : q ≤ 1000000000000) (hn0 : 0 < n) (hn : n ≤ 1000) (hb : b < w.heap.size) (hbg : b ≠ g)
    (hc : ∀ j, j < n → ∃ t : ByteArray, t.size ≤ 100 ∧ w.cell? ⟨b, j, none⟩ = some (.string t)) :
    Calls Try.prog 87 #[.pointer (some ⟨g, 0, none⟩), .slice (some ⟨b, 0, none⟩) n c] w fun e w' => GotT 100 w B g (q + 1) e w' := by
  have Hc := Lib.hid hc
  clear hc
  go_enter Try.func87, Try.ntmps87
  go_wp2_with fail
  refine (r_pick B g q _ _ h hq).mono ?_
  rintro e w1 ⟨x, rfl, x1, x2, hr, hw⟩
  obtain ⟨k, rfl⟩ := Int.eq_ofNat_of_zero_le x1
  have hk : k < n := by omega
  obtain ⟨t, ht, hct⟩ := Hc.out k hk
  have hcell := (World.cell?_of_block (w' := w1) (w := w) (a := ⟨b, k, none⟩) (hw.block b (by omega) (by simpa using hbg))).trans hct
  have hlt : (k : Int) < n := by omega
  have Hr := Lib.hid hr
  have Hw := Lib.hid hw
  have Ht := Lib.hid ht
  clear hr hw hct ht
  go_wp2_with fail
  go_ret
  exact ⟨_, rfl, Ht.out, Hr.out, Hw.out⟩

def eight : Obj := .cells #[.string ⟨#[88]⟩, .string ⟨#[79]⟩, .string ⟨#[46]⟩, .string ⟨#[47]⟩, .string ⟨#[65]⟩, .string ⟨#[49]⟩, .string ⟨#[59]⟩, .string ⟨#[91]⟩] 9
theorem r_of8 (B g q : Nat) (w w9 : World) (h : Rdr w B g q) (hq : q ≤ 1000000000000) (h9 : Below w.heap.size w w9) (hc : w9.heap[w.heap.size]? = some eight) :
    Calls Try.prog 87 #[.pointer (some ⟨g, 0, none⟩), .slice (some ⟨w.heap.size, 0, none⟩) 8 8] w9 fun e w' => GotT 100 w9 B g (q + 1) e w' := by
  have hlt := h.lt
  have hz : w.heap.size < w9.heap.size := by
    rcases Nat.lt_or_ge w.heap.size w9.heap.size with h1 | h1
    · exact h1
    · rw [Array.getElem?_eq_none h1] at hc; cases hc
  refine r_ofT B g q w.heap.size 8 _ w9 (h.below h9 hlt) hq (by omega) (by omega) hz (by omega) fun j hj => ?_
  have : j = 0 ∨ j = 1 ∨ j = 2 ∨ j = 3 ∨ j = 4 ∨ j = 5 ∨ j = 6 ∨ j = 7 := by omega
  have hcell : ∀ i v, (#[Value.string ⟨#[88]⟩, .string ⟨#[79]⟩, .string ⟨#[46]⟩, .string ⟨#[47]⟩, .string ⟨#[65]⟩, .string ⟨#[49]⟩, .string ⟨#[59]⟩, .string ⟨#[91]⟩] : Array Value)[i]? = some v → w9.cell? ⟨w.heap.size, i, none⟩ = some v := fun i v hv => by
    simp only [World.cell?, hc, eight]
    exact hv
  rcases this with rfl | rfl | rfl | rfl | rfl | rfl | rfl | rfl
  · exact ⟨⟨#[88]⟩, by decide, hcell 0 _ rfl⟩
  · exact ⟨⟨#[79]⟩, by decide, hcell 1 _ rfl⟩
  · exact ⟨⟨#[46]⟩, by decide, hcell 2 _ rfl⟩
  · exact ⟨⟨#[47]⟩, by decide, hcell 3 _ rfl⟩
  · exact ⟨⟨#[65]⟩, by decide, hcell 4 _ rfl⟩
  · exact ⟨⟨#[49]⟩, by decide, hcell 5 _ rfl⟩
  · exact ⟨⟨#[59]⟩, by decide, hcell 6 _ rfl⟩
  · exact ⟨⟨#[91]⟩, by decide, hcell 7 _ rfl⟩
theorem at_alloc (w : World) (o : Obj) : (w.alloc o).heap[w.heap.size]? = some o := Array.getElem?_push_size
theorem at_allocD (w : World) (o : Obj) : (w.alloc o).drew.heap[w.heap.size]? = some o := at_alloc w o

set_option maxHeartbeats 4000000 in
theorem r_mutate (B g q : Nat) (S : ByteArray) (hS : S.size ≤ 1000) (w : World) (h : Rdr w B g q) (hq : q ≤ 1000000000) :
    Calls Try.prog 68 #[.pointer (some ⟨g, 0, none⟩), .string S] w fun e w' => ∃ q', GotT 2200 w B g q' e w' := by
  go_enter Try.func68, Try.ntmps68
  go_wp2_with fail
  refine (r_pick B g q _ _ h (by omega)).mono ?_
  rintro e w1 ⟨k0, rfl, k1, k2, hr, hg⟩
  obtain ⟨k, rfl⟩ := Int.eq_ofNat_of_zero_le k1
  have hk : k ≤ S.size := by omega
  have Hr := Lib.hid hr
  have Hg := Lib.hid hg
  clear hr hg h k1 k2
  go_wp2_with fail
  refine (r_pick B g (q + 1) _ _ Hr.out (by omega)).mono ?_
  rintro e w2 ⟨x, rfl, x1, x2, hr, hg⟩
  have Hg := Lib.hid (gtrans Hg.out hg)
  have Hr := Lib.hid hr
  have hlt := hr.lt
  have hg1 := hr.1
  clear hr hg
  have hkI : (k : Int) ≤ S.size := by omega
  by_cases h0 : x = 0
  · subst h0
    by_cases hkS : k < S.size
    · have hkc : (k : Int) < S.size := by omega
      have hkc1 : (k : Int) + 1 ≤ S.size := by omega
      have w1k : IntKind.i64.wrap ((k : Int) + 1) = ((k + 1 : Nat) : Int) := by simp [IntKind.wrap, IntKind.bits, IntKind.signed]; omega
      have hkc2 : ((k + 1 : Nat) : Int) ≤ S.size := by omega
      obtain ⟨P, hP⟩ : ∃ P, S.extract 0 k = P := ⟨_, rfl⟩
      obtain ⟨R, hR⟩ : ∃ R, S.extract (k + 1) S.size = R := ⟨_, rfl⟩
      have hPs : P.size ≤ 1000 := by rw [← hP]; have := ext_le S 0 k; omega
      have hRs : R.size ≤ 1000 := by rw [← hR]; have := ext_le S (k + 1) S.size; omega
      go_upto_region 5 with (fail)
      go_region_with (go_at_call 87; refine (r_of8 B g (q + 2) w2 _ Hr.out (by omega) (by first | exact (Below.refl _ _).alloc (Nat.le_refl _) _ | exact drew_below ((Below.refl _ _).alloc (Nat.le_refl _) _) 1) (by first | exact at_allocD w2 eight | exact at_alloc w2 eight)).mono ?_; rintro e w3 ⟨t, rfl, ht, hr3, hg3⟩; have Ht := Lib.hid ht; have HS := Lib.hid hS; have hs1 : ¬ 9223372036854775807 < P.size + t.size := (by omega); have hs3 : ¬ 9223372036854775807 < (P ++ t).size + R.size := (by rw [app_size]; omega); have hs2 : ¬ 9223372036854775807 < P.size + t.size + R.size := (by omega); have Hr3 := Lib.hid hr3; have Hg3 := Lib.hid hg3; clear ht hr3 hg3)
      all_goals
        have Hgf : Hid (w.grownBy w3 (some g)) := Lib.hid (by first | exact gtrans (gtrans (gtrans Hg.out (World.grownBy_alloc w2 eight _)) (gdrewN _ 1 _)) Hg3.out | exact gtrans (gtrans Hg.out (World.grownBy_alloc w2 eight _)) Hg3.out)
        clear hs1 hs2 hs3
        go_wp2_with fail
        go_ret
        exact ⟨_, _, rfl, by (try rw [app_size, app_size]); have := Ht.out; omega, Hr3.out, Hgf.out⟩
    · have hkc : ¬ (k : Int) < S.size := by omega
      go_wp2_with fail
      go_ret
      exact ⟨_, _, rfl, by omega, Hr.out, Hg.out⟩
  · by_cases h1 : x = 1
    · subst h1
      have Hz := Lib.hid (ext_le S 0 k)
      go_wp2_with fail
      go_ret
      exact ⟨_, _, rfl, by have := Hz.out; omega, Hr.out, Hg.out⟩
    · by_cases h2 : x = 2
      · subst h2
        go_wp2_with fail
        refine (r_ofT B g (q + 2) w2.heap.size 6 _ _ (Hr.out.below ((Below.refl _ _).alloc (Nat.le_refl _) _) hlt) (by omega) (by omega) (by omega) (by simp) (by omega) (fun j hj => ?_)).mono ?_
        · rw [World.cell?_alloc_at _ _ _ _ rfl]
          have : j = 0 ∨ j = 1 ∨ j = 2 ∨ j = 3 ∨ j = 4 ∨ j = 5 := by omega
          rcases this with rfl | rfl | rfl | rfl | rfl | rfl <;> exact ⟨_, by decide, rfl⟩
        · rintro e w3 ⟨t, rfl, ht, hr, hg⟩
          have Hg := Lib.hid (gtrans (gtrans Hg.out (World.grownBy_alloc _ _ _)) hg)
          have Hr := Lib.hid hr
          have Ht := Lib.hid ht
          have hsum : ¬ 9223372036854775807 < S.size + t.size := by omega
          clear hr hg ht
          go_wp2_with fail
          go_ret
          exact ⟨_, _, rfl, by rw [app_size]; have := Ht.out; omega, Hr.out, Hg.out⟩
      · have b0 : (x == 0) = false := by simpa using h0
        have b1 : (x == 1) = false := by simpa using h1
        have b2 : (x == 2) = false := by simpa using h2
        clear h0 h1 h2
        go_wp2_with fail
        go_ret
        exact ⟨_, _, rfl, by omega, Hr.out, Hg.out⟩
end Go.Proofs.Ytmokpaofljdehaa

namespace Go.Proofs.Ytmokpaofljdehaa
set_option maxRecDepth 100000
open Go.RowKit

theorem fmtB_size (s : Int) (cs : List Int) : (fmtB s cs).size ≤ 1000 := by
  rcases Bool.eq_false_or_eq_true (Bd.okB s cs) with h | h
  · obtain ⟨q1, q2, _, _⟩ := (Bd.okB_iff s cs).1 h
    obtain ⟨k, rfl⟩ := Int.eq_ofNat_of_zero_le (show 0 ≤ s by omega)
    rw [fmtB, if_pos h, strOfNums_size, Fm.fmt_len, Int.toNat_natCast]
    exact Nat.le_trans (Nat.mul_le_mul (show k ≤ 7 by omega) (show k + 1 ≤ 8 by omega)) (by decide)
  · rw [fmtB, h]
    exact Nat.zero_le _

def DrawnT (w : World) (e : Ending) (w' : World) : Prop := ∃ S : ByteArray, e = .returned (.string S) ∧ S.size ≤ 1048576 ∧ Below w.heap.size w w'

set_option maxHeartbeats 2000000 in
theorem d_pb (w : World) (a : Option Addr) (len cap : Nat) (zs : List Int) (h : IsRow .u8 w a len cap zs) :
    Calls Try.prog 35 #[.slice a len cap] w fun e w' => DrawnT w e w' := by
  have H := Lib.hid h
  clear h
  go_enter Try.func35, Try.ntmps35
  go_wp2_with fail
  refine (r_new _ _ _ _ zs H.out).mono ?_
  rintro e y ⟨g, rfl, hr, hb⟩
  have hg1 := hr.1
  have Hr := Lib.hid hr
  have Hb := Lib.hid hb
  clear hr hb
  go_wp2_with fail
  refine (r_anyC _ g 0 _ Hr.out (by omega)).mono ?_
  rintro e y2 ⟨s, A, n, c, cs, q', rfl, hi, hn, s0, s8, hc1, hc2, hr, hq, hg⟩
  have Hb := Lib.hid (Hb.out.grown hg Hb.out.size (fun k hk => by have := Option.some.inj hk; omega))
  have Hi := Lib.hid hi.ints
  have Hr := Lib.hid hr
  have hlt := hr.lt
  have Hs := Lib.hid (fmtB_size s cs)
  obtain ⟨T, hT⟩ : ∃ T, fmtB s cs = T := ⟨_, rfl⟩
  rw [hT] at Hs
  have HT := Lib.hid hT
  clear hi hr hg hT
  go_wp2_with fail
  refine (s_FormatB s _ _ A n c cs Hi.out (Nat.le_refl _) (by omega)).mono ?_
  rintro e y3 ⟨rfl, hb⟩
  rw [HT.out]
  have Hb := Lib.hid (Hb.out.trans (hb.mono Hb.out.size))
  have Hr := Lib.hid (Hr.out.below hb hlt)
  clear hb
  go_wp2_with fail
  refine (r_pick _ g q' _ _ Hr.out (by omega)).mono ?_
  rintro e y4 ⟨x, rfl, x1, x2, hr, hg⟩
  have Hb := Lib.hid (Hb.out.grown hg Hb.out.size (fun k hk => by have := Option.some.inj hk; omega))
  have Hr := Lib.hid hr
  clear hr hg
  by_cases h0 : x = 0
  · subst h0
    go_wp2_with fail
    refine (r_mutate _ g (q' + 1) T Hs.out _ Hr.out (by omega)).mono ?_
    rintro e y5 ⟨q2, t, rfl, ht, hr, hg⟩
    have Hb := Lib.hid (Hb.out.grown hg Hb.out.size (fun k hk => by have := Option.some.inj hk; omega))
    have Ht := Lib.hid ht
    clear hr hg ht
    go_wp2_with fail
    go_ret
    exact ⟨_, rfl, by have := Ht.out; omega, Hb.out⟩
  · have b0 : (x == 0) = false := by simpa using h0
    clear h0
    go_wp2_with fail
    go_ret
    exact ⟨_, rfl, by have := Hs.out; omega, Hb.out⟩

theorem own_capB {w : World} {B n c : Nat} {A : Option Addr} {xs : List Int} (h : Own w B A n c xs) : n ≤ c ∧ c ≤ 9223372036854775807 := own_capP h
theorem prs_fmt {S : ByteArray} {s : Int} {cs : List Int} (h : Fm.Prs S true s cs) : ∃ T, fmtB s cs = T ∧ (T.toList == S.toList) = true := by
  rcases h with ⟨_, h1, h2⟩ | ⟨h, _⟩
  · refine ⟨_, rfl, ?_⟩
    rw [fmtB, if_pos h1, h2]
    exact beq_self_eq_true _
  · cases h
section
variable (S : ByteArray) (ok : Bool) (s : Int) (cs : List Int) (w : World) (hP : Hid (Fm.Prs S ok s cs)) (hS : S.size ≤ 1048576)
include hP hS
theorem s_ParseC : Calls Try.prog 30 #[.string S] w fun e w' => ∃ A n c, n ≤ c ∧ c ≤ 9223372036854775807 ∧ e = .returned (.tuple #[.agg #[.int .i64 s, .slice A n c], .bool ok]) ∧ Own w' w.heap.size A n c cs ∧ Below w.heap.size w w' :=
  (s_ParseX S ok s cs w hP.out hS).mono fun _ _ ⟨A, n, c, h1, h2, h3⟩ => ⟨A, n, c, (own_capP h2).1, (own_capP h2).2, h1, h2, h3⟩
theorem i_ParseC : Calls Try.prog 31 #[.string S] w fun e w' => ∃ A n c, n ≤ c ∧ c ≤ 9223372036854775807 ∧ e = .returned (.tuple #[.agg #[.int .i64 s, .slice A n c], .bool ok]) ∧ Own w' w.heap.size A n c cs ∧ Below w.heap.size w w' :=
  (i_ParseX S ok s cs w hP.out hS).mono fun _ _ ⟨A, n, c, h1, h2, h3⟩ => ⟨A, n, c, (own_capP h2).1, (own_capP h2).2, h1, h2, h3⟩
end
section
variable (s : Int) (w : World) (A : Option Addr) (n c : Nat) (cs : List Int) (h : Ints w w.heap.size A n cs) (hn : n ≤ 49) (T : ByteArray) (hT : Hid (fmtB s cs = T)) (hc : n ≤ c) (hc2 : c ≤ 9223372036854775807)
include h hn hT hc hc2
theorem i_fmtC : Calls Try.prog 33 #[.agg #[.int .i64 s, .slice A n c]] w fun e w' => e = .returned (.string T) ∧ Below w.heap.size w w' := by
  rw [← hT.out]
  exact i_FormatB s w _ A n c cs h (Nat.le_refl _) (by omega) hc hc2
end
end Go.Proofs.Ytmokpaofljdehaa

