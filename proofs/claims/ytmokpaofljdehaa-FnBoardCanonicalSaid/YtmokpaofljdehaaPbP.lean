/-
  Texts of boards read back: which board a text asks for. No program is imported.
-/
import Derived.Test.YtmokpaofljdehaaFmtP
import Derived.Lib.Bytes
import Derived.Lib.Bytealg
namespace Go.Proofs.Ytmokpaofljdehaa.Fm
set_option maxRecDepth 100000

/-- The byte at a place of a text, 0 behind its end. -/
def byt (S : ByteArray) (j : Nat) : Int := if h : j < S.size then (S[j].toNat : Int) else 0
/-- The place of a point's letter in the text of a board. -/
def jof (s p : Nat) : Nat := (s - 1 - p / s) * (s + 1) + p % s
/-- No valid board has this text. -/
def NoB (S : ByteArray) : Prop := ∀ (k : Nat) (ds : List Int), Bd.okB (k : Nat) ds = true → (strOfNums (fmt k ds)).toList ≠ S.toList

theorem byt_eq {S : ByteArray} {j : Nat} (h : j < S.size) : byt S j = (S[j].toNat : Int) := dif_pos h
theorem size_data (S : ByteArray) : S.size = S.data.toList.length := Array.length_toList.symm
theorem byt_data (S : ByteArray) (j : Nat) : byt S j = ((S.data.toList.getD j 0).toNat : Int) := by
  unfold byt
  by_cases h : j < S.size
  · rw [dif_pos h, List.getD_eq_getElem?_getD, List.getElem?_eq_getElem (by rw [← size_data]; exact h)]; rfl
  · rw [dif_neg h, List.getD_eq_getElem?_getD, List.getElem?_eq_none (by rw [← size_data]; omega)]; rfl
theorem byt_bd (S : ByteArray) (j : Nat) : 0 ≤ byt S j ∧ byt S j ≤ 255 := by
  rw [byt_data]
  have := (S.data.toList.getD j 0).toNat_lt
  omega

theorem byt_of {S : ByteArray} {xs : List Int} (h : (strOfNums xs).toList = S.toList) (hb : ∀ x ∈ xs, 0 ≤ x ∧ x < 256) : S.size = xs.length ∧ ∀ j, byt S j = xs.getD j 0 := by
  have e : S.data.toList = xs.map fun n => UInt8.ofNat n.toNat := by
    rw [Lib.toList_data, Lib.toList_data] at h; exact h.symm
  refine ⟨by rw [size_data, e, List.length_map], fun j => ?_⟩
  rw [byt_data, e]
  by_cases hj : j < xs.length
  · have hm : xs[j] ∈ xs := List.getElem_mem hj
    have := hb _ hm
    rw [List.getD_eq_getElem?_getD, List.getD_eq_getElem?_getD, List.getElem?_eq_getElem (by rw [List.length_map]; exact hj), List.getElem?_eq_getElem hj]
    simp only [List.getElem_map, Option.getD_some, UInt8.toNat_ofNat']
    omega
  · rw [List.getD_eq_getElem?_getD, List.getD_eq_getElem?_getD, List.getElem?_eq_none (by rw [List.length_map]; omega), List.getElem?_eq_none (by omega)]; rfl

theorem of_byt {S : ByteArray} {xs : List Int} (hl : S.size = xs.length) (h : ∀ j, j < xs.length → byt S j = xs.getD j 0) : (strOfNums xs).toList = S.toList := by
  rw [Lib.toList_data, Lib.toList_data]
  refine List.ext_getElem (by rw [strOfNums_data, List.length_map, ← size_data]; exact hl.symm) fun j h1 h2 => ?_
  have hj : j < xs.length := by rw [strOfNums_data, List.length_map] at h1; exact h1
  have e := h j hj
  rw [byt_data, List.getD_eq_getElem?_getD, List.getElem?_eq_getElem h2, List.getD_eq_getElem?_getD, List.getElem?_eq_getElem hj] at e
  simp only [Option.getD_some] at e
  simp only [strOfNums_data, List.getElem_map]
  rw [← e]
  simp

theorem fmt_bd {k : Nat} {ds : List Int} : ∀ x ∈ fmt k ds, 0 ≤ x ∧ x < 256 := by
  intro x hx
  unfold fmt at hx
  obtain ⟨i, _, rfl⟩ := List.mem_map.1 hx
  have := at_bd k ds i
  omega
theorem fmt_getD {k j : Nat} {ds : List Int} (h : j < k * (k + 1)) : (fmt k ds).getD j 0 = at_ k ds j := by
  simp [fmt, List.getD_eq_getElem?_getD, h]
/-- The text of a board: its length, and its bytes. -/
theorem text_of {S : ByteArray} {k : Nat} {ds : List Int} (h : (strOfNums (fmt k ds)).toList = S.toList) : S.size = k * (k + 1) ∧ ∀ j, j < k * (k + 1) → byt S j = at_ k ds j := by
  obtain ⟨h1, h2⟩ := byt_of h fmt_bd
  rw [fmt_len] at h1
  exact ⟨h1, fun j hj => by rw [h2, fmt_getD hj]⟩
theorem lt_mul {k line c : Nat} (hl : line < k) (hc : c ≤ k) : line * (k + 1) + c < k * (k + 1) := by
  have h := Nat.mul_le_mul_right (k + 1) (show line + 1 ≤ k by omega)
  rw [Nat.add_mul, Nat.one_mul] at h
  omega
theorem text_first {S : ByteArray} {k : Nat} {ds : List Int} (hk : 1 ≤ k) (h : (strOfNums (fmt k ds)).toList = S.toList) : (∀ j, j < k → byt S j ≠ 47) ∧ byt S k = 47 := by
  obtain ⟨_, h2⟩ := text_of h
  constructor
  · intro j hj
    have h3 := at_rc (s := k) (k := 0) (c := j) ds hj
    rw [Nat.zero_mul, Nat.zero_add] at h3
    have h4 := lt_mul (k := k) (line := 0) (c := j) (by omega) (by omega)
    rw [Nat.zero_mul, Nat.zero_add] at h4
    rw [h2 j h4, h3]
    exact (let_bd _).2.2
  · have h3 := at_end (s := k) (k := 0) ds
    rw [Nat.zero_mul, Nat.zero_add] at h3
    have h4 := lt_mul (k := k) (line := 0) (c := k) (by omega) (by omega)
    rw [Nat.zero_mul, Nat.zero_add] at h4
    rw [h2 k h4, h3]

theorem okB_nat {k : Nat} {ds : List Int} (h : Bd.okB (k : Nat) ds = true) : 1 ≤ k ∧ k ≤ 7 ∧ ds.length = k * k ∧ ∀ c ∈ ds, 0 ≤ c ∧ c ≤ 2 := by
  obtain ⟨h1, h2, h3, h4⟩ := (Bd.okB_iff _ _).1 h
  refine ⟨by omega, by omega, ?_, h4⟩
  have : ((ds.length : Nat) : Int) = ((k * k : Nat) : Int) := by rw [h3]; simp
  omega

/-- Where the first slash is not where a board of a size has it, no board has the text. -/
theorem no_text {S : ByteArray} (q : Nat) (hq : ∀ j, j < q → byt S j ≠ 47) (hend : S.size ≤ q ∨ 8 ≤ q ∨ byt S q = 47) (hbad : ¬ (1 ≤ q ∧ q ≤ 7 ∧ S.size = q * (q + 1))) : NoB S := by
  intro k ds hok h
  obtain ⟨k1, k7, _, _⟩ := okB_nat hok
  obtain ⟨t1, _⟩ := text_of h
  obtain ⟨f1, f2⟩ := text_first k1 h
  have hle : q ≤ k := Nat.le_of_not_lt fun hlt => hq k hlt f2
  have hkk := lt_mul (k := k) (line := 0) (c := k) (by omega) (by omega)
  rw [Nat.zero_mul, Nat.zero_add] at hkk
  by_cases e : q = k
  · subst e; exact hbad ⟨k1, k7, t1⟩
  · rcases hend with h1 | h1 | h1
    · omega
    · omega
    · exact f1 q (by omega) h1

theorem at_jof {k p : Nat} (ds : List Int) (hp : p < k * k) : at_ k ds (jof k p) = let_ (ds.getD p 0) ∧ jof k p < k * (k + 1) := by
  have hk : 0 < k := by rcases Nat.eq_zero_or_pos k with rfl | h; · simp at hp
                        · exact h
  have q1 : p / k < k := Nat.div_lt_of_lt_mul hp
  have q2 : p % k < k := Nat.mod_lt _ hk
  have e := Nat.div_add_mod' p k
  unfold jof
  generalize p / k = q at q1 e ⊢
  generalize p % k = r at q2 e ⊢
  refine ⟨?_, lt_mul (by omega) (by omega)⟩
  rw [at_rc _ q2, show k - 1 - (k - 1 - q) = q by omega, e]

theorem size_one {k q : Nat} (h : k * (k + 1) = q * (q + 1)) : k = q := by
  rcases Nat.lt_trichotomy k q with h1 | h1 | h1
  · have := Nat.mul_lt_mul_of_lt_of_le h1 (show k + 1 ≤ q + 1 by omega) (by omega); omega
  · exact h1
  · have := Nat.mul_lt_mul_of_lt_of_le h1 (show q + 1 ≤ k + 1 by omega) (by omega); omega

theorem list_eq {xs ys : List Int} (hl : xs.length = ys.length) (h : ∀ i, i < xs.length → xs.getD i 0 = ys.getD i 0) : xs = ys := by
  refine List.ext_getElem hl fun i h1 h2 => ?_
  have := h i h1
  rw [List.getD_eq_getElem?_getD, List.getD_eq_getElem?_getD, List.getElem?_eq_getElem h1, List.getElem?_eq_getElem h2] at this
  simpa using this
theorem getD_mem {xs : List Int} {i : Nat} (h : i < xs.length) : xs.getD i 0 ∈ xs := by
  rw [List.getD_eq_getElem?_getD, List.getElem?_eq_getElem h]; exact List.getElem_mem _

/-- The first p cells of a list are those that the text asks for, the others are 0. -/
def Rd (S : ByteArray) (k p : Nat) (cs : List Int) : Prop := ∀ i, i < cs.length → cs.getD i 0 = if i < p then col (byt S (jof k i)) else 0
theorem Rd.zero (S : ByteArray) (k n : Nat) : Rd S k 0 (List.replicate n 0) := by
  intro i hi
  rw [if_neg (Nat.not_lt_zero i), List.getD_eq_getElem?_getD, List.getElem?_eq_getElem hi, List.getElem_replicate]; rfl
theorem Rd.put {S : ByteArray} {k p : Nat} {cs : List Int} {v : Int} (h : Rd S k p cs) (hv : col (byt S (jof k p)) = v) : Rd S k (p + 1) (cs.set p v) := by
  intro i hi
  rw [List.length_set] at hi
  rw [List.getD_eq_getElem?_getD, List.getElem?_set]
  by_cases e : p = i
  · subst e; rw [if_pos rfl, if_pos hi, if_pos (by omega)]; exact hv.symm
  · rw [if_neg e, ← List.getD_eq_getElem?_getD, h i hi]
    by_cases e2 : i < p
    · rw [if_pos e2, if_pos (by omega)]
    · rw [if_neg e2, if_neg (by omega)]
theorem Rd.skip {S : ByteArray} {k p : Nat} {cs : List Int} (h : Rd S k p cs) (hv : col (byt S (jof k p)) = 0) : Rd S k (p + 1) cs := by
  intro i hi
  rw [h i hi]
  by_cases e : i = p
  · subst e; rw [if_neg (by omega), if_pos (by omega)]; exact hv.symm
  · by_cases e2 : i < p
    · rw [if_pos e2, if_pos (by omega)]
    · rw [if_neg e2, if_neg (by omega)]
/-- A text is of this size, and the board that it asks for has another text: no board has it. -/
theorem no_cells {S : ByteArray} {k : Nat} {cs : List Int} (hS : S.size = k * (k + 1)) (hl : cs.length = k * k) (hc : Rd S k (k * k) cs) (hne : (strOfNums (fmt k cs)).toList ≠ S.toList) : NoB S := by
  intro q ds hok h
  obtain ⟨_, _, d1, d2⟩ := okB_nat hok
  obtain ⟨t1, t2⟩ := text_of h
  obtain rfl : k = q := size_one (by omega)
  have : cs = ds := list_eq (by omega) fun i hi => by
    have hi' : i < k * k := by omega
    obtain ⟨a1, a2⟩ := at_jof ds hi'
    rw [hc i hi, if_pos hi', t2 _ a2, a1]
    have := d2 _ (getD_mem (xs := ds) (i := i) (by omega))
    exact col_let this.1 this.2
  rw [← this] at h
  exact hne h

/-- What a text asks for: a board, or nothing. -/
def Prs (S : ByteArray) (ok : Bool) (s : Int) (cs : List Int) : Prop :=
  (ok = true ∧ Bd.okB s cs = true ∧ (strOfNums (fmt s.toNat cs)).toList = S.toList) ∨ (ok = false ∧ s = 0 ∧ cs = [] ∧ NoB S)

theorem fmt_inj {S : ByteArray} {k q : Nat} {cs ds : List Int} (hk : Bd.okB (k : Nat) cs = true) (hq : Bd.okB (q : Nat) ds = true) (h1 : (strOfNums (fmt k cs)).toList = S.toList) (h2 : (strOfNums (fmt q ds)).toList = S.toList) : k = q ∧ cs = ds := by
  obtain ⟨_, _, c1, c2⟩ := okB_nat hk
  obtain ⟨_, _, d1, d2⟩ := okB_nat hq
  obtain ⟨t1, t2⟩ := text_of h1
  obtain ⟨u1, u2⟩ := text_of h2
  obtain rfl : k = q := size_one (by omega)
  refine ⟨rfl, list_eq (by omega) fun i hi => ?_⟩
  have hi' : i < k * k := by omega
  obtain ⟨a1, a2⟩ := at_jof cs hi'
  obtain ⟨b1, _⟩ := at_jof ds hi'
  have e : let_ (cs.getD i 0) = let_ (ds.getD i 0) := by rw [← a1, ← b1, ← t2 _ a2, ← u2 _ a2]
  have m1 := c2 _ (getD_mem hi)
  have m2 := d2 _ (getD_mem (xs := ds) (i := i) (by omega))
  rw [← col_let m1.1 m1.2, ← col_let m2.1 m2.2, e]
theorem Prs.nat {s : Int} {cs : List Int} (h : Bd.okB s cs = true) : ∃ k : Nat, s = (k : Nat) := by
  obtain ⟨h1, _⟩ := (Bd.okB_iff s cs).1 h
  exact ⟨s.toNat, by omega⟩
theorem Prs.one {S : ByteArray} {ok ok' : Bool} {s s' : Int} {cs cs' : List Int} (h : Prs S ok s cs) (h' : Prs S ok' s' cs') : ok' = ok ∧ s' = s ∧ cs' = cs := by
  rcases h with ⟨rfl, h1, h2⟩ | ⟨rfl, rfl, rfl, h1⟩
  · obtain ⟨k, rfl⟩ := Prs.nat h1
    rcases h' with ⟨rfl, h3, h4⟩ | ⟨rfl, rfl, rfl, h3⟩
    · obtain ⟨q, rfl⟩ := Prs.nat h3
      obtain ⟨rfl, rfl⟩ := fmt_inj h3 h1 h4 h2
      exact ⟨rfl, rfl, rfl⟩
    · exact absurd h2 (h3 k cs h1)
  · rcases h' with ⟨rfl, h3, h4⟩ | ⟨rfl, rfl, rfl, h3⟩
    · obtain ⟨q, rfl⟩ := Prs.nat h3
      exact absurd h4 (h1 q cs' h3)
    · exact ⟨rfl, rfl, rfl⟩
theorem Prs.ex (S : ByteArray) : ∃ ok s cs, Prs S ok s cs := by
  by_cases h : NoB S
  · exact ⟨false, 0, [], .inr ⟨rfl, rfl, rfl, h⟩⟩
  · have : ∃ (k : Nat) (ds : List Int), Bd.okB (k : Nat) ds = true ∧ (strOfNums (fmt k ds)).toList = S.toList := by
      refine Classical.byContradiction fun hn => h fun k ds hok he => hn ⟨k, ds, hok, he⟩
    obtain ⟨k, ds, h1, h2⟩ := this
    exact ⟨true, (k : Nat), ds, .inl ⟨rfl, h1, h2⟩⟩
theorem Prs.len {S : ByteArray} {ok : Bool} {s : Int} {cs : List Int} (h : Prs S ok s cs) : cs.length ≤ 49 := by
  rcases h with ⟨_, h1, _⟩ | ⟨_, _, rfl, _⟩
  · obtain ⟨k, rfl⟩ := Prs.nat h1
    obtain ⟨_, k7, e, _⟩ := okB_nat h1
    have := Nat.mul_le_mul k7 k7
    omega
  · simp

/-- The number of a letter, -1 for other bytes. -/
def lx (b : Int) : Int := if b = 46 then 0 else if b = 88 then 1 else if b = 79 then 2 else -1
theorem lx_bd (b : Int) : -1 ≤ lx b ∧ lx b ≤ 2 := by
  unfold lx
  split
  · decide
  · split
    · decide
    · split <;> decide
theorem lx_let {b : Int} (h : 0 ≤ lx b) : let_ (lx b) = b := by
  unfold lx at h ⊢
  split at h
  · subst_vars; decide
  · split at h
    · subst_vars; decide
    · split at h
      · subst_vars; decide
      · omega
theorem lx_of_let {c : Int} (h : 0 ≤ c) (h2 : c ≤ 2) : lx (let_ c) = c := by
  have : c = 0 ∨ c = 1 ∨ c = 2 := by omega
  rcases this with rfl | rfl | rfl <;> decide
theorem lx_index (b : UInt8) : Lib.indexByte [46, 88, 79] b = lx (b.toNat : Int) := by
  by_cases h1 : b = 46
  · subst h1; decide
  · by_cases h2 : b = 88
    · subst h2; decide
    · by_cases h3 : b = 79
      · subst h3; decide
      · have n1 : b.toNat ≠ 46 := fun e => h1 (UInt8.toNat_inj.1 e)
        have n2 : b.toNat ≠ 88 := fun e => h2 (UInt8.toNat_inj.1 e)
        have n3 : b.toNat ≠ 79 := fun e => h3 (UInt8.toNat_inj.1 e)
        have e : lx (b.toNat : Int) = -1 := by
          unfold lx
          rw [if_neg (by omega), if_neg (by omega), if_neg (by omega)]
        rw [e]
        have b1 : ((46 : UInt8) == b) = false := beq_eq_false_iff_ne.2 (Ne.symm h1)
        have b2 : ((88 : UInt8) == b) = false := beq_eq_false_iff_ne.2 (Ne.symm h2)
        have b3 : ((79 : UInt8) == b) = false := beq_eq_false_iff_ne.2 (Ne.symm h3)
        simp [Lib.indexByte, b1, b2, b3]

/-- The first slash of a text. -/
theorem slash_list (l : List UInt8) : (Lib.indexByte l 47 = -1 ∧ ∀ j, j < l.length → ((l.getD j 0).toNat : Int) ≠ 47) ∨
    ∃ m : Nat, Lib.indexByte l 47 = (m : Nat) ∧ m < l.length ∧ ((l.getD m 0).toNat : Int) = 47 ∧ ∀ j, j < m → ((l.getD j 0).toNat : Int) ≠ 47 := by
  induction l with
  | nil => exact .inl ⟨rfl, fun j hj => absurd hj (Nat.not_lt_zero j)⟩
  | cons b l ih =>
    by_cases hb : b = 47
    · subst hb
      exact .inr ⟨0, rfl, Nat.succ_pos _, rfl, fun j hj => absurd hj (Nat.not_lt_zero j)⟩
    · have hb1 : (b == (47 : UInt8)) = false := beq_eq_false_iff_ne.2 hb
      have hb2 : (b.toNat : Int) ≠ 47 := fun e => hb (UInt8.toNat_inj.1 (show b.toNat = (47 : UInt8).toNat from by simpa using (by omega : b.toNat = 47)))
      rcases ih with ⟨h1, h2⟩ | ⟨m, h1, h2, h3, h4⟩
      · refine .inl ⟨by simp [Lib.indexByte, hb1, h1], fun j hj => ?_⟩
        match j with
        | 0 => exact hb2
        | j + 1 => exact h2 j (by simpa using hj)
      · refine .inr ⟨m + 1, ?_, by simpa using h2, h3, fun j hj => ?_⟩
        · have : ((m : Int) == -1) = false := beq_eq_false_iff_ne.2 (by omega)
          simp [Lib.indexByte, hb1, h1, this]
        · match j with
          | 0 => exact hb2
          | j + 1 => exact h4 j (by omega)
theorem slash (S : ByteArray) : (Lib.indexByte S.data.toList 47 = -1 ∧ ∀ j, j < S.size → byt S j ≠ 47) ∨
    ∃ m : Nat, Lib.indexByte S.data.toList 47 = (m : Nat) ∧ m < S.size ∧ byt S m = 47 ∧ ∀ j, j < m → byt S j ≠ 47 := by
  rcases slash_list S.data.toList with ⟨h1, h2⟩ | ⟨m, h1, h2, h3, h4⟩
  · exact .inl ⟨h1, fun j hj => by rw [byt_data]; exact h2 j (by rw [← size_data]; exact hj)⟩
  · exact .inr ⟨m, h1, by rw [size_data]; exact h2, by rw [byt_data]; exact h3, fun j hj => by rw [byt_data]; exact h4 j hj⟩

/-- A text whose size is that of a board's, with a wrong end of a row. -/
theorem no_end {S : ByteArray} {k line : Nat} (hS : S.size = k * (k + 1)) (hl : line < k) (h : byt S (line * (k + 1) + k) ≠ 47) : NoB S := by
  intro q ds hok he
  obtain ⟨t1, t2⟩ := text_of he
  obtain rfl : k = q := size_one (by omega)
  exact h (by rw [t2 _ (lt_mul hl (Nat.le_refl k)), at_end])
theorem no_letter {S : ByteArray} {k line c : Nat} (hS : S.size = k * (k + 1)) (hl : line < k) (hc : c < k) (h : lx (byt S (line * (k + 1) + c)) < 0) : NoB S := by
  intro q ds hok he
  obtain ⟨_, _, d1, d2⟩ := okB_nat hok
  obtain ⟨t1, t2⟩ := text_of he
  obtain rfl : k = q := size_one (by omega)
  rw [t2 _ (lt_mul hl (by omega)), at_rc _ hc] at h
  have hb : (k - 1 - line) * k + c < k * k := by
    have h3 := Nat.mul_le_mul_right k (show k - 1 - line + 1 ≤ k by omega)
    rw [Nat.add_mul, Nat.one_mul] at h3
    omega
  have := d2 _ (getD_mem (xs := ds) (i := (k - 1 - line) * k + c) (by omega))
  rw [lx_of_let this.1 this.2] at h
  omega
/-- The rows of a text that have been read. -/
def Rows (S : ByteArray) (k m : Nat) (cs : List Int) : Prop := ∀ line, line < m → byt S (line * (k + 1) + k) = 47 ∧ ∀ c, c < k → byt S (line * (k + 1) + c) = let_ (cs.getD ((k - 1 - line) * k + c) 0)
theorem yes_text {S : ByteArray} {k : Nat} {cs : List Int} (hS : S.size = k * (k + 1)) (h : Rows S k k cs) : (strOfNums (fmt k cs)).toList = S.toList := by
  refine of_byt (by rw [fmt_len]; exact hS) fun j hj => ?_
  rw [fmt_len] at hj
  rw [fmt_getD hj]
  have q1 : j / (k + 1) < k := Nat.div_lt_of_lt_mul (by rw [Nat.mul_comm]; exact hj)
  have q2 : j % (k + 1) < k + 1 := Nat.mod_lt _ (by omega)
  have e : j / (k + 1) * (k + 1) + j % (k + 1) = j := Nat.div_add_mod' j (k + 1)
  obtain ⟨h1, h2⟩ := h _ q1
  by_cases hc : j % (k + 1) = k
  · rw [hc] at e
    rw [e] at h1
    rw [h1, ← e, at_end]
  · have := h2 _ (show j % (k + 1) < k by omega)
    rw [e] at this
    rw [this, ← at_rc cs (show j % (k + 1) < k by omega), e]

/-- A row of a text is read into a list from a place on: j letters of it so far. -/
def Rr (T : ByteArray) (off j : Nat) (cs cs' : List Int) : Prop :=
  cs'.length = cs.length ∧ (∀ i, i < j → 0 ≤ lx (byt T i)) ∧ ∀ i, cs'.getD i 0 = if off ≤ i ∧ i < off + j then lx (byt T (i - off)) else cs.getD i 0
theorem Rr.start (T : ByteArray) (off : Nat) (cs : List Int) : Rr T off 0 cs cs :=
  ⟨rfl, fun i hi => absurd hi (Nat.not_lt_zero i), fun i => by rw [if_neg (by omega)]⟩
theorem Rr.step {T : ByteArray} {off j : Nat} {cs cs' : List Int} (h : Rr T off j cs cs') (hl : off + j < cs.length) (hx : 0 ≤ lx (byt T j)) : Rr T off (j + 1) cs (cs'.set (off + j) (lx (byt T j))) := by
  refine ⟨by rw [List.length_set]; exact h.1, fun i hi => ?_, fun i => ?_⟩
  · by_cases e : i = j
    · subst e; exact hx
    · exact h.2.1 i (by omega)
  · rw [List.getD_eq_getElem?_getD, List.getElem?_set]
    by_cases e : off + j = i
    · subst e
      rw [if_pos rfl, if_pos (by rw [h.1]; exact hl), if_pos (by omega), show off + j - off = j by omega]; rfl
    · rw [if_neg e, ← List.getD_eq_getElem?_getD, h.2.2 i]
      by_cases e2 : off ≤ i ∧ i < off + j
      · rw [if_pos e2, if_pos (by omega)]
      · rw [if_neg e2, if_neg (by omega)]
theorem Rr.okL {T : ByteArray} {off j : Nat} {cs cs' : List Int} (h : Rr T off j cs cs') (hc : ∀ c ∈ cs, 0 ≤ c ∧ c ≤ 2) : ∀ c ∈ cs', 0 ≤ c ∧ c ≤ 2 := by
  intro c hm
  obtain ⟨i, hi, rfl⟩ := List.getElem_of_mem hm
  have e : cs'[i] = cs'.getD i 0 := by rw [List.getD_eq_getElem?_getD, List.getElem?_eq_getElem hi]; rfl
  rw [e, h.2.2 i]
  by_cases e2 : off ≤ i ∧ i < off + j
  · rw [if_pos e2]
    exact ⟨h.2.1 _ (by omega), (lx_bd _).2⟩
  · rw [if_neg e2]
    exact hc _ (getD_mem (by have := h.1; omega))
/-- One row more has been read. -/
theorem Rows.step {S T : ByteArray} {k m : Nat} {cs cs' : List Int} (h : Rows S k m cs) (hm : m < k) (hT : ∀ c, c < k → byt T c = byt S (m * (k + 1) + c)) (he : byt S (m * (k + 1) + k) = 47) (hr : Rr T ((k - 1 - m) * k) k cs cs') : Rows S k (m + 1) cs' := by
  intro line hl
  by_cases e : line = m
  · subst e
    refine ⟨he, fun c hc => ?_⟩
    rw [hr.2.2, if_pos (by omega), show (k - 1 - line) * k + c - (k - 1 - line) * k = c by omega, lx_let (hr.2.1 c hc)]
    exact (hT c hc).symm
  · obtain ⟨h1, h2⟩ := h line (by omega)
    refine ⟨h1, fun c hc => ?_⟩
    have h3 := Nat.mul_le_mul_right k (show k - 1 - m + 1 ≤ k - 1 - line by omega)
    rw [Nat.add_mul, Nat.one_mul] at h3
    rw [hr.2.2, if_neg (by omega)]
    exact h2 c hc
end Go.Proofs.Ytmokpaofljdehaa.Fm
