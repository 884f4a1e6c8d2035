/-
  How many bits a number of 64 bits has: the sums by pairs, by fours and by bytes of math/bits.OnesCount64. No program is imported.
-/
import Derived.Test.YteldfjibmaigiaaDoorPureBt
namespace Go.Proofs.YteldfjibmaigiaaDoor.Oc
set_option maxRecDepth 100000

def cnt (x m : Nat) : Nat := ((List.range m).filter fun q => x.testBit q).length
theorem pts_cnt (x m : Nat) : (Bt.pts x m).length = cnt x m := by simp [Bt.pts, cnt]

def M (c : Nat) : Nat → Nat
  | 0 => 0
  | n + 1 => c + 256 * M c n
theorem M_succ (c n : Nat) : M c (n + 1) = c + 256 * M c n := rfl
theorem and_cons (a b c d : Nat) (ha : a < 256) (hc : c < 256) : (a + 256 * b) &&& (c + 256 * d) = (a &&& c) + 256 * (b &&& d) := by
  have h1 : ((a + 256 * b) &&& (c + 256 * d)) % 256 = a &&& c := by
    have := Nat.and_mod_two_pow (a := a + 256 * b) (b := c + 256 * d) (n := 8)
    rw [show (2 : Nat) ^ 8 = 256 by decide] at this
    rw [this]
    congr 1 <;> omega
  have h2 : ((a + 256 * b) &&& (c + 256 * d)) / 256 = b &&& d := by
    have := Nat.and_div_two_pow (a := a + 256 * b) (b := c + 256 * d) (n := 8)
    rw [show (2 : Nat) ^ 8 = 256 by decide] at this
    rw [this]
    congr 1 <;> omega
  have := Nat.mod_add_div ((a + 256 * b) &&& (c + 256 * d)) 256
  rw [h1, h2] at this
  exact this.symm

def t1 (a : Nat) : Nat := (a / 2 &&& 85) + (a &&& 85)
def t2 (a : Nat) : Nat := (a / 4 &&& 51) + (a &&& 51)
def t3 (a : Nat) : Nat := (a / 16 + a) &&& 15
def s1 (n x : Nat) : Nat := (x / 2 &&& M 85 n) + (x &&& M 85 n)
def s2 (n x : Nat) : Nat := (x / 4 &&& M 51 n) + (x &&& M 51 n)
def s3 (n x : Nat) : Nat := (x / 16 + x) &&& M 15 n
def pc (a : Nat) : Nat := t3 (t2 (t1 a))

theorem d1 : ∀ a : Fin 256, ∀ j : Fin 2, ((a : Nat) / 2 + 128 * (j : Nat)) &&& 85 = (a : Nat) / 2 &&& 85 := by decide +kernel
theorem d2 : ∀ a : Fin 256, ∀ j : Fin 4, ((a : Nat) / 4 + 64 * (j : Nat)) &&& 51 = (a : Nat) / 4 &&& 51 := by decide +kernel
theorem d3 : ∀ a : Fin 69, ∀ j : Fin 5, ((a : Nat) / 16 + 16 * (j : Nat) + (a : Nat)) &&& 15 = t3 (a : Nat) := by decide +kernel
theorem d4 : ∀ a : Fin 256, t1 (a : Nat) < 256 ∧ t2 (t1 (a : Nat)) ≤ 68 ∧ t2 (t1 (a : Nat)) % 16 ≤ 4 ∧ pc (a : Nat) ≤ 8 ∧ pc (a : Nat) = cnt (a : Nat) 8 := by decide +kernel

theorem s1_cons (n a b : Nat) (ha : a < 256) : s1 (n + 1) (a + 256 * b) = t1 a + 256 * s1 n b := by
  have e : (a + 256 * b) / 2 = (a / 2 + 128 * (b % 2)) + 256 * (b / 2) := by omega
  have := d1 ⟨a, ha⟩ ⟨b % 2, by omega⟩
  simp only at this
  unfold s1 t1
  rw [M_succ, e, and_cons _ _ _ _ (by omega) (by decide), and_cons _ _ _ _ ha (by decide), this]
  omega
theorem s2_cons (n a b : Nat) (ha : a < 256) : s2 (n + 1) (a + 256 * b) = t2 a + 256 * s2 n b := by
  have e : (a + 256 * b) / 4 = (a / 4 + 64 * (b % 4)) + 256 * (b / 4) := by omega
  have := d2 ⟨a, ha⟩ ⟨b % 4, by omega⟩
  simp only at this
  unfold s2 t2
  rw [M_succ, e, and_cons _ _ _ _ (by omega) (by decide), and_cons _ _ _ _ ha (by decide), this]
  omega
theorem s3_cons (n a b : Nat) (ha : a ≤ 68) (hb : b % 16 ≤ 4) : s3 (n + 1) (a + 256 * b) = t3 a + 256 * s3 n b := by
  have e : (a + 256 * b) / 16 + (a + 256 * b) = (a / 16 + 16 * (b % 16) + a) + 256 * (b / 16 + b) := by omega
  have := d3 ⟨a, by omega⟩ ⟨b % 16, by omega⟩
  simp only at this
  unfold s3
  rw [M_succ, e, and_cons _ _ _ _ (by omega) (by decide), this]

def W : Nat → Nat → Nat
  | 0, _ => 0
  | n + 1, x => pc (x % 256) + 256 * W n (x / 256)
theorem bytes : ∀ (n x : Nat), s3 n (s2 n (s1 n x)) = W n x ∧ s2 n (s1 n x) % 16 ≤ 4
  | 0, x => by simp [s3, s2, M, W]
  | n + 1, x => by
    obtain ⟨i1, i2⟩ := bytes n (x / 256)
    have e : x = x % 256 + 256 * (x / 256) := by omega
    have h := d4 ⟨x % 256, by omega⟩
    simp only at h
    obtain ⟨h1, h2, h3, _, _⟩ := h
    have k1 : s1 (n + 1) x = t1 (x % 256) + 256 * s1 n (x / 256) := by
      conv => lhs; rw [e]
      exact s1_cons n _ _ (by omega)
    have k2 : s2 (n + 1) (s1 (n + 1) x) = t2 (t1 (x % 256)) + 256 * s2 n (s1 n (x / 256)) := by rw [k1]; exact s2_cons n _ _ h1
    refine ⟨?_, ?_⟩
    · rw [k2, s3_cons n _ _ h2 i2, i1]
      rfl
    · rw [k2]; omega

theorem cnt_cons (x m : Nat) : cnt x (8 + m) = cnt x 8 + cnt (x / 256) m := by
  unfold cnt
  rw [List.range_add, List.filter_append, List.length_append, List.filter_map, List.length_map]
  congr 2
  refine List.filter_congr fun q _ => ?_
  show x.testBit (8 + q) = (x / 256).testBit q
  have : (x / 2 ^ 8).testBit q = x.testBit (q + 8) := Nat.testBit_div_two_pow x q
  rw [show (2 : Nat) ^ 8 = 256 by decide] at this
  rw [this, Nat.add_comm]
theorem cnt_low (x : Nat) : cnt x 8 = pc (x % 256) := by
  have h := (d4 ⟨x % 256, by omega⟩).2.2.2.2
  simp only at h
  rw [h]
  unfold cnt
  congr 1
  refine List.filter_congr fun q hq => ?_
  have hq8 := List.mem_range.1 hq
  have := Nat.testBit_mod_two_pow x 8 q
  rw [show (2 : Nat) ^ 8 = 256 by decide] at this
  rw [this]
  simp [hq8]
theorem cnt_bytes (x : Nat) : ∀ n, cnt x (8 * (n + 1)) = pc (x % 256) + cnt (x / 256) (8 * n) := fun n => by
  rw [show 8 * (n + 1) = 8 + 8 * n by omega, cnt_cons, cnt_low]

def fin (x3 : Nat) : Nat :=
  let x4 := x3 + x3 / 256
  let x5 := x4 + x4 / 65536
  let x6 := x5 + x5 / 4294967296
  x6 &&& 127
theorem pc_le (a : Nat) : pc (a % 256) ≤ 8 := (d4 ⟨a % 256, by omega⟩).2.2.2.1
theorem fin_sum (c0 c1 c2 c3 c4 c5 c6 c7 : Nat) (h0 : c0 ≤ 8) (h1 : c1 ≤ 8) (h2 : c2 ≤ 8) (k3 : c3 ≤ 8) (k4 : c4 ≤ 8) (k5 : c5 ≤ 8) (h6 : c6 ≤ 8) (h7 : c7 ≤ 8) :
    fin (c0 + 256 * (c1 + 256 * (c2 + 256 * (c3 + 256 * (c4 + 256 * (c5 + 256 * (c6 + 256 * (c7 + 256 * 0)))))))) = c0 + (c1 + (c2 + (c3 + (c4 + (c5 + (c6 + (c7 + 0))))))) := by
  obtain ⟨x3, h3⟩ : ∃ x3, x3 = c0 + 256 * (c1 + 256 * (c2 + 256 * (c3 + 256 * (c4 + 256 * (c5 + 256 * (c6 + 256 * (c7 + 256 * 0))))))) := ⟨_, rfl⟩
  rw [← h3]
  obtain ⟨x4, h4⟩ : ∃ x4, x4 = x3 + x3 / 256 := ⟨_, rfl⟩
  obtain ⟨x5, h5⟩ : ∃ x5, x5 = x4 + x4 / 65536 := ⟨_, rfl⟩
  have hf : fin x3 = (x5 + x5 / 4294967296) &&& 127 := by rw [h5, h4]; rfl
  have hm := Nat.and_two_pow_sub_one_eq_mod (x5 + x5 / 4294967296) 7
  rw [show (2 : Nat) ^ 7 - 1 = 127 by decide, show (2 : Nat) ^ 7 = 128 by decide] at hm
  rw [hf, hm]
  clear hf hm
  have e4 : x4 = (c0 + c1) + 256 * (c1 + c2) + 65536 * ((c2 + c3) + 256 * (c3 + c4) + 65536 * ((c4 + c5) + 256 * (c5 + c6) + 65536 * ((c6 + c7) + 256 * c7))) := by omega
  clear h4 h3
  have e5 : x5 = (c0 + c1 + c2 + c3) + 256 * (c1 + c2 + c3 + c4) + 65536 * (c2 + c3 + c4 + c5 + 256 * (c3 + c4 + c5 + c6)) + 4294967296 * ((c4 + c5 + c6 + c7) + 256 * (c5 + c6 + c7) + 65536 * ((c6 + c7) + 256 * c7)) := by omega
  clear h5 e4
  have q5 : x5 / 4294967296 = (c4 + c5 + c6 + c7) + 256 * (c5 + c6 + c7) + 65536 * ((c6 + c7) + 256 * c7) := by omega
  obtain ⟨T, hT⟩ : ∃ T, T = 2 * (c1 + c2 + c3 + c4 + c5 + c6 + c7) + 512 * (c2 + c3 + c4 + c5 + c6 + c7) + 131072 * (c3 + c4 + c5 + c6 + c7) + 33554432 * ((c4 + c5 + c6 + c7) + 256 * (c5 + c6 + c7) + 65536 * ((c6 + c7) + 256 * c7)) := ⟨_, rfl⟩
  have e6 : x5 + x5 / 4294967296 = (c0 + (c1 + (c2 + (c3 + (c4 + (c5 + (c6 + (c7 + 0)))))))) + 128 * T := by rw [q5, e5, hT]; omega
  rw [e6]
  clear e5 q5 hT e6
  omega
/-- math/bits.OnesCount64, as its text sums. -/
def oc (x : Nat) : Nat := fin (s3 8 (s2 8 (s1 8 x)))
def S : Nat → Nat → Nat
  | 0, _ => 0
  | n + 1, x => pc (x % 256) + S n (x / 256)
theorem sums : ∀ n x, cnt x (8 * n) = S n x
  | 0, x => by simp [cnt, S]
  | n + 1, x => by rw [cnt_bytes, sums n (x / 256)]; rfl
theorem W_succ (n x : Nat) : W (n + 1) x = pc (x % 256) + 256 * W n (x / 256) := rfl
theorem S_succ (n x : Nat) : S (n + 1) x = pc (x % 256) + S n (x / 256) := rfl
theorem oc_cnt (x : Nat) : oc x = (Bt.pts x 64).length := by
  have e : cnt x 64 = S 8 x := sums 8 x
  rw [pts_cnt, e, oc, (bytes 8 x).1]
  rw [W_succ, W_succ, W_succ, W_succ, W_succ, W_succ, W_succ, W_succ, S_succ, S_succ, S_succ, S_succ, S_succ, S_succ, S_succ, S_succ]
  exact fin_sum _ _ _ _ _ _ _ _ (pc_le _) (pc_le _) (pc_le _) (pc_le _) (pc_le _) (pc_le _) (pc_le _) (pc_le _)
theorem masks : M 85 8 = 6148914691236517205 ∧ M 51 8 = 3689348814741910323 ∧ M 15 8 = 1085102592571150095 := by decide
end Go.Proofs.YteldfjibmaigiaaDoor.Oc
