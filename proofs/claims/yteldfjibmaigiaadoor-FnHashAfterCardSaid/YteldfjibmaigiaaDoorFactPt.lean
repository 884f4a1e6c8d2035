/-
  What holds of every point of every board, at the plain functions: looked at one by one by the kernel (7 sizes, at most 49 points, 8 symmetries).
-/
import Derived.Test.YteldfjibmaigiaaDoorPurePt
namespace Go.Proofs.YteldfjibmaigiaaDoor.Pt

def mutua (s p : Int) : Bool := (nbs s p).all fun q => okP s q && (nbs s q).contains p && decide (q ≠ p)
def howMany (s p : Int) : Int := 4 - (if p < s then 1 else 0) - (if s * s - s ≤ p then 1 else 0) - (if p % s = 0 then 1 else 0) - (if p % s = s - 1 then 1 else 0)
def rises : List Int → Bool
  | a :: b :: l => decide (a < b) && rises (b :: l)
  | _ => true

theorem nbs_all (s p : Int) (h1 : 1 ≤ s) (h2 : s ≤ 7) (h3 : 0 ≤ p) (h4 : p < s * s) : mutua s p = true ∧ ((nbs s p).length : Int) = howMany s p ∧ rises (nbs s p) = true :=
  all_sp (P := fun s p => mutua s p = true ∧ ((nbs s p).length : Int) = howMany s p ∧ rises (nbs s p) = true) (by decide +kernel) s p h1 h2 h3 h4

/-- The images of a list of points, in ascending order. -/
def imagesOf (s k : Int) (l : List Int) : List Int := (List.range (s * s).toNat).flatMap fun (q : Nat) => (l.filter fun x => tr s k x == (q : Int)).map fun _ => (q : Int)

theorem nbs_img (s k p : Int) (h1 : 1 ≤ s) (h2 : s ≤ 7) (h3 : 0 ≤ p) (h4 : p < s * s) (k1 : 0 ≤ k) (k2 : k < 8) : nbs s (img s k p) = imagesOf s k (nbs s p) := by
  revert k1 k2
  have := fun (a : 0 ≤ k) (b : k < 8) => all_k (P := fun k => ∀ s : Fin 7, ∀ p : Fin 49, ((p : Nat) : Int) < (((s : Nat) : Int) + 1) * (((s : Nat) : Int) + 1) → nbs (((s : Nat) : Int) + 1) (img (((s : Nat) : Int) + 1) k ((p : Nat) : Int)) = imagesOf (((s : Nat) : Int) + 1) k (nbs (((s : Nat) : Int) + 1) ((p : Nat) : Int))) (by decide +kernel) k a b
  exact fun a b => all_sp (P := fun s p => nbs s (img s k p) = imagesOf s k (nbs s p)) (this a b) s p h1 h2 h3 h4

def undone (s k p : Int) : Bool :=
  (tr s 1 (tr s 1 (tr s 1 (tr s 1 p))) == p) && (tr s (if 4 ≤ k then k else (4 - k) % 4) (img s k p) == p) && ((p + 1) % (s * s) == p || tr s k ((p + 1) % (s * s)) != img s k p)

theorem undone_all (s k p : Int) (h1 : 1 ≤ s) (h2 : s ≤ 7) (h3 : 0 ≤ p) (h4 : p < s * s) (k1 : 0 ≤ k) (k2 : k < 8) : undone s k p = true := by
  have := all_k (P := fun k => ∀ s : Fin 7, ∀ p : Fin 49, ((p : Nat) : Int) < (((s : Nat) : Int) + 1) * (((s : Nat) : Int) + 1) → undone (((s : Nat) : Int) + 1) k ((p : Nat) : Int) = true) (by decide +kernel) k k1 k2
  exact all_sp (P := fun s p => undone s k p = true) this s p h1 h2 h3 h4

theorem comp_bd (a b : Int) (a1 : 0 ≤ a) (a2 : a < 8) (b1 : 0 ≤ b) (b2 : b < 8) : 0 ≤ comp a b ∧ comp a b < 8 :=
  all_k (P := fun a => 0 ≤ comp a b ∧ comp a b < 8) (fun a => all_k (P := fun b => 0 ≤ comp ((a : Nat) : Int) b ∧ comp ((a : Nat) : Int) b < 8) (fun b => by revert a b; decide +kernel) b b1 b2) a a1 a2

theorem comp_tr (a b s p : Int) (a1 : 0 ≤ a) (a2 : a < 8) (b1 : 0 ≤ b) (b2 : b < 8) (h1 : 1 ≤ s) (h2 : s ≤ 7) (h3 : 0 ≤ p) (h4 : p < s * s) : tr s (comp a b) p = tr s b (tr s a p) := by
  have := all_k (P := fun a => ∀ b : Fin 8, ∀ s : Fin 7, ∀ p : Fin 49, ((p : Nat) : Int) < (((s : Nat) : Int) + 1) * (((s : Nat) : Int) + 1) → tr (((s : Nat) : Int) + 1) (comp a ((b : Nat) : Int)) ((p : Nat) : Int) = tr (((s : Nat) : Int) + 1) ((b : Nat) : Int) (tr (((s : Nat) : Int) + 1) a ((p : Nat) : Int))) (by decide +kernel) a a1 a2
  have := all_k (P := fun b => ∀ s : Fin 7, ∀ p : Fin 49, ((p : Nat) : Int) < (((s : Nat) : Int) + 1) * (((s : Nat) : Int) + 1) → tr (((s : Nat) : Int) + 1) (comp a b) ((p : Nat) : Int) = tr (((s : Nat) : Int) + 1) b (tr (((s : Nat) : Int) + 1) a ((p : Nat) : Int))) this b b1 b2
  exact all_sp (P := fun s p => tr s (comp a b) p = tr s b (tr s a p)) this s p h1 h2 h3 h4

theorem comp_id (a : Int) (a1 : 0 ≤ a) (a2 : a < 8) : comp a 0 = a ∧ comp 0 a = a := all_k (P := fun a => comp a 0 = a ∧ comp 0 a = a) (by decide +kernel) a a1 a2

theorem comp_assoc (a b c : Int) (a1 : 0 ≤ a) (a2 : a < 8) (b1 : 0 ≤ b) (b2 : b < 8) (c1 : 0 ≤ c) (c2 : c < 8) : comp (comp a b) c = comp a (comp b c) := by
  have := all_k (P := fun a => ∀ b : Fin 8, ∀ c : Fin 8, comp (comp a ((b : Nat) : Int)) ((c : Nat) : Int) = comp a (comp ((b : Nat) : Int) ((c : Nat) : Int))) (by decide +kernel) a a1 a2
  have := all_k (P := fun b => ∀ c : Fin 8, comp (comp a b) ((c : Nat) : Int) = comp a (comp b ((c : Nat) : Int))) this b b1 b2
  exact all_k (P := fun c => comp (comp a b) c = comp a (comp b c)) this c c1 c2

/-- Two points of a board of size three tell a symmetry: the first number at which both images agree is that of the composition. -/
def differ (k a b : Int) : Bool := (img 3 k 0 != img 3 b (img 3 a 0)) || (img 3 k 1 != img 3 b (img 3 a 1))
theorem differ_iff (k a b : Int) (k1 : 0 ≤ k) (k2 : k < 8) (a1 : 0 ≤ a) (a2 : a < 8) (b1 : 0 ≤ b) (b2 : b < 8) : differ k a b = !(k == comp a b) := by
  have := all_k (P := fun k => ∀ a : Fin 8, ∀ b : Fin 8, differ k ((a : Nat) : Int) ((b : Nat) : Int) = !(k == comp ((a : Nat) : Int) ((b : Nat) : Int))) (by decide +kernel) k k1 k2
  have := all_k (P := fun a => ∀ b : Fin 8, differ k a ((b : Nat) : Int) = !(k == comp a ((b : Nat) : Int))) this a a1 a2
  exact all_k (P := fun b => differ k a b = !(k == comp a b)) this b b1 b2
end Go.Proofs.YteldfjibmaigiaaDoor.Pt
