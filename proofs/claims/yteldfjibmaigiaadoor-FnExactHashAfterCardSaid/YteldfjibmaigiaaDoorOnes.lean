/-
  The number of points of a set: math/bits.OnesCount64, for every number of 64 bits.
-/
import Derived.Test.YteldfjibmaigiaaDoorBitsB
import Derived.Test.YteldfjibmaigiaaDoorPureOc
import Derived.Laws.BitsLemmas
namespace Go.Proofs.YteldfjibmaigiaaDoor
set_option maxRecDepth 100000
open Go.RowKit

def E1 (X : Int) : Int := IntKind.u64.wrap (bits BinOp.and IntKind.u64 (X / 2) 6148914691236517205 + bits BinOp.and IntKind.u64 X 6148914691236517205)
def E2 (X : Int) : Int := IntKind.u64.wrap (bits BinOp.and IntKind.u64 (X / 4) 3689348814741910323 + bits BinOp.and IntKind.u64 X 3689348814741910323)
def E3 (X : Int) : Int := bits BinOp.and IntKind.u64 (IntKind.u64.wrap (X / 16 + X)) 1085102592571150095
def E4 (X : Int) : Int := IntKind.u64.wrap (X + X / 256)
def E5 (X : Int) : Int := IntKind.u64.wrap (X + X / 65536)
def E6 (X : Int) : Int := IntKind.u64.wrap (X + X / 4294967296)
def E7 (X : Int) : Int := bits BinOp.and IntKind.i64 (wrap64 X) 127

theorem e1 (x : Nat) (hx : x < 18446744073709551616) : E1 (x : Int) = ((Oc.s1 8 x : Nat) : Int) ∧ Oc.s1 8 x ≤ 12297829382473034410 := by
  unfold E1 Oc.s1
  rw [Oc.masks.1, show (x : Int) / 2 = ((x / 2 : Nat) : Int) by omega, show (6148914691236517205 : Int) = ((6148914691236517205 : Nat) : Int) from rfl, u64_and_nat _ _ (by omega) (by decide), u64_and_nat _ _ hx (by decide), wrap_u]
  have h1 : x / 2 &&& 6148914691236517205 ≤ 6148914691236517205 := Nat.and_le_right
  have h2 : x &&& 6148914691236517205 ≤ 6148914691236517205 := Nat.and_le_right
  generalize x / 2 &&& 6148914691236517205 = a at *
  generalize x &&& 6148914691236517205 = b at *
  omega
theorem e2 (x : Nat) (hx : x < 18446744073709551616) : E2 (x : Int) = ((Oc.s2 8 x : Nat) : Int) ∧ Oc.s2 8 x ≤ 7378697629483820646 := by
  unfold E2 Oc.s2
  rw [Oc.masks.2.1, show (x : Int) / 4 = ((x / 4 : Nat) : Int) by omega, show (3689348814741910323 : Int) = ((3689348814741910323 : Nat) : Int) from rfl, u64_and_nat _ _ (by omega) (by decide), u64_and_nat _ _ hx (by decide), wrap_u]
  have h1 : x / 4 &&& 3689348814741910323 ≤ 3689348814741910323 := Nat.and_le_right
  have h2 : x &&& 3689348814741910323 ≤ 3689348814741910323 := Nat.and_le_right
  generalize x / 4 &&& 3689348814741910323 = a at *
  generalize x &&& 3689348814741910323 = b at *
  omega
theorem e3 (x : Nat) (hx : x ≤ 7378697629483820646) : E3 (x : Int) = ((Oc.s3 8 x : Nat) : Int) ∧ Oc.s3 8 x ≤ 1085102592571150095 := by
  unfold E3 Oc.s3
  rw [Oc.masks.2.2, wrap_u, show ((x : Int) / 16 + x) % 18446744073709551616 = ((x / 16 + x : Nat) : Int) by omega, show (1085102592571150095 : Int) = ((1085102592571150095 : Nat) : Int) from rfl, u64_and_nat _ _ (by omega) (by decide)]
  exact ⟨rfl, Nat.and_le_right⟩
theorem e7 (x : Nat) (hx : x ≤ 1085102592571150095) : E7 (E6 (E5 (E4 (x : Int)))) = ((Oc.fin x : Nat) : Int) := by
  have h4 : E4 (x : Int) = ((x + x / 256 : Nat) : Int) := by unfold E4; rw [wrap_u]; omega
  have h5 : E5 ((x + x / 256 : Nat) : Int) = ((x + x / 256 + (x + x / 256) / 65536 : Nat) : Int) := by unfold E5; rw [wrap_u]; omega
  have h6 : E6 ((x + x / 256 + (x + x / 256) / 65536 : Nat) : Int) = ((x + x / 256 + (x + x / 256) / 65536 + (x + x / 256 + (x + x / 256) / 65536) / 4294967296 : Nat) : Int) := by unfold E6; rw [wrap_u]; omega
  rw [h4, h5, h6]
  obtain ⟨y, hy⟩ : ∃ y, y = x + x / 256 + (x + x / 256) / 65536 + (x + x / 256 + (x + x / 256) / 65536) / 4294967296 := ⟨_, rfl⟩
  have hf : Oc.fin x = y &&& 127 := by rw [hy]; rfl
  have hyl : y < 2000000000000000000 := by omega
  rw [← hy, hf]
  clear hy hf h4 h5 h6
  unfold E7
  have hw : wrap64 (y : Int) = (y : Int) := by unfold wrap64; omega
  rw [hw]
  have := bits_nat .i64 63 (by decide) (fun n h0 h1 => by rw [IntKind.wrap_i64]; omega) y 127 (by omega) (by decide)
  exact this.1

theorem ones_val (x : Nat) (hx : x < 18446744073709551616) : E7 (E6 (E5 (E4 (E3 (E2 (E1 (x : Int))))))) = ((Bt.pts x 64).length : Int) := by
  obtain ⟨a1, a2⟩ := e1 x hx
  obtain ⟨b1, b2⟩ := e2 (Oc.s1 8 x) (by omega)
  obtain ⟨c1, c2⟩ := e3 (Oc.s2 8 (Oc.s1 8 x)) b2
  rw [a1, b1, c1, e7 _ c2]
  exact congrArg Nat.cast (Oc.oc_cnt x)

end Go.Proofs.YteldfjibmaigiaaDoor
