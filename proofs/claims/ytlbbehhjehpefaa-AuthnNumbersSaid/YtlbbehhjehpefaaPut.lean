/- Contracts of package wire's and the reference's encoders. -/
import Derived.Test.YtlbbehhjehpefaaRows
import Derived.Test.YtlbbehhjehpefaaWords
namespace Go.Proofs.Ytlbbehhjehpefaa
open Go.RowKit
set_option linter.unusedVariables false

theorem u8info : (Try.prog.info? 5).map (fun i => (i.zero, i.size, i.bytes)) = some (some (.int .u8 0), 1, 1) := by kernel_rfl

theorem ret_int {k : IntKind} {a b : Int} (h : a = b) : Ending.returned (.int k a) = .returned (.int k b) := by rw [h]
theorem ret_bool {a b : Bool} (h : a = b) : Ending.returned (.bool a) = .returned (.bool b) := by rw [h]

/-- the highest first: 'size' bytes of n -/
def be : Nat → Nat → List UInt8
  | 0, _ => []
  | k + 1, n => UInt8.ofNat (n / 256 ^ k) :: be k n

theorem be_length (k n : Nat) : (be k n).length = k := by induction k with | zero => rfl | succ k ih => simp [be, ih]

def capC (n : Int) : Int := min (max n 0) 4294967295

theorem Rd.one (w : World) (x : Value) (t : TypeId) : Rd (w.alloc (.cells #[x] t)) (.slice (some ⟨w.heap.size, 0, none⟩) 1 1) [x] :=
  ⟨_, 1, rfl, Nat.le_refl _, by unfold maxLen; omega, (by intro h; cases h), fun _ => ⟨_, rfl, by simp, fun j u hu => cell_one_new w x t j u hu⟩⟩

theorem bc_shift (x j : Nat) : Value.int .u8 ((x : Int) / 2 ^ (8 * j) % 256) = bc (UInt8.ofNat (x / 256 ^ j)) := by
  unfold bc
  congr 1
  rw [UInt8.toNat_ofNat']
  have : (2 : Int) ^ (8 * j) = ((256 ^ j : Nat) : Int) := by rw [Int.pow_mul]; simp
  rw [this]
  omega

end Go.Proofs.Ytlbbehhjehpefaa
