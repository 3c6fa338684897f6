/- Package wire's reader: its methods. -/
import Derived.Test.YtlbbehhjehpefaaStep
namespace Go.Proofs.Ytlbbehhjehpefaa
open Go.RowKit
set_option linter.unusedVariables false

def alInt : Int → Int := ceilE 18446744073709551615 0
def alBool : Int → Int := ceilE 1 12
def alCount (most : Int) : Int → Int := ceilE (max most 0) 11
def alNum : Int → Int := fun x => floatE x.toNat

/-- the end -/
def endE (rest : List UInt8) (err : Int) : Int := if err = 0 ∧ rest ≠ [] then 13 else err
/-- what Bytes does -/
def alBytes (most : Int) (rest : List UInt8) : Int → Int := roomE (max most 0) 11 rest.length
def bytesF (most : Int) (rest : List UInt8) (err : Int) : List UInt8 × List UInt8 × Int :=
  if (stepF 4 (alBytes most rest) rest err).1 = 0 then ([], (stepF 4 (alBytes most rest) rest err).2)
  else ((stepF 4 (alBytes most rest) rest err).2.1.take (stepF 4 (alBytes most rest) rest err).1, (stepF 4 (alBytes most rest) rest err).2.1.drop (stepF 4 (alBytes most rest) rest err).1, (stepF 4 (alBytes most rest) rest err).2.2)

theorem stepF_room (most : Int) (rest : List UInt8) (err : Int) : (stepF 4 (alBytes most rest) rest err).1 ≤ (stepF 4 (alBytes most rest) rest err).2.1.length := by
  unfold stepF
  split
  · simp
  split
  · simp
  split
  · simp
  · rename_i h1 h2 h3
    have h3 := Decidable.not_not.1 h3
    unfold alBytes roomE at h3
    split at h3
    · split at h3
      · simp at h3
      · simp only [List.length_drop]; omega
    · rename_i h4; exact absurd h3 h4

end Go.Proofs.Ytlbbehhjehpefaa
