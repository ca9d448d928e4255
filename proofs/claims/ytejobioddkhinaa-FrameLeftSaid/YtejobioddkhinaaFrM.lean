/- Frames in bytes: the document's words, plain. -/
import Derived.Test.YtejobioddkhinaaGen
namespace Go.Proofs.Ytejobioddkhinaa
set_option linter.unusedVariables false
set_option maxRecDepth 100000

/-- The length that bytes begin by; -1: there are fewer than two. -/
def lenH : List UInt8 → Int
  | a :: b :: _ => (a.toNat : Int) * 256 + (b.toNat : Int)
  | _ => -1
def badF (s : List UInt8) : Bool := decide (lenH s = 0 ∨ 1024 < lenH s)
/-- Is there a whole frame? -/
def isF (s : List UInt8) : Bool := decide (1 ≤ lenH s ∧ lenH s ≤ 1024 ∧ 2 + lenH s ≤ s.length)
def textF (s : List UInt8) : List UInt8 := if isF s then (s.drop 2).take (lenH s).toNat else []
def restF (s : List UInt8) : List UInt8 := if isF s then s.drop (2 + (lenH s).toNat) else s
def putV (s : List UInt8) : List UInt8 := if s.length = 0 then [] else if 1024 < s.length then [] else UInt8.ofNat (s.length / 256) :: UInt8.ofNat (s.length % 256) :: s
def putE (s : List UInt8) : Int := if s.length = 0 then 1 else if 1024 < s.length then 80 else 0
def pushV (r s : List UInt8) : List UInt8 := if badF r then r else r ++ s
def pushE (r : List UInt8) : Int := if badF r then 80 else 0

theorem lenH_le (s : List UInt8) : -1 ≤ lenH s ∧ lenH s ≤ 65535 := by
  unfold lenH
  split
  · rename_i a b _
    have := a.toNat_lt
    have := b.toNat_lt
    omega
  · omega
theorem restF_le (s : List UInt8) : (restF s).length ≤ s.length := by
  unfold restF
  split
  · simp
  · exact Nat.le_refl _
theorem textF_le (s : List UInt8) : (textF s).length ≤ s.length := by
  unfold textF
  split
  · simp; omega
  · simp
theorem pushV_le (r s : List UInt8) : (pushV r s).length ≤ r.length + s.length := by
  unfold pushV
  split <;> simp
end Go.Proofs.Ytejobioddkhinaa
