/- Messages: which may be, their bytes, and what bytes tell: the document's words, plain. -/
import Derived.Test.YtpdnbjaamgfemaaOctB
namespace Go.Proofs.Ytpdnbjaamgfemaa
set_option linter.unusedVariables false
set_option maxRecDepth 100000

structure Msg where
  k : Int
  c : Nat
  i : Nat
  a : Nat
  h : List UInt8
  e : Int
  n : Int

def zeroH : List UInt8 := List.replicate 32 0
def zeroM : Msg := ⟨0, 0, 0, 0, zeroH, 0, 0⟩

/-- What a message's types hold to. -/
structure Msg.Ok (m : Msg) : Prop where
  c : m.c < 4294967296
  i : m.i < 18446744073709551616
  a : m.a < 18446744073709551616
  h : m.h.length = 32
  k : -9223372036854775808 ≤ m.k ∧ m.k ≤ 9223372036854775807
  e : -9223372036854775808 ≤ m.e ∧ m.e ≤ 9223372036854775807
  n : -9223372036854775808 ≤ m.n ∧ m.n ≤ 9223372036854775807
theorem zeroM_ok : zeroM.Ok := ⟨by decide, by decide, by decide, by decide, by decide, by decide, by decide⟩

/-- The fields of a kind, by their letters: i a h e n. -/
def fieldsB (k : Int) : List UInt8 :=
  if k = 1 then [97] else if k = 3 then [105, 97, 104, 101] else if k = 4 then [105, 104] else if k = 5 then [105, 110] else if k = 6 ∨ k = 7 then [110, 104] else if k = 9 then [110, 105] else []

def boundOk (m : Msg) : Bool := decide (1 ≤ m.k ∧ m.k ≤ 9 ∧ 0 ≤ m.e ∧ m.e ≤ 1073741824 ∧ 0 ≤ m.n ∧ m.n ≤ 65535 ∧ m.a ≤ 1125899906842624)
def inB (l : List UInt8) (c : UInt8) : Bool := l.any (· == c)
def restOk (m : Msg) : Bool :=
  (inB (fieldsB m.k) 105 || m.i == 0) && (inB (fieldsB m.k) 97 || m.a == 0) && (inB (fieldsB m.k) 104 || m.h == zeroH) && (inB (fieldsB m.k) 101 || m.e == 0) && (inB (fieldsB m.k) 110 || m.n == 0)
def may (m : Msg) : Bool := boundOk m && restOk m

/-- The bytes of a field. -/
def fieldOf (m : Msg) (c : UInt8) : List UInt8 :=
  if c = 105 then beBytes m.i 8 else if c = 97 then beBytes m.a 8 else if c = 104 then m.h else if c = 101 then beBytes m.e.toNat 4 else if c = 110 then beBytes m.n.toNat 2 else []
def allOf (m : Msg) : List UInt8 → List UInt8
  | [] => []
  | c :: l => fieldOf m c ++ allOf m l
def bytesM (m : Msg) : List UInt8 := beBytes m.k.toNat 1 ++ beBytes m.c 4 ++ allOf m (fieldsB m.k)
def encV (m : Msg) : List UInt8 := if may m then bytesM m else []
def encE (m : Msg) : Int := if may m then 0 else 1

/-- How many bytes a field has. -/
def widthB (c : UInt8) : Nat := if c = 104 then 32 else if c = 101 then 4 else if c = 110 then 2 else 8
def lenB : List UInt8 → Nat
  | [] => 0
  | c :: l => widthB c + lenB l

/-- A field that is told. -/
def setF (m : Msg) (c : UInt8) (bs : List UInt8) : Msg :=
  if c = 105 then { m with i := beNat bs } else if c = 97 then { m with a := beNat bs } else if c = 104 then { m with h := bs } else if c = 101 then { m with e := (beNat bs : Int) } else if c = 110 then { m with n := (beNat bs : Int) } else m
def readF (m : Msg) : List UInt8 → List UInt8 → Msg
  | [], _ => m
  | c :: l, s => readF (setF m c (s.take (widthB c))) l (s.drop (widthB c))
def told (b : UInt8) (s : List UInt8) : Msg := readF ⟨(b.toNat : Int), beNat (s.take 4), 0, 0, zeroH, 0, 0⟩ (fieldsB (b.toNat : Int)) (s.drop 4)

def decM : List UInt8 → Msg × Int
  | [] => (zeroM, 10)
  | b :: s => if b.toNat < 1 ∨ 9 < b.toNat then (zeroM, 70)
    else if s.length + 1 < 5 + lenB (fieldsB (b.toNat : Int)) then (zeroM, 10)
    else if 5 + lenB (fieldsB (b.toNat : Int)) < s.length + 1 then (zeroM, 11)
    else if may (told b s) then (told b s, 0) else (zeroM, 1)

/-! ### What follows -/
theorem beNat_all (x k : Nat) (h : x < 256 ^ k) : beNat (beBytes x k) = x := by rw [beNat_beBytes, Nat.mod_eq_of_lt h]
theorem kinds {k : Int} (h1 : 1 ≤ k) (h2 : k ≤ 9) : k = 1 ∨ k = 2 ∨ k = 3 ∨ k = 4 ∨ k = 5 ∨ k = 6 ∨ k = 7 ∨ k = 8 ∨ k = 9 := by omega
theorem width_of (m : Msg) (h : m.h.length = 32) {c : UInt8} (hc : c = 105 ∨ c = 97 ∨ c = 104 ∨ c = 101 ∨ c = 110) : (fieldOf m c).length = widthB c := by
  rcases hc with rfl | rfl | rfl | rfl | rfl <;> simp [fieldOf, widthB, beBytes_length, h]
theorem fields_is (k : Int) : ∀ c ∈ fieldsB k, c = 105 ∨ c = 97 ∨ c = 104 ∨ c = 101 ∨ c = 110 := by
  intro c hc
  unfold fieldsB at hc
  split at hc
  · simp at hc; simp [hc]
  split at hc
  · simp at hc; rcases hc with rfl | rfl | rfl | rfl <;> simp
  split at hc
  · simp at hc; rcases hc with rfl | rfl <;> simp
  split at hc
  · simp at hc; rcases hc with rfl | rfl <;> simp
  split at hc
  · simp at hc; rcases hc with rfl | rfl <;> simp
  split at hc
  · simp at hc; rcases hc with rfl | rfl <;> simp
  · cases hc
theorem allOf_len (m : Msg) (h : m.h.length = 32) : ∀ l : List UInt8, (∀ c ∈ l, c = 105 ∨ c = 97 ∨ c = 104 ∨ c = 101 ∨ c = 110) → (allOf m l).length = lenB l
  | [], _ => rfl
  | c :: l, hl => by
    rw [allOf, lenB, List.length_append, width_of m h (hl c (List.mem_cons_self ..)), allOf_len m h l (fun d hd => hl d (List.mem_cons_of_mem _ hd))]
theorem bytesM_len (m : Msg) (h : m.h.length = 32) : (bytesM m).length = 5 + lenB (fieldsB m.k) := by
  unfold bytesM
  rw [List.length_append, List.length_append, beBytes_length, beBytes_length, allOf_len m h _ (fields_is m.k)]

end Go.Proofs.Ytpdnbjaamgfemaa
