/- The reader's calls, whatever the bytes: total forms. -/
import Derived.Test.YthmpadhhbkielaaOctE
namespace Go.Proofs.Ythmpadhhbkielaa
open Go.RowKit
set_option linter.unusedVariables false

theorem rnum_tot (b : Nat) (s : ByteArray) (n : Nat) (w : World) (hc : w.cell? ⟨b, 0, none⟩ = some (.string s)) (hf : w.frozen? ⟨b, 0, none⟩ = false) (h1 : 1 ≤ n) (h2 : n ≤ 8) (hm : s.size ≤ maxLen) :
    Calls Try.prog 19 #[.pointer (some ⟨b, 0, none⟩), .int .i64 n] w fun e w' => ∃ (x f : Int) (t : ByteArray), e = .returned (.tuple #[.int .u64 x, .int .i64 f]) ∧ Rd b t w w' := by
  by_cases h : s.size < n
  · exact (rnum_short b s n w hc hf (by omega) (by omega) (by omega)).mono fun e w' ⟨he, hr⟩ => ⟨_, _, _, he, hr⟩
  · exact (rnum_ok b s n w hc hf h1 h2 (by omega) hm).mono fun e w' ⟨he, hr⟩ => ⟨_, _, _, he, hr⟩

theorem rtext_tot (b : Nat) (l : List UInt8) (w : World) (hc : w.cell? ⟨b, 0, none⟩ = some (.string (str l))) (hf : w.frozen? ⟨b, 0, none⟩ = false) (hm : l.length ≤ maxLen) :
    Calls Try.prog 23 #[.pointer (some ⟨b, 0, none⟩)] w fun e w' => ∃ (t : ByteArray) (f : Int) (u : ByteArray), e = .returned (.tuple #[.string t, .int .i64 f]) ∧ Rd b u w w' := by
  cases l with
  | nil => exact (rtext_none b (str []) w hc hf rfl).mono fun e w' ⟨he, hr⟩ => ⟨_, _, _, he, hr⟩
  | cons c l =>
    by_cases h1 : 64 < c.toNat
    · exact (rtext_wide b c l w hc hf hm h1).mono fun e w' ⟨he, hr⟩ => ⟨_, _, _, he, hr⟩
    · by_cases h2 : l.length < c.toNat
      · exact (rtext_short b c l w hc hf hm (by omega) h2).mono fun e w' ⟨he, hr⟩ => ⟨_, _, _, he, hr⟩
      · have e : l = l.take c.toNat ++ l.drop c.toNat := (List.take_append_drop _ _).symm
        rw [e] at hc hm
        exact (rtext_ok b c (l.take c.toNat) (l.drop c.toNat) w hc hf hm (by omega) (by simp; omega)).mono fun e w' ⟨he, hr⟩ => ⟨_, _, _, he, hr⟩

theorem str_take (l : List UInt8) (k : Nat) : (str l).extract 0 k = str (l.take k) := by
  apply ByteArray.ext
  apply Array.ext'
  simp [str]

theorem neq_hash (hs gs : List UInt8) (h1 : hs.length = 32) (h2 : gs.length = 32) (w : World) :
    (binOp .neq 30 (.agg (hs.map u8v).toArray) (.agg (gs.map u8v).toArray)).run Try.prog w = .ok (.bool (!(hs == gs))) w := by
  rw [run_neq_struct]
  have h : (Op.equalIn 10000 30 (.agg (hs.map u8v).toArray) (.agg (gs.map u8v).toArray)).run Try.prog w = .ok (hs == gs) w := run_equalIn_bytes w 9998 30 5 32 Try.underlying30 Try.underlying5 Try.sizeU8 hs gs h1 h2
  rw [h]
  rfl
end Go.Proofs.Ythmpadhhbkielaa
