/- The reader's calls, whatever the bytes: total forms. -/
import Derived.Test.YtpdnbjaamgfemaaOctE
namespace Go.Proofs.Ytpdnbjaamgfemaa
open Go.RowKit
set_option linter.unusedVariables false
set_option maxRecDepth 100000

theorem rnum_tot (b : Nat) (s : ByteArray) (n : Nat) (w : World) (hc : w.cell? ⟨b, 0, none⟩ = some (.string s)) (hf : w.frozen? ⟨b, 0, none⟩ = false) (h1 : 1 ≤ n) (h2 : n ≤ 8) (hm : s.size ≤ maxLen) :
    Calls Try.prog 69 #[.pointer (some ⟨b, 0, none⟩), .int .i64 n] w fun e w' => ∃ (x f : Int) (t : ByteArray), e = .returned (.tuple #[.int .u64 x, .int .i64 f]) ∧ Rd b t w w' := by
  by_cases h : s.size < n
  · exact (rnum_short b s n w hc hf (by omega) (by omega) (by omega)).mono fun e w' ⟨he, hr⟩ => ⟨_, _, _, he, hr⟩
  · exact (rnum_ok b s n w hc hf h1 h2 (by omega) hm).mono fun e w' ⟨he, hr⟩ => ⟨_, _, _, he, hr⟩

theorem str_take (l : List UInt8) (k : Nat) : (str l).extract 0 k = str (l.take k) := by
  apply ByteArray.ext
  apply Array.ext'
  simp [str]

theorem neq_hash (hs gs : List UInt8) (h1 : hs.length = 32) (h2 : gs.length = 32) (w : World) :
    (binOp .neq 25 (.agg (hs.map u8v).toArray) (.agg (gs.map u8v).toArray)).run Try.prog w = .ok (.bool (!(hs == gs))) w := by
  rw [run_neq_struct]
  have h : (Op.equalIn 10000 25 (.agg (hs.map u8v).toArray) (.agg (gs.map u8v).toArray)).run Try.prog w = .ok (hs == gs) w := run_equalIn_bytes w 9998 25 5 32 Try.underlying25 Try.underlying5 Try.sizeU8 hs gs h1 h2
  rw [h]
  rfl
end Go.Proofs.Ytpdnbjaamgfemaa
