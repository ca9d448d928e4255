import Derived.Test.YtpdnbjaamgfemaaOct1
namespace Go.Proofs.Ytpdnbjaamgfemaa
open Go.RowKit
set_option linter.unusedVariables false
set_option maxRecDepth 100000

set_option maxHeartbeats 400000 in
theorem take_short (b : Nat) (s : ByteArray) (n : Int) (w : World) (hc : w.cell? ⟨b, 0, none⟩ = some (.string s)) (h : (s.size : Int) < n) :
    Calls Try.prog 71 #[.pointer (some ⟨b, 0, none⟩), .int .i64 n] w fun e w' => e = .returned (.tuple #[.string ⟨#[]⟩, .int .i64 10]) ∧ w = w' := by
  go_enter Try.func71, Try.ntmps71
  go_wp2_with (go_at_call 44; refine (rest_any _ _ _ hc).mono ?_; rintro e w' ⟨rfl, rfl⟩)
  go_outline
  go_ret2
  exact ⟨rfl, rfl⟩

set_option maxHeartbeats 400000 in
theorem take_ok (b : Nat) (s : ByteArray) (n : Nat) (w : World) (hc : w.cell? ⟨b, 0, none⟩ = some (.string s)) (hf : w.frozen? ⟨b, 0, none⟩ = false) (h : n ≤ s.size) (hs : s.size ≤ maxLen) :
    Calls Try.prog 71 #[.pointer (some ⟨b, 0, none⟩), .int .i64 n] w fun e w' => e = .returned (.tuple #[.string (s.extract 0 n), .int .i64 0]) ∧ w' = w.setCell ⟨b, 0, none⟩ (.string (s.extract n s.size)) := by
  unfold maxLen at hs
  have h2 : (n : Int) ≤ (s.size : Int) := by omega
  go_enter Try.func71, Try.ntmps71
  go_wp2_with (go_at_call 44; refine (rest_any _ _ _ hc).mono ?_; rintro e w' ⟨rfl, rfl⟩)
  go_outline
  go_ret2
  exact ⟨rfl, rfl⟩
end Go.Proofs.Ytpdnbjaamgfemaa
