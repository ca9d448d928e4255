import Derived.Test.YtpdnbjaamgfemaaOct2
namespace Go.Proofs.Ytpdnbjaamgfemaa
open Go.RowKit
set_option linter.unusedVariables false
set_option maxRecDepth 100000

set_option maxHeartbeats 400000 in
theorem back_any (b eb : Nat) (s : ByteArray) (w : World) (hc : w.cell? ⟨b, 0, none⟩ = some (.string s)) :
    Calls Try.prog 70 #[.pointer (some ⟨b, 0, none⟩), .pointer (some ⟨eb, 0, none⟩)] w fun e w' =>
      e = .returned (.func (.func 72) #[] #[.pointer (some ⟨w.heap.size + 1, 0, none⟩), .pointer (some ⟨w.heap.size, 0, none⟩), .pointer (some ⟨w.heap.size + 2, 0, none⟩)]) ∧
      w' = ((w.alloc (.cells #[.pointer (some ⟨b, 0, none⟩)] 64)).alloc (.cells #[.pointer (some ⟨eb, 0, none⟩)] 114)).alloc (.cells #[.string s] 9) := by
  have hmf : ∀ (fn : Fn) (first cap : Array Value) (w : World), (Instr.makeFunc fn first cap).run Try.prog w = .ok (.func fn first cap) w := fun _ _ _ _ => rfl
  have hlt : b < w.heap.size := World.block_lt_of_cell? w _ hc
  have hc1 : ((w.alloc (.cells #[.pointer (some ⟨b, 0, none⟩)] 64)).alloc (.cells #[.pointer (some ⟨eb, 0, none⟩)] 114)).cell? ⟨b, 0, none⟩ = some (.string s) := by
    rw [World.cell?_alloc_lt _ _ _ (by simp; omega), World.cell?_alloc_lt _ _ _ hlt]; exact hc
  go_enter Try.func70, Try.ntmps70
  go_wp2_with (go_at_call 44; refine (rest_any _ _ _ hc1).mono ?_; rintro e w' ⟨rfl, rfl⟩)
  go_outline
  go_ret
  exact ⟨rfl, rfl⟩

set_option maxHeartbeats 400000 in
theorem backon_err (b eb h : Nat) (k : Int) (s t : ByteArray) (u : FrameMode) (w : World) (hk : (k != 0) = true)
    (c1 : w.cell? ⟨h + 1, 0, none⟩ = some (.pointer (some ⟨eb, 0, none⟩))) (c0 : w.cell? ⟨h, 0, none⟩ = some (.pointer (some ⟨b, 0, none⟩))) (c2 : w.cell? ⟨h + 2, 0, none⟩ = some (.string s))
    (ce : w.cell? ⟨eb, 0, none⟩ = some (.int .i64 k)) (cb : w.cell? ⟨b, 0, none⟩ = some (.string t)) (fb : w.frozen? ⟨b, 0, none⟩ = false) :
    CallsD Try.prog 72 #[.pointer (some ⟨h + 1, 0, none⟩), .pointer (some ⟨h, 0, none⟩), .pointer (some ⟨h + 2, 0, none⟩)] u w fun e u' w' => u' = u ∧ (e = .returned (.tuple #[]) ∧ w' = w.setCell ⟨b, 0, none⟩ (.string s)) := by
  go_enter_d Try.func72, Try.ntmps72
  go_wp2
  go_end0
  exact ⟨rfl, rfl⟩

set_option maxHeartbeats 400000 in
theorem backon_ok (b eb h : Nat) (u : FrameMode) (w : World)
    (c1 : w.cell? ⟨h + 1, 0, none⟩ = some (.pointer (some ⟨eb, 0, none⟩))) (c0 : w.cell? ⟨h, 0, none⟩ = some (.pointer (some ⟨b, 0, none⟩)))
    (ce : w.cell? ⟨eb, 0, none⟩ = some (.int .i64 0)) :
    CallsD Try.prog 72 #[.pointer (some ⟨h + 1, 0, none⟩), .pointer (some ⟨h, 0, none⟩), .pointer (some ⟨h + 2, 0, none⟩)] u w fun e u' w' => u' = u ∧ (e = .returned (.tuple #[]) ∧ w' = w) := by
  go_enter_d Try.func72, Try.ntmps72
  go_wp2
  go_end0
  exact ⟨rfl, rfl⟩
end Go.Proofs.Ytpdnbjaamgfemaa
