/- An attempt: its steps, and the error of the first one that went wrong. -/
import Derived.Test.YtpdnbjaamgfemaaWpJ
import Derived.Defers
import Derived.Recover
namespace Go.Proofs.Ytpdnbjaamgfemaa
open Go.RowKit
set_option linter.unusedVariables false
set_option maxRecDepth 100000

set_option maxHeartbeats 1000000 in
theorem catch_wrong (x : Nat) (y e : Int) (older : List PanicEntry) (w : World) (hc : w.cell? ⟨x, 0, none⟩ = some (.int .i64 y)) (hz : w.frozen? ⟨x, 0, none⟩ = false) :
    CallsD Try.prog 34 #[.pointer (some ⟨x, 0, none⟩)] (.panicking ({ v := .iface 28 (.int .i64 e), recovered := false } :: older)) w fun en u' w' =>
      en = .returned (.tuple #[]) ∧ u' = .panicking ({ v := .iface 28 (.int .i64 e), recovered := true } :: older) ∧ w' = w.setCell ⟨x, 0, none⟩ (.int .i64 e) := by
  refine callsD_of_wpS Try.func34 rfl fun c₀ cs hu => ?_
  apply wpS_seq
  apply wpS_region
  simp [wpOpsS, go_sem, recoverD, hu, Try.ntmps34, Exit.thenS]
  have et : (#[Value.pointer (some ⟨x, 0, none⟩)] ++ ((Array.replicate 6 undef).setIfInBounds 1 (Value.iface 28 (.int .i64 e))).setIfInBounds 0 (Value.iface 28 (.int .i64 e)) : Array Value) = #[.pointer (some ⟨x, 0, none⟩), .iface 28 (.int .i64 e), .iface 28 (.int .i64 e), undef, undef, undef, undef] := by rfl
  rw [et]
  have hta : ∀ X : World, (Instr.typeAssert (.iface 28 (.int .i64 e)) 20 28 false).run Try.prog X = .ok (.int .i64 e) X := fun _ => by kernel_rfl
  refine wpS_of_wp ?_
  go_wp2
  simp [bodyPostS, results, Try.results34]

set_option maxHeartbeats 1000000 in
theorem catch_none (x : Nat) (w : World) :
    CallsD Try.prog 34 #[.pointer (some ⟨x, 0, none⟩)] .returning w fun e u' w' => e = .returned (.tuple #[]) ∧ u' = .returning ∧ w' = w := by
  refine callsD_of_wpS Try.func34 rfl fun c₀ cs hu => ?_
  apply wpS_seq
  apply wpS_region
  simp [wpOpsS, go_sem, recoverD, hu, Try.ntmps34, Exit.thenS]
  have et : (#[Value.pointer (some ⟨x, 0, none⟩)] ++ ((Array.replicate 6 undef).setIfInBounds 1 .nilIface).setIfInBounds 0 .nilIface : Array Value) = #[.pointer (some ⟨x, 0, none⟩), .nilIface, .nilIface, undef, undef, undef, undef] := by rfl
  rw [et]
  refine wpS_of_wp ?_
  go_wp2
  cases c₀
  simp_all [bodyPostS, results, Try.results34]

def callable (f : FuncId) : Prop := ∀ (as' : Array Value) (W : World), (callFunc f as').run Try.prog W = .ok (.enter f as') W

set_option maxHeartbeats 1000000 in
theorem attempt_any (f : FuncId) (caps : Array Value) (w : World) (Pp : World → Prop) (Qq : Int → World → Prop) (hf : callable f)
    (hc : Calls Try.prog f caps (w.alloc (.cells #[.int .i64 0] 28)) fun e w' => Blk w' w.heap.size 28 [.int .i64 0] ∧ ((e = .returned (.tuple #[]) ∧ Pp w') ∨ ∃ c, e = wrong c ∧ Qq c w')) :
    Calls Try.prog 16 #[.func (.func f) #[] caps] w fun e w' => ∃ w1, Fr (· = w.heap.size) w1 w' ∧ ((e = .returned (.int .i64 0) ∧ Pp w1) ∨ ∃ c, e = .returned (.int .i64 c) ∧ Qq c w1) := by
  have hmf : ∀ (fn : Fn) (first cap : Array Value) (w : World), (Instr.makeFunc fn first cap).run Try.prog w = .ok (.func fn first cap) w := fun _ _ _ _ => rfl
  have hcf : ∀ (as' : Array Value) (W : World), (callFunc f as').run Try.prog W = .ok (.enter f as') W := hf
  have HC := Lib.hid hc
  obtain ⟨x, hx⟩ : ∃ x, x = w.heap.size := ⟨_, rfl⟩
  have HX := Lib.hid hx
  clear hf hc hx
  go_enter_defers Try.func16, Try.ntmps16
  go_wp2_with fail
  refine HC.out.mono ?_
  rintro en w1 ⟨hb, (⟨rfl, hP⟩ | ⟨c, rfl, hQ⟩)⟩
  · rw [← HX.out]
    have k1 : w1.cell? ⟨x, 0, none⟩ = some (.int .i64 0) := by rw [HX.out]; exact hb.cell rfl
    have k2 : w1.frozen? ⟨x, 0, none⟩ = false := by rw [HX.out]; exact hb.frozen _
    have HR : Hid (Pp w1) := Lib.hid hP
    clear hb hP HC
    go_wp2
    refine leaves_cons (f := 34) (args := #[.pointer (some ⟨x, 0, none⟩)]) (by simp) (by simp [go_sem]) ?_
    refine (catch_none _ _).mono ?_
    rintro e u' w'' ⟨rfl, rfl, rfl⟩
    have hl := World.cell?_setCell_same w1 ⟨x, 0, none⟩ (.int .i64 0) k1
    exact ⟨.int .i64 0, by simp [results, Try.results16, go_sem, hl], w1, (Fr.refl (fun k => k = w.heap.size) w1).setCell (p := ⟨x, 0, none⟩) (.inl HX.out) _, .inl ⟨rfl, HR.out⟩⟩
  · rw [← HX.out]
    have k1 : w1.cell? ⟨x, 0, none⟩ = some (.int .i64 0) := by rw [HX.out]; exact hb.cell rfl
    have k2 : w1.frozen? ⟨x, 0, none⟩ = false := by rw [HX.out]; exact hb.frozen _
    have HR : Hid (Qq c w1) := Lib.hid hQ
    clear hb hQ HC
    refine leaves_cons (f := 34) (args := #[.pointer (some ⟨x, 0, none⟩)]) (by simp) (by simp [go_sem]) ?_
    refine (catch_wrong x 0 c [] w1 k1 k2).mono ?_
    rintro e u' w'' ⟨rfl, rfl, rfl⟩
    have hl := World.cell?_setCell_same w1 ⟨x, 0, none⟩ (.int .i64 c) k1
    exact ⟨.int .i64 c, by simp [results, Try.results16, go_sem, hl], w1, (Fr.refl (fun k => k = w.heap.size) w1).setCell (p := ⟨x, 0, none⟩) (.inl HX.out) _, .inr ⟨c, rfl, HR.out⟩⟩
end Go.Proofs.Ytpdnbjaamgfemaa
