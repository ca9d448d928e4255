/- The fields of a list go by a carrier, one behind the other: whatever the carrier. -/
import Derived.Test.YtpdnbjaamgfemaaWpB
namespace Go.Proofs.Ytpdnbjaamgfemaa
open Go.RowKit
set_option linter.unusedVariables false
set_option maxRecDepth 100000

theorem exec_callv {P : Program} {o : Oper} {ev : Operand → Value} {w : World} (x : Operand) (xs : Array Operand) (ts : Array TypeId) (ho : o.op = .call ⟨.value x, xs, ts⟩) (f : FuncId) (caps : Array Value) (hx : ev x = .func (.func f) #[] caps) (vs : Array Value) (hvs : xs.map ev = vs)
    (hr : ∀ (as' : Array Value) (W : World), (callFunc f as').run P W = .ok (.enter f as') W) : (execOp ev o).run P w = .ok (.enter f (vs ++ caps)) w := by
  unfold execOp
  rw [ho]
  subst hvs
  simp [resolve, hx, invoke, Deferred.ofValue, hr]

set_option maxHeartbeats 2000000 in
theorem carry_abs (by' : Value) (g n : Nat) (w : World) (R : Nat → World → Prop) (Bad : List PanicEntry → World → Prop) (hn : n ≤ 1000) (h0 : R 0 w)
    (hs : ∀ i W, i < n → R i W → ∃ (f : FuncId) (caps : Array Value), W.cell? ⟨g, i, none⟩ = some (.func (.func f) #[] caps) ∧ (∀ (as' : Array Value) (W : World), (callFunc f as').run Try.prog W = .ok (.enter f as') W) ∧
      Calls Try.prog f (#[by'] ++ caps) W fun e w' => (e = .returned (.tuple #[]) ∧ R (i + 1) w') ∨ (∃ c, e = .panicked c ∧ Bad c w')) :
    Calls Try.prog 19 #[by', .slice (some ⟨g, 0, none⟩) n n] w fun e w' => (e = .returned (.tuple #[]) ∧ R n w') ∨ (∃ c, e = .panicked c ∧ Bad c w') := by
  have HS := Lib.hid hs
  have H0 := Lib.hid h0
  have HN := Lib.hid hn
  clear hs h0 hn
  go_enter Try.func19, Try.ntmps19
  go_wp2
  go_loopw [8] (fun c wr => ∃ i : Nat, i ≤ n ∧ c = .int .i64 i ∧ Hid (R i wr)) (fun c _ => n - (intOf c).toNat)
  case atStart => exact ⟨0, by omega, rfl, H0⟩
  case round =>
    obtain ⟨i, hi, rfl, HR⟩ := hrel
    by_cases hlt : i < n
    · obtain ⟨f, caps, hc, hf, hcall⟩ := HS.out i _ hlt HR.out
      have hi1 : (i : Int) < (n : Int) := by omega
      have e1 : IntKind.i64.wrap ((i : Int) + 1) = ((i + 1 : Nat) : Int) := IntWalk.i64_in _ (by have := HN.out; omega)
      have HC := Lib.hid hcall
      have HK : Hid (i + 1 ≤ n) := Lib.hid hlt
      have HQ : Hid (n - (i + 1) < n - i) := Lib.hid (by omega)
      clear hi hlt hcall HR
      go_wp2_with fail
      refine HC.out.mono ?_
      rintro e w1 (⟨rfl, hR⟩ | ⟨c, rfl, hB⟩)
      · have HR1 := Lib.hid hR
        clear hR
        go_wp2
        exact ⟨⟨i + 1, HK.out, rfl, HR1⟩, by simpa [intOf] using HQ.out⟩
      · exact ⟨rfl, .inr ⟨c, rfl, hB⟩⟩
    · have hi1 : ¬ (i : Int) < (n : Int) := by omega
      obtain rfl : i = n := by omega
      clear hi hlt
      go_wp2
      first | go_end0 | skip
      exact .inl ⟨rfl, HR.out⟩
end Go.Proofs.Ytpdnbjaamgfemaa
