/- A purse as the laws see it: where it lies (between B and T), and what it has; shown. -/
import Derived.Test.YtldcglmpnildiaaPuC
import Derived.Test.YtldcglmpnildiaaPuN
import Derived.Test.YtldcglmpnildiaaNum
namespace Go.Proofs.Ytldcglmpnildiaa
open Go.RowKit
set_option linter.unusedVariables false
set_option maxRecDepth 100000

section
variable {B T p : Nat} {s : Ps} {w : World}
theorem pu_move (h : Pu B T p s w) (a t : Int) (n : Nat) : Calls Try.prog 25 #[.pointer (some ⟨p, 0, none⟩), .int .i64 a, .int .i64 t, .int .u64 (n : Int)] w fun e w' =>
    e = .returned (.int .i64 (s.movE a t n)) ∧ Pu B T p (s.movS a t n) w' ∧ Fr (Btw B T) w w' := by
  obtain ⟨W, g, m, cap, h1, h2, h3, h4⟩ := h
  exact (move_any W h4 a t n).mono fun e w' k => ⟨k.1, ⟨(W.movS a t n).1, g, m, cap, h1, h2, h3, k.2.1⟩, k.2.2.btw h2 h3⟩
/-- What Balance, and Held, answer. -/
def Ps.balV (s : Ps) (a : Int) : Nat := if s.has a then s.bal a.toNat else 0
def Ps.heldV (s : Ps) (a : Int) : Nat := if s.has a then s.held a else 0
def Ps.noneE (s : Ps) (a : Int) : Int := if s.has a then 0 else 3
theorem pu_balance (h : Pu B T p s w) (a : Int) : Calls Try.prog 44 #[.pointer (some ⟨p, 0, none⟩), .int .i64 a] w fun e w' => e = .returned (.tuple #[.int .u64 (s.balV a : Int), .int .i64 (s.noneE a)]) ∧ Fr No w w' := by
  obtain ⟨W, g, m, cap, h1, h2, h3, h4⟩ := h
  exact (balance_any W h4 a).mono fun e w' k => ⟨k.1, by rw [k.2]; exact Fr.refl _ _⟩
theorem pu_lt (h : Pu B T p s w) : B < T := by
  obtain ⟨W, g, m, cap, h1, h2, h3, h4⟩ := h
  omega
theorem Ps.balV_nat (s : Ps) {k : Nat} (h : k < s.b.length) : s.balV (k : Int) = s.bal k ∧ s.noneE (k : Int) = 0 := by
  unfold Ps.balV Ps.noneE
  rw [Ps.has_of h, if_pos rfl, if_pos rfl, Int.toNat_natCast]
  exact ⟨rfl, rfl⟩
theorem Ps.heldV_nat (s : Ps) {k : Nat} (h : k < s.b.length) : s.heldV (k : Int) = s.held (k : Int) := by
  unfold Ps.heldV
  rw [Ps.has_of h, if_pos rfl]
end

theorem pu_new (ao : Option Addr) (n cap : Nat) (b : List Nat) (w : World) (hn : n = b.length) (hm : n ≤ maxLen) (hx : Nums w ao n (fun i => b.getD i 0)) (y : Bool) (hy : y = Ps.newOk b) : Calls Try.prog 22 #[.slice ao n cap] w fun e w' =>
    Fr No w w' ∧ if y then ∃ p, e = .returned (.pointer (some ⟨p, 0, none⟩)) ∧ Pu w.heap.size w'.heap.size p (Ps.newS b) w' else e = .returned (.pointer none) :=
  (new_any ao n cap b w hn hm hx).mono fun e w' h => by
    unfold NewP at h
    rw [hy]
    cases hb : Ps.newOk b with
    | false =>
      rw [hb] at h
      exact ⟨h.2, h.1⟩
    | true =>
      rw [hb] at h
      obtain ⟨p, g, m, cap, h1, h2, h3, h4, h5, h6⟩ := h
      exact ⟨h6, p, h1, Ps.Wf.new hb, g, m, cap, h2, h3, h4, h5⟩

theorem btw_no {B T : Nat} {w w0 w1 : World} (h : Fr No w w0) (k : Fr (Btw B T) w0 w1) (hB : w.heap.size ≤ B) : Fr No w w1 := h.trans' k (fun i hi e => by have := e.1; omega)

end Go.Proofs.Ytldcglmpnildiaa
