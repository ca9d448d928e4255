/- A purse as the laws see it: where it lies (between B and T), and what it has; shown. -/
import Derived.Test.YtnimeafaciegkaaPuC
import Derived.Test.YtnimeafaciegkaaPuN
namespace Go.Proofs.Ytnimeafaciegkaa
open Go.RowKit
set_option linter.unusedVariables false
set_option maxRecDepth 100000

section
variable {B T p : Nat} {s : Ps} {w : World}
theorem pu_reserve (h : Pu B T p s w) (a : Int) (n : Nat) : Calls Try.prog 10 #[.pointer (some ⟨p, 0, none⟩), .int .i64 a, .int .u64 (n : Int)] w fun e w' =>
    e = .returned (.tuple #[.int .i64 (s.resI a n : Int), .int .i64 (s.resE a n)]) ∧ Pu B T p (s.resS a n) w' ∧ Fr (Btw B T) w w' := by
  obtain ⟨W, g, m, cap, h1, h2, h3, h4⟩ := h
  exact (reserve_any W h4 a n).mono fun e w' k => ⟨k.1, ⟨(W.res a n).1, g, m, cap, h1, h2, h3, k.2.1⟩, k.2.2.btw h2 h3⟩
theorem pu_commit (h : Pu B T p s w) (i t : Int) (hw : (Lit.int .i64 i).wf = true) : Calls Try.prog 12 #[.pointer (some ⟨p, 0, none⟩), .int .i64 i, .int .i64 t] w fun e w' =>
    e = .returned (.int .i64 (s.comE i t)) ∧ Pu B T p (s.comS i t) w' ∧ Fr (Btw B T) w w' := by
  obtain ⟨W, g, m, cap, h1, h2, h3, h4⟩ := h
  exact (commit_any W h4 i t hw).mono fun e w' k => ⟨k.1, ⟨(W.com i t).1, g, m, cap, h1, h2, h3, k.2.1⟩, k.2.2.btw h2 h3⟩
theorem pu_release (h : Pu B T p s w) (i : Int) (hw : (Lit.int .i64 i).wf = true) : Calls Try.prog 14 #[.pointer (some ⟨p, 0, none⟩), .int .i64 i] w fun e w' =>
    e = .returned (.int .i64 (s.relE i)) ∧ Pu B T p (s.relS i) w' ∧ Fr (Btw B T) w w' := by
  obtain ⟨W, g, m, cap, h1, h2, h3, h4⟩ := h
  exact (release_any W h4 i hw).mono fun e w' k => ⟨k.1, ⟨(W.rel i).1, g, m, cap, h1, h2, h3, k.2.1⟩, k.2.2.btw h2 h3⟩
theorem pu_move (h : Pu B T p s w) (a t : Int) (n : Nat) : Calls Try.prog 16 #[.pointer (some ⟨p, 0, none⟩), .int .i64 a, .int .i64 t, .int .u64 (n : Int)] w fun e w' =>
    e = .returned (.int .i64 (s.movE a t n)) ∧ Pu B T p (s.movS a t n) w' ∧ Fr (Btw B T) w w' := by
  obtain ⟨W, g, m, cap, h1, h2, h3, h4⟩ := h
  exact (move_any W h4 a t n).mono fun e w' k => ⟨k.1, ⟨(W.movS a t n).1, g, m, cap, h1, h2, h3, k.2.1⟩, k.2.2.btw h2 h3⟩
theorem pu_total (h : Pu B T p s w) : Calls Try.prog 18 #[.pointer (some ⟨p, 0, none⟩)] w fun e w' => e = .returned (.int .u64 (s.total : Int)) ∧ Fr No w w' := by
  obtain ⟨W, g, m, cap, h1, h2, h3, h4⟩ := h
  exact total_any W h4
/-- What Balance, and Held, answer. -/
def Ps.balV (s : Ps) (a : Int) : Nat := if s.has a then s.bal a.toNat else 0
def Ps.heldV (s : Ps) (a : Int) : Nat := if s.has a then s.held a else 0
def Ps.noneE (s : Ps) (a : Int) : Int := if s.has a then 0 else 3
theorem pu_balance (h : Pu B T p s w) (a : Int) : Calls Try.prog 20 #[.pointer (some ⟨p, 0, none⟩), .int .i64 a] w fun e w' => e = .returned (.tuple #[.int .u64 (s.balV a : Int), .int .i64 (s.noneE a)]) ∧ Fr No w w' := by
  obtain ⟨W, g, m, cap, h1, h2, h3, h4⟩ := h
  exact (balance_any W h4 a).mono fun e w' k => ⟨k.1, by rw [k.2]; exact Fr.refl _ _⟩
theorem pu_held (h : Pu B T p s w) (a : Int) : Calls Try.prog 21 #[.pointer (some ⟨p, 0, none⟩), .int .i64 a] w fun e w' => e = .returned (.tuple #[.int .u64 (s.heldV a : Int), .int .i64 (s.noneE a)]) ∧ Fr No w w' := by
  obtain ⟨W, g, m, cap, h1, h2, h3, h4⟩ := h
  exact held_any W h4 a
theorem pu_lt (h : Pu B T p s w) : B < T := by
  obtain ⟨W, g, m, cap, h1, h2, h3, h4⟩ := h
  omega
theorem Ps.balV_nat (s : Ps) {k : Nat} (h : k < s.b.length) : s.balV (k : Int) = s.bal k ∧ s.noneE (k : Int) = 0 := by
  unfold Ps.balV Ps.noneE
  rw [Ps.has_of h, if_pos rfl, if_pos rfl, Int.toNat_natCast]
  exact ⟨rfl, rfl⟩
theorem Ps.heldV_nat (s : Ps) {k : Nat} (h : k < s.b.length) : s.heldV (k : Int) = s.held (k : Int) := by
  unfold Ps.heldV
  rw [Ps.has_of h, if_pos rfl]
end

theorem pu_new (ao : Option Addr) (n cap : Nat) (b : List Nat) (w : World) (hn : n = b.length) (hm : n ≤ maxLen) (hx : Nums w ao n (fun i => b.getD i 0)) (y : Bool) (hy : y = Ps.newOk b) : Calls Try.prog 8 #[.slice ao n cap] w fun e w' =>
    Fr No w w' ∧ if y then ∃ p, e = .returned (.pointer (some ⟨p, 0, none⟩)) ∧ Pu w.heap.size w'.heap.size p (Ps.newS b) w' else e = .returned (.pointer none) :=
  (new_any ao n cap b w hn hm hx).mono fun e w' h => by
    unfold NewP at h
    rw [hy]
    cases hb : Ps.newOk b with
    | false =>
      rw [hb] at h
      exact ⟨h.2, h.1⟩
    | true =>
      rw [hb] at h
      obtain ⟨p, g, m, cap, h1, h2, h3, h4, h5, h6⟩ := h
      exact ⟨h6, p, h1, Ps.Wf.new hb, g, m, cap, h2, h3, h4, h5⟩

/-- A slice of two numbers, laid by a law. -/
theorem nums_two (w : World) (x y : Nat) (hx : x < 1000) (hy : y < 1000) : Nums (w.alloc (.cells #[.int .u64 (x : Int), .int .u64 (y : Int)] 27)) (some ⟨w.heap.size, 0, none⟩) 2 (fun i => [x, y].getD i 0) := fun i hi => by
  have hb := Blk.new w 27 [.int .u64 (x : Int), .int .u64 (y : Int)]
  refine ⟨⟨w.heap.size, 0, none⟩, rfl, ?_, ?_⟩
  · rw [Addr.add_lit, Nat.zero_add]
    refine hb.cell ?_
    rcases Nat.lt_or_ge i 1 with h | h
    · obtain rfl : i = 0 := by omega
      rfl
    · obtain rfl : i = 1 := by omega
      rfl
  · rcases Nat.lt_or_ge i 1 with h | h
    · obtain rfl : i = 0 := by omega
      show x < _
      omega
    · obtain rfl : i = 1 := by omega
      show y < _
      omega

theorem btw_no {B T : Nat} {w w0 w1 : World} (h : Fr No w w0) (k : Fr (Btw B T) w0 w1) (hB : w.heap.size ≤ B) : Fr No w w1 := h.trans' k (fun i hi e => by have := e.1; omega)

set_option maxHeartbeats 2000000 in
theorem shown9_any (w : World) : Calls Try.prog 7 #[] w fun e w' => e = .returned (.bool true) ∧ Fr No w w' := by
  obtain ⟨w0, hw0⟩ : ∃ X, X = w.alloc (.cells #[.int .u64 ((5 : Nat) : Int), .int .u64 ((0 : Nat) : Int)] 27) := ⟨_, rfl⟩
  have HF0 : Hid (Fr No w w0) := Lib.hid (by rw [hw0]; exact (Fr.refl _ _).alloc _)
  have HN := Lib.hid (pu_new (some ⟨w.heap.size, 0, none⟩) 2 2 [5, 0] w0 rfl (by unfold maxLen; omega) (by rw [hw0]; exact nums_two w 5 0 (by omega) (by omega)) true (by decide))
  have hw0' : w.alloc (.cells #[.int .u64 5, .int .u64 0] 27) = w0 := hw0.symm
  clear hw0
  go_enter Try.func7, Try.ntmps7
  go_wp2_with fail
  refine HN.out.mono ?_
  rintro e w1 ⟨hF1, p, rfl, hP1⟩
  have HF1 := Lib.hid (HF0.out.trans hF1)
  have HB : Hid (w.heap.size ≤ w0.heap.size) := Lib.hid HF0.out.size
  have HP1 := Lib.hid hP1
  have HR := Lib.hid (fun X (hX : Pu w0.heap.size w1.heap.size p (Ps.newS [5, 0]) X) => pu_reserve hX 0 3)
  obtain ⟨s1, hs1⟩ : ∃ t, t = (Ps.newS [5, 0]).resS 0 3 := ⟨_, rfl⟩
  have e1 : (Ps.newS [5, 0]).resE 0 3 = 0 := by decide
  have e2 : (Ps.newS [5, 0]).resI 0 3 = 0 := by decide
  rw [e1, e2, ← hs1] at HR
  have HC := Lib.hid (fun X (hX : Pu w0.heap.size w1.heap.size p s1 X) => pu_commit hX 0 1 (by decide))
  obtain ⟨s2, hs2⟩ : ∃ t, t = s1.comS 0 1 := ⟨_, rfl⟩
  have e3 : s1.comE 0 1 = 0 := by rw [hs1]; decide
  rw [e3, ← hs2] at HC
  have HB0 := Lib.hid (fun X (hX : Pu w0.heap.size w1.heap.size p s2 X) => pu_balance hX 0)
  have HB1 := Lib.hid (fun X (hX : Pu w0.heap.size w1.heap.size p s2 X) => pu_balance hX 1)
  rw [show s2.balV 0 = 2 by rw [hs2, hs1]; decide, show s2.noneE 0 = 0 by rw [hs2, hs1]; decide] at HB0
  rw [show s2.balV 1 = 3 by rw [hs2, hs1]; decide, show s2.noneE 1 = 0 by rw [hs2, hs1]; decide] at HB1
  clear hF1 hP1 hs1 hs2 e1 e2 e3 HN
  go_wp2_with fail
  refine (HR.out _ HP1.out).mono ?_
  rintro e w2 ⟨rfl, hP2, hF2⟩
  have HP2 := Lib.hid hP2
  have HF2 := Lib.hid (btw_no HF1.out hF2 HB.out)
  clear hP2 hF2
  go_wp2_with fail
  refine (HC.out _ HP2.out).mono ?_
  rintro e w3 ⟨rfl, hP3, hF3⟩
  have HP3 := Lib.hid hP3
  have HF3 := Lib.hid (btw_no HF2.out hF3 HB.out)
  clear hP3 hF3
  go_wp2_with fail
  refine (HB0.out _ HP3.out).mono ?_
  rintro e w4 ⟨rfl, hF4⟩
  have HP4 := Lib.hid (HP3.out.no hF4)
  have HF4 := Lib.hid (HF3.out.trans hF4)
  clear hF4
  go_wp2_with fail
  refine (HB1.out _ HP4.out).mono ?_
  rintro e w5 ⟨rfl, hF5⟩
  have HF5 := Lib.hid (HF4.out.trans hF5)
  clear hF5
  go_wp2
  go_ret
  exact ⟨rfl, HF5.out⟩
end Go.Proofs.Ytnimeafaciegkaa
