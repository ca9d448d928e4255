/- A purse's functions, the small ones: the least number, what is taken, a balance. -/
import Derived.Test.YtldcglmpnildiaaPuS
namespace Go.Proofs.Ytldcglmpnildiaa
open Go.RowKit Go.Maps
set_option linter.unusedVariables false
set_option maxRecDepth 100000

theorem wf_small {k : Nat} (h : k ≤ 1000) : (Lit.int .i64 (k : Int)).wf = true := by
  simp [Lit.wf, IntKind.min, IntKind.max, IntKind.signed, IntKind.bits]
  omega
theorem look_nat {s : Ps} (W : s.Wf) {k : Nat} (hk : k < 32) : s.there (k : Int) = decide (0 < (s.hold k).2) ∧ s.look (k : Int) = s.hold k := by
  by_cases h : 0 < (s.hold k).2
  · rw [decide_eq_true h]
    refine ⟨Ps.there_of hk h, ?_⟩
    unfold Ps.look
    rw [Ps.there_of hk h]
    rfl
  · have e : s.there (k : Int) = false := by
      unfold Ps.there
      rw [decide_eq_false]
      intro hh
      exact h (by simpa using hh.2.2)
    rw [decide_eq_false h]
    refine ⟨e, ?_⟩
    unfold Ps.look
    rw [e]
    have h1 := W.zero k hk (by omega)
    rw [if_neg (by simp)]
    apply Prod.ext
    · exact h1.symm
    · show 0 = _
      omega

set_option maxHeartbeats 1000000 in
theorem take_few {p g m cap : Nat} {s : Ps} {w : World} (W : s.Wf) (h : PuAt p g m cap s w) (k n : Nat) (hk : k < s.b.length) (hn : s.bal k < n) : Calls Try.prog 38 #[.pointer (some ⟨p, 0, none⟩), .int .i64 (k : Int), .int .u64 (n : Int)] w fun e w' => e = .returned (.int .i64 61) ∧ Fr No w w' := by
  have c0 := h.cell0
  have c1 := (h.row k hk).1
  obtain ⟨x, hx⟩ : ∃ x, x = s.bal k := ⟨_, rfl⟩
  have hx64 : x < 18446744073709551616 := by have := Ps.bal_le hk; have := W.top; omega
  have HC := Lib.hid (fun X => sub_any x n X hx64)
  have e1 : subE x n = 61 := if_pos (by omega)
  have e2 : subV x n = 0 := if_pos (by omega)
  rw [e1, e2] at HC
  rw [show s.b.getD k 0 = x from hx.symm] at c1
  obtain ⟨L, hL⟩ : ∃ L, L = s.b.length := ⟨_, rfl⟩
  rw [← hL] at c0 hk
  have t1 : (k : Int) < (L : Int) := by omega
  clear h hx hn hL e1 e2 hx64 W
  go_enter Try.func38, Try.ntmps38
  go_wp2_with fail
  refine (HC.out _).mono ?_
  rintro e w1 ⟨rfl, hF1⟩
  have HF1 := Lib.hid hF1
  clear hF1 c0 c1
  go_wp2
  go_ret
  exact ⟨rfl, HF1.out⟩

set_option maxHeartbeats 1000000 in
theorem take_any {p g m cap : Nat} {s : Ps} {w : World} (W : s.Wf) (h : PuAt p g m cap s w) (k n : Nat) (hk : k < s.b.length) (hn : n ≤ s.bal k) : Calls Try.prog 38 #[.pointer (some ⟨p, 0, none⟩), .int .i64 (k : Int), .int .u64 (n : Int)] w fun e w' => e = .returned (.int .i64 0) ∧ PuAt p g m cap (s.less k n) w' ∧ Fr (· = g) w w' := by
  have HA := Lib.hid h
  have HK := Lib.hid hk
  have c0 := h.cell0
  have c1 := (h.row k hk).1
  obtain ⟨x, hx⟩ : ∃ x, x = s.bal k := ⟨_, rfl⟩
  have hx64 : x < 18446744073709551616 := by have := Ps.bal_le hk; have := W.top; omega
  have HC := Lib.hid (fun X => sub_any x n X hx64)
  have e1 : subE x n = 0 := if_neg (by omega)
  have e2 : subV x n = x - n := if_neg (by omega)
  rw [e1, e2] at HC
  rw [show s.b.getD k 0 = x from hx.symm] at c1
  obtain ⟨v, hv⟩ : ∃ v, v = x - n := ⟨_, rfl⟩
  have HV : Hid (s.less k n = ⟨s.b.set k v, s.h⟩) := Lib.hid (by rw [hv, hx]; rfl)
  rw [← hv] at HC
  obtain ⟨L, hL⟩ : ∃ L, L = s.b.length := ⟨_, rfl⟩
  have HL := Lib.hid hL
  rw [← hL] at c0 hk
  have t1 : (k : Int) < (L : Int) := by omega
  clear h hx hn hL e1 e2 hx64 W hv
  go_enter Try.func38, Try.ntmps38
  go_wp2_with fail
  refine (HC.out _).mono ?_
  rintro e w1 ⟨rfl, hF1⟩
  have HF1 := Lib.hid hF1
  have HA1 := Lib.hid (HA.out.no hF1)
  clear hF1 c0 c1
  have c0 := HA1.out.cell0
  have c1 := (HA1.out.row k HK.out).1
  have f1 := (HA1.out.row k HK.out).2
  rw [← HL.out] at c0
  go_wp2
  go_ret
  refine ⟨rfl, ?_, Fr.setCell (S := (· = g)) (p := ⟨g, k, none⟩) (HF1.out.mono (fun _ _ e => e.elim)) (.inl rfl) _⟩
  rw [HV.out]
  exact HA1.out.setB HK.out v

set_option maxHeartbeats 1000000 in
theorem balance_any {p g m cap : Nat} {s : Ps} {w : World} (W : s.Wf) (h : PuAt p g m cap s w) (a : Int) : Calls Try.prog 44 #[.pointer (some ⟨p, 0, none⟩), .int .i64 a] w fun e w' =>
    e = .returned (.tuple #[.int .u64 ((if s.has a then s.bal a.toNat else 0 : Nat) : Int), .int .i64 (if s.has a then 0 else 3)]) ∧ w' = w := by
  have HC := Lib.hid (has_any h W.b2 a)
  obtain ⟨y, hy⟩ : ∃ y, y = s.has a := ⟨_, rfl⟩
  rw [← hy] at HC ⊢
  cases y with
  | false =>
    clear h W hy
    go_enter Try.func44, Try.ntmps44
    go_wp2_with fail
    refine HC.out.mono ?_
    rintro e w1 ⟨rfl, rfl⟩
    go_wp2
    go_ret2
    exact ⟨rfl, rfl⟩
  | true =>
    obtain ⟨k, rfl, hk⟩ := Ps.has_nat hy.symm
    have c0 := h.cell0
    have c1 := (h.row k hk).1
    rw [show s.b.getD k 0 = s.bal k from rfl] at c1
    rw [Int.toNat_natCast]
    obtain ⟨x, hx⟩ : ∃ x, x = s.bal k := ⟨_, rfl⟩
    obtain ⟨L, hL⟩ : ∃ L, L = s.b.length := ⟨_, rfl⟩
    rw [← hL] at c0 hk
    rw [← hx] at c1 ⊢
    have t1 : (k : Int) < (L : Int) := by omega
    clear h W hy hx hL
    go_enter Try.func44, Try.ntmps44
    go_wp2_with fail
    refine HC.out.mono ?_
    rintro e w1 ⟨rfl, rfl⟩
    go_wp2
    go_ret2
    exact ⟨rfl, rfl⟩
end Go.Proofs.Ytldcglmpnildiaa
