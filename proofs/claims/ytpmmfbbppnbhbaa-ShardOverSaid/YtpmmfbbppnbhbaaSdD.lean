/- What a bank tells: find, balance, has; result, told, holder, done. -/
import Derived.Test.YtpmmfbbppnbhbaaSdC
namespace Go.Proofs.Ytpmmfbbppnbhbaa
open Go.RowKit
set_option linter.unusedVariables false
set_option maxRecDepth 100000

section
variable {O I : Nat → Prop} {w : World} {p : Nat} {s : Bs} {td : Nat → List Sp} {B T r : Nat} {q : Nat → Nat} {tv dv : Value}
/-- What find tells. -/
def Bs.findV (s : Bs) (q : Nat → Nat) (i : Int) : Value := if s.isIn i then .pointer (some ⟨q i.toNat, 0, none⟩) else .pointer none
set_option maxHeartbeats 1000000 in
theorem find10_any (h : BkAt O p s td w B T r q tv dv I) (i : Int) : Calls Try.prog 37 #[.pointer (some ⟨p, 0, none⟩), .int .i64 i] w fun e w' => e = .returned (.tuple #[s.findV q i, .bool (s.isIn i)]) ∧ w = w' := by
  have c5 := h.blk.cell (i := 5) (v := tv) rfl
  obtain ⟨a, c, htv, hc⟩ := h.slice
  rw [htv] at c5
  obtain ⟨n, hn⟩ : ∃ n, n = s.t.length := ⟨_, rfl⟩
  have HV : Hid (s.isIn i = decide (0 ≤ i ∧ i < n)) := Lib.hid (by rw [hn]; rfl)
  rw [← hn] at c5 hc
  clear h htv hn
  by_cases h0 : i < 0
  · have t0 : decide (i < 0) = true := decide_eq_true h0
    have HZ : Hid (s.isIn i = false) := Lib.hid (by rw [HV.out]; exact decide_eq_false (by omega))
    have HW : Hid (s.findV q i = .pointer none) := Lib.hid (by unfold Bs.findV; rw [HZ.out]; rfl)
    clear HV hc
    go_enter Try.func37, Try.ntmps37
    go_wp2
    go_ret2
    exact ⟨by rw [HZ.out, HW.out]; rfl, rfl⟩
  · have t0 : decide (i < 0) = false := decide_eq_false h0
    by_cases h1 : (n : Int) ≤ i
    · have t1 : decide ((n : Int) ≤ i) = true := decide_eq_true h1
      have HZ : Hid (s.isIn i = false) := Lib.hid (by rw [HV.out]; exact decide_eq_false (by omega))
      have HW : Hid (s.findV q i = .pointer none) := Lib.hid (by unfold Bs.findV; rw [HZ.out]; rfl)
      clear HV hc
      go_enter Try.func37, Try.ntmps37
      go_wp2
      go_ret2
      exact ⟨by rw [HZ.out, HW.out]; rfl, rfl⟩
    · obtain ⟨k, rfl⟩ : ∃ k : Nat, i = (k : Int) := ⟨i.toNat, by omega⟩
      have hk : k < n := by omega
      obtain ⟨g, rfl, _, hcell⟩ := hc k hk
      have t1 : decide ((n : Int) ≤ (k : Int)) = false := decide_eq_false h1
      have t1' : decide (n ≤ k) = false := decide_eq_false (by omega)
      have t2 : k < n := hk
      have HZ : Hid (s.isIn (k : Int) = true) := Lib.hid (by rw [HV.out]; exact decide_eq_true (by omega))
      have HW : Hid (s.findV q (k : Int) = .pointer (some ⟨q k, 0, none⟩)) := Lib.hid (by unfold Bs.findV; rw [HZ.out, Int.toNat_natCast]; rfl)
      obtain ⟨qk, hqk⟩ : ∃ x, x = q k := ⟨_, rfl⟩
      have hcell' : w.cell? ⟨g, k, none⟩ = some (.pointer (some ⟨qk, 0, none⟩)) := by rw [hqk]; exact hcell
      rw [← hqk] at HW
      clear HV hc hcell hqk
      go_enter Try.func37, Try.ntmps37
      go_wp2
      go_ret2
      exact ⟨by rw [HZ.out, HW.out]; rfl, rfl⟩

set_option maxHeartbeats 1000000 in
theorem balance10_any (h : BkAt O p s td w B T r q tv dv I) (a : Int) : Calls Try.prog 40 #[.pointer (some ⟨p, 0, none⟩), .int .i64 a] w fun e w' => e = .returned (.tuple #[.int .u64 (s.p.balV a : Int), .bool (s.p.has a)]) ∧ Fr No w w' := by
  have c0 := h.blk.cell (i := 0) (v := at_ r 0) rfl
  have HB := Lib.hid (pu_balance h.pu a)
  obtain ⟨b, hb⟩ : ∃ b, b = s.p.balV a := ⟨_, rfl⟩
  obtain ⟨y, hy⟩ : ∃ y, y = s.p.has a := ⟨_, rfl⟩
  obtain ⟨e, he⟩ : ∃ e, e = s.p.noneE a := ⟨_, rfl⟩
  have te : (e == 0) = y := by rw [he, hy]; unfold Ps.noneE; cases s.p.has a <;> rfl
  rw [← hb, ← he] at HB
  rw [← hb, ← hy]
  simp only [at_] at c0
  clear h hb hy he
  go_enter Try.func40, Try.ntmps40
  go_wp2_with fail
  refine HB.out.mono ?_
  rintro x w1 ⟨rfl, hF⟩
  have HF := Lib.hid hF
  clear hF
  go_wp2
  go_ret2
  exact ⟨rfl, HF.out⟩

set_option maxHeartbeats 1000000 in
theorem has10_any (h : BkAt O p s td w B T r q tv dv I) (a : Int) : Calls Try.prog 30 #[.pointer (some ⟨p, 0, none⟩), .int .i64 a] w fun e w' => e = .returned (.bool (s.p.has a)) ∧ Fr No w w' := by
  have HB := Lib.hid (balance10_any h a)
  obtain ⟨b, hb⟩ : ∃ b, b = s.p.balV a := ⟨_, rfl⟩
  obtain ⟨y, hy⟩ : ∃ y, y = s.p.has a := ⟨_, rfl⟩
  rw [← hb, ← hy] at HB
  rw [← hy]
  clear h hb hy
  go_enter Try.func30, Try.ntmps30
  go_wp2_with fail
  refine HB.out.mono ?_
  rintro x w1 ⟨rfl, hF⟩
  have HF := Lib.hid hF
  clear hF
  go_wp2
  go_ret
  exact ⟨rfl, HF.out⟩

set_option maxHeartbeats 1000000 in
theorem result10_any (h : BkAt O p s td w B T r q tv dv I) (hf : ∀ i, (s.tk i).acted = false → (s.tk i).e = 0) (i : Int) : Calls Try.prog 22 #[.pointer (some ⟨p, 0, none⟩), .int .i64 i] w fun e w' => e = .returned (.tuple #[.int .i64 (s.resV i), .bool (s.actV i)]) ∧ Fr No w w' := by
  have HB := Lib.hid (find10_any h i)
  cases hi : s.isIn i with
  | false =>
    have e1 : s.findV q i = .pointer none := by unfold Bs.findV; rw [hi]; rfl
    have e2 : s.resV i = 0 := by unfold Bs.resV; rw [hi]; rfl
    have e3 : s.actV i = false := by unfold Bs.actV; rw [hi]; rfl
    rw [e1, hi] at HB
    rw [e2, e3]
    clear h hf hi e1 e2 e3
    go_enter Try.func22, Try.ntmps22
    go_wp2_with fail
    refine HB.out.mono ?_
    rintro x w1 ⟨rfl, rfl⟩
    go_wp2
    go_ret2
    exact ⟨rfl, Fr.refl _ _⟩
  | true =>
    have hi' := hi
    unfold Bs.isIn at hi'
    rw [decide_eq_true_eq] at hi'
    obtain ⟨k, rfl⟩ : ∃ k : Nat, i = (k : Int) := ⟨i.toNat, by omega⟩
    obtain ⟨d, st, to, hb⟩ := h.qBlk (i := k) (by omega)
    have e1 : s.findV q (k : Int) = .pointer (some ⟨q k, 0, none⟩) := by unfold Bs.findV; rw [hi, Int.toNat_natCast]; rfl
    have e2 : s.resV (k : Int) = (s.tk k).e := by unfold Bs.resV; rw [hi, Int.toNat_natCast]; rfl
    have e3 : s.actV (k : Int) = (s.tk k).acted := by unfold Bs.actV; rw [hi, Int.toNat_natCast]; rfl
    rw [e1, hi] at HB
    rw [e2, e3]
    have c4 := hb.cell (i := 4) (v := .bool (s.tk k).acted) rfl
    have c5 := hb.cell (i := 5) (v := .int .i64 (s.tk k).e) rfl
    have h0 := hf k
    obtain ⟨ac, hac⟩ : ∃ x, x = (s.tk k).acted := ⟨_, rfl⟩
    obtain ⟨er, her⟩ : ∃ x, x = (s.tk k).e := ⟨_, rfl⟩
    obtain ⟨qk, hqk⟩ : ∃ x, x = q k := ⟨_, rfl⟩
    rw [← hac, ← her] at h0
    rw [← hac, ← hqk] at c4
    rw [← her, ← hqk] at c5
    rw [← hqk] at HB
    rw [← hac, ← her]
    clear h hf hi hi' e1 e2 e3 hb hac her hqk
    cases ac with
    | false =>
      obtain rfl : er = 0 := h0 rfl
      clear h0
      go_enter Try.func22, Try.ntmps22
      go_wp2_with fail
      refine HB.out.mono ?_
      rintro x w1 ⟨rfl, rfl⟩
      go_wp2
      go_ret2
      exact ⟨rfl, Fr.refl _ _⟩
    | true =>
      clear h0
      go_enter Try.func22, Try.ntmps22
      go_wp2_with fail
      refine HB.out.mono ?_
      rintro x w1 ⟨rfl, rfl⟩
      go_wp2
      go_ret2
      exact ⟨rfl, Fr.refl _ _⟩

set_option maxHeartbeats 1000000 in
theorem clone64_nil (w : World) : Calls Try.prog 39 #[.slice none 0 0] w fun e w' => e = .returned (.slice none 0 0) ∧ w = w' := by
  have q : ∀ (w : World) (a : Option Addr) (n c n' c' : Nat), (binOp .eql 22 (.slice a n c) (.slice none n' c')).run Try.prog w = .ok (.bool a.isNone) w := fun w a n c n' c' => Lib.run_eql_slice_nil w _ _ a n c n' c' Try.underlying22
  go_enter Try.func39, Try.ntmps39
  go_wp2
  go_ret
  exact ⟨rfl, rfl⟩
theorem told_clone {l : List Nat} {v : Value} (h : Told I w l v) : Calls Try.prog 39 #[v] w fun e w' => ∃ v', e = .returned v' ∧ OutN l v' w' ∧ Fr No w w' := by
  rcases h with ⟨rfl, rfl⟩ | ⟨g, c, rfl, hI, h1, h2, hn⟩
  · exact (clone64_nil w).mono fun e w' k => ⟨_, k.1, ⟨none, 0, rfl, fun i hi => by simp at hi⟩, k.2 ▸ Fr.refl _ _⟩
  · exact (clone64_any (some ⟨g, 0, none⟩) l.length c l w rfl h1 h2 hn).mono fun e w' k => by
      obtain ⟨g2, c2, he, _, _, hr, hF⟩ := k
      refine ⟨_, he, ⟨_, _, rfl, fun i hi => ?_⟩, hF⟩
      obtain ⟨a, _, _, hb⟩ := hn i hi
      exact ⟨_, rfl, by rw [Addr.add_lit, Nat.zero_add]; exact (hr i hi).1, hb⟩

set_option maxHeartbeats 1000000 in
theorem told10_any (h : BkAt O p s td w B T r q tv dv I) (i : Int) : Calls Try.prog 24 #[.pointer (some ⟨p, 0, none⟩), .int .i64 i] w fun e w' => ∃ v, e = .returned v ∧ OutN (s.toldV i) v w' ∧ Fr No w w' := by
  have HB := Lib.hid (find10_any h i)
  cases hi : s.isIn i with
  | false =>
    have e1 : s.findV q i = .pointer none := by unfold Bs.findV; rw [hi]; rfl
    have e2 : s.toldV i = [] := by unfold Bs.toldV; rw [hi]; rfl
    rw [e1, hi] at HB
    rw [e2]
    clear h hi e1 e2
    go_enter Try.func24, Try.ntmps24
    go_wp2_with fail
    refine HB.out.mono ?_
    rintro x w1 ⟨rfl, rfl⟩
    go_wp2
    go_ret
    exact ⟨_, rfl, ⟨none, 0, rfl, fun i hi => by simp at hi⟩, Fr.refl _ _⟩
  | true =>
    have hi' := hi
    unfold Bs.isIn at hi'
    rw [decide_eq_true_eq] at hi'
    obtain ⟨k, rfl⟩ : ∃ k : Nat, i = (k : Int) := ⟨i.toNat, by omega⟩
    obtain ⟨d, st, to, hb, _, _, hto⟩ := h.task k (by omega)
    have e1 : s.findV q (k : Int) = .pointer (some ⟨q k, 0, none⟩) := by unfold Bs.findV; rw [hi, Int.toNat_natCast]; rfl
    have e2 : s.toldV (k : Int) = (s.tk k).told := by unfold Bs.toldV; rw [hi, Int.toNat_natCast]; rfl
    rw [e1, hi] at HB
    rw [e2]
    have c6 := hb.cell (i := 6) (v := to) rfl
    have HC := Lib.hid (told_clone hto)
    obtain ⟨l, hl⟩ : ∃ x, x = (s.tk k).told := ⟨_, rfl⟩
    obtain ⟨qk, hqk⟩ : ∃ x, x = q k := ⟨_, rfl⟩
    rw [← hqk] at c6
    rw [← hqk] at HB
    rw [← hl] at HC
    rw [← hl]
    clear h hi hi' e1 e2 hb hqk hto hl
    go_enter Try.func24, Try.ntmps24
    go_wp2_with fail
    refine HB.out.mono ?_
    rintro x w1 ⟨rfl, rfl⟩
    go_wp2_with fail
    refine HC.out.mono ?_
    rintro x w1 ⟨v', rfl, h1, h2⟩
    have H1 := Lib.hid h1
    have H2 := Lib.hid h2
    clear h1 h2
    go_wp2
    go_ret
    exact ⟨_, rfl, H1.out, H2.out⟩

theorem BkAt.lockCell (h : BkAt O p s td w B T r q tv dv I) {k : Nat} (hk : k < 4) : w.cell? ⟨p, 1 + k, none⟩ = some (hp q (s.hold k)) := by
  have hc : k = 0 ∨ k = 1 ∨ k = 2 ∨ k = 3 := by omega
  rcases hc with rfl | rfl | rfl | rfl <;> exact h.blk.cell rfl
set_option maxHeartbeats 1000000 in
theorem holder10_any (V : s.Inv) (h : BkAt O p s td w B T r q tv dv I) (k : Int) : Calls Try.prog 21 #[.pointer (some ⟨p, 0, none⟩), .int .i64 k] w fun e w' => e = .returned (.int .i64 (s.holdV k)) ∧ w = w' := by
  by_cases h0 : k < 0
  · have t0 : decide (k < 0) = true := decide_eq_true h0
    have e1 : s.holdV k = -1 := by unfold Bs.holdV; rw [if_neg (by omega)]
    rw [e1]
    clear h e1 h0
    go_enter Try.func21, Try.ntmps21
    go_wp2
    go_ret
    exact ⟨rfl, rfl⟩
  · have t0 : decide (k < 0) = false := decide_eq_false h0
    by_cases h1 : 4 ≤ k
    · have t1 : decide (4 ≤ k) = true := decide_eq_true h1
      have e1 : s.holdV k = -1 := by unfold Bs.holdV; rw [if_neg (by omega)]
      rw [e1]
      clear h e1 h0 h1
      go_enter Try.func21, Try.ntmps21
      go_wp2
      go_ret
      exact ⟨rfl, rfl⟩
    · obtain ⟨j, rfl⟩ : ∃ j : Nat, k = (j : Int) := ⟨k.toNat, by omega⟩
      have hj : j < 4 := by omega
      have e1 : s.holdV (j : Int) = s.hold j := by unfold Bs.holdV; rw [if_pos (by omega), Int.toNat_natCast]
      have t1 : decide (4 ≤ (j : Int)) = false := decide_eq_false h1
      have t1' : decide (4 ≤ j) = false := decide_eq_false (by omega)
      have t2 : j < 4 := hj
      have hc := h.lockCell hj
      rw [e1]
      by_cases h2 : 0 ≤ s.hold j
      · have hn : (s.hold j).toNat < s.t.length := (V.who j hj h2).1
        obtain ⟨d, st, to, hb⟩ := h.qBlk hn
        have c1 := hb.cell (i := 1) (v := .int .i64 ((s.hold j).toNat : Int)) rfl
        rw [hp, if_pos h2] at hc
        obtain ⟨qk, hqk⟩ : ∃ x, x = q (s.hold j).toNat := ⟨_, rfl⟩
        obtain ⟨x, hx⟩ : ∃ x, x = s.hold j := ⟨_, rfl⟩
        have e2 : ((s.hold j).toNat : Int) = x := by omega
        rw [e2, ← hqk] at c1
        rw [← hqk] at hc
        rw [← hx]
        simp only [at_] at hc
        clear h e1 h0 h1 V hb hqk hx e2 hn h2 hj
        go_enter Try.func21, Try.ntmps21
        go_wp2
        go_ret
        exact ⟨rfl, rfl⟩
      · rw [hp, if_neg h2] at hc
        have e2 : s.hold j = -1 := by have := V.lo j hj; omega
        rw [e2]
        clear h e1 h0 h1 V h2 hj e2
        go_enter Try.func21, Try.ntmps21
        go_wp2
        go_ret
        exact ⟨rfl, rfl⟩
end
end Go.Proofs.Ytpmmfbbppnbhbaa
