/- A purse's functions: Reserve, Commit, Release, Move. -/
import Derived.Test.YtnimeafaciegkaaPuP
namespace Go.Proofs.Ytnimeafaciegkaa
open Go.RowKit Go.Maps
set_option linter.unusedVariables false
set_option maxRecDepth 100000

theorem PuAt.putH {p g m cap : Nat} {s : Ps} {w w' : World} {D : DataW Unit} (h : PuAt p g m cap s w) (k : Nat) (x : Nat × Nat) (hl : s.h.length = 32) (hk : k < 32) (hm : PM w' m (fun i => if i = k then x else s.hold i)) (hF : Fr (· = m) w w') : PuAt p g m cap ⟨s.b, s.h.set k x⟩ w' :=
  ⟨h.pg, h.pm, h.gm, h.blk.fr hF h.pm, h.row.fr hF h.gm, hm.congr fun i hi => Ps.hold_set s x s.b (by omega) i⟩

/-- What Reserve, Commit, Release and Move come to. -/
def Act9 (p g m cap : Nat) (w : World) (e : Ending) (E : Int) (s' : Ps) (w' : World) : Prop := e = .returned (.int .i64 E) ∧ PuAt p g m cap s' w' ∧ Fr (PS g m) w w'

theorem ps_g {g m : Nat} {w w' : World} (h : Fr (· = g) w w') : Fr (PS g m) w w' := h.mono fun _ _ e => .inl e
theorem ps_m {g m : Nat} {w w' : World} (h : Fr (· = m) w w') : Fr (PS g m) w w' := h.mono fun _ _ e => .inr e
theorem ps_no {g m : Nat} {w w' : World} (h : Fr No w w') : Fr (PS g m) w w' := h.mono fun _ _ e => e.elim

set_option maxHeartbeats 2000000 in
theorem reserve_any {p g m cap : Nat} {s : Ps} {w : World} (W : s.Wf) (h : PuAt p g m cap s w) (a : Int) (n : Nat) : Calls Try.prog 10 #[.pointer (some ⟨p, 0, none⟩), .int .i64 a, .int .u64 (n : Int)] w fun e w' =>
    e = .returned (.tuple #[.int .i64 (s.resI a n : Int), .int .i64 (s.resE a n)]) ∧ PuAt p g m cap (s.resS a n) w' ∧ Fr (PS g m) w w' := by
  have HC := Lib.hid (has_any h W.b2 a)
  have HA := Lib.hid h
  have HW := Lib.hid W
  obtain ⟨y, hy⟩ : ∃ y, y = s.has a := ⟨_, rfl⟩
  rw [← hy] at HC
  cases y with
  | false =>
    have e1 : s.resE a n = 3 := if_pos hy.symm
    have e2 : s.resI a n = 0 := if_neg (by rw [e1]; omega)
    have e3 : s.resS a n = s := if_neg (by rw [e1]; omega)
    rw [e1, e2, e3]
    clear h W hy e1 e2 e3
    go_enter Try.func10, Try.ntmps10
    go_wp2_with fail
    refine HC.out.mono ?_
    rintro e w1 ⟨rfl, rfl⟩
    go_wp2
    go_ret2
    exact ⟨rfl, HA.out, Fr.refl _ _⟩
  | true =>
    obtain ⟨k, rfl, hk⟩ := Ps.has_nat hy.symm
    by_cases h0 : n = 0
    · have e1 : s.resE (k : Int) n = 1 := by unfold Ps.resE; rw [if_neg (by rw [← hy]; simp), if_pos h0]
      have e2 : s.resI (k : Int) n = 0 := if_neg (by rw [e1]; omega)
      have e3 : s.resS (k : Int) n = s := if_neg (by rw [e1]; omega)
      rw [e1, e2, e3]
      have t0 : ((n : Int) == 0) = true := by rw [h0]; rfl
      clear h W hy e1 e2 e3 h0
      go_enter Try.func10, Try.ntmps10
      go_wp2_with fail
      refine HC.out.mono ?_
      rintro e w1 ⟨rfl, rfl⟩
      go_wp2
      go_ret2
      exact ⟨rfl, HA.out, Fr.refl _ _⟩
    · have t0 : ((n : Int) == 0) = false := by rw [beq_eq_false_iff_ne]; omega
      obtain ⟨F, hF⟩ : ∃ F, F = s.free := ⟨_, rfl⟩
      have HD := Lib.hid (fun X (hX : PuAt p g m cap s X) => free_any W hX F hF)
      by_cases h1 : F = 32
      · have e1 : s.resE (k : Int) n = 2 := by unfold Ps.resE; rw [if_neg (by rw [← hy]; simp), if_neg h0, if_pos (by omega)]
        have e2 : s.resI (k : Int) n = 0 := if_neg (by rw [e1]; omega)
        have e3 : s.resS (k : Int) n = s := if_neg (by rw [e1]; omega)
        rw [e1, e2, e3]
        rw [if_pos h1, decide_eq_false (by simpa using h1)] at HD
        clear h W hy e1 e2 e3 h0 hF h1
        go_enter Try.func10, Try.ntmps10
        go_wp2_with fail
        refine HC.out.mono ?_
        rintro e w1 ⟨rfl, rfl⟩
        go_wp2_with fail
        refine (HD.out _ HA.out).mono ?_
        rintro e w2 ⟨rfl, hF2⟩
        have HF2 := Lib.hid hF2
        clear hF2
        go_wp2
        go_ret2
        exact ⟨rfl, HA.out.no HF2.out, ps_no HF2.out⟩
      · have hF32 : F < 32 := by have := Ps.free_le W.hl; omega
        rw [if_neg h1, decide_eq_true h1] at HD
        by_cases h2 : s.bal k < n
        · have e1 : s.resE (k : Int) n = 61 := by unfold Ps.resE; rw [if_neg (by rw [← hy]; simp), if_neg h0, if_neg (by omega), if_pos (by simpa using h2)]
          have e2 : s.resI (k : Int) n = 0 := if_neg (by rw [e1]; omega)
          have e3 : s.resS (k : Int) n = s := if_neg (by rw [e1]; omega)
          rw [e1, e2, e3]
          have HT := Lib.hid (fun X (hX : PuAt p g m cap s X) => take_few W hX k n hk h2)
          clear h W hy e1 e2 e3 h0 hF h1 hF32 h2 hk
          go_enter Try.func10, Try.ntmps10
          go_wp2_with fail
          refine HC.out.mono ?_
          rintro e w1 ⟨rfl, rfl⟩
          go_wp2_with fail
          refine (HD.out _ HA.out).mono ?_
          rintro e w2 ⟨rfl, hF2⟩
          have HF2 := Lib.hid hF2
          clear hF2
          go_wp2_with fail
          refine (HT.out _ (HA.out.no HF2.out)).mono ?_
          rintro e w3 ⟨rfl, hF3⟩
          have HF3 := Lib.hid (HF2.out.trans hF3)
          clear hF3
          go_wp2
          go_ret2
          exact ⟨rfl, HA.out.no HF3.out, ps_no HF3.out⟩
        · have h2' : n ≤ s.bal k := by omega
          have e1 : s.resE (k : Int) n = 0 := by unfold Ps.resE; rw [if_neg (by rw [← hy]; simp), if_neg h0, if_neg (by omega), if_neg (by simpa using h2)]
          have e2 : s.resI (k : Int) n = F := by unfold Ps.resI; rw [if_pos e1, hF]
          have e3 : s.resS (k : Int) n = ⟨(s.less k n).b, (s.less k n).h.set F (k, n)⟩ := by unfold Ps.resS; rw [if_pos e1, hF]; rfl
          obtain ⟨s', hs'⟩ : ∃ s', s' = s.resS (k : Int) n := ⟨_, rfl⟩
          have HS : Hid (s' = ⟨(s.less k n).b, (s.less k n).h.set F (k, n)⟩) := Lib.hid (by rw [hs', e3])
          rw [e1, e2, ← hs']
          have HT := Lib.hid (fun X (hX : PuAt p g m cap s X) => take_any W hX k n hk h2')
          have HN : Hid (n ≠ 0) := Lib.hid h0
          have HF32 := Lib.hid hF32
          clear h W hy e1 e2 e3 h0 hF h1 hF32 h2 hk h2' hs'
          go_enter Try.func10, Try.ntmps10
          go_wp2_with fail
          refine HC.out.mono ?_
          rintro e w1 ⟨rfl, rfl⟩
          go_wp2_with fail
          refine (HD.out _ HA.out).mono ?_
          rintro e w2 ⟨rfl, hF2⟩
          have HF2 := Lib.hid hF2
          clear hF2
          go_wp2_with fail
          refine (HT.out _ (HA.out.no HF2.out)).mono ?_
          rintro e w3 ⟨rfl, hA3, hF3⟩
          have HA3 := Lib.hid hA3
          have HF3 := Lib.hid ((ps_no HF2.out).trans (ps_g (m := m) hF3))
          have c1 := hA3.cell1
          obtain ⟨D, hown, hP⟩ := hA3.map
          have HO := Lib.hid hown
          have HP := Lib.hid hP
          clear hA3 hF3 hown hP
          go_wp2_with (at_mapUpdate; refine wpList_mapUpdate_own _ rfl _ _ _ 60 rfl 3 69 keyed9 Try.underlying60 readR m 32 D rfl HO.out (by decide) _ _ (.int .i64 (F : Int)) rfl rfl (keyOf_int_mk Try.underlying3 (wf_small (by have := HF32.out; omega))) (dR (k, n)) [] (readR_mk (k, n)) ?_; intro w4 hown4 hgrow4; have HO4 := Lib.hid hown4; have HG4 := Lib.hid hgrow4; clear hown4 hgrow4)
          go_ret2
          have hF4 : Fr (· = m) w3 w4 := Fr.of_grown HG4.out (fun k e => by injection e with e; exact e.symm)
          refine ⟨rfl, ?_, HF3.out.trans (ps_m hF4)⟩
          rw [HS.out]
          exact PuAt.putH (D := D) HA3.out F (k, n) (by rw [show (s.less k n).h = s.h from rfl]; exact HW.out.hl) HF32.out (PM.of HO4.out (HP.out.put HO.out.isMap HF32.out (k, n) (by have := HN.out; show 0 < n; omega))) hF4
end Go.Proofs.Ytnimeafaciegkaa
