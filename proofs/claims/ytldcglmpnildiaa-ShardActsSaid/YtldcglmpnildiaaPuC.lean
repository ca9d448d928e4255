/- A purse's functions: Commit, Release. -/
import Derived.Test.YtldcglmpnildiaaPuQ
namespace Go.Proofs.Ytldcglmpnildiaa
open Go.RowKit Go.Maps
set_option linter.unusedVariables false
set_option maxRecDepth 100000

set_option maxHeartbeats 2000000 in
theorem move_any {p g m cap : Nat} {s : Ps} {w : World} (W : s.Wf) (h : PuAt p g m cap s w) (a t : Int) (n : Nat) : Calls Try.prog 25 #[.pointer (some ⟨p, 0, none⟩), .int .i64 a, .int .i64 t, .int .u64 (n : Int)] w fun e w' => Act9 p g m cap w e (s.movE a t n) (s.movS a t n) w' := by
  have HC := Lib.hid (has_any h W.b2 a)
  have HD := Lib.hid (has_any h W.b2 t)
  have HA := Lib.hid h
  obtain ⟨y, hy⟩ : ∃ y, y = s.has a := ⟨_, rfl⟩
  obtain ⟨z, hz⟩ : ∃ z, z = s.has t := ⟨_, rfl⟩
  rw [← hy] at HC
  rw [← hz] at HD
  cases y with
  | false =>
    have e1 : s.movE a t n = 3 := if_pos (.inl hy.symm)
    have e3 : s.movS a t n = s := if_neg (by rw [e1]; omega)
    rw [e1, e3]
    clear h W hy hz e1 e3
    go_enter Try.func25, Try.ntmps25
    go_wp2_with fail
    refine HC.out.mono ?_
    rintro e w1 ⟨rfl, rfl⟩
    go_wp2
    go_ret
    exact ⟨rfl, HA.out, Fr.refl _ _⟩
  | true =>
    cases z with
    | false =>
      have e1 : s.movE a t n = 3 := if_pos (.inr hz.symm)
      have e3 : s.movS a t n = s := if_neg (by rw [e1]; omega)
      rw [e1, e3]
      clear h W hy hz e1 e3
      go_enter Try.func25, Try.ntmps25
      go_wp2_with fail
      refine HC.out.mono ?_
      rintro e w1 ⟨rfl, rfl⟩
      go_wp2_with fail
      refine HD.out.mono ?_
      rintro e w1 ⟨rfl, rfl⟩
      go_wp2
      go_ret
      exact ⟨rfl, HA.out, Fr.refl _ _⟩
    | true =>
      obtain ⟨k, rfl, hk⟩ := Ps.has_nat hy.symm
      obtain ⟨j, rfl, hj⟩ := Ps.has_nat hz.symm
      have e0 : ¬ (s.has (k : Int) = false ∨ s.has (j : Int) = false) := by rw [← hy, ← hz]; simp
      by_cases h0 : n = 0
      · have e1 : s.movE (k : Int) (j : Int) n = 1 := by unfold Ps.movE; rw [if_neg e0, if_pos h0]
        have e3 : s.movS (k : Int) (j : Int) n = s := if_neg (by rw [e1]; omega)
        rw [e1, e3]
        have t0 : ((n : Int) == 0) = true := by rw [h0]; rfl
        clear h W hy hz e1 e3 h0 e0
        go_enter Try.func25, Try.ntmps25
        go_wp2_with fail
        refine HC.out.mono ?_
        rintro e w1 ⟨rfl, rfl⟩
        go_wp2_with fail
        refine HD.out.mono ?_
        rintro e w1 ⟨rfl, rfl⟩
        go_wp2
        go_ret
        exact ⟨rfl, HA.out, Fr.refl _ _⟩
      · have t0 : ((n : Int) == 0) = false := by rw [beq_eq_false_iff_ne]; omega
        by_cases h2 : s.bal k < n
        · have e1 : s.movE (k : Int) (j : Int) n = 61 := by unfold Ps.movE; rw [if_neg e0, if_neg h0, if_pos (by simpa using h2)]
          have e3 : s.movS (k : Int) (j : Int) n = s := if_neg (by rw [e1]; omega)
          rw [e1, e3]
          have HT := Lib.hid (take_few W h k n hk h2)
          clear h W hy hz e1 e3 h0 e0 h2 hk hj
          go_enter Try.func25, Try.ntmps25
          go_wp2_with fail
          refine HC.out.mono ?_
          rintro e w1 ⟨rfl, rfl⟩
          go_wp2_with fail
          refine HD.out.mono ?_
          rintro e w1 ⟨rfl, rfl⟩
          go_wp2_with fail
          refine HT.out.mono ?_
          rintro e w1 ⟨rfl, hF1⟩
          have HF1 := Lib.hid hF1
          clear hF1
          go_wp2
          go_ret
          exact ⟨rfl, HA.out.no HF1.out, ps_no HF1.out⟩
        · have h2' : n ≤ s.bal k := by omega
          have e1 : s.movE (k : Int) (j : Int) n = 0 := by unfold Ps.movE; rw [if_neg e0, if_neg h0, if_neg (by simpa using h2)]
          have e3 : s.movS (k : Int) (j : Int) n = (s.less k n).more j n := by unfold Ps.movS; rw [if_pos e1, Int.toNat_natCast, Int.toNat_natCast]
          have HT := Lib.hid (take_any W h k n hk h2')
          have W2 := W.mov hk hj h2'
          obtain ⟨s1, hs1⟩ : ∃ s1, s1 = s.less k n := ⟨_, rfl⟩
          have hj1 : j < s1.b.length := by rw [hs1, Ps.len_less]; exact hj
          rw [← hs1] at HT e3 W2
          obtain ⟨u, hu⟩ : ∃ u, u = s1.bal j := ⟨_, rfl⟩
          obtain ⟨v, hv⟩ : ∃ v, v = u + n := ⟨_, rfl⟩
          have hv64 : v < 18446744073709551616 := by
            have a1 := Ps.bal_le (s := s1.more j n) (i := j) (by rw [Ps.len_more]; exact hj1)
            rw [Ps.bal_more s1 n hj1, if_pos rfl] at a1
            have a3 := W2.top
            omega
          have q1 : (u : Int) + (n : Int) = (v : Int) := by omega
          have l1 := wrapU v hv64
          obtain ⟨s', hs'⟩ : ∃ s', s' = s.movS (k : Int) (j : Int) n := ⟨_, rfl⟩
          have HS : Hid (s' = ⟨s1.b.set j v, s1.h⟩) := Lib.hid (by rw [hs', e3]; unfold Ps.more; rw [hv, hu])
          rw [e1, ← hs']
          have HJ := Lib.hid hj1
          have HU := Lib.hid hu
          obtain ⟨L, hL⟩ : ∃ L, L = s1.b.length := ⟨_, rfl⟩
          have HL := Lib.hid hL
          have t1 : (j : Int) < (L : Int) := by omega
          clear h W hy hz e1 e3 h0 e0 h2 h2' hk hj W2 hj1 hu hv hv64 hs' hs1 hL
          go_enter Try.func25, Try.ntmps25
          go_wp2_with fail
          refine HC.out.mono ?_
          rintro e w1 ⟨rfl, rfl⟩
          go_wp2_with fail
          refine HD.out.mono ?_
          rintro e w1 ⟨rfl, rfl⟩
          go_wp2_with fail
          refine HT.out.mono ?_
          rintro e w1 ⟨rfl, hA1, hF1⟩
          have HA1 := Lib.hid hA1
          have HF1 := Lib.hid hF1
          have c0 := hA1.cell0
          have c2 := (hA1.row j HJ.out).1
          have f2 := (hA1.row j HJ.out).2
          rw [← HL.out] at c0
          rw [show s1.b.getD j 0 = u from HU.out.symm] at c2
          clear hA1 hF1 HT
          go_wp2
          go_ret
          refine ⟨rfl, ?_, (ps_g HF1.out).trans (ps_g (Fr.setCell (S := (· = g)) (p := ⟨g, j, none⟩) (Fr.refl _ w1) (.inl rfl) _))⟩
          rw [HS.out]
          exact HA1.out.setB HJ.out v
end Go.Proofs.Ytldcglmpnildiaa
