/- A purse's functions: Commit, Release. -/
import Derived.Test.YtnimeafaciegkaaPuQ
namespace Go.Proofs.Ytnimeafaciegkaa
open Go.RowKit Go.Maps
set_option linter.unusedVariables false
set_option maxRecDepth 100000

set_option maxHeartbeats 2000000 in
theorem commit_any {p g m cap : Nat} {s : Ps} {w : World} (W : s.Wf) (h : PuAt p g m cap s w) (i t : Int) (hw : (Lit.int .i64 i).wf = true) : Calls Try.prog 12 #[.pointer (some ⟨p, 0, none⟩), .int .i64 i, .int .i64 t] w fun e w' => Act9 p g m cap w e (s.comE i t) (s.comS i t) w' := by
  have HC := Lib.hid (find_any h i hw)
  have HA := Lib.hid h
  have HW := Lib.hid W
  obtain ⟨y, hy⟩ : ∃ y, y = s.there i := ⟨_, rfl⟩
  obtain ⟨x, hx⟩ : ∃ x, x = s.look i := ⟨_, rfl⟩
  rw [← hy, ← hx] at HC
  obtain ⟨x1, x2⟩ := x
  cases y with
  | false =>
    have e1 : s.comE i t = 1 := if_pos hy.symm
    have e3 : s.comS i t = s := if_neg (by rw [e1]; omega)
    rw [e1, e3]
    clear h W hy e1 e3 hx
    go_enter Try.func12, Try.ntmps12
    go_wp2_with fail
    refine HC.out.mono ?_
    rintro e w1 ⟨rfl, hF1⟩
    have HF1 := Lib.hid hF1
    clear hF1
    go_wp2
    go_ret
    exact ⟨rfl, HA.out.no (HF1.out.alloc _), ps_no (HF1.out.alloc _)⟩
  | true =>
    have HD := Lib.hid (fun X (hX : PuAt p g m cap s X) => has_any hX W.b2 t)
    obtain ⟨z, hz⟩ : ∃ z, z = s.has t := ⟨_, rfl⟩
    rw [← hz] at HD
    cases z with
    | false =>
      have e1 : s.comE i t = 3 := by unfold Ps.comE; rw [if_neg (by rw [← hy]; simp), if_pos hz.symm]
      have e3 : s.comS i t = s := if_neg (by rw [e1]; omega)
      rw [e1, e3]
      clear h W hy e1 e3 hx hz
      go_enter Try.func12, Try.ntmps12
      go_wp2_with fail
      refine HC.out.mono ?_
      rintro e w1 ⟨rfl, hF1⟩
      have HF1 := Lib.hid hF1
      clear hF1
      go_wp2_with fail
      refine (HD.out _ (HA.out.no (HF1.out.alloc _))).mono ?_
      rintro e w2 ⟨rfl, rfl⟩
      go_wp2
      go_ret
      exact ⟨rfl, HA.out.no (HF1.out.alloc _), ps_no (HF1.out.alloc _)⟩
    | true =>
      obtain ⟨k, rfl, hk, hk2⟩ := Ps.there_nat hy.symm
      obtain ⟨j, rfl, hj⟩ := Ps.has_nat hz.symm
      have e1 : s.comE (k : Int) (j : Int) = 0 := (Ps.comE_cases _ _).2 ⟨hy.symm, hz.symm⟩
      have e3 : s.comS (k : Int) (j : Int) = s.com1 k j := by unfold Ps.comS; rw [if_pos e1, Int.toNat_natCast, Int.toNat_natCast]
      have hx' : (x1, x2) = s.hold k := by rw [hx, (look_nat W hk).2]
      obtain ⟨u, hu⟩ : ∃ u, u = s.bal j := ⟨_, rfl⟩
      obtain ⟨v, hv⟩ : ∃ v, v = u + x2 := ⟨_, rfl⟩
      have hv64 : v < 18446744073709551616 := by
        have a1 := Ps.bal_le hj
        have a2 := Ps.hold_le (s := s) hk
        have a3 := W.top
        rw [← hx'] at a2
        simp only at a2
        omega
      have s1 : (u : Int) + (x2 : Int) = (v : Int) := by omega
      have l1 := wrapU v hv64
      obtain ⟨s', hs'⟩ : ∃ s', s' = s.comS (k : Int) (j : Int) := ⟨_, rfl⟩
      have HS : Hid (s' = ⟨s.b.set j v, s.h.set k (0, 0)⟩) := Lib.hid (by rw [hs', e3]; unfold Ps.com1; rw [hv, hu, ← hx'])
      rw [e1, ← hs']
      have HK := Lib.hid hk
      have HJ := Lib.hid hj
      have HU := Lib.hid hu
      obtain ⟨L, hL⟩ : ∃ L, L = s.b.length := ⟨_, rfl⟩
      have HL := Lib.hid hL
      have t1 : (j : Int) < (L : Int) := by omega
      clear h W hy e1 e3 hx hz hk hk2 hx' hu hv hv64 hs' hj hL
      go_enter Try.func12, Try.ntmps12
      go_wp2_with fail
      refine HC.out.mono ?_
      rintro e w1 ⟨rfl, hF1⟩
      have HF1 := Lib.hid hF1
      clear hF1
      obtain ⟨q, hq⟩ : ∃ q, q = w1.heap.size := ⟨_, rfl⟩
      have HQ := Lib.hid hq
      clear hq
      go_wp2_with fail
      rw [← HQ.out]
      obtain ⟨w2, hw2⟩ : ∃ X, X = w1.alloc (.cells #[.int .i64 (x1 : Int), .int .u64 (x2 : Int)] 69) := ⟨_, rfl⟩
      have HB2 : Hid (Blk w2 q 69 [.int .i64 (x1 : Int), .int .u64 (x2 : Int)]) := Lib.hid (by rw [hw2, HQ.out]; exact Blk.new w1 _ _)
      have HF2 : Hid (Fr No w w2) := Lib.hid (by rw [hw2]; exact HF1.out.alloc _)
      rw [← hw2]
      clear hw2
      have HA2 := Lib.hid (HA.out.no HF2.out)
      refine (HD.out _ HA2.out).mono ?_
      rintro e w3 ⟨rfl, rfl⟩
      have c1 := HA2.out.cell1
      obtain ⟨D, hown, hP⟩ := HA2.out.map
      have HO := Lib.hid hown
      have HP := Lib.hid hP
      clear hown hP
      go_wp2_with (at_delete; refine wpList_delete_own _ rfl _ _ 60 3 rfl 69 keyed9 Try.underlying60 readR m 32 D rfl HO.out _ (.int .i64 (k : Int)) rfl (keyOf_int_mk Try.underlying3 (wf_small (by have := HK.out; omega))) ?_; intro w4 hown4 hturn4; have HO4 := Lib.hid hown4; have HG4 := Lib.hid hturn4; clear hown4 hturn4)
      have hF4 : Fr (· = m) w2 w4 := Fr.of_grown HG4.out.grown (fun k e => by injection e with e; exact e.symm)
      have HF4 := Lib.hid hF4
      have HA4 := Lib.hid (PuAt.putH (D := D) HA2.out k (0, 0) HW.out.hl HK.out (PM.of HO4.out (HP.out.del HK.out)) hF4)
      have hqm : q ≠ m := fun e => HA2.out.map.ne (HB2.out.cell (i := 0) rfl) e.symm
      have HB4 := Lib.hid (HB2.out.fr hF4 hqm)
      clear hF4 c1 hqm
      have c0 := HA4.out.cell0
      have c2 := (HA4.out.row j HJ.out).1
      have f2 := (HA4.out.row j HJ.out).2
      have c3 : w4.cell? ⟨q, 1, none⟩ = some (.int .u64 (x2 : Int)) := HB4.out.cell rfl
      rw [show (⟨s.b, s.h.set k (0, 0)⟩ : Ps).b = s.b from rfl] at c0 c2
      rw [← HL.out] at c0
      rw [show s.b.getD j 0 = u from HU.out.symm] at c2
      have HZ : Hid (Act9 p g m cap w (.returned (.int .i64 0)) 0 s' (w4.setCell ⟨g, j, none⟩ (.int .u64 (v : Int))).drew) := Lib.hid (by
        have h1 := HA4.out.setB HJ.out v
        refine ⟨rfl, ?_, ((ps_no HF2.out).trans ((ps_m HF4.out).trans (ps_g (Fr.setCell (S := (· = g)) (p := ⟨g, j, none⟩) (Fr.refl _ w4) (.inl rfl) _)))).drew⟩
        rw [HS.out]
        exact h1.no (Fr.refl No _).drew)
      go_region
      all_goals
        go_wp2
        go_ret
        exact HZ.out

set_option maxHeartbeats 2000000 in
theorem release_any {p g m cap : Nat} {s : Ps} {w : World} (W : s.Wf) (h : PuAt p g m cap s w) (i : Int) (hw : (Lit.int .i64 i).wf = true) : Calls Try.prog 14 #[.pointer (some ⟨p, 0, none⟩), .int .i64 i] w fun e w' => Act9 p g m cap w e (s.relE i) (s.relS i) w' := by
  have HC := Lib.hid (find_any h i hw)
  have HA := Lib.hid h
  obtain ⟨y, hy⟩ : ∃ y, y = s.there i := ⟨_, rfl⟩
  obtain ⟨x, hx⟩ : ∃ x, x = s.look i := ⟨_, rfl⟩
  rw [← hy, ← hx] at HC
  cases y with
  | false =>
    obtain ⟨x1, x2⟩ := x
    have e1 : s.relE i = 1 := if_pos hy.symm
    have e3 : s.relS i = s := if_neg (by rw [e1]; omega)
    rw [e1, e3]
    clear h W hy e1 e3 hx
    go_enter Try.func14, Try.ntmps14
    go_wp2_with fail
    refine HC.out.mono ?_
    rintro e w1 ⟨rfl, hF1⟩
    have HF1 := Lib.hid hF1
    clear hF1
    go_wp2
    go_ret
    exact ⟨rfl, HA.out.no (HF1.out.alloc _), ps_no (HF1.out.alloc _)⟩
  | true =>
    have e1 : s.relE i = 0 := (Ps.relE_cases i).2 hy.symm
    have hx' : x = s.hold i.toNat := by rw [hx]; unfold Ps.look; rw [if_pos hy.symm]
    obtain ⟨r1, r2⟩ := Ps.rel_com W hy.symm
    rw [← hx'] at r1 r2
    obtain ⟨x1, x2⟩ := x
    have HD := Lib.hid (fun X (hX : PuAt p g m cap s X) => commit_any W hX i (x1 : Int) hw)
    rw [r1, r2] at HD
    obtain ⟨s', hs'⟩ : ∃ s', s' = s.relS i := ⟨_, rfl⟩
    rw [← hs'] at HD
    rw [e1, ← hs']
    clear h W hy e1 r1 r2 hx hx' hs'
    go_enter Try.func14, Try.ntmps14
    go_wp2_with fail
    refine HC.out.mono ?_
    rintro e w1 ⟨rfl, hF1⟩
    have HF1 := Lib.hid hF1
    clear hF1
    go_wp2_with fail
    refine (HD.out _ (HA.out.no (HF1.out.alloc _))).mono ?_
    rintro e w2 ⟨rfl, hA2, hF2⟩
    have HA2 := Lib.hid hA2
    have HF2 := Lib.hid hF2
    clear hA2 hF2
    go_wp2
    go_ret
    exact ⟨rfl, HA2.out, (ps_no (HF1.out.alloc _)).trans HF2.out⟩

set_option maxHeartbeats 2000000 in
theorem move_any {p g m cap : Nat} {s : Ps} {w : World} (W : s.Wf) (h : PuAt p g m cap s w) (a t : Int) (n : Nat) : Calls Try.prog 16 #[.pointer (some ⟨p, 0, none⟩), .int .i64 a, .int .i64 t, .int .u64 (n : Int)] w fun e w' => Act9 p g m cap w e (s.movE a t n) (s.movS a t n) w' := by
  have HC := Lib.hid (has_any h W.b2 a)
  have HD := Lib.hid (has_any h W.b2 t)
  have HA := Lib.hid h
  obtain ⟨y, hy⟩ : ∃ y, y = s.has a := ⟨_, rfl⟩
  obtain ⟨z, hz⟩ : ∃ z, z = s.has t := ⟨_, rfl⟩
  rw [← hy] at HC
  rw [← hz] at HD
  cases y with
  | false =>
    have e1 : s.movE a t n = 3 := if_pos (.inl hy.symm)
    have e3 : s.movS a t n = s := if_neg (by rw [e1]; omega)
    rw [e1, e3]
    clear h W hy hz e1 e3
    go_enter Try.func16, Try.ntmps16
    go_wp2_with fail
    refine HC.out.mono ?_
    rintro e w1 ⟨rfl, rfl⟩
    go_wp2
    go_ret
    exact ⟨rfl, HA.out, Fr.refl _ _⟩
  | true =>
    cases z with
    | false =>
      have e1 : s.movE a t n = 3 := if_pos (.inr hz.symm)
      have e3 : s.movS a t n = s := if_neg (by rw [e1]; omega)
      rw [e1, e3]
      clear h W hy hz e1 e3
      go_enter Try.func16, Try.ntmps16
      go_wp2_with fail
      refine HC.out.mono ?_
      rintro e w1 ⟨rfl, rfl⟩
      go_wp2_with fail
      refine HD.out.mono ?_
      rintro e w1 ⟨rfl, rfl⟩
      go_wp2
      go_ret
      exact ⟨rfl, HA.out, Fr.refl _ _⟩
    | true =>
      obtain ⟨k, rfl, hk⟩ := Ps.has_nat hy.symm
      obtain ⟨j, rfl, hj⟩ := Ps.has_nat hz.symm
      have e0 : ¬ (s.has (k : Int) = false ∨ s.has (j : Int) = false) := by rw [← hy, ← hz]; simp
      by_cases h0 : n = 0
      · have e1 : s.movE (k : Int) (j : Int) n = 1 := by unfold Ps.movE; rw [if_neg e0, if_pos h0]
        have e3 : s.movS (k : Int) (j : Int) n = s := if_neg (by rw [e1]; omega)
        rw [e1, e3]
        have t0 : ((n : Int) == 0) = true := by rw [h0]; rfl
        clear h W hy hz e1 e3 h0 e0
        go_enter Try.func16, Try.ntmps16
        go_wp2_with fail
        refine HC.out.mono ?_
        rintro e w1 ⟨rfl, rfl⟩
        go_wp2_with fail
        refine HD.out.mono ?_
        rintro e w1 ⟨rfl, rfl⟩
        go_wp2
        go_ret
        exact ⟨rfl, HA.out, Fr.refl _ _⟩
      · have t0 : ((n : Int) == 0) = false := by rw [beq_eq_false_iff_ne]; omega
        by_cases h2 : s.bal k < n
        · have e1 : s.movE (k : Int) (j : Int) n = 61 := by unfold Ps.movE; rw [if_neg e0, if_neg h0, if_pos (by simpa using h2)]
          have e3 : s.movS (k : Int) (j : Int) n = s := if_neg (by rw [e1]; omega)
          rw [e1, e3]
          have HT := Lib.hid (take_few W h k n hk h2)
          clear h W hy hz e1 e3 h0 e0 h2 hk hj
          go_enter Try.func16, Try.ntmps16
          go_wp2_with fail
          refine HC.out.mono ?_
          rintro e w1 ⟨rfl, rfl⟩
          go_wp2_with fail
          refine HD.out.mono ?_
          rintro e w1 ⟨rfl, rfl⟩
          go_wp2_with fail
          refine HT.out.mono ?_
          rintro e w1 ⟨rfl, hF1⟩
          have HF1 := Lib.hid hF1
          clear hF1
          go_wp2
          go_ret
          exact ⟨rfl, HA.out.no HF1.out, ps_no HF1.out⟩
        · have h2' : n ≤ s.bal k := by omega
          have e1 : s.movE (k : Int) (j : Int) n = 0 := by unfold Ps.movE; rw [if_neg e0, if_neg h0, if_neg (by simpa using h2)]
          have e3 : s.movS (k : Int) (j : Int) n = (s.less k n).more j n := by unfold Ps.movS; rw [if_pos e1, Int.toNat_natCast, Int.toNat_natCast]
          have HT := Lib.hid (take_any W h k n hk h2')
          have W2 := W.mov hk hj h2'
          obtain ⟨s1, hs1⟩ : ∃ s1, s1 = s.less k n := ⟨_, rfl⟩
          have hj1 : j < s1.b.length := by rw [hs1, Ps.len_less]; exact hj
          rw [← hs1] at HT e3 W2
          obtain ⟨u, hu⟩ : ∃ u, u = s1.bal j := ⟨_, rfl⟩
          obtain ⟨v, hv⟩ : ∃ v, v = u + n := ⟨_, rfl⟩
          have hv64 : v < 18446744073709551616 := by
            have a1 := Ps.bal_le (s := s1.more j n) (i := j) (by rw [Ps.len_more]; exact hj1)
            rw [Ps.bal_more s1 n hj1, if_pos rfl] at a1
            have a3 := W2.top
            omega
          have q1 : (u : Int) + (n : Int) = (v : Int) := by omega
          have l1 := wrapU v hv64
          obtain ⟨s', hs'⟩ : ∃ s', s' = s.movS (k : Int) (j : Int) n := ⟨_, rfl⟩
          have HS : Hid (s' = ⟨s1.b.set j v, s1.h⟩) := Lib.hid (by rw [hs', e3]; unfold Ps.more; rw [hv, hu])
          rw [e1, ← hs']
          have HJ := Lib.hid hj1
          have HU := Lib.hid hu
          obtain ⟨L, hL⟩ : ∃ L, L = s1.b.length := ⟨_, rfl⟩
          have HL := Lib.hid hL
          have t1 : (j : Int) < (L : Int) := by omega
          clear h W hy hz e1 e3 h0 e0 h2 h2' hk hj W2 hj1 hu hv hv64 hs' hs1 hL
          go_enter Try.func16, Try.ntmps16
          go_wp2_with fail
          refine HC.out.mono ?_
          rintro e w1 ⟨rfl, rfl⟩
          go_wp2_with fail
          refine HD.out.mono ?_
          rintro e w1 ⟨rfl, rfl⟩
          go_wp2_with fail
          refine HT.out.mono ?_
          rintro e w1 ⟨rfl, hA1, hF1⟩
          have HA1 := Lib.hid hA1
          have HF1 := Lib.hid hF1
          have c0 := hA1.cell0
          have c2 := (hA1.row j HJ.out).1
          have f2 := (hA1.row j HJ.out).2
          rw [← HL.out] at c0
          rw [show s1.b.getD j 0 = u from HU.out.symm] at c2
          clear hA1 hF1 HT
          go_wp2
          go_ret
          refine ⟨rfl, ?_, (ps_g HF1.out).trans (ps_g (Fr.setCell (S := (· = g)) (p := ⟨g, j, none⟩) (Fr.refl _ w1) (.inl rfl) _))⟩
          rw [HS.out]
          exact HA1.out.setB HJ.out v
end Go.Proofs.Ytnimeafaciegkaa
