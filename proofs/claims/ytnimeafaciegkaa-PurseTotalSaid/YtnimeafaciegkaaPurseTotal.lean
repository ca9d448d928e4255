/- The walk of 'PurseTotal'. -/
import Derived.Test.YtnimeafaciegkaaPuL
import Derived.Test.YtnimeafaciegkaaPuT
import Derived.Test.YtnimeafaciegkaaOpnA
namespace Go.Proofs.Ytnimeafaciegkaa
open Go.RowKit
set_option linter.unusedVariables false
set_option maxRecDepth 100000
set_option maxHeartbeats 1000000 in
theorem total9_long (ao : Option Addr) (n cap : Nat) (v : Value) (w : World) (hn : 40 < n) : Calls Try.prog 4 #[.slice ao n cap, v] w fun e w' => e = .returned (.bool true) ∧ Fr No w w' := by
  have t0 : decide ((40 : Int) < (n : Int)) = true := decide_eq_true (by omega)
  clear hn
  go_enter Try.func4, Try.ntmps4
  go_wp2_with fail
  refine (shown9_any _).mono ?_
  rintro e w1 ⟨rfl, hF⟩
  have HF := Lib.hid hF
  clear hF
  go_wp2
  go_ret
  exact ⟨rfl, HF.out⟩

set_option maxHeartbeats 1000000 in
theorem total9_long2 (ao bo : Option Addr) (n cap m cap2 : Nat) (w : World) (hn : n ≤ 40) (hm : 150 < m) : Calls Try.prog 4 #[.slice ao n cap, .slice bo m cap2] w fun e w' => e = .returned (.bool true) ∧ Fr No w w' := by
  have t0 : decide ((40 : Int) < (n : Int)) = false := decide_eq_false (by omega)
  have t2 : decide ((150 : Int) < (m : Int)) = true := decide_eq_true (by omega)
  clear hn hm
  go_enter Try.func4, Try.ntmps4
  go_wp2_with fail
  refine (shown9_any _).mono ?_
  rintro e w1 ⟨rfl, hF⟩
  have HF := Lib.hid hF
  clear hF
  go_wp2
  go_ret
  exact ⟨rfl, HF.out⟩
set_option maxHeartbeats 4000000 in
theorem total9_bad (ao bo : Option Addr) (n cap m cap2 : Nat) (b : List Nat) (xs : Nat → A9) (w : World) (hn : n ≤ 40) (hm : m ≤ 150) (hb : n = b.length) (hx : Nums w ao n (fun i => b.getD i 0)) (ha : Acts w bo m xs) (hy : false = Ps.newOk b) : Calls Try.prog 4 #[.slice ao n cap, .slice bo m cap2] w fun e w' => e = .returned (.bool true) ∧ Fr No w w' := by
  have t0 : decide ((40 : Int) < (n : Int)) = false := decide_eq_false (by omega)
  have t2 : decide ((150 : Int) < (m : Int)) = false := decide_eq_false (by omega)
  have HX := Lib.hid hx
  have HA := Lib.hid ha
  have HN := Lib.hid hb
  have HN40 : Hid (n ≤ 40 ∧ m ≤ 150) := Lib.hid ⟨hn, hm⟩
  have HNEW := Lib.hid (fun X (hX : Nums X ao n (fun i => b.getD i 0)) => pu_new ao n cap b X hb (by unfold maxLen; omega) hX false hy)
  have HDN := Lib.hid (fun X (hX : Nums X ao n (fun i => b.getD i 0)) => rnew_any ao n cap b X hb (by omega) hX)
  have HY := Lib.hid hy
  clear hx ha hb hn hm hy
  go_enter Try.func4, Try.ntmps4
  go_wp2_with fail
  refine (shown9_any _).mono ?_
  rintro e w1 ⟨rfl, hF⟩
  have HF := Lib.hid hF
  clear hF
  go_wp2_with fail
  refine (HNEW.out _ (HX.out.fr HF.out (fun _ _ => id))).mono ?_
  rintro e w2 ⟨hF2, he⟩
  obtain rfl : e = .returned (.pointer none) := he
  have HF2 := Lib.hid (HF.out.trans hF2)
  clear hF2 HNEW
  go_wp2_with fail
  refine (HDN.out _ (HX.out.fr HF2.out (fun _ _ => id))).mono ?_
  intro e w3 h
  unfold DNew at h
  rw [← HY.out] at h
  obtain ⟨rfl, hF3⟩ := h
  have HF3 := Lib.hid (HF2.out.trans hF3)
  clear hF3 HDN
  obtain ⟨rb, hrb⟩ : ∃ r, r = w3.heap.size := ⟨_, rfl⟩
  have HAL : Hid ((Instr.alloc 32 true (.tuple #[])).run Try.prog w3 = .ok (.pointer (some ⟨rb, 0, none⟩)) (w3.alloc (.cells zeroP.toArray 32))) := Lib.hid (by rw [hrb]; exact alloc_rp w3)
  have HZ : Hid (Blk (w3.alloc (.cells zeroP.toArray 32)) rb 32 zeroP) := Lib.hid (by rw [hrb]; exact Blk.new w3 _ _)
  obtain ⟨Y, hY, hYB, hYF⟩ := store_rp HZ.out (L := cellsP none 0 0 (List.replicate 32 (0, 0))) (cellsP_len rfl) (cellsP_len rfl) cellsP_one
  have HYS := Lib.hid hY
  have HFY : Hid (Fr No w Y) := Lib.hid ((HF3.out.alloc _).trans' hYF (fun i hi e => by have := HF3.out.size; omega))
  clear hY hYB hYF hrb
  go_wp2_with (first
    | (refine wpList_execG (.pointer (some ⟨rb, 0, none⟩)) (exec_alloc 32 rfl _ HAL.out) rfl ?_)
    | (refine wpList_store_eq rfl 32 _ _ rfl (.pointer (some ⟨rb, 0, none⟩)) (vP none 0 0 (List.replicate 32 (0, 0))) rfl rfl HYS.out ?_))
  go_ret
  exact ⟨rfl, HFY.out⟩
set_option maxHeartbeats 16000000 in
theorem total9_ok (ao bo : Option Addr) (n cap m cap2 : Nat) (b : List Nat) (xs : Nat → A9) (w : World) (hn : n ≤ 40) (hm : m ≤ 150) (hb : n = b.length) (hx : Nums w ao n (fun i => b.getD i 0)) (ha : Acts w bo m xs) (hy : true = Ps.newOk b) : Calls Try.prog 4 #[.slice ao n cap, .slice bo m cap2] w fun e w' => e = .returned (.bool true) ∧ Fr No w w' := by
  have t0 : decide ((40 : Int) < (n : Int)) = false := decide_eq_false (by omega)
  have t2 : decide ((150 : Int) < (m : Int)) = false := decide_eq_false (by omega)
  have HX := Lib.hid hx
  have HA := Lib.hid ha
  have HN := Lib.hid hb
  have HN40 : Hid (n ≤ 40 ∧ m ≤ 150) := Lib.hid ⟨hn, hm⟩
  have HNEW := Lib.hid (fun X (hX : Nums X ao n (fun i => b.getD i 0)) => pu_new ao n cap b X hb (by unfold maxLen; omega) hX true hy)
  have HDN := Lib.hid (fun X (hX : Nums X ao n (fun i => b.getD i 0)) => rnew_any ao n cap b X hb (by omega) hX)
  have HY := Lib.hid hy
  clear hx ha hb hn hm hy
  go_enter Try.func4, Try.ntmps4
  go_wp2_with fail
  refine (shown9_any _).mono ?_
  rintro e w1 ⟨rfl, hF⟩
  have HF := Lib.hid hF
  clear hF
  go_wp2_with fail
  refine (HNEW.out _ (HX.out.fr HF.out (fun _ _ => id))).mono ?_
  rintro e w2 ⟨hF2, p, rfl, hP⟩
  have HF2 := Lib.hid (HF.out.trans hF2)
  have HB : Hid (w.heap.size ≤ w1.heap.size) := Lib.hid HF.out.size
  obtain ⟨B, hB⟩ : ∃ B, B = w1.heap.size := ⟨_, rfl⟩
  obtain ⟨T, hT⟩ : ∃ T, T = w2.heap.size := ⟨_, rfl⟩
  rw [← hB, ← hT] at hP
  rw [← hB] at HB
  have HP := Lib.hid hP
  obtain ⟨S, hS⟩ : ∃ S, S = (Ps.newS b).total := ⟨_, rfl⟩
  have HS50 : Hid (S ≤ 1125899906842624) := Lib.hid (by rw [hS]; exact hP.wf.top)
  have HS : Hid (S = sumN (fun i => b.getD i 0) n) := Lib.hid (by rw [hS, Ps.new_total, HN.out])
  have HTOT := Lib.hid (fun s X (hX : Pu B T p s X) (hs : s.total = S) => hs ▸ pu_total hX)
  have hS' := hS.symm
  have HS' := Lib.hid hS'
  clear hF2 hP HNEW HDN hB hT hS hS'
  go_wp2_with fail
  refine (HTOT.out _ _ HP.out HS'.out).mono ?_
  rintro e w3 ⟨rfl, hF3⟩
  have HF3 := Lib.hid (HF2.out.trans hF3)
  have HP3 := Lib.hid (HP.out.no hF3)
  clear hF3
  go_wp2_with fail
  go_loopw [9] (fun c wr => ∃ (i : Nat) (s : Ps), i ≤ m ∧ c = .int .i64 i ∧ s.total = S ∧ Pu B T p s wr ∧ Fr No w wr) (fun c _ => m - (intOf c).toNat)
  case atStart => exact ⟨0, Ps.newS b, by omega, rfl, HS'.out, HP3.out, HF3.out⟩
  clear HP3 HF3 HP HF2
  case round =>
    obtain ⟨i, s, hi, rfl, hs, hP, hF⟩ := hrel
    have HP := Lib.hid hP
    have HF := Lib.hid hF
    have HTS := Lib.hid hs
    clear hP hF hs
    by_cases hlt : i < m
    · have t3 : (i : Int) < (m : Int) := by omega
      obtain ⟨a, hbo, hok, hat⟩ := HA.out i hlt
      obtain ⟨q, hq⟩ : ∃ q, a.add (i * 4) = q := ⟨_, rfl⟩
      rw [hq] at hat
      obtain ⟨⟨k, xa, xb, xn⟩, hx⟩ : ∃ x, x = xs i := ⟨_, rfl⟩
      rw [← hx] at hok hat
      have hat2 := hat.no HF.out
      have c0 := hat2.c0
      have c1 := hat2.c1
      have c2 := hat2.c2
      have c3 := hat2.c3
      simp only at c0 c1 c2 c3
      have HWA : Hid ((Lit.int .i64 xa).wf = true) := Lib.hid hok.a
      have HWB : Hid ((Lit.int .i64 xb).wf = true) := Lib.hid hok.b
      obtain ⟨k1, hk1⟩ : ∃ k, k = i + 1 := ⟨_, rfl⟩
      have HK1 : Hid (k1 = i + 1 ∧ k1 ≤ m) := Lib.hid ⟨hk1, by omega⟩
      have s1 : (i : Int) + 1 = (k1 : Int) := by omega
      have l1 : IntKind.i64.wrap (k1 : Int) = (k1 : Int) := IntWalk.i64_in _ (by have := HN40.out; omega)
      have HI40 : Hid (i ≤ 150) := Lib.hid (by have := HN40.out; omega)
      have hsl : i * 4 < 9223372036854775807 := by have := HN40.out; omega
      rw [hbo]
      clear hlt hi hok hat hat2 hx hk1 hbo
      by_cases hk0 : k = 0
      · have j0 : (k == 0) = true := by rw [hk0]; rfl
        clear hk0
        have hW := HP.out.wf
        have hwa := HWA.out
        have HCALL := Lib.hid (fun X (hX : Pu B T p s X) => pu_reserve hX xa xn)
        obtain ⟨s', hs'⟩ : ∃ t, t = s.resS xa xn := ⟨_, rfl⟩
        rw [← hs'] at HCALL
        have HTS' : Hid (s'.total = S) := Lib.hid (by rw [hs', (Ps.Wf.res hW xa xn).2]; exact HTS.out)
        clear hW hwa hs'
        go_wp2_with fail
        refine (HCALL.out _ (HP.out.no ((Fr.refl No _).alloc _))).mono ?_
        rintro e y1 ⟨rfl, hP1, hF1⟩
        have HP1 := Lib.hid hP1
        have HF1 := Lib.hid (btw_no (HF.out.alloc _) hF1 HB.out)
        clear hP1 hF1
        go_wp2_with fail
        refine (HTOT.out _ _ HP1.out HTS'.out).mono ?_
        rintro e y2 ⟨rfl, hF2⟩
        have HP2 := Lib.hid (HP1.out.no hF2)
        have HF2 := Lib.hid (HF1.out.trans hF2)
        clear hF2
        go_wp2
        exact ⟨⟨k1, s', HK1.out.2, rfl, HTS'.out, HP2.out, HF2.out⟩, by have := HK1.out; simp [intOf]; omega⟩
      · skip
        by_cases hk1 : k = 1
        · have j1 : (k == 1) = true := by rw [hk1]; rfl
          have j0 : (k == 0) = false := by rw [hk1]; rfl
          clear hk0 hk1
          have hW := HP.out.wf
          have hwa := HWA.out
          have HCALL := Lib.hid (fun X (hX : Pu B T p s X) => pu_reserve hX xa xn)
          obtain ⟨s', hs'⟩ : ∃ t, t = s.resS xa xn := ⟨_, rfl⟩
          rw [← hs'] at HCALL
          have HTS' : Hid (s'.total = S) := Lib.hid (by rw [hs', (Ps.Wf.res hW xa xn).2]; exact HTS.out)
          clear hW hwa hs'
          go_wp2_with fail
          refine (HCALL.out _ (HP.out.no ((Fr.refl No _).alloc _))).mono ?_
          rintro e y1 ⟨rfl, hP1, hF1⟩
          have HP1 := Lib.hid hP1
          have HF1 := Lib.hid (btw_no (HF.out.alloc _) hF1 HB.out)
          clear hP1 hF1
          go_wp2_with fail
          refine (HTOT.out _ _ HP1.out HTS'.out).mono ?_
          rintro e y2 ⟨rfl, hF2⟩
          have HP2 := Lib.hid (HP1.out.no hF2)
          have HF2 := Lib.hid (HF1.out.trans hF2)
          clear hF2
          go_wp2
          exact ⟨⟨k1, s', HK1.out.2, rfl, HTS'.out, HP2.out, HF2.out⟩, by have := HK1.out; simp [intOf]; omega⟩
        · skip
          by_cases hk2 : k = 2
          · have j2 : (k == 2) = true := by rw [hk2]; rfl
            have j0 : (k == 0) = false := by rw [hk2]; rfl
            have j1 : (k == 1) = false := by rw [hk2]; rfl
            clear hk0 hk1 hk2
            have hW := HP.out.wf
            have hwa := HWA.out
            have HCALL := Lib.hid (fun X (hX : Pu B T p s X) => pu_commit hX xa xb hwa)
            obtain ⟨s', hs'⟩ : ∃ t, t = s.comS xa xb := ⟨_, rfl⟩
            rw [← hs'] at HCALL
            have HTS' : Hid (s'.total = S) := Lib.hid (by rw [hs', (Ps.Wf.com hW xa xb).2]; exact HTS.out)
            clear hW hwa hs'
            go_wp2_with fail
            refine (HCALL.out _ (HP.out.no ((Fr.refl No _).alloc _))).mono ?_
            rintro e y1 ⟨rfl, hP1, hF1⟩
            have HP1 := Lib.hid hP1
            have HF1 := Lib.hid (btw_no (HF.out.alloc _) hF1 HB.out)
            clear hP1 hF1
            go_wp2_with fail
            refine (HTOT.out _ _ HP1.out HTS'.out).mono ?_
            rintro e y2 ⟨rfl, hF2⟩
            have HP2 := Lib.hid (HP1.out.no hF2)
            have HF2 := Lib.hid (HF1.out.trans hF2)
            clear hF2
            go_wp2
            exact ⟨⟨k1, s', HK1.out.2, rfl, HTS'.out, HP2.out, HF2.out⟩, by have := HK1.out; simp [intOf]; omega⟩
          · skip
            by_cases hk3 : k = 3
            · have j3 : (k == 3) = true := by rw [hk3]; rfl
              have j0 : (k == 0) = false := by rw [hk3]; rfl
              have j1 : (k == 1) = false := by rw [hk3]; rfl
              have j2 : (k == 2) = false := by rw [hk3]; rfl
              clear hk0 hk1 hk2 hk3
              have hW := HP.out.wf
              have hwa := HWA.out
              have HCALL := Lib.hid (fun X (hX : Pu B T p s X) => pu_commit hX xa xb hwa)
              obtain ⟨s', hs'⟩ : ∃ t, t = s.comS xa xb := ⟨_, rfl⟩
              rw [← hs'] at HCALL
              have HTS' : Hid (s'.total = S) := Lib.hid (by rw [hs', (Ps.Wf.com hW xa xb).2]; exact HTS.out)
              clear hW hwa hs'
              go_wp2_with fail
              refine (HCALL.out _ (HP.out.no ((Fr.refl No _).alloc _))).mono ?_
              rintro e y1 ⟨rfl, hP1, hF1⟩
              have HP1 := Lib.hid hP1
              have HF1 := Lib.hid (btw_no (HF.out.alloc _) hF1 HB.out)
              clear hP1 hF1
              go_wp2_with fail
              refine (HTOT.out _ _ HP1.out HTS'.out).mono ?_
              rintro e y2 ⟨rfl, hF2⟩
              have HP2 := Lib.hid (HP1.out.no hF2)
              have HF2 := Lib.hid (HF1.out.trans hF2)
              clear hF2
              go_wp2
              exact ⟨⟨k1, s', HK1.out.2, rfl, HTS'.out, HP2.out, HF2.out⟩, by have := HK1.out; simp [intOf]; omega⟩
            · skip
              by_cases hk4 : k = 4
              · have j4 : (k == 4) = true := by rw [hk4]; rfl
                have j0 : (k == 0) = false := by rw [hk4]; rfl
                have j1 : (k == 1) = false := by rw [hk4]; rfl
                have j2 : (k == 2) = false := by rw [hk4]; rfl
                have j3 : (k == 3) = false := by rw [hk4]; rfl
                clear hk0 hk1 hk2 hk3 hk4
                have hW := HP.out.wf
                have hwa := HWA.out
                have HCALL := Lib.hid (fun X (hX : Pu B T p s X) => pu_release hX xa hwa)
                obtain ⟨s', hs'⟩ : ∃ t, t = s.relS xa := ⟨_, rfl⟩
                rw [← hs'] at HCALL
                have HTS' : Hid (s'.total = S) := Lib.hid (by rw [hs', (Ps.Wf.rel hW xa).2]; exact HTS.out)
                clear hW hwa hs'
                go_wp2_with fail
                refine (HCALL.out _ (HP.out.no ((Fr.refl No _).alloc _))).mono ?_
                rintro e y1 ⟨rfl, hP1, hF1⟩
                have HP1 := Lib.hid hP1
                have HF1 := Lib.hid (btw_no (HF.out.alloc _) hF1 HB.out)
                clear hP1 hF1
                go_wp2_with fail
                refine (HTOT.out _ _ HP1.out HTS'.out).mono ?_
                rintro e y2 ⟨rfl, hF2⟩
                have HP2 := Lib.hid (HP1.out.no hF2)
                have HF2 := Lib.hid (HF1.out.trans hF2)
                clear hF2
                go_wp2
                exact ⟨⟨k1, s', HK1.out.2, rfl, HTS'.out, HP2.out, HF2.out⟩, by have := HK1.out; simp [intOf]; omega⟩
              · skip
                by_cases hk5 : k = 5
                · have j5 : (k == 5) = true := by rw [hk5]; rfl
                  have j0 : (k == 0) = false := by rw [hk5]; rfl
                  have j1 : (k == 1) = false := by rw [hk5]; rfl
                  have j2 : (k == 2) = false := by rw [hk5]; rfl
                  have j3 : (k == 3) = false := by rw [hk5]; rfl
                  have j4 : (k == 4) = false := by rw [hk5]; rfl
                  clear hk0 hk1 hk2 hk3 hk4 hk5
                  have hW := HP.out.wf
                  have hwa := HWA.out
                  have HCALL := Lib.hid (fun X (hX : Pu B T p s X) => pu_move hX xa xb xn)
                  obtain ⟨s', hs'⟩ : ∃ t, t = s.movS xa xb xn := ⟨_, rfl⟩
                  rw [← hs'] at HCALL
                  have HTS' : Hid (s'.total = S) := Lib.hid (by rw [hs', (Ps.Wf.movS hW xa xb xn).2]; exact HTS.out)
                  clear hW hwa hs'
                  go_wp2_with fail
                  refine (HCALL.out _ (HP.out.no ((Fr.refl No _).alloc _))).mono ?_
                  rintro e y1 ⟨rfl, hP1, hF1⟩
                  have HP1 := Lib.hid hP1
                  have HF1 := Lib.hid (btw_no (HF.out.alloc _) hF1 HB.out)
                  clear hP1 hF1
                  go_wp2_with fail
                  refine (HTOT.out _ _ HP1.out HTS'.out).mono ?_
                  rintro e y2 ⟨rfl, hF2⟩
                  have HP2 := Lib.hid (HP1.out.no hF2)
                  have HF2 := Lib.hid (HF1.out.trans hF2)
                  clear hF2
                  go_wp2
                  exact ⟨⟨k1, s', HK1.out.2, rfl, HTS'.out, HP2.out, HF2.out⟩, by have := HK1.out; simp [intOf]; omega⟩
                · skip
                  have j0 : (k == 0) = false := by rw [beq_eq_false_iff_ne]; exact hk0
                  have j1 : (k == 1) = false := by rw [beq_eq_false_iff_ne]; exact hk1
                  have j2 : (k == 2) = false := by rw [beq_eq_false_iff_ne]; exact hk2
                  have j3 : (k == 3) = false := by rw [beq_eq_false_iff_ne]; exact hk3
                  have j4 : (k == 4) = false := by rw [beq_eq_false_iff_ne]; exact hk4
                  have j5 : (k == 5) = false := by rw [beq_eq_false_iff_ne]; exact hk5
                  clear hk0 hk1 hk2 hk3 hk4 hk5
                  go_wp2_with fail
                  refine (HTOT.out _ _ (HP.out.no ((Fr.refl No _).alloc _)) HTS.out).mono ?_
                  rintro e y2 ⟨rfl, hF2⟩
                  have HP2 := Lib.hid ((HP.out.no ((Fr.refl No _).alloc _)).no hF2)
                  have HF2 := Lib.hid ((HF.out.alloc _).trans hF2)
                  clear hF2
                  go_wp2
                  exact ⟨⟨k1, s, HK1.out.2, rfl, HTS.out, HP2.out, HF2.out⟩, by have := HK1.out; simp [intOf]; omega⟩
    · have t3 : ¬ (i : Int) < (m : Int) := by omega
      clear hlt hi
      go_wp2_with fail
      go_loop [11, 12] (fun v c => ∃ (j V : Nat), j ≤ n ∧ c = .int .i64 j ∧ v = .int .u64 V ∧ V = sumN (fun i => b.getD i 0) j) (fun _ c => n - (intOf c).toNat)
      case atStart => exact ⟨0, 0, by omega, rfl, rfl, rfl⟩
      case round =>
        obtain ⟨j, V, hj, rfl, rfl, hV⟩ := hrel
        have HV := Lib.hid hV
        by_cases hlt : j < n
        · have t4 : (j : Int) < (n : Int) := by omega
          obtain ⟨a, hao, hc, hb⟩ := HX.out j hlt
          simp only at hc hb
          obtain ⟨q, hq⟩ : ∃ q, a.add j = q := ⟨_, rfl⟩
          rw [hq] at hc
          have cq := HF.out.cellA id hc
          obtain ⟨x, hx⟩ : ∃ x, x = b.getD j 0 := ⟨_, rfl⟩
          rw [← hx] at cq
          obtain ⟨V', hV'⟩ : ∃ V', V' = sumN (fun i => b.getD i 0) (j + 1) := ⟨_, rfl⟩
          have hle : V' ≤ S := by rw [HS.out, hV']; exact sumN_mono _ hlt
          have s2 : (V : Int) + (x : Int) = (V' : Int) := by
            rw [hV', hV, hx]
            show _ = ((sumN (fun i => b.getD i 0) j + b.getD j 0 : Nat) : Int)
            omega
          have l2 := wrapU V' (by have := HS50.out; omega)
          obtain ⟨k1, hk1⟩ : ∃ k, k = j + 1 := ⟨_, rfl⟩
          rw [← hk1] at hV'
          have HV' := Lib.hid hV'
          have HK1 : Hid (k1 = j + 1 ∧ k1 ≤ n) := Lib.hid ⟨hk1, by omega⟩
          have s1 : (j : Int) + 1 = (k1 : Int) := by omega
          have l1 : IntKind.i64.wrap (k1 : Int) = (k1 : Int) := IntWalk.i64_in _ (by have := HN40.out; omega)
          rw [hao]
          clear hlt hj hV hc hb hx hV' hle hk1 hao
          go_wp2
          exact ⟨⟨k1, V', HK1.out.2, rfl, rfl, HV'.out⟩, by have := HK1.out; simp [intOf]; omega⟩
        · have t4 : ¬ (j : Int) < (n : Int) := by omega
          obtain rfl : V = S := by rw [hV, HS.out, show j = n by omega]
          clear hlt hj hV
          go_wp2
          go_ret
          exact ⟨rfl, HF.out⟩
end Go.Proofs.Ytnimeafaciegkaa
