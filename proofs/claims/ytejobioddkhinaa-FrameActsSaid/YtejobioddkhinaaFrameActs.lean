/- The walk of 'FrameActs'. -/
import Derived.Test.YtejobioddkhinaaFrameLeft
namespace Go.Proofs.Ytejobioddkhinaa
open Go.RowKit
set_option linter.unusedVariables false
set_option maxRecDepth 100000

set_option maxHeartbeats 1000000 in
theorem acts_long (ao : Option Addr) (n cap : Nat) (v : Value) (w : World) (hn : 60 < n) : Calls Try.prog 3 #[.slice ao n cap, v] w fun e w' => e = .returned (.bool true) ∧ Fr No w w' := by
  have t0 : decide ((60 : Int) < (n : Int)) = true := decide_eq_true (by omega)
  clear hn
  go_enter Try.func3, Try.ntmps3
  go_wp2_with fail
  refine (shown8_any _).mono ?_
  rintro e w1 ⟨rfl, hF⟩
  have HF := Lib.hid hF
  clear hF
  go_wp2
  go_ret
  exact ⟨rfl, HF.out⟩

set_option maxHeartbeats 1000000 in
theorem acts_long2 (ao bo : Option Addr) (n cap m cap2 : Nat) (w : World) (hn : n ≤ 60) (hm : 60 < m) : Calls Try.prog 3 #[.slice ao n cap, .slice bo m cap2] w fun e w' => e = .returned (.bool true) ∧ Fr No w w' := by
  have t0 : decide ((60 : Int) < (n : Int)) = false := decide_eq_false (by omega)
  have t2 : decide ((60 : Int) < (m : Int)) = true := decide_eq_true (by omega)
  clear hn hm
  go_enter Try.func3, Try.ntmps3
  go_wp2_with fail
  refine (shown8_any _).mono ?_
  rintro e w1 ⟨rfl, hF⟩
  have HF := Lib.hid hF
  clear hF
  go_wp2
  go_ret
  exact ⟨rfl, HF.out⟩

set_option maxHeartbeats 8000000 in
theorem acts_ok (ao bo : Option Addr) (n cap m cap2 : Nat) (ss : Nat → List UInt8) (xs : Nat → Nat) (w : World) (hn : n ≤ 60) (hm : m ≤ 60)
    (hel : ∀ i, i < n → ∃ a, ao = some a ∧ w.cell? (a.add i) = some (.string (str (ss i))) ∧ (ss i).length ≤ maxLen) (hxl : ∀ i, i < m → ∃ a, bo = some a ∧ w.cell? (a.add i) = some (.int .u8 (xs i : Int)) ∧ xs i < 256) :
    Calls Try.prog 3 #[.slice ao n cap, .slice bo m cap2] w fun e w' => e = .returned (.bool true) ∧ Fr No w w' := by
  have t0 : decide ((60 : Int) < (n : Int)) = false := decide_eq_false (by omega)
  have t2 : decide ((60 : Int) < (m : Int)) = false := decide_eq_false (by omega)
  have HE := Lib.hid hel
  have HX := Lib.hid hxl
  have HN := Lib.hid hn
  clear hn hel hxl hm
  go_enter Try.func3, Try.ntmps3
  go_wp2_with fail
  refine (shown8_any _).mono ?_
  rintro e w1 ⟨rfl, hF⟩
  have F1 := Lib.hid hF
  clear hF
  go_wp2_with (refine wpList_execG (.agg zeroSp.toArray) (exec_build 29 #[] rfl #[] (by rfl) _ (sp_build _)) rfl ?_)
  refine wp_world (fun W => Fr No w W ∧ Sp w1.heap.size w1.heap.size [] W) ⟨F1.out.alloc _, Sp.new _ w1 (Nat.le_refl _)⟩ ?_
  rintro w2 ⟨hF2, hS2⟩
  obtain ⟨p, hp⟩ : ∃ p, p = w1.heap.size := ⟨_, rfl⟩
  rw [← hp] at hS2 ⊢
  have HP : Hid (w.heap.size ≤ p) := Lib.hid (by have := F1.out.size; omega)
  have F2 := Lib.hid hF2
  have S2 := Lib.hid hS2
  clear hF2 hS2 hp F1 t0 t2
  go_loopw [6, 7] (fun x c wr => ∃ (i : Nat) (r : List UInt8), i ≤ n ∧ c = .int .i64 i ∧ x = .string (str r) ∧ r.length ≤ 1500 * i ∧ Sp p p r wr ∧ Fr No w wr) (fun _ c _ => n - (intOf c).toNat)
  case atStart => exact ⟨0, [], by omega, rfl, rfl, by simp, S2.out, F2.out⟩
  clear F2 S2
  case round =>
    obtain ⟨i, r, hi, rfl, rfl, hC, hS, hF⟩ := hrel
    by_cases hlt : i < n
    · have hlt2 : (i : Int) < n := by omega
      obtain ⟨a, rfl, hca, hsl⟩ := HE.out i hlt
      obtain ⟨q, hq⟩ : ∃ q, q = a.add i := ⟨_, rfl⟩
      rw [← hq] at hca
      obtain ⟨s, hs⟩ : ∃ s, s = ss i := ⟨_, rfl⟩
      rw [← hs] at hca hsl
      have hq' : a.add i = q := hq.symm
      have hsz := str_size s
      obtain ⟨L, hL⟩ : ∃ L, L = s.length := ⟨_, rfl⟩
      have cq := hF.cellA id hca
      have HCA := Lib.hid hca
      obtain ⟨U, hU⟩ : ∃ U, U = str s := ⟨_, rfl⟩
      rw [← hU] at cq hsz HCA
      have hszU : (U.size : Int) = (L : Int) := by omega
      have HF := Lib.hid hF
      have HI : Hid (i + 1 ≤ n ∧ n ≤ 60) := Lib.hid ⟨hlt, HN.out⟩
      clear hs hsl hq hca hsz hF hlt hi
      by_cases hbig : 1500 < L
      · have hb2 : (1500 : Int) < (L : Int) := by omega
        clear hC hS hbig hL hU
        go_wp2_with fail
        refine (shown8_any _).mono ?_
        rintro e w3 ⟨rfl, hF3⟩
        have HF3 := Lib.hid (HF.out.trans hF3)
        clear hF3
        go_wp2
        go_ret
        exact ⟨rfl, HF3.out⟩
      · have hb2 : ¬ (1500 : Int) < (L : Int) := by omega
        have hPu := fun X => fput_any s (by omega) X
        have hRP := fun X => r8put_any s (by omega) X
        rw [← hU] at hPu hRP
        obtain ⟨V, hV⟩ : ∃ V, V = str (putV s) := ⟨_, rfl⟩
        obtain ⟨E, hE⟩ : ∃ E, E = putE s := ⟨_, rfl⟩
        rw [← hV, ← hE] at hPu hRP
        have HPU := Lib.hid hPu
        have HRP := Lib.hid hRP
        have hRB := fun X => r8bad_any r (by have := HI.out; omega) X
        obtain ⟨T, hT⟩ : ∃ T, T = str r := ⟨_, rfl⟩
        rw [← hT] at hRB ⊢
        have HRB := Lib.hid hRB
        have hPH := fun X (h : Sp p p r X) => fpush_any p p r s X h (by have := HI.out; omega) (by omega)
        rw [← hU] at hPH
        have HPH := Lib.hid hPH
        have HS := Lib.hid hS
        have hni := HI.out
        have e3 : IntKind.i64.wrap ((i : Int) + 1) = ((i + 1 : Nat) : Int) := IntWalk.i64_in _ (by omega)
        have HQ : Hid (n - (i + 1) < n - i) := Lib.hid (by omega)
        have happ : T ++ U = str (r ++ s) := by rw [hT, hU, str_append]
        have hszT := str_size r
        rw [← hT] at hszT
        have hnc : ¬ 9223372036854775807 < T.size + U.size := by omega
        have HLr : Hid ((r ++ s).length ≤ 1500 * (i + 1) ∧ r.length ≤ 1500 * (i + 1)) := Lib.hid (by rw [List.length_append]; omega)
        have HT := Lib.hid hT
        clear hPu hRP hV hE hRB hPH hC hbig hni hS hszT hU hT hL
        go_wp2_with fail
        refine (HPU.out _).mono ?_
        rintro e x1 ⟨rfl, hF⟩
        have F_x1 := Lib.hid (HF.out.trans hF)
        have HS1 := Lib.hid (HS.out.fr hF)
        have cq1 := F_x1.out.cellA id HCA.out
        clear hF HPU cq HF HS
        go_wp2_with fail
        refine (HRP.out _).mono ?_
        rintro e x2 ⟨rfl, hF⟩
        have F_x2 := Lib.hid (F_x1.out.trans hF)
        have HS2 := Lib.hid (HS1.out.fr hF)
        have cq2 := F_x2.out.cellA id HCA.out
        clear hF HRP cq1 F_x1 HS1
        go_wp2_with fail
        refine (HRB.out _).mono ?_
        rintro e x3 ⟨rfl, hF⟩
        have F_x3 := Lib.hid (F_x2.out.trans hF)
        have HS3 := Lib.hid (HS2.out.fr hF)
        have cq3 := F_x3.out.cellA id HCA.out
        clear hF HRB cq2 F_x2 HS2
        have hp3 := HPH.out _ HS3.out
        obtain ⟨R, hR⟩ : ∃ R, R = pushV r s := ⟨_, rfl⟩
        rw [← hR] at hp3
        have HP3 := Lib.hid hp3
        by_cases hbad : badF r = true
        · have e1 : pushE r = 80 := by rw [pushE, if_pos hbad]
          obtain rfl : R = r := by rw [hR, pushV, if_pos hbad]
          rw [hbad]
          rw [e1] at HP3
          have HRL : Hid (R.length ≤ 1500 * (i + 1)) := Lib.hid HLr.out.2
          have HTR := HT
          clear hR hp3 hbad e1 HPH HS3 happ hnc HLr HT
          go_wp2_with fail
          refine HP3.out.mono ?_
          rintro e x4 ⟨rfl, hS', hk⟩
          have SX4 := Lib.hid hS'
          have FX4 := Lib.hid (KSp.no F_x3.out hk HP.out)
          clear hS' hk HP3 F_x3 cq3 hszU
          go_wp2
          go_loopw [6, 13] (fun x c wr2 => ∃ (k : Nat) (R' : List UInt8), k ≤ 5 ∧ c = .int .i64 k ∧ x = .string (str R') ∧ R'.length ≤ 1500 * (i + 1) ∧ Sp p p R' wr2 ∧ Fr No w wr2) (fun _ c _ => 5 - (intOf c).toNat)
          case atStart => exact ⟨0, R, by omega, rfl, by rw [← HTR.out], HRL.out, SX4.out, FX4.out⟩
          clear SX4 FX4
          case round =>
            obtain ⟨k, R', hk5, rfl, rfl, hC', hS', hF'⟩ := hrel
            by_cases him : i < m
            · have him2 : (i : Int) < (m : Int) := by omega
              have g1 : decide ((i : Int) < (m : Int)) = true := decide_eq_true him2
              have g2 : decide (i < m) = true := decide_eq_true him
              obtain ⟨b0, rfl, hcb, hxb⟩ := HX.out i him
              obtain ⟨q2, hq2⟩ : ∃ q, q = b0.add i := ⟨_, rfl⟩
              rw [← hq2] at hcb
              obtain ⟨xv, hxv⟩ : ∃ x, x = xs i := ⟨_, rfl⟩
              rw [← hxv] at hcb hxb
              have hq2' : b0.add i = q2 := hq2.symm
              have cb := hF'.cellA id hcb
              obtain ⟨M, hM⟩ : ∃ M, M = xv % 5 := ⟨_, rfl⟩
              have r1 : (xv : Int).tmod 5 = (M : Int) := by rw [hM, Int.tmod_eq_emod_of_nonneg (by omega)]; omega
              have r2 : (xv : Int) % 5 = (M : Int) := by omega
              have wx : IntKind.i64.wrap (xv : Int) = (xv : Int) := IntWalk.i64_in _ (by omega)
              have wM : IntKind.i64.wrap (M : Int) = (M : Int) := IntWalk.i64_in _ (by omega)
              by_cases hkM : k < M
              · have g3 : decide (k < M) = true := decide_eq_true hkM
                have g4 : decide ((k : Int) < (M : Int)) = true := decide_eq_true (by omega)
                have hnx := fun X (h : Sp p p R' X) => fnext_any p p R' X h (by have := HI.out; omega)
                have hrx := fun X => r8next_any R' (by have := HI.out; omega) X
                obtain ⟨V1, hV1⟩ : ∃ V, V = str (textF R') := ⟨_, rfl⟩
                obtain ⟨T', hT'⟩ : ∃ T, T = str R' := ⟨_, rfl⟩
                obtain ⟨R2, hR2⟩ : ∃ T, T = restF R' := ⟨_, rfl⟩
                obtain ⟨y, hy⟩ : ∃ y, y = isF R' := ⟨_, rfl⟩
                have hle := restF_le R'
                rw [← hR2] at hle
                rw [← hT', ← hV1, ← hR2, ← hy] at hrx
                rw [← hV1, ← hR2, ← hy] at hnx
                rw [← hT']
                have HNX := Lib.hid hnx
                have HRX := Lib.hid hrx
                have HS' := Lib.hid hS'
                have HF' := Lib.hid hF'
                have HR2 : Hid (R2.length ≤ 1500 * (i + 1)) := Lib.hid (by omega)
                have e5 : IntKind.i64.wrap ((k : Int) + 1) = ((k + 1 : Nat) : Int) := IntWalk.i64_in _ (by omega)
                have HK : Hid (k + 1 ≤ 5 ∧ 5 - (k + 1) < 5 - k) := Lib.hid (by omega)
                clear hnx hrx hS' hF' hC' hV1 hT' hR2 hy hle him hq2 hcb hxv hM hxb hkM hk5
                go_wp2_with fail
                refine (HNX.out _ HS'.out).mono ?_
                rintro e z1 ⟨rfl, hS', hk⟩
                have SZ1 := Lib.hid hS'
                have FZ1 := Lib.hid (KSp.no HF'.out hk HP.out)
                clear hS' hk HNX HS' HF' cb
                go_wp2_with fail
                refine (HRX.out _).mono ?_
                rintro e z2 ⟨rfl, hF⟩
                have SZ2 := Lib.hid (SZ1.out.fr hF)
                have FZ2 := Lib.hid (FZ1.out.trans hF)
                clear hF HRX SZ1 FZ1
                go_wp2
                exact ⟨⟨k + 1, R2, HK.out.1, by simp, rfl, HR2.out, SZ2.out, FZ2.out⟩, by simpa [intOf] using HK.out.2⟩
              · have g3 : decide (k < M) = false := decide_eq_false hkM
                have g4 : decide ((k : Int) < (M : Int)) = false := decide_eq_false (by omega)
                clear hkM hcb hq2 hxv hM hxb him hk5
                have hlf := fun X (h : Sp p p R' X) => fleft_any p p R' X h (by have := HI.out; omega)
                have hbf := fun X (h : Sp p p R' X) => fbad_any p p R' X h (by have := HI.out; omega)
                have hrf := fun X => r8bad_any R' (by have := HI.out; omega) X
                obtain ⟨K, hK⟩ : ∃ K, K = R'.length := ⟨_, rfl⟩
                obtain ⟨bd, hbd⟩ : ∃ b, b = badF R' := ⟨_, rfl⟩
                have hszR := str_size R'
                obtain ⟨T', hT'⟩ : ∃ T, T = str R' := ⟨_, rfl⟩
                rw [← hT'] at hszR hrf ⊢
                rw [← hK] at hlf hszR
                rw [← hbd] at hbf hrf
                have hszR2 : (T'.size : Int) = (K : Int) := by omega
                have HLF := Lib.hid hlf
                have HBF := Lib.hid hbf
                have HRF := Lib.hid hrf
                have HS' := Lib.hid hS'
                have HF' := Lib.hid hF'
                have HR' : Hid (R'.length ≤ 1500 * (i + 1)) := Lib.hid hC'
                have HT' := Lib.hid hT'
                clear hlf hbf hrf hK hbd hszR hS' hF' hC' hT'
                go_wp2_with fail
                refine (HLF.out _ HS'.out).mono ?_
                rintro e y1 ⟨rfl, hS', hk⟩
                have SY1 := Lib.hid hS'
                have FY1 := Lib.hid (KSp.no HF'.out hk HP.out)
                clear hS' hk HLF HS' HF'
                go_wp2_with fail
                refine (HBF.out _ SY1.out).mono ?_
                rintro e y2 ⟨rfl, hS', hk⟩
                have SY2 := Lib.hid hS'
                have FY2 := Lib.hid (KSp.no FY1.out hk HP.out)
                clear hS' hk HBF SY1 FY1
                go_wp2_with fail
                refine (HRF.out _).mono ?_
                rintro e y3 ⟨rfl, hF⟩
                have SY3 := Lib.hid (SY2.out.fr hF)
                have FY3 := Lib.hid (FY2.out.trans hF)
                clear hF HRF SY2 FY2
                go_wp2
                exact ⟨⟨i + 1, R', HI.out.1, by simp, by rw [← HT'.out], HR'.out, SY3.out, FY3.out⟩, by simpa [intOf] using HQ.out⟩
            · have g1 : decide ((i : Int) < (m : Int)) = false := decide_eq_false (by omega)
              have g2 : decide (i < m) = false := decide_eq_false him
              clear him hk5
              have hlf := fun X (h : Sp p p R' X) => fleft_any p p R' X h (by have := HI.out; omega)
              have hbf := fun X (h : Sp p p R' X) => fbad_any p p R' X h (by have := HI.out; omega)
              have hrf := fun X => r8bad_any R' (by have := HI.out; omega) X
              obtain ⟨K, hK⟩ : ∃ K, K = R'.length := ⟨_, rfl⟩
              obtain ⟨bd, hbd⟩ : ∃ b, b = badF R' := ⟨_, rfl⟩
              have hszR := str_size R'
              obtain ⟨T', hT'⟩ : ∃ T, T = str R' := ⟨_, rfl⟩
              rw [← hT'] at hszR hrf ⊢
              rw [← hK] at hlf hszR
              rw [← hbd] at hbf hrf
              have hszR2 : (T'.size : Int) = (K : Int) := by omega
              have HLF := Lib.hid hlf
              have HBF := Lib.hid hbf
              have HRF := Lib.hid hrf
              have HS' := Lib.hid hS'
              have HF' := Lib.hid hF'
              have HR' : Hid (R'.length ≤ 1500 * (i + 1)) := Lib.hid hC'
              have HT' := Lib.hid hT'
              clear hlf hbf hrf hK hbd hszR hS' hF' hC' hT'
              go_wp2_with fail
              refine (HLF.out _ HS'.out).mono ?_
              rintro e y1 ⟨rfl, hS', hk⟩
              have SY1 := Lib.hid hS'
              have FY1 := Lib.hid (KSp.no HF'.out hk HP.out)
              clear hS' hk HLF HS' HF'
              go_wp2_with fail
              refine (HBF.out _ SY1.out).mono ?_
              rintro e y2 ⟨rfl, hS', hk⟩
              have SY2 := Lib.hid hS'
              have FY2 := Lib.hid (KSp.no FY1.out hk HP.out)
              clear hS' hk HBF SY1 FY1
              go_wp2_with fail
              refine (HRF.out _).mono ?_
              rintro e y3 ⟨rfl, hF⟩
              have SY3 := Lib.hid (SY2.out.fr hF)
              have FY3 := Lib.hid (FY2.out.trans hF)
              clear hF HRF SY2 FY2
              go_wp2
              exact ⟨⟨i + 1, R', HI.out.1, by simp, by rw [← HT'.out], HR'.out, SY3.out, FY3.out⟩, by simpa [intOf] using HQ.out⟩
        · have e1 : pushE r = 0 := by rw [pushE, if_neg hbad]
          have eR : R = r ++ s := by rw [hR, pushV, if_neg hbad]
          obtain ⟨T2, hT2⟩ : ∃ T, T = str R := ⟨_, rfl⟩
          rw [← eR, ← hT2] at happ
          have hb2' : badF r = false := by simpa using hbad
          rw [hb2']
          rw [e1] at HP3
          have HRL : Hid (R.length ≤ 1500 * (i + 1)) := Lib.hid (by rw [eR]; exact HLr.out.1)
          have HTR := Lib.hid hT2
          clear hR hp3 hbad e1 HPH HS3 HLr HT eR hb2' hT2
          go_wp2_with fail
          refine HP3.out.mono ?_
          rintro e x4 ⟨rfl, hS', hk⟩
          have SX4 := Lib.hid hS'
          have FX4 := Lib.hid (KSp.no F_x3.out hk HP.out)
          clear hS' hk HP3 F_x3 cq3 hszU
          go_wp2
          go_loopw [6, 13] (fun x c wr2 => ∃ (k : Nat) (R' : List UInt8), k ≤ 5 ∧ c = .int .i64 k ∧ x = .string (str R') ∧ R'.length ≤ 1500 * (i + 1) ∧ Sp p p R' wr2 ∧ Fr No w wr2) (fun _ c _ => 5 - (intOf c).toNat)
          case atStart => exact ⟨0, R, by omega, rfl, by rw [← HTR.out], HRL.out, SX4.out, FX4.out⟩
          clear SX4 FX4
          case round =>
            obtain ⟨k, R', hk5, rfl, rfl, hC', hS', hF'⟩ := hrel
            by_cases him : i < m
            · have him2 : (i : Int) < (m : Int) := by omega
              have g1 : decide ((i : Int) < (m : Int)) = true := decide_eq_true him2
              have g2 : decide (i < m) = true := decide_eq_true him
              obtain ⟨b0, rfl, hcb, hxb⟩ := HX.out i him
              obtain ⟨q2, hq2⟩ : ∃ q, q = b0.add i := ⟨_, rfl⟩
              rw [← hq2] at hcb
              obtain ⟨xv, hxv⟩ : ∃ x, x = xs i := ⟨_, rfl⟩
              rw [← hxv] at hcb hxb
              have hq2' : b0.add i = q2 := hq2.symm
              have cb := hF'.cellA id hcb
              obtain ⟨M, hM⟩ : ∃ M, M = xv % 5 := ⟨_, rfl⟩
              have r1 : (xv : Int).tmod 5 = (M : Int) := by rw [hM, Int.tmod_eq_emod_of_nonneg (by omega)]; omega
              have r2 : (xv : Int) % 5 = (M : Int) := by omega
              have wx : IntKind.i64.wrap (xv : Int) = (xv : Int) := IntWalk.i64_in _ (by omega)
              have wM : IntKind.i64.wrap (M : Int) = (M : Int) := IntWalk.i64_in _ (by omega)
              by_cases hkM : k < M
              · have g3 : decide (k < M) = true := decide_eq_true hkM
                have g4 : decide ((k : Int) < (M : Int)) = true := decide_eq_true (by omega)
                have hnx := fun X (h : Sp p p R' X) => fnext_any p p R' X h (by have := HI.out; omega)
                have hrx := fun X => r8next_any R' (by have := HI.out; omega) X
                obtain ⟨V1, hV1⟩ : ∃ V, V = str (textF R') := ⟨_, rfl⟩
                obtain ⟨T', hT'⟩ : ∃ T, T = str R' := ⟨_, rfl⟩
                obtain ⟨R2, hR2⟩ : ∃ T, T = restF R' := ⟨_, rfl⟩
                obtain ⟨y, hy⟩ : ∃ y, y = isF R' := ⟨_, rfl⟩
                have hle := restF_le R'
                rw [← hR2] at hle
                rw [← hT', ← hV1, ← hR2, ← hy] at hrx
                rw [← hV1, ← hR2, ← hy] at hnx
                rw [← hT']
                have HNX := Lib.hid hnx
                have HRX := Lib.hid hrx
                have HS' := Lib.hid hS'
                have HF' := Lib.hid hF'
                have HR2 : Hid (R2.length ≤ 1500 * (i + 1)) := Lib.hid (by omega)
                have e5 : IntKind.i64.wrap ((k : Int) + 1) = ((k + 1 : Nat) : Int) := IntWalk.i64_in _ (by omega)
                have HK : Hid (k + 1 ≤ 5 ∧ 5 - (k + 1) < 5 - k) := Lib.hid (by omega)
                clear hnx hrx hS' hF' hC' hV1 hT' hR2 hy hle him hq2 hcb hxv hM hxb hkM hk5
                go_wp2_with fail
                refine (HNX.out _ HS'.out).mono ?_
                rintro e z1 ⟨rfl, hS', hk⟩
                have SZ1 := Lib.hid hS'
                have FZ1 := Lib.hid (KSp.no HF'.out hk HP.out)
                clear hS' hk HNX HS' HF' cb
                go_wp2_with fail
                refine (HRX.out _).mono ?_
                rintro e z2 ⟨rfl, hF⟩
                have SZ2 := Lib.hid (SZ1.out.fr hF)
                have FZ2 := Lib.hid (FZ1.out.trans hF)
                clear hF HRX SZ1 FZ1
                go_wp2
                exact ⟨⟨k + 1, R2, HK.out.1, by simp, rfl, HR2.out, SZ2.out, FZ2.out⟩, by simpa [intOf] using HK.out.2⟩
              · have g3 : decide (k < M) = false := decide_eq_false hkM
                have g4 : decide ((k : Int) < (M : Int)) = false := decide_eq_false (by omega)
                clear hkM hcb hq2 hxv hM hxb him hk5
                have hlf := fun X (h : Sp p p R' X) => fleft_any p p R' X h (by have := HI.out; omega)
                have hbf := fun X (h : Sp p p R' X) => fbad_any p p R' X h (by have := HI.out; omega)
                have hrf := fun X => r8bad_any R' (by have := HI.out; omega) X
                obtain ⟨K, hK⟩ : ∃ K, K = R'.length := ⟨_, rfl⟩
                obtain ⟨bd, hbd⟩ : ∃ b, b = badF R' := ⟨_, rfl⟩
                have hszR := str_size R'
                obtain ⟨T', hT'⟩ : ∃ T, T = str R' := ⟨_, rfl⟩
                rw [← hT'] at hszR hrf ⊢
                rw [← hK] at hlf hszR
                rw [← hbd] at hbf hrf
                have hszR2 : (T'.size : Int) = (K : Int) := by omega
                have HLF := Lib.hid hlf
                have HBF := Lib.hid hbf
                have HRF := Lib.hid hrf
                have HS' := Lib.hid hS'
                have HF' := Lib.hid hF'
                have HR' : Hid (R'.length ≤ 1500 * (i + 1)) := Lib.hid hC'
                have HT' := Lib.hid hT'
                clear hlf hbf hrf hK hbd hszR hS' hF' hC' hT'
                go_wp2_with fail
                refine (HLF.out _ HS'.out).mono ?_
                rintro e y1 ⟨rfl, hS', hk⟩
                have SY1 := Lib.hid hS'
                have FY1 := Lib.hid (KSp.no HF'.out hk HP.out)
                clear hS' hk HLF HS' HF'
                go_wp2_with fail
                refine (HBF.out _ SY1.out).mono ?_
                rintro e y2 ⟨rfl, hS', hk⟩
                have SY2 := Lib.hid hS'
                have FY2 := Lib.hid (KSp.no FY1.out hk HP.out)
                clear hS' hk HBF SY1 FY1
                go_wp2_with fail
                refine (HRF.out _).mono ?_
                rintro e y3 ⟨rfl, hF⟩
                have SY3 := Lib.hid (SY2.out.fr hF)
                have FY3 := Lib.hid (FY2.out.trans hF)
                clear hF HRF SY2 FY2
                go_wp2
                exact ⟨⟨i + 1, R', HI.out.1, by simp, by rw [← HT'.out], HR'.out, SY3.out, FY3.out⟩, by simpa [intOf] using HQ.out⟩
            · have g1 : decide ((i : Int) < (m : Int)) = false := decide_eq_false (by omega)
              have g2 : decide (i < m) = false := decide_eq_false him
              clear him hk5
              have hlf := fun X (h : Sp p p R' X) => fleft_any p p R' X h (by have := HI.out; omega)
              have hbf := fun X (h : Sp p p R' X) => fbad_any p p R' X h (by have := HI.out; omega)
              have hrf := fun X => r8bad_any R' (by have := HI.out; omega) X
              obtain ⟨K, hK⟩ : ∃ K, K = R'.length := ⟨_, rfl⟩
              obtain ⟨bd, hbd⟩ : ∃ b, b = badF R' := ⟨_, rfl⟩
              have hszR := str_size R'
              obtain ⟨T', hT'⟩ : ∃ T, T = str R' := ⟨_, rfl⟩
              rw [← hT'] at hszR hrf ⊢
              rw [← hK] at hlf hszR
              rw [← hbd] at hbf hrf
              have hszR2 : (T'.size : Int) = (K : Int) := by omega
              have HLF := Lib.hid hlf
              have HBF := Lib.hid hbf
              have HRF := Lib.hid hrf
              have HS' := Lib.hid hS'
              have HF' := Lib.hid hF'
              have HR' : Hid (R'.length ≤ 1500 * (i + 1)) := Lib.hid hC'
              have HT' := Lib.hid hT'
              clear hlf hbf hrf hK hbd hszR hS' hF' hC' hT'
              go_wp2_with fail
              refine (HLF.out _ HS'.out).mono ?_
              rintro e y1 ⟨rfl, hS', hk⟩
              have SY1 := Lib.hid hS'
              have FY1 := Lib.hid (KSp.no HF'.out hk HP.out)
              clear hS' hk HLF HS' HF'
              go_wp2_with fail
              refine (HBF.out _ SY1.out).mono ?_
              rintro e y2 ⟨rfl, hS', hk⟩
              have SY2 := Lib.hid hS'
              have FY2 := Lib.hid (KSp.no FY1.out hk HP.out)
              clear hS' hk HBF SY1 FY1
              go_wp2_with fail
              refine (HRF.out _).mono ?_
              rintro e y3 ⟨rfl, hF⟩
              have SY3 := Lib.hid (SY2.out.fr hF)
              have FY3 := Lib.hid (FY2.out.trans hF)
              clear hF HRF SY2 FY2
              go_wp2
              exact ⟨⟨i + 1, R', HI.out.1, by simp, by rw [← HT'.out], HR'.out, SY3.out, FY3.out⟩, by simpa [intOf] using HQ.out⟩
    · have hlt2 : ¬ (i : Int) < n := by omega
      have hlf := fleft_any p p r _ hS (by have := HN.out; omega)
      have hsz := str_size r
      obtain ⟨K, hK⟩ : ∃ K, K = r.length := ⟨_, rfl⟩
      obtain ⟨T, hT⟩ : ∃ T, T = str r := ⟨_, rfl⟩
      rw [← hT] at hsz ⊢
      rw [← hK] at hsz hlf
      have hsz2 : (T.size : Int) = (K : Int) := by omega
      have HF := Lib.hid hF
      have HLF := Lib.hid hlf
      clear hC hS hF hlt hi hlf hsz hK hT
      go_wp2_with fail
      refine HLF.out.mono ?_
      rintro e y1 ⟨rfl, hS', hk⟩
      have FY1 := Lib.hid (KSp.no HF.out hk HP.out)
      clear hS' hk HF HLF
      go_wp2
      go_ret
      exact ⟨rfl, FY1.out⟩
end Go.Proofs.Ytejobioddkhinaa
