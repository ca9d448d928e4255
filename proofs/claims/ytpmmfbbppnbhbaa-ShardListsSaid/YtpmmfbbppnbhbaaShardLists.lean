/- The walk of 'ShardLists'. -/
import Derived.Test.YtpmmfbbppnbhbaaSdL
import Derived.Test.YtpmmfbbppnbhbaaPuT
namespace Go.Proofs.Ytpmmfbbppnbhbaa
open Go.RowKit
set_option linter.unusedVariables false
set_option maxRecDepth 100000
set_option maxHeartbeats 1000000 in
theorem lists_long (ao : Option Addr) (n cap : Nat) (v : Value) (w : World) (hn : 40 < n) : Calls Try.prog 7 #[.slice ao n cap, v] w fun e w' => e = .returned (.bool true) ∧ Fr No w w' := by
  have t0 : decide ((40 : Int) < (n : Int)) = true := decide_eq_true (by omega)
  clear hn
  go_enter Try.func7, Try.ntmps7
  go_wp2_with fail
  refine (shown10_any _).mono ?_
  rintro e w1 ⟨rfl, hF⟩
  have HF := Lib.hid hF
  clear hF
  go_wp2
  go_ret
  exact ⟨rfl, HF.out⟩

set_option maxHeartbeats 1000000 in
theorem lists_long2 (ao bo : Option Addr) (n cap m cap2 : Nat) (w : World) (hn : n ≤ 40) (hm : 200 < m) : Calls Try.prog 7 #[.slice ao n cap, .slice bo m cap2] w fun e w' => e = .returned (.bool true) ∧ Fr No w w' := by
  have t0 : decide ((40 : Int) < (n : Int)) = false := decide_eq_false (by omega)
  have t2 : decide ((200 : Int) < (m : Int)) = true := decide_eq_true (by omega)
  clear hn hm
  go_enter Try.func7, Try.ntmps7
  go_wp2_with fail
  refine (shown10_any _).mono ?_
  rintro e w1 ⟨rfl, hF⟩
  have HF := Lib.hid hF
  clear hF
  go_wp2
  go_ret
  exact ⟨rfl, HF.out⟩
set_option maxHeartbeats 4000000 in
theorem lists_bad (ao bo : Option Addr) (n cap m cap2 : Nat) (b : List Nat) (xs : Nat → A9) (w : World) (hn : n ≤ 40) (hm : m ≤ 200) (hb : n = b.length) (hx : Nums w ao n (fun i => b.getD i 0)) (ha : Acts w bo m xs) (hy : false = Ps.newOk b) : Calls Try.prog 7 #[.slice ao n cap, .slice bo m cap2] w fun e w' => e = .returned (.bool true) ∧ Fr No w w' := by
  have t0 : decide ((40 : Int) < (n : Int)) = false := decide_eq_false (by omega)
  have t2 : decide ((200 : Int) < (m : Int)) = false := decide_eq_false (by omega)
  have HX := Lib.hid hx
  have HA := Lib.hid ha
  have HN := Lib.hid hb
  have HN40 : Hid (n ≤ 40 ∧ m ≤ 200) := Lib.hid ⟨hn, hm⟩
  have HY := Lib.hid hy
  have HPL := Lib.hid (fun X (hX : Nums X ao n (fun i => b.getD i 0)) => played_bad ao n cap (.slice bo m cap2) b X hb hn hX hy)
  have HDN := Lib.hid (fun X (hX : Nums X ao n (fun i => b.getD i 0)) => rnew_any ao n cap b X hb (by omega) hX)
  clear hx ha hb hn hm hy
  go_enter Try.func7, Try.ntmps7
  go_wp2_with fail
  refine (shown10_any _).mono ?_
  rintro e w1 ⟨rfl, hF⟩
  have HF := Lib.hid hF
  clear hF
  go_wp2_with fail
  refine (HPL.out _ (HX.out.fr HF.out (fun _ _ => id))).mono ?_
  intro e w2 h
  unfold Played at h
  rw [← HY.out] at h
  obtain ⟨rfl, hF2⟩ := h
  have HF2 := Lib.hid (HF.out.trans hF2)
  clear hF2 HPL
  go_wp2_with fail
  refine (HDN.out _ (HX.out.fr HF2.out (fun _ _ => id))).mono ?_
  intro e w3 h
  unfold DNew at h
  rw [← HY.out] at h
  obtain ⟨rfl, hF3⟩ := h
  have HF3 := Lib.hid (HF2.out.trans hF3)
  clear hF3 HDN
  obtain ⟨rb, hrb⟩ : ∃ r, r = w3.heap.size := ⟨_, rfl⟩
  have HAL : Hid ((Instr.alloc 32 true (.tuple #[])).run Try.prog w3 = .ok (.pointer (some ⟨rb, 0, none⟩)) (w3.alloc (.cells zeroP.toArray 32))) := Lib.hid (by rw [hrb]; exact alloc_rp w3)
  have HZ : Hid (Blk (w3.alloc (.cells zeroP.toArray 32)) rb 32 zeroP) := Lib.hid (by rw [hrb]; exact Blk.new w3 _ _)
  obtain ⟨Y, hY, hYB, hYF⟩ := store_rp HZ.out (L := cellsP none 0 0 (List.replicate 32 (0, 0))) (cellsP_len rfl) (cellsP_len rfl) cellsP_one
  have HYS := Lib.hid hY
  have HFY : Hid (Fr No w Y) := Lib.hid ((HF3.out.alloc _).trans' hYF (fun i hi e => by have := HF3.out.size; omega))
  clear hY hYB hYF hrb
  go_wp2_with (first
    | (refine wpList_execG (.pointer (some ⟨rb, 0, none⟩)) (exec_alloc 32 rfl _ HAL.out) rfl ?_)
    | (refine wpList_store_eq rfl 32 _ _ rfl (.pointer (some ⟨rb, 0, none⟩)) (vP none 0 0 (List.replicate 32 (0, 0))) rfl rfl HYS.out ?_))
  go_ret
  exact ⟨rfl, HFY.out⟩
set_option maxHeartbeats 16000000 in
theorem lists_ok (ao bo : Option Addr) (n cap m cap2 : Nat) (b : List Nat) (xs : Nat → A9) (w : World) (hn : n ≤ 40) (hm : m ≤ 200) (hb : n = b.length) (hx : Nums w ao n (fun i => b.getD i 0)) (ha : Acts w bo m xs) (hy : true = Ps.newOk b) : Calls Try.prog 7 #[.slice ao n cap, .slice bo m cap2] w fun e w' => e = .returned (.bool true) ∧ Fr No w w' := by
  have t0 : decide ((40 : Int) < (n : Int)) = false := decide_eq_false (by omega)
  have t2 : decide ((200 : Int) < (m : Int)) = false := decide_eq_false (by omega)
  have HX := Lib.hid hx
  have HA := Lib.hid ha
  have HN := Lib.hid hb
  have HN40 : Hid (n ≤ 40 ∧ m ≤ 200) := Lib.hid ⟨hn, hm⟩
  have HY := Lib.hid hy
  have HPL := Lib.hid (fun X (hX : Nums X ao n (fun i => b.getD i 0)) (hA : Acts X bo m xs) => played_ok ao bo n cap m cap2 b xs X hb hn (by omega) hX hA hy)
  clear hx ha hb hn hm hy
  go_enter Try.func7, Try.ntmps7
  go_wp2_with fail
  refine (shown10_any _).mono ?_
  rintro e w1 ⟨rfl, hF⟩
  have HF := Lib.hid hF
  clear hF
  go_wp2_with fail
  refine (HPL.out _ (HX.out.fr HF.out (fun _ _ => id)) (HA.out.no HF.out)).mono ?_
  intro e w2 h
  unfold Played at h
  rw [← HY.out, if_pos rfl] at h
  obtain ⟨p, O, s, tv, rfl, hK, hI, hT, hD, hSm⟩ := h
  have HSM := Lib.hid hSm
  clear hSm
  have HK := Lib.hid (hK.up HF.out)
  have HKW := Lib.hid hK
  have HI := Lib.hid hI
  have HT := Lib.hid hT
  have HD := Lib.hid hD
  obtain ⟨ta, tc, htv, _⟩ := hT.slice
  obtain ⟨Ln, hLn⟩ : ∃ L, L = s.sts.length := ⟨_, rfl⟩
  have HLN : Hid (Ln = s.t.length ∧ Ln ≤ 32) := Lib.hid ⟨by rw [hLn, Bs.sts_len], by rw [hLn, Bs.sts_len]; exact HK.out.bk.inv.len⟩
  rw [← hLn] at htv
  subst htv
  clear hK hI hT hD HPL hLn
  obtain ⟨S, hS⟩ : ∃ S, S = sumN (fun i => b.getD i 0) n := ⟨_, rfl⟩
  have HS := Lib.hid hS
  have HS50 : Hid (S ≤ 1125899906842624) := Lib.hid (by
    have h := HY.out.symm
    unfold Ps.newOk at h
    rw [decide_eq_true_eq] at h
    rw [hS, HN.out]
    exact h.2.2)
  have HNN : Hid (n ≤ 40) := Lib.hid HN40.out.1
  clear hS
  go_wp2_with fail
  go_loop [9, 10] (fun v c => ∃ (j V : Nat), j ≤ n ∧ c = .int .i64 j ∧ v = .int .u64 V ∧ V = sumN (fun i => b.getD i 0) j) (fun _ c => n - (intOf c).toNat)
  case atStart => exact ⟨0, 0, by omega, rfl, rfl, rfl⟩
  case round =>
    obtain ⟨j, V, hj, rfl, rfl, hV⟩ := hrel
    have HV := Lib.hid hV
    by_cases hlt : j < n
    · have t4 : (j : Int) < (n : Int) := by omega
      obtain ⟨a, hao, hc, hb⟩ := HX.out j hlt
      simp only at hc hb
      obtain ⟨q, hq⟩ : ∃ q, a.add j = q := ⟨_, rfl⟩
      rw [hq] at hc
      have cq := HK.out.fr.cellA id hc
      obtain ⟨x9, hx⟩ : ∃ x, x = b.getD j 0 := ⟨_, rfl⟩
      rw [← hx] at cq
      obtain ⟨V', hV'⟩ : ∃ V', V' = sumN (fun i => b.getD i 0) (j + 1) := ⟨_, rfl⟩
      have hle : V' ≤ S := by rw [HS.out, hV']; exact sumN_mono _ hlt
      have s2 : (V : Int) + (x9 : Int) = (V' : Int) := by
        rw [hV', hV, hx]
        show _ = ((sumN (fun i => b.getD i 0) j + b.getD j 0 : Nat) : Int)
        omega
      have l2 := wrapU V' (by have := HS50.out; omega)
      obtain ⟨k9, hk1⟩ : ∃ k, k = j + 1 := ⟨_, rfl⟩
      rw [← hk1] at hV'
      have HV' := Lib.hid hV'
      have HK9 : Hid (k9 = j + 1 ∧ k9 ≤ n) := Lib.hid ⟨hk1, by omega⟩
      have s9 : (j : Int) + 1 = (k9 : Int) := by omega
      have l9 : IntKind.i64.wrap (k9 : Int) = (k9 : Int) := IntWalk.i64_in _ (by have := HNN.out; omega)
      rw [hao]
      clear hlt hj hV hc hb hx hV' hle hk1 hao
      go_wp2
      exact ⟨⟨k9, V', HK9.out.2, rfl, rfl, HV'.out⟩, by have := HK9.out; simp [intOf]; omega⟩
    · have t4 : ¬ (j : Int) < (n : Int) := by omega
      have hVS : V = S := by rw [hV, HS.out, show j = n by omega]
      rw [hVS]
      clear hlt hj hV hVS HV
      go_wp2_with fail
      go_loopw [11] (fun c wr => ∃ (i : Nat), i ≤ Ln ∧ c = .int .i64 i ∧ Kp w O p s wr ∧ Tks w1.heap.size (.slice ta Ln tc) s.sts wr) (fun c _ => Ln - (intOf c).toNat)
      case atStart => exact ⟨0, by omega, rfl, HK.out, HT.out⟩
      clear HK HT
      case round =>
        obtain ⟨i, hi, rfl, hK, hT⟩ := hrel
        have HK := Lib.hid hK
        have HT := Lib.hid hT
        clear hK hT
        by_cases hlt : i < Ln
        · have t5 : (i : Int) < (Ln : Int) := by omega
          obtain ⟨k1, hk1⟩ : ∃ k, k = i + 1 := ⟨_, rfl⟩
          have HK1 : Hid (k1 = i + 1 ∧ k1 ≤ Ln) := Lib.hid ⟨hk1, by omega⟩
          have s1 : (i : Int) + 1 = (k1 : Int) := by omega
          have l1 : IntKind.i64.wrap (k1 : Int) = (k1 : Int) := IntWalk.i64_in _ (by have := HLN.out; omega)
          have hil : i < s.t.length := by have := HLN.out; omega
          have HIL := Lib.hid hil
          have hwf : (Lit.int .i64 (i : Int)).wf = true := wf_small (by have := HLN.out; omega)
          have HR1 := Lib.hid (fun X (hX : Bk O p s X) => sd_result hX (fun i h => (HI.out.fresh i h).1) (i : Int) hwf)
          obtain ⟨y, hy⟩ : ∃ y, y = (s.tk i).acted := ⟨_, rfl⟩
          have e1 : s.actV (i : Int) = y := by unfold Bs.actV Bs.isIn; rw [decide_eq_true (by omega), Int.toNat_natCast, hy]; rfl
          obtain ⟨e9, he9⟩ : ∃ e, e = s.resV (i : Int) := ⟨_, rfl⟩
          rw [e1, ← he9] at HR1
          have HTD := Lib.hid (fun X (hX : Bk O p s X) => sd_told hX (fun i h => (HI.out.fresh i h).2) (i : Int) hwf)
          have e2 : s.toldV (i : Int) = (s.tk i).told := by unfold Bs.toldV Bs.isIn; rw [decide_eq_true (by omega), if_pos rfl, Int.toNat_natCast]
          rw [e2] at HTD
          have HACT := Lib.hid hy
          obtain ⟨x, hx⟩ : ∃ x, x = (s.tk i).st := ⟨_, rfl⟩
          have HXX := Lib.hid hx
          have hsl4 : i * 4 < 9223372036854775807 := by have := HLN.out; omega
          obtain ⟨_, _, hsl, hlt2, hcells⟩ := HT.out.slice
          obtain ⟨g, htg, _, _⟩ := hcells i x (by rw [hx]; exact Bs.sts_at hil)
          have hta : ta = some ⟨g, 0, none⟩ := by injection hsl with h1 _ _; rw [h1, htg]
          have HTA := Lib.hid hta
          rw [hta]
          clear hlt hi hk1 hil hwf hy e1 e2 he9 hx hsl hlt2 hcells htg hta
          go_wp2_with fail
          refine (HR1.out _ HK.out.bk).mono ?_
          rintro e y1 ⟨rfl, hF⟩
          have HKa := Lib.hid (HK.out.no hF)
          have HTa := Lib.hid (HT.out.no hF)
          clear hF
          have HC4 : Hid (∀ j u, j < 4 → x.cells[j]? = some u → y1.cell? ⟨g, i * 4 + j, none⟩ = some u) := Lib.hid (by
            obtain ⟨_, _, hsl, hlt2, hcells⟩ := HTa.out.slice
            obtain ⟨g2, htg, _, hc4⟩ := hcells i x (by rw [HXX.out]; exact Bs.sts_at HIL.out)
            have h2 : ta = some ⟨g2, 0, none⟩ := by injection hsl with h1 _ _; rw [h1, htg]
            have h3 := HTA.out.symm.trans h2
            injection h3 with h3
            injection h3 with h3
            rw [h3]
            exact hc4)
          cases hls : x.lists with
          | false =>
            have cA := HC4.out 1 (.int .i64 (x.f : Int)) (by omega) (by unfold St.cells; rw [hls]; rfl)
            obtain ⟨f, hf⟩ : ∃ f, f = x.f := ⟨_, rfl⟩
            rw [← hf] at cA
            have t6 : 0 ≤ (f : Int) := by omega
            have t7 : ¬ (f : Int) < 0 := by omega
            have t8 : decide (0 ≤ (f : Int)) = true := decide_eq_true t6
            clear hls hf
            go_wp2
            refine ⟨⟨k1, HK1.out.2, rfl, HKa.out, by rw [HTA.out] at HTa; exact HTa.out⟩, by have := HK1.out; simp [intOf]; omega⟩
          | true =>
            have cA := HC4.out 1 (.int .i64 (-1)) (by omega) (by unfold St.cells; rw [hls]; rfl)
            cases y with
            | false =>
              clear hls
              go_wp2
              refine ⟨⟨k1, HK1.out.2, rfl, HKa.out, by rw [HTA.out] at HTa; exact HTa.out⟩, by have := HK1.out; simp [intOf]; omega⟩
            | true =>
              obtain ⟨lt, hlt⟩ : ∃ l, l = (s.tk i).told := ⟨_, rfl⟩
              have htl := Bs.list_told HKa.out.bk.inv HY.out.symm HI.out HIL.out (by rw [← hls, HXX.out]; rfl) HACT.out.symm
              rw [← hlt] at htl HTD
              rw [← HN.out, ← HS.out] at htl
              have HTL := Lib.hid htl
              have HLE : Hid (lt.length = n) := Lib.hid htl.1
              have HSL : Hid (S = sumN (fun j => lt.getD j 0) n) := Lib.hid (by rw [← htl.1]; exact htl.2.symm)
              rw [htl.1] at HTL
              clear hls hlt htl
              go_wp2_with fail
              refine (HTD.out _ HKa.out.bk).mono ?_
              rintro e y2 ⟨v, rfl, hO, hF⟩
              have HKb := Lib.hid (HKa.out.no hF)
              have HTb := Lib.hid (HTa.out.no hF)
              obtain ⟨da, dc, rfl, hN⟩ := hO
              rw [HLE.out] at hN ⊢
              have HNU := Lib.hid hN
              clear hF hN cA
              go_wp2_with fail
              go_loop [15, 16] (fun v c => ∃ (j V : Nat), j ≤ n ∧ c = .int .i64 j ∧ v = .int .u64 V ∧ V = sumN (fun i => lt.getD i 0) j) (fun _ c => n - (intOf c).toNat)
              case atStart => exact ⟨0, 0, by omega, rfl, rfl, rfl⟩
              case round =>
                obtain ⟨j, V, hj, rfl, rfl, hV⟩ := hrel
                have HV := Lib.hid hV
                by_cases hlt : j < n
                · have t4 : (j : Int) < (n : Int) := by omega
                  obtain ⟨a, hao, hc, hb⟩ := HNU.out j hlt
                  simp only at hc hb
                  obtain ⟨q, hq⟩ : ∃ q, a.add j = q := ⟨_, rfl⟩
                  rw [hq] at hc
                  have cq := hc
                  obtain ⟨x9, hx⟩ : ∃ x, x = lt.getD j 0 := ⟨_, rfl⟩
                  rw [← hx] at cq
                  obtain ⟨V', hV'⟩ : ∃ V', V' = sumN (fun i => lt.getD i 0) (j + 1) := ⟨_, rfl⟩
                  have hle : V' ≤ S := by rw [HSL.out, hV']; exact sumN_mono _ hlt
                  have s2 : (V : Int) + (x9 : Int) = (V' : Int) := by
                    rw [hV', hV, hx]
                    show _ = ((sumN (fun i => lt.getD i 0) j + lt.getD j 0 : Nat) : Int)
                    omega
                  have l2 := wrapU V' (by have := HS50.out; omega)
                  obtain ⟨k9, hk1⟩ : ∃ k, k = j + 1 := ⟨_, rfl⟩
                  rw [← hk1] at hV'
                  have HV' := Lib.hid hV'
                  have HK9 : Hid (k9 = j + 1 ∧ k9 ≤ n) := Lib.hid ⟨hk1, by omega⟩
                  have s9 : (j : Int) + 1 = (k9 : Int) := by omega
                  have l9 : IntKind.i64.wrap (k9 : Int) = (k9 : Int) := IntWalk.i64_in _ (by have := HNN.out; omega)
                  rw [hao]
                  clear hlt hj hV hc hb hx hV' hle hk1 hao
                  go_wp2
                  exact ⟨⟨k9, V', HK9.out.2, rfl, rfl, HV'.out⟩, by have := HK9.out; simp [intOf]; omega⟩
                · have t4 : ¬ (j : Int) < (n : Int) := by omega
                  have hVS : V = S := by rw [hV, HSL.out, show j = n by omega]
                  rw [hVS]
                  clear hlt hj hV hVS HV
                  go_wp2
                  refine ⟨⟨k1, HK1.out.2, rfl, HKb.out, by rw [HTA.out] at HTb; exact HTb.out⟩, by have := HK1.out; simp [intOf]; omega⟩
        · have t5 : ¬ (i : Int) < (Ln : Int) := by omega
          clear hlt hi
          go_wp2
          go_ret
          exact ⟨rfl, HK.out.fr⟩
end Go.Proofs.Ytpmmfbbppnbhbaa
