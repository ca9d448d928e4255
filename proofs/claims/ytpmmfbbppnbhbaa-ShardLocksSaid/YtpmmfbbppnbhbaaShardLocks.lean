/- The walk of 'ShardLocks'. -/
import Derived.Test.YtpmmfbbppnbhbaaSdL
import Derived.Test.YtpmmfbbppnbhbaaPuT
namespace Go.Proofs.Ytpmmfbbppnbhbaa
open Go.RowKit
set_option linter.unusedVariables false
set_option maxRecDepth 100000
set_option maxHeartbeats 1000000 in
theorem locks_long (ao : Option Addr) (n cap : Nat) (v : Value) (ci : Nat) (w : World) (hn : 40 < n) : Calls Try.prog 8 #[.slice ao n cap, v, .int .u8 (ci : Int)] w fun e w' => e = .returned (.bool true) ∧ Fr No w w' := by
  have t0 : decide ((40 : Int) < (n : Int)) = true := decide_eq_true (by omega)
  clear hn
  go_enter Try.func8, Try.ntmps8
  go_wp2_with fail
  refine (shown10_any _).mono ?_
  rintro e w1 ⟨rfl, hF⟩
  have HF := Lib.hid hF
  clear hF
  go_wp2
  go_ret
  exact ⟨rfl, HF.out⟩

set_option maxHeartbeats 1000000 in
theorem locks_long2 (ao bo : Option Addr) (n cap m cap2 : Nat) (ci : Nat) (w : World) (hn : n ≤ 40) (hm : 200 < m) : Calls Try.prog 8 #[.slice ao n cap, .slice bo m cap2, .int .u8 (ci : Int)] w fun e w' => e = .returned (.bool true) ∧ Fr No w w' := by
  have t0 : decide ((40 : Int) < (n : Int)) = false := decide_eq_false (by omega)
  have t2 : decide ((200 : Int) < (m : Int)) = true := decide_eq_true (by omega)
  clear hn hm
  go_enter Try.func8, Try.ntmps8
  go_wp2_with fail
  refine (shown10_any _).mono ?_
  rintro e w1 ⟨rfl, hF⟩
  have HF := Lib.hid hF
  clear hF
  go_wp2
  go_ret
  exact ⟨rfl, HF.out⟩
set_option maxHeartbeats 4000000 in
theorem locks_bad (ao bo : Option Addr) (n cap m cap2 : Nat) (b : List Nat) (xs : Nat → A9) (ci : Nat) (w : World) (hn : n ≤ 40) (hm : m ≤ 200) (hb : n = b.length) (hx : Nums w ao n (fun i => b.getD i 0)) (ha : Acts w bo m xs) (hy : false = Ps.newOk b) : Calls Try.prog 8 #[.slice ao n cap, .slice bo m cap2, .int .u8 (ci : Int)] w fun e w' => e = .returned (.bool true) ∧ Fr No w w' := by
  have t0 : decide ((40 : Int) < (n : Int)) = false := decide_eq_false (by omega)
  have t2 : decide ((200 : Int) < (m : Int)) = false := decide_eq_false (by omega)
  have HX := Lib.hid hx
  have HA := Lib.hid ha
  have HN := Lib.hid hb
  have HN40 : Hid (n ≤ 40 ∧ m ≤ 200) := Lib.hid ⟨hn, hm⟩
  have HY := Lib.hid hy
  have HPL := Lib.hid (fun X (hX : Nums X ao n (fun i => b.getD i 0)) => played_bad ao n cap (.slice bo m cap2) b X hb hn hX hy)
  have HDN := Lib.hid (fun X (hX : Nums X ao n (fun i => b.getD i 0)) => rnew_any ao n cap b X hb (by omega) hX)
  clear hx ha hb hn hm hy
  go_enter Try.func8, Try.ntmps8
  go_wp2_with fail
  refine (shown10_any _).mono ?_
  rintro e w1 ⟨rfl, hF⟩
  have HF := Lib.hid hF
  clear hF
  go_wp2_with fail
  refine (HPL.out _ (HX.out.fr HF.out (fun _ _ => id))).mono ?_
  intro e w2 h
  unfold Played at h
  rw [← HY.out] at h
  obtain ⟨rfl, hF2⟩ := h
  have HF2 := Lib.hid (HF.out.trans hF2)
  clear hF2 HPL
  go_wp2_with fail
  refine (HDN.out _ (HX.out.fr HF2.out (fun _ _ => id))).mono ?_
  intro e w3 h
  unfold DNew at h
  rw [← HY.out] at h
  obtain ⟨rfl, hF3⟩ := h
  have HF3 := Lib.hid (HF2.out.trans hF3)
  clear hF3 HDN
  obtain ⟨rb, hrb⟩ : ∃ r, r = w3.heap.size := ⟨_, rfl⟩
  have HAL : Hid ((Instr.alloc 32 true (.tuple #[])).run Try.prog w3 = .ok (.pointer (some ⟨rb, 0, none⟩)) (w3.alloc (.cells zeroP.toArray 32))) := Lib.hid (by rw [hrb]; exact alloc_rp w3)
  have HZ : Hid (Blk (w3.alloc (.cells zeroP.toArray 32)) rb 32 zeroP) := Lib.hid (by rw [hrb]; exact Blk.new w3 _ _)
  obtain ⟨Y, hY, hYB, hYF⟩ := store_rp HZ.out (L := cellsP none 0 0 (List.replicate 32 (0, 0))) (cellsP_len rfl) (cellsP_len rfl) cellsP_one
  have HYS := Lib.hid hY
  have HFY : Hid (Fr No w Y) := Lib.hid ((HF3.out.alloc _).trans' hYF (fun i hi e => by have := HF3.out.size; omega))
  clear hY hYB hYF hrb
  go_wp2_with (first
    | (refine wpList_execG (.pointer (some ⟨rb, 0, none⟩)) (exec_alloc 32 rfl _ HAL.out) rfl ?_)
    | (refine wpList_store_eq rfl 32 _ _ rfl (.pointer (some ⟨rb, 0, none⟩)) (vP none 0 0 (List.replicate 32 (0, 0))) rfl rfl HYS.out ?_))
  go_ret
  exact ⟨rfl, HFY.out⟩
set_option maxHeartbeats 16000000 in
theorem locks_ok (ao bo : Option Addr) (n cap m cap2 : Nat) (b : List Nat) (xs : Nat → A9) (ci : Nat) (hci : ci < 256) (w : World) (hn : n ≤ 40) (hm : m ≤ 200) (hb : n = b.length) (hx : Nums w ao n (fun i => b.getD i 0)) (ha : Acts w bo m xs) (hy : true = Ps.newOk b) : Calls Try.prog 8 #[.slice ao n cap, .slice bo m cap2, .int .u8 (ci : Int)] w fun e w' => e = .returned (.bool true) ∧ Fr No w w' := by
  have t0 : decide ((40 : Int) < (n : Int)) = false := decide_eq_false (by omega)
  have t2 : decide ((200 : Int) < (m : Int)) = false := decide_eq_false (by omega)
  obtain ⟨k, hk⟩ : ∃ k, k = ci % 32 := ⟨_, rfl⟩
  have hk32 : k < 32 := by omega
  have HK32 := Lib.hid hk32
  have wci : IntKind.i64.wrap (ci : Int) = (ci : Int) := IntWalk.i64_in _ (by omega)
  have wk : IntKind.i64.wrap (k : Int) = (k : Int) := IntWalk.i64_in _ (by omega)
  have r1 : (ci : Int).tmod 32 = (k : Int) := by rw [hk, Int.tmod_eq_emod_of_nonneg (by omega)]; omega
  have r2 : (ci : Int) % 32 = (k : Int) := by omega
  clear hk hk32 hci
  have HX := Lib.hid hx
  have HA := Lib.hid ha
  have HN := Lib.hid hb
  have HN40 : Hid (n ≤ 40 ∧ m ≤ 200) := Lib.hid ⟨hn, hm⟩
  have HY := Lib.hid hy
  have HPL := Lib.hid (fun X (hX : Nums X ao n (fun i => b.getD i 0)) (hA : Acts X bo m xs) => played_ok ao bo n cap m cap2 b xs X hb hn (by omega) hX hA hy)
  clear hx ha hb hn hm hy
  go_enter Try.func8, Try.ntmps8
  go_wp2_with fail
  refine (shown10_any _).mono ?_
  rintro e w1 ⟨rfl, hF⟩
  have HF := Lib.hid hF
  clear hF
  go_wp2_with fail
  refine (HPL.out _ (HX.out.fr HF.out (fun _ _ => id)) (HA.out.no HF.out)).mono ?_
  intro e w2 h
  unfold Played at h
  rw [← HY.out, if_pos rfl] at h
  obtain ⟨p, O, s, tv, rfl, hK, hI, hT, hD, hSm⟩ := h
  have HSM := Lib.hid hSm
  clear hSm
  have HK := Lib.hid (hK.up HF.out)
  have HKW := Lib.hid hK
  have HI := Lib.hid hI
  have HT := Lib.hid hT
  have HD := Lib.hid hD
  obtain ⟨ta, tc, htv, _⟩ := hT.slice
  obtain ⟨Ln, hLn⟩ : ∃ L, L = s.sts.length := ⟨_, rfl⟩
  have HLN : Hid (Ln = s.t.length ∧ Ln ≤ 32) := Lib.hid ⟨by rw [hLn, Bs.sts_len], by rw [hLn, Bs.sts_len]; exact HK.out.bk.inv.len⟩
  rw [← hLn] at htv
  subst htv
  clear hK hI hT hD HPL hLn
  by_cases hge : Ln ≤ k
  · have t4 : (Ln : Int) ≤ (k : Int) := by omega
    have t5 : ¬ (k : Int) < (Ln : Int) := by omega
    have HST := Lib.hid (fun X (hX : Bk O p s X) => sd_step hX (k : Int) (wf_small (by have := HK32.out; omega)))
    rw [Bs.stepE_none (by have := HLN.out; omega)] at HST
    clear hge
    go_wp2_with fail
    refine (HST.out _ HK.out.bk).mono ?_
    rintro e y1 ⟨rfl, hTo⟩
    obtain ⟨O2, hK2, _⟩ := HK.out.to hTo
    have HK2 := Lib.hid hK2
    clear hTo hK2
    go_wp2
    go_ret
    exact ⟨rfl, HK2.out.fr⟩
  · have t4 : ¬ (Ln : Int) ≤ (k : Int) := by omega
    have t5 : (k : Int) < (Ln : Int) := by omega
    have hkl : k < s.t.length := by have := HLN.out; omega
    have HKL := Lib.hid hkl
    have HV := Lib.hid HK.out.bk.inv
    have hwf : (Lit.int .i64 (k : Int)).wf = true := wf_small (by have := HK32.out; omega)
    have HR1 := Lib.hid (fun X (hX : Bk O p s X) => sd_result hX (fun i h => (HI.out.fresh i h).1) (k : Int) hwf)
    have HST := Lib.hid (fun X (hX : Bk O p s X) => sd_step hX (k : Int) hwf)
    obtain ⟨s', hs'⟩ : ∃ t, t = s.stepS (k : Int) := ⟨_, rfl⟩
    obtain ⟨E, hE⟩ : ∃ E, E = s.stepE (k : Int) := ⟨_, rfl⟩
    have HI' := Lib.hid (HI.out.step HK.out.bk.inv (k : Int))
    have hl' : k < s'.t.length := by rw [hs', ← Bs.sts_len, Bs.sts_step, Bs.sts_len]; exact hkl
    have HR2 := Lib.hid (fun O X (hX : Bk O p s' X) => sd_result hX (fun i h => by rw [hs'] at h ⊢; exact (HI'.out.fresh i h).1) (k : Int) hwf)
    rw [← hE, ← hs'] at HST
    have hes := Bs.stepE_some HV.out hkl
    have hac := Bs.act_case HV.out hkl
    rw [← hE] at hes hac
    rw [← hs'] at hac
    obtain ⟨y, hy⟩ : ∃ y, y = (s.tk k).acted := ⟨_, rfl⟩
    obtain ⟨z, hz⟩ : ∃ z, z = (s'.tk k).acted := ⟨_, rfl⟩
    have e1 : s.actV (k : Int) = y := by unfold Bs.actV Bs.isIn; rw [decide_eq_true (by omega), Int.toNat_natCast, hy]; rfl
    have e2 : s'.actV (k : Int) = z := by unfold Bs.actV Bs.isIn; rw [decide_eq_true (by omega), Int.toNat_natCast, hz]; rfl
    rw [e1] at HR1
    rw [e2] at HR2
    obtain ⟨e9, he9⟩ : ∃ e, e = s.resV (k : Int) := ⟨_, rfl⟩
    obtain ⟨e8, he8⟩ : ∃ e, e = s'.resV (k : Int) := ⟨_, rfl⟩
    rw [← he9] at HR1
    rw [← he8] at HR2
    rw [← hy] at hes hac
    rw [← hz] at hac
    have HES := Lib.hid hes
    have HAC := Lib.hid hac
    clear hge hkl hwf hs' hE hl' hes hac hy hz e1 e2 he9 he8
    go_wp2_with fail
    refine (HR1.out _ HK.out.bk).mono ?_
    rintro e y1 ⟨rfl, hF⟩
    have HKa := Lib.hid (HK.out.no hF)
    have HTa := Lib.hid (HT.out.no hF)
    clear hF
    go_wp2_with fail
    refine (HST.out _ HKa.out.bk).mono ?_
    rintro e y2 ⟨rfl, hTo⟩
    obtain ⟨O1, hK2, hO1, hF⟩ := HKa.out.to hTo
    have HKb := Lib.hid hK2
    have HTb := Lib.hid (HTa.out.fr hF (fun k hk => HD.out k hk))
    clear hTo hK2 hF hO1
    go_wp2_with fail
    refine (HR2.out _ _ HKb.out.bk).mono ?_
    rintro e y3 ⟨rfl, hF⟩
    have HKc := Lib.hid (HKb.out.no hF)
    have HTc := Lib.hid (HTb.out.no hF)
    clear hF
    have fin : ∀ {yy : Bool}, E = 0 ∨ E = 100 ∨ (E = 3 ∧ yy = true) → (E == 0) = true ∨ ((E == 0) = false ∧ (E == 100) = true) ∨ ((E == 0) = false ∧ (E == 100) = false ∧ (E == 3) = true ∧ yy = true) := fun h => by
      rcases h with h | h | ⟨h, h2⟩
      · exact .inl (by rw [h]; rfl)
      · exact .inr (.inl (by rw [h]; exact ⟨rfl, rfl⟩))
      · exact .inr (.inr (by rw [h]; exact ⟨rfl, rfl, rfl, h2⟩))
    have HFI := Lib.hid (fin HES.out)
    clear fin
    cases y with
    | true =>
      rcases HFI.out with j0 | ⟨j0, j1⟩ | ⟨j0, j1, j3, _⟩
      all_goals
        go_wp2
        go_ret
        exact ⟨rfl, HKc.out.fr⟩
    | false =>
      cases z with
      | false =>
        rcases HFI.out with j0 | ⟨j0, j1⟩ | ⟨j0, j1, j3, h⟩
        · go_wp2
          go_ret
          exact ⟨rfl, HKc.out.fr⟩
        · go_wp2
          go_ret
          exact ⟨rfl, HKc.out.fr⟩
        · cases h
      | true =>
        obtain ⟨hE0, hold⟩ := HAC.out rfl rfl
        have j0 : (E == 0) = true := by rw [hE0]; rfl
        have HOLD := Lib.hid hold
        obtain ⟨x, hx⟩ : ∃ x, x = (s.tk k).st := ⟨_, rfl⟩
        obtain ⟨_, _, hsl, hlt, hcells⟩ := HTc.out.slice
        obtain ⟨g, htg, _, hc4⟩ := hcells k x (by rw [hx]; exact Bs.sts_at HKL.out)
        obtain rfl : ta = some ⟨g, 0, none⟩ := by injection hsl with h1 _ _; rw [h1, htg]
        have HC4 := Lib.hid hc4
        have hgl := (hlt g rfl).2
        have HND0 : Hid (∀ j, j < 4 → (s.tk k).need j = true → s'.hold j = (k : Int)) := HOLD
        have hsl4 : k * 4 < 9223372036854775807 := by have := HK32.out; omega
        have HXX := Lib.hid hx
        cases hls : x.lists with
        | true =>
          have cA := HC4.out 1 (.int .i64 (-1)) (by omega) (by unfold St.cells; rw [hls]; rfl)
          obtain ⟨nd, hnd⟩ : ∃ nd : List Nat, nd = [0, 1, 2, 3] := ⟨_, rfl⟩
          obtain ⟨nb, hnb⟩ : ∃ z, z = y3.heap.size := ⟨_, rfl⟩
          have HNB : Hid (Blk (y3.alloc (.cells #[.int .i64 0, .int .i64 1, .int .i64 2, .int .i64 3] 3)) nb 3 (nd.map fun x : Nat => .int .i64 (x : Int))) := Lib.hid (by rw [hnd, hnb]; exact Blk.new y3 _ _)
          have HKn := Lib.hid (HKc.out.no ((Fr.refl No y3).alloc (.cells #[.int .i64 0, .int .i64 1, .int .i64 2, .int .i64 3] 3)))
          have HNL : Hid (nd.length = 4) := Lib.hid (by rw [hnd]; rfl)
          have HND : Hid (∀ j ∈ nd, j < 4 ∧ s'.hold j = (k : Int)) := Lib.hid (fun j hj => by
            have h4 : j < 4 := by rw [hnd] at hj; simp at hj; omega
            refine ⟨h4, HOLD.out j h4 ?_⟩
            unfold Tk.need
            rw [show (s.tk k).lists = x.lists by rw [HXX.out]; rfl, hls]
            rfl)
          clear hE0 hold hx hsl hlt hcells hc4 hnd htg hls
          rw [hnb] at HNB
          go_wp2_with fail
          rw [← hnb] at HNB ⊢
          clear hnb
          go_loopw [18] (fun c wr => ∃ (i : Nat), i ≤ 4 ∧ c = .int .i64 i ∧ Kp w O1 p s' wr ∧ Blk wr nb 3 (nd.map fun x : Nat => .int .i64 (x : Int))) (fun c _ => 4 - (intOf c).toNat)
          case atStart => exact ⟨0, by omega, rfl, HKn.out, HNB.out⟩
          clear HKn HNB
          case round =>
            obtain ⟨i, hi, rfl, hK, hB⟩ := hrel
            have HK := Lib.hid hK
            have HB := Lib.hid hB
            clear hK hB
            by_cases hlt : i < 4
            · have t4 : (i : Int) < 4 := by omega
              obtain ⟨k1, hk1⟩ : ∃ k, k = i + 1 := ⟨_, rfl⟩
              have HK1 : Hid (k1 = i + 1 ∧ k1 ≤ 4) := Lib.hid ⟨hk1, by omega⟩
              have s1 : (i : Int) + 1 = (k1 : Int) := by omega
              have l1 : IntKind.i64.wrap (k1 : Int) = (k1 : Int) := IntWalk.i64_in _ (by omega)
              obtain ⟨x, hx⟩ : ∃ x, nd[i]? = some x := ⟨_, List.getElem?_eq_getElem (by rw [HNL.out]; omega)⟩
              have cn := HB.out.cell (i := i) (v := .int .i64 (x : Int)) (by rw [List.getElem?_map, hx]; rfl)
              have hx4 := HND.out x (List.mem_of_getElem? hx)
              have HH := Lib.hid (fun X (hX : Bk O1 p s' X) => sd_holder hX (x : Int) (wf_small (by omega)))
              rw [show s'.holdV (x : Int) = (k : Int) by unfold Bs.holdV; rw [if_pos (by omega), Int.toNat_natCast]; exact hx4.2] at HH
              clear hlt hi hk1 hx hx4
              go_wp2_with fail
              refine (HH.out _ HK.out.bk).mono ?_
              rintro e y1 ⟨rfl, hF⟩
              have HKy := Lib.hid (HK.out.no hF)
              have HBy := Lib.hid (HB.out.fr hF id)
              clear hF cn
              go_wp2
              exact ⟨⟨k1, HK1.out.2, rfl, HKy.out, HBy.out⟩, by have := HK1.out; simp [intOf]; omega⟩
            · have t4 : ¬ (i : Int) < 4 := by omega
              clear hlt hi
              go_wp2
              go_ret
              exact ⟨rfl, HK.out.fr⟩
        | false =>
          obtain ⟨f, hf⟩ : ∃ f, f = x.f := ⟨_, rfl⟩
          obtain ⟨t, ht⟩ : ∃ t, t = x.t := ⟨_, rfl⟩
          have cA := HC4.out 1 (.int .i64 (f : Int)) (by omega) (by unfold St.cells; rw [hls, hf]; rfl)
          have hgn : g ≠ y3.heap.size := by omega
          have t6 : 0 ≤ (f : Int) := by omega
          have t7 : ¬ (f : Int) < 0 := by omega
          obtain ⟨X0, hX0⟩ : ∃ X, X = y3.alloc (.cells #[.int .i64 0, .int .i64 1, .int .i64 2, .int .i64 3] 3) := ⟨_, rfl⟩
          have HKx : Hid (Kp w O1 p s' X0) := Lib.hid (by rw [hX0]; exact HKc.out.no ((Fr.refl No y3).alloc _))
          have hF0 : Fr No y3 X0 := by rw [hX0]; exact (Fr.refl No y3).alloc _
          have cA' := hF0.cell id cA
          have cB' := hF0.cell id (HC4.out 2 (.int .i64 (t : Int)) (by omega) (by unfold St.cells; rw [hls, ht]; rfl))
          obtain ⟨fm, hfm⟩ : ∃ f', f' = f % 4 := ⟨_, rfl⟩
          obtain ⟨tm, htm⟩ : ∃ f', f' = t % 4 := ⟨_, rfl⟩
          have rf1 : (f : Int).tmod 4 = (fm : Int) := by rw [hfm, Int.tmod_eq_emod_of_nonneg (by omega)]; omega
          have rf2 : (f : Int) % 4 = (fm : Int) := by omega
          have rt1 : (t : Int).tmod 4 = (tm : Int) := by rw [htm, Int.tmod_eq_emod_of_nonneg (by omega)]; omega
          have rt2 : (t : Int) % 4 = (tm : Int) := by omega
          have wfm : IntKind.i64.wrap (fm : Int) = (fm : Int) := IntWalk.i64_in _ (by omega)
          have wtm : IntKind.i64.wrap (tm : Int) = (tm : Int) := IntWalk.i64_in _ (by omega)
          obtain ⟨nd, hnd⟩ : ∃ nd : List Nat, nd = [fm, tm] := ⟨_, rfl⟩
          have HNL : Hid (nd.length = 2) := Lib.hid (by rw [hnd]; rfl)
          have HND : Hid (∀ j ∈ nd, j < 4 ∧ s'.hold j = (k : Int)) := Lib.hid (fun j hj => by
            have h4 : j < 4 := by
              rw [hnd] at hj
              simp only [List.mem_cons, List.not_mem_nil, or_false] at hj
              rcases hj with h | h <;> rw [h] <;> omega
            refine ⟨h4, HOLD.out j h4 ?_⟩
            rw [hnd] at hj
            simp only [List.mem_cons, List.not_mem_nil, or_false] at hj
            unfold Tk.need
            rw [show (s.tk k).f = f by rw [hf, HXX.out]; rfl, show (s.tk k).t = t by rw [ht, HXX.out]; rfl]
            rcases hj with h | h
            · rw [h, hfm]; simp
            · rw [h, htm]; simp)
          obtain ⟨nb, hnb⟩ : ∃ z, z = X0.heap.size := ⟨_, rfl⟩
          have HNBX : Hid (∀ Z, Fr No X0 Z → Z.heap.size = X0.heap.size → Blk (Z.alloc (.cells #[.int .i64 (fm : Int), .int .i64 (tm : Int)] 3)) nb 3 (nd.map fun x : Nat => .int .i64 (x : Int))) := Lib.hid (fun Z hZ hs => by
            rw [hnd, hnb, ← hs]
            exact Blk.new Z _ _)
          have HNBn := Lib.hid hnb
          clear hE0 hold hx hsl hlt hcells hc4 hnd htg hls hf ht hfm htm hF0 hnb
          go_wp2_with fail
          (try rw [← hX0])
          clear hX0 cA
          have HKn : Hid (Kp w O1 p s' (X0.alloc (.cells #[.int .i64 (fm : Int), .int .i64 (tm : Int)] 3)).drew) := Lib.hid ((HKx.out.no ((Fr.refl No X0).alloc _)).no (Fr.refl No _).drew)
          have HNB : Hid (Blk (X0.alloc (.cells #[.int .i64 (fm : Int), .int .i64 (tm : Int)] 3)).drew nb 3 (nd.map fun x : Nat => .int .i64 (x : Int))) := Lib.hid ((HNBX.out X0 (Fr.refl _ _) rfl).fr (Fr.refl No _).drew id)
          go_region
          all_goals
            rw [← HNBn.out]
            go_wp2_with fail
            go_loopw [18] (fun c wr => ∃ (i : Nat), i ≤ 2 ∧ c = .int .i64 i ∧ Kp w O1 p s' wr ∧ Blk wr nb 3 (nd.map fun x : Nat => .int .i64 (x : Int))) (fun c _ => 2 - (intOf c).toNat)
            case atStart => exact ⟨0, by omega, rfl, HKn.out, HNB.out⟩
            clear HKn HNB
            case round =>
              obtain ⟨i, hi, rfl, hK, hB⟩ := hrel
              have HK := Lib.hid hK
              have HB := Lib.hid hB
              clear hK hB
              by_cases hlt : i < 2
              · have t4 : (i : Int) < 2 := by omega
                obtain ⟨k1, hk1⟩ : ∃ k, k = i + 1 := ⟨_, rfl⟩
                have HK1 : Hid (k1 = i + 1 ∧ k1 ≤ 2) := Lib.hid ⟨hk1, by omega⟩
                have s1 : (i : Int) + 1 = (k1 : Int) := by omega
                have l1 : IntKind.i64.wrap (k1 : Int) = (k1 : Int) := IntWalk.i64_in _ (by omega)
                obtain ⟨x, hx⟩ : ∃ x, nd[i]? = some x := ⟨_, List.getElem?_eq_getElem (by rw [HNL.out]; omega)⟩
                have cn := HB.out.cell (i := i) (v := .int .i64 (x : Int)) (by rw [List.getElem?_map, hx]; rfl)
                have hx4 := HND.out x (List.mem_of_getElem? hx)
                have HH := Lib.hid (fun X (hX : Bk O1 p s' X) => sd_holder hX (x : Int) (wf_small (by omega)))
                rw [show s'.holdV (x : Int) = (k : Int) by unfold Bs.holdV; rw [if_pos (by omega), Int.toNat_natCast]; exact hx4.2] at HH
                clear hlt hi hk1 hx hx4
                go_wp2_with fail
                refine (HH.out _ HK.out.bk).mono ?_
                rintro e y1 ⟨rfl, hF⟩
                have HKy := Lib.hid (HK.out.no hF)
                have HBy := Lib.hid (HB.out.fr hF id)
                clear hF cn
                go_wp2
                exact ⟨⟨k1, HK1.out.2, rfl, HKy.out, HBy.out⟩, by have := HK1.out; simp [intOf]; omega⟩
              · have t4 : ¬ (i : Int) < 2 := by omega
                clear hlt hi
                go_wp2
                go_ret
                exact ⟨rfl, HK.out.fr⟩
end Go.Proofs.Ytpmmfbbppnbhbaa
