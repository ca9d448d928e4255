/- The walk of 'ShardGoesOn'. -/
import Derived.Test.YtpmmfbbppnbhbaaSdL
import Derived.Test.YtpmmfbbppnbhbaaPuT
import Derived.Test.YtpmmfbbppnbhbaaSdP
namespace Go.Proofs.Ytpmmfbbppnbhbaa
open Go.RowKit
set_option linter.unusedVariables false
set_option maxRecDepth 100000
set_option maxHeartbeats 1000000 in
theorem goeson_long (ao : Option Addr) (n cap : Nat) (v : Value) (w : World) (hn : 40 < n) : Calls Try.prog 5 #[.slice ao n cap, v] w fun e w' => e = .returned (.bool true) ∧ Fr No w w' := by
  have t0 : decide ((40 : Int) < (n : Int)) = true := decide_eq_true (by omega)
  clear hn
  go_enter Try.func5, Try.ntmps5
  go_wp2_with fail
  refine (shown10_any _).mono ?_
  rintro e w1 ⟨rfl, hF⟩
  have HF := Lib.hid hF
  clear hF
  go_wp2
  go_ret
  exact ⟨rfl, HF.out⟩

set_option maxHeartbeats 1000000 in
theorem goeson_long2 (ao bo : Option Addr) (n cap m cap2 : Nat) (w : World) (hn : n ≤ 40) (hm : 200 < m) : Calls Try.prog 5 #[.slice ao n cap, .slice bo m cap2] w fun e w' => e = .returned (.bool true) ∧ Fr No w w' := by
  have t0 : decide ((40 : Int) < (n : Int)) = false := decide_eq_false (by omega)
  have t2 : decide ((200 : Int) < (m : Int)) = true := decide_eq_true (by omega)
  clear hn hm
  go_enter Try.func5, Try.ntmps5
  go_wp2_with fail
  refine (shown10_any _).mono ?_
  rintro e w1 ⟨rfl, hF⟩
  have HF := Lib.hid hF
  clear hF
  go_wp2
  go_ret
  exact ⟨rfl, HF.out⟩
set_option maxHeartbeats 4000000 in
theorem goeson_bad (ao bo : Option Addr) (n cap m cap2 : Nat) (b : List Nat) (xs : Nat → A9) (w : World) (hn : n ≤ 40) (hm : m ≤ 200) (hb : n = b.length) (hx : Nums w ao n (fun i => b.getD i 0)) (ha : Acts w bo m xs) (hy : false = Ps.newOk b) : Calls Try.prog 5 #[.slice ao n cap, .slice bo m cap2] w fun e w' => e = .returned (.bool true) ∧ Fr No w w' := by
  have t0 : decide ((40 : Int) < (n : Int)) = false := decide_eq_false (by omega)
  have t2 : decide ((200 : Int) < (m : Int)) = false := decide_eq_false (by omega)
  have HX := Lib.hid hx
  have HA := Lib.hid ha
  have HN := Lib.hid hb
  have HN40 : Hid (n ≤ 40 ∧ m ≤ 200) := Lib.hid ⟨hn, hm⟩
  have HY := Lib.hid hy
  have HPL := Lib.hid (fun X (hX : Nums X ao n (fun i => b.getD i 0)) => played_bad ao n cap (.slice bo m cap2) b X hb hn hX hy)
  have HDN := Lib.hid (fun X (hX : Nums X ao n (fun i => b.getD i 0)) => rnew_any ao n cap b X hb (by omega) hX)
  clear hx ha hb hn hm hy
  go_enter Try.func5, Try.ntmps5
  go_wp2_with fail
  refine (shown10_any _).mono ?_
  rintro e w1 ⟨rfl, hF⟩
  have HF := Lib.hid hF
  clear hF
  go_wp2_with fail
  refine (HPL.out _ (HX.out.fr HF.out (fun _ _ => id))).mono ?_
  intro e w2 h
  unfold Played at h
  rw [← HY.out] at h
  obtain ⟨rfl, hF2⟩ := h
  have HF2 := Lib.hid (HF.out.trans hF2)
  clear hF2 HPL
  go_wp2_with fail
  refine (HDN.out _ (HX.out.fr HF2.out (fun _ _ => id))).mono ?_
  intro e w3 h
  unfold DNew at h
  rw [← HY.out] at h
  obtain ⟨rfl, hF3⟩ := h
  have HF3 := Lib.hid (HF2.out.trans hF3)
  clear hF3 HDN
  obtain ⟨rb, hrb⟩ : ∃ r, r = w3.heap.size := ⟨_, rfl⟩
  have HAL : Hid ((Instr.alloc 32 true (.tuple #[])).run Try.prog w3 = .ok (.pointer (some ⟨rb, 0, none⟩)) (w3.alloc (.cells zeroP.toArray 32))) := Lib.hid (by rw [hrb]; exact alloc_rp w3)
  have HZ : Hid (Blk (w3.alloc (.cells zeroP.toArray 32)) rb 32 zeroP) := Lib.hid (by rw [hrb]; exact Blk.new w3 _ _)
  obtain ⟨Y, hY, hYB, hYF⟩ := store_rp HZ.out (L := cellsP none 0 0 (List.replicate 32 (0, 0))) (cellsP_len rfl) (cellsP_len rfl) cellsP_one
  have HYS := Lib.hid hY
  have HFY : Hid (Fr No w Y) := Lib.hid ((HF3.out.alloc _).trans' hYF (fun i hi e => by have := HF3.out.size; omega))
  clear hY hYB hYF hrb
  go_wp2_with (first
    | (refine wpList_execG (.pointer (some ⟨rb, 0, none⟩)) (exec_alloc 32 rfl _ HAL.out) rfl ?_)
    | (refine wpList_store_eq rfl 32 _ _ rfl (.pointer (some ⟨rb, 0, none⟩)) (vP none 0 0 (List.replicate 32 (0, 0))) rfl rfl HYS.out ?_))
  go_ret
  exact ⟨rfl, HFY.out⟩
set_option maxHeartbeats 16000000 in
theorem goeson_ok (ao bo : Option Addr) (n cap m cap2 : Nat) (b : List Nat) (xs : Nat → A9) (w : World) (hn : n ≤ 40) (hm : m ≤ 200) (hb : n = b.length) (hx : Nums w ao n (fun i => b.getD i 0)) (ha : Acts w bo m xs) (hy : true = Ps.newOk b) : Calls Try.prog 5 #[.slice ao n cap, .slice bo m cap2] w fun e w' => e = .returned (.bool true) ∧ Fr No w w' := by
  have t0 : decide ((40 : Int) < (n : Int)) = false := decide_eq_false (by omega)
  have t2 : decide ((200 : Int) < (m : Int)) = false := decide_eq_false (by omega)
  have HX := Lib.hid hx
  have HA := Lib.hid ha
  have HN := Lib.hid hb
  have HN40 : Hid (n ≤ 40 ∧ m ≤ 200) := Lib.hid ⟨hn, hm⟩
  have HY := Lib.hid hy
  have HPL := Lib.hid (fun X (hX : Nums X ao n (fun i => b.getD i 0)) (hA : Acts X bo m xs) => played_ok ao bo n cap m cap2 b xs X hb hn (by omega) hX hA hy)
  clear hx ha hb hn hm hy
  go_enter Try.func5, Try.ntmps5
  go_wp2_with fail
  refine (shown10_any _).mono ?_
  rintro e w1 ⟨rfl, hF⟩
  have HF := Lib.hid hF
  clear hF
  go_wp2_with fail
  refine (HPL.out _ (HX.out.fr HF.out (fun _ _ => id)) (HA.out.no HF.out)).mono ?_
  intro e w2 h
  unfold Played at h
  rw [← HY.out, if_pos rfl] at h
  obtain ⟨p, O, s, tv, rfl, hK, hI, hT, hD, hSm⟩ := h
  have HSM := Lib.hid hSm
  clear hSm
  have HK := Lib.hid (hK.up HF.out)
  have HKW := Lib.hid hK
  have HI := Lib.hid hI
  have HT := Lib.hid hT
  have HD := Lib.hid hD
  obtain ⟨ta, tc, htv, _⟩ := hT.slice
  obtain ⟨Ln, hLn⟩ : ∃ L, L = s.sts.length := ⟨_, rfl⟩
  have HLN : Hid (Ln = s.t.length ∧ Ln ≤ 32) := Lib.hid ⟨by rw [hLn, Bs.sts_len], by rw [hLn, Bs.sts_len]; exact HK.out.bk.inv.len⟩
  rw [← hLn] at htv
  subst htv
  clear hK hI hT hD HPL hLn
  go_wp2_with fail
  go_loopw [9] (fun c wr => ∃ (r : Nat) (s : Bs) (O : Nat → Prop), r ≤ 300 ∧ c = .int .i64 r ∧ Kp w O p s wr ∧ s.t.length = Ln ∧ r + s.left ≤ 192) (fun c _ => 300 - (intOf c).toNat)
  case atStart => exact ⟨0, s, O, by omega, rfl, HK.out, HLN.out.1.symm, by have := Bs.left_le HK.out.bk.inv; omega⟩
  clear HK HI HT HD
  case round =>
    obtain ⟨r, s, O, hr, rfl, hK, hL, hleft⟩ := hrel
    have HK := Lib.hid hK
    have HL := Lib.hid hL
    have HLE := Lib.hid hleft
    have HV := Lib.hid hK.bk.inv
    have hr192 : r ≤ 192 := by omega
    have t3 : (r : Int) < 300 := by omega
    obtain ⟨r1, hr1⟩ : ∃ k, k = r + 1 := ⟨_, rfl⟩
    have HR1 : Hid (r1 = r + 1 ∧ r ≤ 192) := Lib.hid ⟨hr1, hr192⟩
    have sr : (r : Int) + 1 = (r1 : Int) := by omega
    have lr : IntKind.i64.wrap (r1 : Int) = (r1 : Int) := IntWalk.i64_in _ (by omega)
    clear hK hL hleft hr hr1 hr192
    go_wp2_with fail
    go_loopw [10, 11, 12] (fun wn wt c wr2 => ∃ (i : Nat) (O2 : Nat → Prop), i ≤ Ln ∧ c = .int .i64 i ∧ wn = .bool (s.went i) ∧ wt = .bool (s.waits i) ∧ Kp w O2 p (s.rnd i) wr2) (fun _ _ c _ => Ln - (intOf c).toNat)
    case atStart => exact ⟨0, O, by omega, rfl, rfl, rfl, HK.out⟩
    clear HK
    case round =>
      obtain ⟨i, O2, hi, rfl, rfl, rfl, hK⟩ := hrel
      have HK := Lib.hid hK
      clear hK
      by_cases hlt : i < Ln
      · have t4 : (i : Int) < (Ln : Int) := by omega
        obtain ⟨k1, hk1⟩ : ∃ k, k = i + 1 := ⟨_, rfl⟩
        have HK1 : Hid (k1 = i + 1 ∧ k1 ≤ Ln) := Lib.hid ⟨hk1, by omega⟩
        have s1 : (i : Int) + 1 = (k1 : Int) := by omega
        have l1 : IntKind.i64.wrap (k1 : Int) = (k1 : Int) := IntWalk.i64_in _ (by have := HLN.out; omega)
        have HST := Lib.hid (fun X (hX : Bk O2 p (s.rnd i) X) => sd_step hX (i : Int) (wf_small (by have := HLN.out; omega)))
        obtain ⟨E, hE⟩ : ∃ E, E = (s.rnd i).stepE (i : Int) := ⟨_, rfl⟩
        rw [← hE, show (s.rnd i).stepS (i : Int) = s.rnd k1 by rw [hk1]; rfl] at HST
        have HW1 : Hid (s.went k1 = (s.went i || decide (E = 0)) ∧ s.waits k1 = (s.waits i || decide (E ≠ 3))) := Lib.hid (by rw [hk1, hE]; exact ⟨rfl, rfl⟩)
        have hb0 : (E == 0) = decide (E = 0) := by by_cases h : E = 0 <;> simp [h]
        have hb3 : (E != 3) = decide (E ≠ 3) := by by_cases h : E = 3 <;> simp [h]
        have HB := Lib.hid (And.intro hb0 hb3)
        obtain ⟨y, hy⟩ : ∃ y, y = s.went i := ⟨_, rfl⟩
        obtain ⟨z, hz⟩ : ∃ z, z = s.waits i := ⟨_, rfl⟩
        rw [← hy, ← hz] at HW1 ⊢
        clear hlt hi hk1 hE hb0 hb3 hy hz
        go_wp2_with fail
        refine (HST.out _ HK.out.bk).mono ?_
        rintro e y1 ⟨rfl, hTo⟩
        obtain ⟨O3, hK, _⟩ := HK.out.to hTo
        have HK3 := Lib.hid hK
        clear hTo hK
        cases y <;> cases z
        all_goals
          go_wp2
          exact ⟨⟨k1, O3, HK1.out.2, rfl, by rw [HW1.out.1]; simp [HB.out.1], by rw [HW1.out.2]; simp [HB.out.2], HK3.out⟩, by have := HK1.out; simp [intOf]; omega⟩
      · have t4 : ¬ (i : Int) < (Ln : Int) := by omega
        obtain rfl : i = Ln := by omega
        have hLs : i = s.t.length := HL.out.symm
        obtain ⟨z, hz⟩ : ∃ z, z = s.waits i := ⟨_, rfl⟩
        rw [← hz]
        cases z with
        | true =>
          have hw : s.went i = true := by rw [hLs]; exact Bs.waits_went HV.out (by rw [← hLs]; exact hz.symm)
          have hl := (Bs.rnd_left HV.out i).2.1 hw
          have HNX : Hid (r1 + (s.rnd i).left ≤ 192 ∧ (s.rnd i).t.length = i) := Lib.hid ⟨by have := HLE.out; have := HR1.out; omega, by rw [(Bs.rnd_inv HV.out i).2]; exact HL.out⟩
          rw [hw]
          clear hlt hi hz hw hl hLs
          go_wp2
          exact ⟨⟨r1, s.rnd i, O2, by have := HR1.out; omega, rfl, HK.out, HNX.out.2, HNX.out.1⟩, by have := HR1.out; simp [intOf]; omega⟩
        | false =>
          obtain ⟨h1, h2⟩ := Bs.waits_not HV.out (by rw [← hLs]; exact hz.symm)
          obtain ⟨h3, h4⟩ := Bs.all_over HV.out h2
          rw [← hLs] at h1
          rw [h1] at HK
          have HDN := Lib.hid (fun X (hX : Bk O2 p s X) => sd_done hX)
          have H0 := Lib.hid (fun X (hX : Bk O2 p s X) => sd_holder hX 0 (by decide))
          have H1 := Lib.hid (fun X (hX : Bk O2 p s X) => sd_holder hX 1 (by decide))
          have H2 := Lib.hid (fun X (hX : Bk O2 p s X) => sd_holder hX 2 (by decide))
          have H3 := Lib.hid (fun X (hX : Bk O2 p s X) => sd_holder hX 3 (by decide))
          rw [show s.holdV 0 = -1 from h4 0 (by omega)] at H0
          rw [show s.holdV 1 = -1 from h4 1 (by omega)] at H1
          rw [show s.holdV 2 = -1 from h4 2 (by omega)] at H2
          rw [show s.holdV 3 = -1 from h4 3 (by omega)] at H3
          have HDL : Hid (s.done.length = i) := Lib.hid (by rw [h3, hLs])
          clear hlt hi hz h1 h2 h3 h4 hLs
          go_wp2_with fail
          refine (HDN.out _ HK.out.bk).mono ?_
          rintro e y1 ⟨v, rfl, hO, hF⟩
          obtain ⟨da, dc, rfl, _⟩ := hO
          rw [HDL.out]
          have HK1 := Lib.hid (HK.out.no hF)
          clear hF
          go_wp2_with fail
          refine (H0.out _ HK1.out.bk).mono ?_
          rintro e y2 ⟨rfl, hF⟩
          have HK2 := Lib.hid (HK1.out.no hF)
          clear hF
          go_wp2_with fail
          refine (H1.out _ HK2.out.bk).mono ?_
          rintro e y3 ⟨rfl, hF⟩
          have HK3 := Lib.hid (HK2.out.no hF)
          clear hF
          go_wp2_with fail
          refine (H2.out _ HK3.out.bk).mono ?_
          rintro e y4 ⟨rfl, hF⟩
          have HK4 := Lib.hid (HK3.out.no hF)
          clear hF
          go_wp2_with fail
          refine (H3.out _ HK4.out.bk).mono ?_
          rintro e y5 ⟨rfl, hF⟩
          have HK5 := Lib.hid (HK4.out.no hF)
          clear hF
          go_wp2
          go_ret
          exact ⟨rfl, HK5.out.fr⟩
end Go.Proofs.Ytpmmfbbppnbhbaa
