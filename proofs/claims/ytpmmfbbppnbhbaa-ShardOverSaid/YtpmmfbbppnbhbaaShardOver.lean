/- The walk of 'ShardOver'. -/
import Derived.Test.YtpmmfbbppnbhbaaSdL
import Derived.Test.YtpmmfbbppnbhbaaPuT
import Derived.Test.YtpmmfbbppnbhbaaSdO
import Derived.Test.YtpmmfbbppnbhbaaSdP
import Derived.Test.YtpmmfbbppnbhbaaWpO
import Derived.Deep.RegionHeld
namespace Go.Proofs.Ytpmmfbbppnbhbaa
open Go.RowKit
set_option linter.unusedVariables false
set_option maxRecDepth 100000
set_option maxHeartbeats 1000000 in
theorem over_long (ao : Option Addr) (n cap : Nat) (v : Value) (v3 : Value) (w : World) (hn : 40 < n) : Calls Try.prog 9 #[.slice ao n cap, v, v3] w fun e w' => e = .returned (.bool true) ∧ Fr No w w' := by
  have t0 : decide ((40 : Int) < (n : Int)) = true := decide_eq_true (by omega)
  clear hn
  go_enter Try.func9, Try.ntmps9
  go_wp2_with fail
  refine (shown10_any _).mono ?_
  rintro e w1 ⟨rfl, hF⟩
  have HF := Lib.hid hF
  clear hF
  go_wp2
  go_ret
  exact ⟨rfl, HF.out⟩

set_option maxHeartbeats 1000000 in
theorem over_long2 (ao bo : Option Addr) (n cap m cap2 : Nat) (v3 : Value) (w : World) (hn : n ≤ 40) (hm : 150 < m) : Calls Try.prog 9 #[.slice ao n cap, .slice bo m cap2, v3] w fun e w' => e = .returned (.bool true) ∧ Fr No w w' := by
  have t0 : decide ((40 : Int) < (n : Int)) = false := decide_eq_false (by omega)
  have t2 : decide ((150 : Int) < (m : Int)) = true := decide_eq_true (by omega)
  clear hn hm
  go_enter Try.func9, Try.ntmps9
  go_wp2_with fail
  refine (shown10_any _).mono ?_
  rintro e w1 ⟨rfl, hF⟩
  have HF := Lib.hid hF
  clear hF
  go_wp2
  go_ret
  exact ⟨rfl, HF.out⟩
set_option maxHeartbeats 1000000 in
theorem over_long3 (ao bo : Option Addr) (n cap m cap2 : Nat) (co : Option Addr) (mm cap3 : Nat) (w : World) (hn : n ≤ 40) (hm : m ≤ 150) (hmm : 50 < mm) : Calls Try.prog 9 #[.slice ao n cap, .slice bo m cap2, .slice co mm cap3] w fun e w' => e = .returned (.bool true) ∧ Fr No w w' := by
  have t0 : decide ((40 : Int) < (n : Int)) = false := decide_eq_false (by omega)
  have t2 : decide ((150 : Int) < (m : Int)) = false := decide_eq_false (by omega)
  have t3 : decide ((50 : Int) < (mm : Int)) = true := decide_eq_true (by omega)
  clear hn hm hmm
  go_enter Try.func9, Try.ntmps9
  go_wp2_with fail
  refine (shown10_any _).mono ?_
  rintro e w1 ⟨rfl, hF⟩
  have HF := Lib.hid hF
  clear hF
  go_wp2
  go_ret
  exact ⟨rfl, HF.out⟩
set_option maxHeartbeats 4000000 in
theorem over_bad (ao bo : Option Addr) (n cap m cap2 : Nat) (b : List Nat) (xs : Nat → A9) (co : Option Addr) (mm cap3 : Nat) (hmm : mm ≤ 50) (w : World) (hn : n ≤ 40) (hm : m ≤ 150) (hb : n = b.length) (hx : Nums w ao n (fun i => b.getD i 0)) (ha : Acts w bo m xs) (hy : false = Ps.newOk b) : Calls Try.prog 9 #[.slice ao n cap, .slice bo m cap2, .slice co mm cap3] w fun e w' => e = .returned (.bool true) ∧ Fr No w w' := by
  have t0 : decide ((40 : Int) < (n : Int)) = false := decide_eq_false (by omega)
  have t2 : decide ((150 : Int) < (m : Int)) = false := decide_eq_false (by omega)
  have t2b : decide ((50 : Int) < (mm : Int)) = false := decide_eq_false (by omega)
  have HMM := Lib.hid hmm
  clear hmm
  have HX := Lib.hid hx
  have HA := Lib.hid ha
  have HN := Lib.hid hb
  have HN40 : Hid (n ≤ 40 ∧ m ≤ 150) := Lib.hid ⟨hn, hm⟩
  have HY := Lib.hid hy
  have HPL := Lib.hid (fun X (hX : Nums X ao n (fun i => b.getD i 0)) => played_bad ao n cap (.slice bo m cap2) b X hb hn hX hy)
  have HDN := Lib.hid (fun X (hX : Nums X ao n (fun i => b.getD i 0)) => rnew_any ao n cap b X hb (by omega) hX)
  clear hx ha hb hn hm hy
  go_enter Try.func9, Try.ntmps9
  go_wp2_with fail
  refine (shown10_any _).mono ?_
  rintro e w1 ⟨rfl, hF⟩
  have HF := Lib.hid hF
  clear hF
  go_wp2_with fail
  refine (HPL.out _ (HX.out.fr HF.out (fun _ _ => id))).mono ?_
  intro e w2 h
  unfold Played at h
  rw [← HY.out] at h
  obtain ⟨rfl, hF2⟩ := h
  have HF2 := Lib.hid (HF.out.trans hF2)
  clear hF2 HPL
  go_wp2_with fail
  refine (HDN.out _ (HX.out.fr HF2.out (fun _ _ => id))).mono ?_
  intro e w3 h
  unfold DNew at h
  rw [← HY.out] at h
  obtain ⟨rfl, hF3⟩ := h
  have HF3 := Lib.hid (HF2.out.trans hF3)
  clear hF3 HDN
  obtain ⟨rb, hrb⟩ : ∃ r, r = w3.heap.size := ⟨_, rfl⟩
  have HAL : Hid ((Instr.alloc 32 true (.tuple #[])).run Try.prog w3 = .ok (.pointer (some ⟨rb, 0, none⟩)) (w3.alloc (.cells zeroP.toArray 32))) := Lib.hid (by rw [hrb]; exact alloc_rp w3)
  have HZ : Hid (Blk (w3.alloc (.cells zeroP.toArray 32)) rb 32 zeroP) := Lib.hid (by rw [hrb]; exact Blk.new w3 _ _)
  obtain ⟨Y, hY, hYB, hYF⟩ := store_rp HZ.out (L := cellsP none 0 0 (List.replicate 32 (0, 0))) (cellsP_len rfl) (cellsP_len rfl) cellsP_one
  have HYS := Lib.hid hY
  have HFY : Hid (Fr No w Y) := Lib.hid ((HF3.out.alloc _).trans' hYF (fun i hi e => by have := HF3.out.size; omega))
  clear hY hYB hYF hrb
  go_wp2_with (first
    | (refine wpList_execG (.pointer (some ⟨rb, 0, none⟩)) (exec_alloc 32 rfl _ HAL.out) rfl ?_)
    | (refine wpList_store_eq rfl 32 _ _ rfl (.pointer (some ⟨rb, 0, none⟩)) (vP none 0 0 (List.replicate 32 (0, 0))) rfl rfl HYS.out ?_))
  go_ret
  exact ⟨rfl, HFY.out⟩
set_option maxHeartbeats 16000000 in
theorem over_ok (ao bo : Option Addr) (n cap m cap2 : Nat) (b : List Nat) (xs : Nat → A9) (co : Option Addr) (mm cap3 : Nat) (hmm : mm ≤ 50) (ys : Nat → A9) (w : World) (hn : n ≤ 40) (hm : m ≤ 150) (hb : n = b.length) (hx : Nums w ao n (fun i => b.getD i 0)) (ha : Acts w bo m xs) (hc : Acts w co mm ys) (hy : true = Ps.newOk b) : Calls Try.prog 9 #[.slice ao n cap, .slice bo m cap2, .slice co mm cap3] w fun e w' => e = .returned (.bool true) ∧ Fr No w w' := by
  have t0 : decide ((40 : Int) < (n : Int)) = false := decide_eq_false (by omega)
  have t2 : decide ((150 : Int) < (m : Int)) = false := decide_eq_false (by omega)
  have t2b : decide ((50 : Int) < (mm : Int)) = false := decide_eq_false (by omega)
  have HMM := Lib.hid hmm
  clear hmm
  have HC := Lib.hid hc
  clear hc
  have HX := Lib.hid hx
  have HA := Lib.hid ha
  have HN := Lib.hid hb
  have HN40 : Hid (n ≤ 40 ∧ m ≤ 150) := Lib.hid ⟨hn, hm⟩
  have HY := Lib.hid hy
  have HPL := Lib.hid (fun X (hX : Nums X ao n (fun i => b.getD i 0)) (hA : Acts X bo m xs) => played_ok ao bo n cap m cap2 b xs X hb hn (by omega) hX hA hy)
  clear hx ha hb hn hm hy
  go_enter Try.func9, Try.ntmps9
  go_wp2_with fail
  refine (shown10_any _).mono ?_
  rintro e w1 ⟨rfl, hF⟩
  have HF := Lib.hid hF
  clear hF
  go_wp2_with fail
  refine (HPL.out _ (HX.out.fr HF.out (fun _ _ => id)) (HA.out.no HF.out)).mono ?_
  intro e w2 h
  unfold Played at h
  rw [← HY.out, if_pos rfl] at h
  obtain ⟨p, O, s, tv, rfl, hK, hI, hT, hD, hSm⟩ := h
  have HSM := Lib.hid hSm
  clear hSm
  have HK := Lib.hid (hK.up HF.out)
  have HKW := Lib.hid hK
  have HI := Lib.hid hI
  have HT := Lib.hid hT
  have HD := Lib.hid hD
  obtain ⟨ta, tc, htv, _⟩ := hT.slice
  obtain ⟨Ln, hLn⟩ : ∃ L, L = s.sts.length := ⟨_, rfl⟩
  have HLN : Hid (Ln = s.t.length ∧ Ln ≤ 32) := Lib.hid ⟨by rw [hLn, Bs.sts_len], by rw [hLn, Bs.sts_len]; exact HK.out.bk.inv.len⟩
  rw [← hLn] at htv
  subst htv
  clear hK hI hT hD HPL hLn
  obtain ⟨i1, hi1, hz01, hz11, hz21⟩ := info_parts Try.infoInt10
  obtain ⟨i2, hi2, hz02, hz12, hz22⟩ := info_parts Try.infoErr10
  have HW1 : Hid (w.heap.size ≤ w1.heap.size ∧ w1.heap.size ≤ w2.heap.size) := Lib.hid ⟨HF.out.size, HKW.out.fr.size⟩
  have HK := HKW
  go_wp2_with fail
  have HO1 := Lib.hid (OwI.new 3 w1.heap.size w2 HW1.out.2)
  have HO2 := Lib.hid (OwI.new 42 w1.heap.size (w2.alloc (.cells #[] 3)) (by have := HW1.out; simp; omega))
  rw [World.size_alloc] at HO2
  have HK2 := Lib.hid ((HK.out.no ((Fr.refl No w2).alloc (.cells #[] 3))).no ((Fr.refl No _).alloc (.cells #[] 42)))
  have HD1 : Hid (∀ k, (Value.slice (some ⟨w2.heap.size, 0, none⟩) 0 0).ownBlock = some k → ¬ O k) := Lib.hid (fun k hk e => by
    have := HK.out.bk.lt k e
    simp only [Value.ownBlock, Option.some.injEq] at hk
    omega)
  have HD2 : Hid (∀ k, (Value.slice (some ⟨w2.heap.size + 1, 0, none⟩) 0 0).ownBlock = some k → ¬ O k) := Lib.hid (fun k hk e => by
    have := HK.out.bk.lt k e
    simp only [Value.ownBlock, Option.some.injEq] at hk
    omega)
  go_loopw [11, 12, 13] (fun vo vr c wr => ∃ (i : Nat) (ov re : List Int), i ≤ Ln ∧ c = .int .i64 i ∧ Kp w1 O p s wr ∧ OwI 3 w1.heap.size vo ov wr ∧ OwI 42 w1.heap.size vr re wr ∧ (∀ k, vo.ownBlock = some k → ¬ O k) ∧ (∀ k, vr.ownBlock = some k → ¬ O k) ∧ OvOk s ov re ∧ ov.length ≤ i) (fun _ _ c _ => Ln - (intOf c).toNat)
  case atStart => exact ⟨0, [], [], by omega, rfl, HK2.out, HO1.out.no ((Fr.refl No _).alloc _), HO2.out, HD1.out, HD2.out, ⟨rfl, fun j x r hx => by simp at hx⟩, by simp⟩
  clear HO1 HO2 HK2 HD1 HD2 HK HT HKW HD
  case round =>
    obtain ⟨i, ov, re, hi, rfl, hK, hO1, hO2, hD1, hD2, hOk, hlen⟩ := hrel
    have HK := Lib.hid hK
    have HO1 := Lib.hid hO1
    have HO2 := Lib.hid hO2
    have HD1 := Lib.hid hD1
    have HD2 := Lib.hid hD2
    have HOK := Lib.hid hOk
    obtain ⟨oa, oc, hvo, _⟩ := hO1.slice
    obtain ⟨ra, rc, hvr, _⟩ := hO2.slice
    have HLE : Hid (ov.length ≤ 32 ∧ re.length = ov.length) := Lib.hid ⟨by have := HLN.out; omega, hOk.1.symm⟩
    obtain ⟨l1, hl1⟩ : ∃ l, l = ov.length := ⟨_, rfl⟩
    obtain ⟨l2, hl2⟩ : ∃ l, l = re.length := ⟨_, rfl⟩
    rw [← hl1] at hvo
    rw [← hl2] at hvr
    have HL12 : Hid (l1 = ov.length ∧ l2 = re.length) := Lib.hid ⟨hl1, hl2⟩
    subst hvo
    subst hvr
    have HI1 : Hid (ov.length ≤ i) := Lib.hid hlen
    clear hK hO1 hO2 hD1 hD2 hOk hlen hl1 hl2
    by_cases hlt : i < Ln
    · have t5 : (i : Int) < (Ln : Int) := by omega
      obtain ⟨k1, hk1⟩ : ∃ k, k = i + 1 := ⟨_, rfl⟩
      have HK1 : Hid (k1 = i + 1 ∧ k1 ≤ Ln) := Lib.hid ⟨hk1, by omega⟩
      have s1 : (i : Int) + 1 = (k1 : Int) := by omega
      have lw1 : IntKind.i64.wrap (k1 : Int) = (k1 : Int) := IntWalk.i64_in _ (by have := HLN.out; omega)
      have hil : i < s.t.length := by have := HLN.out; omega
      have HIL := Lib.hid hil
      have hwf : (Lit.int .i64 (i : Int)).wf = true := wf_small (by have := HLN.out; omega)
      have HR1 := Lib.hid (fun X (hX : Bk O p s X) => sd_result hX (fun i h => (HI.out.fresh i h).1) (i : Int) hwf)
      obtain ⟨y, hy⟩ : ∃ y, y = (s.tk i).acted := ⟨_, rfl⟩
      have e1 : s.actV (i : Int) = y := by unfold Bs.actV Bs.isIn; rw [decide_eq_true (by omega), Int.toNat_natCast, hy]; rfl
      obtain ⟨e9, he9⟩ : ∃ e, e = (s.tk i).e := ⟨_, rfl⟩
      have e2 : s.resV (i : Int) = e9 := by unfold Bs.resV Bs.isIn; rw [decide_eq_true (by omega), if_pos rfl, Int.toNat_natCast, he9]
      rw [e1, e2] at HR1
      have HACT := Lib.hid hy
      have HE9 := Lib.hid he9
      clear hlt hi hk1 hil hwf hy e1 e2 he9
      go_wp2_with fail
      refine (HR1.out _ HK.out.bk).mono ?_
      rintro e ya ⟨rfl, hF⟩
      have HKa := Lib.hid (HK.out.no hF)
      have HFa := Lib.hid hF
      clear hF
      go_wp2_with fail
      go_loopw [16, 17] (fun h c wr2 => ∃ k : Nat, k ≤ 4 ∧ c = .int .i64 k ∧ h = .bool (s.anyH i k) ∧ Kp w1 O p s wr2 ∧ Fr No wr wr2) (fun _ c _ => 4 - (intOf c).toNat)
      case atStart => exact ⟨0, by omega, rfl, rfl, HKa.out, HFa.out⟩
      clear HKa HFa HK
      case round =>
        obtain ⟨k, hk, rfl, rfl, hK, hF⟩ := hrel
        have HK := Lib.hid hK
        have HFr := Lib.hid hF
        clear hK hF
        by_cases hk4 : k < 4
        · have t6 : (k : Int) < 4 := by omega
          obtain ⟨k2, hk2⟩ : ∃ k', k' = k + 1 := ⟨_, rfl⟩
          have HK2 : Hid (k2 = k + 1 ∧ k2 ≤ 4) := Lib.hid ⟨hk2, by omega⟩
          have s2 : (k : Int) + 1 = (k2 : Int) := by omega
          have l2' : IntKind.i64.wrap (k2 : Int) = (k2 : Int) := IntWalk.i64_in _ (by omega)
          have HH := Lib.hid (fun X (hX : Bk O p s X) => sd_holder hX (k : Int) (wf_small (by omega)))
          obtain ⟨hv, hhv⟩ : ∃ h, h = s.hold k := ⟨_, rfl⟩
          rw [show s.holdV (k : Int) = hv by unfold Bs.holdV; rw [if_pos (by omega), Int.toNat_natCast, hhv]] at HH
          obtain ⟨z, hz⟩ : ∃ z, z = s.anyH i k := ⟨_, rfl⟩
          have HNX : Hid (s.anyH i k2 = (z || (hv == (i : Int)))) := Lib.hid (by
            rw [hk2, hz, hhv]
            show (s.anyH i k || decide (s.hold k = (i : Int))) = _
            rfl)
          rw [← hz]
          clear hk hk4 hk2 hhv hz
          cases z with
          | true =>
            go_wp2
            exact ⟨⟨k2, HK2.out.2, rfl, by rw [HNX.out]; rfl, HK.out, HFr.out⟩, by have := HK2.out; simp [intOf]; omega⟩
          | false =>
            go_wp2_with fail
            refine (HH.out _ HK.out.bk).mono ?_
            rintro e yb ⟨rfl, hF⟩
            have HKb := Lib.hid (HK.out.no hF)
            have HFb := Lib.hid (HFr.out.trans hF)
            clear hF
            go_wp2
            exact ⟨⟨k2, HK2.out.2, rfl, by rw [HNX.out]; simp, HKb.out, HFb.out⟩, by have := HK2.out; simp [intOf]; omega⟩
        · have t6 : ¬ (k : Int) < 4 := by omega
          obtain rfl : k = 4 := by omega
          obtain ⟨z, hz⟩ : ∃ z, z = s.anyH i 4 := ⟨_, rfl⟩
          have HZ := Lib.hid hz
          rw [← hz]
          have HO1b := Lib.hid (HO1.out.no HFr.out)
          have HO2b := Lib.hid (HO2.out.no HFr.out)
          clear hk hk4 hz
          cases y with
          | false =>
            go_wp2
            exact ⟨⟨k1, ov, re, HK1.out.2, rfl, HK.out, HO1b.out, HO2b.out, HD1.out, HD2.out, HOK.out, by have := HI1.out; have := HK1.out; omega⟩, by have := HK1.out; simp [intOf]; omega⟩
          | true =>
            cases z with
            | true =>
              go_wp2
              exact ⟨⟨k1, ov, re, HK1.out.2, rfl, HK.out, HO1b.out, HO2b.out, HD1.out, HD2.out, HOK.out, by have := HI1.out; have := HK1.out; omega⟩, by have := HK1.out; simp [intOf]; omega⟩
            | false =>
              have HOV : Hid ((s.tk i).over = true) := Lib.hid ((Bs.over_iff HK.out.bk.inv HIL.out).2 ⟨HACT.out.symm, Bs.anyH_not.1 HZ.out.symm⟩)
              have HOK2 := Lib.hid (HOK.out.snoc HIL.out HOV.out)
              rw [← HE9.out] at HOK2

              have HO1c := Lib.hid (HO1b.out.no ((Fr.refl No wr).alloc (.cells #[.int .i64 (i : Int)] 3)))
              have HO2c := Lib.hid (HO2b.out.no ((Fr.refl No wr).alloc (.cells #[.int .i64 (i : Int)] 3)))
              have HKc := Lib.hid (HK.out.no ((Fr.refl No wr).alloc (.cells #[.int .i64 (i : Int)] 3)))
              have HBW : Hid (w1.heap.size ≤ wr.heap.size) := Lib.hid HK.out.fr.size
              go_wp2_with (at_builtin; refine wpList_append_own_at _ rfl _ _ 35 rfl w1.heap.size 3 i1 (.int .i64 0) 1 8 Try.underlying35 hi1 hz01 hz11 hz21 rfl (by decide) _ _ _ rfl HO1c.out ⟨wr.heap.size, 0, none⟩ 1 1 [.int .i64 (i : Int)] rfl rfl (cell_one_new _ _ _) ?c2 ?c3 ?c4 ?c5 ?c6)
              case c2 => first | rfl | (intro u hu; simp at hu; subst hu; rfl) | simp [Value.oneCell']
              case c3 => have := HLE.out; have := HL12.out; unfold maxLen; omega
              case c4 => have := HLE.out; have := HL12.out; omega
              case c5 => have := HBW.out; simp; omega
              case c6 =>
                intro vo2 yc hown hgrow _ hloc
                have HO1d : Hid (OwI 3 w1.heap.size vo2 (ov ++ [(i : Int)]) yc) := Lib.hid (OwI.snoc hown (by have := HL12.out; omega))
                have hF2 : Fr (fun k => (Value.slice oa l1 oc).ownBlock = some k) (wr.alloc (.cells #[.int .i64 (i : Int)] 3)) yc := Fr.of_grown hgrow (fun k e => e)
                have HKd := Lib.hid (HKc.out.own hF2 (fun k hk e => HD1.out k e hk) (fun k e => (HO1c.out.lt k e).1))
                have HO2d := Lib.hid (HO2c.out.fr hF2 (fun k h1 h2 => HO1c.out.ne HO2c.out (by decide) h2 h1))
                have HD1d : Hid (∀ k, vo2.ownBlock = some k → ¬ O k) := Lib.hid (fun k hk e => by
                  rcases hloc with h | h
                  · exact HD1.out k (by rw [← h]; exact hk) e
                  · have h9 := Option.some.inj (h.symm.trans hk)
                    have h8 := HKc.out.bk.lt k e
                    rw [World.size_alloc] at h8
                    omega)
                obtain ⟨oa2, on2, oc2, rfl⟩ := slice_form10 hown
                have HKe := Lib.hid (HKd.out.no ((Fr.refl No yc).alloc (.cells #[.int .i64 e9] 42)))
                have HO1e := Lib.hid (HO1d.out.no ((Fr.refl No yc).alloc (.cells #[.int .i64 e9] 42)))
                have HO2e := Lib.hid (HO2d.out.no ((Fr.refl No yc).alloc (.cells #[.int .i64 e9] 42)))
                have HBY : Hid (w1.heap.size ≤ yc.heap.size) := Lib.hid HKd.out.fr.size
                clear hown hgrow hloc hF2
                go_wp2_with (at_builtin; refine wpList_append_own_at _ rfl _ _ 72 rfl w1.heap.size 42 i2 (.int .i64 0) 1 8 Try.underlying72 hi2 hz02 hz12 hz22 rfl (by decide) _ _ _ rfl HO2e.out ⟨yc.heap.size, 0, none⟩ 1 1 [.int .i64 e9] rfl rfl (cell_one_new _ _ _) ?c2 ?c3 ?c4 ?c5 ?c6)
                case c2 => first | rfl | (intro u hu; simp at hu; subst hu; rfl) | simp [Value.oneCell']
                case c3 => have := HLE.out; have := HL12.out; unfold maxLen; omega
                case c4 => have := HLE.out; have := HL12.out; omega
                case c5 => have := HBY.out; simp; omega
                case c6 =>
                  intro vr2 yd hown hgrow _ hloc
                  have HO2f : Hid (OwI 42 w1.heap.size vr2 (re ++ [e9]) yd) := Lib.hid (OwI.snoc hown (by have := HL12.out; omega))
                  have hF2 : Fr (fun k => (Value.slice ra l2 rc).ownBlock = some k) (yc.alloc (.cells #[.int .i64 e9] 42)) yd := Fr.of_grown hgrow (fun k e => e)
                  have HKf := Lib.hid (HKe.out.own hF2 (fun k hk e => HD2.out k e hk) (fun k e => (HO2e.out.lt k e).1))
                  have HO1f := Lib.hid (HO1e.out.fr hF2 (fun k h1 h2 => HO1e.out.ne HO2e.out (by decide) h1 h2))
                  have HD2f : Hid (∀ k, vr2.ownBlock = some k → ¬ O k) := Lib.hid (fun k hk e => by
                    rcases hloc with h | h
                    · exact HD2.out k (by rw [← h]; exact hk) e
                    · have h9 := Option.some.inj (h.symm.trans hk)
                      have h8 := HKe.out.bk.lt k e
                      rw [World.size_alloc] at h8
                      omega)
                  obtain ⟨ra2, rn2, rc2, rfl⟩ := slice_form10 hown
                  clear hown hgrow hloc hF2
                  go_wp2
                  exact ⟨⟨k1, ov ++ [(i : Int)], re ++ [e9], HK1.out.2, rfl, HKf.out, HO1f.out, HO2f.out, HD1d.out, HD2f.out, HOK2.out, by have := HI1.out; have := HK1.out; rw [List.length_append, List.length_singleton]; omega⟩, by have := HK1.out; simp [intOf]; omega⟩
    · have t5 : ¬ (i : Int) < (Ln : Int) := by omega
      have HMS : Hid (Bs.Hist (Ps.newS b) s) := HI
      clear hlt hi
      go_wp2_with fail
      go_loopw [18] (fun c wr2 => ∃ (j : Nat) (s2 : Bs) (O2 : Nat → Prop), j ≤ mm ∧ c = .int .i64 j ∧ Kp w1 O2 p s2 wr2 ∧ OwI 3 w1.heap.size (.slice oa l1 oc) ov wr2 ∧ OwI 42 w1.heap.size (.slice ra l2 rc) re wr2 ∧ (∀ k, (Value.slice oa l1 oc).ownBlock = some k → ¬ O2 k) ∧ (∀ k, (Value.slice ra l2 rc).ownBlock = some k → ¬ O2 k) ∧ OvOk s2 ov re ∧ Bs.Hist (Ps.newS b) s2) (fun c _ => mm - (intOf c).toNat)
      case atStart => exact ⟨0, s, O, by omega, rfl, HK.out, HO1.out, HO2.out, HD1.out, HD2.out, HOK.out, HMS.out⟩
      clear HK HO1 HO2 HD1 HD2 HOK HMS
      case round =>
        obtain ⟨j, s2, O2, hj, rfl, hK, hO1, hO2, hD1, hD2, hOk, hH⟩ := hrel
        have HK := Lib.hid hK
        have HO1 := Lib.hid hO1
        have HO2 := Lib.hid hO2
        have HD1 := Lib.hid hD1
        have HD2 := Lib.hid hD2
        have HOK := Lib.hid hOk
        have HH := Lib.hid hH
        clear hK hO1 hO2 hD1 hD2 hOk hH
        by_cases hlt : j < mm
        · have t6 : (j : Int) < (mm : Int) := by omega
          obtain ⟨a, hco, hok, hat⟩ := HC.out j hlt
          obtain ⟨q, hq⟩ : ∃ q, a.add (j * 4) = q := ⟨_, rfl⟩
          rw [hq] at hat
          obtain ⟨⟨kk, xa, xb, xn⟩, hx⟩ : ∃ x, x = ys j := ⟨_, rfl⟩
          rw [← hx] at hok hat
          have c1 := (hat.no (HF.out.trans HK.out.fr)).c1
          simp only at c1
          have HWA : Hid ((Lit.int .i64 xa).wf = true) := Lib.hid hok.a
          obtain ⟨k1, hk1⟩ : ∃ k, k = j + 1 := ⟨_, rfl⟩
          have HK1 : Hid (k1 = j + 1 ∧ k1 ≤ mm) := Lib.hid ⟨hk1, by omega⟩
          have s1 : (j : Int) + 1 = (k1 : Int) := by omega
          have lw1 : IntKind.i64.wrap (k1 : Int) = (k1 : Int) := IntWalk.i64_in _ (by have := HMM.out; omega)
          have hsl : j * 4 < 9223372036854775807 := by have := HMM.out; omega
          have HST := Lib.hid (fun X (hX : Bk O2 p s2 X) => sd_step hX xa HWA.out)
          obtain ⟨E, hE⟩ : ∃ E, E = s2.stepE xa := ⟨_, rfl⟩
          obtain ⟨s3, hs3⟩ : ∃ t, t = s2.stepS xa := ⟨_, rfl⟩
          rw [← hE, ← hs3] at HST
          have HOK3 : Hid (OvOk s3 ov re) := Lib.hid (by rw [hs3]; exact HOK.out.step HK.out.bk.inv _)
          have HH3 : Hid (Bs.Hist (Ps.newS b) s3) := Lib.hid (by rw [hs3]; exact HH.out.step HK.out.bk.inv _)
          rw [hco]
          clear hlt hj hok hat hx hk1 hco hE hs3
          go_wp2_with fail
          refine (HST.out _ HK.out.bk).mono ?_
          rintro e y1 ⟨rfl, hTo⟩
          obtain ⟨O3, hK3, hO3, hF⟩ := HK.out.to hTo
          have HK3 := Lib.hid hK3
          have HO1c := Lib.hid (HO1.out.fr hF (fun k hk => HD1.out k hk))
          have HO2c := Lib.hid (HO2.out.fr hF (fun k hk => HD2.out k hk))
          have HD1c : Hid (∀ k, (Value.slice oa l1 oc).ownBlock = some k → ¬ O3 k) := Lib.hid (fun k hk e => by
            rcases hO3 k e with h | h
            · exact HD1.out k hk h
            · have := (HO1.out.lt k hk).2; omega)
          have HD2c : Hid (∀ k, (Value.slice ra l2 rc).ownBlock = some k → ¬ O3 k) := Lib.hid (fun k hk e => by
            rcases hO3 k e with h | h
            · exact HD2.out k hk h
            · have := (HO2.out.lt k hk).2; omega)
          clear hTo hK3 hO3 hF c1
          go_wp2
          exact ⟨⟨k1, s3, O3, HK1.out.2, rfl, HK3.out, HO1c.out, HO2c.out, HD1c.out, HD2c.out, HOK3.out, HH3.out⟩, by have := HK1.out; simp [intOf]; omega⟩
        · have t6 : ¬ (j : Int) < (mm : Int) := by omega
          clear hlt hj
          go_wp2_with fail
          go_loopw [19] (fun c wr2 => ∃ (i : Nat) (O3 : Nat → Prop), i ≤ l1 ∧ c = .int .i64 i ∧ Kp w1 O3 p s2 wr2 ∧ OwI 3 w1.heap.size (.slice oa l1 oc) ov wr2 ∧ OwI 42 w1.heap.size (.slice ra l2 rc) re wr2 ∧ (∀ k, (Value.slice oa l1 oc).ownBlock = some k → ¬ O3 k) ∧ (∀ k, (Value.slice ra l2 rc).ownBlock = some k → ¬ O3 k)) (fun c _ => l1 - (intOf c).toNat)
          case atStart => exact ⟨0, O2, by omega, rfl, HK.out, HO1.out, HO2.out, HD1.out, HD2.out⟩
          clear HK HO1 HO2 HD1 HD2
          case round =>
            obtain ⟨i, O3, hi, rfl, hK, hO1, hO2, hD1, hD2⟩ := hrel
            have HK := Lib.hid hK
            have HO1 := Lib.hid hO1
            have HO2 := Lib.hid hO2
            have HD1 := Lib.hid hD1
            have HD2 := Lib.hid hD2
            clear hK hO1 hO2 hD1 hD2
            by_cases hlt : i < l1
            · have t7 : (i : Int) < (l1 : Int) := by omega
              have t8 : (i : Int) < (l2 : Int) := by have := HL12.out; have := HLE.out; omega
              obtain ⟨x, hx⟩ : ∃ x, ov[i]? = some x := ⟨_, List.getElem?_eq_getElem (by have := HL12.out; omega)⟩
              obtain ⟨r, hr⟩ : ∃ r, re[i]? = some r := ⟨_, List.getElem?_eq_getElem (by have := HL12.out; have := HLE.out; omega)⟩
              obtain ⟨d, rfl, hdl, hdo, hde⟩ := HOK.out.2 i x r hx hr
              obtain ⟨_, _, hsl1, hc1⟩ := HO1.out.slice
              obtain ⟨g1, hg1, hb1, hcell1⟩ := hc1 i _ hx
              have hoa : oa = some ⟨g1, 0, none⟩ := by injection hsl1 with h1 _ _; rw [h1, hg1]
              obtain ⟨_, _, hsl2, hc2⟩ := HO2.out.slice
              obtain ⟨g2, hg2, hb2, hcell2⟩ := hc2 i _ hr
              have hra : ra = some ⟨g2, 0, none⟩ := by injection hsl2 with h1 _ _; rw [h1, hg2]
              have HG1 : Hid (¬ O3 g1) := Lib.hid (HD1.out g1 hb1)
              have HG2 : Hid (¬ O3 g2) := Lib.hid (HD2.out g2 hb2)
              have HC1 := Lib.hid hcell1
              have HC2 := Lib.hid hcell2
              obtain ⟨k1, hk1⟩ : ∃ k, k = i + 1 := ⟨_, rfl⟩
              have HK1 : Hid (k1 = i + 1 ∧ k1 ≤ l1) := Lib.hid ⟨hk1, by omega⟩
              have s1 : (i : Int) + 1 = (k1 : Int) := by omega
              have lw1 : IntKind.i64.wrap (k1 : Int) = (k1 : Int) := IntWalk.i64_in _ (by have := HL12.out; have := HLE.out; omega)
              have hd32 : d < 32 := by have := HK.out.bk.inv.len; omega
              have hwf : (Lit.int .i64 (d : Int)).wf = true := wf_small (by omega)
              have HRS := Lib.hid (fun X (hX : Bk O3 p s2 X) => sd_result hX (fun i h => (HH.out.fresh i h).1) (d : Int) hwf)
              have e1 : s2.actV (d : Int) = true := by unfold Bs.actV Bs.isIn; rw [decide_eq_true (by omega), Int.toNat_natCast, HK.out.bk.inv.oa d hdl hdo]; rfl
              have e2 : s2.resV (d : Int) = r := by unfold Bs.resV Bs.isIn; rw [decide_eq_true (by omega), if_pos rfl, Int.toNat_natCast, hde]
              rw [e1, e2] at HRS
              have e3 : s2.stepE (d : Int) = 3 := (Bs.stepE_three hdl).2 hdo
              have e4 : s2.stepS (d : Int) = s2 := if_neg (by rw [e3]; omega)
              have HST := Lib.hid (fun X (hX : Bk O3 p s2 X) => sd_step hX (d : Int) hwf)
              rw [e3, e4] at HST
              have HNH : Hid (∀ k, k < 4 → s2.hold k ≠ (d : Int)) := Lib.hid (fun k hk => Bs.over_holds HK.out.bk.inv hdo hk)
              have HOA := Lib.hid hoa
              have HRA := Lib.hid hra
              have c1 := hcell1
              have c2 := hcell2
              rw [hoa, hra]
              clear hlt hi hx hr hdl hdo hde hsl1 hc1 hg1 hb1 hcell1 hoa hsl2 hc2 hg2 hb2 hcell2 hra hk1 hd32 hwf e1 e2 e3 e4
              go_wp2_with fail
              refine (HRS.out _ HK.out.bk).mono ?_
              rintro e y1 ⟨rfl, hF⟩
              have HKa := Lib.hid (HK.out.no hF)
              have HFa := Lib.hid hF
              have c3 := hF.cell id HC1.out
              have c4 := hF.cell id HC2.out
              clear hF c1 c2
              go_wp2_with fail
              refine (HST.out _ HKa.out.bk).mono ?_
              rintro e y2 ⟨rfl, hTo⟩
              obtain ⟨O4, hK4, hO4, hF⟩ := HKa.out.to hTo
              have HK4 := Lib.hid hK4
              have HO1c := Lib.hid ((HO1.out.no HFa.out).fr hF (fun k hk => HD1.out k hk))
              have HO2c := Lib.hid ((HO2.out.no HFa.out).fr hF (fun k hk => HD2.out k hk))
              have HD1c : Hid (∀ k, (Value.slice oa l1 oc).ownBlock = some k → ¬ O4 k) := Lib.hid (fun k hk e => by
                rcases hO4 k e with h | h
                · exact HD1.out k hk h
                · have := ((HO1.out.no HFa.out).lt k hk).2; omega)
              have HD2c : Hid (∀ k, (Value.slice ra l2 rc).ownBlock = some k → ¬ O4 k) := Lib.hid (fun k hk e => by
                rcases hO4 k e with h | h
                · exact HD2.out k hk h
                · have := ((HO2.out.no HFa.out).lt k hk).2; omega)
              have HC1y := Lib.hid (hF.cell HG1.out c3)
              clear hTo hK4 hO4 hF c3 c4
              go_wp2_with fail
              go_loopw [22] (fun c wr3 => ∃ k : Nat, k ≤ 4 ∧ c = .int .i64 k ∧ Kp w1 O4 p s2 wr3 ∧ Fr No y2 wr3) (fun c _ => 4 - (intOf c).toNat)
              case atStart => exact ⟨0, by omega, rfl, HK4.out, Fr.refl _ _⟩
              clear HK4
              case round =>
                obtain ⟨k, hk, rfl, hK, hF⟩ := hrel
                have HKx := Lib.hid hK
                have HFx := Lib.hid hF
                clear hK hF
                by_cases hk4 : k < 4
                · have t9 : (k : Int) < 4 := by omega
                  obtain ⟨k2, hk2⟩ : ∃ k', k' = k + 1 := ⟨_, rfl⟩
                  have HK2 : Hid (k2 = k + 1 ∧ k2 ≤ 4) := Lib.hid ⟨hk2, by omega⟩
                  have s2' : (k : Int) + 1 = (k2 : Int) := by omega
                  have l2' : IntKind.i64.wrap (k2 : Int) = (k2 : Int) := IntWalk.i64_in _ (by omega)
                  have HHL := Lib.hid (fun X (hX : Bk O4 p s2 X) => sd_holder hX (k : Int) (wf_small (by omega)))
                  obtain ⟨hv, hhv⟩ : ∃ h, h = s2.hold k := ⟨_, rfl⟩
                  rw [show s2.holdV (k : Int) = hv by unfold Bs.holdV; rw [if_pos (by omega), Int.toNat_natCast, hhv]] at HHL
                  have jh : (hv == (d : Int)) = false := by rw [beq_eq_false_iff_ne, hhv]; exact HNH.out k hk4
                  have HCX : Hid (∀ X, Fr No y2 X → (Instr.loadAt 3 (.pointer (some ⟨g1, i, none⟩))).run Try.prog X = .ok (.int .i64 (d : Int)) X) := Lib.hid (fun X hX => by
                    have := hX.cell id HC1y.out
                    simp [go_sem, this])
                  have h0i : 0 ≤ (i : Int) := by omega
                  clear hk hk4 hk2 hhv
                  go_wp2_with fail
                  refine wp_region_held_drew (S := (fun X => Fr No y2 X)) (by kernel_rfl) (HFx.out.drew) (fun hHeld => ?_)
                  refine takeD (i := 0) (d := some 146) (v := ?_) rfl (by kernel_rfl) (by kernel_rfl) (by kernel_rfl) (by kernel_rfl) (fun _ _ _ h => h) (Or.inl ⟨by kernel_rfl, fun X hX => Or.inl ?_⟩) (by assumption) ?_
                  rotate_left
                  · first | (go_simp; done) | (go_simp; with_reducible rfl)
                  (try simp only [Act.put]); (try simp only [List.setIfInBounds_toArray]); (try simp only [List.set_cons_succ]); (try simp only [List.set_cons_zero])
                  refine takeD (i := 1) (d := some 147) (v := ?_) rfl (by kernel_rfl) (by kernel_rfl) (by kernel_rfl) (by kernel_rfl) (fun _ _ _ h => h) (Or.inl ⟨by kernel_rfl, fun X hX => Or.inl ?_⟩) (by assumption) ?_
                  rotate_left
                  · first | (go_simp; done) | (go_simp; with_reducible rfl)
                  (try simp only [Act.put]); (try simp only [List.setIfInBounds_toArray]); (try simp only [List.set_cons_succ]); (try simp only [List.set_cons_zero])
                  refine takeD (i := 3) (d := some 149) (v := ?_) rfl (by kernel_rfl) (by kernel_rfl) (by kernel_rfl) (by kernel_rfl) (fun _ _ _ h => h) (Or.inl ⟨by kernel_rfl, fun X hX => Or.inl ?_⟩) (by assumption) ?_
                  rotate_left
                  · first | (go_simp; done) | (go_simp; with_reducible rfl)
                  (try simp only [Act.put]); (try simp only [List.setIfInBounds_toArray]); (try simp only [List.set_cons_succ]); (try simp only [List.set_cons_zero])
                  refine takeD (i := 4) (d := some 150) (v := ?_) rfl (by kernel_rfl) (by kernel_rfl) (by kernel_rfl) (by kernel_rfl) (fun _ _ _ h => h) (Or.inl ⟨by kernel_rfl, fun X hX => Or.inl ?_⟩) (by assumption) ?_
                  rotate_left
                  · first | (go_simp; done) | (go_simp; with_reducible rfl)
                  (try simp only [Act.put]); (try simp only [List.setIfInBounds_toArray]); (try simp only [List.set_cons_succ]); (try simp only [List.set_cons_zero])
                  refine takeD (i := 5) (d := some 151) (v := ?_) rfl (by kernel_rfl) (by kernel_rfl) (by kernel_rfl) (by kernel_rfl) (fun _ _ _ h => h) (Or.inl ⟨by kernel_rfl, fun X hX => Or.inl ?_⟩) (by assumption) ?_
                  rotate_left
                  · first | (go_simp; done) | (go_simp; with_reducible rfl)
                  (try simp only [Act.put]); (try simp only [List.setIfInBounds_toArray]); (try simp only [List.set_cons_succ]); (try simp only [List.set_cons_zero])
                  refine takeD (i := 6) (d := some 152) (v := .int .i64 (d : Int)) rfl (by kernel_rfl) (by kernel_rfl) (by kernel_rfl) (by kernel_rfl) (fun _ _ _ h => h) (Or.inl ⟨by kernel_rfl, fun X hX => Or.inl (exec_load 3 (.tmp 151) rfl _ _ rfl (HCX.out X hX))⟩) (by assumption) ?_
                  (try simp only [Act.put]); (try simp only [List.setIfInBounds_toArray]); (try simp only [List.set_cons_succ]); (try simp only [List.set_cons_zero])
                  refine wpAnyH_ready (rs := [2]) (by kernel_rfl) (by simp) ?_
                  refine AllReadyH.cons rfl (fun K hK => ?_) AllReadyH.nil
                  rw [if_pos (by kernel_rfl)]
                  go_simp
                  refine (HHL.out _ (HKx.out.no (Fr.refl No _).drew).bk).mono ?_
                  rintro e yv ⟨rfl, hv'⟩
                  have FV := Lib.hid (hHeld.trans hv')
                  have KV := Lib.hid ((HKx.out.no (Fr.refl No _).drew).no hv')
                  clear hv'
                  refine hK.out _ _ (FV.out) (fun hHeld => ?_)
                  clear hK K
                  (try simp only [Act.put]); (try simp only [List.setIfInBounds_toArray]); (try simp only [List.set_cons_succ]); (try simp only [List.set_cons_zero])
                  refine takeD (i := 7) (d := some 153) (v := ?_) rfl (by kernel_rfl) (by kernel_rfl) (by kernel_rfl) (by kernel_rfl) (fun _ _ _ h => h) (Or.inl ⟨by kernel_rfl, fun X hX => Or.inl ?_⟩) (by assumption) ?_
                  rotate_left
                  · first | (go_simp; done) | (go_simp; with_reducible rfl)
                  (try simp only [Act.put]); (try simp only [List.setIfInBounds_toArray]); (try simp only [List.set_cons_succ]); (try simp only [List.set_cons_zero])
                  refine wpAnyH_done (by kernel_rfl) ?_ _
                  clear hHeld
                  go_wp2
                  exact ⟨⟨k2, HK2.out.2, rfl, KV.out, FV.out⟩, by have := HK2.out; simp [intOf]; omega⟩
                · have t9 : ¬ (k : Int) < 4 := by omega
                  have HO1x := Lib.hid (HO1c.out.no HFx.out)
                  have HO2x := Lib.hid (HO2c.out.no HFx.out)
                  rw [HOA.out] at HO1x HD1c
                  rw [HRA.out] at HO2x HD2c
                  clear hk hk4
                  go_wp2
                  exact ⟨⟨k1, O4, HK1.out.2, rfl, HKx.out, HO1x.out, HO2x.out, HD1c.out, HD2c.out⟩, by have := HK1.out; simp [intOf]; omega⟩
            · have t7 : ¬ (i : Int) < (l1 : Int) := by omega
              clear hlt hi
              go_wp2
              go_ret
              exact ⟨rfl, HF.out.trans HK.out.fr⟩
end Go.Proofs.Ytpmmfbbppnbhbaa
