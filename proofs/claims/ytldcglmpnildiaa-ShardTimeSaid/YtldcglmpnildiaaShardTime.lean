/- The walk of 'ShardTime'. -/
import Derived.Test.YtldcglmpnildiaaSdL
import Derived.Test.YtldcglmpnildiaaPuT
import Derived.Test.YtldcglmpnildiaaSdU
import Derived.Test.YtldcglmpnildiaaSdT
import Derived.Test.YtldcglmpnildiaaSdR
import Derived.Test.YtldcglmpnildiaaTake
namespace Go.Proofs.Ytldcglmpnildiaa
open Go.RowKit
set_option linter.unusedVariables false
set_option maxRecDepth 100000
set_option maxHeartbeats 1000000 in
theorem time_long (ao : Option Addr) (n cap : Nat) (v : Value) (w : World) (hn : 40 < n) : Calls Try.prog 4 #[.slice ao n cap, v] w fun e w' => e = .returned (.bool true) ∧ Fr No w w' := by
  have t0 : decide ((40 : Int) < (n : Int)) = true := decide_eq_true (by omega)
  clear hn
  go_enter Try.func4, Try.ntmps4
  go_wp2_with fail
  refine (shown10_any _).mono ?_
  rintro e w1 ⟨rfl, hF⟩
  have HF := Lib.hid hF
  clear hF
  go_wp2
  go_ret
  exact ⟨rfl, HF.out⟩

set_option maxHeartbeats 1000000 in
theorem time_long2 (ao bo : Option Addr) (n cap m cap2 : Nat) (w : World) (hn : n ≤ 40) (hm : 200 < m) : Calls Try.prog 4 #[.slice ao n cap, .slice bo m cap2] w fun e w' => e = .returned (.bool true) ∧ Fr No w w' := by
  have t0 : decide ((40 : Int) < (n : Int)) = false := decide_eq_false (by omega)
  have t2 : decide ((200 : Int) < (m : Int)) = true := decide_eq_true (by omega)
  clear hn hm
  go_enter Try.func4, Try.ntmps4
  go_wp2_with fail
  refine (shown10_any _).mono ?_
  rintro e w1 ⟨rfl, hF⟩
  have HF := Lib.hid hF
  clear hF
  go_wp2
  go_ret
  exact ⟨rfl, HF.out⟩
set_option maxHeartbeats 4000000 in
theorem time_bad (ao bo : Option Addr) (n cap m cap2 : Nat) (b : List Nat) (xs : Nat → A9) (w : World) (hn : n ≤ 40) (hm : m ≤ 200) (hb : n = b.length) (hx : Nums w ao n (fun i => b.getD i 0)) (ha : Acts w bo m xs) (hy : false = Ps.newOk b) : Calls Try.prog 4 #[.slice ao n cap, .slice bo m cap2] w fun e w' => e = .returned (.bool true) ∧ Fr No w w' := by
  have t0 : decide ((40 : Int) < (n : Int)) = false := decide_eq_false (by omega)
  have t2 : decide ((200 : Int) < (m : Int)) = false := decide_eq_false (by omega)
  have HX := Lib.hid hx
  have HA := Lib.hid ha
  have HN := Lib.hid hb
  have HN40 : Hid (n ≤ 40 ∧ m ≤ 200) := Lib.hid ⟨hn, hm⟩
  have HY := Lib.hid hy
  have HPL := Lib.hid (fun X (hX : Nums X ao n (fun i => b.getD i 0)) => sd_new ao n cap b X hb (by unfold maxLen; omega) hX false hy)
  have HDN := Lib.hid (fun X (hX : Nums X ao n (fun i => b.getD i 0)) => rnew_any ao n cap b X hb (by omega) hX)
  clear hx ha hb hn hm hy
  go_enter Try.func4, Try.ntmps4
  go_wp2_with fail
  refine (shown10_any _).mono ?_
  rintro e w1 ⟨rfl, hF⟩
  have HF := Lib.hid hF
  clear hF
  go_wp2_with fail
  refine (HPL.out _ (HX.out.fr HF.out (fun _ _ => id))).mono ?_
  rintro e w2 ⟨hF2, he⟩
  obtain rfl : e = .returned (.pointer none) := he
  have HF2 := Lib.hid (HF.out.trans hF2)
  clear hF2 HPL
  go_wp2_with fail
  refine (HDN.out _ (HX.out.fr HF2.out (fun _ _ => id))).mono ?_
  intro e w3 h
  unfold DNew at h
  rw [← HY.out] at h
  obtain ⟨rfl, hF3⟩ := h
  have HF3 := Lib.hid (HF2.out.trans hF3)
  clear hF3 HDN
  obtain ⟨rb, hrb⟩ : ∃ r, r = w3.heap.size := ⟨_, rfl⟩
  have HAL : Hid ((Instr.alloc 32 true (.tuple #[])).run Try.prog w3 = .ok (.pointer (some ⟨rb, 0, none⟩)) (w3.alloc (.cells zeroP.toArray 32))) := Lib.hid (by rw [hrb]; exact alloc_rp w3)
  have HZ : Hid (Blk (w3.alloc (.cells zeroP.toArray 32)) rb 32 zeroP) := Lib.hid (by rw [hrb]; exact Blk.new w3 _ _)
  obtain ⟨Y, hY, hYB, hYF⟩ := store_rp HZ.out (L := cellsP none 0 0 (List.replicate 32 (0, 0))) (cellsP_len rfl) (cellsP_len rfl) cellsP_one
  have HYS := Lib.hid hY
  have HFY : Hid (Fr No w Y) := Lib.hid ((HF3.out.alloc _).trans' hYF (fun i hi e => by have := HF3.out.size; omega))
  clear hY hYB hYF hrb
  go_wp2_with (first
    | (refine wpList_execG (.pointer (some ⟨rb, 0, none⟩)) (exec_alloc 32 rfl _ HAL.out) rfl ?_)
    | (refine wpList_store_eq rfl 32 _ _ rfl (.pointer (some ⟨rb, 0, none⟩)) (vP none 0 0 (List.replicate 32 (0, 0))) rfl rfl HYS.out ?_))
  go_ret
  exact ⟨rfl, HFY.out⟩

set_option maxHeartbeats 16000000 in
theorem time_ok (ao bo : Option Addr) (n cap m cap2 : Nat) (b : List Nat) (xs : Nat → A9) (w : World) (hn : n ≤ 40) (hm : m ≤ 200) (hb : n = b.length) (hx : Nums w ao n (fun i => b.getD i 0)) (ha : Acts w bo m xs) (hy : true = Ps.newOk b) : Calls Try.prog 4 #[.slice ao n cap, .slice bo m cap2] w fun e w' => e = .returned (.bool true) ∧ Fr No w w' := by
  have t0 : decide ((40 : Int) < (n : Int)) = false := decide_eq_false (by omega)
  have t2 : decide ((200 : Int) < (m : Int)) = false := decide_eq_false (by omega)
  have HX := Lib.hid hx
  have HA := Lib.hid ha
  have HN := Lib.hid hb
  have HN40 : Hid (n ≤ 40 ∧ m ≤ 200) := Lib.hid ⟨hn, hm⟩
  have HY := Lib.hid hy
  have HPL := Lib.hid (fun X (hX : Nums X ao n (fun i => b.getD i 0)) => sd_new ao n cap b X hb (by unfold maxLen; omega) hX true hy)
  have HM : Hid (m ≤ 200) := Lib.hid hm
  obtain ⟨i1, hi1, hz01, hz11, hz21⟩ := info_parts Try.infoInt10
  clear hx ha hb hn hm hy
  go_enter Try.func4, Try.ntmps4
  go_wp2_with fail
  refine (shown10_any _).mono ?_
  rintro e w1 ⟨rfl, hF⟩
  have HF := Lib.hid hF
  clear hF
  go_wp2_with fail
  refine (HPL.out _ (HX.out.fr HF.out (fun _ _ => id))).mono ?_
  rintro e w2 ⟨hF2, p, O, rfl, hO, hB⟩
  have HK : Hid (Kp w1 O p (Bs.newB b) w2) := Lib.hid ⟨hB, hO, hF2⟩
  have HI := Lib.hid (Bs.Hist.new b)
  clear hF2 hO hB HPL
  have hmm := @run_makeMap Try.prog
  go_wp2_with fail
  obtain ⟨mb, hmb⟩ : ∃ x, x = w2.heap.size + 1 := ⟨_, rfl⟩
  have HB1 : Hid (w1.heap.size ≤ w2.heap.size) := Lib.hid HK.out.fr.size
  have HE0 := Lib.hid ((OwI.new 3 w1.heap.size w2 HB1.out).no ((Fr.refl No _).alloc (.map #[] 0)))
  have HK0 := Lib.hid ((HK.out.no ((Fr.refl No w2).alloc (.cells #[] 3))).no ((Fr.refl No _).alloc (.map #[] 0)))
  have HM0 : Hid (IM ((w2.alloc (.cells #[] 3)).alloc (.map #[] 0)) mb 0 (fun _ => 0)) := Lib.hid (by
    have := IM.new (w2.alloc (.cells #[] 3))
    rw [World.size_alloc] at this
    rw [hmb]
    exact this)
  have HMO : Hid (¬ O mb) := Lib.hid (fun e => by have := HK.out.bk.lt mb e; omega)
  have HMB : Hid (w1.heap.size ≤ mb) := Lib.hid (by have := HB1.out; omega)
  have HD0 : Hid (∀ k, (Value.slice (some ⟨w2.heap.size, 0, none⟩) 0 0).ownBlock = some k → ¬ O k) := Lib.hid (fun k hk e => by
    have := HK.out.bk.lt k e
    simp only [Value.ownBlock, Option.some.injEq] at hk
    omega)
  try rw [← hmb]
  clear hmm hmb HK
  go_loopw [8, 10, 11] (fun ve vm c wr => ∃ (i : Nat) (s : Bs) (O : Nat → Prop) (en : List Nat) (bf : Nat → Nat) (cnt : Nat), i ≤ m ∧ c = .int .i64 i ∧ vm = .int .i64 s.t.length ∧ Kp w1 O p s wr ∧ OwI 3 w1.heap.size ve (en.map fun x : Nat => (x : Int)) wr ∧ (∀ k, ve.ownBlock = some k → ¬ O k) ∧ IM wr mb cnt bf ∧ ¬ O mb ∧ Bs.Hist (Ps.newS b) s ∧ Bs.Tm s en bf ∧ en.length ≤ i ∧ cnt ≤ i) (fun _ _ c _ => m - (intOf c).toNat)
  case atStart => exact ⟨0, Bs.newB b, O, [], fun _ => 0, 0, by omega, rfl, rfl, HK0.out, HE0.out, HD0.out, HM0.out, HMO.out, HI.out, Bs.Tm.new b _, by simp, by omega⟩
  clear HK0 HE0 HD0 HM0 HMO HI HB1
  case round =>
    obtain ⟨i, s, O, en, bf, cnt, hi, rfl, rfl, hK, hE, hD, hM, hMO, hI, hTm, hel, hcn⟩ := hrel
    have HK := Lib.hid hK
    have HE := Lib.hid hE
    have HD := Lib.hid hD
    have HIM := Lib.hid hM
    have HMO := Lib.hid hMO
    have HI := Lib.hid hI
    have HTM := Lib.hid hTm
    have HLE : Hid (en.length ≤ i ∧ cnt ≤ i ∧ i ≤ 200) := Lib.hid ⟨hel, hcn, by have := HM.out; omega⟩
    obtain ⟨ea, ec, hve, _⟩ := hE.slice
    obtain ⟨le, hle⟩ : ∃ l, l = (en.map fun x : Nat => (x : Int)).length := ⟨_, rfl⟩
    rw [← hle] at hve
    have HLL : Hid (le = en.length) := Lib.hid (by rw [hle]; simp)
    subst hve
    obtain ⟨mn, hmn⟩ : ∃ x, x = s.t.length := ⟨_, rfl⟩
    rw [← hmn]
    have HMN : Hid (mn = s.t.length ∧ mn ≤ 32) := Lib.hid ⟨hmn, by rw [hmn]; exact HK.out.bk.inv.len⟩
    clear hK hE hD hM hMO hI hTm hel hcn hle hmn
    by_cases hlt : i < m
    · have t3 : (i : Int) < (m : Int) := by omega
      obtain ⟨a, hbo, hok, hat⟩ := HA.out i hlt
      obtain ⟨q, hq⟩ : ∃ q, a.add (i * 4) = q := ⟨_, rfl⟩
      rw [hq] at hat
      obtain ⟨⟨k, xa, xb, xn⟩, hx⟩ : ∃ x, x = xs i := ⟨_, rfl⟩
      rw [← hx] at hok hat
      have hat2 := hat.no (HF.out.trans HK.out.fr)
      have c0 := hat2.c0
      have c1 := hat2.c1
      have c2 := hat2.c2
      have c3 := hat2.c3
      simp only at c0 c1 c2 c3
      have HWA : Hid ((Lit.int .i64 xa).wf = true) := Lib.hid hok.a
      obtain ⟨k1, hk1⟩ : ∃ k, k = i + 1 := ⟨_, rfl⟩
      have HK1 : Hid (k1 = i + 1 ∧ k1 ≤ m) := Lib.hid ⟨hk1, by omega⟩
      have s1 : (i : Int) + 1 = (k1 : Int) := by omega
      have l1 : IntKind.i64.wrap (k1 : Int) = (k1 : Int) := IntWalk.i64_in _ (by have := HM.out; omega)
      obtain ⟨mn1, hmn1⟩ : ∃ k, k = mn + 1 := ⟨_, rfl⟩
      have HMN1 := Lib.hid hmn1
      have s2 : (mn : Int) + 1 = (mn1 : Int) := by omega
      have l2 : IntKind.i64.wrap (mn1 : Int) = (mn1 : Int) := IntWalk.i64_in _ (by have := HMN.out; omega)
      have hsl : i * 4 < 9223372036854775807 := by have := HM.out; omega
      obtain ⟨xq, hxq⟩ : ∃ z, z = wr.heap.size := ⟨_, rfl⟩
      rw [hbo]
      have hAL := (Fr.refl No wr).alloc (.cells #[.int .i64 k, .int .i64 xa, .int .i64 xb, .int .u64 (xn : Int)] 41)
      have HKa := Lib.hid (HK.out.no hAL)
      have HEa := Lib.hid (HE.out.no hAL)
      have HIMa := Lib.hid (HIM.out.no hAL)
      have HXB := Lib.hid (Blk.new wr 41 [.int .i64 k, .int .i64 xa, .int .i64 xb, .int .u64 (xn : Int)])
      have HXQ := Lib.hid hxq
      have HXO : Hid (¬ O xq) := Lib.hid (fun e => by have := HK.out.bk.lt xq e; omega)
      clear hlt hi hok hat hat2 hx hk1 hbo hxq hAL hmn1
      by_cases hk0 : k = 0
      · have j0 : (k == 0) = true := by rw [hk0]; rfl
        have H1 := Lib.hid (fun X (hX : Bk O p s X) => sd_start hX xa xb xn)
        obtain ⟨I, hI⟩ : ∃ I, I = s.startI xa xb := ⟨_, rfl⟩
        obtain ⟨E, hE⟩ : ∃ E, E = s.startE xa xb := ⟨_, rfl⟩
        obtain ⟨s', hs'⟩ : ∃ t, t = s.startS xa xb xn := ⟨_, rfl⟩
        rw [← hI, ← hE, ← hs'] at H1
        have HH' : Hid (Bs.Hist (Ps.newS b) s') := Lib.hid (by rw [hs']; exact HI.out.start HK.out.bk.inv _ _ _)
        have HADD : Hid (E = 0 → I = mn ∧ s'.t.length = mn1 ∧ Bs.Tm s' en (fun j => if j = mn then en.length else bf j)) := Lib.hid (fun e => by
          have e2 := hE.symm.trans e
          refine ⟨by rw [hI, HMN.out.1]; exact if_pos e2, ?_, ?_⟩
          · rw [hs', HMN1.out, HMN.out.1]; unfold Bs.startS; rw [if_pos e2]; simp [Bs.add1]
          · rw [hs', HMN.out.1]; unfold Bs.startS; rw [if_pos e2]; exact HTM.out.add HK.out.bk.inv _)
        have HNO : Hid (E ≠ 0 → s' = s) := Lib.hid (fun e => by rw [hs']; unfold Bs.startS; exact if_neg (fun e2 => e (hE.trans e2)))
        clear hI hE hs' hk0
        go_wp2_with fail
        refine (H1.out _ HKa.out.bk).mono ?_
        rintro e y1 ⟨rfl, hTo⟩
        obtain ⟨O', hK, hO', hF⟩ := HKa.out.to hTo
        have HK2 := Lib.hid hK
        have HE2 := Lib.hid (HEa.out.fr hF (fun k hk => HD.out k hk))
        have HIM2 := Lib.hid (HIMa.out.fr hF HMO.out)
        have HD2 : Hid (∀ k, (Value.slice ea le ec).ownBlock = some k → ¬ O' k) := Lib.hid (fun k hk e => by
          rcases hO' k e with h | h
          · exact HD.out k hk h
          · have := (HEa.out.lt k hk).2; omega)
        have HMO2 : Hid (¬ O' mb) := Lib.hid (fun e => by
          rcases hO' mb e with h | h
          · exact HMO.out h
          · have := HIMa.out.lt; omega)
        clear hTo hK hO' hF
        by_cases hE0 : E = 0
        · have je : (E == 0) = true := by rw [hE0]; rfl
          obtain ⟨hIm, hsl', hTm'⟩ := HADD.out hE0
          have HSL := Lib.hid hsl'
          have HTM' := Lib.hid hTm'
          rw [hIm]
          clear hE0 hIm hsl' hTm' c0 c1 c2 c3
          obtain ⟨D, hown, hP⟩ := HIM2.out
          have HO := Lib.hid hown
          have HP := Lib.hid hP
          clear hown hP
          have hlim : cnt < maxLen := by have := HLE.out; unfold maxLen; omega
          have hkey : keyOf Try.prog 3 (.int .i64 (mn : Int)) = some (.int .i64 (mn : Int)) := Go.Maps.keyOf_int_mk Try.underlying3 (wf_small (by have := HMN.out; omega))
          go_wp2_with (at_mapUpdate; refine wpList_mapUpdate_own _ rfl _ _ _ 66 rfl 3 3 keyed9 Try.underlying66 readI mb cnt D rfl HO.out hlim (.int .i64 (mn : Int)) (.int .i64 (le : Int)) (.int .i64 (mn : Int)) rfl rfl hkey (.lit (.int .i64 (le : Int))) [] rfl ?_; intro w4 hown4 hgrow4; have HO4 := Lib.hid hown4; have HG4 := Lib.hid hgrow4; clear hown4 hgrow4)
          have hF4 : Fr (· = mb) y1 w4 := Fr.of_grown HG4.out (fun k e => by injection e with e; exact e.symm)
          have h4 : IM w4 mb (cnt + 1) (fun j => if j = mn then en.length else bf j) := by
            rw [← HLL.out]
            exact IM.of HO.out.isMap HP.out HO4.out
          exact ⟨⟨k1, s', O', en, _, cnt + 1, HK1.out.2, rfl, by rw [HSL.out], HK2.out.own hF4 (fun k hk e => HMO2.out (e ▸ hk)) (fun k e => by have := HMB.out; omega), by rw [HLL.out] at HE2 ⊢; simpa using HE2.out.fr hF4 (fun k hk e => HIM2.out.apart HE2.out hk e), HD2.out, h4, HMO2.out, HH'.out, HTM'.out, by have := HK1.out; have := HLE.out; omega, by have := HK1.out; have := HLE.out; omega⟩, by have := HK1.out; simp [intOf]; omega⟩
        · have je : (E == 0) = false := by rw [beq_eq_false_iff_ne]; exact hE0
          have HS2 := Lib.hid (HNO.out hE0)
          clear hE0 c0 c1 c2 c3
          go_wp2
          rw [HS2.out] at HK2 HH'
          exact ⟨⟨k1, s, O', en, bf, cnt, HK1.out.2, rfl, by rw [HMN.out.1], HK2.out, HE2.out, HD2.out, HIM2.out, HMO2.out, HH'.out, HTM.out, by have := HK1.out; have := HLE.out; omega, by have := HK1.out; have := HLE.out; omega⟩, by have := HK1.out; simp [intOf]; omega⟩
      · by_cases hk1 : k = 1
        · have j0 : (k == 0) = false := by rw [beq_eq_false_iff_ne]; exact hk0
          have j1 : (k == 1) = true := by rw [hk1]; rfl
          have H1 := Lib.hid (fun X (hX : Bk O p s X) => sd_list hX)
          obtain ⟨I, hI⟩ : ∃ I, I = s.listI := ⟨_, rfl⟩
          obtain ⟨E, hE⟩ : ∃ E, E = s.listE := ⟨_, rfl⟩
          obtain ⟨s', hs'⟩ : ∃ t, t = s.listS := ⟨_, rfl⟩
          rw [← hI, ← hE, ← hs'] at H1
          have HH' : Hid (Bs.Hist (Ps.newS b) s') := Lib.hid (by rw [hs']; exact HI.out.lists HK.out.bk.inv)
          have HADD : Hid (E = 0 → I = mn ∧ s'.t.length = mn1 ∧ Bs.Tm s' en (fun j => if j = mn then en.length else bf j)) := Lib.hid (fun e => by
            have e2 := hE.symm.trans e
            refine ⟨by rw [hI, HMN.out.1]; exact if_pos e2, ?_, ?_⟩
            · rw [hs', HMN1.out, HMN.out.1]; unfold Bs.listS; rw [if_pos e2]; simp [Bs.add1]
            · rw [hs', HMN.out.1]; unfold Bs.listS; rw [if_pos e2]; exact HTM.out.add HK.out.bk.inv _)
          have HNO : Hid (E ≠ 0 → s' = s) := Lib.hid (fun e => by rw [hs']; unfold Bs.listS; exact if_neg (fun e2 => e (hE.trans e2)))
          clear hI hE hs' hk0 hk1
          go_wp2_with fail
          refine (H1.out _ HKa.out.bk).mono ?_
          rintro e y1 ⟨rfl, hTo⟩
          obtain ⟨O', hK, hO', hF⟩ := HKa.out.to hTo
          have HK2 := Lib.hid hK
          have HE2 := Lib.hid (HEa.out.fr hF (fun k hk => HD.out k hk))
          have HIM2 := Lib.hid (HIMa.out.fr hF HMO.out)
          have HD2 : Hid (∀ k, (Value.slice ea le ec).ownBlock = some k → ¬ O' k) := Lib.hid (fun k hk e => by
            rcases hO' k e with h | h
            · exact HD.out k hk h
            · have := (HEa.out.lt k hk).2; omega)
          have HMO2 : Hid (¬ O' mb) := Lib.hid (fun e => by
            rcases hO' mb e with h | h
            · exact HMO.out h
            · have := HIMa.out.lt; omega)
          clear hTo hK hO' hF
          by_cases hE0 : E = 0
          · have je : (E == 0) = true := by rw [hE0]; rfl
            obtain ⟨hIm, hsl', hTm'⟩ := HADD.out hE0
            have HSL := Lib.hid hsl'
            have HTM' := Lib.hid hTm'
            rw [hIm]
            clear hE0 hIm hsl' hTm' c0 c1 c2 c3
            obtain ⟨D, hown, hP⟩ := HIM2.out
            have HO := Lib.hid hown
            have HP := Lib.hid hP
            clear hown hP
            have hlim : cnt < maxLen := by have := HLE.out; unfold maxLen; omega
            have hkey : keyOf Try.prog 3 (.int .i64 (mn : Int)) = some (.int .i64 (mn : Int)) := Go.Maps.keyOf_int_mk Try.underlying3 (wf_small (by have := HMN.out; omega))
            go_wp2_with (at_mapUpdate; refine wpList_mapUpdate_own _ rfl _ _ _ 66 rfl 3 3 keyed9 Try.underlying66 readI mb cnt D rfl HO.out hlim (.int .i64 (mn : Int)) (.int .i64 (le : Int)) (.int .i64 (mn : Int)) rfl rfl hkey (.lit (.int .i64 (le : Int))) [] rfl ?_; intro w4 hown4 hgrow4; have HO4 := Lib.hid hown4; have HG4 := Lib.hid hgrow4; clear hown4 hgrow4)
            have hF4 : Fr (· = mb) y1 w4 := Fr.of_grown HG4.out (fun k e => by injection e with e; exact e.symm)
            have h4 : IM w4 mb (cnt + 1) (fun j => if j = mn then en.length else bf j) := by
              rw [← HLL.out]
              exact IM.of HO.out.isMap HP.out HO4.out
            exact ⟨⟨k1, s', O', en, _, cnt + 1, HK1.out.2, rfl, by rw [HSL.out], HK2.out.own hF4 (fun k hk e => HMO2.out (e ▸ hk)) (fun k e => by have := HMB.out; omega), by rw [HLL.out] at HE2 ⊢; simpa using HE2.out.fr hF4 (fun k hk e => HIM2.out.apart HE2.out hk e), HD2.out, h4, HMO2.out, HH'.out, HTM'.out, by have := HK1.out; have := HLE.out; omega, by have := HK1.out; have := HLE.out; omega⟩, by have := HK1.out; simp [intOf]; omega⟩
          · have je : (E == 0) = false := by rw [beq_eq_false_iff_ne]; exact hE0
            have HS2 := Lib.hid (HNO.out hE0)
            clear hE0 c0 c1 c2 c3
            go_wp2
            rw [HS2.out] at HK2 HH'
            exact ⟨⟨k1, s, O', en, bf, cnt, HK1.out.2, rfl, by rw [HMN.out.1], HK2.out, HE2.out, HD2.out, HIM2.out, HMO2.out, HH'.out, HTM.out, by have := HK1.out; have := HLE.out; omega, by have := HK1.out; have := HLE.out; omega⟩, by have := HK1.out; simp [intOf]; omega⟩
        · have j0 : (k == 0) = false := by rw [beq_eq_false_iff_ne]; exact hk0
          have j1 : (k == 1) = false := by rw [beq_eq_false_iff_ne]; exact hk1
          have H1 := Lib.hid (fun X (hX : Bk O p s X) => sd_step hX xa HWA.out)
          obtain ⟨E, hE⟩ : ∃ E, E = s.stepE xa := ⟨_, rfl⟩
          obtain ⟨s', hs'⟩ : ∃ t, t = s.stepS xa := ⟨_, rfl⟩
          rw [← hE, ← hs'] at H1
          have HH' : Hid (Bs.Hist (Ps.newS b) s') := Lib.hid (by rw [hs']; exact HI.out.step HK.out.bk.inv _)
          have HLN' : Hid (s'.t.length = mn) := Lib.hid (by rw [hs', ← Bs.sts_len, Bs.sts_step, Bs.sts_len]; exact HMN.out.1.symm)
          have HNO : Hid (E ≠ 0 → s' = s) := Lib.hid (fun e => by rw [hs']; unfold Bs.stepS; exact if_neg (fun e2 => e (hE.trans e2)))
          have HST : Hid (E = 0 → ∃ kx : Nat, xa = (kx : Int) ∧ kx < mn ∧ Bs.Tm s' (if (s'.tk kx).over then en ++ [kx] else en) bf) := Lib.hid (fun e => by
            have h0 := hE.symm.trans e
            obtain ⟨h1, _⟩ := Bs.stepE_zero.1 h0
            obtain ⟨kx, hki, hi, _⟩ := Bs.goes_nat h1
            refine ⟨kx, hki, by rw [HMN.out.1]; exact hi, ?_⟩
            rw [hs']
            rw [hki] at h0 ⊢
            exact HTM.out.step HK.out.bk.inv h0)
          clear hE hs' hk0 hk1
          go_wp2_with fail
          refine (H1.out _ HKa.out.bk).mono ?_
          rintro e y1 ⟨rfl, hTo⟩
          obtain ⟨O', hK, hO', hF⟩ := HKa.out.to hTo
          have HK2 := Lib.hid hK
          have HE2 := Lib.hid (HEa.out.fr hF (fun k hk => HD.out k hk))
          have HIM2 := Lib.hid (HIMa.out.fr hF HMO.out)
          have HD2 : Hid (∀ k, (Value.slice ea le ec).ownBlock = some k → ¬ O' k) := Lib.hid (fun k hk e => by
            rcases hO' k e with h | h
            · exact HD.out k hk h
            · have := (HEa.out.lt k hk).2; omega)
          have HMO2 : Hid (¬ O' mb) := Lib.hid (fun e => by
            rcases hO' mb e with h | h
            · exact HMO.out h
            · have := HIMa.out.lt; omega)
          have hb1 := (HXB.out.fr hF (by rw [← HXQ.out]; exact HXO.out))
          rw [← HXQ.out] at hb1
          have d1 := hb1.cell (i := 1) (v := .int .i64 xa) rfl
          rw [← HXQ.out]
          clear hTo hK hO' hF hb1 c0 c1 c2 c3
          by_cases hE0 : E = 0
          · have je : (E != 0) = false := by rw [hE0]; rfl
            obtain ⟨kx, rfl, hkx, hTm'⟩ := HST.out hE0
            have HTM' := Lib.hid hTm'
            have HKX := Lib.hid hkx
            have HR1 := Lib.hid (fun X (hX : Bk O' p s' X) => sd_result hX (fun i h => (HH'.out.fresh i h).1) (kx : Int) HWA.out)
            obtain ⟨y, hy⟩ : ∃ y, y = (s'.tk kx).acted := ⟨_, rfl⟩
            have e1 : s'.actV (kx : Int) = y := by unfold Bs.actV Bs.isIn; rw [decide_eq_true (by have := HLN'.out; omega), Int.toNat_natCast, hy]; rfl
            obtain ⟨e9, he9⟩ : ∃ e, e = s'.resV (kx : Int) := ⟨_, rfl⟩
            rw [e1, ← he9] at HR1
            have HACT := Lib.hid hy
            have D1 := Lib.hid d1
            clear hE0 hTm' hkx hy e1 he9
            go_wp2_with fail
            refine (HR1.out _ HK2.out.bk).mono ?_
            rintro e y2 ⟨rfl, hF⟩
            have HFY := Lib.hid hF
            clear hF d1
            go_wp2_with fail
            go_loopw [17, 18] (fun h c wr2 => ∃ k : Nat, k ≤ 4 ∧ c = .int .i64 k ∧ h = .bool (s'.anyH kx k) ∧ Fr No y1 wr2) (fun _ c _ => 4 - (intOf c).toNat)
            case atStart => exact ⟨0, by omega, rfl, rfl, HFY.out⟩
            clear HFY
            case round =>
              obtain ⟨k, hk, rfl, rfl, hF⟩ := hrel
              have HFr := Lib.hid hF
              clear hF
              by_cases hk4 : k < 4
              · have t6 : (k : Int) < 4 := by omega
                obtain ⟨k2, hk2⟩ : ∃ k', k' = k + 1 := ⟨_, rfl⟩
                have HK3 : Hid (k2 = k + 1 ∧ k2 ≤ 4) := Lib.hid ⟨hk2, by omega⟩
                have s3 : (k : Int) + 1 = (k2 : Int) := by omega
                have l3 : IntKind.i64.wrap (k2 : Int) = (k2 : Int) := IntWalk.i64_in _ (by omega)
                have HH := Lib.hid (fun X (hX : Bk O' p s' X) => sd_holder hX (k : Int) (wf_small (by omega)))
                obtain ⟨hv, hhv⟩ : ∃ h, h = s'.hold k := ⟨_, rfl⟩
                rw [show s'.holdV (k : Int) = hv by unfold Bs.holdV; rw [if_pos (by omega), Int.toNat_natCast, hhv]] at HH
                obtain ⟨z, hz⟩ : ∃ z, z = s'.anyH kx k := ⟨_, rfl⟩
                have HNX : Hid (s'.anyH kx k2 = (z || (hv == (kx : Int)))) := Lib.hid (by
                  rw [hk2, hz, hhv]
                  show (s'.anyH kx k || decide (s'.hold k = (kx : Int))) = _
                  rfl)
                have HCX : Hid (∀ X, Fr No wr X → True) := Lib.hid (fun _ _ => trivial)
                rw [← hz]
                clear hk hk4 hk2 hhv hz HCX
                have HLD : Hid (∀ X, Fr No y1 X → (Instr.loadAt 3 (.pointer (some ⟨xq, 1, none⟩))).run Try.prog X = .ok (.int .i64 (kx : Int)) X) := Lib.hid (fun X hX => by
                  have := hX.cell id D1.out
                  simp [go_sem, this])
                cases z with
                | true =>
                  go_wp2_with fail
                  refine wp_region_held_drew (S := (fun X => Fr No y1 X)) (by kernel_rfl) (HFr.out.drew) (fun hHeld => ?_)
                  refine takeD (i := 0) (d := some 78) (v := ?_) rfl (by kernel_rfl) (by kernel_rfl) (by kernel_rfl) (by kernel_rfl) (fun _ _ _ h => h) (Or.inl ⟨by kernel_rfl, fun X hX => Or.inl ?_⟩) (by assumption) ?_
                  rotate_left
                  · first | (go_simp; done) | (go_simp; with_reducible rfl)
                  (try simp only [Act.put]); (try simp only [List.setIfInBounds_toArray]); (try simp only [List.set_cons_succ]); (try simp only [List.set_cons_zero])
                  refine takeD (i := 1) (d := some 79) (v := ?_) rfl (by kernel_rfl) (by kernel_rfl) (by kernel_rfl) (by kernel_rfl) (fun _ _ _ h => h) (Or.inl ⟨by kernel_rfl, fun X hX => Or.inl ?_⟩) (by assumption) ?_
                  rotate_left
                  · first | (go_simp; done) | (go_simp; with_reducible rfl)
                  (try simp only [Act.put]); (try simp only [List.setIfInBounds_toArray]); (try simp only [List.set_cons_succ]); (try simp only [List.set_cons_zero])
                  refine takeD (i := 2) (d := some 80) (v := undef) rfl (by kernel_rfl) (by kernel_rfl) (by kernel_rfl) (by kernel_rfl) (fun _ _ _ h => h) (Or.inr ⟨by kernel_rfl, rfl⟩) (by assumption) ?_
                  (try simp only [Act.put]); (try simp only [List.setIfInBounds_toArray]); (try simp only [List.set_cons_succ]); (try simp only [List.set_cons_zero])
                  refine takeD (i := 3) (d := some 81) (v := undef) rfl (by kernel_rfl) (by kernel_rfl) (by kernel_rfl) (by kernel_rfl) (fun _ _ _ h => h) (Or.inr ⟨by kernel_rfl, rfl⟩) (by assumption) ?_
                  (try simp only [Act.put]); (try simp only [List.setIfInBounds_toArray]); (try simp only [List.set_cons_succ]); (try simp only [List.set_cons_zero])
                  refine takeD (i := 4) (d := some 82) (v := undef) rfl (by kernel_rfl) (by kernel_rfl) (by kernel_rfl) (by kernel_rfl) (fun _ _ _ h => h) (Or.inr ⟨by kernel_rfl, rfl⟩) (by assumption) ?_
                  (try simp only [Act.put]); (try simp only [List.setIfInBounds_toArray]); (try simp only [List.set_cons_succ]); (try simp only [List.set_cons_zero])
                  refine takeD (i := 5) (d := some 83) (v := undef) rfl (by kernel_rfl) (by kernel_rfl) (by kernel_rfl) (by kernel_rfl) (fun _ _ _ h => h) (Or.inr ⟨by kernel_rfl, rfl⟩) (by assumption) ?_
                  (try simp only [Act.put]); (try simp only [List.setIfInBounds_toArray]); (try simp only [List.set_cons_succ]); (try simp only [List.set_cons_zero])
                  refine takeD (i := 6) (d := some 84) (v := undef) rfl (by kernel_rfl) (by kernel_rfl) (by kernel_rfl) (by kernel_rfl) (fun _ _ _ h => h) (Or.inr ⟨by kernel_rfl, rfl⟩) (by assumption) ?_
                  (try simp only [Act.put]); (try simp only [List.setIfInBounds_toArray]); (try simp only [List.set_cons_succ]); (try simp only [List.set_cons_zero])
                  refine takeD (i := 7) (d := some 85) (v := undef) rfl (by kernel_rfl) (by kernel_rfl) (by kernel_rfl) (by kernel_rfl) (fun _ _ _ h => h) (Or.inr ⟨by kernel_rfl, rfl⟩) (by assumption) ?_
                  (try simp only [Act.put]); (try simp only [List.setIfInBounds_toArray]); (try simp only [List.set_cons_succ]); (try simp only [List.set_cons_zero])
                  refine takeD (i := 8) (d := some 86) (v := ?_) rfl (by kernel_rfl) (by kernel_rfl) (by kernel_rfl) (by kernel_rfl) (fun _ _ _ h => h) (Or.inl ⟨by kernel_rfl, fun X hX => Or.inl ?_⟩) (by assumption) ?_
                  rotate_left
                  · first | (go_simp; done) | (go_simp; with_reducible rfl)
                  (try simp only [Act.put]); (try simp only [List.setIfInBounds_toArray]); (try simp only [List.set_cons_succ]); (try simp only [List.set_cons_zero])
                  refine takeD (i := 9) (d := some 17) (v := ?_) rfl (by kernel_rfl) (by kernel_rfl) (by kernel_rfl) (by kernel_rfl) (fun _ _ _ h => h) (Or.inl ⟨by kernel_rfl, fun X hX => Or.inl ?_⟩) (by assumption) ?_
                  rotate_left
                  · first | (go_simp; done) | (go_simp; with_reducible rfl)
                  (try simp only [Act.put]); (try simp only [List.setIfInBounds_toArray]); (try simp only [List.set_cons_succ]); (try simp only [List.set_cons_zero])
                  refine wpAnyH_done (by kernel_rfl) ?_ _
                  go_wp2
                  exact ⟨⟨k2, HK3.out.2, rfl, by rw [HNX.out]; rfl, hHeld⟩, by have := HK3.out; simp [intOf]; omega⟩
                | false =>
                  go_wp2_with fail
                  refine wp_region_held_drew (S := (fun X => Fr No y1 X)) (by kernel_rfl) (HFr.out.drew) (fun hHeld => ?_)
                  refine takeD (i := 0) (d := some 78) (v := ?_) rfl (by kernel_rfl) (by kernel_rfl) (by kernel_rfl) (by kernel_rfl) (fun _ _ _ h => h) (Or.inl ⟨by kernel_rfl, fun X hX => Or.inl ?_⟩) (by assumption) ?_
                  rotate_left
                  · first | (go_simp; done) | (go_simp; with_reducible rfl)
                  (try simp only [Act.put]); (try simp only [List.setIfInBounds_toArray]); (try simp only [List.set_cons_succ]); (try simp only [List.set_cons_zero])
                  refine takeD (i := 1) (d := some 79) (v := ?_) rfl (by kernel_rfl) (by kernel_rfl) (by kernel_rfl) (by kernel_rfl) (fun _ _ _ h => h) (Or.inl ⟨by kernel_rfl, fun X hX => Or.inl ?_⟩) (by assumption) ?_
                  rotate_left
                  · first | (go_simp; done) | (go_simp; with_reducible rfl)
                  (try simp only [Act.put]); (try simp only [List.setIfInBounds_toArray]); (try simp only [List.set_cons_succ]); (try simp only [List.set_cons_zero])
                  refine takeD (i := 2) (d := some 80) (v := ?_) rfl (by kernel_rfl) (by kernel_rfl) (by kernel_rfl) (by kernel_rfl) (fun _ _ _ h => h) (Or.inl ⟨by kernel_rfl, fun X hX => Or.inl ?_⟩) (by assumption) ?_
                  rotate_left
                  · first | (go_simp; done) | (go_simp; with_reducible rfl)
                  (try simp only [Act.put]); (try simp only [List.setIfInBounds_toArray]); (try simp only [List.set_cons_succ]); (try simp only [List.set_cons_zero])
                  refine takeD (i := 3) (d := some 81) (v := ?_) rfl (by kernel_rfl) (by kernel_rfl) (by kernel_rfl) (by kernel_rfl) (fun _ _ _ h => h) (Or.inl ⟨by kernel_rfl, fun X hX => Or.inl ?_⟩) (by assumption) ?_
                  rotate_left
                  · first | (go_simp; done) | (go_simp; with_reducible rfl)
                  (try simp only [Act.put]); (try simp only [List.setIfInBounds_toArray]); (try simp only [List.set_cons_succ]); (try simp only [List.set_cons_zero])
                  refine takeD (i := 5) (d := some 83) (v := ?_) rfl (by kernel_rfl) (by kernel_rfl) (by kernel_rfl) (by kernel_rfl) (fun _ _ _ h => h) (Or.inl ⟨by kernel_rfl, fun X hX => Or.inl ?_⟩) (by assumption) ?_
                  rotate_left
                  · first | (go_simp; done) | (go_simp; with_reducible rfl)
                  (try simp only [Act.put]); (try simp only [List.setIfInBounds_toArray]); (try simp only [List.set_cons_succ]); (try simp only [List.set_cons_zero])
                  refine takeD (i := 6) (d := some 84) (v := .int .i64 (kx : Int)) rfl (by kernel_rfl) (by kernel_rfl) (by kernel_rfl) (by kernel_rfl) (fun _ _ _ h => h) (Or.inl ⟨by kernel_rfl, fun X hX => Or.inl (exec_load 3 (.tmp 83) rfl _ _ rfl (HLD.out X hX))⟩) (by assumption) ?_
                  (try simp only [Act.put]); (try simp only [List.setIfInBounds_toArray]); (try simp only [List.set_cons_succ]); (try simp only [List.set_cons_zero])
                  refine wpAnyH_ready (rs := [4]) (by kernel_rfl) (by simp) ?_
                  refine AllReadyH.cons rfl (fun K hK => ?_) AllReadyH.nil
                  rw [if_pos (by kernel_rfl)]
                  go_simp
                  refine (HH.out _ (HK2.out.no hHeld).bk).mono ?_
                  rintro e yv ⟨rfl, hv'⟩
                  have FV := Lib.hid (hHeld.trans hv')
                  clear hv'
                  refine hK.out _ _ (FV.out) (fun hHeld => ?_)
                  clear hK K
                  (try simp only [Act.put]); (try simp only [List.setIfInBounds_toArray]); (try simp only [List.set_cons_succ]); (try simp only [List.set_cons_zero])
                  refine takeD (i := 7) (d := some 85) (v := .bool (hv == (kx : Int))) rfl (by kernel_rfl) (by kernel_rfl) (by kernel_rfl) (by kernel_rfl) (fun _ _ _ h => h) (Or.inl ⟨by kernel_rfl, fun X hX => Or.inl (exec_bin .eql 3 (.tmp 82) (.tmp 84) 3 rfl _ _ _ rfl rfl (by kernel_rfl) (eq_int10 _ _ X))⟩) (by assumption) ?_
                  (try simp only [Act.put]); (try simp only [List.setIfInBounds_toArray]); (try simp only [List.set_cons_succ]); (try simp only [List.set_cons_zero])
                  refine takeD (i := 8) (d := some 86) (v := ?_) rfl (by kernel_rfl) (by kernel_rfl) (by kernel_rfl) (by kernel_rfl) (fun _ _ _ h => h) (Or.inl ⟨by kernel_rfl, fun X hX => Or.inl ?_⟩) (by assumption) ?_
                  rotate_left
                  · first | (go_simp; done) | (go_simp; with_reducible rfl)
                  (try simp only [Act.put]); (try simp only [List.setIfInBounds_toArray]); (try simp only [List.set_cons_succ]); (try simp only [List.set_cons_zero])
                  refine takeD (i := 9) (d := some 17) (v := ?_) rfl (by kernel_rfl) (by kernel_rfl) (by kernel_rfl) (by kernel_rfl) (fun _ _ _ h => h) (Or.inl ⟨by kernel_rfl, fun X hX => Or.inl ?_⟩) (by assumption) ?_
                  rotate_left
                  · first | (go_simp; done) | (go_simp; with_reducible rfl)
                  (try simp only [Act.put]); (try simp only [List.setIfInBounds_toArray]); (try simp only [List.set_cons_succ]); (try simp only [List.set_cons_zero])
                  refine wpAnyH_done (by kernel_rfl) ?_ _
                  clear hHeld
                  go_wp2
                  exact ⟨⟨k2, HK3.out.2, rfl, by rw [HNX.out]; simp, FV.out⟩, by have := HK3.out; simp [intOf]; omega⟩
              · have t6 : ¬ (k : Int) < 4 := by omega
                obtain rfl : k = 4 := by omega
                have hov := Bs.over_iff HK2.out.bk.inv (j := kx) (by have := HLN'.out; have := HKX.out; omega)
                obtain ⟨z, hz⟩ : ∃ z, z = s'.anyH kx 4 := ⟨_, rfl⟩
                have HZ := Lib.hid hz
                have HOV := Lib.hid hov
                rw [← hz]
                have HKb := Lib.hid (HK2.out.no HFr.out)
                have HEb := Lib.hid (HE2.out.no HFr.out)
                have HIMb := Lib.hid (HIM2.out.no HFr.out)
                have dA := HFr.out.cell id D1.out
                clear hk hk4 hz hov
                cases y with
                | false =>
                  have hno : (s'.tk kx).over = false := by rw [Bool.eq_false_iff]; intro h; have h2 := (HOV.out.1 h).1; rw [← HACT.out] at h2; cases h2
                  have HT2 : Hid (Bs.Tm s' en bf) := Lib.hid (by have := HTM'.out; rw [hno, if_neg (by simp)] at this; exact this)
                  clear hno
                  go_wp2
                  exact ⟨⟨k1, s', O', en, bf, cnt, HK1.out.2, rfl, by rw [HLN'.out], HKb.out, HEb.out, HD2.out, HIMb.out, HMO2.out, HH'.out, HT2.out, by have := HK1.out; have := HLE.out; omega, by have := HK1.out; have := HLE.out; omega⟩, by have := HK1.out; simp [intOf]; omega⟩
                | true =>
                  cases z with
                  | true =>
                    have hno : (s'.tk kx).over = false := by rw [Bool.eq_false_iff]; intro h; have h2 := Bs.anyH_not.2 (HOV.out.1 h).2; rw [← HZ.out] at h2; cases h2
                    have HT2 : Hid (Bs.Tm s' en bf) := Lib.hid (by have := HTM'.out; rw [hno, if_neg (by simp)] at this; exact this)
                    clear hno
                    go_wp2
                    exact ⟨⟨k1, s', O', en, bf, cnt, HK1.out.2, rfl, by rw [HLN'.out], HKb.out, HEb.out, HD2.out, HIMb.out, HMO2.out, HH'.out, HT2.out, by have := HK1.out; have := HLE.out; omega, by have := HK1.out; have := HLE.out; omega⟩, by have := HK1.out; simp [intOf]; omega⟩
                  | false =>
                    have hyes : (s'.tk kx).over = true := HOV.out.2 ⟨HACT.out.symm, Bs.anyH_not.1 HZ.out.symm⟩
                    have HT2 : Hid (Bs.Tm s' (en ++ [kx]) bf) := Lib.hid (by have := HTM'.out; rw [hyes, if_pos rfl] at this; exact this)
                    have HEc := Lib.hid (HEb.out.no ((Fr.refl No wr).alloc (.cells #[.int .i64 (kx : Int)] 3)))
                    have HKc := Lib.hid (HKb.out.no ((Fr.refl No wr).alloc (.cells #[.int .i64 (kx : Int)] 3)))
                    have HIMc := Lib.hid (HIMb.out.no ((Fr.refl No wr).alloc (.cells #[.int .i64 (kx : Int)] 3)))
                    have HBW : Hid (w1.heap.size ≤ wr.heap.size) := Lib.hid HKb.out.fr.size
                    clear hyes
                    go_wp2_with (at_builtin; refine wpList_append_own_at _ rfl _ _ 35 rfl w1.heap.size 3 i1 (.int .i64 0) 1 8 Try.underlying35 hi1 hz01 hz11 hz21 rfl (by decide) _ _ _ rfl HEc.out ⟨wr.heap.size, 0, none⟩ 1 1 [.int .i64 (kx : Int)] rfl rfl (cell_one_new _ _ _) ?c2 ?c3 ?c4 ?c5 ?c6)
                    case c2 => first | rfl | (intro u hu; simp at hu; subst hu; rfl) | simp [Value.oneCell']
                    case c3 => have := HLL.out; have := HLE.out; unfold maxLen; omega
                    case c4 => have := HLL.out; have := HLE.out; omega
                    case c5 => have := HBW.out; simp; omega
                    case c6 =>
                      intro vo2 yc hown hgrow _ hloc
                      have HE3 : Hid (OwI 3 w1.heap.size vo2 ((en ++ [kx]).map fun x : Nat => (x : Int)) yc) := Lib.hid (by
                        rw [List.map_append]
                        exact OwI.snoc hown (by have := HLL.out; simp))
                      have hF2 : Fr (fun k => (Value.slice ea le ec).ownBlock = some k) (wr.alloc (.cells #[.int .i64 (kx : Int)] 3)) yc := Fr.of_grown hgrow (fun k e => e)
                      have HKd := Lib.hid (HKc.out.own hF2 (fun k hk e => HD2.out k e hk) (fun k e => (HEc.out.lt k e).1))
                      have HIMd := Lib.hid (HIMc.out.fr hF2 (fun e => HIMc.out.apart HEc.out e rfl))
                      have HDd : Hid (∀ k, vo2.ownBlock = some k → ¬ O' k) := Lib.hid (fun k hk e => by
                        rcases hloc with h | h
                        · exact HD2.out k (by rw [← h]; exact hk) e
                        · have h9 := Option.some.inj (h.symm.trans hk)
                          have h8 := HKc.out.bk.lt k e
                          rw [World.size_alloc] at h8
                          omega)
                      obtain ⟨va, vn, vc, rfl⟩ := slice_form10 hown
                      clear hown hgrow hloc hF2
                      go_wp2
                      exact ⟨⟨k1, s', O', en ++ [kx], bf, cnt, HK1.out.2, rfl, by rw [HLN'.out], HKd.out, HE3.out, HDd.out, HIMd.out, HMO2.out, HH'.out, HT2.out, by have := HK1.out; have := HLE.out; simp; omega, by have := HK1.out; have := HLE.out; omega⟩, by have := HK1.out; simp [intOf]; omega⟩
          · have je : (E != 0) = true := by rw [bne_iff_ne]; exact hE0
            have HS2 := Lib.hid (HNO.out hE0)
            clear hE0 d1
            go_wp2
            rw [HS2.out] at HK2 HH'
            exact ⟨⟨k1, s, O', en, bf, cnt, HK1.out.2, rfl, by rw [HMN.out.1], HK2.out, HE2.out, HD2.out, HIM2.out, HMO2.out, HH'.out, HTM.out, by have := HK1.out; have := HLE.out; omega, by have := HK1.out; have := HLE.out; omega⟩, by have := HK1.out; simp [intOf]; omega⟩
    · have t3 : ¬ (i : Int) < (m : Int) := by omega
      clear hlt hi
      go_wp2_with fail
      refine (sd_done2 HK.out.bk).mono ?_
      rintro e v1 ⟨dvv, rfl, hO, hv, _⟩
      obtain ⟨da, dc, rfl, hdc⟩ := hO
      have HDC := Lib.hid hdc
      have HV1 := Lib.hid hv
      have HE1 := Lib.hid (HE.out.no hv)
      have HIM1 := Lib.hid (HIM.out.no hv)
      obtain ⟨l1, hl1⟩ : ∃ l, l = s.done.length := ⟨_, rfl⟩
      rw [← hl1] at HDC ⊢
      have HL1 : Hid (l1 = s.done.length ∧ l1 ≤ 32) := Lib.hid ⟨hl1, by rw [hl1]; exact Bs.done_le HK.out.bk.inv⟩
      have HDLT : Hid (∀ i, i < l1 → s.done.getD i 0 < 32 ∧ s.done.getD i 0 ∈ s.done) := Lib.hid (fun i hi => by
        have h1 : s.done.getD i 0 ∈ s.done := by
          rw [hl1] at hi
          rw [List.getD_eq_getElem?_getD, List.getElem?_eq_getElem hi]
          exact List.getElem_mem hi
        have h2 := ((HK.out.bk.inv.done _).1 h1).1
        have h3 := HK.out.bk.inv.len
        exact ⟨by omega, h1⟩)
      obtain ⟨af, haf⟩ : ∃ af : Nat → Nat → Nat, af = fun i d => if d ∈ s.done.take i then Bs.pos s.done d + 1 else 0 := ⟨_, rfl⟩
      have HAF0 : Hid (af 0 = fun _ => 0) := Lib.hid (by rw [haf]; funext d; simp)
      have HAFN : Hid (∀ i, i < l1 → (fun j => if j = s.done.getD i 0 then i + 1 else af i j) = af (i + 1)) := Lib.hid (fun i hi => by
        rw [haf]
        funext d
        simp only
        have hlt' : i < s.done.length := by omega
        have hp := Bs.pos_at HK.out.bk.inv.nodup hlt'
        have hg : s.done.getD i 0 = s.done[i] := by rw [List.getD_eq_getElem?_getD, List.getElem?_eq_getElem hlt']; rfl
        have hmem : d ∈ s.done.take (i + 1) ↔ d ∈ s.done.take i ∨ d = s.done.getD i 0 := by
          rw [List.take_succ_eq_append_getElem hlt', List.mem_append, List.mem_singleton, ← hg]
        by_cases e : d = s.done.getD i 0
        · rw [if_pos e, if_pos (hmem.2 (.inr e)), e, hp]
        · rw [if_neg e]
          by_cases e2 : d ∈ s.done.take i
          · rw [if_pos e2, if_pos (hmem.2 (.inl e2))]
          · rw [if_neg e2, if_neg (fun h => (hmem.1 h).elim e2 e)])
      have HAFL : Hid (∀ d, af l1 d = if d ∈ s.done then Bs.pos s.done d + 1 else 0) := Lib.hid (fun d => by rw [haf, hl1]; simp)
      have hmm := @run_makeMap Try.prog
      clear hdc hv hl1 haf
      go_wp2_with fail
      obtain ⟨ab, hab⟩ : ∃ x, x = v1.heap.size := ⟨_, rfl⟩
      have HAB : Hid (IM (v1.alloc (.map #[] 0)) ab 0 (af 0)) := Lib.hid (by rw [HAF0.out, hab]; exact IM.new v1)
      have HVA : Hid (Fr No v1 (v1.alloc (.map #[] 0))) := Lib.hid ((Fr.refl No v1).alloc _)
      have HABV := Lib.hid hab
      try rw [← hab]
      clear hmm hab
      go_loopw [21] (fun c wr2 => ∃ i : Nat, i ≤ l1 ∧ c = .int .i64 i ∧ Hid (IM wr2 ab i (af i)) ∧ Hid (Fr No v1 wr2)) (fun c _ => l1 - (intOf c).toNat)
      case atStart => exact ⟨0, by omega, rfl, HAB, HVA⟩
      clear HAB HVA
      case round =>
        obtain ⟨i9, hi9, rfl, HIA, HFA⟩ := hrel
        by_cases hlt9 : i9 < l1
        · have t4 : (i9 : Int) < (l1 : Int) := by omega
          have t5 : i9 < l1 := hlt9
          obtain ⟨dd, hda, hdcell⟩ := HDC.out i9 hlt9
          obtain ⟨qd, hqd⟩ : ∃ q, dd.add i9 = q := ⟨_, rfl⟩
          rw [hqd] at hdcell
          obtain ⟨d, hd⟩ : ∃ d, d = s.done.getD i9 0 := ⟨_, rfl⟩
          rw [← hd] at hdcell
          have hdlt : d < 32 := by rw [hd]; exact (HDLT.out i9 hlt9).1
          have cq := HFA.out.cellA id hdcell
          obtain ⟨k9, hk9⟩ : ∃ k, k = i9 + 1 := ⟨_, rfl⟩
          have HK9 : Hid (k9 = i9 + 1 ∧ k9 ≤ l1) := Lib.hid ⟨hk9, by omega⟩
          have s9 : (i9 : Int) + 1 = (k9 : Int) := by omega
          have l9 : IntKind.i64.wrap (k9 : Int) = (k9 : Int) := IntWalk.i64_in _ (by have := HL1.out; omega)
          have HNX : Hid ((fun j => if j = d then k9 else af i9 j) = af k9) := Lib.hid (by rw [hd, hk9]; exact HAFN.out i9 hlt9)
          obtain ⟨D, hown, hP⟩ := HIA.out
          have HO := Lib.hid hown
          have HP := Lib.hid hP
          have hlim : i9 < maxLen := by have := HL1.out; unfold maxLen; omega
          have hkey : keyOf Try.prog 3 (.int .i64 (d : Int)) = some (.int .i64 (d : Int)) := Go.Maps.keyOf_int_mk Try.underlying3 (wf_small (by omega))
          rw [hda]
          clear hown hP hdcell hd hlt9 hi9 hk9 hdlt hda
          go_wp2_with (at_mapUpdate; refine wpList_mapUpdate_own _ rfl _ _ _ 66 rfl 3 3 keyed9 Try.underlying66 readI ab i9 D rfl HO.out hlim (.int .i64 (d : Int)) (.int .i64 (k9 : Int)) (.int .i64 (d : Int)) rfl rfl hkey (.lit (.int .i64 (k9 : Int))) [] rfl ?_; intro w4 hown4 hgrow4; have HO4 := Lib.hid hown4; have HG4 := Lib.hid hgrow4; clear hown4 hgrow4)
          have hF4 : Fr (· = ab) wr w4 := Fr.of_grown HG4.out (fun k e => by injection e with e; exact e.symm)
          have h4 : IM w4 ab (i9 + 1) (fun j => if j = d then k9 else af i9 j) := IM.of HO.out.isMap HP.out HO4.out
          have HI4 : Hid (IM w4 ab k9 (af k9)) := Lib.hid (by
            rw [HNX.out, ← HK9.out.1] at h4
            exact h4)
          have HF4 : Hid (Fr No v1 w4) := Lib.hid (HFA.out.trans' hF4 (fun k hk e => by have := HABV.out; omega))
          clear hF4 h4
          exact ⟨⟨k9, HK9.out.2, rfl, HI4, HF4⟩, by have := HK9.out; simp [intOf]; omega⟩
        · have t4 : ¬ (i9 : Int) < (l1 : Int) := by omega
          have t5 : ¬ i9 < l1 := hlt9
          obtain rfl : i9 = l1 := by omega
          clear hlt9 hi9
          obtain ⟨W9, hW9⟩ : ∃ x, x = wr := ⟨_, rfl⟩
          have HIA9 : Hid (IM W9 ab i9 (af i9)) := Lib.hid (by rw [hW9]; exact HIA.out)
          have HFA9 : Hid (Fr No v1 W9) := Lib.hid (by rw [hW9]; exact HFA.out)
          rw [← hW9]
          clear hW9
          have HIM9 := Lib.hid (HIM1.out.no HFA9.out)
          have HE9 := Lib.hid (HE1.out.no HFA9.out)
          have HFW9 : Hid (Fr No w W9) := Lib.hid (((HF.out.trans HK.out.fr).trans HV1.out).trans HFA9.out)
          have HBF : Hid (∀ j, j < mn → bf j ≤ 200) := Lib.hid (fun j hj => by have := HTM.out.e2 j (by have := HMN.out; omega); have := HLE.out; omega)
          clear HIM1 HE1 HIA HFA
          go_wp2_with fail
          go_loopw [4, 22, 23] (fun _ c _ wr3 => ∃ j : Nat, j ≤ mn ∧ c = .int .i64 j ∧ Hid (Fr No W9 wr3)) (fun _ c _ _ => mn - (intOf c).toNat)
          case atStart => exact ⟨0, by omega, rfl, Lib.hid (Fr.refl _ _)⟩
          case round =>
            obtain ⟨j, hj, rfl, HFJ⟩ := hrel
            by_cases hltj : j < mn
            · have t6 : (j : Int) < (mn : Int) := by omega
              have t7 : j < mn := hltj
              obtain ⟨j1, hj1⟩ : ∃ k, k = j + 1 := ⟨_, rfl⟩
              have HJ1 : Hid (j1 = j + 1 ∧ j1 ≤ mn) := Lib.hid ⟨hj1, by omega⟩
              have s6 : (j : Int) + 1 = (j1 : Int) := by omega
              have l6 : IntKind.i64.wrap (j1 : Int) = (j1 : Int) := IntWalk.i64_in _ (by have := HMN.out; omega)
              obtain ⟨bj, hbj⟩ : ∃ x, x = bf j := ⟨_, rfl⟩
              have HBJ : Hid (bj = bf j ∧ bj ≤ 200) := Lib.hid ⟨hbj, by rw [hbj]; exact HBF.out j hltj⟩
              have HJL : Hid (j < 32) := Lib.hid (by have := HMN.out; omega)
              have HJB : Hid (j < mn) := Lib.hid hltj
              clear hltj hj hj1 hbj
              go_wp2_with fail
              go_loopw [4, 23] (fun _ c wr4 => ∃ k : Nat, k ≤ bj ∧ c = .int .i64 k ∧ Hid (Fr No W9 wr4)) (fun _ c _ => bj - (intOf c).toNat)
              case atStart => exact ⟨0, by omega, rfl, HFJ⟩
              clear HFJ
              case round =>
                obtain ⟨k, hk, rfl, HFK⟩ := hrel
                have hlk : (Instr.lookup 66 (.map (some mb)) (.int .i64 (j : Int)) false).run Try.prog wr = .ok (.int .i64 (bj : Int)) wr := by
                  have h1 := (HIM9.out.no HFK.out).look j (wf_small (by have := HJL.out; omega))
                  rw [← HBJ.out.1] at h1
                  exact h1
                by_cases hltk : k < bj
                · have t8 : (k : Int) < (bj : Int) := by omega
                  have t9 : k < bj := hltk
                  obtain ⟨k2, hk2⟩ : ∃ x, x = k + 1 := ⟨_, rfl⟩
                  have HK2 : Hid (k2 = k + 1 ∧ k2 ≤ bj) := Lib.hid ⟨hk2, by omega⟩
                  have s7 : (k : Int) + 1 = (k2 : Int) := by omega
                  have l7 : IntKind.i64.wrap (k2 : Int) = (k2 : Int) := IntWalk.i64_in _ (by have := HBJ.out; omega)
                  obtain ⟨aj, haj⟩ : ∃ x, x = af i9 j := ⟨_, rfl⟩
                  have HLJ : Hid (∀ X, Fr No wr X → (Instr.lookup 66 (.map (some ab)) (.int .i64 (j : Int)) false).run Try.prog X = .ok (.int .i64 (aj : Int)) X) := Lib.hid (fun X hX => by
                    have h1 := ((HIA9.out.no HFK.out).no hX).look j (wf_small (by have := HJL.out; omega))
                    rw [← haj] at h1
                    exact h1)
                  obtain ⟨d9, hd9⟩ : ∃ x, x = en.getD k 0 := ⟨_, rfl⟩
                  have hklen : k < en.length := by
                    have h1 := HTM.out.e2 j (by have := HMN.out; have := HJB.out; omega)
                    have := HBJ.out
                    omega
                  have hdm := HTM.out.mem HK.out.bk.inv hklen
                  rw [← hd9] at hdm
                  have hd32 : d9 < 32 := by
                    have h1 := ((HK.out.bk.inv.done d9).1 hdm).1
                    have h2 := HK.out.bk.inv.len
                    omega
                  obtain ⟨ad, had⟩ : ∃ x, x = af i9 d9 := ⟨_, rfl⟩
                  have HLD9 : Hid (∀ X, Fr No wr X → (Instr.lookup 66 (.map (some ab)) (.int .i64 (d9 : Int)) false).run Try.prog X = .ok (.int .i64 (ad : Int)) X) := Lib.hid (fun X hX => by
                    have h1 := ((HIA9.out.no HFK.out).no hX).look d9 (wf_small (by omega))
                    rw [← had] at h1
                    exact h1)
                  obtain ⟨_, _, hsl9, hcell9⟩ := HE9.out.slice
                  obtain ⟨g9, hg9, _, hc9⟩ := hcell9 k (d9 : Int) (by rw [List.getElem?_map, List.getElem?_eq_getElem hklen, hd9, List.getD_eq_getElem?_getD, List.getElem?_eq_getElem hklen]; rfl)
                  injection hsl9 with hsa hx1 hx2
                  clear hx1 hx2
                  rw [← hsa] at hg9
                  have HC9 : Hid (∀ X, Fr No wr X → (Instr.loadAt 3 (.pointer (some ⟨g9, k, none⟩))).run Try.prog X = .ok (.int .i64 (d9 : Int)) X) := Lib.hid (fun X hX => by
                    have := hX.cell id (HFK.out.cell id hc9)
                    simp [go_sem, this])
                  have HLT9 : Hid (0 < aj → ¬ (aj < ad)) := Lib.hid (fun h0 => by
                    have e1 := HAFL.out j
                    have e2 := HAFL.out d9
                    rw [← haj] at e1
                    rw [← had, if_pos hdm] at e2
                    by_cases hjm : j ∈ s.done
                    · rw [if_pos hjm] at e1
                      have h3 := HTM.out.e3 j hjm k (by have := HBJ.out; omega)
                      rw [← hd9] at h3
                      omega
                    · rw [if_neg hjm] at e1
                      omega)
                  have hkle : k < le := by have := HLL.out; omega
                  have t10 : (k : Int) < (le : Int) := by omega
                  rw [hg9]
                  clear haj hd9 hklen hdm hd32 had hcell9 hc9 hsa hg9 hltk hk hk2
                  by_cases ha0 : 0 < aj
                  · have u1 : decide ((0 : Int) < (aj : Int)) = true := decide_eq_true (by omega)
                    have u2 : decide ((aj : Int) < (ad : Int)) = false := decide_eq_false (by have := HLT9.out ha0; omega)
                    have U1 : Hid (∀ X : World, (binOp .gtr 3 (.int .i64 (aj : Int)) (.int .i64 0)).run Try.prog X = .ok (.bool true) X) := Lib.hid (fun X => by rw [gtr_int10, u1])
                    have U2 : Hid (∀ X : World, (binOp .gtr 3 (.int .i64 (ad : Int)) (.int .i64 (aj : Int))).run Try.prog X = .ok (.bool false) X) := Lib.hid (fun X => by rw [gtr_int10, u2])
                    clear ha0 HLT9 u1 u2
                    go_wp2_with fail
                    refine wp_region_held_drew (S := (fun X => Fr No wr X)) (by kernel_rfl) ((Fr.refl No wr).drew) (fun hHeld => ?_)
                    refine takeD (i := 0) (d := some 155) (v := ?_) rfl (by kernel_rfl) (by kernel_rfl) (by kernel_rfl) (by kernel_rfl) (fun _ _ _ h => h) (Or.inl ⟨by kernel_rfl, fun X hX => Or.inl ?_⟩) (by assumption) ?_
                    rotate_left
                    · first | (go_simp; done) | (go_simp; with_reducible rfl)
                    (try simp only [Act.put]); (try simp only [List.setIfInBounds_toArray]); (try simp only [List.set_cons_succ]); (try simp only [List.set_cons_zero])
                    refine takeD (i := 1) (d := some 156) (v := ?_) rfl (by kernel_rfl) (by kernel_rfl) (by kernel_rfl) (by kernel_rfl) (fun _ _ _ h => h) (Or.inl ⟨by kernel_rfl, fun X hX => Or.inl ?_⟩) (by assumption) ?_
                    rotate_left
                    · first | (go_simp; done) | (go_simp; with_reducible rfl)
                    (try simp only [Act.put]); (try simp only [List.setIfInBounds_toArray]); (try simp only [List.set_cons_succ]); (try simp only [List.set_cons_zero])
                    refine takeD (i := 2) (d := some 157) (v := .int .i64 (aj : Int)) rfl (by kernel_rfl) (by kernel_rfl) (by kernel_rfl) (by kernel_rfl) (fun _ _ _ h => h) (Or.inl ⟨by kernel_rfl, fun X hX => Or.inl (exec_lookup10 66 (.tmp 155) (.tmp 156) rfl (.map (some ab)) (.int .i64 (j : Int)) _ rfl rfl (HLJ.out X hX))⟩) (by assumption) ?_
                    (try simp only [Act.put]); (try simp only [List.setIfInBounds_toArray]); (try simp only [List.set_cons_succ]); (try simp only [List.set_cons_zero])
                    refine takeD (i := 3) (d := some 158) (v := .bool true) rfl (by kernel_rfl) (by kernel_rfl) (by kernel_rfl) (by kernel_rfl) (fun _ _ _ h => h) (Or.inl ⟨by kernel_rfl, fun X hX => Or.inl (exec_bin .gtr 3 (.tmp 157) (.const (.int .i64 0)) 3 rfl _ _ _ rfl rfl (by kernel_rfl) (U1.out X))⟩) (by assumption) ?_
                    (try simp only [Act.put]); (try simp only [List.setIfInBounds_toArray]); (try simp only [List.set_cons_succ]); (try simp only [List.set_cons_zero])
                    refine takeD (i := 4) (d := some 159) (v := ?_) rfl (by kernel_rfl) (by kernel_rfl) (by kernel_rfl) (by kernel_rfl) (fun _ _ _ h => h) (Or.inl ⟨by kernel_rfl, fun X hX => Or.inl ?_⟩) (by assumption) ?_
                    rotate_left
                    · first | (go_simp; done) | (go_simp; with_reducible rfl)
                    (try simp only [Act.put]); (try simp only [List.setIfInBounds_toArray]); (try simp only [List.set_cons_succ]); (try simp only [List.set_cons_zero])
                    refine takeD (i := 5) (d := some 160) (v := ?_) rfl (by kernel_rfl) (by kernel_rfl) (by kernel_rfl) (by kernel_rfl) (fun _ _ _ h => h) (Or.inl ⟨by kernel_rfl, fun X hX => Or.inl ?_⟩) (by assumption) ?_
                    rotate_left
                    · first | (go_simp; done) | (go_simp; with_reducible rfl)
                    (try simp only [Act.put]); (try simp only [List.setIfInBounds_toArray]); (try simp only [List.set_cons_succ]); (try simp only [List.set_cons_zero])
                    refine takeD (i := 6) (d := some 161) (v := ?_) rfl (by kernel_rfl) (by kernel_rfl) (by kernel_rfl) (by kernel_rfl) (fun _ _ _ h => h) (Or.inl ⟨by kernel_rfl, fun X hX => Or.inl ?_⟩) (by assumption) ?_
                    rotate_left
                    · first | (go_simp; done) | (go_simp; with_reducible rfl)
                    (try simp only [Act.put]); (try simp only [List.setIfInBounds_toArray]); (try simp only [List.set_cons_succ]); (try simp only [List.set_cons_zero])
                    refine takeD (i := 7) (d := some 162) (v := ?_) rfl (by kernel_rfl) (by kernel_rfl) (by kernel_rfl) (by kernel_rfl) (fun _ _ _ h => h) (Or.inl ⟨by kernel_rfl, fun X hX => Or.inl ?_⟩) (by assumption) ?_
                    rotate_left
                    · first | (go_simp; done) | (go_simp; with_reducible rfl)
                    (try simp only [Act.put]); (try simp only [List.setIfInBounds_toArray]); (try simp only [List.set_cons_succ]); (try simp only [List.set_cons_zero])
                    refine takeD (i := 8) (d := some 163) (v := ?_) rfl (by kernel_rfl) (by kernel_rfl) (by kernel_rfl) (by kernel_rfl) (fun _ _ _ h => h) (Or.inl ⟨by kernel_rfl, fun X hX => Or.inl ?_⟩) (by assumption) ?_
                    rotate_left
                    · first | (go_simp; done) | (go_simp; with_reducible rfl)
                    (try simp only [Act.put]); (try simp only [List.setIfInBounds_toArray]); (try simp only [List.set_cons_succ]); (try simp only [List.set_cons_zero])
                    refine takeD (i := 9) (d := some 164) (v := .int .i64 (d9 : Int)) rfl (by kernel_rfl) (by kernel_rfl) (by kernel_rfl) (by kernel_rfl) (fun _ _ _ h => h) (Or.inl ⟨by kernel_rfl, fun X hX => Or.inl (exec_load 3 (.tmp 163) rfl _ _ rfl (HC9.out X hX))⟩) (by assumption) ?_
                    (try simp only [Act.put]); (try simp only [List.setIfInBounds_toArray]); (try simp only [List.set_cons_succ]); (try simp only [List.set_cons_zero])
                    refine takeD (i := 10) (d := some 165) (v := .int .i64 (ad : Int)) rfl (by kernel_rfl) (by kernel_rfl) (by kernel_rfl) (by kernel_rfl) (fun _ _ _ h => h) (Or.inl ⟨by kernel_rfl, fun X hX => Or.inl (exec_lookup10 66 (.tmp 160) (.tmp 164) rfl (.map (some ab)) (.int .i64 (d9 : Int)) _ rfl rfl (HLD9.out X hX))⟩) (by assumption) ?_
                    (try simp only [Act.put]); (try simp only [List.setIfInBounds_toArray]); (try simp only [List.set_cons_succ]); (try simp only [List.set_cons_zero])
                    refine takeD (i := 11) (d := some 166) (v := ?_) rfl (by kernel_rfl) (by kernel_rfl) (by kernel_rfl) (by kernel_rfl) (fun _ _ _ h => h) (Or.inl ⟨by kernel_rfl, fun X hX => Or.inl ?_⟩) (by assumption) ?_
                    rotate_left
                    · first | (go_simp; done) | (go_simp; with_reducible rfl)
                    (try simp only [Act.put]); (try simp only [List.setIfInBounds_toArray]); (try simp only [List.set_cons_succ]); (try simp only [List.set_cons_zero])
                    refine takeD (i := 12) (d := some 167) (v := ?_) rfl (by kernel_rfl) (by kernel_rfl) (by kernel_rfl) (by kernel_rfl) (fun _ _ _ h => h) (Or.inl ⟨by kernel_rfl, fun X hX => Or.inl ?_⟩) (by assumption) ?_
                    rotate_left
                    · first | (go_simp; done) | (go_simp; with_reducible rfl)
                    (try simp only [Act.put]); (try simp only [List.setIfInBounds_toArray]); (try simp only [List.set_cons_succ]); (try simp only [List.set_cons_zero])
                    refine takeD (i := 13) (d := some 168) (v := .int .i64 (aj : Int)) rfl (by kernel_rfl) (by kernel_rfl) (by kernel_rfl) (by kernel_rfl) (fun _ _ _ h => h) (Or.inl ⟨by kernel_rfl, fun X hX => Or.inl (exec_lookup10 66 (.tmp 166) (.tmp 167) rfl (.map (some ab)) (.int .i64 (j : Int)) _ rfl rfl (HLJ.out X hX))⟩) (by assumption) ?_
                    (try simp only [Act.put]); (try simp only [List.setIfInBounds_toArray]); (try simp only [List.set_cons_succ]); (try simp only [List.set_cons_zero])
                    refine takeD (i := 14) (d := some 169) (v := .bool false) rfl (by kernel_rfl) (by kernel_rfl) (by kernel_rfl) (by kernel_rfl) (fun _ _ _ h => h) (Or.inl ⟨by kernel_rfl, fun X hX => Or.inl (exec_bin .gtr 3 (.tmp 165) (.tmp 168) 3 rfl _ _ _ rfl rfl (by kernel_rfl) (U2.out X))⟩) (by assumption) ?_
                    (try simp only [Act.put]); (try simp only [List.setIfInBounds_toArray]); (try simp only [List.set_cons_succ]); (try simp only [List.set_cons_zero])
                    refine takeD (i := 15) (d := some 170) (v := ?_) rfl (by kernel_rfl) (by kernel_rfl) (by kernel_rfl) (by kernel_rfl) (fun _ _ _ h => h) (Or.inl ⟨by kernel_rfl, fun X hX => Or.inl ?_⟩) (by assumption) ?_
                    rotate_left
                    · first | (go_simp; done) | (go_simp; with_reducible rfl)
                    (try simp only [Act.put]); (try simp only [List.setIfInBounds_toArray]); (try simp only [List.set_cons_succ]); (try simp only [List.set_cons_zero])
                    refine wpAnyH_done (by kernel_rfl) ?_ _
                    have HH := Lib.hid hHeld
                    clear hHeld
                    go_wp2
                    exact ⟨⟨k2, HK2.out.2, rfl, Lib.hid (HFK.out.trans HH.out)⟩, by have := HK2.out; simp [intOf]; omega⟩
                  · have u1 : decide ((0 : Int) < (aj : Int)) = false := decide_eq_false (by omega)
                    have U1 : Hid (∀ X : World, (binOp .gtr 3 (.int .i64 (aj : Int)) (.int .i64 0)).run Try.prog X = .ok (.bool false) X) := Lib.hid (fun X => by rw [gtr_int10, u1])
                    clear ha0 HLT9 u1
                    go_wp2_with fail
                    refine wp_region_held_drew (S := (fun X => Fr No wr X)) (by kernel_rfl) ((Fr.refl No wr).drew) (fun hHeld => ?_)
                    refine takeD (i := 0) (d := some 155) (v := ?_) rfl (by kernel_rfl) (by kernel_rfl) (by kernel_rfl) (by kernel_rfl) (fun _ _ _ h => h) (Or.inl ⟨by kernel_rfl, fun X hX => Or.inl ?_⟩) (by assumption) ?_
                    rotate_left
                    · first | (go_simp; done) | (go_simp; with_reducible rfl)
                    (try simp only [Act.put]); (try simp only [List.setIfInBounds_toArray]); (try simp only [List.set_cons_succ]); (try simp only [List.set_cons_zero])
                    refine takeD (i := 1) (d := some 156) (v := ?_) rfl (by kernel_rfl) (by kernel_rfl) (by kernel_rfl) (by kernel_rfl) (fun _ _ _ h => h) (Or.inl ⟨by kernel_rfl, fun X hX => Or.inl ?_⟩) (by assumption) ?_
                    rotate_left
                    · first | (go_simp; done) | (go_simp; with_reducible rfl)
                    (try simp only [Act.put]); (try simp only [List.setIfInBounds_toArray]); (try simp only [List.set_cons_succ]); (try simp only [List.set_cons_zero])
                    refine takeD (i := 2) (d := some 157) (v := .int .i64 (aj : Int)) rfl (by kernel_rfl) (by kernel_rfl) (by kernel_rfl) (by kernel_rfl) (fun _ _ _ h => h) (Or.inl ⟨by kernel_rfl, fun X hX => Or.inl (exec_lookup10 66 (.tmp 155) (.tmp 156) rfl (.map (some ab)) (.int .i64 (j : Int)) _ rfl rfl (HLJ.out X hX))⟩) (by assumption) ?_
                    (try simp only [Act.put]); (try simp only [List.setIfInBounds_toArray]); (try simp only [List.set_cons_succ]); (try simp only [List.set_cons_zero])
                    refine takeD (i := 3) (d := some 158) (v := .bool false) rfl (by kernel_rfl) (by kernel_rfl) (by kernel_rfl) (by kernel_rfl) (fun _ _ _ h => h) (Or.inl ⟨by kernel_rfl, fun X hX => Or.inl (exec_bin .gtr 3 (.tmp 157) (.const (.int .i64 0)) 3 rfl _ _ _ rfl rfl (by kernel_rfl) (U1.out X))⟩) (by assumption) ?_
                    (try simp only [Act.put]); (try simp only [List.setIfInBounds_toArray]); (try simp only [List.set_cons_succ]); (try simp only [List.set_cons_zero])
                    refine takeD (i := 4) (d := some 159) (v := ?_) rfl (by kernel_rfl) (by kernel_rfl) (by kernel_rfl) (by kernel_rfl) (fun _ _ _ h => h) (Or.inl ⟨by kernel_rfl, fun X hX => Or.inl ?_⟩) (by assumption) ?_
                    rotate_left
                    · first | (go_simp; done) | (go_simp; with_reducible rfl)
                    (try simp only [Act.put]); (try simp only [List.setIfInBounds_toArray]); (try simp only [List.set_cons_succ]); (try simp only [List.set_cons_zero])
                    refine takeD (i := 5) (d := some 160) (v := undef) rfl (by kernel_rfl) (by kernel_rfl) (by kernel_rfl) (by kernel_rfl) (fun _ _ _ h => h) (Or.inr ⟨by kernel_rfl, rfl⟩) (by assumption) ?_
                    (try simp only [Act.put]); (try simp only [List.setIfInBounds_toArray]); (try simp only [List.set_cons_succ]); (try simp only [List.set_cons_zero])
                    refine takeD (i := 6) (d := some 161) (v := undef) rfl (by kernel_rfl) (by kernel_rfl) (by kernel_rfl) (by kernel_rfl) (fun _ _ _ h => h) (Or.inr ⟨by kernel_rfl, rfl⟩) (by assumption) ?_
                    (try simp only [Act.put]); (try simp only [List.setIfInBounds_toArray]); (try simp only [List.set_cons_succ]); (try simp only [List.set_cons_zero])
                    refine takeD (i := 7) (d := some 162) (v := undef) rfl (by kernel_rfl) (by kernel_rfl) (by kernel_rfl) (by kernel_rfl) (fun _ _ _ h => h) (Or.inr ⟨by kernel_rfl, rfl⟩) (by assumption) ?_
                    (try simp only [Act.put]); (try simp only [List.setIfInBounds_toArray]); (try simp only [List.set_cons_succ]); (try simp only [List.set_cons_zero])
                    refine takeD (i := 8) (d := some 163) (v := undef) rfl (by kernel_rfl) (by kernel_rfl) (by kernel_rfl) (by kernel_rfl) (fun _ _ _ h => h) (Or.inr ⟨by kernel_rfl, rfl⟩) (by assumption) ?_
                    (try simp only [Act.put]); (try simp only [List.setIfInBounds_toArray]); (try simp only [List.set_cons_succ]); (try simp only [List.set_cons_zero])
                    refine takeD (i := 9) (d := some 164) (v := undef) rfl (by kernel_rfl) (by kernel_rfl) (by kernel_rfl) (by kernel_rfl) (fun _ _ _ h => h) (Or.inr ⟨by kernel_rfl, rfl⟩) (by assumption) ?_
                    (try simp only [Act.put]); (try simp only [List.setIfInBounds_toArray]); (try simp only [List.set_cons_succ]); (try simp only [List.set_cons_zero])
                    refine takeD (i := 10) (d := some 165) (v := undef) rfl (by kernel_rfl) (by kernel_rfl) (by kernel_rfl) (by kernel_rfl) (fun _ _ _ h => h) (Or.inr ⟨by kernel_rfl, rfl⟩) (by assumption) ?_
                    (try simp only [Act.put]); (try simp only [List.setIfInBounds_toArray]); (try simp only [List.set_cons_succ]); (try simp only [List.set_cons_zero])
                    refine takeD (i := 11) (d := some 166) (v := undef) rfl (by kernel_rfl) (by kernel_rfl) (by kernel_rfl) (by kernel_rfl) (fun _ _ _ h => h) (Or.inr ⟨by kernel_rfl, rfl⟩) (by assumption) ?_
                    (try simp only [Act.put]); (try simp only [List.setIfInBounds_toArray]); (try simp only [List.set_cons_succ]); (try simp only [List.set_cons_zero])
                    refine takeD (i := 12) (d := some 167) (v := undef) rfl (by kernel_rfl) (by kernel_rfl) (by kernel_rfl) (by kernel_rfl) (fun _ _ _ h => h) (Or.inr ⟨by kernel_rfl, rfl⟩) (by assumption) ?_
                    (try simp only [Act.put]); (try simp only [List.setIfInBounds_toArray]); (try simp only [List.set_cons_succ]); (try simp only [List.set_cons_zero])
                    refine takeD (i := 13) (d := some 168) (v := undef) rfl (by kernel_rfl) (by kernel_rfl) (by kernel_rfl) (by kernel_rfl) (fun _ _ _ h => h) (Or.inr ⟨by kernel_rfl, rfl⟩) (by assumption) ?_
                    (try simp only [Act.put]); (try simp only [List.setIfInBounds_toArray]); (try simp only [List.set_cons_succ]); (try simp only [List.set_cons_zero])
                    refine takeD (i := 14) (d := some 169) (v := undef) rfl (by kernel_rfl) (by kernel_rfl) (by kernel_rfl) (by kernel_rfl) (fun _ _ _ h => h) (Or.inr ⟨by kernel_rfl, rfl⟩) (by assumption) ?_
                    (try simp only [Act.put]); (try simp only [List.setIfInBounds_toArray]); (try simp only [List.set_cons_succ]); (try simp only [List.set_cons_zero])
                    refine takeD (i := 15) (d := some 170) (v := ?_) rfl (by kernel_rfl) (by kernel_rfl) (by kernel_rfl) (by kernel_rfl) (fun _ _ _ h => h) (Or.inl ⟨by kernel_rfl, fun X hX => Or.inl ?_⟩) (by assumption) ?_
                    rotate_left
                    · first | (go_simp; done) | (go_simp; with_reducible rfl)
                    (try simp only [Act.put]); (try simp only [List.setIfInBounds_toArray]); (try simp only [List.set_cons_succ]); (try simp only [List.set_cons_zero])
                    refine wpAnyH_done (by kernel_rfl) ?_ _
                    have HH := Lib.hid hHeld
                    clear hHeld
                    go_wp2
                    exact ⟨⟨k2, HK2.out.2, rfl, Lib.hid (HFK.out.trans HH.out)⟩, by have := HK2.out; simp [intOf]; omega⟩
                · have t8 : ¬ (k : Int) < (bj : Int) := by omega
                  have t9 : ¬ k < bj := hltk
                  have HFKx := HFK
                  clear hltk hk
                  go_wp2
                  exact ⟨⟨j1, HJ1.out.2, rfl, HFKx⟩, by have := HJ1.out; simp [intOf]; omega⟩
            · have t6 : ¬ (j : Int) < (mn : Int) := by omega
              have t7 : ¬ j < mn := hltj
              clear hltj hj
              go_wp2
              go_ret
              exact ⟨rfl, HFW9.out.trans HFJ.out⟩
end Go.Proofs.Ytldcglmpnildiaa
