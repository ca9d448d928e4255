/- The walk of 'ShardOrder'. -/
import Derived.Test.YtpmmfbbppnbhbaaSdL
import Derived.Test.YtpmmfbbppnbhbaaPuT
import Derived.Test.YtpmmfbbppnbhbaaSdR
import Derived.Test.YtpmmfbbppnbhbaaTake
namespace Go.Proofs.Ytpmmfbbppnbhbaa
open Go.RowKit
set_option linter.unusedVariables false
set_option maxRecDepth 100000
set_option maxHeartbeats 1000000 in
theorem order_long (ao : Option Addr) (n cap : Nat) (v : Value) (w : World) (hn : 40 < n) : Calls Try.prog 4 #[.slice ao n cap, v] w fun e w' => e = .returned (.bool true) ∧ Fr No w w' := by
  have t0 : decide ((40 : Int) < (n : Int)) = true := decide_eq_true (by omega)
  clear hn
  go_enter Try.func4, Try.ntmps4
  go_wp2_with fail
  refine (shown10_any _).mono ?_
  rintro e w1 ⟨rfl, hF⟩
  have HF := Lib.hid hF
  clear hF
  go_wp2
  go_ret
  exact ⟨rfl, HF.out⟩

set_option maxHeartbeats 1000000 in
theorem order_long2 (ao bo : Option Addr) (n cap m cap2 : Nat) (w : World) (hn : n ≤ 40) (hm : 200 < m) : Calls Try.prog 4 #[.slice ao n cap, .slice bo m cap2] w fun e w' => e = .returned (.bool true) ∧ Fr No w w' := by
  have t0 : decide ((40 : Int) < (n : Int)) = false := decide_eq_false (by omega)
  have t2 : decide ((200 : Int) < (m : Int)) = true := decide_eq_true (by omega)
  clear hn hm
  go_enter Try.func4, Try.ntmps4
  go_wp2_with fail
  refine (shown10_any _).mono ?_
  rintro e w1 ⟨rfl, hF⟩
  have HF := Lib.hid hF
  clear hF
  go_wp2
  go_ret
  exact ⟨rfl, HF.out⟩
set_option maxHeartbeats 4000000 in
theorem order_bad (ao bo : Option Addr) (n cap m cap2 : Nat) (b : List Nat) (xs : Nat → A9) (w : World) (hn : n ≤ 40) (hm : m ≤ 200) (hb : n = b.length) (hx : Nums w ao n (fun i => b.getD i 0)) (ha : Acts w bo m xs) (hy : false = Ps.newOk b) : Calls Try.prog 4 #[.slice ao n cap, .slice bo m cap2] w fun e w' => e = .returned (.bool true) ∧ Fr No w w' := by
  have t0 : decide ((40 : Int) < (n : Int)) = false := decide_eq_false (by omega)
  have t2 : decide ((200 : Int) < (m : Int)) = false := decide_eq_false (by omega)
  have HX := Lib.hid hx
  have HA := Lib.hid ha
  have HN := Lib.hid hb
  have HN40 : Hid (n ≤ 40 ∧ m ≤ 200) := Lib.hid ⟨hn, hm⟩
  have HY := Lib.hid hy
  have HPL := Lib.hid (fun X (hX : Nums X ao n (fun i => b.getD i 0)) => played_bad ao n cap (.slice bo m cap2) b X hb hn hX hy)
  have HDN := Lib.hid (fun X (hX : Nums X ao n (fun i => b.getD i 0)) => rnew_any ao n cap b X hb (by omega) hX)
  clear hx ha hb hn hm hy
  go_enter Try.func4, Try.ntmps4
  go_wp2_with fail
  refine (shown10_any _).mono ?_
  rintro e w1 ⟨rfl, hF⟩
  have HF := Lib.hid hF
  clear hF
  go_wp2_with fail
  refine (HPL.out _ (HX.out.fr HF.out (fun _ _ => id))).mono ?_
  intro e w2 h
  unfold Played at h
  rw [← HY.out] at h
  obtain ⟨rfl, hF2⟩ := h
  have HF2 := Lib.hid (HF.out.trans hF2)
  clear hF2 HPL
  go_wp2_with fail
  refine (HDN.out _ (HX.out.fr HF2.out (fun _ _ => id))).mono ?_
  intro e w3 h
  unfold DNew at h
  rw [← HY.out] at h
  obtain ⟨rfl, hF3⟩ := h
  have HF3 := Lib.hid (HF2.out.trans hF3)
  clear hF3 HDN
  obtain ⟨rb, hrb⟩ : ∃ r, r = w3.heap.size := ⟨_, rfl⟩
  have HAL : Hid ((Instr.alloc 32 true (.tuple #[])).run Try.prog w3 = .ok (.pointer (some ⟨rb, 0, none⟩)) (w3.alloc (.cells zeroP.toArray 32))) := Lib.hid (by rw [hrb]; exact alloc_rp w3)
  have HZ : Hid (Blk (w3.alloc (.cells zeroP.toArray 32)) rb 32 zeroP) := Lib.hid (by rw [hrb]; exact Blk.new w3 _ _)
  obtain ⟨Y, hY, hYB, hYF⟩ := store_rp HZ.out (L := cellsP none 0 0 (List.replicate 32 (0, 0))) (cellsP_len rfl) (cellsP_len rfl) cellsP_one
  have HYS := Lib.hid hY
  have HFY : Hid (Fr No w Y) := Lib.hid ((HF3.out.alloc _).trans' hYF (fun i hi e => by have := HF3.out.size; omega))
  clear hY hYB hYF hrb
  go_wp2_with (first
    | (refine wpList_execG (.pointer (some ⟨rb, 0, none⟩)) (exec_alloc 32 rfl _ HAL.out) rfl ?_)
    | (refine wpList_store_eq rfl 32 _ _ rfl (.pointer (some ⟨rb, 0, none⟩)) (vP none 0 0 (List.replicate 32 (0, 0))) rfl rfl HYS.out ?_))
  go_ret
  exact ⟨rfl, HFY.out⟩
set_option maxHeartbeats 16000000 in
theorem order_ok (ao bo : Option Addr) (n cap m cap2 : Nat) (b : List Nat) (xs : Nat → A9) (w : World) (hn : n ≤ 40) (hm : m ≤ 200) (hb : n = b.length) (hx : Nums w ao n (fun i => b.getD i 0)) (ha : Acts w bo m xs) (hy : true = Ps.newOk b) : Calls Try.prog 4 #[.slice ao n cap, .slice bo m cap2] w fun e w' => e = .returned (.bool true) ∧ Fr No w w' := by
  have t0 : decide ((40 : Int) < (n : Int)) = false := decide_eq_false (by omega)
  have t2 : decide ((200 : Int) < (m : Int)) = false := decide_eq_false (by omega)
  have HDN := Lib.hid (fun X (hX : Nums X ao n (fun i => b.getD i 0)) => rnew_any ao n cap b X hb (by omega) hX)
  have HX := Lib.hid hx
  have HA := Lib.hid ha
  have HN := Lib.hid hb
  have HN40 : Hid (n ≤ 40 ∧ m ≤ 200) := Lib.hid ⟨hn, hm⟩
  have HY := Lib.hid hy
  have HPL := Lib.hid (fun X (hX : Nums X ao n (fun i => b.getD i 0)) (hA : Acts X bo m xs) => played_ok ao bo n cap m cap2 b xs X hb hn (by omega) hX hA hy)
  clear hx ha hb hn hm hy
  go_enter Try.func4, Try.ntmps4
  go_wp2_with fail
  refine (shown10_any _).mono ?_
  rintro e w1 ⟨rfl, hF⟩
  have HF := Lib.hid hF
  clear hF
  go_wp2_with fail
  refine (HPL.out _ (HX.out.fr HF.out (fun _ _ => id)) (HA.out.no HF.out)).mono ?_
  intro e w2 h
  unfold Played at h
  rw [← HY.out, if_pos rfl] at h
  obtain ⟨p, O, s, tv, rfl, hK, hI, hT, hD, hSm⟩ := h
  have HSM := Lib.hid hSm
  clear hSm
  have HK := Lib.hid (hK.up HF.out)
  have HKW := Lib.hid hK
  have HI := Lib.hid hI
  have HT := Lib.hid hT
  have HD := Lib.hid hD
  obtain ⟨ta, tc, htv, _⟩ := hT.slice
  obtain ⟨Ln, hLn⟩ : ∃ L, L = s.sts.length := ⟨_, rfl⟩
  have HLN : Hid (Ln = s.t.length ∧ Ln ≤ 32) := Lib.hid ⟨by rw [hLn, Bs.sts_len], by rw [hLn, Bs.sts_len]; exact HK.out.bk.inv.len⟩
  rw [← hLn] at htv
  subst htv
  clear hK hI hT hD HPL hLn
  have HW0 : Hid (Ps.newS b).Wf := Lib.hid (Ps.Wf.new HY.out.symm)
  have HT1 : Hid (w.heap.size ≤ w1.heap.size) := Lib.hid HF.out.size
  go_wp2_with fail
  refine (HDN.out _ (HX.out.fr HK.out.fr (fun _ _ => id))).mono ?_
  intro e w3 h
  unfold DNew at h
  rw [← HY.out, if_pos rfl] at h
  obtain ⟨r, c, rfl, hr, hr2, hD9, hF3⟩ := h
  have HKa := Lib.hid (HK.out.no hF3)
  have HTa := Lib.hid (HT.out.no hF3)
  obtain ⟨rb, hrb⟩ : ∃ r, r = w3.heap.size := ⟨_, rfl⟩
  have HRBO : Hid (¬ O rb) := Lib.hid (fun e => by have := HKa.out.bk.lt rb e; omega)
  have HRBT : Hid (∀ k, (Value.slice ta Ln tc).ownBlock = some k → k ≠ rb) := Lib.hid (fun k hk => by have := (HTa.out.lt k hk).2; omega)
  have HWRB : Hid (w.heap.size ≤ rb) := Lib.hid (by rw [hrb]; exact HKa.out.fr.size)
  have HAL : Hid ((Instr.alloc 32 true (.tuple #[])).run Try.prog w3 = .ok (.pointer (some ⟨rb, 0, none⟩)) (w3.alloc (.cells zeroP.toArray 32))) := Lib.hid (by rw [hrb]; exact alloc_rp w3)
  have hZ : Blk (w3.alloc (.cells zeroP.toArray 32)) rb 32 zeroP := by rw [hrb]; exact Blk.new w3 _ _
  have hsz : w.heap.size ≤ r := by have := HK.out.fr.size; omega
  obtain ⟨Y, hY, hR, hYF⟩ := Rx.first (T := w.heap.size) hZ (hD9.fr ((Fr.refl No _).alloc _) (fun _ _ => id)) HW0.out HWRB.out hsz (by omega)
  have HYS := Lib.hid hY
  have HR0 := Lib.hid hR
  have HKy : Hid (Kp w O p s Y) := Lib.hid ((HKa.out.no ((Fr.refl No _).alloc _)).own hYF (fun k hk e => HRBO.out (e ▸ hk)) (fun k e => by have := HWRB.out; omega))
  have HTy := Lib.hid ((HTa.out.no ((Fr.refl No _).alloc _)).fr hYF (fun k hk e => HRBT.out k hk e))
  have HRY : Hid (rb < Y.heap.size) := Lib.hid HR0.out.blk.lt
  clear hY hR hYF hrb hZ hsz hr hr2 hD9 hF3 HDN HKa HTa HK HT HKW
  go_wp2_with (first
    | (refine wpList_execG (.pointer (some ⟨rb, 0, none⟩)) (exec_alloc 32 rfl _ HAL.out) rfl ?_)
    | (refine wpList_store_eq rfl 32 _ _ rfl (.pointer (some ⟨rb, 0, none⟩)) (vP (some ⟨r, 0, none⟩) b.length c (Ps.newS b).h) rfl rfl HYS.out ?_))
  clear HAL HYS
  refine (sd_done2 HKy.out.bk).mono ?_
  rintro e y1 ⟨v, rfl, hO, hF4, hfar⟩
  obtain ⟨da, dc, rfl, hcell⟩ := hO
  obtain ⟨Dn, hDn⟩ : ∃ D, D = s.done.length := ⟨_, rfl⟩
  have HDn := Lib.hid hDn
  have HD32 : Hid (Dn ≤ 32) := Lib.hid (by rw [hDn]; exact Bs.done_le HKy.out.bk.inv)
  rw [← hDn] at hcell hfar ⊢
  have HK1 := Lib.hid (HKy.out.no hF4)
  have HTK1 := Lib.hid (HTy.out.no hF4)
  have HR1 := Lib.hid (HR0.out.no hF4)
  have HCE : Hid (∀ i, i < Dn → ∃ a, da = some a ∧ a.block ≠ rb ∧ y1.cell? (a.add i) = some (.int .i64 (s.dn i : Int))) := Lib.hid (fun i hi => by
    obtain ⟨a, ha, hc⟩ := hcell i hi
    refine ⟨a, ha, fun e => ?_, hc⟩
    rcases hfar a _ _ (by rw [ha]) with h | h
    · exact HRBO.out (e ▸ h)
    · have := HRY.out; omega)
  have HRB1 : Hid (rb < y1.heap.size) := Lib.hid HR1.out.blk.lt
  have HPL : Hid (∀ i, (s.beh (Ps.newS b) i).Wf ∧ (s.beh (Ps.newS b) i).b.length = n) := Lib.hid (fun i => by
    obtain ⟨h1, _, _, h4⟩ := Bs.rep_keeps s.tk (s.done.take i) (Ps.newS b) HW0.out
    exact ⟨h1, by rw [HN.out]; exact h4⟩)
  clear hF4 hcell hfar hDn HKy HTy HR0 HRY
  go_wp2_with fail
  go_loopw [10] (fun c wr => ∃ (i : Nat) (ro : Option Addr) (rc : Nat), i ≤ Dn ∧ c = .int .i64 i ∧ Fr (· = rb) y1 wr ∧ Rx w.heap.size rb ro rc (s.beh (Ps.newS b) i) wr) (fun c _ => Dn - (intOf c).toNat)
  case atStart => exact ⟨0, _, _, by omega, rfl, Fr.refl _ _, HR1.out⟩
  clear HR1
  case round =>
    obtain ⟨i, ro, rc, hi, rfl, hF, hR⟩ := hrel
    have HFr := Lib.hid hF
    have HR := Lib.hid hR
    have HK : Hid (Kp w O p s wr) := Lib.hid (HK1.out.own hF (fun k hk e => HRBO.out (e ▸ hk)) (fun k e => by have := HWRB.out; omega))
    have HT : Hid (Tks w1.heap.size (.slice ta Ln tc) s.sts wr) := Lib.hid (HTK1.out.fr hF (fun k hk e => HRBT.out k hk e))
    clear hF hR
    by_cases hlt : i < Dn
    · have t3 : (i : Int) < (Dn : Int) := by omega
      have t3' : 0 ≤ (i : Int) := by omega
      obtain ⟨a, hda, hab, hca⟩ := HCE.out i hlt
      obtain ⟨qd, hqd⟩ : ∃ q, a.add i = q := ⟨_, rfl⟩
      have cd := HFr.out.cellA (a := a.add i) (by rw [addr_block]; exact hab) hca
      rw [hqd] at cd
      obtain ⟨d, hd⟩ : ∃ d, d = s.dn i := ⟨_, rfl⟩
      rw [← hd] at cd
      have hil : i < s.done.length := by rw [← HDn.out]; exact hlt
      obtain ⟨hdl, hact⟩ := (HK.out.bk.inv.done d).1 (by rw [hd]; exact Bs.dn_mem hil)
      have hd32 : d < 32 := by have := HK.out.bk.inv.len; omega
      have hdL : d < Ln := by have := HLN.out.1; omega
      have t4 : ¬ (d : Int) < 0 := by omega
      have t5 : decide ((Ln : Int) ≤ (d : Int)) = false := decide_eq_false (by omega)
      have t6 : (d : Int) < (Ln : Int) := by omega
      have t7 : 0 ≤ (d : Int) := by omega
      have hsl : d * 4 < 9223372036854775807 := by omega
      have hwf : (Lit.int .i64 (d : Int)).wf = true := wf_small (by omega)
      have HRS := Lib.hid (fun X (hX : Bk O p s X) => sd_result hX (fun i h => (HI.out.fresh i h).1) (d : Int) hwf)
      have HTD := Lib.hid (fun X (hX : Bk O p s X) => sd_told hX (fun i h => (HI.out.fresh i h).2) (d : Int) hwf)
      rw [show s.actV (d : Int) = true by unfold Bs.actV Bs.isIn; rw [decide_eq_true (by omega), Int.toNat_natCast, hact]; rfl, show s.resV (d : Int) = (s.tk d).e by unfold Bs.resV Bs.isIn; rw [decide_eq_true (by omega), if_pos rfl, Int.toNat_natCast]] at HRS
      rw [show s.toldV (d : Int) = (s.tk d).told by unfold Bs.toldV Bs.isIn; rw [decide_eq_true (by omega), if_pos rfl, Int.toNat_natCast]] at HTD
      obtain ⟨P, hP⟩ : ∃ q, q = s.beh (Ps.newS b) i := ⟨_, rfl⟩
      have hNX := s.beh_next (Ps.newS b) hil
      have hHL := HI.out.list i hil
      have hHM := HI.out.move i hil
      rw [← hd] at hNX hHL hHM
      rw [show Bs.rep s.tk (Ps.newS b) (s.done.take i) = P from hP.symm] at hHL hHM
      rw [← hP] at hNX HR
      have HPW : Hid (P.Wf ∧ P.b.length = n) := Lib.hid (by rw [hP]; exact HPL.out i)
      obtain ⟨x, hx⟩ : ∃ x, x = (s.tk d).st := ⟨_, rfl⟩
      have HXX := Lib.hid hx
      obtain ⟨_, _, hsl2, hlt2, hcells⟩ := HT.out.slice
      obtain ⟨g, htg, hgb, hc4⟩ := hcells d x (by rw [hx]; exact Bs.sts_at hdl)
      have hta : ta = some ⟨g, 0, none⟩ := by injection hsl2 with h1 _ _; rw [h1, htg]
      have HTA := Lib.hid hta
      have HDA := Lib.hid hda
      rw [hta, hda]
      obtain ⟨k1, hk1⟩ : ∃ k, k = i + 1 := ⟨_, rfl⟩
      rw [← hk1] at hNX
      have HK9 : Hid (k1 = i + 1 ∧ k1 ≤ Dn) := Lib.hid ⟨hk1, by omega⟩
      have s1 : (i : Int) + 1 = (k1 : Int) := by omega
      have l1 : IntKind.i64.wrap (k1 : Int) = (k1 : Int) := IntWalk.i64_in _ (by have := HD32.out; omega)
      have HNX := Lib.hid hNX
      have HQ : Hid (∀ X, Fr No wr X → X.cell? qd = some (.int .i64 (d : Int))) := Lib.hid (fun X hX => by rw [← hqd] at cd ⊢; exact hX.cellA id cd)
      obtain ⟨xq, hxq⟩ : ∃ z, z = wr.heap.size := ⟨_, rfl⟩
      have HXQ := Lib.hid hxq
      have HRQ : Hid (rb < wr.heap.size) := Lib.hid HR.out.blk.lt
      have HSN : Hid ((s.tk d).n < 18446744073709551616) := Lib.hid (HSM.out d)
      cases hls : x.lists with
      | true =>
        have hl' : (s.tk d).lists = true := by rw [← hls, hx]; rfl
        obtain ⟨he0, hto⟩ := hHL hl'
        rw [he0] at HRS
        rw [hto] at HTD
        have HMV : Hid (s.beh (Ps.newS b) k1 = P) := Lib.hid (by rw [hNX]; unfold Bs.moveS; rw [if_pos hl'])
        have c0 : wr.cell? ⟨g, d * 4, none⟩ = some (.int .i64 0) := hc4 0 _ (by omega) (by unfold St.cells; rw [hls]; rfl)
        have c1 : wr.cell? ⟨g, d * 4 + 1, none⟩ = some (.int .i64 (-1)) := hc4 1 _ (by omega) (by unfold St.cells; rw [hls]; rfl)
        have c2 : wr.cell? ⟨g, d * 4 + 2, none⟩ = some (.int .i64 0) := hc4 2 _ (by omega) (by unfold St.cells; rw [hls]; rfl)
        have c3 : wr.cell? ⟨g, d * 4 + 3, none⟩ = some (.int .u64 0) := hc4 3 _ (by omega) (by unfold St.cells; rw [hls]; rfl)
        have HXB := Lib.hid (Blk.new wr 41 [.int .i64 0, .int .i64 (-1), .int .i64 0, .int .u64 0])
        have HFX := Lib.hid ((Fr.refl No wr).alloc (.cells #[.int .i64 0, .int .i64 (-1), .int .i64 0, .int .u64 0] 41))
        have cda := HQ.out _ HFX.out
        clear hlt hi hda hab hca hd hil hdl hact hd32 hdL hwf hP hNX hHL hHM hx hsl2 hlt2 hcells htg hgb hc4 hta hk1 hxq hls hl' he0 hto
        go_wp2_with fail
        refine (HRS.out _ (HK.out.no HFX.out).bk).mono ?_
        rintro e y2 ⟨rfl, hF⟩
        have HF2 := Lib.hid (HFX.out.trans hF)
        have hb1 := HXB.out.fr hF id
        rw [← HXQ.out] at hb1
        have d1 := hb1.cell (i := 1) (v := .int .i64 (-1)) rfl
        have HK2 := Lib.hid (HK.out.no HF2.out)
        have HR2 := Lib.hid (HR.out.no HF2.out)
        have HCX : Hid (∀ X, Fr No y2 X → (Instr.loadAt 3 (.pointer (some qd))).run Try.prog X = .ok (.int .i64 (d : Int)) X) := Lib.hid (fun X hX => by
          have := HQ.out X (HF2.out.trans hX)
          simp [go_sem, this])
        have HLB : Hid (∀ X, Fr No y2 X → (Instr.loadAt 22 (.pointer (some ⟨rb, 0, none⟩))).run Try.prog X = .ok (.slice ro P.b.length rc) X) := Lib.hid (fun X hX => by
          have := (HR2.out.no hX).blk.cell (i := 0) (v := .slice ro P.b.length rc) rfl
          simp [go_sem, this])
        rw [← HXQ.out]
        clear c0 c1 c2 c3 hb1 hF cd cda
        go_wp2_with fail
        refine wp_region_held_drew (S := (fun X => Fr No y2 X)) (by kernel_rfl) ((Fr.refl _ y2).drew) (fun hHeld => ?_)
        refine takeD (i := 0) (d := some 87) (v := ?_) rfl (by kernel_rfl) (by kernel_rfl) (by kernel_rfl) (by kernel_rfl) (fun _ _ _ h => h) (Or.inl ⟨by kernel_rfl, fun X hX => Or.inl ?_⟩) (by assumption) ?_
        rotate_left
        · first | (go_simp; done) | (go_simp; with_reducible rfl)
        (try simp only [Act.put]); (try simp only [List.setIfInBounds_toArray]); (try simp only [List.set_cons_succ]); (try simp only [List.set_cons_zero])
        refine takeD (i := 1) (d := some 88) (v := .bool false) rfl (by kernel_rfl) (by kernel_rfl) (by kernel_rfl) (by kernel_rfl) (fun _ _ _ h => h) (Or.inl ⟨by kernel_rfl, fun X hX => Or.inl (exec_bin .neq 42 (.tmp 87) (.const (.int .i64 0)) 42 rfl _ _ _ rfl rfl (by kernel_rfl) (neq_zero10 X))⟩) (by assumption) ?_
        (try simp only [Act.put]); (try simp only [List.setIfInBounds_toArray]); (try simp only [List.set_cons_succ]); (try simp only [List.set_cons_zero])
        refine takeD (i := 2) (d := some 89) (v := ?_) rfl (by kernel_rfl) (by kernel_rfl) (by kernel_rfl) (by kernel_rfl) (fun _ _ _ h => h) (Or.inl ⟨by kernel_rfl, fun X hX => Or.inl ?_⟩) (by assumption) ?_
        rotate_left
        · first | (go_simp; done) | (go_simp; with_reducible rfl)
        (try simp only [Act.put]); (try simp only [List.setIfInBounds_toArray]); (try simp only [List.set_cons_succ]); (try simp only [List.set_cons_zero])
        refine takeD (i := 3) (d := some 90) (v := ?_) rfl (by kernel_rfl) (by kernel_rfl) (by kernel_rfl) (by kernel_rfl) (fun _ _ _ h => h) (Or.inl ⟨by kernel_rfl, fun X hX => Or.inl ?_⟩) (by assumption) ?_
        rotate_left
        · first | (go_simp; done) | (go_simp; with_reducible rfl)
        (try simp only [Act.put]); (try simp only [List.setIfInBounds_toArray]); (try simp only [List.set_cons_succ]); (try simp only [List.set_cons_zero])
        refine takeD (i := 4) (d := some 91) (v := ?_) rfl (by kernel_rfl) (by kernel_rfl) (by kernel_rfl) (by kernel_rfl) (fun _ _ _ h => h) (Or.inl ⟨by kernel_rfl, fun X hX => Or.inl ?_⟩) (by assumption) ?_
        rotate_left
        · first | (go_simp; done) | (go_simp; with_reducible rfl)
        (try simp only [Act.put]); (try simp only [List.setIfInBounds_toArray]); (try simp only [List.set_cons_succ]); (try simp only [List.set_cons_zero])
        refine takeD (i := 5) (d := some 92) (v := ?_) rfl (by kernel_rfl) (by kernel_rfl) (by kernel_rfl) (by kernel_rfl) (fun _ _ _ h => h) (Or.inl ⟨by kernel_rfl, fun X hX => Or.inl ?_⟩) (by assumption) ?_
        rotate_left
        · first | (go_simp; done) | (go_simp; with_reducible rfl)
        (try simp only [Act.put]); (try simp only [List.setIfInBounds_toArray]); (try simp only [List.set_cons_succ]); (try simp only [List.set_cons_zero])
        refine takeD (i := 6) (d := some 93) (v := .pointer (some qd)) rfl (by kernel_rfl) (by kernel_rfl) (by kernel_rfl) (by kernel_rfl) (fun _ _ _ h => h) (Or.inl ⟨by kernel_rfl, fun X hX => Or.inl (by go_simp)⟩) (by assumption) ?_
        (try simp only [Act.put]); (try simp only [List.setIfInBounds_toArray]); (try simp only [List.set_cons_succ]); (try simp only [List.set_cons_zero])
        refine takeD (i := 7) (d := some 94) (v := .int .i64 (d : Int)) rfl (by kernel_rfl) (by kernel_rfl) (by kernel_rfl) (by kernel_rfl) (fun _ _ _ h => h) (Or.inl ⟨by kernel_rfl, fun X hX => Or.inl (exec_load 3 (.tmp 93) rfl _ _ rfl (HCX.out X hX))⟩) (by assumption) ?_
        (try simp only [Act.put]); (try simp only [List.setIfInBounds_toArray]); (try simp only [List.set_cons_succ]); (try simp only [List.set_cons_zero])
        refine takeD (i := 9) (d := some 96) (v := ?_) rfl (by kernel_rfl) (by kernel_rfl) (by kernel_rfl) (by kernel_rfl) (fun _ _ _ h => h) (Or.inl ⟨by kernel_rfl, fun X hX => Or.inl ?_⟩) (by assumption) ?_
        rotate_left
        · first | (go_simp; done) | (go_simp; with_reducible rfl)
        (try simp only [Act.put]); (try simp only [List.setIfInBounds_toArray]); (try simp only [List.set_cons_succ]); (try simp only [List.set_cons_zero])
        refine takeD (i := 10) (d := some 97) (v := .slice ro P.b.length rc) rfl (by kernel_rfl) (by kernel_rfl) (by kernel_rfl) (by kernel_rfl) (fun _ _ _ h => h) (Or.inl ⟨by kernel_rfl, fun X hX => Or.inl (exec_load 22 (.tmp 96) rfl _ _ rfl (HLB.out X hX))⟩) (by assumption) ?_
        (try simp only [Act.put]); (try simp only [List.setIfInBounds_toArray]); (try simp only [List.set_cons_succ]); (try simp only [List.set_cons_zero])
        refine wpAnyH_ready (rs := [8]) (by kernel_rfl) (by simp) ?_
        refine AllReadyH.cons rfl (fun K hK => ?_) AllReadyH.nil
        rw [if_pos (by kernel_rfl)]
        go_simp
        refine (HTD.out _ (HK2.out.no hHeld).bk).mono ?_
        rintro e v1 ⟨tv1, rfl, hO, hv⟩
        obtain ⟨ta1, tc1, rfl, hT1⟩ := hO
        have V1 := Lib.hid (hHeld.trans hv)
        have T1 := Lib.hid hT1
        clear hv hT1
        refine hK.out _ _ (V1.out) (fun hHeld => ?_)
        clear hK K
        (try simp only [Act.put]); (try simp only [List.setIfInBounds_toArray]); (try simp only [List.set_cons_succ]); (try simp only [List.set_cons_zero])
        refine wpAnyH_ready (rs := [11]) (by kernel_rfl) (by simp) ?_
        refine AllReadyH.cons rfl (fun K hK => ?_) AllReadyH.nil
        rw [if_pos (by kernel_rfl)]
        go_simp
        refine (rsame_any ta1 ro _ tc1 rc _ _ (by have := HPW.out.2; have := HN40.out; omega) T1.out ((HR2.out.no V1.out).row.nums HPW.out.1)).mono ?_
        rintro e v2 ⟨rfl, hv⟩
        have V2 := Lib.hid (V1.out.trans hv)
        clear hv
        refine hK.out _ _ (V2.out) (fun hHeld => ?_)
        clear hK K
        (try simp only [Act.put]); (try simp only [List.setIfInBounds_toArray]); (try simp only [List.set_cons_succ]); (try simp only [List.set_cons_zero])
        refine takeD (i := 12) (d := some 99) (v := ?_) rfl (by kernel_rfl) (by kernel_rfl) (by kernel_rfl) (by kernel_rfl) (fun _ _ _ h => h) (Or.inl ⟨by kernel_rfl, fun X hX => Or.inl ?_⟩) (by assumption) ?_
        rotate_left
        · first | (go_simp; done) | (go_simp; with_reducible rfl)
        (try simp only [Act.put]); (try simp only [List.setIfInBounds_toArray]); (try simp only [List.set_cons_succ]); (try simp only [List.set_cons_zero])
        refine takeD (i := 13) (d := some 100) (v := ?_) rfl (by kernel_rfl) (by kernel_rfl) (by kernel_rfl) (by kernel_rfl) (fun _ _ _ h => h) (Or.inl ⟨by kernel_rfl, fun X hX => Or.inl ?_⟩) (by assumption) ?_
        rotate_left
        · first | (go_simp; done) | (go_simp; with_reducible rfl)
        (try simp only [Act.put]); (try simp only [List.setIfInBounds_toArray]); (try simp only [List.set_cons_succ]); (try simp only [List.set_cons_zero])
        refine wpAnyH_done (by kernel_rfl) ?_ _
        clear hHeld
        go_wp2
        exact ⟨⟨k1, ro, rc, HK9.out.2, rfl, HFr.out.trans' (HF2.out.trans V2.out) (fun _ _ => False.elim), by rw [HMV.out]; exact HR2.out.no V2.out⟩, by have := HK9.out; simp [intOf]; omega⟩
      | false =>
        have hl' : (s.tk d).lists = false := by rw [← hls, hx]; rfl
        have he0 := hHM hl'
        unfold Bs.moveE at he0
        obtain ⟨f, hf⟩ : ∃ f, f = x.f := ⟨_, rfl⟩
        obtain ⟨t, ht⟩ : ∃ f, f = x.t := ⟨_, rfl⟩
        obtain ⟨m9, hm9⟩ : ∃ f, f = x.n := ⟨_, rfl⟩
        have e1 : (s.tk d).f = f := by rw [hf, hx]; rfl
        have e2 : (s.tk d).t = t := by rw [ht, hx]; rfl
        have e3 : (s.tk d).n = m9 := by rw [hm9, hx]; rfl
        rw [e1, e2, e3] at he0
        have hm64 : m9 < 18446744073709551616 := by rw [← e3]; exact HSN.out
        have hmv : s.beh (Ps.newS b) k1 = P.movS (f : Int) (t : Int) m9 := by rw [hNX]; unfold Bs.moveS; rw [if_neg (by rw [hl']; decide), e1, e2, e3]
        have hW' : (P.movS (f : Int) (t : Int) m9).Wf := (Ps.Wf.movS HPW.out.1 _ _ _).1
        have HCALL := Lib.hid (fun X (hX : DAt ro rc P X) => rmove_any P ro rc (f : Int) (t : Int) m9 X hX HPW.out.1 hm64)
        obtain ⟨E, hE⟩ : ∃ E, E = P.movE (f : Int) (t : Int) m9 := ⟨_, rfl⟩
        obtain ⟨S', hS'⟩ : ∃ S', S' = P.movS (f : Int) (t : Int) m9 := ⟨_, rfl⟩
        obtain ⟨L, hL⟩ : ∃ L, L = cellsP ro P.b.length rc P.h := ⟨_, rfl⟩
        have HL := Lib.hid hL
        rw [vP, ← hL, ← hE, ← hS'] at HCALL
        rw [← hS'] at hmv hW'
        rw [he0, ← hE] at HRS
        have HMV := Lib.hid hmv
        have HW' := Lib.hid hW'
        have c0 : wr.cell? ⟨g, d * 4, none⟩ = some (.int .i64 0) := hc4 0 _ (by omega) (by unfold St.cells; rw [hls]; rfl)
        have c1 : wr.cell? ⟨g, d * 4 + 1, none⟩ = some (.int .i64 (f : Int)) := hc4 1 _ (by omega) (by unfold St.cells; rw [hls, hf]; rfl)
        have c2 : wr.cell? ⟨g, d * 4 + 2, none⟩ = some (.int .i64 (t : Int)) := hc4 2 _ (by omega) (by unfold St.cells; rw [hls, ht]; rfl)
        have c3 : wr.cell? ⟨g, d * 4 + 3, none⟩ = some (.int .u64 (m9 : Int)) := hc4 3 _ (by omega) (by unfold St.cells; rw [hls, hm9]; rfl)
        have t8 : ¬ (f : Int) < 0 := by omega
        have HXB := Lib.hid (Blk.new wr 41 [.int .i64 0, .int .i64 (f : Int), .int .i64 (t : Int), .int .u64 (m9 : Int)])
        have HFX := Lib.hid ((Fr.refl No wr).alloc (.cells #[.int .i64 0, .int .i64 (f : Int), .int .i64 (t : Int), .int .u64 (m9 : Int)] 41))
        have cda := HQ.out _ HFX.out
        clear hlt hi hda hab hca hd hil hdl hact hd32 hdL hwf hP hNX hHL hHM hx hsl2 hlt2 hcells htg hgb hc4 hta hk1 hxq hls hl' he0 hf ht hm9 e1 e2 e3 hm64 hmv hW' hE hS' hL
        go_wp2_with fail
        refine (HRS.out _ (HK.out.no HFX.out).bk).mono ?_
        rintro e y2 ⟨rfl, hF⟩
        have HF2 := Lib.hid (HFX.out.trans hF)
        have hb1 := HXB.out.fr hF id
        rw [← HXQ.out] at hb1
        have d1 := hb1.cell (i := 1) (v := .int .i64 (f : Int)) rfl
        have d2 := hb1.cell (i := 2) (v := .int .i64 (t : Int)) rfl
        have d3 := hb1.cell (i := 3) (v := .int .u64 (m9 : Int)) rfl
        have HR2 := Lib.hid (HR.out.no HF2.out)
        have HLD : Hid ((Instr.loadAt 32 (.pointer (some ⟨rb, 0, none⟩))).run Try.prog y2 = .ok (.agg L.toArray) y2) := Lib.hid (by rw [HL.out]; exact load_rp HR2.out.blk (cellsP_len HPW.out.1.hl))
        rw [← HXQ.out]
        clear c0 c1 c2 c3 hb1 hF cd cda
        go_wp2_with (refine wpList_load_eq rfl 32 _ rfl (.pointer (some ⟨rb, 0, none⟩)) (.agg L.toArray) rfl HLD.out ?_)
        refine (HCALL.out _ HR2.out.row).mono ?_
        rintro e y3 ⟨ro', rc', rfl, hN, hD', hF3⟩
        obtain ⟨rb2, hrb2⟩ : ∃ r, r = y3.heap.size := ⟨_, rfl⟩
        have HAL2 : Hid ((Instr.alloc 32 true (.tuple #[])).run Try.prog y3 = .ok (.pointer (some ⟨rb2, 0, none⟩)) (y3.alloc (.cells zeroP.toArray 32))) := Lib.hid (by rw [hrb2]; exact alloc_rp y3)
        have hZ2 : Blk (y3.alloc (.cells zeroP.toArray 32)) rb2 32 zeroP := by rw [hrb2]; exact Blk.new y3 _ _
        obtain ⟨Z, hZ, hZB, hZF⟩ := store_rp hZ2 (L := cellsP ro' S'.b.length rc' S'.h) (cellsP_len (by simp)) (cellsP_len HW'.out.hl) cellsP_one
        have hF3Z : Fr No y3 Z := ((Fr.refl No y3).alloc _).trans' hZF (fun i hi e => by omega)
        have HFZ : Hid (Fr No wr Z) := Lib.hid ((HF2.out.trans hF3).trans hF3Z)
        obtain ⟨Y4, hY4, hR4, hF4⟩ := (HR.out.no HFZ.out).put (v := y2) HPW.out.1 HW'.out (by have := HK.out.fr.size; have := HF2.out.size; omega) HR2.out.blk.lt hN (hD'.fr hF3Z (fun _ _ => id))
        have HS2 := Lib.hid hZ
        have HLD2 : Hid ((Instr.loadAt 32 (.pointer (some ⟨rb2, 0, none⟩))).run Try.prog Z = .ok (vP ro' S'.b.length rc' S'.h) Z) := Lib.hid (load_rp hZB (cellsP_len HW'.out.hl))
        have HS4 := Lib.hid hY4
        have HEND : Hid (Fr (· = rb) y1 Y4 ∧ Rx w.heap.size rb ro' rc' (s.beh (Ps.newS b) k1) Y4) := Lib.hid ⟨(HFr.out.trans' HFZ.out (fun _ _ => False.elim)).trans' hF4 (fun _ _ h => h), by rw [HMV.out]; exact hR4⟩
        clear hN hD' hF3 hrb2 hZ2 hZ hZB hZF hF3Z hY4 hR4 hF4 d1 d2 d3
        go_wp2_with (first
          | (refine wpList_execG (.pointer (some ⟨rb2, 0, none⟩)) (exec_alloc 32 rfl _ HAL2.out) rfl ?_)
          | (refine wpList_store_eq rfl 32 _ _ rfl (.pointer (some ⟨rb2, 0, none⟩)) (vP ro' S'.b.length rc' S'.h) rfl rfl HS2.out ?_)
          | (refine wpList_load_eq rfl 32 _ rfl (.pointer (some ⟨rb2, 0, none⟩)) (vP ro' S'.b.length rc' S'.h) rfl HLD2.out ?_)
          | (refine wpList_store_eq rfl 32 _ _ rfl (.pointer (some ⟨rb, 0, none⟩)) (vP ro' S'.b.length rc' S'.h) rfl rfl HS4.out ?_))
        exact ⟨⟨k1, ro', rc', HK9.out.2, rfl, HEND.out.1, HEND.out.2⟩, by have := HK9.out; simp [intOf]; omega⟩
    · have t3 : ¬ (i : Int) < (Dn : Int) := by omega
      have hp : s.beh (Ps.newS b) i = s.p := by rw [show i = s.done.length by have := HDn.out; omega, Bs.beh_all]; exact HI.out.now.symm
      have hpl := HPL.out i
      rw [hp] at HR hpl
      have HPW := Lib.hid hpl
      have HBL := Lib.hid (fun X (hX : Bk O p s X) => sd_balances hX)
      have HLB : Hid (∀ X, Fr No wr X → (Instr.loadAt 22 (.pointer (some ⟨rb, 0, none⟩))).run Try.prog X = .ok (.slice ro s.p.b.length rc) X) := Lib.hid (fun X hX => by
        have := (HR.out.no hX).blk.cell (i := 0) (v := .slice ro s.p.b.length rc) rfl
        simp [go_sem, this])
      clear hlt hi hp hpl
      go_wp2_with fail
      refine wp_region_held_drew (S := (fun X => Fr No wr X)) (by kernel_rfl) ((Fr.refl _ wr).drew) (fun hHeld => ?_)
      refine takeD (i := 0) (d := some 116) (v := ?_) rfl (by kernel_rfl) (by kernel_rfl) (by kernel_rfl) (by kernel_rfl) (fun _ _ _ h => h) (Or.inl ⟨by kernel_rfl, fun X hX => Or.inl ?_⟩) (by assumption) ?_
      rotate_left
      · first | (go_simp; done) | (go_simp; with_reducible rfl)
      (try simp only [Act.put]); (try simp only [List.setIfInBounds_toArray]); (try simp only [List.set_cons_succ]); (try simp only [List.set_cons_zero])
      refine takeD (i := 2) (d := some 118) (v := ?_) rfl (by kernel_rfl) (by kernel_rfl) (by kernel_rfl) (by kernel_rfl) (fun _ _ _ h => h) (Or.inl ⟨by kernel_rfl, fun X hX => Or.inl ?_⟩) (by assumption) ?_
      rotate_left
      · first | (go_simp; done) | (go_simp; with_reducible rfl)
      (try simp only [Act.put]); (try simp only [List.setIfInBounds_toArray]); (try simp only [List.set_cons_succ]); (try simp only [List.set_cons_zero])
      refine takeD (i := 3) (d := some 119) (v := .slice ro s.p.b.length rc) rfl (by kernel_rfl) (by kernel_rfl) (by kernel_rfl) (by kernel_rfl) (fun _ _ _ h => h) (Or.inl ⟨by kernel_rfl, fun X hX => Or.inl (exec_load 22 (.tmp 118) rfl _ _ rfl (HLB.out X hX))⟩) (by assumption) ?_
      (try simp only [Act.put]); (try simp only [List.setIfInBounds_toArray]); (try simp only [List.set_cons_succ]); (try simp only [List.set_cons_zero])
      refine wpAnyH_ready (rs := [1]) (by kernel_rfl) (by simp) ?_
      refine AllReadyH.cons rfl (fun K hK => ?_) AllReadyH.nil
      rw [if_pos (by kernel_rfl)]
      go_simp
      refine (HBL.out _ (HK.out.no hHeld).bk).mono ?_
      rintro e v1 ⟨tv1, rfl, hO, hv⟩
      obtain ⟨ta1, tc1, rfl, hT1⟩ := hO
      have V1 := Lib.hid (hHeld.trans hv)
      have T1 := Lib.hid hT1
      clear hv hT1
      refine hK.out _ _ (V1.out) (fun hHeld => ?_)
      clear hK K
      (try simp only [Act.put]); (try simp only [List.setIfInBounds_toArray]); (try simp only [List.set_cons_succ]); (try simp only [List.set_cons_zero])
      refine wpAnyH_ready (rs := [4]) (by kernel_rfl) (by simp) ?_
      refine AllReadyH.cons rfl (fun K hK => ?_) AllReadyH.nil
      rw [if_pos (by kernel_rfl)]
      go_simp
      refine (rsame_any ta1 ro _ tc1 rc _ _ (by have := HPW.out.2; have := HN40.out; omega) T1.out ((HR.out.no V1.out).row.nums HPW.out.1)).mono ?_
      rintro e v2 ⟨rfl, hv⟩
      have V2 := Lib.hid (V1.out.trans hv)
      clear hv
      refine hK.out _ _ (V2.out) (fun hHeld => ?_)
      clear hK K
      (try simp only [Act.put]); (try simp only [List.setIfInBounds_toArray]); (try simp only [List.set_cons_succ]); (try simp only [List.set_cons_zero])
      refine takeD (i := 5) (d := some 4) (v := ?_) rfl (by kernel_rfl) (by kernel_rfl) (by kernel_rfl) (by kernel_rfl) (fun _ _ _ h => h) (Or.inl ⟨by kernel_rfl, fun X hX => Or.inl ?_⟩) (by assumption) ?_
      rotate_left
      · first | (go_simp; done) | (go_simp; with_reducible rfl)
      (try simp only [Act.put]); (try simp only [List.setIfInBounds_toArray]); (try simp only [List.set_cons_succ]); (try simp only [List.set_cons_zero])
      refine wpAnyH_done (by kernel_rfl) ?_ _
      clear hHeld
      go_wp2
      go_ret
      exact ⟨rfl, HK.out.fr.trans V2.out⟩
end Go.Proofs.Ytpmmfbbppnbhbaa
