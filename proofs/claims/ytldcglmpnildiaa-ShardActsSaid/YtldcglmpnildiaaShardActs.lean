/- The walk of 'ShardActs'. -/
import Derived.Test.YtldcglmpnildiaaSkK
import Derived.Test.YtldcglmpnildiaaSdR
import Derived.Test.YtldcglmpnildiaaOpnB
namespace Go.Proofs.Ytldcglmpnildiaa
open Go.RowKit
set_option linter.unusedVariables false
set_option maxRecDepth 100000

set_option maxHeartbeats 1000000 in
theorem acts_long (ao : Option Addr) (n cap : Nat) (v : Value) (w : World) (hn : 40 < n) : Calls Try.prog 3 #[.slice ao n cap, v] w fun e w' => e = .returned (.bool true) ∧ Fr No w w' := by
  have t0 : decide ((40 : Int) < (n : Int)) = true := decide_eq_true (by omega)
  clear hn
  go_enter Try.func3, Try.ntmps3
  go_wp2_with fail
  refine (shown10_any _).mono ?_
  rintro e w1 ⟨rfl, hF⟩
  have HF := Lib.hid hF
  clear hF
  go_wp2
  go_ret
  exact ⟨rfl, HF.out⟩

set_option maxHeartbeats 1000000 in
theorem acts_long2 (ao bo : Option Addr) (n cap m cap2 : Nat) (w : World) (hn : n ≤ 40) (hm : 200 < m) : Calls Try.prog 3 #[.slice ao n cap, .slice bo m cap2] w fun e w' => e = .returned (.bool true) ∧ Fr No w w' := by
  have t0 : decide ((40 : Int) < (n : Int)) = false := decide_eq_false (by omega)
  have t2 : decide ((200 : Int) < (m : Int)) = true := decide_eq_true (by omega)
  clear hn hm
  go_enter Try.func3, Try.ntmps3
  go_wp2_with fail
  refine (shown10_any _).mono ?_
  rintro e w1 ⟨rfl, hF⟩
  have HF := Lib.hid hF
  clear hF
  go_wp2
  go_ret
  exact ⟨rfl, HF.out⟩

set_option maxHeartbeats 32000000 in
theorem acts_bad (ao bo : Option Addr) (n cap m cap2 : Nat) (b : List Nat) (xs : Nat → A9) (w : World) (hn : n ≤ 40) (hm : m ≤ 200) (hb : n = b.length) (hx : Nums w ao n (fun i => b.getD i 0)) (ha : Acts w bo m xs) (hy : false = Ps.newOk b) : Calls Try.prog 3 #[.slice ao n cap, .slice bo m cap2] w fun e w' => e = .returned (.bool true) ∧ Fr No w w' := by
  have t0 : decide ((40 : Int) < (n : Int)) = false := decide_eq_false (by omega)
  have t2 : decide ((200 : Int) < (m : Int)) = false := decide_eq_false (by omega)
  have HX := Lib.hid hx
  have HA := Lib.hid ha
  have HY := Lib.hid hy
  have HM : Hid (m ≤ 200) := Lib.hid hm
  have HPL := Lib.hid (fun X (hX : Nums X ao n (fun i => b.getD i 0)) => sd_new ao n cap b X hb (by unfold maxLen; omega) hX false hy)
  have HDN := Lib.hid (fun X (hX : Nums X ao n (fun i => b.getD i 0)) => rnew10_any ao n cap b X hb (by omega) hX)
  clear hx ha hb hn hm hy
  go_enter Try.func3, Try.ntmps3
  go_wp2_with fail
  refine (shown10_any _).mono ?_
  rintro e w1 ⟨rfl, hF⟩
  have HF := Lib.hid hF
  clear hF
  go_wp2_with fail
  refine (HPL.out _ (HX.out.fr HF.out (fun _ _ => id))).mono ?_
  rintro e w2 ⟨hF2, he⟩
  obtain rfl : e = .returned (.pointer none) := he
  have HF2 := Lib.hid (HF.out.trans hF2)
  clear hF2 HPL
  go_wp2_with fail
  refine (HDN.out _ (HX.out.fr HF2.out (fun _ _ => id))).mono ?_
  rintro e w3 ⟨L, rfl, hl, h1, _, hF3⟩
  rw [← HY.out]
  have HL := Lib.hid (And.intro hl h1)
  have HF3 := Lib.hid (HF2.out.trans hF3)
  obtain ⟨rb, hrb⟩ : ∃ r, r = w3.heap.size := ⟨_, rfl⟩
  have HAL : Hid ((Instr.alloc 37 true (.tuple #[])).run Try.prog w3 = .ok (.pointer (some ⟨rb, 0, none⟩)) (w3.alloc (.cells zeroK.toArray 37))) := Lib.hid (by rw [hrb]; exact alloc_rk w3)
  have hZ : Blk (w3.alloc (.cells zeroK.toArray 37)) rb 37 zeroK := by rw [hrb]; exact Blk.new w3 _ _
  obtain ⟨Y, hY, hYB, hYF⟩ := store_rk hZ (by rfl) HL.out.1 HL.out.2
  have HYS := Lib.hid hY

  have HFY : Hid (Fr No w Y) := Lib.hid ((HF3.out.alloc _).trans' hYF (fun i hi e => by have := HF3.out.size; omega))
  clear hl h1 hF3 HDN hrb hZ hY hYB hYF
  go_wp2_with (first
    | (refine wpList_execG (.pointer (some ⟨rb, 0, none⟩)) (exec_alloc 37 rfl _ HAL.out) rfl ?_)
    | (refine wpList_store_eq rfl 37 _ _ rfl (.pointer (some ⟨rb, 0, none⟩)) (.agg L.toArray) rfl rfl HYS.out ?_))
  go_ret
  exact ⟨rfl, HFY.out⟩

set_option maxHeartbeats 32000000 in
theorem acts_ok (ao bo : Option Addr) (n cap m cap2 : Nat) (b : List Nat) (xs : Nat → A9) (w : World) (hn : n ≤ 40) (hm : m ≤ 200) (hb : n = b.length) (hx : Nums w ao n (fun i => b.getD i 0)) (ha : Acts w bo m xs) (hy : true = Ps.newOk b) : Calls Try.prog 3 #[.slice ao n cap, .slice bo m cap2] w fun e w' => e = .returned (.bool true) ∧ Fr No w w' := by
  have t0 : decide ((40 : Int) < (n : Int)) = false := decide_eq_false (by omega)
  have t2 : decide ((200 : Int) < (m : Int)) = false := decide_eq_false (by omega)
  have HX := Lib.hid hx
  have HA := Lib.hid ha
  have HY := Lib.hid hy
  have HM : Hid (m ≤ 200) := Lib.hid hm
  have HPL := Lib.hid (fun X (hX : Nums X ao n (fun i => b.getD i 0)) => sd_new ao n cap b X hb (by unfold maxLen; omega) hX true hy)
  have HDN := Lib.hid (fun X (hX : Nums X ao n (fun i => b.getD i 0)) => rnew10_any ao n cap b X hb (by omega) hX)
  clear hx ha hb hn hm hy
  go_enter Try.func3, Try.ntmps3
  go_wp2_with fail
  refine (shown10_any _).mono ?_
  rintro e w1 ⟨rfl, hF⟩
  have HF := Lib.hid hF
  clear hF
  go_wp2_with fail
  refine (HPL.out _ (HX.out.fr HF.out (fun _ _ => id))).mono ?_
  rintro e w2 ⟨hF2, p, O, rfl, hO, hB⟩
  have HK : Hid (Kp w1 O p (Bs.newB b) w2) := Lib.hid ⟨hB, hO, hF2⟩
  have HI := Lib.hid (Bs.Hist.new b)
  clear hF2 hO hB HPL
  go_wp2_with fail
  refine (HDN.out _ (HX.out.fr (HF.out.trans HK.out.fr) (fun _ _ => id))).mono ?_
  rintro e w3 ⟨L, rfl, hl, h1, hdb, hF3⟩
  rw [← HY.out]
  have HL := Lib.hid (And.intro hl h1)
  obtain ⟨rb, hrb⟩ : ∃ r, r = w3.heap.size := ⟨_, rfl⟩
  have HAL : Hid ((Instr.alloc 37 true (.tuple #[])).run Try.prog w3 = .ok (.pointer (some ⟨rb, 0, none⟩)) (w3.alloc (.cells zeroK.toArray 37))) := Lib.hid (by rw [hrb]; exact alloc_rk w3)
  have hZ : Blk (w3.alloc (.cells zeroK.toArray 37)) rb 37 zeroK := by rw [hrb]; exact Blk.new w3 _ _
  obtain ⟨Y, hY, hYB, hYF⟩ := store_rk hZ (by rfl) HL.out.1 HL.out.2
  have HYS := Lib.hid hY

  have hKY : Kp w1 O p (Bs.newB b) Y := ((HK.out.no hF3).no ((Fr.refl No w3).alloc _)).own hYF (fun k hk e => by have := HK.out.bk.lt k hk; have := hF3.size; omega) (fun k e => by have := HK.out.fr.size; have := hF3.size; omega)
  have hrbY : w2.heap.size ≤ rb := by have := hF3.size; omega
  have hdY : DB (fun k => k < w2.heap.size) (Bs.newB b) L w3 := hdb HY.out.symm
  have HD0 : Hid (∃ S, DB S (Bs.newB b) L Y ∧ (∀ k, O k → S k) ∧ S rb ∧ ∀ k, S k → k < Y.heap.size) := Lib.hid (by
    refine ⟨Up (fun k => k < w2.heap.size) w3 (w3.alloc (.cells zeroK.toArray 37)), ((hdY.grow ((Fr.refl _ w3).alloc _)).fr (hYF.mono (fun k _ e => .inr ⟨by omega, by simp; omega⟩))), fun k hk => .inl (HK.out.bk.lt k hk), .inr ⟨by omega, by simp; omega⟩, fun k e => ?_⟩
    have h9 := hYF.size
    have h8 : w3.heap.size < (w3.alloc (.cells zeroK.toArray 37)).heap.size := by simp
    rcases e with e | e
    · have := hF3.size; omega
    · omega)
  have HKY := Lib.hid hKY
  have HBY := Lib.hid hYB
  have HRB : Hid (w1.heap.size ≤ rb ∧ ¬ O rb) := Lib.hid ⟨by have := HK.out.fr.size; omega, fun e => by have := HK.out.bk.lt rb e; omega⟩
  have HSM : Hid ((Bs.newB b).Small) := Lib.hid (fun i => by show (([] : List Tk).getD i Tk.zero).n < _; simp [Tk.zero])
  have HPT : Hid (True) := Lib.hid trivial
  clear hl h1 hdb hF3 HDN hrb hZ hY hYB hYF hKY hrbY hdY HK
  go_wp2_with (first
    | (refine wpList_execG (.pointer (some ⟨rb, 0, none⟩)) (exec_alloc 37 rfl _ HAL.out) rfl ?_)
    | (refine wpList_store_eq rfl 37 _ _ rfl (.pointer (some ⟨rb, 0, none⟩)) (.agg L.toArray) rfl rfl HYS.out ?_))
  clear HAL HYS
  go_loopw [8] (fun c wr => ∃ (i : Nat) (s : Bs) (O S : Nat → Prop) (L : List Value), i ≤ m ∧ c = .int .i64 i ∧ Hid (Kp w1 O p s wr) ∧ Hid (Bs.Hist (Ps.newS b) s) ∧ Hid s.Small ∧ Hid (¬ O rb) ∧ Hid (Blk wr rb 37 L) ∧ Hid (DB S s L wr ∧ (∀ k, O k → S k) ∧ S rb ∧ ∀ k, S k → k < wr.heap.size)) (fun c _ => m - (intOf c).toNat)
  case atStart =>
    obtain ⟨S, h⟩ := HD0.out
    exact ⟨0, Bs.newB b, O, S, L, by omega, rfl, HKY, HI, HSM, Lib.hid HRB.out.2, HBY, Lib.hid h⟩
  clear HD0 HKY HBY HI HSM HL
  case round =>
    obtain ⟨i, s, O, S, L, hi, rfl, HK, HI, HSM, HOR, HB, HD⟩ := hrel
    by_cases hlt : i < m
    · have t3 : (i : Int) < (m : Int) := by omega
      obtain ⟨a, hbo, hok, hat⟩ := HA.out i hlt
      obtain ⟨q, hq⟩ : ∃ q, a.add (i * 4) = q := ⟨_, rfl⟩
      rw [hq] at hat
      obtain ⟨⟨k, xa, xb, xn⟩, hx⟩ : ∃ x, x = xs i := ⟨_, rfl⟩
      rw [← hx] at hok hat
      have hat2 := hat.no (HF.out.trans HK.out.fr)
      have c0 := hat2.c0
      have c1 := hat2.c1
      have c2 := hat2.c2
      have c3 := hat2.c3
      simp only at c0 c1 c2 c3
      have HWA : Hid ((Lit.int .i64 xa).wf = true) := Lib.hid hok.a
      have HWN : Hid (xn < 18446744073709551616) := Lib.hid hok.n
      obtain ⟨k1, hk1⟩ : ∃ k, k = i + 1 := ⟨_, rfl⟩
      have HK1 : Hid (k1 = i + 1 ∧ k1 ≤ m) := Lib.hid ⟨hk1, by omega⟩
      have s1 : (i : Int) + 1 = (k1 : Int) := by omega
      have l1 : IntKind.i64.wrap (k1 : Int) = (k1 : Int) := IntWalk.i64_in _ (by have := HM.out; omega)
      have hsl : i * 4 < 9223372036854775807 := by have := HM.out; omega
      obtain ⟨xq, hxq⟩ : ∃ z, z = wr.heap.size := ⟨_, rfl⟩
      rw [hbo]
      have hAL := (Fr.refl No wr).alloc (.cells #[.int .i64 k, .int .i64 xa, .int .i64 xb, .int .u64 (xn : Int)] 41)
      obtain ⟨y0, hy0⟩ : ∃ y, y = wr.alloc (.cells #[.int .i64 k, .int .i64 xa, .int .i64 xb, .int .u64 (xn : Int)] 41) := ⟨_, rfl⟩
      have hbx : Blk y0 xq 41 [.int .i64 k, .int .i64 xa, .int .i64 xb, .int .u64 (xn : Int)] := by rw [hy0, hxq]; exact Blk.new wr 41 _
      rw [← hy0] at hAL
      have HKa := Lib.hid (HK.out.no hAL)
      have HBa := Lib.hid (HB.out.fr hAL id)
      have HDa : Hid (DB S s L y0 ∧ ∀ k, S k → k < y0.heap.size) := Lib.hid ⟨HD.out.1.no hAL, fun k e => by have := HD.out.2.2.2 k e; have := hAL.size; omega⟩
      have HXB := Lib.hid hbx
      have HXO : Hid (¬ O xq) := Lib.hid (fun e => by have := HK.out.bk.lt xq e; omega)
      have HIV := Lib.hid HK.out.bk.inv
      have hy0' : wr.alloc (.cells #[.int .i64 k, .int .i64 xa, .int .i64 xb, .int .u64 (xn : Int)] 41) = y0 := hy0.symm
      have d0 := hbx.cell (i := 0) (v := .int .i64 k) rfl
      have d1 := hbx.cell (i := 1) (v := .int .i64 xa) rfl
      have d2 := hbx.cell (i := 2) (v := .int .i64 xb) rfl
      have d3 := hbx.cell (i := 3) (v := .int .u64 (xn : Int)) rfl
      have hxq' : wr.heap.size = xq := hxq.symm
      clear hlt hi hok hat hat2 hx hk1 hbo hxq hAL hy0 hbx
      by_cases hk0 : k = 0
      · have j0 : (k == 0) = true := by rw [hk0]; rfl
        clear hk0
        have HPC := Lib.hid (sd_start HKa.out.bk xa xb xn)
        have HRC := Lib.hid (fun (y1 : World) (hF : Fr O y0 y1) => rstart_any (up_lt' HDa.out.2 hF) s L HIV.out.wf (HDa.out.1.grow (hF.mono (fun k _ e => HD.out.2.1 k e))) xa xb xn HWN.out)
        obtain ⟨E, hE⟩ : ∃ E, E = s.startE xa xb := ⟨_, rfl⟩
        obtain ⟨s2, hs2⟩ : ∃ t, t = s.startS xa xb xn := ⟨_, rfl⟩
        obtain ⟨I, hI⟩ : ∃ I, I = s.startI xa xb := ⟨_, rfl⟩
        rw [← hI] at HPC HRC
        rw [← hE, ← hs2] at HPC HRC
        have HI2 : Hid (Bs.Hist (Ps.newS b) s2) := Lib.hid (by rw [hs2]; exact HI.out.start HIV.out _ _ _)
        have HS2 : Hid s2.Small := Lib.hid (by rw [hs2]; exact HSM.out.start _ _ HWN.out)
        clear hE hs2 hI
        go_wp2_with fail
        refine HPC.out.mono ?_
        rintro e y1 ⟨rfl, hTo⟩
        obtain ⟨O2, hK2, hO2, hF⟩ := HKa.out.to hTo
        have hB1 := HBa.out.fr hF HOR.out
        have hx1 := HXB.out.fr hF HXO.out
        have d0 := hx1.cell (i := 0) (v := .int .i64 k) rfl
        have d1 := hx1.cell (i := 1) (v := .int .i64 xa) rfl
        have d2 := hx1.cell (i := 2) (v := .int .i64 xb) rfl
        have d3 := hx1.cell (i := 3) (v := .int .u64 (xn : Int)) rfl
        have HLB := Lib.hid (load_rk hB1 (HDa.out.1.len HIV.out.wf))
        have HRY := Lib.hid (HRC.out y1 hF)
        have HO2 : Hid (∀ k, O2 k → Up S y0 y1 k) := Lib.hid (fun k e => (hO2 k e).elim (fun e => .inl (HD.out.2.1 k e)) (fun e2 => .inr ⟨e2, hK2.bk.lt k e⟩))
        have HU : Hid (∀ k, Up S y0 y1 k → k < y1.heap.size) := Lib.hid (up_lt' HDa.out.2 hF)
        have HK2 := Lib.hid hK2
        have HB1 := Lib.hid hB1
        have HOR2 : Hid (¬ O2 rb) := Lib.hid (fun e => (hO2 rb e).elim HOR.out (fun e => by have := HBa.out.lt; omega))
        clear hTo hK2 hO2 hF hB1 hx1
        go_wp2_with (refine wpList_load_eq rfl 37 _ rfl (.pointer (some ⟨rb, 0, none⟩)) (.agg L.toArray) rfl HLB.out ?_)
        refine HRY.out.mono ?_
        rintro e y2 ⟨L2, rfl, hD2, hF2⟩
        have HV2 := Lib.hid HK2.out.bk.inv
        obtain ⟨y3, h3, hB3, hF3⟩ := store_rk (HB1.out.fr hF2 id) (HDa.out.1.len HIV.out.wf) (hD2.len HV2.out.wf) hD2.one
        have HST := Lib.hid h3
        have HB3 := Lib.hid hB3
        have HK3 := Lib.hid ((HK2.out.no hF2).own hF3 (fun k hk e => HOR2.out (e ▸ hk)) (fun k e => e ▸ HRB.out.1))
        have HD3 : Hid (DB (Up S y0 y1) s2 L2 y3 ∧ (∀ k, O2 k → Up S y0 y1 k) ∧ Up S y0 y1 rb ∧ ∀ k, Up S y0 y1 k → k < y3.heap.size) := Lib.hid ⟨hD2.fr (hF3.mono (fun k _ e => e ▸ .inl HD.out.2.2.1)), HO2.out, .inl HD.out.2.2.1, fun k e => by have := HU.out k e; have := hF2.size; have := hF3.size; omega⟩
        clear hD2 hF2 h3 hB3 hF3
        go_wp2_with (refine wpList_store_eq rfl 37 _ _ rfl (.pointer (some ⟨rb, 0, none⟩)) (.agg L2.toArray) rfl rfl HST.out ?_)
        have HDO := Lib.hid (sd_done HK3.out.bk)
        obtain ⟨da, dc, h70, hda⟩ := HD3.out.1.doneAt HV2.out.wf
        have HL35 : Hid (∀ X, Fr No y3 X → (Instr.loadAt 35 (.pointer (some ⟨rb, 70, none⟩))).run Try.prog X = .ok (.slice da s2.done.length dc) X) := Lib.hid (fun X hX => by
          have := (HB3.out.fr hX id).cell h70
          simp [go_sem, this])
        have HDA := Lib.hid hda
        have HDL : Hid (s2.done.length ≤ 1000) := Lib.hid (by have := Bs.done_le HV2.out; omega)
        have HN1 : Hid (∀ X : World, (binOp .neq 3 (.int .i64 (I : Int)) (.int .i64 (I : Int))).run Try.prog X = .ok (.bool false) X) := Lib.hid (fun X => neq_i10 _ X)
        have HN2 : Hid (∀ X : World, (binOp .neq 42 (.int .i64 E) (.int .i64 E)).run Try.prog X = .ok (.bool false) X) := Lib.hid (fun X => neq_e10 _ X)
        clear h70 hda
        refine wp_region_held_drew (S := (fun X => Fr No y3 X)) (by kernel_rfl) ((Fr.refl No y3).drew) (fun hHeld => ?_)
        refine takeD (i := 0) (d := some 107) (v := ?_) rfl (by kernel_rfl) (by kernel_rfl) (by kernel_rfl) (by kernel_rfl) (fun _ _ _ h => h) (Or.inl ⟨by kernel_rfl, fun X hX => Or.inl ?_⟩) (by assumption) ?_
        rotate_left
        · first | (go_simp; done) | (go_simp; with_reducible rfl)
        (try simp only [Act.put]); (try simp only [List.setIfInBounds_toArray]); (try simp only [List.set_cons_succ]); (try simp only [List.set_cons_zero])
        refine takeD (i := 1) (d := some 108) (v := ?_) rfl (by kernel_rfl) (by kernel_rfl) (by kernel_rfl) (by kernel_rfl) (fun _ _ _ h => h) (Or.inl ⟨by kernel_rfl, fun X hX => Or.inl ?_⟩) (by assumption) ?_
        rotate_left
        · first | (go_simp; done) | (go_simp; with_reducible rfl)
        (try simp only [Act.put]); (try simp only [List.setIfInBounds_toArray]); (try simp only [List.set_cons_succ]); (try simp only [List.set_cons_zero])
        refine takeD (i := 2) (d := some 109) (v := .bool false) rfl (by kernel_rfl) (by kernel_rfl) (by kernel_rfl) (by kernel_rfl) (fun _ _ _ h => h) (Or.inl ⟨by kernel_rfl, fun X hX => Or.inl (exec_bin .neq 3 (.tmp 107) (.tmp 108) 3 rfl _ _ _ rfl rfl (by kernel_rfl) (HN1.out X))⟩) (by assumption) ?_
        (try simp only [Act.put]); (try simp only [List.setIfInBounds_toArray]); (try simp only [List.set_cons_succ]); (try simp only [List.set_cons_zero])
        refine takeD (i := 3) (d := some 110) (v := ?_) rfl (by kernel_rfl) (by kernel_rfl) (by kernel_rfl) (by kernel_rfl) (fun _ _ _ h => h) (Or.inl ⟨by kernel_rfl, fun X hX => Or.inl ?_⟩) (by assumption) ?_
        rotate_left
        · first | (go_simp; done) | (go_simp; with_reducible rfl)
        (try simp only [Act.put]); (try simp only [List.setIfInBounds_toArray]); (try simp only [List.set_cons_succ]); (try simp only [List.set_cons_zero])
        refine takeD (i := 4) (d := some 111) (v := ?_) rfl (by kernel_rfl) (by kernel_rfl) (by kernel_rfl) (by kernel_rfl) (fun _ _ _ h => h) (Or.inl ⟨by kernel_rfl, fun X hX => Or.inl ?_⟩) (by assumption) ?_
        rotate_left
        · first | (go_simp; done) | (go_simp; with_reducible rfl)
        (try simp only [Act.put]); (try simp only [List.setIfInBounds_toArray]); (try simp only [List.set_cons_succ]); (try simp only [List.set_cons_zero])
        refine takeD (i := 5) (d := some 112) (v := ?_) rfl (by kernel_rfl) (by kernel_rfl) (by kernel_rfl) (by kernel_rfl) (fun _ _ _ h => h) (Or.inl ⟨by kernel_rfl, fun X hX => Or.inl ?_⟩) (by assumption) ?_
        rotate_left
        · first | (go_simp; done) | (go_simp; with_reducible rfl)
        (try simp only [Act.put]); (try simp only [List.setIfInBounds_toArray]); (try simp only [List.set_cons_succ]); (try simp only [List.set_cons_zero])
        refine takeD (i := 6) (d := some 113) (v := .bool false) rfl (by kernel_rfl) (by kernel_rfl) (by kernel_rfl) (by kernel_rfl) (fun _ _ _ h => h) (Or.inl ⟨by kernel_rfl, fun X hX => Or.inl (exec_bin .neq 42 (.tmp 111) (.tmp 112) 42 rfl _ _ _ rfl rfl (by kernel_rfl) (HN2.out X))⟩) (by assumption) ?_
        (try simp only [Act.put]); (try simp only [List.setIfInBounds_toArray]); (try simp only [List.set_cons_succ]); (try simp only [List.set_cons_zero])
        refine takeD (i := 7) (d := some 114) (v := ?_) rfl (by kernel_rfl) (by kernel_rfl) (by kernel_rfl) (by kernel_rfl) (fun _ _ _ h => h) (Or.inl ⟨by kernel_rfl, fun X hX => Or.inl ?_⟩) (by assumption) ?_
        rotate_left
        · first | (go_simp; done) | (go_simp; with_reducible rfl)
        (try simp only [Act.put]); (try simp only [List.setIfInBounds_toArray]); (try simp only [List.set_cons_succ]); (try simp only [List.set_cons_zero])
        refine takeD (i := 8) (d := some 115) (v := ?_) rfl (by kernel_rfl) (by kernel_rfl) (by kernel_rfl) (by kernel_rfl) (fun _ _ _ h => h) (Or.inl ⟨by kernel_rfl, fun X hX => Or.inl ?_⟩) (by assumption) ?_
        rotate_left
        · first | (go_simp; done) | (go_simp; with_reducible rfl)
        (try simp only [Act.put]); (try simp only [List.setIfInBounds_toArray]); (try simp only [List.set_cons_succ]); (try simp only [List.set_cons_zero])
        refine takeD (i := 9) (d := some 116) (v := ?_) rfl (by kernel_rfl) (by kernel_rfl) (by kernel_rfl) (by kernel_rfl) (fun _ _ _ h => h) (Or.inl ⟨by kernel_rfl, fun X hX => Or.inl ?_⟩) (by assumption) ?_
        rotate_left
        · first | (go_simp; done) | (go_simp; with_reducible rfl)
        (try simp only [Act.put]); (try simp only [List.setIfInBounds_toArray]); (try simp only [List.set_cons_succ]); (try simp only [List.set_cons_zero])
        refine takeD (i := 11) (d := some 118) (v := ?_) rfl (by kernel_rfl) (by kernel_rfl) (by kernel_rfl) (by kernel_rfl) (fun _ _ _ h => h) (Or.inl ⟨by kernel_rfl, fun X hX => Or.inl ?_⟩) (by assumption) ?_
        rotate_left
        · first | (go_simp; done) | (go_simp; with_reducible rfl)
        (try simp only [Act.put]); (try simp only [List.setIfInBounds_toArray]); (try simp only [List.set_cons_succ]); (try simp only [List.set_cons_zero])
        refine takeD (i := 12) (d := some 119) (v := .slice da s2.done.length dc) rfl (by kernel_rfl) (by kernel_rfl) (by kernel_rfl) (by kernel_rfl) (fun _ _ _ h => h) (Or.inl ⟨by kernel_rfl, fun X hX => Or.inl (exec_load 35 (.tmp 118) rfl _ _ rfl (HL35.out X hX))⟩) (by assumption) ?_
        (try simp only [Act.put]); (try simp only [List.setIfInBounds_toArray]); (try simp only [List.set_cons_succ]); (try simp only [List.set_cons_zero])
        refine wpAnyH_ready (rs := [10]) (by kernel_rfl) (by simp) ?_
        refine AllReadyH.cons rfl (fun K hK => ?_) AllReadyH.nil
        rw [if_pos (by kernel_rfl)]
        go_simp
        refine (sd_done (HK3.out.no (Fr.refl No y3).drew).bk).mono ?_
        rintro e v1 ⟨dv1, rfl, hO, hv⟩
        obtain ⟨oa, oc, rfl, hoc⟩ := hO
        have V1 := Lib.hid ((Fr.refl No y3).drew.trans hv)
        have OC := Lib.hid hoc
        clear hv hoc
        refine hK.out _ _ (V1.out) (fun hHeld => ?_)
        clear hK K
        (try simp only [Act.put]); (try simp only [List.setIfInBounds_toArray]); (try simp only [List.set_cons_succ]); (try simp only [List.set_cons_zero])
        refine wpAnyH_ready (rs := [13]) (by kernel_rfl) (by simp) ?_
        refine AllReadyH.cons rfl (fun K hK => ?_) AllReadyH.nil
        rw [if_pos (by kernel_rfl)]
        go_simp
        refine (rsameI_any oa da _ oc dc (fun i => (s2.done.getD i 0 : Int)) _ HDL.out OC.out (HDA.out _ V1.out)).mono ?_
        rintro e v2 ⟨rfl, hv⟩
        have V2 := Lib.hid (V1.out.trans hv)
        clear hv
        refine hK.out _ _ (V2.out) (fun hHeld => ?_)
        clear hK K
        (try simp only [Act.put]); (try simp only [List.setIfInBounds_toArray]); (try simp only [List.set_cons_succ]); (try simp only [List.set_cons_zero])
        refine takeD (i := 14) (d := some 121) (v := ?_) rfl (by kernel_rfl) (by kernel_rfl) (by kernel_rfl) (by kernel_rfl) (fun _ _ _ h => h) (Or.inl ⟨by kernel_rfl, fun X hX => Or.inl ?_⟩) (by assumption) ?_
        rotate_left
        · first | (go_simp; done) | (go_simp; with_reducible rfl)
        (try simp only [Act.put]); (try simp only [List.setIfInBounds_toArray]); (try simp only [List.set_cons_succ]); (try simp only [List.set_cons_zero])
        refine takeD (i := 15) (d := some 122) (v := ?_) rfl (by kernel_rfl) (by kernel_rfl) (by kernel_rfl) (by kernel_rfl) (fun _ _ _ h => h) (Or.inl ⟨by kernel_rfl, fun X hX => Or.inl ?_⟩) (by assumption) ?_
        rotate_left
        · first | (go_simp; done) | (go_simp; with_reducible rfl)
        (try simp only [Act.put]); (try simp only [List.setIfInBounds_toArray]); (try simp only [List.set_cons_succ]); (try simp only [List.set_cons_zero])
        refine wpAnyH_done (by kernel_rfl) ?_ _
        have HH := Lib.hid hHeld
        clear hHeld
        go_wp2_with fail
        go_loopw [14] (fun jv wr2 => ∃ j : Nat, j ≤ 4 ∧ jv = .int .i64 j ∧ Hid (Fr No y3 wr2)) (fun jv _ => 4 - (intOf jv).toNat)
        case atStart => exact ⟨0, by omega, rfl, HH⟩
        clear HH
        case round =>
          obtain ⟨j, hj, rfl, HFj⟩ := hrel
          by_cases hj4 : j < 4
          · have t6 : (j : Int) < 4 := by omega
            have t6' : j < 4 := hj4
            obtain ⟨k2, hk2⟩ : ∃ x, x = j + 1 := ⟨_, rfl⟩
            have HJ2 : Hid (k2 = j + 1 ∧ k2 ≤ 4) := Lib.hid ⟨hk2, by omega⟩
            have s2' : (j : Int) + 1 = (k2 : Int) := by omega
            have l2 : IntKind.i64.wrap (k2 : Int) = (k2 : Int) := IntWalk.i64_in _ (by omega)
            have HHC := Lib.hid (fun X (hX : Bk O2 p s2 X) => sd_holder hX (j : Int) (wf_small (by omega)))
            obtain ⟨hv, hhv⟩ : ∃ h, h = s2.hold j := ⟨_, rfl⟩
            rw [show s2.holdV (j : Int) = hv by unfold Bs.holdV; rw [if_pos (by omega), Int.toNat_natCast, hhv]] at HHC
            have h66 := HD3.out.1.holdAt HV2.out.wf hj4
            rw [← hhv] at h66
            have HCX : Hid (∀ X, Fr No wr X → (Instr.loadAt 3 (.pointer (some ⟨rb, 66 + j, none⟩))).run Try.prog X = .ok (.int .i64 hv) X) := Lib.hid (fun X hX => by
              have := (HB3.out.fr (HFj.out.trans hX) id).cell h66
              simp [go_sem, this])
            have HN3 : Hid (∀ X : World, (binOp .neq 3 (.int .i64 hv) (.int .i64 hv)).run Try.prog X = .ok (.bool false) X) := Lib.hid (fun X => neq_i10 _ X)
            clear hj hj4 hk2 hhv h66
            go_wp2_with fail
            refine wp_region_held_drew (S := (fun X => Fr No wr X)) (by kernel_rfl) ((Fr.refl No wr).drew) (fun hHeld => ?_)
            refine takeD (i := 0) (d := some 127) (v := ?_) rfl (by kernel_rfl) (by kernel_rfl) (by kernel_rfl) (by kernel_rfl) (fun _ _ _ h => h) (Or.inl ⟨by kernel_rfl, fun X hX => Or.inl ?_⟩) (by assumption) ?_
            rotate_left
            · first | (go_simp; done) | (go_simp; with_reducible rfl)
            (try simp only [Act.put]); (try simp only [List.setIfInBounds_toArray]); (try simp only [List.set_cons_succ]); (try simp only [List.set_cons_zero])
            refine takeD (i := 1) (d := some 128) (v := ?_) rfl (by kernel_rfl) (by kernel_rfl) (by kernel_rfl) (by kernel_rfl) (fun _ _ _ h => h) (Or.inl ⟨by kernel_rfl, fun X hX => Or.inl ?_⟩) (by assumption) ?_
            rotate_left
            · first | (go_simp; done) | (go_simp; with_reducible rfl)
            (try simp only [Act.put]); (try simp only [List.setIfInBounds_toArray]); (try simp only [List.set_cons_succ]); (try simp only [List.set_cons_zero])
            refine takeD (i := 3) (d := some 130) (v := ?_) rfl (by kernel_rfl) (by kernel_rfl) (by kernel_rfl) (by kernel_rfl) (fun _ _ _ h => h) (Or.inl ⟨by kernel_rfl, fun X hX => Or.inl ?_⟩) (by assumption) ?_
            rotate_left
            · first | (go_simp; done) | (go_simp; with_reducible rfl)
            (try simp only [Act.put]); (try simp only [List.setIfInBounds_toArray]); (try simp only [List.set_cons_succ]); (try simp only [List.set_cons_zero])
            refine takeD (i := 4) (d := some 131) (v := ?_) rfl (by kernel_rfl) (by kernel_rfl) (by kernel_rfl) (by kernel_rfl) (fun _ _ _ h => h) (Or.inl ⟨by kernel_rfl, fun X hX => Or.inl ?_⟩) (by assumption) ?_
            rotate_left
            · first | (go_simp; done) | (go_simp; with_reducible rfl)
            (try simp only [Act.put]); (try simp only [List.setIfInBounds_toArray]); (try simp only [List.set_cons_succ]); (try simp only [List.set_cons_zero])
            refine takeD (i := 5) (d := some 132) (v := ?_) rfl (by kernel_rfl) (by kernel_rfl) (by kernel_rfl) (by kernel_rfl) (fun _ _ _ h => h) (Or.inl ⟨by kernel_rfl, fun X hX => Or.inl ?_⟩) (by assumption) ?_
            rotate_left
            · first | (go_simp; done) | (go_simp; with_reducible rfl)
            (try simp only [Act.put]); (try simp only [List.setIfInBounds_toArray]); (try simp only [List.set_cons_succ]); (try simp only [List.set_cons_zero])
            refine takeD (i := 6) (d := some 133) (v := .int .i64 hv) rfl (by kernel_rfl) (by kernel_rfl) (by kernel_rfl) (by kernel_rfl) (fun _ _ _ h => h) (Or.inl ⟨by kernel_rfl, fun X hX => Or.inl (exec_load 3 (.tmp 132) rfl _ _ rfl (HCX.out X hX))⟩) (by assumption) ?_
            (try simp only [Act.put]); (try simp only [List.setIfInBounds_toArray]); (try simp only [List.set_cons_succ]); (try simp only [List.set_cons_zero])
            refine wpAnyH_ready (rs := [2]) (by kernel_rfl) (by simp) ?_
            refine AllReadyH.cons rfl (fun K hK => ?_) AllReadyH.nil
            rw [if_pos (by kernel_rfl)]
            go_simp
            refine (HHC.out _ (HK3.out.no (HFj.out.trans (Fr.refl No wr).drew)).bk).mono ?_
            rintro e yv ⟨rfl, hv'⟩
            have FV := Lib.hid (hHeld.trans hv')
            clear hv'
            refine hK.out _ _ (FV.out) (fun hHeld => ?_)
            clear hK K
            (try simp only [Act.put]); (try simp only [List.setIfInBounds_toArray]); (try simp only [List.set_cons_succ]); (try simp only [List.set_cons_zero])
            refine takeD (i := 7) (d := some 134) (v := .bool false) rfl (by kernel_rfl) (by kernel_rfl) (by kernel_rfl) (by kernel_rfl) (fun _ _ _ h => h) (Or.inl ⟨by kernel_rfl, fun X hX => Or.inl (exec_bin .neq 3 (.tmp 129) (.tmp 133) 3 rfl _ _ _ rfl rfl (by kernel_rfl) (HN3.out X))⟩) (by assumption) ?_
            (try simp only [Act.put]); (try simp only [List.setIfInBounds_toArray]); (try simp only [List.set_cons_succ]); (try simp only [List.set_cons_zero])
            refine wpAnyH_done (by kernel_rfl) ?_ _
            clear hHeld
            go_wp2
            exact ⟨⟨k2, HJ2.out.2, rfl, Lib.hid (HFj.out.trans FV.out)⟩, by have := HJ2.out; simp [intOf]; omega⟩
          · have t6 : ¬ (j : Int) < 4 := by omega
            have t6' : ¬ j < 4 := hj4
            have HK4 := Lib.hid (HK3.out.no HFj.out)
            have HB4 := Lib.hid (HB3.out.fr HFj.out id)
            have HD4 : Hid (DB (Up S y0 y1) s2 L2 wr ∧ (∀ k, O2 k → Up S y0 y1 k) ∧ Up S y0 y1 rb ∧ ∀ k, Up S y0 y1 k → k < wr.heap.size) := Lib.hid ⟨HD3.out.1.no HFj.out, HD3.out.2.1, HD3.out.2.2.1, fun k e => by have := HD3.out.2.2.2 k e; have := HFj.out.size; omega⟩
            clear hj4 hj
            go_wp2
            exact ⟨⟨k1, s2, O2, Up S y0 y1, L2, HK1.out.2, rfl, HK4, HI2, HS2, HOR2, HB4, HD4⟩, by have := HK1.out; simp [intOf]; omega⟩
      · have j0 : (k == 0) = false := by rw [beq_eq_false_iff_ne]; exact hk0
        by_cases hk1 : k = 1
        · have j1 : (k == 1) = true := by rw [hk1]; rfl
          clear hk0 hk1
          have HPC := Lib.hid (sd_list HKa.out.bk)
          have HRC := Lib.hid (fun (y1 : World) (hF : Fr O y0 y1) => rlist_any (up_lt' HDa.out.2 hF) s L HIV.out.wf (HDa.out.1.grow (hF.mono (fun k _ e => HD.out.2.1 k e))))
          obtain ⟨E, hE⟩ : ∃ E, E = s.listE := ⟨_, rfl⟩
          obtain ⟨s2, hs2⟩ : ∃ t, t = s.listS := ⟨_, rfl⟩
          obtain ⟨I, hI⟩ : ∃ I, I = s.listI := ⟨_, rfl⟩
          rw [← hI] at HPC HRC
          rw [← hE, ← hs2] at HPC HRC
          have HI2 : Hid (Bs.Hist (Ps.newS b) s2) := Lib.hid (by rw [hs2]; exact HI.out.lists HIV.out)
          have HS2 : Hid s2.Small := Lib.hid (by rw [hs2]; exact HSM.out.lists)
          clear hE hs2 hI
          go_wp2_with fail
          refine HPC.out.mono ?_
          rintro e y1 ⟨rfl, hTo⟩
          obtain ⟨O2, hK2, hO2, hF⟩ := HKa.out.to hTo
          have hB1 := HBa.out.fr hF HOR.out
          have hx1 := HXB.out.fr hF HXO.out
          have d0 := hx1.cell (i := 0) (v := .int .i64 k) rfl
          have d1 := hx1.cell (i := 1) (v := .int .i64 xa) rfl
          have d2 := hx1.cell (i := 2) (v := .int .i64 xb) rfl
          have d3 := hx1.cell (i := 3) (v := .int .u64 (xn : Int)) rfl
          have HLB := Lib.hid (load_rk hB1 (HDa.out.1.len HIV.out.wf))
          have HRY := Lib.hid (HRC.out y1 hF)
          have HO2 : Hid (∀ k, O2 k → Up S y0 y1 k) := Lib.hid (fun k e => (hO2 k e).elim (fun e => .inl (HD.out.2.1 k e)) (fun e2 => .inr ⟨e2, hK2.bk.lt k e⟩))
          have HU : Hid (∀ k, Up S y0 y1 k → k < y1.heap.size) := Lib.hid (up_lt' HDa.out.2 hF)
          have HK2 := Lib.hid hK2
          have HB1 := Lib.hid hB1
          have HOR2 : Hid (¬ O2 rb) := Lib.hid (fun e => (hO2 rb e).elim HOR.out (fun e => by have := HBa.out.lt; omega))
          clear hTo hK2 hO2 hF hB1 hx1
          go_wp2_with (refine wpList_load_eq rfl 37 _ rfl (.pointer (some ⟨rb, 0, none⟩)) (.agg L.toArray) rfl HLB.out ?_)
          refine HRY.out.mono ?_
          rintro e y2 ⟨L2, rfl, hD2, hF2⟩
          have HV2 := Lib.hid HK2.out.bk.inv
          obtain ⟨y3, h3, hB3, hF3⟩ := store_rk (HB1.out.fr hF2 id) (HDa.out.1.len HIV.out.wf) (hD2.len HV2.out.wf) hD2.one
          have HST := Lib.hid h3
          have HB3 := Lib.hid hB3
          have HK3 := Lib.hid ((HK2.out.no hF2).own hF3 (fun k hk e => HOR2.out (e ▸ hk)) (fun k e => e ▸ HRB.out.1))
          have HD3 : Hid (DB (Up S y0 y1) s2 L2 y3 ∧ (∀ k, O2 k → Up S y0 y1 k) ∧ Up S y0 y1 rb ∧ ∀ k, Up S y0 y1 k → k < y3.heap.size) := Lib.hid ⟨hD2.fr (hF3.mono (fun k _ e => e ▸ .inl HD.out.2.2.1)), HO2.out, .inl HD.out.2.2.1, fun k e => by have := HU.out k e; have := hF2.size; have := hF3.size; omega⟩
          clear hD2 hF2 h3 hB3 hF3
          go_wp2_with (refine wpList_store_eq rfl 37 _ _ rfl (.pointer (some ⟨rb, 0, none⟩)) (.agg L2.toArray) rfl rfl HST.out ?_)
          have HDO := Lib.hid (sd_done HK3.out.bk)
          obtain ⟨da, dc, h70, hda⟩ := HD3.out.1.doneAt HV2.out.wf
          have HL35 : Hid (∀ X, Fr No y3 X → (Instr.loadAt 35 (.pointer (some ⟨rb, 70, none⟩))).run Try.prog X = .ok (.slice da s2.done.length dc) X) := Lib.hid (fun X hX => by
            have := (HB3.out.fr hX id).cell h70
            simp [go_sem, this])
          have HDA := Lib.hid hda
          have HDL : Hid (s2.done.length ≤ 1000) := Lib.hid (by have := Bs.done_le HV2.out; omega)
          have HN1 : Hid (∀ X : World, (binOp .neq 3 (.int .i64 (I : Int)) (.int .i64 (I : Int))).run Try.prog X = .ok (.bool false) X) := Lib.hid (fun X => neq_i10 _ X)
          have HN2 : Hid (∀ X : World, (binOp .neq 42 (.int .i64 E) (.int .i64 E)).run Try.prog X = .ok (.bool false) X) := Lib.hid (fun X => neq_e10 _ X)
          clear h70 hda
          refine wp_region_held_drew (S := (fun X => Fr No y3 X)) (by kernel_rfl) ((Fr.refl No y3).drew) (fun hHeld => ?_)
          refine takeD (i := 0) (d := some 107) (v := ?_) rfl (by kernel_rfl) (by kernel_rfl) (by kernel_rfl) (by kernel_rfl) (fun _ _ _ h => h) (Or.inl ⟨by kernel_rfl, fun X hX => Or.inl ?_⟩) (by assumption) ?_
          rotate_left
          · first | (go_simp; done) | (go_simp; with_reducible rfl)
          (try simp only [Act.put]); (try simp only [List.setIfInBounds_toArray]); (try simp only [List.set_cons_succ]); (try simp only [List.set_cons_zero])
          refine takeD (i := 1) (d := some 108) (v := ?_) rfl (by kernel_rfl) (by kernel_rfl) (by kernel_rfl) (by kernel_rfl) (fun _ _ _ h => h) (Or.inl ⟨by kernel_rfl, fun X hX => Or.inl ?_⟩) (by assumption) ?_
          rotate_left
          · first | (go_simp; done) | (go_simp; with_reducible rfl)
          (try simp only [Act.put]); (try simp only [List.setIfInBounds_toArray]); (try simp only [List.set_cons_succ]); (try simp only [List.set_cons_zero])
          refine takeD (i := 2) (d := some 109) (v := .bool false) rfl (by kernel_rfl) (by kernel_rfl) (by kernel_rfl) (by kernel_rfl) (fun _ _ _ h => h) (Or.inl ⟨by kernel_rfl, fun X hX => Or.inl (exec_bin .neq 3 (.tmp 107) (.tmp 108) 3 rfl _ _ _ rfl rfl (by kernel_rfl) (HN1.out X))⟩) (by assumption) ?_
          (try simp only [Act.put]); (try simp only [List.setIfInBounds_toArray]); (try simp only [List.set_cons_succ]); (try simp only [List.set_cons_zero])
          refine takeD (i := 3) (d := some 110) (v := ?_) rfl (by kernel_rfl) (by kernel_rfl) (by kernel_rfl) (by kernel_rfl) (fun _ _ _ h => h) (Or.inl ⟨by kernel_rfl, fun X hX => Or.inl ?_⟩) (by assumption) ?_
          rotate_left
          · first | (go_simp; done) | (go_simp; with_reducible rfl)
          (try simp only [Act.put]); (try simp only [List.setIfInBounds_toArray]); (try simp only [List.set_cons_succ]); (try simp only [List.set_cons_zero])
          refine takeD (i := 4) (d := some 111) (v := ?_) rfl (by kernel_rfl) (by kernel_rfl) (by kernel_rfl) (by kernel_rfl) (fun _ _ _ h => h) (Or.inl ⟨by kernel_rfl, fun X hX => Or.inl ?_⟩) (by assumption) ?_
          rotate_left
          · first | (go_simp; done) | (go_simp; with_reducible rfl)
          (try simp only [Act.put]); (try simp only [List.setIfInBounds_toArray]); (try simp only [List.set_cons_succ]); (try simp only [List.set_cons_zero])
          refine takeD (i := 5) (d := some 112) (v := ?_) rfl (by kernel_rfl) (by kernel_rfl) (by kernel_rfl) (by kernel_rfl) (fun _ _ _ h => h) (Or.inl ⟨by kernel_rfl, fun X hX => Or.inl ?_⟩) (by assumption) ?_
          rotate_left
          · first | (go_simp; done) | (go_simp; with_reducible rfl)
          (try simp only [Act.put]); (try simp only [List.setIfInBounds_toArray]); (try simp only [List.set_cons_succ]); (try simp only [List.set_cons_zero])
          refine takeD (i := 6) (d := some 113) (v := .bool false) rfl (by kernel_rfl) (by kernel_rfl) (by kernel_rfl) (by kernel_rfl) (fun _ _ _ h => h) (Or.inl ⟨by kernel_rfl, fun X hX => Or.inl (exec_bin .neq 42 (.tmp 111) (.tmp 112) 42 rfl _ _ _ rfl rfl (by kernel_rfl) (HN2.out X))⟩) (by assumption) ?_
          (try simp only [Act.put]); (try simp only [List.setIfInBounds_toArray]); (try simp only [List.set_cons_succ]); (try simp only [List.set_cons_zero])
          refine takeD (i := 7) (d := some 114) (v := ?_) rfl (by kernel_rfl) (by kernel_rfl) (by kernel_rfl) (by kernel_rfl) (fun _ _ _ h => h) (Or.inl ⟨by kernel_rfl, fun X hX => Or.inl ?_⟩) (by assumption) ?_
          rotate_left
          · first | (go_simp; done) | (go_simp; with_reducible rfl)
          (try simp only [Act.put]); (try simp only [List.setIfInBounds_toArray]); (try simp only [List.set_cons_succ]); (try simp only [List.set_cons_zero])
          refine takeD (i := 8) (d := some 115) (v := ?_) rfl (by kernel_rfl) (by kernel_rfl) (by kernel_rfl) (by kernel_rfl) (fun _ _ _ h => h) (Or.inl ⟨by kernel_rfl, fun X hX => Or.inl ?_⟩) (by assumption) ?_
          rotate_left
          · first | (go_simp; done) | (go_simp; with_reducible rfl)
          (try simp only [Act.put]); (try simp only [List.setIfInBounds_toArray]); (try simp only [List.set_cons_succ]); (try simp only [List.set_cons_zero])
          refine takeD (i := 9) (d := some 116) (v := ?_) rfl (by kernel_rfl) (by kernel_rfl) (by kernel_rfl) (by kernel_rfl) (fun _ _ _ h => h) (Or.inl ⟨by kernel_rfl, fun X hX => Or.inl ?_⟩) (by assumption) ?_
          rotate_left
          · first | (go_simp; done) | (go_simp; with_reducible rfl)
          (try simp only [Act.put]); (try simp only [List.setIfInBounds_toArray]); (try simp only [List.set_cons_succ]); (try simp only [List.set_cons_zero])
          refine takeD (i := 11) (d := some 118) (v := ?_) rfl (by kernel_rfl) (by kernel_rfl) (by kernel_rfl) (by kernel_rfl) (fun _ _ _ h => h) (Or.inl ⟨by kernel_rfl, fun X hX => Or.inl ?_⟩) (by assumption) ?_
          rotate_left
          · first | (go_simp; done) | (go_simp; with_reducible rfl)
          (try simp only [Act.put]); (try simp only [List.setIfInBounds_toArray]); (try simp only [List.set_cons_succ]); (try simp only [List.set_cons_zero])
          refine takeD (i := 12) (d := some 119) (v := .slice da s2.done.length dc) rfl (by kernel_rfl) (by kernel_rfl) (by kernel_rfl) (by kernel_rfl) (fun _ _ _ h => h) (Or.inl ⟨by kernel_rfl, fun X hX => Or.inl (exec_load 35 (.tmp 118) rfl _ _ rfl (HL35.out X hX))⟩) (by assumption) ?_
          (try simp only [Act.put]); (try simp only [List.setIfInBounds_toArray]); (try simp only [List.set_cons_succ]); (try simp only [List.set_cons_zero])
          refine wpAnyH_ready (rs := [10]) (by kernel_rfl) (by simp) ?_
          refine AllReadyH.cons rfl (fun K hK => ?_) AllReadyH.nil
          rw [if_pos (by kernel_rfl)]
          go_simp
          refine (sd_done (HK3.out.no (Fr.refl No y3).drew).bk).mono ?_
          rintro e v1 ⟨dv1, rfl, hO, hv⟩
          obtain ⟨oa, oc, rfl, hoc⟩ := hO
          have V1 := Lib.hid ((Fr.refl No y3).drew.trans hv)
          have OC := Lib.hid hoc
          clear hv hoc
          refine hK.out _ _ (V1.out) (fun hHeld => ?_)
          clear hK K
          (try simp only [Act.put]); (try simp only [List.setIfInBounds_toArray]); (try simp only [List.set_cons_succ]); (try simp only [List.set_cons_zero])
          refine wpAnyH_ready (rs := [13]) (by kernel_rfl) (by simp) ?_
          refine AllReadyH.cons rfl (fun K hK => ?_) AllReadyH.nil
          rw [if_pos (by kernel_rfl)]
          go_simp
          refine (rsameI_any oa da _ oc dc (fun i => (s2.done.getD i 0 : Int)) _ HDL.out OC.out (HDA.out _ V1.out)).mono ?_
          rintro e v2 ⟨rfl, hv⟩
          have V2 := Lib.hid (V1.out.trans hv)
          clear hv
          refine hK.out _ _ (V2.out) (fun hHeld => ?_)
          clear hK K
          (try simp only [Act.put]); (try simp only [List.setIfInBounds_toArray]); (try simp only [List.set_cons_succ]); (try simp only [List.set_cons_zero])
          refine takeD (i := 14) (d := some 121) (v := ?_) rfl (by kernel_rfl) (by kernel_rfl) (by kernel_rfl) (by kernel_rfl) (fun _ _ _ h => h) (Or.inl ⟨by kernel_rfl, fun X hX => Or.inl ?_⟩) (by assumption) ?_
          rotate_left
          · first | (go_simp; done) | (go_simp; with_reducible rfl)
          (try simp only [Act.put]); (try simp only [List.setIfInBounds_toArray]); (try simp only [List.set_cons_succ]); (try simp only [List.set_cons_zero])
          refine takeD (i := 15) (d := some 122) (v := ?_) rfl (by kernel_rfl) (by kernel_rfl) (by kernel_rfl) (by kernel_rfl) (fun _ _ _ h => h) (Or.inl ⟨by kernel_rfl, fun X hX => Or.inl ?_⟩) (by assumption) ?_
          rotate_left
          · first | (go_simp; done) | (go_simp; with_reducible rfl)
          (try simp only [Act.put]); (try simp only [List.setIfInBounds_toArray]); (try simp only [List.set_cons_succ]); (try simp only [List.set_cons_zero])
          refine wpAnyH_done (by kernel_rfl) ?_ _
          have HH := Lib.hid hHeld
          clear hHeld
          go_wp2_with fail
          go_loopw [14] (fun jv wr2 => ∃ j : Nat, j ≤ 4 ∧ jv = .int .i64 j ∧ Hid (Fr No y3 wr2)) (fun jv _ => 4 - (intOf jv).toNat)
          case atStart => exact ⟨0, by omega, rfl, HH⟩
          clear HH
          case round =>
            obtain ⟨j, hj, rfl, HFj⟩ := hrel
            by_cases hj4 : j < 4
            · have t6 : (j : Int) < 4 := by omega
              have t6' : j < 4 := hj4
              obtain ⟨k2, hk2⟩ : ∃ x, x = j + 1 := ⟨_, rfl⟩
              have HJ2 : Hid (k2 = j + 1 ∧ k2 ≤ 4) := Lib.hid ⟨hk2, by omega⟩
              have s2' : (j : Int) + 1 = (k2 : Int) := by omega
              have l2 : IntKind.i64.wrap (k2 : Int) = (k2 : Int) := IntWalk.i64_in _ (by omega)
              have HHC := Lib.hid (fun X (hX : Bk O2 p s2 X) => sd_holder hX (j : Int) (wf_small (by omega)))
              obtain ⟨hv, hhv⟩ : ∃ h, h = s2.hold j := ⟨_, rfl⟩
              rw [show s2.holdV (j : Int) = hv by unfold Bs.holdV; rw [if_pos (by omega), Int.toNat_natCast, hhv]] at HHC
              have h66 := HD3.out.1.holdAt HV2.out.wf hj4
              rw [← hhv] at h66
              have HCX : Hid (∀ X, Fr No wr X → (Instr.loadAt 3 (.pointer (some ⟨rb, 66 + j, none⟩))).run Try.prog X = .ok (.int .i64 hv) X) := Lib.hid (fun X hX => by
                have := (HB3.out.fr (HFj.out.trans hX) id).cell h66
                simp [go_sem, this])
              have HN3 : Hid (∀ X : World, (binOp .neq 3 (.int .i64 hv) (.int .i64 hv)).run Try.prog X = .ok (.bool false) X) := Lib.hid (fun X => neq_i10 _ X)
              clear hj hj4 hk2 hhv h66
              go_wp2_with fail
              refine wp_region_held_drew (S := (fun X => Fr No wr X)) (by kernel_rfl) ((Fr.refl No wr).drew) (fun hHeld => ?_)
              refine takeD (i := 0) (d := some 127) (v := ?_) rfl (by kernel_rfl) (by kernel_rfl) (by kernel_rfl) (by kernel_rfl) (fun _ _ _ h => h) (Or.inl ⟨by kernel_rfl, fun X hX => Or.inl ?_⟩) (by assumption) ?_
              rotate_left
              · first | (go_simp; done) | (go_simp; with_reducible rfl)
              (try simp only [Act.put]); (try simp only [List.setIfInBounds_toArray]); (try simp only [List.set_cons_succ]); (try simp only [List.set_cons_zero])
              refine takeD (i := 1) (d := some 128) (v := ?_) rfl (by kernel_rfl) (by kernel_rfl) (by kernel_rfl) (by kernel_rfl) (fun _ _ _ h => h) (Or.inl ⟨by kernel_rfl, fun X hX => Or.inl ?_⟩) (by assumption) ?_
              rotate_left
              · first | (go_simp; done) | (go_simp; with_reducible rfl)
              (try simp only [Act.put]); (try simp only [List.setIfInBounds_toArray]); (try simp only [List.set_cons_succ]); (try simp only [List.set_cons_zero])
              refine takeD (i := 3) (d := some 130) (v := ?_) rfl (by kernel_rfl) (by kernel_rfl) (by kernel_rfl) (by kernel_rfl) (fun _ _ _ h => h) (Or.inl ⟨by kernel_rfl, fun X hX => Or.inl ?_⟩) (by assumption) ?_
              rotate_left
              · first | (go_simp; done) | (go_simp; with_reducible rfl)
              (try simp only [Act.put]); (try simp only [List.setIfInBounds_toArray]); (try simp only [List.set_cons_succ]); (try simp only [List.set_cons_zero])
              refine takeD (i := 4) (d := some 131) (v := ?_) rfl (by kernel_rfl) (by kernel_rfl) (by kernel_rfl) (by kernel_rfl) (fun _ _ _ h => h) (Or.inl ⟨by kernel_rfl, fun X hX => Or.inl ?_⟩) (by assumption) ?_
              rotate_left
              · first | (go_simp; done) | (go_simp; with_reducible rfl)
              (try simp only [Act.put]); (try simp only [List.setIfInBounds_toArray]); (try simp only [List.set_cons_succ]); (try simp only [List.set_cons_zero])
              refine takeD (i := 5) (d := some 132) (v := ?_) rfl (by kernel_rfl) (by kernel_rfl) (by kernel_rfl) (by kernel_rfl) (fun _ _ _ h => h) (Or.inl ⟨by kernel_rfl, fun X hX => Or.inl ?_⟩) (by assumption) ?_
              rotate_left
              · first | (go_simp; done) | (go_simp; with_reducible rfl)
              (try simp only [Act.put]); (try simp only [List.setIfInBounds_toArray]); (try simp only [List.set_cons_succ]); (try simp only [List.set_cons_zero])
              refine takeD (i := 6) (d := some 133) (v := .int .i64 hv) rfl (by kernel_rfl) (by kernel_rfl) (by kernel_rfl) (by kernel_rfl) (fun _ _ _ h => h) (Or.inl ⟨by kernel_rfl, fun X hX => Or.inl (exec_load 3 (.tmp 132) rfl _ _ rfl (HCX.out X hX))⟩) (by assumption) ?_
              (try simp only [Act.put]); (try simp only [List.setIfInBounds_toArray]); (try simp only [List.set_cons_succ]); (try simp only [List.set_cons_zero])
              refine wpAnyH_ready (rs := [2]) (by kernel_rfl) (by simp) ?_
              refine AllReadyH.cons rfl (fun K hK => ?_) AllReadyH.nil
              rw [if_pos (by kernel_rfl)]
              go_simp
              refine (HHC.out _ (HK3.out.no (HFj.out.trans (Fr.refl No wr).drew)).bk).mono ?_
              rintro e yv ⟨rfl, hv'⟩
              have FV := Lib.hid (hHeld.trans hv')
              clear hv'
              refine hK.out _ _ (FV.out) (fun hHeld => ?_)
              clear hK K
              (try simp only [Act.put]); (try simp only [List.setIfInBounds_toArray]); (try simp only [List.set_cons_succ]); (try simp only [List.set_cons_zero])
              refine takeD (i := 7) (d := some 134) (v := .bool false) rfl (by kernel_rfl) (by kernel_rfl) (by kernel_rfl) (by kernel_rfl) (fun _ _ _ h => h) (Or.inl ⟨by kernel_rfl, fun X hX => Or.inl (exec_bin .neq 3 (.tmp 129) (.tmp 133) 3 rfl _ _ _ rfl rfl (by kernel_rfl) (HN3.out X))⟩) (by assumption) ?_
              (try simp only [Act.put]); (try simp only [List.setIfInBounds_toArray]); (try simp only [List.set_cons_succ]); (try simp only [List.set_cons_zero])
              refine wpAnyH_done (by kernel_rfl) ?_ _
              clear hHeld
              go_wp2
              exact ⟨⟨k2, HJ2.out.2, rfl, Lib.hid (HFj.out.trans FV.out)⟩, by have := HJ2.out; simp [intOf]; omega⟩
            · have t6 : ¬ (j : Int) < 4 := by omega
              have t6' : ¬ j < 4 := hj4
              have HK4 := Lib.hid (HK3.out.no HFj.out)
              have HB4 := Lib.hid (HB3.out.fr HFj.out id)
              have HD4 : Hid (DB (Up S y0 y1) s2 L2 wr ∧ (∀ k, O2 k → Up S y0 y1 k) ∧ Up S y0 y1 rb ∧ ∀ k, Up S y0 y1 k → k < wr.heap.size) := Lib.hid ⟨HD3.out.1.no HFj.out, HD3.out.2.1, HD3.out.2.2.1, fun k e => by have := HD3.out.2.2.2 k e; have := HFj.out.size; omega⟩
              clear hj4 hj
              go_wp2
              exact ⟨⟨k1, s2, O2, Up S y0 y1, L2, HK1.out.2, rfl, HK4, HI2, HS2, HOR2, HB4, HD4⟩, by have := HK1.out; simp [intOf]; omega⟩
        · have j1 : (k == 1) = false := by rw [beq_eq_false_iff_ne]; exact hk1
          clear hk0 hk1
          have HPC := Lib.hid (sd_step HKa.out.bk xa HWA.out)
          have HRC := Lib.hid (fun (y1 : World) (hF : Fr O y0 y1) => rstep_any (up_lt' HDa.out.2 hF) s L HIV.out (HDa.out.1.grow (hF.mono (fun k _ e => HD.out.2.1 k e))) HSM.out xa)
          obtain ⟨E, hE⟩ : ∃ E, E = s.stepE xa := ⟨_, rfl⟩
          obtain ⟨s2, hs2⟩ : ∃ t, t = s.stepS xa := ⟨_, rfl⟩
          rw [← hE, ← hs2] at HPC HRC
          have HI2 : Hid (Bs.Hist (Ps.newS b) s2) := Lib.hid (by rw [hs2]; exact HI.out.step HIV.out _)
          have HS2 : Hid s2.Small := Lib.hid (by rw [hs2]; exact small_step10 HSM.out _)
          clear hE hs2
          go_wp2_with fail
          refine HPC.out.mono ?_
          rintro e y1 ⟨rfl, hTo⟩
          obtain ⟨O2, hK2, hO2, hF⟩ := HKa.out.to hTo
          have hB1 := HBa.out.fr hF HOR.out
          have hx1 := HXB.out.fr hF HXO.out
          have d0 := hx1.cell (i := 0) (v := .int .i64 k) rfl
          have d1 := hx1.cell (i := 1) (v := .int .i64 xa) rfl
          have d2 := hx1.cell (i := 2) (v := .int .i64 xb) rfl
          have d3 := hx1.cell (i := 3) (v := .int .u64 (xn : Int)) rfl
          have HLB := Lib.hid (load_rk hB1 (HDa.out.1.len HIV.out.wf))
          have HRY := Lib.hid (HRC.out y1 hF)
          have HO2 : Hid (∀ k, O2 k → Up S y0 y1 k) := Lib.hid (fun k e => (hO2 k e).elim (fun e => .inl (HD.out.2.1 k e)) (fun e2 => .inr ⟨e2, hK2.bk.lt k e⟩))
          have HU : Hid (∀ k, Up S y0 y1 k → k < y1.heap.size) := Lib.hid (up_lt' HDa.out.2 hF)
          have HK2 := Lib.hid hK2
          have HB1 := Lib.hid hB1
          have HOR2 : Hid (¬ O2 rb) := Lib.hid (fun e => (hO2 rb e).elim HOR.out (fun e => by have := HBa.out.lt; omega))
          clear hTo hK2 hO2 hF hB1 hx1
          go_wp2_with (refine wpList_load_eq rfl 37 _ rfl (.pointer (some ⟨rb, 0, none⟩)) (.agg L.toArray) rfl HLB.out ?_)
          refine HRY.out.mono ?_
          rintro e y2 ⟨L2, rfl, hD2, hF2⟩
          have HV2 := Lib.hid HK2.out.bk.inv
          obtain ⟨y3, h3, hB3, hF3⟩ := store_rk (HB1.out.fr hF2 id) (HDa.out.1.len HIV.out.wf) (hD2.len HV2.out.wf) hD2.one
          have HST := Lib.hid h3
          have HB3 := Lib.hid hB3
          have HK3 := Lib.hid ((HK2.out.no hF2).own hF3 (fun k hk e => HOR2.out (e ▸ hk)) (fun k e => e ▸ HRB.out.1))
          have HD3 : Hid (DB (Up S y0 y1) s2 L2 y3 ∧ (∀ k, O2 k → Up S y0 y1 k) ∧ Up S y0 y1 rb ∧ ∀ k, Up S y0 y1 k → k < y3.heap.size) := Lib.hid ⟨hD2.fr (hF3.mono (fun k _ e => e ▸ .inl HD.out.2.2.1)), HO2.out, .inl HD.out.2.2.1, fun k e => by have := HU.out k e; have := hF2.size; have := hF3.size; omega⟩
          clear hD2 hF2 h3 hB3 hF3
          go_wp2_with (refine wpList_store_eq rfl 37 _ _ rfl (.pointer (some ⟨rb, 0, none⟩)) (.agg L2.toArray) rfl rfl HST.out ?_)
          have HDO := Lib.hid (sd_done HK3.out.bk)
          obtain ⟨da, dc, h70, hda⟩ := HD3.out.1.doneAt HV2.out.wf
          have HL35 : Hid (∀ X, Fr No y3 X → (Instr.loadAt 35 (.pointer (some ⟨rb, 70, none⟩))).run Try.prog X = .ok (.slice da s2.done.length dc) X) := Lib.hid (fun X hX => by
            have := (HB3.out.fr hX id).cell h70
            simp [go_sem, this])
          have HDA := Lib.hid hda
          have HDL : Hid (s2.done.length ≤ 1000) := Lib.hid (by have := Bs.done_le HV2.out; omega)
          have HN1 : Hid (∀ X : World, (binOp .neq 3 (.int .i64 0) (.int .i64 0)).run Try.prog X = .ok (.bool false) X) := Lib.hid (fun X => neq_i10 _ X)
          have HN2 : Hid (∀ X : World, (binOp .neq 42 (.int .i64 E) (.int .i64 E)).run Try.prog X = .ok (.bool false) X) := Lib.hid (fun X => neq_e10 _ X)
          clear h70 hda
          refine wp_region_held_drew (S := (fun X => Fr No y3 X)) (by kernel_rfl) ((Fr.refl No y3).drew) (fun hHeld => ?_)
          refine takeD (i := 0) (d := some 107) (v := ?_) rfl (by kernel_rfl) (by kernel_rfl) (by kernel_rfl) (by kernel_rfl) (fun _ _ _ h => h) (Or.inl ⟨by kernel_rfl, fun X hX => Or.inl ?_⟩) (by assumption) ?_
          rotate_left
          · first | (go_simp; done) | (go_simp; with_reducible rfl)
          (try simp only [Act.put]); (try simp only [List.setIfInBounds_toArray]); (try simp only [List.set_cons_succ]); (try simp only [List.set_cons_zero])
          refine takeD (i := 1) (d := some 108) (v := ?_) rfl (by kernel_rfl) (by kernel_rfl) (by kernel_rfl) (by kernel_rfl) (fun _ _ _ h => h) (Or.inl ⟨by kernel_rfl, fun X hX => Or.inl ?_⟩) (by assumption) ?_
          rotate_left
          · first | (go_simp; done) | (go_simp; with_reducible rfl)
          (try simp only [Act.put]); (try simp only [List.setIfInBounds_toArray]); (try simp only [List.set_cons_succ]); (try simp only [List.set_cons_zero])
          refine takeD (i := 2) (d := some 109) (v := .bool false) rfl (by kernel_rfl) (by kernel_rfl) (by kernel_rfl) (by kernel_rfl) (fun _ _ _ h => h) (Or.inl ⟨by kernel_rfl, fun X hX => Or.inl (exec_bin .neq 3 (.tmp 107) (.tmp 108) 3 rfl _ _ _ rfl rfl (by kernel_rfl) (HN1.out X))⟩) (by assumption) ?_
          (try simp only [Act.put]); (try simp only [List.setIfInBounds_toArray]); (try simp only [List.set_cons_succ]); (try simp only [List.set_cons_zero])
          refine takeD (i := 3) (d := some 110) (v := ?_) rfl (by kernel_rfl) (by kernel_rfl) (by kernel_rfl) (by kernel_rfl) (fun _ _ _ h => h) (Or.inl ⟨by kernel_rfl, fun X hX => Or.inl ?_⟩) (by assumption) ?_
          rotate_left
          · first | (go_simp; done) | (go_simp; with_reducible rfl)
          (try simp only [Act.put]); (try simp only [List.setIfInBounds_toArray]); (try simp only [List.set_cons_succ]); (try simp only [List.set_cons_zero])
          refine takeD (i := 4) (d := some 111) (v := ?_) rfl (by kernel_rfl) (by kernel_rfl) (by kernel_rfl) (by kernel_rfl) (fun _ _ _ h => h) (Or.inl ⟨by kernel_rfl, fun X hX => Or.inl ?_⟩) (by assumption) ?_
          rotate_left
          · first | (go_simp; done) | (go_simp; with_reducible rfl)
          (try simp only [Act.put]); (try simp only [List.setIfInBounds_toArray]); (try simp only [List.set_cons_succ]); (try simp only [List.set_cons_zero])
          refine takeD (i := 5) (d := some 112) (v := ?_) rfl (by kernel_rfl) (by kernel_rfl) (by kernel_rfl) (by kernel_rfl) (fun _ _ _ h => h) (Or.inl ⟨by kernel_rfl, fun X hX => Or.inl ?_⟩) (by assumption) ?_
          rotate_left
          · first | (go_simp; done) | (go_simp; with_reducible rfl)
          (try simp only [Act.put]); (try simp only [List.setIfInBounds_toArray]); (try simp only [List.set_cons_succ]); (try simp only [List.set_cons_zero])
          refine takeD (i := 6) (d := some 113) (v := .bool false) rfl (by kernel_rfl) (by kernel_rfl) (by kernel_rfl) (by kernel_rfl) (fun _ _ _ h => h) (Or.inl ⟨by kernel_rfl, fun X hX => Or.inl (exec_bin .neq 42 (.tmp 111) (.tmp 112) 42 rfl _ _ _ rfl rfl (by kernel_rfl) (HN2.out X))⟩) (by assumption) ?_
          (try simp only [Act.put]); (try simp only [List.setIfInBounds_toArray]); (try simp only [List.set_cons_succ]); (try simp only [List.set_cons_zero])
          refine takeD (i := 7) (d := some 114) (v := ?_) rfl (by kernel_rfl) (by kernel_rfl) (by kernel_rfl) (by kernel_rfl) (fun _ _ _ h => h) (Or.inl ⟨by kernel_rfl, fun X hX => Or.inl ?_⟩) (by assumption) ?_
          rotate_left
          · first | (go_simp; done) | (go_simp; with_reducible rfl)
          (try simp only [Act.put]); (try simp only [List.setIfInBounds_toArray]); (try simp only [List.set_cons_succ]); (try simp only [List.set_cons_zero])
          refine takeD (i := 8) (d := some 115) (v := ?_) rfl (by kernel_rfl) (by kernel_rfl) (by kernel_rfl) (by kernel_rfl) (fun _ _ _ h => h) (Or.inl ⟨by kernel_rfl, fun X hX => Or.inl ?_⟩) (by assumption) ?_
          rotate_left
          · first | (go_simp; done) | (go_simp; with_reducible rfl)
          (try simp only [Act.put]); (try simp only [List.setIfInBounds_toArray]); (try simp only [List.set_cons_succ]); (try simp only [List.set_cons_zero])
          refine takeD (i := 9) (d := some 116) (v := ?_) rfl (by kernel_rfl) (by kernel_rfl) (by kernel_rfl) (by kernel_rfl) (fun _ _ _ h => h) (Or.inl ⟨by kernel_rfl, fun X hX => Or.inl ?_⟩) (by assumption) ?_
          rotate_left
          · first | (go_simp; done) | (go_simp; with_reducible rfl)
          (try simp only [Act.put]); (try simp only [List.setIfInBounds_toArray]); (try simp only [List.set_cons_succ]); (try simp only [List.set_cons_zero])
          refine takeD (i := 11) (d := some 118) (v := ?_) rfl (by kernel_rfl) (by kernel_rfl) (by kernel_rfl) (by kernel_rfl) (fun _ _ _ h => h) (Or.inl ⟨by kernel_rfl, fun X hX => Or.inl ?_⟩) (by assumption) ?_
          rotate_left
          · first | (go_simp; done) | (go_simp; with_reducible rfl)
          (try simp only [Act.put]); (try simp only [List.setIfInBounds_toArray]); (try simp only [List.set_cons_succ]); (try simp only [List.set_cons_zero])
          refine takeD (i := 12) (d := some 119) (v := .slice da s2.done.length dc) rfl (by kernel_rfl) (by kernel_rfl) (by kernel_rfl) (by kernel_rfl) (fun _ _ _ h => h) (Or.inl ⟨by kernel_rfl, fun X hX => Or.inl (exec_load 35 (.tmp 118) rfl _ _ rfl (HL35.out X hX))⟩) (by assumption) ?_
          (try simp only [Act.put]); (try simp only [List.setIfInBounds_toArray]); (try simp only [List.set_cons_succ]); (try simp only [List.set_cons_zero])
          refine wpAnyH_ready (rs := [10]) (by kernel_rfl) (by simp) ?_
          refine AllReadyH.cons rfl (fun K hK => ?_) AllReadyH.nil
          rw [if_pos (by kernel_rfl)]
          go_simp
          refine (sd_done (HK3.out.no (Fr.refl No y3).drew).bk).mono ?_
          rintro e v1 ⟨dv1, rfl, hO, hv⟩
          obtain ⟨oa, oc, rfl, hoc⟩ := hO
          have V1 := Lib.hid ((Fr.refl No y3).drew.trans hv)
          have OC := Lib.hid hoc
          clear hv hoc
          refine hK.out _ _ (V1.out) (fun hHeld => ?_)
          clear hK K
          (try simp only [Act.put]); (try simp only [List.setIfInBounds_toArray]); (try simp only [List.set_cons_succ]); (try simp only [List.set_cons_zero])
          refine wpAnyH_ready (rs := [13]) (by kernel_rfl) (by simp) ?_
          refine AllReadyH.cons rfl (fun K hK => ?_) AllReadyH.nil
          rw [if_pos (by kernel_rfl)]
          go_simp
          refine (rsameI_any oa da _ oc dc (fun i => (s2.done.getD i 0 : Int)) _ HDL.out OC.out (HDA.out _ V1.out)).mono ?_
          rintro e v2 ⟨rfl, hv⟩
          have V2 := Lib.hid (V1.out.trans hv)
          clear hv
          refine hK.out _ _ (V2.out) (fun hHeld => ?_)
          clear hK K
          (try simp only [Act.put]); (try simp only [List.setIfInBounds_toArray]); (try simp only [List.set_cons_succ]); (try simp only [List.set_cons_zero])
          refine takeD (i := 14) (d := some 121) (v := ?_) rfl (by kernel_rfl) (by kernel_rfl) (by kernel_rfl) (by kernel_rfl) (fun _ _ _ h => h) (Or.inl ⟨by kernel_rfl, fun X hX => Or.inl ?_⟩) (by assumption) ?_
          rotate_left
          · first | (go_simp; done) | (go_simp; with_reducible rfl)
          (try simp only [Act.put]); (try simp only [List.setIfInBounds_toArray]); (try simp only [List.set_cons_succ]); (try simp only [List.set_cons_zero])
          refine takeD (i := 15) (d := some 122) (v := ?_) rfl (by kernel_rfl) (by kernel_rfl) (by kernel_rfl) (by kernel_rfl) (fun _ _ _ h => h) (Or.inl ⟨by kernel_rfl, fun X hX => Or.inl ?_⟩) (by assumption) ?_
          rotate_left
          · first | (go_simp; done) | (go_simp; with_reducible rfl)
          (try simp only [Act.put]); (try simp only [List.setIfInBounds_toArray]); (try simp only [List.set_cons_succ]); (try simp only [List.set_cons_zero])
          refine wpAnyH_done (by kernel_rfl) ?_ _
          have HH := Lib.hid hHeld
          clear hHeld
          go_wp2_with fail
          go_loopw [14] (fun jv wr2 => ∃ j : Nat, j ≤ 4 ∧ jv = .int .i64 j ∧ Hid (Fr No y3 wr2)) (fun jv _ => 4 - (intOf jv).toNat)
          case atStart => exact ⟨0, by omega, rfl, HH⟩
          clear HH
          case round =>
            obtain ⟨j, hj, rfl, HFj⟩ := hrel
            by_cases hj4 : j < 4
            · have t6 : (j : Int) < 4 := by omega
              have t6' : j < 4 := hj4
              obtain ⟨k2, hk2⟩ : ∃ x, x = j + 1 := ⟨_, rfl⟩
              have HJ2 : Hid (k2 = j + 1 ∧ k2 ≤ 4) := Lib.hid ⟨hk2, by omega⟩
              have s2' : (j : Int) + 1 = (k2 : Int) := by omega
              have l2 : IntKind.i64.wrap (k2 : Int) = (k2 : Int) := IntWalk.i64_in _ (by omega)
              have HHC := Lib.hid (fun X (hX : Bk O2 p s2 X) => sd_holder hX (j : Int) (wf_small (by omega)))
              obtain ⟨hv, hhv⟩ : ∃ h, h = s2.hold j := ⟨_, rfl⟩
              rw [show s2.holdV (j : Int) = hv by unfold Bs.holdV; rw [if_pos (by omega), Int.toNat_natCast, hhv]] at HHC
              have h66 := HD3.out.1.holdAt HV2.out.wf hj4
              rw [← hhv] at h66
              have HCX : Hid (∀ X, Fr No wr X → (Instr.loadAt 3 (.pointer (some ⟨rb, 66 + j, none⟩))).run Try.prog X = .ok (.int .i64 hv) X) := Lib.hid (fun X hX => by
                have := (HB3.out.fr (HFj.out.trans hX) id).cell h66
                simp [go_sem, this])
              have HN3 : Hid (∀ X : World, (binOp .neq 3 (.int .i64 hv) (.int .i64 hv)).run Try.prog X = .ok (.bool false) X) := Lib.hid (fun X => neq_i10 _ X)
              clear hj hj4 hk2 hhv h66
              go_wp2_with fail
              refine wp_region_held_drew (S := (fun X => Fr No wr X)) (by kernel_rfl) ((Fr.refl No wr).drew) (fun hHeld => ?_)
              refine takeD (i := 0) (d := some 127) (v := ?_) rfl (by kernel_rfl) (by kernel_rfl) (by kernel_rfl) (by kernel_rfl) (fun _ _ _ h => h) (Or.inl ⟨by kernel_rfl, fun X hX => Or.inl ?_⟩) (by assumption) ?_
              rotate_left
              · first | (go_simp; done) | (go_simp; with_reducible rfl)
              (try simp only [Act.put]); (try simp only [List.setIfInBounds_toArray]); (try simp only [List.set_cons_succ]); (try simp only [List.set_cons_zero])
              refine takeD (i := 1) (d := some 128) (v := ?_) rfl (by kernel_rfl) (by kernel_rfl) (by kernel_rfl) (by kernel_rfl) (fun _ _ _ h => h) (Or.inl ⟨by kernel_rfl, fun X hX => Or.inl ?_⟩) (by assumption) ?_
              rotate_left
              · first | (go_simp; done) | (go_simp; with_reducible rfl)
              (try simp only [Act.put]); (try simp only [List.setIfInBounds_toArray]); (try simp only [List.set_cons_succ]); (try simp only [List.set_cons_zero])
              refine takeD (i := 3) (d := some 130) (v := ?_) rfl (by kernel_rfl) (by kernel_rfl) (by kernel_rfl) (by kernel_rfl) (fun _ _ _ h => h) (Or.inl ⟨by kernel_rfl, fun X hX => Or.inl ?_⟩) (by assumption) ?_
              rotate_left
              · first | (go_simp; done) | (go_simp; with_reducible rfl)
              (try simp only [Act.put]); (try simp only [List.setIfInBounds_toArray]); (try simp only [List.set_cons_succ]); (try simp only [List.set_cons_zero])
              refine takeD (i := 4) (d := some 131) (v := ?_) rfl (by kernel_rfl) (by kernel_rfl) (by kernel_rfl) (by kernel_rfl) (fun _ _ _ h => h) (Or.inl ⟨by kernel_rfl, fun X hX => Or.inl ?_⟩) (by assumption) ?_
              rotate_left
              · first | (go_simp; done) | (go_simp; with_reducible rfl)
              (try simp only [Act.put]); (try simp only [List.setIfInBounds_toArray]); (try simp only [List.set_cons_succ]); (try simp only [List.set_cons_zero])
              refine takeD (i := 5) (d := some 132) (v := ?_) rfl (by kernel_rfl) (by kernel_rfl) (by kernel_rfl) (by kernel_rfl) (fun _ _ _ h => h) (Or.inl ⟨by kernel_rfl, fun X hX => Or.inl ?_⟩) (by assumption) ?_
              rotate_left
              · first | (go_simp; done) | (go_simp; with_reducible rfl)
              (try simp only [Act.put]); (try simp only [List.setIfInBounds_toArray]); (try simp only [List.set_cons_succ]); (try simp only [List.set_cons_zero])
              refine takeD (i := 6) (d := some 133) (v := .int .i64 hv) rfl (by kernel_rfl) (by kernel_rfl) (by kernel_rfl) (by kernel_rfl) (fun _ _ _ h => h) (Or.inl ⟨by kernel_rfl, fun X hX => Or.inl (exec_load 3 (.tmp 132) rfl _ _ rfl (HCX.out X hX))⟩) (by assumption) ?_
              (try simp only [Act.put]); (try simp only [List.setIfInBounds_toArray]); (try simp only [List.set_cons_succ]); (try simp only [List.set_cons_zero])
              refine wpAnyH_ready (rs := [2]) (by kernel_rfl) (by simp) ?_
              refine AllReadyH.cons rfl (fun K hK => ?_) AllReadyH.nil
              rw [if_pos (by kernel_rfl)]
              go_simp
              refine (HHC.out _ (HK3.out.no (HFj.out.trans (Fr.refl No wr).drew)).bk).mono ?_
              rintro e yv ⟨rfl, hv'⟩
              have FV := Lib.hid (hHeld.trans hv')
              clear hv'
              refine hK.out _ _ (FV.out) (fun hHeld => ?_)
              clear hK K
              (try simp only [Act.put]); (try simp only [List.setIfInBounds_toArray]); (try simp only [List.set_cons_succ]); (try simp only [List.set_cons_zero])
              refine takeD (i := 7) (d := some 134) (v := .bool false) rfl (by kernel_rfl) (by kernel_rfl) (by kernel_rfl) (by kernel_rfl) (fun _ _ _ h => h) (Or.inl ⟨by kernel_rfl, fun X hX => Or.inl (exec_bin .neq 3 (.tmp 129) (.tmp 133) 3 rfl _ _ _ rfl rfl (by kernel_rfl) (HN3.out X))⟩) (by assumption) ?_
              (try simp only [Act.put]); (try simp only [List.setIfInBounds_toArray]); (try simp only [List.set_cons_succ]); (try simp only [List.set_cons_zero])
              refine wpAnyH_done (by kernel_rfl) ?_ _
              clear hHeld
              go_wp2
              exact ⟨⟨k2, HJ2.out.2, rfl, Lib.hid (HFj.out.trans FV.out)⟩, by have := HJ2.out; simp [intOf]; omega⟩
            · have t6 : ¬ (j : Int) < 4 := by omega
              have t6' : ¬ j < 4 := hj4
              have HK4 := Lib.hid (HK3.out.no HFj.out)
              have HB4 := Lib.hid (HB3.out.fr HFj.out id)
              have HD4 : Hid (DB (Up S y0 y1) s2 L2 wr ∧ (∀ k, O2 k → Up S y0 y1 k) ∧ Up S y0 y1 rb ∧ ∀ k, Up S y0 y1 k → k < wr.heap.size) := Lib.hid ⟨HD3.out.1.no HFj.out, HD3.out.2.1, HD3.out.2.2.1, fun k e => by have := HD3.out.2.2.2 k e; have := HFj.out.size; omega⟩
              clear hj4 hj
              go_wp2
              exact ⟨⟨k1, s2, O2, Up S y0 y1, L2, HK1.out.2, rfl, HK4, HI2, HS2, HOR2, HB4, HD4⟩, by have := HK1.out; simp [intOf]; omega⟩
    · have t3 : ¬ (i : Int) < (m : Int) := by omega
      clear hlt hi
      have HIV := Lib.hid HK.out.bk.inv
      obtain ⟨ta, tc, h65, htk⟩ := HD.out.1.taskAt HIV.out.wf
      obtain ⟨pa, pc, h0, hpu⟩ := HD.out.1.purAt HIV.out.wf
      obtain ⟨n2, hn2⟩ : ∃ x, x = s.t.length := ⟨_, rfl⟩
      have HN2 : Hid (n2 = s.t.length ∧ n2 ≤ 32) := Lib.hid ⟨hn2, by rw [hn2]; exact HIV.out.len⟩
      rw [← hn2] at h65
      have H65 := Lib.hid h65
      have H0 := Lib.hid h0
      have HTK := Lib.hid htk
      have HPU := Lib.hid hpu
      have c65 := HB.out.cell h65
      clear h65 htk h0 hpu hn2
      go_wp2_with fail
      go_loopw [15] (fun c wr3 => ∃ j : Nat, j ≤ n2 ∧ c = .int .i64 j ∧ Hid (Fr No wr wr3)) (fun c _ => n2 - (intOf c).toNat)
      case atStart => exact ⟨0, by omega, rfl, Lib.hid (Fr.refl _ _)⟩
      clear c65
      case round =>
        obtain ⟨j, hj, rfl, HFJ⟩ := hrel
        have HKj := Lib.hid (HK.out.no HFJ.out)
        have c65 := (HB.out.fr HFJ.out id).cell H65.out
        by_cases hltj : j < n2
        · have t4 : (j : Int) < (n2 : Int) := by omega
          have t5 : j < n2 := hltj
          have hin : s.isIn (j : Int) = true := by unfold Bs.isIn; rw [decide_eq_true (by have := HN2.out; omega)]
          have HRS := Lib.hid (sd_result HKj.out.bk (fun i h => (HI.out.fresh i h).1) (j : Int) (wf_small (by have := HN2.out; omega)))
          obtain ⟨er, her⟩ : ∃ e, e = (s.tk j).e := ⟨_, rfl⟩
          obtain ⟨ac, hac⟩ : ∃ a, a = (s.tk j).acted := ⟨_, rfl⟩
          rw [show s.resV (j : Int) = er by unfold Bs.resV; rw [hin, Int.toNat_natCast, her]; rfl, show s.actV (j : Int) = ac by unfold Bs.actV; rw [hin, Int.toNat_natCast, hac]; rfl] at HRS
          obtain ⟨g, tov, hta, hcx⟩ := HTK.out j (by have := HN2.out; omega)
          have HCX := Lib.hid hcx
          obtain ⟨k2, hk2⟩ : ∃ x, x = j + 1 := ⟨_, rfl⟩
          have HJ2 : Hid (k2 = j + 1 ∧ k2 ≤ n2) := Lib.hid ⟨hk2, by omega⟩
          have s2' : (j : Int) + 1 = (k2 : Int) := by omega
          have l2 : IntKind.i64.wrap (k2 : Int) = (k2 : Int) := IntWalk.i64_in _ (by have := HN2.out; omega)
          have hsl : j * 12 < 9223372036854775807 := by have := HN2.out; omega
          have HTE : Hid (s.toldV (j : Int) = (s.tk j).told) := Lib.hid (by unfold Bs.toldV; rw [hin, Int.toNat_natCast]; rfl)
          have HLJ : Hid (j < s.t.length ∧ j < 32) := Lib.hid (by have := HN2.out; omega)
          have HER := Lib.hid her
          have HAC := Lib.hid hac
          rw [hta] at c65
          have HTA := Lib.hid hta
          clear hj hltj hin her hac hcx hk2 hta
          go_wp2_with fail
          refine HRS.out.mono ?_
          rintro e y ⟨rfl, hy⟩
          have HFy := Lib.hid (HFJ.out.trans hy)
          have HKy := Lib.hid (HKj.out.no hy)
          obtain ⟨oa, oc, htv, _⟩ := (HCX.out y HFy.out).1
          obtain ⟨tl, htl⟩ : ∃ x, x = (s.tk j).told.length := ⟨_, rfl⟩
          have HTL : Hid ((s.tk j).told.length = tl ∧ tl ≤ 1000) := Lib.hid ⟨htl.symm, by rw [htl]; have := told_len10 HKy.out.bk HLJ.out.1; omega⟩
          rw [← htl] at htv
          have HTV := Lib.hid htv
          have HTD := Lib.hid (fun X (hX : Bk O p s X) => sd_told hX (fun i h => (HI.out.fresh i h).2) (j : Int) (wf_small (by have := HLJ.out; omega)))
          rw [HTE.out] at HTD
          have HLT : Hid (∀ X, Fr No y X → (Instr.loadAt 33 (.pointer (some ⟨rb, 65, none⟩))).run Try.prog X = .ok (.slice (some ⟨g, 0, none⟩) n2 tc) X) := Lib.hid (fun X hX => by
            have := (HB.out.fr (HFy.out.trans hX) id).cell H65.out
            rw [HTA.out] at this
            simp [go_sem, this])
          have HLE : Hid (∀ X, Fr No y X → (Instr.loadAt 42 (.pointer (some ⟨g, j * 12 + 10, none⟩))).run Try.prog X = .ok (.int .i64 er) X) := Lib.hid (fun X hX => by
            have := (HCX.out X (HFy.out.trans hX)).2 10 (.int .i64 er) (by omega) (by rw [HER.out]; rfl)
            simp [go_sem, this])
          have HLA : Hid (∀ X, Fr No y X → (Instr.loadAt 4 (.pointer (some ⟨g, j * 12 + 8, none⟩))).run Try.prog X = .ok (.bool ac) X) := Lib.hid (fun X hX => by
            have := (HCX.out X (HFy.out.trans hX)).2 8 (.bool ac) (by omega) (by rw [HAC.out]; rfl)
            simp [go_sem, this])
          have HLU : Hid (∀ X, Fr No y X → (Instr.loadAt 22 (.pointer (some ⟨g, j * 12 + 11, none⟩))).run Try.prog X = .ok (.slice oa tl oc) X) := Lib.hid (fun X hX => by
            have := (HCX.out X (HFy.out.trans hX)).2 11 (.slice oa tl oc) (by omega) (by rw [← HTV.out]; rfl)
            simp [go_sem, this])
          have HNU : Hid (∀ X, Fr No y X → Nums X oa tl (fun i => (s.tk j).told.getD i 0)) := Lib.hid (fun X hX => by
            obtain ⟨oa2, oc2, he2, hn2'⟩ := (HCX.out X (HFy.out.trans hX)).1
            rw [HTV.out] at he2
            injection he2 with e1 e2 e3
            rw [e1, e2]
            exact hn2')
          have HN1 : Hid (∀ X : World, (binOp .neq 42 (.int .i64 er) (.int .i64 er)).run Try.prog X = .ok (.bool false) X) := Lib.hid (fun X => neq_e10 _ X)
          have HNB2 : Hid (∀ X : World, (binOp .neq 4 (.bool ac) (.bool ac)).run Try.prog X = .ok (.bool false) X) := Lib.hid (fun X => neq_b10 _ X)
          clear hy htl htv c65
          go_wp2_with fail
          refine wp_region_held_drew (S := (fun X => Fr No y X)) (by kernel_rfl) ((Fr.refl No y).drew) (fun hHeld => ?_)
          refine takeD (i := 0) (d := some 148) (v := ?_) rfl (by kernel_rfl) (by kernel_rfl) (by kernel_rfl) (by kernel_rfl) (fun _ _ _ h => h) (Or.inl ⟨by kernel_rfl, fun X hX => Or.inl ?_⟩) (by assumption) ?_
          rotate_left
          · first | (go_simp; done) | (go_simp; with_reducible rfl)
          (try simp only [Act.put]); (try simp only [List.setIfInBounds_toArray]); (try simp only [List.set_cons_succ]); (try simp only [List.set_cons_zero])
          refine takeD (i := 1) (d := some 149) (v := ?_) rfl (by kernel_rfl) (by kernel_rfl) (by kernel_rfl) (by kernel_rfl) (fun _ _ _ h => h) (Or.inl ⟨by kernel_rfl, fun X hX => Or.inl ?_⟩) (by assumption) ?_
          rotate_left
          · first | (go_simp; done) | (go_simp; with_reducible rfl)
          (try simp only [Act.put]); (try simp only [List.setIfInBounds_toArray]); (try simp only [List.set_cons_succ]); (try simp only [List.set_cons_zero])
          refine takeD (i := 2) (d := some 150) (v := .slice (some ⟨g, 0, none⟩) n2 tc) rfl (by kernel_rfl) (by kernel_rfl) (by kernel_rfl) (by kernel_rfl) (fun _ _ _ h => h) (Or.inl ⟨by kernel_rfl, fun X hX => Or.inl (exec_load 33 (.tmp 149) rfl _ _ rfl (HLT.out X hX))⟩) (by assumption) ?_
          (try simp only [Act.put]); (try simp only [List.setIfInBounds_toArray]); (try simp only [List.set_cons_succ]); (try simp only [List.set_cons_zero])
          refine takeD (i := 3) (d := some 151) (v := ?_) rfl (by kernel_rfl) (by kernel_rfl) (by kernel_rfl) (by kernel_rfl) (fun _ _ _ h => h) (Or.inl ⟨by kernel_rfl, fun X hX => Or.inl ?_⟩) (by assumption) ?_
          rotate_left
          · first | (go_simp; done) | (go_simp; with_reducible rfl)
          (try simp only [Act.put]); (try simp only [List.setIfInBounds_toArray]); (try simp only [List.set_cons_succ]); (try simp only [List.set_cons_zero])
          refine takeD (i := 4) (d := some 152) (v := ?_) rfl (by kernel_rfl) (by kernel_rfl) (by kernel_rfl) (by kernel_rfl) (fun _ _ _ h => h) (Or.inl ⟨by kernel_rfl, fun X hX => Or.inl ?_⟩) (by assumption) ?_
          rotate_left
          · first | (go_simp; done) | (go_simp; with_reducible rfl)
          (try simp only [Act.put]); (try simp only [List.setIfInBounds_toArray]); (try simp only [List.set_cons_succ]); (try simp only [List.set_cons_zero])
          refine takeD (i := 5) (d := some 153) (v := ?_) rfl (by kernel_rfl) (by kernel_rfl) (by kernel_rfl) (by kernel_rfl) (fun _ _ _ h => h) (Or.inl ⟨by kernel_rfl, fun X hX => Or.inl ?_⟩) (by assumption) ?_
          rotate_left
          · first | (go_simp; done) | (go_simp; with_reducible rfl)
          (try simp only [Act.put]); (try simp only [List.setIfInBounds_toArray]); (try simp only [List.set_cons_succ]); (try simp only [List.set_cons_zero])
          refine takeD (i := 6) (d := some 154) (v := .int .i64 er) rfl (by kernel_rfl) (by kernel_rfl) (by kernel_rfl) (by kernel_rfl) (fun _ _ _ h => h) (Or.inl ⟨by kernel_rfl, fun X hX => Or.inl (exec_load 42 (.tmp 153) rfl _ _ rfl (HLE.out X hX))⟩) (by assumption) ?_
          (try simp only [Act.put]); (try simp only [List.setIfInBounds_toArray]); (try simp only [List.set_cons_succ]); (try simp only [List.set_cons_zero])
          refine takeD (i := 7) (d := some 155) (v := .bool false) rfl (by kernel_rfl) (by kernel_rfl) (by kernel_rfl) (by kernel_rfl) (fun _ _ _ h => h) (Or.inl ⟨by kernel_rfl, fun X hX => Or.inl (exec_bin .neq 42 (.tmp 148) (.tmp 154) 42 rfl _ _ _ rfl rfl (by kernel_rfl) (HN1.out X))⟩) (by assumption) ?_
          (try simp only [Act.put]); (try simp only [List.setIfInBounds_toArray]); (try simp only [List.set_cons_succ]); (try simp only [List.set_cons_zero])
          refine takeD (i := 8) (d := some 156) (v := ?_) rfl (by kernel_rfl) (by kernel_rfl) (by kernel_rfl) (by kernel_rfl) (fun _ _ _ h => h) (Or.inl ⟨by kernel_rfl, fun X hX => Or.inl ?_⟩) (by assumption) ?_
          rotate_left
          · first | (go_simp; done) | (go_simp; with_reducible rfl)
          (try simp only [Act.put]); (try simp only [List.setIfInBounds_toArray]); (try simp only [List.set_cons_succ]); (try simp only [List.set_cons_zero])
          refine takeD (i := 9) (d := some 157) (v := ?_) rfl (by kernel_rfl) (by kernel_rfl) (by kernel_rfl) (by kernel_rfl) (fun _ _ _ h => h) (Or.inl ⟨by kernel_rfl, fun X hX => Or.inl ?_⟩) (by assumption) ?_
          rotate_left
          · first | (go_simp; done) | (go_simp; with_reducible rfl)
          (try simp only [Act.put]); (try simp only [List.setIfInBounds_toArray]); (try simp only [List.set_cons_succ]); (try simp only [List.set_cons_zero])
          refine takeD (i := 10) (d := some 158) (v := ?_) rfl (by kernel_rfl) (by kernel_rfl) (by kernel_rfl) (by kernel_rfl) (fun _ _ _ h => h) (Or.inl ⟨by kernel_rfl, fun X hX => Or.inl ?_⟩) (by assumption) ?_
          rotate_left
          · first | (go_simp; done) | (go_simp; with_reducible rfl)
          (try simp only [Act.put]); (try simp only [List.setIfInBounds_toArray]); (try simp only [List.set_cons_succ]); (try simp only [List.set_cons_zero])
          refine takeD (i := 11) (d := some 159) (v := .slice (some ⟨g, 0, none⟩) n2 tc) rfl (by kernel_rfl) (by kernel_rfl) (by kernel_rfl) (by kernel_rfl) (fun _ _ _ h => h) (Or.inl ⟨by kernel_rfl, fun X hX => Or.inl (exec_load 33 (.tmp 158) rfl _ _ rfl (HLT.out X hX))⟩) (by assumption) ?_
          (try simp only [Act.put]); (try simp only [List.setIfInBounds_toArray]); (try simp only [List.set_cons_succ]); (try simp only [List.set_cons_zero])
          refine takeD (i := 12) (d := some 160) (v := ?_) rfl (by kernel_rfl) (by kernel_rfl) (by kernel_rfl) (by kernel_rfl) (fun _ _ _ h => h) (Or.inl ⟨by kernel_rfl, fun X hX => Or.inl ?_⟩) (by assumption) ?_
          rotate_left
          · first | (go_simp; done) | (go_simp; with_reducible rfl)
          (try simp only [Act.put]); (try simp only [List.setIfInBounds_toArray]); (try simp only [List.set_cons_succ]); (try simp only [List.set_cons_zero])
          refine takeD (i := 13) (d := some 161) (v := ?_) rfl (by kernel_rfl) (by kernel_rfl) (by kernel_rfl) (by kernel_rfl) (fun _ _ _ h => h) (Or.inl ⟨by kernel_rfl, fun X hX => Or.inl ?_⟩) (by assumption) ?_
          rotate_left
          · first | (go_simp; done) | (go_simp; with_reducible rfl)
          (try simp only [Act.put]); (try simp only [List.setIfInBounds_toArray]); (try simp only [List.set_cons_succ]); (try simp only [List.set_cons_zero])
          refine takeD (i := 14) (d := some 162) (v := ?_) rfl (by kernel_rfl) (by kernel_rfl) (by kernel_rfl) (by kernel_rfl) (fun _ _ _ h => h) (Or.inl ⟨by kernel_rfl, fun X hX => Or.inl ?_⟩) (by assumption) ?_
          rotate_left
          · first | (go_simp; done) | (go_simp; with_reducible rfl)
          (try simp only [Act.put]); (try simp only [List.setIfInBounds_toArray]); (try simp only [List.set_cons_succ]); (try simp only [List.set_cons_zero])
          refine takeD (i := 15) (d := some 163) (v := .bool ac) rfl (by kernel_rfl) (by kernel_rfl) (by kernel_rfl) (by kernel_rfl) (fun _ _ _ h => h) (Or.inl ⟨by kernel_rfl, fun X hX => Or.inl (exec_load 4 (.tmp 162) rfl _ _ rfl (HLA.out X hX))⟩) (by assumption) ?_
          (try simp only [Act.put]); (try simp only [List.setIfInBounds_toArray]); (try simp only [List.set_cons_succ]); (try simp only [List.set_cons_zero])
          refine takeD (i := 16) (d := some 164) (v := .bool false) rfl (by kernel_rfl) (by kernel_rfl) (by kernel_rfl) (by kernel_rfl) (fun _ _ _ h => h) (Or.inl ⟨by kernel_rfl, fun X hX => Or.inl (exec_bin .neq 4 (.tmp 157) (.tmp 163) 4 rfl _ _ _ rfl rfl (by kernel_rfl) (HNB2.out X))⟩) (by assumption) ?_
          (try simp only [Act.put]); (try simp only [List.setIfInBounds_toArray]); (try simp only [List.set_cons_succ]); (try simp only [List.set_cons_zero])
          refine takeD (i := 17) (d := some 165) (v := ?_) rfl (by kernel_rfl) (by kernel_rfl) (by kernel_rfl) (by kernel_rfl) (fun _ _ _ h => h) (Or.inl ⟨by kernel_rfl, fun X hX => Or.inl ?_⟩) (by assumption) ?_
          rotate_left
          · first | (go_simp; done) | (go_simp; with_reducible rfl)
          (try simp only [Act.put]); (try simp only [List.setIfInBounds_toArray]); (try simp only [List.set_cons_succ]); (try simp only [List.set_cons_zero])
          refine takeD (i := 18) (d := some 166) (v := ?_) rfl (by kernel_rfl) (by kernel_rfl) (by kernel_rfl) (by kernel_rfl) (fun _ _ _ h => h) (Or.inl ⟨by kernel_rfl, fun X hX => Or.inl ?_⟩) (by assumption) ?_
          rotate_left
          · first | (go_simp; done) | (go_simp; with_reducible rfl)
          (try simp only [Act.put]); (try simp only [List.setIfInBounds_toArray]); (try simp only [List.set_cons_succ]); (try simp only [List.set_cons_zero])
          refine takeD (i := 19) (d := some 167) (v := ?_) rfl (by kernel_rfl) (by kernel_rfl) (by kernel_rfl) (by kernel_rfl) (fun _ _ _ h => h) (Or.inl ⟨by kernel_rfl, fun X hX => Or.inl ?_⟩) (by assumption) ?_
          rotate_left
          · first | (go_simp; done) | (go_simp; with_reducible rfl)
          (try simp only [Act.put]); (try simp only [List.setIfInBounds_toArray]); (try simp only [List.set_cons_succ]); (try simp only [List.set_cons_zero])
          refine takeD (i := 20) (d := some 168) (v := ?_) rfl (by kernel_rfl) (by kernel_rfl) (by kernel_rfl) (by kernel_rfl) (fun _ _ _ h => h) (Or.inl ⟨by kernel_rfl, fun X hX => Or.inl ?_⟩) (by assumption) ?_
          rotate_left
          · first | (go_simp; done) | (go_simp; with_reducible rfl)
          (try simp only [Act.put]); (try simp only [List.setIfInBounds_toArray]); (try simp only [List.set_cons_succ]); (try simp only [List.set_cons_zero])
          refine takeD (i := 22) (d := some 170) (v := ?_) rfl (by kernel_rfl) (by kernel_rfl) (by kernel_rfl) (by kernel_rfl) (fun _ _ _ h => h) (Or.inl ⟨by kernel_rfl, fun X hX => Or.inl ?_⟩) (by assumption) ?_
          rotate_left
          · first | (go_simp; done) | (go_simp; with_reducible rfl)
          (try simp only [Act.put]); (try simp only [List.setIfInBounds_toArray]); (try simp only [List.set_cons_succ]); (try simp only [List.set_cons_zero])
          refine takeD (i := 23) (d := some 171) (v := .slice (some ⟨g, 0, none⟩) n2 tc) rfl (by kernel_rfl) (by kernel_rfl) (by kernel_rfl) (by kernel_rfl) (fun _ _ _ h => h) (Or.inl ⟨by kernel_rfl, fun X hX => Or.inl (exec_load 33 (.tmp 170) rfl _ _ rfl (HLT.out X hX))⟩) (by assumption) ?_
          (try simp only [Act.put]); (try simp only [List.setIfInBounds_toArray]); (try simp only [List.set_cons_succ]); (try simp only [List.set_cons_zero])
          refine takeD (i := 24) (d := some 172) (v := ?_) rfl (by kernel_rfl) (by kernel_rfl) (by kernel_rfl) (by kernel_rfl) (fun _ _ _ h => h) (Or.inl ⟨by kernel_rfl, fun X hX => Or.inl ?_⟩) (by assumption) ?_
          rotate_left
          · first | (go_simp; done) | (go_simp; with_reducible rfl)
          (try simp only [Act.put]); (try simp only [List.setIfInBounds_toArray]); (try simp only [List.set_cons_succ]); (try simp only [List.set_cons_zero])
          refine takeD (i := 25) (d := some 173) (v := ?_) rfl (by kernel_rfl) (by kernel_rfl) (by kernel_rfl) (by kernel_rfl) (fun _ _ _ h => h) (Or.inl ⟨by kernel_rfl, fun X hX => Or.inl ?_⟩) (by assumption) ?_
          rotate_left
          · first | (go_simp; done) | (go_simp; with_reducible rfl)
          (try simp only [Act.put]); (try simp only [List.setIfInBounds_toArray]); (try simp only [List.set_cons_succ]); (try simp only [List.set_cons_zero])
          refine takeD (i := 26) (d := some 174) (v := ?_) rfl (by kernel_rfl) (by kernel_rfl) (by kernel_rfl) (by kernel_rfl) (fun _ _ _ h => h) (Or.inl ⟨by kernel_rfl, fun X hX => Or.inl ?_⟩) (by assumption) ?_
          rotate_left
          · first | (go_simp; done) | (go_simp; with_reducible rfl)
          (try simp only [Act.put]); (try simp only [List.setIfInBounds_toArray]); (try simp only [List.set_cons_succ]); (try simp only [List.set_cons_zero])
          refine takeD (i := 27) (d := some 175) (v := .slice oa tl oc) rfl (by kernel_rfl) (by kernel_rfl) (by kernel_rfl) (by kernel_rfl) (fun _ _ _ h => h) (Or.inl ⟨by kernel_rfl, fun X hX => Or.inl (exec_load 22 (.tmp 174) rfl _ _ rfl (HLU.out X hX))⟩) (by assumption) ?_
          (try simp only [Act.put]); (try simp only [List.setIfInBounds_toArray]); (try simp only [List.set_cons_succ]); (try simp only [List.set_cons_zero])
          refine wpAnyH_ready (rs := [21]) (by kernel_rfl) (by simp) ?_
          refine AllReadyH.cons rfl (fun K hK => ?_) AllReadyH.nil
          rw [if_pos (by kernel_rfl)]
          go_simp
          refine (HTD.out _ (HKy.out.no (Fr.refl No y).drew).bk).mono ?_
          rintro e v1 ⟨dv1, rfl, hO, hv⟩
          obtain ⟨pa1, pc1, rfl, hN1⟩ := hO
          have V1 := Lib.hid ((Fr.refl No y).drew.trans hv)
          have NN1 := Lib.hid hN1
          rw [HTL.out.1] at NN1 ⊢
          clear hv hN1
          refine hK.out _ _ (V1.out) (fun hHeld => ?_)
          clear hK K
          (try simp only [Act.put]); (try simp only [List.setIfInBounds_toArray]); (try simp only [List.set_cons_succ]); (try simp only [List.set_cons_zero])
          refine wpAnyH_ready (rs := [28]) (by kernel_rfl) (by simp) ?_
          refine AllReadyH.cons rfl (fun K hK => ?_) AllReadyH.nil
          rw [if_pos (by kernel_rfl)]
          go_simp
          refine (rsame_any pa1 oa tl pc1 oc (fun i => (s.tk j).told.getD i 0) _ HTL.out.2 NN1.out (HNU.out _ V1.out)).mono ?_
          rintro e v2 ⟨rfl, hv⟩
          have V2 := Lib.hid (V1.out.trans hv)
          clear hv
          refine hK.out _ _ (V2.out) (fun hHeld => ?_)
          clear hK K
          (try simp only [Act.put]); (try simp only [List.setIfInBounds_toArray]); (try simp only [List.set_cons_succ]); (try simp only [List.set_cons_zero])
          refine takeD (i := 29) (d := some 177) (v := ?_) rfl (by kernel_rfl) (by kernel_rfl) (by kernel_rfl) (by kernel_rfl) (fun _ _ _ h => h) (Or.inl ⟨by kernel_rfl, fun X hX => Or.inl ?_⟩) (by assumption) ?_
          rotate_left
          · first | (go_simp; done) | (go_simp; with_reducible rfl)
          (try simp only [Act.put]); (try simp only [List.setIfInBounds_toArray]); (try simp only [List.set_cons_succ]); (try simp only [List.set_cons_zero])
          refine takeD (i := 30) (d := some 178) (v := ?_) rfl (by kernel_rfl) (by kernel_rfl) (by kernel_rfl) (by kernel_rfl) (fun _ _ _ h => h) (Or.inl ⟨by kernel_rfl, fun X hX => Or.inl ?_⟩) (by assumption) ?_
          rotate_left
          · first | (go_simp; done) | (go_simp; with_reducible rfl)
          (try simp only [Act.put]); (try simp only [List.setIfInBounds_toArray]); (try simp only [List.set_cons_succ]); (try simp only [List.set_cons_zero])
          refine wpAnyH_done (by kernel_rfl) ?_ _
          clear hHeld
          go_wp2
          exact ⟨⟨k2, HJ2.out.2, rfl, Lib.hid (HFy.out.trans V2.out)⟩, by have := HJ2.out; simp [intOf]; omega⟩
        · have t4 : ¬ (j : Int) < (n2 : Int) := by omega
          have t5 : ¬ j < n2 := hltj
          have hin : s.isIn (n2 : Int) = false := by unfold Bs.isIn; rw [decide_eq_false (by have := HN2.out; omega)]
          have HRS := Lib.hid (sd_result HKj.out.bk (fun i h => (HI.out.fresh i h).1) (n2 : Int) (wf_small (by have := HN2.out; omega)))
          rw [show s.resV (n2 : Int) = 0 by unfold Bs.resV; rw [hin]; rfl, show s.actV (n2 : Int) = false by unfold Bs.actV; rw [hin]; rfl] at HRS
          clear hj hltj hin
          go_wp2_with fail
          refine HRS.out.mono ?_
          rintro e y ⟨rfl, hy⟩
          have HFy := Lib.hid (HFJ.out.trans hy)
          have HKy := Lib.hid (HKj.out.no hy)
          obtain ⟨pn, hpn⟩ : ∃ x, x = s.p.b.length := ⟨_, rfl⟩
          have HPN : Hid (pn = s.p.b.length ∧ pn ≤ 1000) := Lib.hid ⟨hpn, by rw [hpn]; have := HIV.out.wf.b2; omega⟩
          have HLP : Hid (∀ X, Fr No y X → (Instr.loadAt 22 (.pointer (some ⟨rb, 0, none⟩))).run Try.prog X = .ok (.slice pa pn pc) X) := Lib.hid (fun X hX => by
            have := (HB.out.fr (HFy.out.trans hX) id).cell H0.out
            rw [← hpn] at this
            simp [go_sem, this])
          have HNP : Hid (∀ X, Fr No y X → Nums X pa pn (fun i => s.p.b.getD i 0)) := Lib.hid (fun X hX => by rw [hpn]; exact HPU.out X (HFy.out.trans hX))
          have HH4 := Lib.hid (fun X (hX : Bk O p s X) => sd_holder hX 4 (by decide))
          rw [show s.holdV 4 = -1 from rfl] at HH4
          have HHM := Lib.hid (fun X (hX : Bk O p s X) => sd_holder hX (-1) (by decide))
          rw [show s.holdV (-1) = -1 from rfl] at HHM
          have HTM := Lib.hid (fun X (hX : Bk O p s X) => sd_told hX (fun i h => (HI.out.fresh i h).2) (-1) (by decide))
          rw [show s.toldV (-1) = [] from rfl] at HTM
          clear hy hpn c65
          go_wp2_with fail
          refine wp_region_held_drew (S := (fun X => Fr No y X)) (by kernel_rfl) ((Fr.refl No y).drew) (fun hHeld => ?_)
          refine takeD (i := 0) (d := some 187) (v := ?_) rfl (by kernel_rfl) (by kernel_rfl) (by kernel_rfl) (by kernel_rfl) (fun _ _ _ h => h) (Or.inl ⟨by kernel_rfl, fun X hX => Or.inl ?_⟩) (by assumption) ?_
          rotate_left
          · first | (go_simp; done) | (go_simp; with_reducible rfl)
          (try simp only [Act.put]); (try simp only [List.setIfInBounds_toArray]); (try simp only [List.set_cons_succ]); (try simp only [List.set_cons_zero])
          refine takeD (i := 2) (d := some 189) (v := ?_) rfl (by kernel_rfl) (by kernel_rfl) (by kernel_rfl) (by kernel_rfl) (fun _ _ _ h => h) (Or.inl ⟨by kernel_rfl, fun X hX => Or.inl ?_⟩) (by assumption) ?_
          rotate_left
          · first | (go_simp; done) | (go_simp; with_reducible rfl)
          (try simp only [Act.put]); (try simp only [List.setIfInBounds_toArray]); (try simp only [List.set_cons_succ]); (try simp only [List.set_cons_zero])
          refine takeD (i := 3) (d := some 190) (v := ?_) rfl (by kernel_rfl) (by kernel_rfl) (by kernel_rfl) (by kernel_rfl) (fun _ _ _ h => h) (Or.inl ⟨by kernel_rfl, fun X hX => Or.inl ?_⟩) (by assumption) ?_
          rotate_left
          · first | (go_simp; done) | (go_simp; with_reducible rfl)
          (try simp only [Act.put]); (try simp only [List.setIfInBounds_toArray]); (try simp only [List.set_cons_succ]); (try simp only [List.set_cons_zero])
          refine takeD (i := 4) (d := some 191) (v := .slice pa pn pc) rfl (by kernel_rfl) (by kernel_rfl) (by kernel_rfl) (by kernel_rfl) (fun _ _ _ h => h) (Or.inl ⟨by kernel_rfl, fun X hX => Or.inl (exec_load 22 (.tmp 190) rfl _ _ rfl (HLP.out X hX))⟩) (by assumption) ?_
          (try simp only [Act.put]); (try simp only [List.setIfInBounds_toArray]); (try simp only [List.set_cons_succ]); (try simp only [List.set_cons_zero])
          refine wpAnyH_ready (rs := [1]) (by kernel_rfl) (by simp) ?_
          refine AllReadyH.cons rfl (fun K hK => ?_) AllReadyH.nil
          rw [if_pos (by kernel_rfl)]
          go_simp
          refine (sd_balances (HKy.out.no (Fr.refl No y).drew).bk).mono ?_
          rintro e v1 ⟨dv1, rfl, hO, hv⟩
          obtain ⟨pa1, pc1, rfl, hN1⟩ := hO
          have V1 := Lib.hid ((Fr.refl No y).drew.trans hv)
          have NN1 := Lib.hid hN1
          rw [← HPN.out.1] at NN1 ⊢
          clear hv hN1
          refine hK.out _ _ (V1.out) (fun hHeld => ?_)
          clear hK K
          (try simp only [Act.put]); (try simp only [List.setIfInBounds_toArray]); (try simp only [List.set_cons_succ]); (try simp only [List.set_cons_zero])
          refine wpAnyH_ready (rs := [5]) (by kernel_rfl) (by simp) ?_
          refine AllReadyH.cons rfl (fun K hK => ?_) AllReadyH.nil
          rw [if_pos (by kernel_rfl)]
          go_simp
          refine (rsame_any pa1 pa pn pc1 pc (fun i => s.p.b.getD i 0) _ HPN.out.2 NN1.out (HNP.out _ V1.out)).mono ?_
          rintro e v2 ⟨rfl, hv⟩
          have V2 := Lib.hid (V1.out.trans hv)
          clear hv
          refine hK.out _ _ (V2.out) (fun hHeld => ?_)
          clear hK K
          (try simp only [Act.put]); (try simp only [List.setIfInBounds_toArray]); (try simp only [List.set_cons_succ]); (try simp only [List.set_cons_zero])
          refine takeD (i := 6) (d := some 193) (v := ?_) rfl (by kernel_rfl) (by kernel_rfl) (by kernel_rfl) (by kernel_rfl) (fun _ _ _ h => h) (Or.inl ⟨by kernel_rfl, fun X hX => Or.inl ?_⟩) (by assumption) ?_
          rotate_left
          · first | (go_simp; done) | (go_simp; with_reducible rfl)
          (try simp only [Act.put]); (try simp only [List.setIfInBounds_toArray]); (try simp only [List.set_cons_succ]); (try simp only [List.set_cons_zero])
          refine takeD (i := 7) (d := some 194) (v := ?_) rfl (by kernel_rfl) (by kernel_rfl) (by kernel_rfl) (by kernel_rfl) (fun _ _ _ h => h) (Or.inl ⟨by kernel_rfl, fun X hX => Or.inl ?_⟩) (by assumption) ?_
          rotate_left
          · first | (go_simp; done) | (go_simp; with_reducible rfl)
          (try simp only [Act.put]); (try simp only [List.setIfInBounds_toArray]); (try simp only [List.set_cons_succ]); (try simp only [List.set_cons_zero])
          refine takeD (i := 8) (d := some 195) (v := ?_) rfl (by kernel_rfl) (by kernel_rfl) (by kernel_rfl) (by kernel_rfl) (fun _ _ _ h => h) (Or.inl ⟨by kernel_rfl, fun X hX => Or.inl ?_⟩) (by assumption) ?_
          rotate_left
          · first | (go_simp; done) | (go_simp; with_reducible rfl)
          (try simp only [Act.put]); (try simp only [List.setIfInBounds_toArray]); (try simp only [List.set_cons_succ]); (try simp only [List.set_cons_zero])
          refine takeD (i := 9) (d := some 196) (v := ?_) rfl (by kernel_rfl) (by kernel_rfl) (by kernel_rfl) (by kernel_rfl) (fun _ _ _ h => h) (Or.inl ⟨by kernel_rfl, fun X hX => Or.inl ?_⟩) (by assumption) ?_
          rotate_left
          · first | (go_simp; done) | (go_simp; with_reducible rfl)
          (try simp only [Act.put]); (try simp only [List.setIfInBounds_toArray]); (try simp only [List.set_cons_succ]); (try simp only [List.set_cons_zero])
          refine takeD (i := 10) (d := some 197) (v := ?_) rfl (by kernel_rfl) (by kernel_rfl) (by kernel_rfl) (by kernel_rfl) (fun _ _ _ h => h) (Or.inl ⟨by kernel_rfl, fun X hX => Or.inl ?_⟩) (by assumption) ?_
          rotate_left
          · first | (go_simp; done) | (go_simp; with_reducible rfl)
          (try simp only [Act.put]); (try simp only [List.setIfInBounds_toArray]); (try simp only [List.set_cons_succ]); (try simp only [List.set_cons_zero])
          refine takeD (i := 11) (d := some 198) (v := ?_) rfl (by kernel_rfl) (by kernel_rfl) (by kernel_rfl) (by kernel_rfl) (fun _ _ _ h => h) (Or.inl ⟨by kernel_rfl, fun X hX => Or.inl ?_⟩) (by assumption) ?_
          rotate_left
          · first | (go_simp; done) | (go_simp; with_reducible rfl)
          (try simp only [Act.put]); (try simp only [List.setIfInBounds_toArray]); (try simp only [List.set_cons_succ]); (try simp only [List.set_cons_zero])
          refine wpAnyH_ready (rs := [12]) (by kernel_rfl) (by simp) ?_
          refine AllReadyH.cons rfl (fun K hK => ?_) AllReadyH.nil
          rw [if_pos (by kernel_rfl)]
          go_simp
          refine (HH4.out _ (HKy.out.no V2.out).bk).mono ?_
          rintro e v3 ⟨rfl, hv⟩
          have V3 := Lib.hid (V2.out.trans hv)
          clear hv
          refine hK.out _ _ (V3.out) (fun hHeld => ?_)
          clear hK K
          (try simp only [Act.put]); (try simp only [List.setIfInBounds_toArray]); (try simp only [List.set_cons_succ]); (try simp only [List.set_cons_zero])
          refine takeD (i := 13) (d := some 200) (v := .bool true) rfl (by kernel_rfl) (by kernel_rfl) (by kernel_rfl) (by kernel_rfl) (fun _ _ _ h => h) (Or.inl ⟨by kernel_rfl, fun X hX => Or.inl (exec_bin .eql 3 (.tmp 199) (.const (.int .i64 (-1))) 3 rfl _ _ _ rfl rfl (by kernel_rfl) (eq_m10 X))⟩) (by assumption) ?_
          (try simp only [Act.put]); (try simp only [List.setIfInBounds_toArray]); (try simp only [List.set_cons_succ]); (try simp only [List.set_cons_zero])
          refine takeD (i := 14) (d := some 201) (v := ?_) rfl (by kernel_rfl) (by kernel_rfl) (by kernel_rfl) (by kernel_rfl) (fun _ _ _ h => h) (Or.inl ⟨by kernel_rfl, fun X hX => Or.inl ?_⟩) (by assumption) ?_
          rotate_left
          · first | (go_simp; done) | (go_simp; with_reducible rfl)
          (try simp only [Act.put]); (try simp only [List.setIfInBounds_toArray]); (try simp only [List.set_cons_succ]); (try simp only [List.set_cons_zero])
          refine takeD (i := 15) (d := some 202) (v := ?_) rfl (by kernel_rfl) (by kernel_rfl) (by kernel_rfl) (by kernel_rfl) (fun _ _ _ h => h) (Or.inl ⟨by kernel_rfl, fun X hX => Or.inl ?_⟩) (by assumption) ?_
          rotate_left
          · first | (go_simp; done) | (go_simp; with_reducible rfl)
          (try simp only [Act.put]); (try simp only [List.setIfInBounds_toArray]); (try simp only [List.set_cons_succ]); (try simp only [List.set_cons_zero])
          refine takeD (i := 16) (d := some 203) (v := ?_) rfl (by kernel_rfl) (by kernel_rfl) (by kernel_rfl) (by kernel_rfl) (fun _ _ _ h => h) (Or.inl ⟨by kernel_rfl, fun X hX => Or.inl ?_⟩) (by assumption) ?_
          rotate_left
          · first | (go_simp; done) | (go_simp; with_reducible rfl)
          (try simp only [Act.put]); (try simp only [List.setIfInBounds_toArray]); (try simp only [List.set_cons_succ]); (try simp only [List.set_cons_zero])
          refine wpAnyH_ready (rs := [17]) (by kernel_rfl) (by simp) ?_
          refine AllReadyH.cons rfl (fun K hK => ?_) AllReadyH.nil
          rw [if_pos (by kernel_rfl)]
          go_simp
          refine (HHM.out _ (HKy.out.no V3.out).bk).mono ?_
          rintro e v4 ⟨rfl, hv⟩
          have V4 := Lib.hid (V3.out.trans hv)
          clear hv
          refine hK.out _ _ (V4.out) (fun hHeld => ?_)
          clear hK K
          (try simp only [Act.put]); (try simp only [List.setIfInBounds_toArray]); (try simp only [List.set_cons_succ]); (try simp only [List.set_cons_zero])
          refine takeD (i := 18) (d := some 205) (v := .bool true) rfl (by kernel_rfl) (by kernel_rfl) (by kernel_rfl) (by kernel_rfl) (fun _ _ _ h => h) (Or.inl ⟨by kernel_rfl, fun X hX => Or.inl (exec_bin .eql 3 (.tmp 204) (.const (.int .i64 (-1))) 3 rfl _ _ _ rfl rfl (by kernel_rfl) (eq_m10 X))⟩) (by assumption) ?_
          (try simp only [Act.put]); (try simp only [List.setIfInBounds_toArray]); (try simp only [List.set_cons_succ]); (try simp only [List.set_cons_zero])
          refine takeD (i := 19) (d := some 206) (v := ?_) rfl (by kernel_rfl) (by kernel_rfl) (by kernel_rfl) (by kernel_rfl) (fun _ _ _ h => h) (Or.inl ⟨by kernel_rfl, fun X hX => Or.inl ?_⟩) (by assumption) ?_
          rotate_left
          · first | (go_simp; done) | (go_simp; with_reducible rfl)
          (try simp only [Act.put]); (try simp only [List.setIfInBounds_toArray]); (try simp only [List.set_cons_succ]); (try simp only [List.set_cons_zero])
          refine takeD (i := 20) (d := some 207) (v := ?_) rfl (by kernel_rfl) (by kernel_rfl) (by kernel_rfl) (by kernel_rfl) (fun _ _ _ h => h) (Or.inl ⟨by kernel_rfl, fun X hX => Or.inl ?_⟩) (by assumption) ?_
          rotate_left
          · first | (go_simp; done) | (go_simp; with_reducible rfl)
          (try simp only [Act.put]); (try simp only [List.setIfInBounds_toArray]); (try simp only [List.set_cons_succ]); (try simp only [List.set_cons_zero])
          refine takeD (i := 21) (d := some 208) (v := ?_) rfl (by kernel_rfl) (by kernel_rfl) (by kernel_rfl) (by kernel_rfl) (fun _ _ _ h => h) (Or.inl ⟨by kernel_rfl, fun X hX => Or.inl ?_⟩) (by assumption) ?_
          rotate_left
          · first | (go_simp; done) | (go_simp; with_reducible rfl)
          (try simp only [Act.put]); (try simp only [List.setIfInBounds_toArray]); (try simp only [List.set_cons_succ]); (try simp only [List.set_cons_zero])
          refine wpAnyH_ready (rs := [22]) (by kernel_rfl) (by simp) ?_
          refine AllReadyH.cons rfl (fun K hK => ?_) AllReadyH.nil
          rw [if_pos (by kernel_rfl)]
          go_simp
          refine (HTM.out _ (HKy.out.no V4.out).bk).mono ?_
          rintro e v5 ⟨dv5, rfl, hO, hv⟩
          obtain ⟨pa5, pc5, he5, _⟩ := hO
          obtain rfl : dv5 = .slice pa5 0 pc5 := he5
          have V5 := Lib.hid (V4.out.trans hv)
          clear hv
          refine hK.out _ _ (V5.out) (fun hHeld => ?_)
          clear hK K
          (try simp only [Act.put]); (try simp only [List.setIfInBounds_toArray]); (try simp only [List.set_cons_succ]); (try simp only [List.set_cons_zero])
          refine takeD (i := 23) (d := some 210) (v := ?_) rfl (by kernel_rfl) (by kernel_rfl) (by kernel_rfl) (by kernel_rfl) (fun _ _ _ h => h) (Or.inl ⟨by kernel_rfl, fun X hX => Or.inl ?_⟩) (by assumption) ?_
          rotate_left
          · first | (go_simp; done) | (go_simp; with_reducible rfl)
          (try simp only [Act.put]); (try simp only [List.setIfInBounds_toArray]); (try simp only [List.set_cons_succ]); (try simp only [List.set_cons_zero])
          refine takeD (i := 24) (d := some 211) (v := .bool true) rfl (by kernel_rfl) (by kernel_rfl) (by kernel_rfl) (by kernel_rfl) (fun _ _ _ h => h) (Or.inl ⟨by kernel_rfl, fun X hX => Or.inl (exec_bin .eql 3 (.tmp 210) (.const (.int .i64 0)) 3 rfl _ _ _ rfl rfl (by kernel_rfl) (eq_z10 X))⟩) (by assumption) ?_
          (try simp only [Act.put]); (try simp only [List.setIfInBounds_toArray]); (try simp only [List.set_cons_succ]); (try simp only [List.set_cons_zero])
          refine takeD (i := 25) (d := some 212) (v := ?_) rfl (by kernel_rfl) (by kernel_rfl) (by kernel_rfl) (by kernel_rfl) (fun _ _ _ h => h) (Or.inl ⟨by kernel_rfl, fun X hX => Or.inl ?_⟩) (by assumption) ?_
          rotate_left
          · first | (go_simp; done) | (go_simp; with_reducible rfl)
          (try simp only [Act.put]); (try simp only [List.setIfInBounds_toArray]); (try simp only [List.set_cons_succ]); (try simp only [List.set_cons_zero])
          refine takeD (i := 26) (d := some 4) (v := ?_) rfl (by kernel_rfl) (by kernel_rfl) (by kernel_rfl) (by kernel_rfl) (fun _ _ _ h => h) (Or.inl ⟨by kernel_rfl, fun X hX => Or.inl ?_⟩) (by assumption) ?_
          rotate_left
          · first | (go_simp; done) | (go_simp; with_reducible rfl)
          (try simp only [Act.put]); (try simp only [List.setIfInBounds_toArray]); (try simp only [List.set_cons_succ]); (try simp only [List.set_cons_zero])
          refine wpAnyH_done (by kernel_rfl) ?_ _
          clear hHeld
          go_wp2
          go_ret
          exact ⟨rfl, ((HF.out.trans HK.out.fr).trans HFy.out).trans V5.out⟩
end Go.Proofs.Ytldcglmpnildiaa
