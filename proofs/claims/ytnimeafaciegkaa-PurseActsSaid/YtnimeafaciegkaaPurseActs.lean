/- The walk of 'PurseActs'. -/
import Derived.Test.YtnimeafaciegkaaPuL
import Derived.Test.YtnimeafaciegkaaPuT
import Derived.Test.YtnimeafaciegkaaOpnA
import Derived.Test.YtnimeafaciegkaaPuK
namespace Go.Proofs.Ytnimeafaciegkaa
open Go.RowKit
set_option linter.unusedVariables false
set_option maxRecDepth 100000
/-- The document's purse, in a law's variable at rb. -/
structure R9 (T rb : Nat) (ao : Option Addr) (cap : Nat) (s : Ps) (w : World) : Prop where
  blk : Blk w rb 32 (cellsP ao s.b.length cap s.h)
  row : DAt ao cap s w
  lo : T ≤ rb
  far : ∀ a, ao = some a → T ≤ a.block ∧ a.block ≠ rb
theorem R9.fr {S : Nat → Prop} {T rb cap : Nat} {ao : Option Addr} {s : Ps} {w w' : World} (h : R9 T rb ao cap s w) (f : Fr S w w') (hS : ∀ k, T ≤ k → ¬ S k) : R9 T rb ao cap s w' :=
  ⟨h.blk.fr f (hS _ h.lo), h.row.fr f (fun a ha => hS _ (h.far a ha).1), h.lo, h.far⟩
theorem R9.no {T rb cap : Nat} {ao : Option Addr} {s : Ps} {w w' : World} (h : R9 T rb ao cap s w) (f : Fr No w w') : R9 T rb ao cap s w' := h.fr f (fun _ _ => id)
theorem R9.btw {B T rb cap : Nat} {ao : Option Addr} {s : Ps} {w w' : World} (h : R9 T rb ao cap s w) (f : Fr (Btw B T) w w') : R9 T rb ao cap s w' := h.fr f (fun k hk e => by have := e.2; omega)
theorem R9.len {T rb cap : Nat} {ao : Option Addr} {s : Ps} {w : World} (h : R9 T rb ao cap s w) (W : s.Wf) : (cellsP ao s.b.length cap s.h).length = 65 := cellsP_len W.hl
/-- What the document's call hands back is stored. -/
theorem R9.put {T rb cap cap' : Nat} {ao ao' : Option Addr} {s s' : Ps} {v w : World} (h : R9 T rb ao cap s w) (W : s.Wf) (W' : s'.Wf) (hv : T ≤ v.heap.size) (hrb : rb < v.heap.size) (hd : DNext v ao ao') (hD : DAt ao' cap' s' w) :
    ∃ Y, (Instr.storeAt 32 (.pointer (some ⟨rb, 0, none⟩)) (vP ao' s'.b.length cap' s'.h)).run Try.prog w = .ok () Y ∧ R9 T rb ao' cap' s' Y ∧ Fr (· = rb) w Y := by
  obtain ⟨Y, hY, hB, hF⟩ := store_rp h.blk (h.len W) (cellsP_len (ao := ao') (n := s'.b.length) (cap := cap') W'.hl) cellsP_one
  have hf : ∀ a, ao' = some a → T ≤ a.block ∧ a.block ≠ rb := fun a ha => by
    rcases hd with e | ⟨r, hr, e⟩
    · exact h.far a (e ▸ ha)
    · rw [e] at ha
      injection ha with ha
      subst ha
      exact ⟨by show T ≤ r; omega, by show r ≠ rb; omega⟩
  exact ⟨Y, hY, ⟨hB, hD.fr hF (fun a ha e => (hf a ha).2 e), h.lo, hf⟩, hF⟩
set_option maxHeartbeats 1000000 in
theorem acts9_long (ao : Option Addr) (n cap : Nat) (v : Value) (w : World) (hn : 40 < n) : Calls Try.prog 3 #[.slice ao n cap, v] w fun e w' => e = .returned (.bool true) ∧ Fr No w w' := by
  have t0 : decide ((40 : Int) < (n : Int)) = true := decide_eq_true (by omega)
  clear hn
  go_enter Try.func3, Try.ntmps3
  go_wp2_with fail
  refine (shown9_any _).mono ?_
  rintro e w1 ⟨rfl, hF⟩
  have HF := Lib.hid hF
  clear hF
  go_wp2
  go_ret
  exact ⟨rfl, HF.out⟩

set_option maxHeartbeats 1000000 in
theorem acts9_long2 (ao bo : Option Addr) (n cap m cap2 : Nat) (w : World) (hn : n ≤ 40) (hm : 150 < m) : Calls Try.prog 3 #[.slice ao n cap, .slice bo m cap2] w fun e w' => e = .returned (.bool true) ∧ Fr No w w' := by
  have t0 : decide ((40 : Int) < (n : Int)) = false := decide_eq_false (by omega)
  have t2 : decide ((150 : Int) < (m : Int)) = true := decide_eq_true (by omega)
  clear hn hm
  go_enter Try.func3, Try.ntmps3
  go_wp2_with fail
  refine (shown9_any _).mono ?_
  rintro e w1 ⟨rfl, hF⟩
  have HF := Lib.hid hF
  clear hF
  go_wp2
  go_ret
  exact ⟨rfl, HF.out⟩
set_option maxHeartbeats 4000000 in
theorem acts9_bad (ao bo : Option Addr) (n cap m cap2 : Nat) (b : List Nat) (xs : Nat → A9) (w : World) (hn : n ≤ 40) (hm : m ≤ 150) (hb : n = b.length) (hx : Nums w ao n (fun i => b.getD i 0)) (ha : Acts w bo m xs) (hy : false = Ps.newOk b) : Calls Try.prog 3 #[.slice ao n cap, .slice bo m cap2] w fun e w' => e = .returned (.bool true) ∧ Fr No w w' := by
  have t0 : decide ((40 : Int) < (n : Int)) = false := decide_eq_false (by omega)
  have t2 : decide ((150 : Int) < (m : Int)) = false := decide_eq_false (by omega)
  have HX := Lib.hid hx
  have HA := Lib.hid ha
  have HN := Lib.hid hb
  have HN40 : Hid (n ≤ 40 ∧ m ≤ 150) := Lib.hid ⟨hn, hm⟩
  have HNEW := Lib.hid (fun X (hX : Nums X ao n (fun i => b.getD i 0)) => pu_new ao n cap b X hb (by unfold maxLen; omega) hX false hy)
  have HDN := Lib.hid (fun X (hX : Nums X ao n (fun i => b.getD i 0)) => rnew_any ao n cap b X hb (by omega) hX)
  have HY := Lib.hid hy
  clear hx ha hb hn hm hy
  go_enter Try.func3, Try.ntmps3
  go_wp2_with fail
  refine (shown9_any _).mono ?_
  rintro e w1 ⟨rfl, hF⟩
  have HF := Lib.hid hF
  clear hF
  go_wp2_with fail
  refine (HNEW.out _ (HX.out.fr HF.out (fun _ _ => id))).mono ?_
  rintro e w2 ⟨hF2, he⟩
  obtain rfl : e = .returned (.pointer none) := he
  have HF2 := Lib.hid (HF.out.trans hF2)
  clear hF2 HNEW
  go_wp2_with fail
  refine (HDN.out _ (HX.out.fr HF2.out (fun _ _ => id))).mono ?_
  intro e w3 h
  unfold DNew at h
  rw [← HY.out] at h
  obtain ⟨rfl, hF3⟩ := h
  have HF3 := Lib.hid (HF2.out.trans hF3)
  clear hF3 HDN
  obtain ⟨rb, hrb⟩ : ∃ r, r = w3.heap.size := ⟨_, rfl⟩
  have HAL : Hid ((Instr.alloc 32 true (.tuple #[])).run Try.prog w3 = .ok (.pointer (some ⟨rb, 0, none⟩)) (w3.alloc (.cells zeroP.toArray 32))) := Lib.hid (by rw [hrb]; exact alloc_rp w3)
  have HZ : Hid (Blk (w3.alloc (.cells zeroP.toArray 32)) rb 32 zeroP) := Lib.hid (by rw [hrb]; exact Blk.new w3 _ _)
  obtain ⟨Y, hY, hYB, hYF⟩ := store_rp HZ.out (L := cellsP none 0 0 (List.replicate 32 (0, 0))) (cellsP_len rfl) (cellsP_len rfl) cellsP_one
  have HYS := Lib.hid hY
  have HFY : Hid (Fr No w Y) := Lib.hid ((HF3.out.alloc _).trans' hYF (fun i hi e => by have := HF3.out.size; omega))
  clear hY hYB hYF hrb
  go_wp2_with (first
    | (refine wpList_execG (.pointer (some ⟨rb, 0, none⟩)) (exec_alloc 32 rfl _ HAL.out) rfl ?_)
    | (refine wpList_store_eq rfl 32 _ _ rfl (.pointer (some ⟨rb, 0, none⟩)) (vP none 0 0 (List.replicate 32 (0, 0))) rfl rfl HYS.out ?_))
  go_ret
  exact ⟨rfl, HFY.out⟩
set_option maxHeartbeats 16000000 in
theorem acts9_ok (ao bo : Option Addr) (n cap m cap2 : Nat) (b : List Nat) (xs : Nat → A9) (w : World) (hn : n ≤ 40) (hm : m ≤ 150) (hb : n = b.length) (hx : Nums w ao n (fun i => b.getD i 0)) (ha : Acts w bo m xs) (hy : true = Ps.newOk b) : Calls Try.prog 3 #[.slice ao n cap, .slice bo m cap2] w fun e w' => e = .returned (.bool true) ∧ Fr No w w' := by
  have t0 : decide ((40 : Int) < (n : Int)) = false := decide_eq_false (by omega)
  have t2 : decide ((150 : Int) < (m : Int)) = false := decide_eq_false (by omega)
  have HX := Lib.hid hx
  have HA := Lib.hid ha
  have HN := Lib.hid hb
  have HN40 : Hid (n ≤ 40 ∧ m ≤ 150) := Lib.hid ⟨hn, hm⟩
  have HNEW := Lib.hid (fun X (hX : Nums X ao n (fun i => b.getD i 0)) => pu_new ao n cap b X hb (by unfold maxLen; omega) hX true hy)
  have HDN := Lib.hid (fun X (hX : Nums X ao n (fun i => b.getD i 0)) => rnew_any ao n cap b X hb (by omega) hX)
  have HY := Lib.hid hy
  clear hx ha hb hn hm hy
  go_enter Try.func3, Try.ntmps3
  go_wp2_with fail
  refine (shown9_any _).mono ?_
  rintro e w1 ⟨rfl, hF⟩
  have HF := Lib.hid hF
  clear hF
  go_wp2_with fail
  refine (HNEW.out _ (HX.out.fr HF.out (fun _ _ => id))).mono ?_
  rintro e w2 ⟨hF2, p, rfl, hP⟩
  have HF2 := Lib.hid (HF.out.trans hF2)
  have HB : Hid (w.heap.size ≤ w1.heap.size) := Lib.hid HF.out.size
  obtain ⟨B, hB⟩ : ∃ B, B = w1.heap.size := ⟨_, rfl⟩
  obtain ⟨T, hT⟩ : ∃ T, T = w2.heap.size := ⟨_, rfl⟩
  rw [← hB, ← hT] at hP
  rw [← hB] at HB
  have HP := Lib.hid hP
  have HT : Hid (T = w2.heap.size ∧ w.heap.size ≤ T) := Lib.hid ⟨hT, by have := HF2.out.size; omega⟩
  clear hF2 hP HNEW hB hT
  go_wp2_with fail
  refine (HDN.out _ (HX.out.fr HF2.out (fun _ _ => id))).mono ?_
  intro e w3 h
  unfold DNew at h
  rw [← HY.out] at h
  obtain ⟨r, c, rfl, hr1, hr2, hD, hF3⟩ := h
  have HF3 := Lib.hid (HF2.out.trans hF3)
  have HP3 := Lib.hid (HP.out.no hF3)
  obtain ⟨rb, hrb⟩ : ∃ r, r = w3.heap.size := ⟨_, rfl⟩
  have hTr : T ≤ r := by have := HT.out.1; omega
  have hTb : T ≤ rb := by have := HT.out.1; have := hF3.size; omega
  have HRB : Hid (w.heap.size ≤ rb) := Lib.hid (by have := HF3.out.size; omega)
  have HAL : Hid ((Instr.alloc 32 true (.tuple #[])).run Try.prog w3 = .ok (.pointer (some ⟨rb, 0, none⟩)) (w3.alloc (.cells zeroP.toArray 32))) := Lib.hid (by rw [hrb]; exact alloc_rp w3)
  have hZ : Blk (w3.alloc (.cells zeroP.toArray 32)) rb 32 zeroP := by rw [hrb]; exact Blk.new w3 _ _
  obtain ⟨Y, hY, hYB, hYF⟩ := store_rp hZ (L := cellsP (some ⟨r, 0, none⟩) b.length c (Ps.newS b).h) (cellsP_len rfl) (cellsP_len rfl) cellsP_one
  have HYS := Lib.hid hY
  have HFY : Hid (Fr No w Y) := Lib.hid ((HF3.out.alloc _).trans' hYF (fun i hi e => by have := HRB.out; omega))
  have HPY : Hid (Pu B T p (Ps.newS b) Y) := Lib.hid ((HP3.out.no ((Fr.refl No _).alloc _)).fr hYF (fun k hk e => by have := hk.2; omega))
  have HRY : Hid (R9 T rb (some ⟨r, 0, none⟩) c (Ps.newS b) Y) := Lib.hid ⟨hYB, (hD.no ((Fr.refl No _).alloc _)).fr hYF (fun a ha e => by
    injection ha with ha
    subst ha
    have e2 : r = rb := e
    omega), hTb, fun a ha => by
    injection ha with ha
    subst ha
    exact ⟨hTr, by show r ≠ rb; omega⟩⟩
  clear hY hYB hYF hrb hTr hTb hZ hr1 hr2 hD hF3 HDN HP3 HP HF2
  go_wp2_with (first
    | (refine wpList_execG (.pointer (some ⟨rb, 0, none⟩)) (exec_alloc 32 rfl _ HAL.out) rfl ?_)
    | (refine wpList_store_eq rfl 32 _ _ rfl (.pointer (some ⟨rb, 0, none⟩)) (vP (some ⟨r, 0, none⟩) b.length c (Ps.newS b).h) rfl rfl HYS.out ?_))
  have HLB : Hid ((Ps.newS b).b.length = n) := Lib.hid HN.out.symm
  go_loopw [8] (fun c wr => ∃ (i : Nat) (s : Ps) (ro : Option Addr) (rc : Nat), i ≤ m ∧ c = .int .i64 i ∧ s.b.length = n ∧ Pu B T p s wr ∧ R9 T rb ro rc s wr ∧ Fr No w wr) (fun c _ => m - (intOf c).toNat)
  case atStart => exact ⟨0, Ps.newS b, some ⟨r, 0, none⟩, c, by omega, rfl, HLB.out, HPY.out, HRY.out, HFY.out⟩
  clear HAL HYS HLB HPY HRY HFY HF3
  case round =>
    obtain ⟨i, s, ro, rc, hi, rfl, hs, hP, hR, hF⟩ := hrel
    have HP := Lib.hid hP
    have HR := Lib.hid hR
    have HF := Lib.hid hF
    have HSL := Lib.hid hs
    clear hP hF hs hR
    by_cases hlt : i < m
    · have t3 : (i : Int) < (m : Int) := by omega
      obtain ⟨a, hbo, hok, hat⟩ := HA.out i hlt
      obtain ⟨q, hq⟩ : ∃ q, a.add (i * 4) = q := ⟨_, rfl⟩
      rw [hq] at hat
      obtain ⟨⟨k, xa, xb, xn⟩, hx⟩ : ∃ x, x = xs i := ⟨_, rfl⟩
      rw [← hx] at hok hat
      have hat2 := hat.no HF.out
      have c0 := hat2.c0
      have c1 := hat2.c1
      have c2 := hat2.c2
      have c3 := hat2.c3
      simp only at c0 c1 c2 c3
      have HWA : Hid ((Lit.int .i64 xa).wf = true) := Lib.hid hok.a
      have HWB : Hid ((Lit.int .i64 xb).wf = true) := Lib.hid hok.b
      have HWN : Hid (xn < 18446744073709551616) := Lib.hid hok.n
      obtain ⟨k1, hk1⟩ : ∃ k, k = i + 1 := ⟨_, rfl⟩
      have HK1 : Hid (k1 = i + 1 ∧ k1 ≤ m) := Lib.hid ⟨hk1, by omega⟩
      have s1 : (i : Int) + 1 = (k1 : Int) := by omega
      have l1 : IntKind.i64.wrap (k1 : Int) = (k1 : Int) := IntWalk.i64_in _ (by have := HN40.out; omega)
      have hsl : i * 4 < 9223372036854775807 := by have := HN40.out; omega
      rw [hbo]
      clear hlt hi hok hat hat2 hx hk1 hbo
      by_cases hk0 : k = 0
      · have j0 : (k == 0) = true := by rw [hk0]; rfl
        clear hk0
        have hW := HP.out.wf
        have hwa := HWA.out
        have hxn := HWN.out
        obtain ⟨E, hE⟩ : ∃ E, E = s.resE xa xn := ⟨_, rfl⟩
        obtain ⟨I, hI⟩ : ∃ I, I = s.resI xa xn := ⟨_, rfl⟩
        obtain ⟨s', hs'⟩ : ∃ t, t = s.resS xa xn := ⟨_, rfl⟩
        have hW' : s'.Wf := by rw [hs']; exact (Ps.Wf.res hW xa xn).1
        have hlen : s'.b.length = s.b.length := by rw [hs']; exact Ps.len_res xa xn
        have HCALL := Lib.hid (fun X (hX : Pu B T p s X) => pu_reserve hX xa xn)
        rw [← hE, ← hI, ← hs'] at HCALL
        have HREF := Lib.hid (fun X (hX : DAt ro rc s X) => show Calls Try.prog 11 #[vP ro s.b.length rc s.h, .int .i64 xa, .int .u64 (xn : Int)] X fun e w' => ∃ ao' cap', e = .returned (.tuple #[vP ao' s'.b.length cap' s'.h, .int .i64 (I : Int), .int .i64 E]) ∧ DNext X ro ao' ∧ DAt ao' cap' s' w' ∧ Fr No X w' from by
          have := rreserve_any s ro rc xa xn X hX hW hxn
          rw [← hE, ← hI, ← hs'] at this
          rw [hlen]
          exact this)
        have HSL' : Hid (s'.b.length = n) := Lib.hid (by rw [hlen]; exact HSL.out)
        have HWS := Lib.hid hW
        have HWS' := Lib.hid hW'
        obtain ⟨L, hL⟩ : ∃ L, L = cellsP ro s.b.length rc s.h := ⟨_, rfl⟩
        have HL65 : Hid (L.length = 65) := Lib.hid (by rw [hL]; exact cellsP_len hW.hl)
        have HL := Lib.hid hL
        rw [vP, ← hL] at HREF
        clear hW hwa hxn hE hI hs' hW' hlen hL
        go_wp2_with fail
        refine (HCALL.out _ (HP.out.no ((Fr.refl No _).alloc _))).mono ?_
        rintro e y1 ⟨rfl, hP1, hF1⟩
        have HP1 := Lib.hid hP1
        have HF1 := Lib.hid (btw_no (HF.out.alloc _) hF1 HB.out)
        have HR1 := Lib.hid ((HR.out.no ((Fr.refl No _).alloc _)).btw hF1)
        have hbox := Blk.new wr 36 [.int .i64 k, .int .i64 xa, .int .i64 xb, .int .u64 (xn : Int)]
        have hbn : ¬ Btw B T wr.heap.size := fun e => by have := e.2; have := HR.out.blk.lt; have := HR.out.lo; omega
        have hb1 := hbox.fr hF1 hbn
        obtain ⟨xq, hxq⟩ : ∃ z, z = wr.heap.size := ⟨_, rfl⟩
        rw [← hxq] at hb1 ⊢
        have d1 := hb1.cell (i := 1) (v := .int .i64 xa) rfl
        have d2 := hb1.cell (i := 2) (v := .int .i64 xb) rfl
        have d3 := hb1.cell (i := 3) (v := .int .u64 (xn : Int)) rfl
        have HLD : Hid ((Instr.loadAt 32 (.pointer (some ⟨rb, 0, none⟩))).run Try.prog y1 = .ok (.agg L.toArray) y1) := Lib.hid (by rw [HL.out]; exact load_rp HR1.out.blk (HR1.out.len HWS.out))
        clear hP1 hF1 hbox hbn hb1 hxq c0 c1 c2 c3
        go_wp2_with (refine wpList_load_eq rfl 32 _ rfl (.pointer (some ⟨rb, 0, none⟩)) (.agg L.toArray) rfl HLD.out ?_)
        refine (HREF.out _ HR1.out.row).mono ?_
        rintro e y2 ⟨ro', rc', rfl, hdn, hD2, hF2⟩
        have HP2 := Lib.hid (HP1.out.no hF2)
        have HF2 := Lib.hid (HF1.out.trans hF2)
        have HR2 := Lib.hid (HR1.out.no hF2)
        obtain ⟨y9, hY, hR9, hF9⟩ := HR2.out.put HWS.out HWS'.out (v := y1) (by have := HR1.out.blk.lt; have := HR1.out.lo; omega) HR1.out.blk.lt hdn hD2
        have HST := Lib.hid hY
        have HR9 := Lib.hid hR9
        have HP9 : Hid (Pu B T p s' y9) := Lib.hid (HP2.out.fr hF9 (fun k hk e => by have := hk.2; have := HR1.out.lo; omega))
        have HF9 : Hid (Fr No w y9) := Lib.hid (HF2.out.trans' hF9 (fun i hi e => by have := HRB.out; omega))
        clear hdn hD2 hF2 hY hR9 hF9 d1 d2 d3
        go_wp2_with (refine wpList_store_eq rfl 32 _ _ rfl (.pointer (some ⟨rb, 0, none⟩)) (vP ro' s'.b.length rc' s'.h) rfl rfl HST.out ?_)
        have hWs := HP9.out.wf
        have HTP := Lib.hid (fun X (hX : Pu B T p s' X) => pu_total hX)
        obtain ⟨L', hL'⟩ : ∃ L, L = cellsP ro' s'.b.length rc' s'.h := ⟨_, rfl⟩
        have HTR := Lib.hid (fun X (hX : DAt ro' rc' s' X) => rtotal_any s' ro' rc' X hX hWs)
        rw [vP, ← hL'] at HTR
        obtain ⟨TT, hTT⟩ : ∃ t, t = s'.total := ⟨_, rfl⟩
        rw [← hTT] at HTP HTR
        have HLD' : Hid (∀ X, Fr No y9 X → (Instr.loadAt 32 (.pointer (some ⟨rb, 0, none⟩))).run Try.prog X = .ok (.agg L'.toArray) X) := Lib.hid (fun X hX => by
          rw [hL']
          exact load_rp ((HR9.out.no hX).blk) (HR9.out.len hWs))
        clear hWs hL' hTT
        go_wp2_with fail
        refine wp_region_held_drew (S := (fun X => Fr No y9 X)) (by kernel_rfl) ((Fr.refl _ y9).drew) (fun hHeld => ?_)
        refine takeD (i := 0) (d := some 131) (v := ?_) rfl (by kernel_rfl) (by kernel_rfl) (by kernel_rfl) (by kernel_rfl) (fun _ _ _ h => h) (Or.inl ⟨by kernel_rfl, fun X hX => Or.inl ?_⟩) (by assumption) ?_
        rotate_left
        · first | (go_simp; done) | (go_simp; with_reducible rfl)
        (try simp only [Act.put]); (try simp only [List.setIfInBounds_toArray]); (try simp only [List.set_cons_succ]); (try simp only [List.set_cons_zero])
        refine takeD (i := 1) (d := some 132) (v := ?_) rfl (by kernel_rfl) (by kernel_rfl) (by kernel_rfl) (by kernel_rfl) (fun _ _ _ h => h) (Or.inl ⟨by kernel_rfl, fun X hX => Or.inl ?_⟩) (by assumption) ?_
        rotate_left
        · first | (go_simp; done) | (go_simp; with_reducible rfl)
        (try simp only [Act.put]); (try simp only [List.setIfInBounds_toArray]); (try simp only [List.set_cons_succ]); (try simp only [List.set_cons_zero])
        refine takeD (i := 2) (d := some 133) (v := ?_) rfl (by kernel_rfl) (by kernel_rfl) (by kernel_rfl) (by kernel_rfl) (fun _ _ _ h => h) (Or.inl ⟨by kernel_rfl, fun X hX => Or.inl ?_⟩) (by assumption) ?_
        rotate_left
        · first | (go_simp; done) | (go_simp; with_reducible rfl)
        (try simp only [Act.put]); (try simp only [List.setIfInBounds_toArray]); (try simp only [List.set_cons_succ]); (try simp only [List.set_cons_zero])
        refine takeD (i := 3) (d := some 134) (v := ?_) rfl (by kernel_rfl) (by kernel_rfl) (by kernel_rfl) (by kernel_rfl) (fun _ _ _ h => h) (Or.inl ⟨by kernel_rfl, fun X hX => Or.inl ?_⟩) (by assumption) ?_
        rotate_left
        · first | (go_simp; done) | (go_simp; with_reducible rfl)
        (try simp only [Act.put]); (try simp only [List.setIfInBounds_toArray]); (try simp only [List.set_cons_succ]); (try simp only [List.set_cons_zero])
        refine takeD (i := 4) (d := some 135) (v := ?_) rfl (by kernel_rfl) (by kernel_rfl) (by kernel_rfl) (by kernel_rfl) (fun _ _ _ h => h) (Or.inl ⟨by kernel_rfl, fun X hX => Or.inl ?_⟩) (by assumption) ?_
        rotate_left
        · first | (go_simp; done) | (go_simp; with_reducible rfl)
        (try simp only [Act.put]); (try simp only [List.setIfInBounds_toArray]); (try simp only [List.set_cons_succ]); (try simp only [List.set_cons_zero])
        refine takeD (i := 5) (d := some 136) (v := ?_) rfl (by kernel_rfl) (by kernel_rfl) (by kernel_rfl) (by kernel_rfl) (fun _ _ _ h => h) (Or.inl ⟨by kernel_rfl, fun X hX => Or.inl ?_⟩) (by assumption) ?_
        rotate_left
        · first | (go_simp; done) | (go_simp; with_reducible rfl)
        (try simp only [Act.put]); (try simp only [List.setIfInBounds_toArray]); (try simp only [List.set_cons_succ]); (try simp only [List.set_cons_zero])
        refine takeD (i := 6) (d := some 137) (v := ?_) rfl (by kernel_rfl) (by kernel_rfl) (by kernel_rfl) (by kernel_rfl) (fun _ _ _ h => h) (Or.inl ⟨by kernel_rfl, fun X hX => Or.inl ?_⟩) (by assumption) ?_
        rotate_left
        · first | (go_simp; done) | (go_simp; with_reducible rfl)
        (try simp only [Act.put]); (try simp only [List.setIfInBounds_toArray]); (try simp only [List.set_cons_succ]); (try simp only [List.set_cons_zero])
        refine takeD (i := 7) (d := some 138) (v := ?_) rfl (by kernel_rfl) (by kernel_rfl) (by kernel_rfl) (by kernel_rfl) (fun _ _ _ h => h) (Or.inl ⟨by kernel_rfl, fun X hX => Or.inl ?_⟩) (by assumption) ?_
        rotate_left
        · first | (go_simp; done) | (go_simp; with_reducible rfl)
        (try simp only [Act.put]); (try simp only [List.setIfInBounds_toArray]); (try simp only [List.set_cons_succ]); (try simp only [List.set_cons_zero])
        refine takeD (i := 8) (d := some 139) (v := ?_) rfl (by kernel_rfl) (by kernel_rfl) (by kernel_rfl) (by kernel_rfl) (fun _ _ _ h => h) (Or.inl ⟨by kernel_rfl, fun X hX => Or.inl ?_⟩) (by assumption) ?_
        rotate_left
        · first | (go_simp; done) | (go_simp; with_reducible rfl)
        (try simp only [Act.put]); (try simp only [List.setIfInBounds_toArray]); (try simp only [List.set_cons_succ]); (try simp only [List.set_cons_zero])
        refine takeD (i := 9) (d := some 140) (v := ?_) rfl (by kernel_rfl) (by kernel_rfl) (by kernel_rfl) (by kernel_rfl) (fun _ _ _ h => h) (Or.inl ⟨by kernel_rfl, fun X hX => Or.inl ?_⟩) (by assumption) ?_
        rotate_left
        · first | (go_simp; done) | (go_simp; with_reducible rfl)
        (try simp only [Act.put]); (try simp only [List.setIfInBounds_toArray]); (try simp only [List.set_cons_succ]); (try simp only [List.set_cons_zero])
        refine takeD (i := 11) (d := some 142) (v := .agg L'.toArray) rfl (by kernel_rfl) (by kernel_rfl) (by kernel_rfl) (by kernel_rfl) (fun _ _ _ h => h) (Or.inl ⟨by kernel_rfl, fun X hX => Or.inl (exec_load 32 (.tmp 6) rfl _ _ rfl (HLD'.out X hX))⟩) (by assumption) ?_
        (try simp only [Act.put]); (try simp only [List.setIfInBounds_toArray]); (try simp only [List.set_cons_succ]); (try simp only [List.set_cons_zero])
        refine wpAnyH_ready (rs := [10]) (by kernel_rfl) (by simp) ?_
        refine AllReadyH.cons rfl (fun K hK => ?_) AllReadyH.nil
        rw [if_pos (by kernel_rfl)]
        go_simp
        refine (HTP.out _ (HP9.out.no hHeld)).mono ?_
        rintro e v1 ⟨rfl, hv⟩
        have V1 := Lib.hid (hHeld.trans hv)
        clear hv
        refine hK.out _ _ (V1.out) (fun hHeld => ?_)
        clear hK K
        (try simp only [Act.put]); (try simp only [List.setIfInBounds_toArray]); (try simp only [List.set_cons_succ]); (try simp only [List.set_cons_zero])
        refine wpAnyH_ready (rs := [12]) (by kernel_rfl) (by simp) ?_
        refine AllReadyH.cons rfl (fun K hK => ?_) AllReadyH.nil
        rw [if_pos (by kernel_rfl)]
        go_simp
        refine (HTR.out _ (HR9.out.row.no hHeld)).mono ?_
        rintro e v2 ⟨rfl, hv⟩
        have V2 := Lib.hid (hHeld.trans hv)
        clear hv
        refine hK.out _ _ (V2.out) (fun hHeld => ?_)
        clear hK K
        (try simp only [Act.put]); (try simp only [List.setIfInBounds_toArray]); (try simp only [List.set_cons_succ]); (try simp only [List.set_cons_zero])
        refine takeD (i := 13) (d := some 144) (v := ?_) rfl (by kernel_rfl) (by kernel_rfl) (by kernel_rfl) (by kernel_rfl) (fun _ _ _ h => h) (Or.inl ⟨by kernel_rfl, fun X hX => Or.inl ?_⟩) (by assumption) ?_
        rotate_left
        · first | (go_simp; done) | (go_simp; with_reducible rfl)
        (try simp only [Act.put]); (try simp only [List.setIfInBounds_toArray]); (try simp only [List.set_cons_succ]); (try simp only [List.set_cons_zero])
        refine takeD (i := 14) (d := some 145) (v := ?_) rfl (by kernel_rfl) (by kernel_rfl) (by kernel_rfl) (by kernel_rfl) (fun _ _ _ h => h) (Or.inl ⟨by kernel_rfl, fun X hX => Or.inl ?_⟩) (by assumption) ?_
        rotate_left
        · first | (go_simp; done) | (go_simp; with_reducible rfl)
        (try simp only [Act.put]); (try simp only [List.setIfInBounds_toArray]); (try simp only [List.set_cons_succ]); (try simp only [List.set_cons_zero])
        refine wpAnyH_done (by kernel_rfl) ?_ _
        clear hHeld
        go_wp2
        exact ⟨⟨k1, s', ro', rc', HK1.out.2, rfl, HSL'.out, HP9.out.no V2.out, HR9.out.no V2.out, HF9.out.trans V2.out⟩, by have := HK1.out; simp [intOf]; omega⟩
      · skip
        by_cases hk1 : k = 1
        · have j1 : (k == 1) = true := by rw [hk1]; rfl
          have j0 : (k == 0) = false := by rw [hk1]; rfl
          clear hk0 hk1
          have hW := HP.out.wf
          have hwa := HWA.out
          have hxn := HWN.out
          obtain ⟨E, hE⟩ : ∃ E, E = s.resE xa xn := ⟨_, rfl⟩
          obtain ⟨I, hI⟩ : ∃ I, I = s.resI xa xn := ⟨_, rfl⟩
          obtain ⟨s', hs'⟩ : ∃ t, t = s.resS xa xn := ⟨_, rfl⟩
          have hW' : s'.Wf := by rw [hs']; exact (Ps.Wf.res hW xa xn).1
          have hlen : s'.b.length = s.b.length := by rw [hs']; exact Ps.len_res xa xn
          have HCALL := Lib.hid (fun X (hX : Pu B T p s X) => pu_reserve hX xa xn)
          rw [← hE, ← hI, ← hs'] at HCALL
          have HREF := Lib.hid (fun X (hX : DAt ro rc s X) => show Calls Try.prog 11 #[vP ro s.b.length rc s.h, .int .i64 xa, .int .u64 (xn : Int)] X fun e w' => ∃ ao' cap', e = .returned (.tuple #[vP ao' s'.b.length cap' s'.h, .int .i64 (I : Int), .int .i64 E]) ∧ DNext X ro ao' ∧ DAt ao' cap' s' w' ∧ Fr No X w' from by
            have := rreserve_any s ro rc xa xn X hX hW hxn
            rw [← hE, ← hI, ← hs'] at this
            rw [hlen]
            exact this)
          have HSL' : Hid (s'.b.length = n) := Lib.hid (by rw [hlen]; exact HSL.out)
          have HWS := Lib.hid hW
          have HWS' := Lib.hid hW'
          obtain ⟨L, hL⟩ : ∃ L, L = cellsP ro s.b.length rc s.h := ⟨_, rfl⟩
          have HL65 : Hid (L.length = 65) := Lib.hid (by rw [hL]; exact cellsP_len hW.hl)
          have HL := Lib.hid hL
          rw [vP, ← hL] at HREF
          clear hW hwa hxn hE hI hs' hW' hlen hL
          go_wp2_with fail
          refine (HCALL.out _ (HP.out.no ((Fr.refl No _).alloc _))).mono ?_
          rintro e y1 ⟨rfl, hP1, hF1⟩
          have HP1 := Lib.hid hP1
          have HF1 := Lib.hid (btw_no (HF.out.alloc _) hF1 HB.out)
          have HR1 := Lib.hid ((HR.out.no ((Fr.refl No _).alloc _)).btw hF1)
          have hbox := Blk.new wr 36 [.int .i64 k, .int .i64 xa, .int .i64 xb, .int .u64 (xn : Int)]
          have hbn : ¬ Btw B T wr.heap.size := fun e => by have := e.2; have := HR.out.blk.lt; have := HR.out.lo; omega
          have hb1 := hbox.fr hF1 hbn
          obtain ⟨xq, hxq⟩ : ∃ z, z = wr.heap.size := ⟨_, rfl⟩
          rw [← hxq] at hb1 ⊢
          have d1 := hb1.cell (i := 1) (v := .int .i64 xa) rfl
          have d2 := hb1.cell (i := 2) (v := .int .i64 xb) rfl
          have d3 := hb1.cell (i := 3) (v := .int .u64 (xn : Int)) rfl
          have HLD : Hid ((Instr.loadAt 32 (.pointer (some ⟨rb, 0, none⟩))).run Try.prog y1 = .ok (.agg L.toArray) y1) := Lib.hid (by rw [HL.out]; exact load_rp HR1.out.blk (HR1.out.len HWS.out))
          clear hP1 hF1 hbox hbn hb1 hxq c0 c1 c2 c3
          go_wp2_with (refine wpList_load_eq rfl 32 _ rfl (.pointer (some ⟨rb, 0, none⟩)) (.agg L.toArray) rfl HLD.out ?_)
          refine (HREF.out _ HR1.out.row).mono ?_
          rintro e y2 ⟨ro', rc', rfl, hdn, hD2, hF2⟩
          have HP2 := Lib.hid (HP1.out.no hF2)
          have HF2 := Lib.hid (HF1.out.trans hF2)
          have HR2 := Lib.hid (HR1.out.no hF2)
          obtain ⟨y9, hY, hR9, hF9⟩ := HR2.out.put HWS.out HWS'.out (v := y1) (by have := HR1.out.blk.lt; have := HR1.out.lo; omega) HR1.out.blk.lt hdn hD2
          have HST := Lib.hid hY
          have HR9 := Lib.hid hR9
          have HP9 : Hid (Pu B T p s' y9) := Lib.hid (HP2.out.fr hF9 (fun k hk e => by have := hk.2; have := HR1.out.lo; omega))
          have HF9 : Hid (Fr No w y9) := Lib.hid (HF2.out.trans' hF9 (fun i hi e => by have := HRB.out; omega))
          clear hdn hD2 hF2 hY hR9 hF9 d1 d2 d3
          go_wp2_with (refine wpList_store_eq rfl 32 _ _ rfl (.pointer (some ⟨rb, 0, none⟩)) (vP ro' s'.b.length rc' s'.h) rfl rfl HST.out ?_)
          have hWs := HP9.out.wf
          have HTP := Lib.hid (fun X (hX : Pu B T p s' X) => pu_total hX)
          obtain ⟨L', hL'⟩ : ∃ L, L = cellsP ro' s'.b.length rc' s'.h := ⟨_, rfl⟩
          have HTR := Lib.hid (fun X (hX : DAt ro' rc' s' X) => rtotal_any s' ro' rc' X hX hWs)
          rw [vP, ← hL'] at HTR
          obtain ⟨TT, hTT⟩ : ∃ t, t = s'.total := ⟨_, rfl⟩
          rw [← hTT] at HTP HTR
          have HLD' : Hid (∀ X, Fr No y9 X → (Instr.loadAt 32 (.pointer (some ⟨rb, 0, none⟩))).run Try.prog X = .ok (.agg L'.toArray) X) := Lib.hid (fun X hX => by
            rw [hL']
            exact load_rp ((HR9.out.no hX).blk) (HR9.out.len hWs))
          clear hWs hL' hTT
          go_wp2_with fail
          refine wp_region_held_drew (S := (fun X => Fr No y9 X)) (by kernel_rfl) ((Fr.refl _ y9).drew) (fun hHeld => ?_)
          refine takeD (i := 0) (d := some 131) (v := ?_) rfl (by kernel_rfl) (by kernel_rfl) (by kernel_rfl) (by kernel_rfl) (fun _ _ _ h => h) (Or.inl ⟨by kernel_rfl, fun X hX => Or.inl ?_⟩) (by assumption) ?_
          rotate_left
          · first | (go_simp; done) | (go_simp; with_reducible rfl)
          (try simp only [Act.put]); (try simp only [List.setIfInBounds_toArray]); (try simp only [List.set_cons_succ]); (try simp only [List.set_cons_zero])
          refine takeD (i := 1) (d := some 132) (v := ?_) rfl (by kernel_rfl) (by kernel_rfl) (by kernel_rfl) (by kernel_rfl) (fun _ _ _ h => h) (Or.inl ⟨by kernel_rfl, fun X hX => Or.inl ?_⟩) (by assumption) ?_
          rotate_left
          · first | (go_simp; done) | (go_simp; with_reducible rfl)
          (try simp only [Act.put]); (try simp only [List.setIfInBounds_toArray]); (try simp only [List.set_cons_succ]); (try simp only [List.set_cons_zero])
          refine takeD (i := 2) (d := some 133) (v := ?_) rfl (by kernel_rfl) (by kernel_rfl) (by kernel_rfl) (by kernel_rfl) (fun _ _ _ h => h) (Or.inl ⟨by kernel_rfl, fun X hX => Or.inl ?_⟩) (by assumption) ?_
          rotate_left
          · first | (go_simp; done) | (go_simp; with_reducible rfl)
          (try simp only [Act.put]); (try simp only [List.setIfInBounds_toArray]); (try simp only [List.set_cons_succ]); (try simp only [List.set_cons_zero])
          refine takeD (i := 3) (d := some 134) (v := ?_) rfl (by kernel_rfl) (by kernel_rfl) (by kernel_rfl) (by kernel_rfl) (fun _ _ _ h => h) (Or.inl ⟨by kernel_rfl, fun X hX => Or.inl ?_⟩) (by assumption) ?_
          rotate_left
          · first | (go_simp; done) | (go_simp; with_reducible rfl)
          (try simp only [Act.put]); (try simp only [List.setIfInBounds_toArray]); (try simp only [List.set_cons_succ]); (try simp only [List.set_cons_zero])
          refine takeD (i := 4) (d := some 135) (v := ?_) rfl (by kernel_rfl) (by kernel_rfl) (by kernel_rfl) (by kernel_rfl) (fun _ _ _ h => h) (Or.inl ⟨by kernel_rfl, fun X hX => Or.inl ?_⟩) (by assumption) ?_
          rotate_left
          · first | (go_simp; done) | (go_simp; with_reducible rfl)
          (try simp only [Act.put]); (try simp only [List.setIfInBounds_toArray]); (try simp only [List.set_cons_succ]); (try simp only [List.set_cons_zero])
          refine takeD (i := 5) (d := some 136) (v := ?_) rfl (by kernel_rfl) (by kernel_rfl) (by kernel_rfl) (by kernel_rfl) (fun _ _ _ h => h) (Or.inl ⟨by kernel_rfl, fun X hX => Or.inl ?_⟩) (by assumption) ?_
          rotate_left
          · first | (go_simp; done) | (go_simp; with_reducible rfl)
          (try simp only [Act.put]); (try simp only [List.setIfInBounds_toArray]); (try simp only [List.set_cons_succ]); (try simp only [List.set_cons_zero])
          refine takeD (i := 6) (d := some 137) (v := ?_) rfl (by kernel_rfl) (by kernel_rfl) (by kernel_rfl) (by kernel_rfl) (fun _ _ _ h => h) (Or.inl ⟨by kernel_rfl, fun X hX => Or.inl ?_⟩) (by assumption) ?_
          rotate_left
          · first | (go_simp; done) | (go_simp; with_reducible rfl)
          (try simp only [Act.put]); (try simp only [List.setIfInBounds_toArray]); (try simp only [List.set_cons_succ]); (try simp only [List.set_cons_zero])
          refine takeD (i := 7) (d := some 138) (v := ?_) rfl (by kernel_rfl) (by kernel_rfl) (by kernel_rfl) (by kernel_rfl) (fun _ _ _ h => h) (Or.inl ⟨by kernel_rfl, fun X hX => Or.inl ?_⟩) (by assumption) ?_
          rotate_left
          · first | (go_simp; done) | (go_simp; with_reducible rfl)
          (try simp only [Act.put]); (try simp only [List.setIfInBounds_toArray]); (try simp only [List.set_cons_succ]); (try simp only [List.set_cons_zero])
          refine takeD (i := 8) (d := some 139) (v := ?_) rfl (by kernel_rfl) (by kernel_rfl) (by kernel_rfl) (by kernel_rfl) (fun _ _ _ h => h) (Or.inl ⟨by kernel_rfl, fun X hX => Or.inl ?_⟩) (by assumption) ?_
          rotate_left
          · first | (go_simp; done) | (go_simp; with_reducible rfl)
          (try simp only [Act.put]); (try simp only [List.setIfInBounds_toArray]); (try simp only [List.set_cons_succ]); (try simp only [List.set_cons_zero])
          refine takeD (i := 9) (d := some 140) (v := ?_) rfl (by kernel_rfl) (by kernel_rfl) (by kernel_rfl) (by kernel_rfl) (fun _ _ _ h => h) (Or.inl ⟨by kernel_rfl, fun X hX => Or.inl ?_⟩) (by assumption) ?_
          rotate_left
          · first | (go_simp; done) | (go_simp; with_reducible rfl)
          (try simp only [Act.put]); (try simp only [List.setIfInBounds_toArray]); (try simp only [List.set_cons_succ]); (try simp only [List.set_cons_zero])
          refine takeD (i := 11) (d := some 142) (v := .agg L'.toArray) rfl (by kernel_rfl) (by kernel_rfl) (by kernel_rfl) (by kernel_rfl) (fun _ _ _ h => h) (Or.inl ⟨by kernel_rfl, fun X hX => Or.inl (exec_load 32 (.tmp 6) rfl _ _ rfl (HLD'.out X hX))⟩) (by assumption) ?_
          (try simp only [Act.put]); (try simp only [List.setIfInBounds_toArray]); (try simp only [List.set_cons_succ]); (try simp only [List.set_cons_zero])
          refine wpAnyH_ready (rs := [10]) (by kernel_rfl) (by simp) ?_
          refine AllReadyH.cons rfl (fun K hK => ?_) AllReadyH.nil
          rw [if_pos (by kernel_rfl)]
          go_simp
          refine (HTP.out _ (HP9.out.no hHeld)).mono ?_
          rintro e v1 ⟨rfl, hv⟩
          have V1 := Lib.hid (hHeld.trans hv)
          clear hv
          refine hK.out _ _ (V1.out) (fun hHeld => ?_)
          clear hK K
          (try simp only [Act.put]); (try simp only [List.setIfInBounds_toArray]); (try simp only [List.set_cons_succ]); (try simp only [List.set_cons_zero])
          refine wpAnyH_ready (rs := [12]) (by kernel_rfl) (by simp) ?_
          refine AllReadyH.cons rfl (fun K hK => ?_) AllReadyH.nil
          rw [if_pos (by kernel_rfl)]
          go_simp
          refine (HTR.out _ (HR9.out.row.no hHeld)).mono ?_
          rintro e v2 ⟨rfl, hv⟩
          have V2 := Lib.hid (hHeld.trans hv)
          clear hv
          refine hK.out _ _ (V2.out) (fun hHeld => ?_)
          clear hK K
          (try simp only [Act.put]); (try simp only [List.setIfInBounds_toArray]); (try simp only [List.set_cons_succ]); (try simp only [List.set_cons_zero])
          refine takeD (i := 13) (d := some 144) (v := ?_) rfl (by kernel_rfl) (by kernel_rfl) (by kernel_rfl) (by kernel_rfl) (fun _ _ _ h => h) (Or.inl ⟨by kernel_rfl, fun X hX => Or.inl ?_⟩) (by assumption) ?_
          rotate_left
          · first | (go_simp; done) | (go_simp; with_reducible rfl)
          (try simp only [Act.put]); (try simp only [List.setIfInBounds_toArray]); (try simp only [List.set_cons_succ]); (try simp only [List.set_cons_zero])
          refine takeD (i := 14) (d := some 145) (v := ?_) rfl (by kernel_rfl) (by kernel_rfl) (by kernel_rfl) (by kernel_rfl) (fun _ _ _ h => h) (Or.inl ⟨by kernel_rfl, fun X hX => Or.inl ?_⟩) (by assumption) ?_
          rotate_left
          · first | (go_simp; done) | (go_simp; with_reducible rfl)
          (try simp only [Act.put]); (try simp only [List.setIfInBounds_toArray]); (try simp only [List.set_cons_succ]); (try simp only [List.set_cons_zero])
          refine wpAnyH_done (by kernel_rfl) ?_ _
          clear hHeld
          go_wp2
          exact ⟨⟨k1, s', ro', rc', HK1.out.2, rfl, HSL'.out, HP9.out.no V2.out, HR9.out.no V2.out, HF9.out.trans V2.out⟩, by have := HK1.out; simp [intOf]; omega⟩
        · skip
          by_cases hk2 : k = 2
          · have j2 : (k == 2) = true := by rw [hk2]; rfl
            have j0 : (k == 0) = false := by rw [hk2]; rfl
            have j1 : (k == 1) = false := by rw [hk2]; rfl
            clear hk0 hk1 hk2
            have hW := HP.out.wf
            have hwa := HWA.out
            have hxn := HWN.out
            obtain ⟨E, hE⟩ : ∃ E, E = s.comE xa xb := ⟨_, rfl⟩
            obtain ⟨s', hs'⟩ : ∃ t, t = s.comS xa xb := ⟨_, rfl⟩
            have hW' : s'.Wf := by rw [hs']; exact (Ps.Wf.com hW xa xb).1
            have hlen : s'.b.length = s.b.length := by rw [hs']; exact Ps.len_com xa xb
            have HCALL := Lib.hid (fun X (hX : Pu B T p s X) => pu_commit hX xa xb hwa)
            rw [← hE, ← hs'] at HCALL
            have HREF := Lib.hid (fun X (hX : DAt ro rc s X) => show Calls Try.prog 13 #[vP ro s.b.length rc s.h, .int .i64 xa, .int .i64 xb] X fun e w' => ∃ ao' cap', e = .returned (.tuple #[vP ao' s'.b.length cap' s'.h, .int .i64 E]) ∧ DNext X ro ao' ∧ DAt ao' cap' s' w' ∧ Fr No X w' from by
              have := rcommit_any s ro rc xa xb X hX hW
              rw [← hE, ← hs'] at this
              exact this)
            have HSL' : Hid (s'.b.length = n) := Lib.hid (by rw [hlen]; exact HSL.out)
            have HWS := Lib.hid hW
            have HWS' := Lib.hid hW'
            obtain ⟨L, hL⟩ : ∃ L, L = cellsP ro s.b.length rc s.h := ⟨_, rfl⟩
            have HL65 : Hid (L.length = 65) := Lib.hid (by rw [hL]; exact cellsP_len hW.hl)
            have HL := Lib.hid hL
            rw [vP, ← hL] at HREF
            clear hW hwa hxn hE hs' hW' hlen hL
            go_wp2_with fail
            refine (HCALL.out _ (HP.out.no ((Fr.refl No _).alloc _))).mono ?_
            rintro e y1 ⟨rfl, hP1, hF1⟩
            have HP1 := Lib.hid hP1
            have HF1 := Lib.hid (btw_no (HF.out.alloc _) hF1 HB.out)
            have HR1 := Lib.hid ((HR.out.no ((Fr.refl No _).alloc _)).btw hF1)
            have hbox := Blk.new wr 36 [.int .i64 k, .int .i64 xa, .int .i64 xb, .int .u64 (xn : Int)]
            have hbn : ¬ Btw B T wr.heap.size := fun e => by have := e.2; have := HR.out.blk.lt; have := HR.out.lo; omega
            have hb1 := hbox.fr hF1 hbn
            obtain ⟨xq, hxq⟩ : ∃ z, z = wr.heap.size := ⟨_, rfl⟩
            rw [← hxq] at hb1 ⊢
            have d1 := hb1.cell (i := 1) (v := .int .i64 xa) rfl
            have d2 := hb1.cell (i := 2) (v := .int .i64 xb) rfl
            have d3 := hb1.cell (i := 3) (v := .int .u64 (xn : Int)) rfl
            have HLD : Hid ((Instr.loadAt 32 (.pointer (some ⟨rb, 0, none⟩))).run Try.prog y1 = .ok (.agg L.toArray) y1) := Lib.hid (by rw [HL.out]; exact load_rp HR1.out.blk (HR1.out.len HWS.out))
            clear hP1 hF1 hbox hbn hb1 hxq c0 c1 c2 c3
            go_wp2_with (refine wpList_load_eq rfl 32 _ rfl (.pointer (some ⟨rb, 0, none⟩)) (.agg L.toArray) rfl HLD.out ?_)
            refine (HREF.out _ HR1.out.row).mono ?_
            rintro e y2 ⟨ro', rc', rfl, hdn, hD2, hF2⟩
            have HP2 := Lib.hid (HP1.out.no hF2)
            have HF2 := Lib.hid (HF1.out.trans hF2)
            have HR2 := Lib.hid (HR1.out.no hF2)
            obtain ⟨y9, hY, hR9, hF9⟩ := HR2.out.put HWS.out HWS'.out (v := y1) (by have := HR1.out.blk.lt; have := HR1.out.lo; omega) HR1.out.blk.lt hdn hD2
            have HST := Lib.hid hY
            have HR9 := Lib.hid hR9
            have HP9 : Hid (Pu B T p s' y9) := Lib.hid (HP2.out.fr hF9 (fun k hk e => by have := hk.2; have := HR1.out.lo; omega))
            have HF9 : Hid (Fr No w y9) := Lib.hid (HF2.out.trans' hF9 (fun i hi e => by have := HRB.out; omega))
            clear hdn hD2 hF2 hY hR9 hF9 d1 d2 d3
            go_wp2_with (refine wpList_store_eq rfl 32 _ _ rfl (.pointer (some ⟨rb, 0, none⟩)) (vP ro' s'.b.length rc' s'.h) rfl rfl HST.out ?_)
            have hWs := HP9.out.wf
            have HTP := Lib.hid (fun X (hX : Pu B T p s' X) => pu_total hX)
            obtain ⟨L', hL'⟩ : ∃ L, L = cellsP ro' s'.b.length rc' s'.h := ⟨_, rfl⟩
            have HTR := Lib.hid (fun X (hX : DAt ro' rc' s' X) => rtotal_any s' ro' rc' X hX hWs)
            rw [vP, ← hL'] at HTR
            obtain ⟨TT, hTT⟩ : ∃ t, t = s'.total := ⟨_, rfl⟩
            rw [← hTT] at HTP HTR
            have HLD' : Hid (∀ X, Fr No y9 X → (Instr.loadAt 32 (.pointer (some ⟨rb, 0, none⟩))).run Try.prog X = .ok (.agg L'.toArray) X) := Lib.hid (fun X hX => by
              rw [hL']
              exact load_rp ((HR9.out.no hX).blk) (HR9.out.len hWs))
            clear hWs hL' hTT
            go_wp2_with fail
            refine wp_region_held_drew (S := (fun X => Fr No y9 X)) (by kernel_rfl) ((Fr.refl _ y9).drew) (fun hHeld => ?_)
            refine takeD (i := 0) (d := some 131) (v := ?_) rfl (by kernel_rfl) (by kernel_rfl) (by kernel_rfl) (by kernel_rfl) (fun _ _ _ h => h) (Or.inl ⟨by kernel_rfl, fun X hX => Or.inl ?_⟩) (by assumption) ?_
            rotate_left
            · first | (go_simp; done) | (go_simp; with_reducible rfl)
            (try simp only [Act.put]); (try simp only [List.setIfInBounds_toArray]); (try simp only [List.set_cons_succ]); (try simp only [List.set_cons_zero])
            refine takeD (i := 1) (d := some 132) (v := ?_) rfl (by kernel_rfl) (by kernel_rfl) (by kernel_rfl) (by kernel_rfl) (fun _ _ _ h => h) (Or.inl ⟨by kernel_rfl, fun X hX => Or.inl ?_⟩) (by assumption) ?_
            rotate_left
            · first | (go_simp; done) | (go_simp; with_reducible rfl)
            (try simp only [Act.put]); (try simp only [List.setIfInBounds_toArray]); (try simp only [List.set_cons_succ]); (try simp only [List.set_cons_zero])
            refine takeD (i := 2) (d := some 133) (v := ?_) rfl (by kernel_rfl) (by kernel_rfl) (by kernel_rfl) (by kernel_rfl) (fun _ _ _ h => h) (Or.inl ⟨by kernel_rfl, fun X hX => Or.inl ?_⟩) (by assumption) ?_
            rotate_left
            · first | (go_simp; done) | (go_simp; with_reducible rfl)
            (try simp only [Act.put]); (try simp only [List.setIfInBounds_toArray]); (try simp only [List.set_cons_succ]); (try simp only [List.set_cons_zero])
            refine takeD (i := 3) (d := some 134) (v := ?_) rfl (by kernel_rfl) (by kernel_rfl) (by kernel_rfl) (by kernel_rfl) (fun _ _ _ h => h) (Or.inl ⟨by kernel_rfl, fun X hX => Or.inl ?_⟩) (by assumption) ?_
            rotate_left
            · first | (go_simp; done) | (go_simp; with_reducible rfl)
            (try simp only [Act.put]); (try simp only [List.setIfInBounds_toArray]); (try simp only [List.set_cons_succ]); (try simp only [List.set_cons_zero])
            refine takeD (i := 4) (d := some 135) (v := ?_) rfl (by kernel_rfl) (by kernel_rfl) (by kernel_rfl) (by kernel_rfl) (fun _ _ _ h => h) (Or.inl ⟨by kernel_rfl, fun X hX => Or.inl ?_⟩) (by assumption) ?_
            rotate_left
            · first | (go_simp; done) | (go_simp; with_reducible rfl)
            (try simp only [Act.put]); (try simp only [List.setIfInBounds_toArray]); (try simp only [List.set_cons_succ]); (try simp only [List.set_cons_zero])
            refine takeD (i := 5) (d := some 136) (v := ?_) rfl (by kernel_rfl) (by kernel_rfl) (by kernel_rfl) (by kernel_rfl) (fun _ _ _ h => h) (Or.inl ⟨by kernel_rfl, fun X hX => Or.inl ?_⟩) (by assumption) ?_
            rotate_left
            · first | (go_simp; done) | (go_simp; with_reducible rfl)
            (try simp only [Act.put]); (try simp only [List.setIfInBounds_toArray]); (try simp only [List.set_cons_succ]); (try simp only [List.set_cons_zero])
            refine takeD (i := 6) (d := some 137) (v := ?_) rfl (by kernel_rfl) (by kernel_rfl) (by kernel_rfl) (by kernel_rfl) (fun _ _ _ h => h) (Or.inl ⟨by kernel_rfl, fun X hX => Or.inl ?_⟩) (by assumption) ?_
            rotate_left
            · first | (go_simp; done) | (go_simp; with_reducible rfl)
            (try simp only [Act.put]); (try simp only [List.setIfInBounds_toArray]); (try simp only [List.set_cons_succ]); (try simp only [List.set_cons_zero])
            refine takeD (i := 7) (d := some 138) (v := ?_) rfl (by kernel_rfl) (by kernel_rfl) (by kernel_rfl) (by kernel_rfl) (fun _ _ _ h => h) (Or.inl ⟨by kernel_rfl, fun X hX => Or.inl ?_⟩) (by assumption) ?_
            rotate_left
            · first | (go_simp; done) | (go_simp; with_reducible rfl)
            (try simp only [Act.put]); (try simp only [List.setIfInBounds_toArray]); (try simp only [List.set_cons_succ]); (try simp only [List.set_cons_zero])
            refine takeD (i := 8) (d := some 139) (v := ?_) rfl (by kernel_rfl) (by kernel_rfl) (by kernel_rfl) (by kernel_rfl) (fun _ _ _ h => h) (Or.inl ⟨by kernel_rfl, fun X hX => Or.inl ?_⟩) (by assumption) ?_
            rotate_left
            · first | (go_simp; done) | (go_simp; with_reducible rfl)
            (try simp only [Act.put]); (try simp only [List.setIfInBounds_toArray]); (try simp only [List.set_cons_succ]); (try simp only [List.set_cons_zero])
            refine takeD (i := 9) (d := some 140) (v := ?_) rfl (by kernel_rfl) (by kernel_rfl) (by kernel_rfl) (by kernel_rfl) (fun _ _ _ h => h) (Or.inl ⟨by kernel_rfl, fun X hX => Or.inl ?_⟩) (by assumption) ?_
            rotate_left
            · first | (go_simp; done) | (go_simp; with_reducible rfl)
            (try simp only [Act.put]); (try simp only [List.setIfInBounds_toArray]); (try simp only [List.set_cons_succ]); (try simp only [List.set_cons_zero])
            refine takeD (i := 11) (d := some 142) (v := .agg L'.toArray) rfl (by kernel_rfl) (by kernel_rfl) (by kernel_rfl) (by kernel_rfl) (fun _ _ _ h => h) (Or.inl ⟨by kernel_rfl, fun X hX => Or.inl (exec_load 32 (.tmp 6) rfl _ _ rfl (HLD'.out X hX))⟩) (by assumption) ?_
            (try simp only [Act.put]); (try simp only [List.setIfInBounds_toArray]); (try simp only [List.set_cons_succ]); (try simp only [List.set_cons_zero])
            refine wpAnyH_ready (rs := [10]) (by kernel_rfl) (by simp) ?_
            refine AllReadyH.cons rfl (fun K hK => ?_) AllReadyH.nil
            rw [if_pos (by kernel_rfl)]
            go_simp
            refine (HTP.out _ (HP9.out.no hHeld)).mono ?_
            rintro e v1 ⟨rfl, hv⟩
            have V1 := Lib.hid (hHeld.trans hv)
            clear hv
            refine hK.out _ _ (V1.out) (fun hHeld => ?_)
            clear hK K
            (try simp only [Act.put]); (try simp only [List.setIfInBounds_toArray]); (try simp only [List.set_cons_succ]); (try simp only [List.set_cons_zero])
            refine wpAnyH_ready (rs := [12]) (by kernel_rfl) (by simp) ?_
            refine AllReadyH.cons rfl (fun K hK => ?_) AllReadyH.nil
            rw [if_pos (by kernel_rfl)]
            go_simp
            refine (HTR.out _ (HR9.out.row.no hHeld)).mono ?_
            rintro e v2 ⟨rfl, hv⟩
            have V2 := Lib.hid (hHeld.trans hv)
            clear hv
            refine hK.out _ _ (V2.out) (fun hHeld => ?_)
            clear hK K
            (try simp only [Act.put]); (try simp only [List.setIfInBounds_toArray]); (try simp only [List.set_cons_succ]); (try simp only [List.set_cons_zero])
            refine takeD (i := 13) (d := some 144) (v := ?_) rfl (by kernel_rfl) (by kernel_rfl) (by kernel_rfl) (by kernel_rfl) (fun _ _ _ h => h) (Or.inl ⟨by kernel_rfl, fun X hX => Or.inl ?_⟩) (by assumption) ?_
            rotate_left
            · first | (go_simp; done) | (go_simp; with_reducible rfl)
            (try simp only [Act.put]); (try simp only [List.setIfInBounds_toArray]); (try simp only [List.set_cons_succ]); (try simp only [List.set_cons_zero])
            refine takeD (i := 14) (d := some 145) (v := ?_) rfl (by kernel_rfl) (by kernel_rfl) (by kernel_rfl) (by kernel_rfl) (fun _ _ _ h => h) (Or.inl ⟨by kernel_rfl, fun X hX => Or.inl ?_⟩) (by assumption) ?_
            rotate_left
            · first | (go_simp; done) | (go_simp; with_reducible rfl)
            (try simp only [Act.put]); (try simp only [List.setIfInBounds_toArray]); (try simp only [List.set_cons_succ]); (try simp only [List.set_cons_zero])
            refine wpAnyH_done (by kernel_rfl) ?_ _
            clear hHeld
            go_wp2
            exact ⟨⟨k1, s', ro', rc', HK1.out.2, rfl, HSL'.out, HP9.out.no V2.out, HR9.out.no V2.out, HF9.out.trans V2.out⟩, by have := HK1.out; simp [intOf]; omega⟩
          · skip
            by_cases hk3 : k = 3
            · have j3 : (k == 3) = true := by rw [hk3]; rfl
              have j0 : (k == 0) = false := by rw [hk3]; rfl
              have j1 : (k == 1) = false := by rw [hk3]; rfl
              have j2 : (k == 2) = false := by rw [hk3]; rfl
              clear hk0 hk1 hk2 hk3
              have hW := HP.out.wf
              have hwa := HWA.out
              have hxn := HWN.out
              obtain ⟨E, hE⟩ : ∃ E, E = s.comE xa xb := ⟨_, rfl⟩
              obtain ⟨s', hs'⟩ : ∃ t, t = s.comS xa xb := ⟨_, rfl⟩
              have hW' : s'.Wf := by rw [hs']; exact (Ps.Wf.com hW xa xb).1
              have hlen : s'.b.length = s.b.length := by rw [hs']; exact Ps.len_com xa xb
              have HCALL := Lib.hid (fun X (hX : Pu B T p s X) => pu_commit hX xa xb hwa)
              rw [← hE, ← hs'] at HCALL
              have HREF := Lib.hid (fun X (hX : DAt ro rc s X) => show Calls Try.prog 13 #[vP ro s.b.length rc s.h, .int .i64 xa, .int .i64 xb] X fun e w' => ∃ ao' cap', e = .returned (.tuple #[vP ao' s'.b.length cap' s'.h, .int .i64 E]) ∧ DNext X ro ao' ∧ DAt ao' cap' s' w' ∧ Fr No X w' from by
                have := rcommit_any s ro rc xa xb X hX hW
                rw [← hE, ← hs'] at this
                exact this)
              have HSL' : Hid (s'.b.length = n) := Lib.hid (by rw [hlen]; exact HSL.out)
              have HWS := Lib.hid hW
              have HWS' := Lib.hid hW'
              obtain ⟨L, hL⟩ : ∃ L, L = cellsP ro s.b.length rc s.h := ⟨_, rfl⟩
              have HL65 : Hid (L.length = 65) := Lib.hid (by rw [hL]; exact cellsP_len hW.hl)
              have HL := Lib.hid hL
              rw [vP, ← hL] at HREF
              clear hW hwa hxn hE hs' hW' hlen hL
              go_wp2_with fail
              refine (HCALL.out _ (HP.out.no ((Fr.refl No _).alloc _))).mono ?_
              rintro e y1 ⟨rfl, hP1, hF1⟩
              have HP1 := Lib.hid hP1
              have HF1 := Lib.hid (btw_no (HF.out.alloc _) hF1 HB.out)
              have HR1 := Lib.hid ((HR.out.no ((Fr.refl No _).alloc _)).btw hF1)
              have hbox := Blk.new wr 36 [.int .i64 k, .int .i64 xa, .int .i64 xb, .int .u64 (xn : Int)]
              have hbn : ¬ Btw B T wr.heap.size := fun e => by have := e.2; have := HR.out.blk.lt; have := HR.out.lo; omega
              have hb1 := hbox.fr hF1 hbn
              obtain ⟨xq, hxq⟩ : ∃ z, z = wr.heap.size := ⟨_, rfl⟩
              rw [← hxq] at hb1 ⊢
              have d1 := hb1.cell (i := 1) (v := .int .i64 xa) rfl
              have d2 := hb1.cell (i := 2) (v := .int .i64 xb) rfl
              have d3 := hb1.cell (i := 3) (v := .int .u64 (xn : Int)) rfl
              have HLD : Hid ((Instr.loadAt 32 (.pointer (some ⟨rb, 0, none⟩))).run Try.prog y1 = .ok (.agg L.toArray) y1) := Lib.hid (by rw [HL.out]; exact load_rp HR1.out.blk (HR1.out.len HWS.out))
              clear hP1 hF1 hbox hbn hb1 hxq c0 c1 c2 c3
              go_wp2_with (refine wpList_load_eq rfl 32 _ rfl (.pointer (some ⟨rb, 0, none⟩)) (.agg L.toArray) rfl HLD.out ?_)
              refine (HREF.out _ HR1.out.row).mono ?_
              rintro e y2 ⟨ro', rc', rfl, hdn, hD2, hF2⟩
              have HP2 := Lib.hid (HP1.out.no hF2)
              have HF2 := Lib.hid (HF1.out.trans hF2)
              have HR2 := Lib.hid (HR1.out.no hF2)
              obtain ⟨y9, hY, hR9, hF9⟩ := HR2.out.put HWS.out HWS'.out (v := y1) (by have := HR1.out.blk.lt; have := HR1.out.lo; omega) HR1.out.blk.lt hdn hD2
              have HST := Lib.hid hY
              have HR9 := Lib.hid hR9
              have HP9 : Hid (Pu B T p s' y9) := Lib.hid (HP2.out.fr hF9 (fun k hk e => by have := hk.2; have := HR1.out.lo; omega))
              have HF9 : Hid (Fr No w y9) := Lib.hid (HF2.out.trans' hF9 (fun i hi e => by have := HRB.out; omega))
              clear hdn hD2 hF2 hY hR9 hF9 d1 d2 d3
              go_wp2_with (refine wpList_store_eq rfl 32 _ _ rfl (.pointer (some ⟨rb, 0, none⟩)) (vP ro' s'.b.length rc' s'.h) rfl rfl HST.out ?_)
              have hWs := HP9.out.wf
              have HTP := Lib.hid (fun X (hX : Pu B T p s' X) => pu_total hX)
              obtain ⟨L', hL'⟩ : ∃ L, L = cellsP ro' s'.b.length rc' s'.h := ⟨_, rfl⟩
              have HTR := Lib.hid (fun X (hX : DAt ro' rc' s' X) => rtotal_any s' ro' rc' X hX hWs)
              rw [vP, ← hL'] at HTR
              obtain ⟨TT, hTT⟩ : ∃ t, t = s'.total := ⟨_, rfl⟩
              rw [← hTT] at HTP HTR
              have HLD' : Hid (∀ X, Fr No y9 X → (Instr.loadAt 32 (.pointer (some ⟨rb, 0, none⟩))).run Try.prog X = .ok (.agg L'.toArray) X) := Lib.hid (fun X hX => by
                rw [hL']
                exact load_rp ((HR9.out.no hX).blk) (HR9.out.len hWs))
              clear hWs hL' hTT
              go_wp2_with fail
              refine wp_region_held_drew (S := (fun X => Fr No y9 X)) (by kernel_rfl) ((Fr.refl _ y9).drew) (fun hHeld => ?_)
              refine takeD (i := 0) (d := some 131) (v := ?_) rfl (by kernel_rfl) (by kernel_rfl) (by kernel_rfl) (by kernel_rfl) (fun _ _ _ h => h) (Or.inl ⟨by kernel_rfl, fun X hX => Or.inl ?_⟩) (by assumption) ?_
              rotate_left
              · first | (go_simp; done) | (go_simp; with_reducible rfl)
              (try simp only [Act.put]); (try simp only [List.setIfInBounds_toArray]); (try simp only [List.set_cons_succ]); (try simp only [List.set_cons_zero])
              refine takeD (i := 1) (d := some 132) (v := ?_) rfl (by kernel_rfl) (by kernel_rfl) (by kernel_rfl) (by kernel_rfl) (fun _ _ _ h => h) (Or.inl ⟨by kernel_rfl, fun X hX => Or.inl ?_⟩) (by assumption) ?_
              rotate_left
              · first | (go_simp; done) | (go_simp; with_reducible rfl)
              (try simp only [Act.put]); (try simp only [List.setIfInBounds_toArray]); (try simp only [List.set_cons_succ]); (try simp only [List.set_cons_zero])
              refine takeD (i := 2) (d := some 133) (v := ?_) rfl (by kernel_rfl) (by kernel_rfl) (by kernel_rfl) (by kernel_rfl) (fun _ _ _ h => h) (Or.inl ⟨by kernel_rfl, fun X hX => Or.inl ?_⟩) (by assumption) ?_
              rotate_left
              · first | (go_simp; done) | (go_simp; with_reducible rfl)
              (try simp only [Act.put]); (try simp only [List.setIfInBounds_toArray]); (try simp only [List.set_cons_succ]); (try simp only [List.set_cons_zero])
              refine takeD (i := 3) (d := some 134) (v := ?_) rfl (by kernel_rfl) (by kernel_rfl) (by kernel_rfl) (by kernel_rfl) (fun _ _ _ h => h) (Or.inl ⟨by kernel_rfl, fun X hX => Or.inl ?_⟩) (by assumption) ?_
              rotate_left
              · first | (go_simp; done) | (go_simp; with_reducible rfl)
              (try simp only [Act.put]); (try simp only [List.setIfInBounds_toArray]); (try simp only [List.set_cons_succ]); (try simp only [List.set_cons_zero])
              refine takeD (i := 4) (d := some 135) (v := ?_) rfl (by kernel_rfl) (by kernel_rfl) (by kernel_rfl) (by kernel_rfl) (fun _ _ _ h => h) (Or.inl ⟨by kernel_rfl, fun X hX => Or.inl ?_⟩) (by assumption) ?_
              rotate_left
              · first | (go_simp; done) | (go_simp; with_reducible rfl)
              (try simp only [Act.put]); (try simp only [List.setIfInBounds_toArray]); (try simp only [List.set_cons_succ]); (try simp only [List.set_cons_zero])
              refine takeD (i := 5) (d := some 136) (v := ?_) rfl (by kernel_rfl) (by kernel_rfl) (by kernel_rfl) (by kernel_rfl) (fun _ _ _ h => h) (Or.inl ⟨by kernel_rfl, fun X hX => Or.inl ?_⟩) (by assumption) ?_
              rotate_left
              · first | (go_simp; done) | (go_simp; with_reducible rfl)
              (try simp only [Act.put]); (try simp only [List.setIfInBounds_toArray]); (try simp only [List.set_cons_succ]); (try simp only [List.set_cons_zero])
              refine takeD (i := 6) (d := some 137) (v := ?_) rfl (by kernel_rfl) (by kernel_rfl) (by kernel_rfl) (by kernel_rfl) (fun _ _ _ h => h) (Or.inl ⟨by kernel_rfl, fun X hX => Or.inl ?_⟩) (by assumption) ?_
              rotate_left
              · first | (go_simp; done) | (go_simp; with_reducible rfl)
              (try simp only [Act.put]); (try simp only [List.setIfInBounds_toArray]); (try simp only [List.set_cons_succ]); (try simp only [List.set_cons_zero])
              refine takeD (i := 7) (d := some 138) (v := ?_) rfl (by kernel_rfl) (by kernel_rfl) (by kernel_rfl) (by kernel_rfl) (fun _ _ _ h => h) (Or.inl ⟨by kernel_rfl, fun X hX => Or.inl ?_⟩) (by assumption) ?_
              rotate_left
              · first | (go_simp; done) | (go_simp; with_reducible rfl)
              (try simp only [Act.put]); (try simp only [List.setIfInBounds_toArray]); (try simp only [List.set_cons_succ]); (try simp only [List.set_cons_zero])
              refine takeD (i := 8) (d := some 139) (v := ?_) rfl (by kernel_rfl) (by kernel_rfl) (by kernel_rfl) (by kernel_rfl) (fun _ _ _ h => h) (Or.inl ⟨by kernel_rfl, fun X hX => Or.inl ?_⟩) (by assumption) ?_
              rotate_left
              · first | (go_simp; done) | (go_simp; with_reducible rfl)
              (try simp only [Act.put]); (try simp only [List.setIfInBounds_toArray]); (try simp only [List.set_cons_succ]); (try simp only [List.set_cons_zero])
              refine takeD (i := 9) (d := some 140) (v := ?_) rfl (by kernel_rfl) (by kernel_rfl) (by kernel_rfl) (by kernel_rfl) (fun _ _ _ h => h) (Or.inl ⟨by kernel_rfl, fun X hX => Or.inl ?_⟩) (by assumption) ?_
              rotate_left
              · first | (go_simp; done) | (go_simp; with_reducible rfl)
              (try simp only [Act.put]); (try simp only [List.setIfInBounds_toArray]); (try simp only [List.set_cons_succ]); (try simp only [List.set_cons_zero])
              refine takeD (i := 11) (d := some 142) (v := .agg L'.toArray) rfl (by kernel_rfl) (by kernel_rfl) (by kernel_rfl) (by kernel_rfl) (fun _ _ _ h => h) (Or.inl ⟨by kernel_rfl, fun X hX => Or.inl (exec_load 32 (.tmp 6) rfl _ _ rfl (HLD'.out X hX))⟩) (by assumption) ?_
              (try simp only [Act.put]); (try simp only [List.setIfInBounds_toArray]); (try simp only [List.set_cons_succ]); (try simp only [List.set_cons_zero])
              refine wpAnyH_ready (rs := [10]) (by kernel_rfl) (by simp) ?_
              refine AllReadyH.cons rfl (fun K hK => ?_) AllReadyH.nil
              rw [if_pos (by kernel_rfl)]
              go_simp
              refine (HTP.out _ (HP9.out.no hHeld)).mono ?_
              rintro e v1 ⟨rfl, hv⟩
              have V1 := Lib.hid (hHeld.trans hv)
              clear hv
              refine hK.out _ _ (V1.out) (fun hHeld => ?_)
              clear hK K
              (try simp only [Act.put]); (try simp only [List.setIfInBounds_toArray]); (try simp only [List.set_cons_succ]); (try simp only [List.set_cons_zero])
              refine wpAnyH_ready (rs := [12]) (by kernel_rfl) (by simp) ?_
              refine AllReadyH.cons rfl (fun K hK => ?_) AllReadyH.nil
              rw [if_pos (by kernel_rfl)]
              go_simp
              refine (HTR.out _ (HR9.out.row.no hHeld)).mono ?_
              rintro e v2 ⟨rfl, hv⟩
              have V2 := Lib.hid (hHeld.trans hv)
              clear hv
              refine hK.out _ _ (V2.out) (fun hHeld => ?_)
              clear hK K
              (try simp only [Act.put]); (try simp only [List.setIfInBounds_toArray]); (try simp only [List.set_cons_succ]); (try simp only [List.set_cons_zero])
              refine takeD (i := 13) (d := some 144) (v := ?_) rfl (by kernel_rfl) (by kernel_rfl) (by kernel_rfl) (by kernel_rfl) (fun _ _ _ h => h) (Or.inl ⟨by kernel_rfl, fun X hX => Or.inl ?_⟩) (by assumption) ?_
              rotate_left
              · first | (go_simp; done) | (go_simp; with_reducible rfl)
              (try simp only [Act.put]); (try simp only [List.setIfInBounds_toArray]); (try simp only [List.set_cons_succ]); (try simp only [List.set_cons_zero])
              refine takeD (i := 14) (d := some 145) (v := ?_) rfl (by kernel_rfl) (by kernel_rfl) (by kernel_rfl) (by kernel_rfl) (fun _ _ _ h => h) (Or.inl ⟨by kernel_rfl, fun X hX => Or.inl ?_⟩) (by assumption) ?_
              rotate_left
              · first | (go_simp; done) | (go_simp; with_reducible rfl)
              (try simp only [Act.put]); (try simp only [List.setIfInBounds_toArray]); (try simp only [List.set_cons_succ]); (try simp only [List.set_cons_zero])
              refine wpAnyH_done (by kernel_rfl) ?_ _
              clear hHeld
              go_wp2
              exact ⟨⟨k1, s', ro', rc', HK1.out.2, rfl, HSL'.out, HP9.out.no V2.out, HR9.out.no V2.out, HF9.out.trans V2.out⟩, by have := HK1.out; simp [intOf]; omega⟩
            · skip
              by_cases hk4 : k = 4
              · have j4 : (k == 4) = true := by rw [hk4]; rfl
                have j0 : (k == 0) = false := by rw [hk4]; rfl
                have j1 : (k == 1) = false := by rw [hk4]; rfl
                have j2 : (k == 2) = false := by rw [hk4]; rfl
                have j3 : (k == 3) = false := by rw [hk4]; rfl
                clear hk0 hk1 hk2 hk3 hk4
                have hW := HP.out.wf
                have hwa := HWA.out
                have hxn := HWN.out
                obtain ⟨E, hE⟩ : ∃ E, E = s.relE xa := ⟨_, rfl⟩
                obtain ⟨s', hs'⟩ : ∃ t, t = s.relS xa := ⟨_, rfl⟩
                have hW' : s'.Wf := by rw [hs']; exact (Ps.Wf.rel hW xa).1
                have hlen : s'.b.length = s.b.length := by rw [hs']; exact Ps.len_rel xa
                have HCALL := Lib.hid (fun X (hX : Pu B T p s X) => pu_release hX xa hwa)
                rw [← hE, ← hs'] at HCALL
                have HREF := Lib.hid (fun X (hX : DAt ro rc s X) => show Calls Try.prog 15 #[vP ro s.b.length rc s.h, .int .i64 xa] X fun e w' => ∃ ao' cap', e = .returned (.tuple #[vP ao' s'.b.length cap' s'.h, .int .i64 E]) ∧ DNext X ro ao' ∧ DAt ao' cap' s' w' ∧ Fr No X w' from by
                  have := rrelease_any s ro rc xa X hX hW
                  rw [← hE, ← hs'] at this
                  exact this)
                have HSL' : Hid (s'.b.length = n) := Lib.hid (by rw [hlen]; exact HSL.out)
                have HWS := Lib.hid hW
                have HWS' := Lib.hid hW'
                obtain ⟨L, hL⟩ : ∃ L, L = cellsP ro s.b.length rc s.h := ⟨_, rfl⟩
                have HL65 : Hid (L.length = 65) := Lib.hid (by rw [hL]; exact cellsP_len hW.hl)
                have HL := Lib.hid hL
                rw [vP, ← hL] at HREF
                clear hW hwa hxn hE hs' hW' hlen hL
                go_wp2_with fail
                refine (HCALL.out _ (HP.out.no ((Fr.refl No _).alloc _))).mono ?_
                rintro e y1 ⟨rfl, hP1, hF1⟩
                have HP1 := Lib.hid hP1
                have HF1 := Lib.hid (btw_no (HF.out.alloc _) hF1 HB.out)
                have HR1 := Lib.hid ((HR.out.no ((Fr.refl No _).alloc _)).btw hF1)
                have hbox := Blk.new wr 36 [.int .i64 k, .int .i64 xa, .int .i64 xb, .int .u64 (xn : Int)]
                have hbn : ¬ Btw B T wr.heap.size := fun e => by have := e.2; have := HR.out.blk.lt; have := HR.out.lo; omega
                have hb1 := hbox.fr hF1 hbn
                obtain ⟨xq, hxq⟩ : ∃ z, z = wr.heap.size := ⟨_, rfl⟩
                rw [← hxq] at hb1 ⊢
                have d1 := hb1.cell (i := 1) (v := .int .i64 xa) rfl
                have d2 := hb1.cell (i := 2) (v := .int .i64 xb) rfl
                have d3 := hb1.cell (i := 3) (v := .int .u64 (xn : Int)) rfl
                have HLD : Hid ((Instr.loadAt 32 (.pointer (some ⟨rb, 0, none⟩))).run Try.prog y1 = .ok (.agg L.toArray) y1) := Lib.hid (by rw [HL.out]; exact load_rp HR1.out.blk (HR1.out.len HWS.out))
                clear hP1 hF1 hbox hbn hb1 hxq c0 c1 c2 c3
                go_wp2_with (refine wpList_load_eq rfl 32 _ rfl (.pointer (some ⟨rb, 0, none⟩)) (.agg L.toArray) rfl HLD.out ?_)
                refine (HREF.out _ HR1.out.row).mono ?_
                rintro e y2 ⟨ro', rc', rfl, hdn, hD2, hF2⟩
                have HP2 := Lib.hid (HP1.out.no hF2)
                have HF2 := Lib.hid (HF1.out.trans hF2)
                have HR2 := Lib.hid (HR1.out.no hF2)
                obtain ⟨y9, hY, hR9, hF9⟩ := HR2.out.put HWS.out HWS'.out (v := y1) (by have := HR1.out.blk.lt; have := HR1.out.lo; omega) HR1.out.blk.lt hdn hD2
                have HST := Lib.hid hY
                have HR9 := Lib.hid hR9
                have HP9 : Hid (Pu B T p s' y9) := Lib.hid (HP2.out.fr hF9 (fun k hk e => by have := hk.2; have := HR1.out.lo; omega))
                have HF9 : Hid (Fr No w y9) := Lib.hid (HF2.out.trans' hF9 (fun i hi e => by have := HRB.out; omega))
                clear hdn hD2 hF2 hY hR9 hF9 d1 d2 d3
                go_wp2_with (refine wpList_store_eq rfl 32 _ _ rfl (.pointer (some ⟨rb, 0, none⟩)) (vP ro' s'.b.length rc' s'.h) rfl rfl HST.out ?_)
                have hWs := HP9.out.wf
                have HTP := Lib.hid (fun X (hX : Pu B T p s' X) => pu_total hX)
                obtain ⟨L', hL'⟩ : ∃ L, L = cellsP ro' s'.b.length rc' s'.h := ⟨_, rfl⟩
                have HTR := Lib.hid (fun X (hX : DAt ro' rc' s' X) => rtotal_any s' ro' rc' X hX hWs)
                rw [vP, ← hL'] at HTR
                obtain ⟨TT, hTT⟩ : ∃ t, t = s'.total := ⟨_, rfl⟩
                rw [← hTT] at HTP HTR
                have HLD' : Hid (∀ X, Fr No y9 X → (Instr.loadAt 32 (.pointer (some ⟨rb, 0, none⟩))).run Try.prog X = .ok (.agg L'.toArray) X) := Lib.hid (fun X hX => by
                  rw [hL']
                  exact load_rp ((HR9.out.no hX).blk) (HR9.out.len hWs))
                clear hWs hL' hTT
                go_wp2_with fail
                refine wp_region_held_drew (S := (fun X => Fr No y9 X)) (by kernel_rfl) ((Fr.refl _ y9).drew) (fun hHeld => ?_)
                refine takeD (i := 0) (d := some 131) (v := ?_) rfl (by kernel_rfl) (by kernel_rfl) (by kernel_rfl) (by kernel_rfl) (fun _ _ _ h => h) (Or.inl ⟨by kernel_rfl, fun X hX => Or.inl ?_⟩) (by assumption) ?_
                rotate_left
                · first | (go_simp; done) | (go_simp; with_reducible rfl)
                (try simp only [Act.put]); (try simp only [List.setIfInBounds_toArray]); (try simp only [List.set_cons_succ]); (try simp only [List.set_cons_zero])
                refine takeD (i := 1) (d := some 132) (v := ?_) rfl (by kernel_rfl) (by kernel_rfl) (by kernel_rfl) (by kernel_rfl) (fun _ _ _ h => h) (Or.inl ⟨by kernel_rfl, fun X hX => Or.inl ?_⟩) (by assumption) ?_
                rotate_left
                · first | (go_simp; done) | (go_simp; with_reducible rfl)
                (try simp only [Act.put]); (try simp only [List.setIfInBounds_toArray]); (try simp only [List.set_cons_succ]); (try simp only [List.set_cons_zero])
                refine takeD (i := 2) (d := some 133) (v := ?_) rfl (by kernel_rfl) (by kernel_rfl) (by kernel_rfl) (by kernel_rfl) (fun _ _ _ h => h) (Or.inl ⟨by kernel_rfl, fun X hX => Or.inl ?_⟩) (by assumption) ?_
                rotate_left
                · first | (go_simp; done) | (go_simp; with_reducible rfl)
                (try simp only [Act.put]); (try simp only [List.setIfInBounds_toArray]); (try simp only [List.set_cons_succ]); (try simp only [List.set_cons_zero])
                refine takeD (i := 3) (d := some 134) (v := ?_) rfl (by kernel_rfl) (by kernel_rfl) (by kernel_rfl) (by kernel_rfl) (fun _ _ _ h => h) (Or.inl ⟨by kernel_rfl, fun X hX => Or.inl ?_⟩) (by assumption) ?_
                rotate_left
                · first | (go_simp; done) | (go_simp; with_reducible rfl)
                (try simp only [Act.put]); (try simp only [List.setIfInBounds_toArray]); (try simp only [List.set_cons_succ]); (try simp only [List.set_cons_zero])
                refine takeD (i := 4) (d := some 135) (v := ?_) rfl (by kernel_rfl) (by kernel_rfl) (by kernel_rfl) (by kernel_rfl) (fun _ _ _ h => h) (Or.inl ⟨by kernel_rfl, fun X hX => Or.inl ?_⟩) (by assumption) ?_
                rotate_left
                · first | (go_simp; done) | (go_simp; with_reducible rfl)
                (try simp only [Act.put]); (try simp only [List.setIfInBounds_toArray]); (try simp only [List.set_cons_succ]); (try simp only [List.set_cons_zero])
                refine takeD (i := 5) (d := some 136) (v := ?_) rfl (by kernel_rfl) (by kernel_rfl) (by kernel_rfl) (by kernel_rfl) (fun _ _ _ h => h) (Or.inl ⟨by kernel_rfl, fun X hX => Or.inl ?_⟩) (by assumption) ?_
                rotate_left
                · first | (go_simp; done) | (go_simp; with_reducible rfl)
                (try simp only [Act.put]); (try simp only [List.setIfInBounds_toArray]); (try simp only [List.set_cons_succ]); (try simp only [List.set_cons_zero])
                refine takeD (i := 6) (d := some 137) (v := ?_) rfl (by kernel_rfl) (by kernel_rfl) (by kernel_rfl) (by kernel_rfl) (fun _ _ _ h => h) (Or.inl ⟨by kernel_rfl, fun X hX => Or.inl ?_⟩) (by assumption) ?_
                rotate_left
                · first | (go_simp; done) | (go_simp; with_reducible rfl)
                (try simp only [Act.put]); (try simp only [List.setIfInBounds_toArray]); (try simp only [List.set_cons_succ]); (try simp only [List.set_cons_zero])
                refine takeD (i := 7) (d := some 138) (v := ?_) rfl (by kernel_rfl) (by kernel_rfl) (by kernel_rfl) (by kernel_rfl) (fun _ _ _ h => h) (Or.inl ⟨by kernel_rfl, fun X hX => Or.inl ?_⟩) (by assumption) ?_
                rotate_left
                · first | (go_simp; done) | (go_simp; with_reducible rfl)
                (try simp only [Act.put]); (try simp only [List.setIfInBounds_toArray]); (try simp only [List.set_cons_succ]); (try simp only [List.set_cons_zero])
                refine takeD (i := 8) (d := some 139) (v := ?_) rfl (by kernel_rfl) (by kernel_rfl) (by kernel_rfl) (by kernel_rfl) (fun _ _ _ h => h) (Or.inl ⟨by kernel_rfl, fun X hX => Or.inl ?_⟩) (by assumption) ?_
                rotate_left
                · first | (go_simp; done) | (go_simp; with_reducible rfl)
                (try simp only [Act.put]); (try simp only [List.setIfInBounds_toArray]); (try simp only [List.set_cons_succ]); (try simp only [List.set_cons_zero])
                refine takeD (i := 9) (d := some 140) (v := ?_) rfl (by kernel_rfl) (by kernel_rfl) (by kernel_rfl) (by kernel_rfl) (fun _ _ _ h => h) (Or.inl ⟨by kernel_rfl, fun X hX => Or.inl ?_⟩) (by assumption) ?_
                rotate_left
                · first | (go_simp; done) | (go_simp; with_reducible rfl)
                (try simp only [Act.put]); (try simp only [List.setIfInBounds_toArray]); (try simp only [List.set_cons_succ]); (try simp only [List.set_cons_zero])
                refine takeD (i := 11) (d := some 142) (v := .agg L'.toArray) rfl (by kernel_rfl) (by kernel_rfl) (by kernel_rfl) (by kernel_rfl) (fun _ _ _ h => h) (Or.inl ⟨by kernel_rfl, fun X hX => Or.inl (exec_load 32 (.tmp 6) rfl _ _ rfl (HLD'.out X hX))⟩) (by assumption) ?_
                (try simp only [Act.put]); (try simp only [List.setIfInBounds_toArray]); (try simp only [List.set_cons_succ]); (try simp only [List.set_cons_zero])
                refine wpAnyH_ready (rs := [10]) (by kernel_rfl) (by simp) ?_
                refine AllReadyH.cons rfl (fun K hK => ?_) AllReadyH.nil
                rw [if_pos (by kernel_rfl)]
                go_simp
                refine (HTP.out _ (HP9.out.no hHeld)).mono ?_
                rintro e v1 ⟨rfl, hv⟩
                have V1 := Lib.hid (hHeld.trans hv)
                clear hv
                refine hK.out _ _ (V1.out) (fun hHeld => ?_)
                clear hK K
                (try simp only [Act.put]); (try simp only [List.setIfInBounds_toArray]); (try simp only [List.set_cons_succ]); (try simp only [List.set_cons_zero])
                refine wpAnyH_ready (rs := [12]) (by kernel_rfl) (by simp) ?_
                refine AllReadyH.cons rfl (fun K hK => ?_) AllReadyH.nil
                rw [if_pos (by kernel_rfl)]
                go_simp
                refine (HTR.out _ (HR9.out.row.no hHeld)).mono ?_
                rintro e v2 ⟨rfl, hv⟩
                have V2 := Lib.hid (hHeld.trans hv)
                clear hv
                refine hK.out _ _ (V2.out) (fun hHeld => ?_)
                clear hK K
                (try simp only [Act.put]); (try simp only [List.setIfInBounds_toArray]); (try simp only [List.set_cons_succ]); (try simp only [List.set_cons_zero])
                refine takeD (i := 13) (d := some 144) (v := ?_) rfl (by kernel_rfl) (by kernel_rfl) (by kernel_rfl) (by kernel_rfl) (fun _ _ _ h => h) (Or.inl ⟨by kernel_rfl, fun X hX => Or.inl ?_⟩) (by assumption) ?_
                rotate_left
                · first | (go_simp; done) | (go_simp; with_reducible rfl)
                (try simp only [Act.put]); (try simp only [List.setIfInBounds_toArray]); (try simp only [List.set_cons_succ]); (try simp only [List.set_cons_zero])
                refine takeD (i := 14) (d := some 145) (v := ?_) rfl (by kernel_rfl) (by kernel_rfl) (by kernel_rfl) (by kernel_rfl) (fun _ _ _ h => h) (Or.inl ⟨by kernel_rfl, fun X hX => Or.inl ?_⟩) (by assumption) ?_
                rotate_left
                · first | (go_simp; done) | (go_simp; with_reducible rfl)
                (try simp only [Act.put]); (try simp only [List.setIfInBounds_toArray]); (try simp only [List.set_cons_succ]); (try simp only [List.set_cons_zero])
                refine wpAnyH_done (by kernel_rfl) ?_ _
                clear hHeld
                go_wp2
                exact ⟨⟨k1, s', ro', rc', HK1.out.2, rfl, HSL'.out, HP9.out.no V2.out, HR9.out.no V2.out, HF9.out.trans V2.out⟩, by have := HK1.out; simp [intOf]; omega⟩
              · skip
                by_cases hk5 : k = 5
                · have j5 : (k == 5) = true := by rw [hk5]; rfl
                  have j0 : (k == 0) = false := by rw [hk5]; rfl
                  have j1 : (k == 1) = false := by rw [hk5]; rfl
                  have j2 : (k == 2) = false := by rw [hk5]; rfl
                  have j3 : (k == 3) = false := by rw [hk5]; rfl
                  have j4 : (k == 4) = false := by rw [hk5]; rfl
                  clear hk0 hk1 hk2 hk3 hk4 hk5
                  have hW := HP.out.wf
                  have hwa := HWA.out
                  have hxn := HWN.out
                  obtain ⟨E, hE⟩ : ∃ E, E = s.movE xa xb xn := ⟨_, rfl⟩
                  obtain ⟨s', hs'⟩ : ∃ t, t = s.movS xa xb xn := ⟨_, rfl⟩
                  have hW' : s'.Wf := by rw [hs']; exact (Ps.Wf.movS hW xa xb xn).1
                  have hlen : s'.b.length = s.b.length := by rw [hs']; exact Ps.len_mov xa xb xn
                  have HCALL := Lib.hid (fun X (hX : Pu B T p s X) => pu_move hX xa xb xn)
                  rw [← hE, ← hs'] at HCALL
                  have HREF := Lib.hid (fun X (hX : DAt ro rc s X) => show Calls Try.prog 17 #[vP ro s.b.length rc s.h, .int .i64 xa, .int .i64 xb, .int .u64 (xn : Int)] X fun e w' => ∃ ao' cap', e = .returned (.tuple #[vP ao' s'.b.length cap' s'.h, .int .i64 E]) ∧ DNext X ro ao' ∧ DAt ao' cap' s' w' ∧ Fr No X w' from by
                    have := rmove_any s ro rc xa xb xn X hX hW hxn
                    rw [← hE, ← hs'] at this
                    exact this)
                  have HSL' : Hid (s'.b.length = n) := Lib.hid (by rw [hlen]; exact HSL.out)
                  have HWS := Lib.hid hW
                  have HWS' := Lib.hid hW'
                  obtain ⟨L, hL⟩ : ∃ L, L = cellsP ro s.b.length rc s.h := ⟨_, rfl⟩
                  have HL65 : Hid (L.length = 65) := Lib.hid (by rw [hL]; exact cellsP_len hW.hl)
                  have HL := Lib.hid hL
                  rw [vP, ← hL] at HREF
                  clear hW hwa hxn hE hs' hW' hlen hL
                  go_wp2_with fail
                  refine (HCALL.out _ (HP.out.no ((Fr.refl No _).alloc _))).mono ?_
                  rintro e y1 ⟨rfl, hP1, hF1⟩
                  have HP1 := Lib.hid hP1
                  have HF1 := Lib.hid (btw_no (HF.out.alloc _) hF1 HB.out)
                  have HR1 := Lib.hid ((HR.out.no ((Fr.refl No _).alloc _)).btw hF1)
                  have hbox := Blk.new wr 36 [.int .i64 k, .int .i64 xa, .int .i64 xb, .int .u64 (xn : Int)]
                  have hbn : ¬ Btw B T wr.heap.size := fun e => by have := e.2; have := HR.out.blk.lt; have := HR.out.lo; omega
                  have hb1 := hbox.fr hF1 hbn
                  obtain ⟨xq, hxq⟩ : ∃ z, z = wr.heap.size := ⟨_, rfl⟩
                  rw [← hxq] at hb1 ⊢
                  have d1 := hb1.cell (i := 1) (v := .int .i64 xa) rfl
                  have d2 := hb1.cell (i := 2) (v := .int .i64 xb) rfl
                  have d3 := hb1.cell (i := 3) (v := .int .u64 (xn : Int)) rfl
                  have HLD : Hid ((Instr.loadAt 32 (.pointer (some ⟨rb, 0, none⟩))).run Try.prog y1 = .ok (.agg L.toArray) y1) := Lib.hid (by rw [HL.out]; exact load_rp HR1.out.blk (HR1.out.len HWS.out))
                  clear hP1 hF1 hbox hbn hb1 hxq c0 c1 c2 c3
                  go_wp2_with (refine wpList_load_eq rfl 32 _ rfl (.pointer (some ⟨rb, 0, none⟩)) (.agg L.toArray) rfl HLD.out ?_)
                  refine (HREF.out _ HR1.out.row).mono ?_
                  rintro e y2 ⟨ro', rc', rfl, hdn, hD2, hF2⟩
                  have HP2 := Lib.hid (HP1.out.no hF2)
                  have HF2 := Lib.hid (HF1.out.trans hF2)
                  have HR2 := Lib.hid (HR1.out.no hF2)
                  obtain ⟨y9, hY, hR9, hF9⟩ := HR2.out.put HWS.out HWS'.out (v := y1) (by have := HR1.out.blk.lt; have := HR1.out.lo; omega) HR1.out.blk.lt hdn hD2
                  have HST := Lib.hid hY
                  have HR9 := Lib.hid hR9
                  have HP9 : Hid (Pu B T p s' y9) := Lib.hid (HP2.out.fr hF9 (fun k hk e => by have := hk.2; have := HR1.out.lo; omega))
                  have HF9 : Hid (Fr No w y9) := Lib.hid (HF2.out.trans' hF9 (fun i hi e => by have := HRB.out; omega))
                  clear hdn hD2 hF2 hY hR9 hF9 d1 d2 d3
                  go_wp2_with (refine wpList_store_eq rfl 32 _ _ rfl (.pointer (some ⟨rb, 0, none⟩)) (vP ro' s'.b.length rc' s'.h) rfl rfl HST.out ?_)
                  have hWs := HP9.out.wf
                  have HTP := Lib.hid (fun X (hX : Pu B T p s' X) => pu_total hX)
                  obtain ⟨L', hL'⟩ : ∃ L, L = cellsP ro' s'.b.length rc' s'.h := ⟨_, rfl⟩
                  have HTR := Lib.hid (fun X (hX : DAt ro' rc' s' X) => rtotal_any s' ro' rc' X hX hWs)
                  rw [vP, ← hL'] at HTR
                  obtain ⟨TT, hTT⟩ : ∃ t, t = s'.total := ⟨_, rfl⟩
                  rw [← hTT] at HTP HTR
                  have HLD' : Hid (∀ X, Fr No y9 X → (Instr.loadAt 32 (.pointer (some ⟨rb, 0, none⟩))).run Try.prog X = .ok (.agg L'.toArray) X) := Lib.hid (fun X hX => by
                    rw [hL']
                    exact load_rp ((HR9.out.no hX).blk) (HR9.out.len hWs))
                  clear hWs hL' hTT
                  go_wp2_with fail
                  refine wp_region_held_drew (S := (fun X => Fr No y9 X)) (by kernel_rfl) ((Fr.refl _ y9).drew) (fun hHeld => ?_)
                  refine takeD (i := 0) (d := some 131) (v := ?_) rfl (by kernel_rfl) (by kernel_rfl) (by kernel_rfl) (by kernel_rfl) (fun _ _ _ h => h) (Or.inl ⟨by kernel_rfl, fun X hX => Or.inl ?_⟩) (by assumption) ?_
                  rotate_left
                  · first | (go_simp; done) | (go_simp; with_reducible rfl)
                  (try simp only [Act.put]); (try simp only [List.setIfInBounds_toArray]); (try simp only [List.set_cons_succ]); (try simp only [List.set_cons_zero])
                  refine takeD (i := 1) (d := some 132) (v := ?_) rfl (by kernel_rfl) (by kernel_rfl) (by kernel_rfl) (by kernel_rfl) (fun _ _ _ h => h) (Or.inl ⟨by kernel_rfl, fun X hX => Or.inl ?_⟩) (by assumption) ?_
                  rotate_left
                  · first | (go_simp; done) | (go_simp; with_reducible rfl)
                  (try simp only [Act.put]); (try simp only [List.setIfInBounds_toArray]); (try simp only [List.set_cons_succ]); (try simp only [List.set_cons_zero])
                  refine takeD (i := 2) (d := some 133) (v := ?_) rfl (by kernel_rfl) (by kernel_rfl) (by kernel_rfl) (by kernel_rfl) (fun _ _ _ h => h) (Or.inl ⟨by kernel_rfl, fun X hX => Or.inl ?_⟩) (by assumption) ?_
                  rotate_left
                  · first | (go_simp; done) | (go_simp; with_reducible rfl)
                  (try simp only [Act.put]); (try simp only [List.setIfInBounds_toArray]); (try simp only [List.set_cons_succ]); (try simp only [List.set_cons_zero])
                  refine takeD (i := 3) (d := some 134) (v := ?_) rfl (by kernel_rfl) (by kernel_rfl) (by kernel_rfl) (by kernel_rfl) (fun _ _ _ h => h) (Or.inl ⟨by kernel_rfl, fun X hX => Or.inl ?_⟩) (by assumption) ?_
                  rotate_left
                  · first | (go_simp; done) | (go_simp; with_reducible rfl)
                  (try simp only [Act.put]); (try simp only [List.setIfInBounds_toArray]); (try simp only [List.set_cons_succ]); (try simp only [List.set_cons_zero])
                  refine takeD (i := 4) (d := some 135) (v := ?_) rfl (by kernel_rfl) (by kernel_rfl) (by kernel_rfl) (by kernel_rfl) (fun _ _ _ h => h) (Or.inl ⟨by kernel_rfl, fun X hX => Or.inl ?_⟩) (by assumption) ?_
                  rotate_left
                  · first | (go_simp; done) | (go_simp; with_reducible rfl)
                  (try simp only [Act.put]); (try simp only [List.setIfInBounds_toArray]); (try simp only [List.set_cons_succ]); (try simp only [List.set_cons_zero])
                  refine takeD (i := 5) (d := some 136) (v := ?_) rfl (by kernel_rfl) (by kernel_rfl) (by kernel_rfl) (by kernel_rfl) (fun _ _ _ h => h) (Or.inl ⟨by kernel_rfl, fun X hX => Or.inl ?_⟩) (by assumption) ?_
                  rotate_left
                  · first | (go_simp; done) | (go_simp; with_reducible rfl)
                  (try simp only [Act.put]); (try simp only [List.setIfInBounds_toArray]); (try simp only [List.set_cons_succ]); (try simp only [List.set_cons_zero])
                  refine takeD (i := 6) (d := some 137) (v := ?_) rfl (by kernel_rfl) (by kernel_rfl) (by kernel_rfl) (by kernel_rfl) (fun _ _ _ h => h) (Or.inl ⟨by kernel_rfl, fun X hX => Or.inl ?_⟩) (by assumption) ?_
                  rotate_left
                  · first | (go_simp; done) | (go_simp; with_reducible rfl)
                  (try simp only [Act.put]); (try simp only [List.setIfInBounds_toArray]); (try simp only [List.set_cons_succ]); (try simp only [List.set_cons_zero])
                  refine takeD (i := 7) (d := some 138) (v := ?_) rfl (by kernel_rfl) (by kernel_rfl) (by kernel_rfl) (by kernel_rfl) (fun _ _ _ h => h) (Or.inl ⟨by kernel_rfl, fun X hX => Or.inl ?_⟩) (by assumption) ?_
                  rotate_left
                  · first | (go_simp; done) | (go_simp; with_reducible rfl)
                  (try simp only [Act.put]); (try simp only [List.setIfInBounds_toArray]); (try simp only [List.set_cons_succ]); (try simp only [List.set_cons_zero])
                  refine takeD (i := 8) (d := some 139) (v := ?_) rfl (by kernel_rfl) (by kernel_rfl) (by kernel_rfl) (by kernel_rfl) (fun _ _ _ h => h) (Or.inl ⟨by kernel_rfl, fun X hX => Or.inl ?_⟩) (by assumption) ?_
                  rotate_left
                  · first | (go_simp; done) | (go_simp; with_reducible rfl)
                  (try simp only [Act.put]); (try simp only [List.setIfInBounds_toArray]); (try simp only [List.set_cons_succ]); (try simp only [List.set_cons_zero])
                  refine takeD (i := 9) (d := some 140) (v := ?_) rfl (by kernel_rfl) (by kernel_rfl) (by kernel_rfl) (by kernel_rfl) (fun _ _ _ h => h) (Or.inl ⟨by kernel_rfl, fun X hX => Or.inl ?_⟩) (by assumption) ?_
                  rotate_left
                  · first | (go_simp; done) | (go_simp; with_reducible rfl)
                  (try simp only [Act.put]); (try simp only [List.setIfInBounds_toArray]); (try simp only [List.set_cons_succ]); (try simp only [List.set_cons_zero])
                  refine takeD (i := 11) (d := some 142) (v := .agg L'.toArray) rfl (by kernel_rfl) (by kernel_rfl) (by kernel_rfl) (by kernel_rfl) (fun _ _ _ h => h) (Or.inl ⟨by kernel_rfl, fun X hX => Or.inl (exec_load 32 (.tmp 6) rfl _ _ rfl (HLD'.out X hX))⟩) (by assumption) ?_
                  (try simp only [Act.put]); (try simp only [List.setIfInBounds_toArray]); (try simp only [List.set_cons_succ]); (try simp only [List.set_cons_zero])
                  refine wpAnyH_ready (rs := [10]) (by kernel_rfl) (by simp) ?_
                  refine AllReadyH.cons rfl (fun K hK => ?_) AllReadyH.nil
                  rw [if_pos (by kernel_rfl)]
                  go_simp
                  refine (HTP.out _ (HP9.out.no hHeld)).mono ?_
                  rintro e v1 ⟨rfl, hv⟩
                  have V1 := Lib.hid (hHeld.trans hv)
                  clear hv
                  refine hK.out _ _ (V1.out) (fun hHeld => ?_)
                  clear hK K
                  (try simp only [Act.put]); (try simp only [List.setIfInBounds_toArray]); (try simp only [List.set_cons_succ]); (try simp only [List.set_cons_zero])
                  refine wpAnyH_ready (rs := [12]) (by kernel_rfl) (by simp) ?_
                  refine AllReadyH.cons rfl (fun K hK => ?_) AllReadyH.nil
                  rw [if_pos (by kernel_rfl)]
                  go_simp
                  refine (HTR.out _ (HR9.out.row.no hHeld)).mono ?_
                  rintro e v2 ⟨rfl, hv⟩
                  have V2 := Lib.hid (hHeld.trans hv)
                  clear hv
                  refine hK.out _ _ (V2.out) (fun hHeld => ?_)
                  clear hK K
                  (try simp only [Act.put]); (try simp only [List.setIfInBounds_toArray]); (try simp only [List.set_cons_succ]); (try simp only [List.set_cons_zero])
                  refine takeD (i := 13) (d := some 144) (v := ?_) rfl (by kernel_rfl) (by kernel_rfl) (by kernel_rfl) (by kernel_rfl) (fun _ _ _ h => h) (Or.inl ⟨by kernel_rfl, fun X hX => Or.inl ?_⟩) (by assumption) ?_
                  rotate_left
                  · first | (go_simp; done) | (go_simp; with_reducible rfl)
                  (try simp only [Act.put]); (try simp only [List.setIfInBounds_toArray]); (try simp only [List.set_cons_succ]); (try simp only [List.set_cons_zero])
                  refine takeD (i := 14) (d := some 145) (v := ?_) rfl (by kernel_rfl) (by kernel_rfl) (by kernel_rfl) (by kernel_rfl) (fun _ _ _ h => h) (Or.inl ⟨by kernel_rfl, fun X hX => Or.inl ?_⟩) (by assumption) ?_
                  rotate_left
                  · first | (go_simp; done) | (go_simp; with_reducible rfl)
                  (try simp only [Act.put]); (try simp only [List.setIfInBounds_toArray]); (try simp only [List.set_cons_succ]); (try simp only [List.set_cons_zero])
                  refine wpAnyH_done (by kernel_rfl) ?_ _
                  clear hHeld
                  go_wp2
                  exact ⟨⟨k1, s', ro', rc', HK1.out.2, rfl, HSL'.out, HP9.out.no V2.out, HR9.out.no V2.out, HF9.out.trans V2.out⟩, by have := HK1.out; simp [intOf]; omega⟩
                · skip
                  have j0 : (k == 0) = false := by rw [beq_eq_false_iff_ne]; exact hk0
                  have j1 : (k == 1) = false := by rw [beq_eq_false_iff_ne]; exact hk1
                  have j2 : (k == 2) = false := by rw [beq_eq_false_iff_ne]; exact hk2
                  have j3 : (k == 3) = false := by rw [beq_eq_false_iff_ne]; exact hk3
                  have j4 : (k == 4) = false := by rw [beq_eq_false_iff_ne]; exact hk4
                  have j5 : (k == 5) = false := by rw [beq_eq_false_iff_ne]; exact hk5
                  clear hk0 hk1 hk2 hk3 hk4 hk5
                  go_wp2_with fail
                  obtain ⟨y9, hy9⟩ : ∃ y, y = wr.alloc (.cells #[.int .i64 k, .int .i64 xa, .int .i64 xb, .int .u64 (xn : Int)] 36) := ⟨_, rfl⟩
                  have HP9 : Hid (Pu B T p s y9) := Lib.hid (by rw [hy9]; exact HP.out.no ((Fr.refl No _).alloc _))
                  have HR9 : Hid (R9 T rb ro rc s y9) := Lib.hid (by rw [hy9]; exact HR.out.no ((Fr.refl No _).alloc _))
                  have HF9 : Hid (Fr No w y9) := Lib.hid (by rw [hy9]; exact HF.out.alloc _)
                  rw [← hy9]
                  clear hy9
                  have hWs := HP9.out.wf
                  have HTP := Lib.hid (fun X (hX : Pu B T p s X) => pu_total hX)
                  obtain ⟨L', hL'⟩ : ∃ L, L = cellsP ro s.b.length rc s.h := ⟨_, rfl⟩
                  have HTR := Lib.hid (fun X (hX : DAt ro rc s X) => rtotal_any s ro rc X hX hWs)
                  rw [vP, ← hL'] at HTR
                  obtain ⟨TT, hTT⟩ : ∃ t, t = s.total := ⟨_, rfl⟩
                  rw [← hTT] at HTP HTR
                  have HLD' : Hid (∀ X, Fr No y9 X → (Instr.loadAt 32 (.pointer (some ⟨rb, 0, none⟩))).run Try.prog X = .ok (.agg L'.toArray) X) := Lib.hid (fun X hX => by
                    rw [hL']
                    exact load_rp ((HR9.out.no hX).blk) (HR9.out.len hWs))
                  clear hWs hL' hTT
                  go_wp2_with fail
                  refine wp_region_held_drew (S := (fun X => Fr No y9 X)) (by kernel_rfl) ((Fr.refl _ y9).drew) (fun hHeld => ?_)
                  refine takeD (i := 0) (d := some 131) (v := ?_) rfl (by kernel_rfl) (by kernel_rfl) (by kernel_rfl) (by kernel_rfl) (fun _ _ _ h => h) (Or.inl ⟨by kernel_rfl, fun X hX => Or.inl ?_⟩) (by assumption) ?_
                  rotate_left
                  · first | (go_simp; done) | (go_simp; with_reducible rfl)
                  (try simp only [Act.put]); (try simp only [List.setIfInBounds_toArray]); (try simp only [List.set_cons_succ]); (try simp only [List.set_cons_zero])
                  refine takeD (i := 1) (d := some 132) (v := ?_) rfl (by kernel_rfl) (by kernel_rfl) (by kernel_rfl) (by kernel_rfl) (fun _ _ _ h => h) (Or.inl ⟨by kernel_rfl, fun X hX => Or.inl ?_⟩) (by assumption) ?_
                  rotate_left
                  · first | (go_simp; done) | (go_simp; with_reducible rfl)
                  (try simp only [Act.put]); (try simp only [List.setIfInBounds_toArray]); (try simp only [List.set_cons_succ]); (try simp only [List.set_cons_zero])
                  refine takeD (i := 2) (d := some 133) (v := ?_) rfl (by kernel_rfl) (by kernel_rfl) (by kernel_rfl) (by kernel_rfl) (fun _ _ _ h => h) (Or.inl ⟨by kernel_rfl, fun X hX => Or.inl ?_⟩) (by assumption) ?_
                  rotate_left
                  · first | (go_simp; done) | (go_simp; with_reducible rfl)
                  (try simp only [Act.put]); (try simp only [List.setIfInBounds_toArray]); (try simp only [List.set_cons_succ]); (try simp only [List.set_cons_zero])
                  refine takeD (i := 3) (d := some 134) (v := ?_) rfl (by kernel_rfl) (by kernel_rfl) (by kernel_rfl) (by kernel_rfl) (fun _ _ _ h => h) (Or.inl ⟨by kernel_rfl, fun X hX => Or.inl ?_⟩) (by assumption) ?_
                  rotate_left
                  · first | (go_simp; done) | (go_simp; with_reducible rfl)
                  (try simp only [Act.put]); (try simp only [List.setIfInBounds_toArray]); (try simp only [List.set_cons_succ]); (try simp only [List.set_cons_zero])
                  refine takeD (i := 4) (d := some 135) (v := ?_) rfl (by kernel_rfl) (by kernel_rfl) (by kernel_rfl) (by kernel_rfl) (fun _ _ _ h => h) (Or.inl ⟨by kernel_rfl, fun X hX => Or.inl ?_⟩) (by assumption) ?_
                  rotate_left
                  · first | (go_simp; done) | (go_simp; with_reducible rfl)
                  (try simp only [Act.put]); (try simp only [List.setIfInBounds_toArray]); (try simp only [List.set_cons_succ]); (try simp only [List.set_cons_zero])
                  refine takeD (i := 5) (d := some 136) (v := ?_) rfl (by kernel_rfl) (by kernel_rfl) (by kernel_rfl) (by kernel_rfl) (fun _ _ _ h => h) (Or.inl ⟨by kernel_rfl, fun X hX => Or.inl ?_⟩) (by assumption) ?_
                  rotate_left
                  · first | (go_simp; done) | (go_simp; with_reducible rfl)
                  (try simp only [Act.put]); (try simp only [List.setIfInBounds_toArray]); (try simp only [List.set_cons_succ]); (try simp only [List.set_cons_zero])
                  refine takeD (i := 6) (d := some 137) (v := ?_) rfl (by kernel_rfl) (by kernel_rfl) (by kernel_rfl) (by kernel_rfl) (fun _ _ _ h => h) (Or.inl ⟨by kernel_rfl, fun X hX => Or.inl ?_⟩) (by assumption) ?_
                  rotate_left
                  · first | (go_simp; done) | (go_simp; with_reducible rfl)
                  (try simp only [Act.put]); (try simp only [List.setIfInBounds_toArray]); (try simp only [List.set_cons_succ]); (try simp only [List.set_cons_zero])
                  refine takeD (i := 7) (d := some 138) (v := ?_) rfl (by kernel_rfl) (by kernel_rfl) (by kernel_rfl) (by kernel_rfl) (fun _ _ _ h => h) (Or.inl ⟨by kernel_rfl, fun X hX => Or.inl ?_⟩) (by assumption) ?_
                  rotate_left
                  · first | (go_simp; done) | (go_simp; with_reducible rfl)
                  (try simp only [Act.put]); (try simp only [List.setIfInBounds_toArray]); (try simp only [List.set_cons_succ]); (try simp only [List.set_cons_zero])
                  refine takeD (i := 8) (d := some 139) (v := ?_) rfl (by kernel_rfl) (by kernel_rfl) (by kernel_rfl) (by kernel_rfl) (fun _ _ _ h => h) (Or.inl ⟨by kernel_rfl, fun X hX => Or.inl ?_⟩) (by assumption) ?_
                  rotate_left
                  · first | (go_simp; done) | (go_simp; with_reducible rfl)
                  (try simp only [Act.put]); (try simp only [List.setIfInBounds_toArray]); (try simp only [List.set_cons_succ]); (try simp only [List.set_cons_zero])
                  refine takeD (i := 9) (d := some 140) (v := ?_) rfl (by kernel_rfl) (by kernel_rfl) (by kernel_rfl) (by kernel_rfl) (fun _ _ _ h => h) (Or.inl ⟨by kernel_rfl, fun X hX => Or.inl ?_⟩) (by assumption) ?_
                  rotate_left
                  · first | (go_simp; done) | (go_simp; with_reducible rfl)
                  (try simp only [Act.put]); (try simp only [List.setIfInBounds_toArray]); (try simp only [List.set_cons_succ]); (try simp only [List.set_cons_zero])
                  refine takeD (i := 11) (d := some 142) (v := .agg L'.toArray) rfl (by kernel_rfl) (by kernel_rfl) (by kernel_rfl) (by kernel_rfl) (fun _ _ _ h => h) (Or.inl ⟨by kernel_rfl, fun X hX => Or.inl (exec_load 32 (.tmp 6) rfl _ _ rfl (HLD'.out X hX))⟩) (by assumption) ?_
                  (try simp only [Act.put]); (try simp only [List.setIfInBounds_toArray]); (try simp only [List.set_cons_succ]); (try simp only [List.set_cons_zero])
                  refine wpAnyH_ready (rs := [10]) (by kernel_rfl) (by simp) ?_
                  refine AllReadyH.cons rfl (fun K hK => ?_) AllReadyH.nil
                  rw [if_pos (by kernel_rfl)]
                  go_simp
                  refine (HTP.out _ (HP9.out.no hHeld)).mono ?_
                  rintro e v1 ⟨rfl, hv⟩
                  have V1 := Lib.hid (hHeld.trans hv)
                  clear hv
                  refine hK.out _ _ (V1.out) (fun hHeld => ?_)
                  clear hK K
                  (try simp only [Act.put]); (try simp only [List.setIfInBounds_toArray]); (try simp only [List.set_cons_succ]); (try simp only [List.set_cons_zero])
                  refine wpAnyH_ready (rs := [12]) (by kernel_rfl) (by simp) ?_
                  refine AllReadyH.cons rfl (fun K hK => ?_) AllReadyH.nil
                  rw [if_pos (by kernel_rfl)]
                  go_simp
                  refine (HTR.out _ (HR9.out.row.no hHeld)).mono ?_
                  rintro e v2 ⟨rfl, hv⟩
                  have V2 := Lib.hid (hHeld.trans hv)
                  clear hv
                  refine hK.out _ _ (V2.out) (fun hHeld => ?_)
                  clear hK K
                  (try simp only [Act.put]); (try simp only [List.setIfInBounds_toArray]); (try simp only [List.set_cons_succ]); (try simp only [List.set_cons_zero])
                  refine takeD (i := 13) (d := some 144) (v := ?_) rfl (by kernel_rfl) (by kernel_rfl) (by kernel_rfl) (by kernel_rfl) (fun _ _ _ h => h) (Or.inl ⟨by kernel_rfl, fun X hX => Or.inl ?_⟩) (by assumption) ?_
                  rotate_left
                  · first | (go_simp; done) | (go_simp; with_reducible rfl)
                  (try simp only [Act.put]); (try simp only [List.setIfInBounds_toArray]); (try simp only [List.set_cons_succ]); (try simp only [List.set_cons_zero])
                  refine takeD (i := 14) (d := some 145) (v := ?_) rfl (by kernel_rfl) (by kernel_rfl) (by kernel_rfl) (by kernel_rfl) (fun _ _ _ h => h) (Or.inl ⟨by kernel_rfl, fun X hX => Or.inl ?_⟩) (by assumption) ?_
                  rotate_left
                  · first | (go_simp; done) | (go_simp; with_reducible rfl)
                  (try simp only [Act.put]); (try simp only [List.setIfInBounds_toArray]); (try simp only [List.set_cons_succ]); (try simp only [List.set_cons_zero])
                  refine wpAnyH_done (by kernel_rfl) ?_ _
                  clear hHeld
                  go_wp2
                  exact ⟨⟨k1, s, ro, rc, HK1.out.2, rfl, HSL.out, HP9.out.no V2.out, HR9.out.no V2.out, HF9.out.trans V2.out⟩, by have := HK1.out; simp [intOf]; omega⟩
    · have t3 : ¬ (i : Int) < (m : Int) := by omega
      clear hlt hi
      go_wp2_with fail
      obtain ⟨L, hL⟩ : ∃ L, L = cellsP ro s.b.length rc s.h := ⟨_, rfl⟩
      have HL := Lib.hid hL
      have HL65 : Hid (L.length = 65) := Lib.hid (by rw [hL]; exact HR.out.len HP.out.wf)
      have HIN := Lib.hid (fun i X => rin_any s ro rc i X HP.out.wf.b2)
      have HHD := Lib.hid (fun i X => rheld_any s ro s.b.length rc i X HP.out.wf)
      rw [vP, ← hL] at HIN HHD
      have HN32 : Hid (n ≤ 32) := Lib.hid (by rw [← HSL.out]; exact HP.out.wf.b2)
      clear hL
      go_loopw [14] (fun c wr2 => ∃ i : Int, -1 ≤ i ∧ i ≤ n + 1 ∧ c = .int .i64 i ∧ Pu B T p s wr2 ∧ R9 T rb ro rc s wr2 ∧ Fr No w wr2) (fun c _ => (n + 1 - intOf c).toNat)
      case atStart => exact ⟨-1, by omega, by omega, rfl, HP.out, HR.out, HF.out⟩
      clear HP HR HF
      case round =>
        obtain ⟨j, hj1, hj2, rfl, hP, hR, hF⟩ := hrel
        have HP := Lib.hid hP
        have HR := Lib.hid hR
        have HF := Lib.hid hF
        clear hP hF hR
        by_cases hlt : j ≤ (n : Int)
        · have hBL := fun X (hX : Pu B T p s X) => pu_balance hX j
          have hHL := fun X (hX : Pu B T p s X) => pu_held hX j
          have hIN := HIN.out j
          have hHD := HHD.out j
          obtain ⟨k1, hk1⟩ : ∃ k, k = j + 1 := ⟨_, rfl⟩
          have hk1' := hk1.symm
          have HK1 : Hid (-1 ≤ k1 ∧ k1 ≤ n + 1 ∧ k1 = j + 1) := Lib.hid ⟨by omega, by omega, hk1⟩
          have l1 : IntKind.i64.wrap k1 = k1 := IntWalk.i64_in _ (by have := HN32.out; omega)
          clear hk1
          cases hy : s.has j with
          | false =>
            have e1 : s.noneE j = 3 := by unfold Ps.noneE; rw [hy]; rfl
            have e2 : s.balV j = 0 := by unfold Ps.balV; rw [hy]; rfl
            have e3 : s.heldV j = 0 := by unfold Ps.heldV; rw [hy]; rfl
            rw [e1, e2] at hBL
            rw [e1, e3] at hHL
            rw [hy] at hIN
            have HBL := Lib.hid hBL
            have HHL := Lib.hid hHL
            have HII := Lib.hid hIN
            clear hBL hHL hIN hHD hj1 hj2 hy e1 e2 e3
            go_wp2_with fail
            refine (HBL.out _ HP.out).mono ?_
            rintro e y1 ⟨rfl, hF1⟩
            have HP1 := Lib.hid (HP.out.no hF1)
            have HR1 := Lib.hid (HR.out.no hF1)
            have HF1 := Lib.hid (HF.out.trans hF1)
            clear hF1
            go_wp2_with fail
            refine (HHL.out _ HP1.out).mono ?_
            rintro e y2 ⟨rfl, hF1⟩
            have HP2 := Lib.hid (HP1.out.no hF1)
            have HR2 := Lib.hid (HR1.out.no hF1)
            have HF2 := Lib.hid (HF1.out.trans hF1)
            have HLD : Hid ((Instr.loadAt 32 (.pointer (some ⟨rb, 0, none⟩))).run Try.prog y2 = .ok (.agg L.toArray) y2) := Lib.hid (by rw [HL.out]; exact load_rp HR2.out.blk (by rw [← HL.out]; exact HL65.out))
            clear hF1
            go_wp2_with (refine wpList_load_eq rfl 32 _ rfl (.pointer (some ⟨rb, 0, none⟩)) (.agg L.toArray) rfl HLD.out ?_)
            refine (HII.out _).mono ?_
            rintro e y3 ⟨rfl, hF1⟩
            have HP3 := Lib.hid (HP2.out.no hF1)
            have HR3 := Lib.hid (HR2.out.no hF1)
            have HF3 := Lib.hid (HF2.out.trans hF1)
            clear hF1
            go_wp2
            exact ⟨⟨k1, HK1.out.1, HK1.out.2.1, rfl, HP3.out, HR3.out, HF3.out⟩, by have := HK1.out; simp [intOf]; omega⟩
          | true =>
            obtain ⟨k, rfl, hk⟩ := Ps.has_nat hy
            rw [(Ps.balV_nat s hk).1, (Ps.balV_nat s hk).2] at hBL
            rw [Ps.heldV_nat s hk, (Ps.balV_nat s hk).2] at hHL
            rw [hy] at hIN
            obtain ⟨x, hx⟩ : ∃ x, x = s.bal k := ⟨_, rfl⟩
            obtain ⟨h, hh⟩ : ∃ x, x = s.held (k : Int) := ⟨_, rfl⟩
            rw [← hx] at hBL
            rw [← hh] at hHL hHD
            have HXK := Lib.hid hx
            have HK := Lib.hid hk
            have t8 : (k : Int) < (n : Int) := by have := HSL.out; omega
            have t9 : 0 ≤ (k : Int) := by omega
            have HBL := Lib.hid hBL
            have HHL := Lib.hid hHL
            have HII := Lib.hid hIN
            have HHH := Lib.hid hHD
            clear hBL hHL hIN hHD hj1 hj2 hy hx hh hk
            go_wp2_with fail
            refine (HBL.out _ HP.out).mono ?_
            rintro e y1 ⟨rfl, hF1⟩
            have HP1 := Lib.hid (HP.out.no hF1)
            have HR1 := Lib.hid (HR.out.no hF1)
            have HF1 := Lib.hid (HF.out.trans hF1)
            clear hF1
            go_wp2_with fail
            refine (HHL.out _ HP1.out).mono ?_
            rintro e y2 ⟨rfl, hF1⟩
            have HP2 := Lib.hid (HP1.out.no hF1)
            have HR2 := Lib.hid (HR1.out.no hF1)
            have HF2 := Lib.hid (HF1.out.trans hF1)
            have HLD : Hid ((Instr.loadAt 32 (.pointer (some ⟨rb, 0, none⟩))).run Try.prog y2 = .ok (.agg L.toArray) y2) := Lib.hid (by rw [HL.out]; exact load_rp HR2.out.blk (by rw [← HL.out]; exact HL65.out))
            clear hF1
            go_wp2_with (refine wpList_load_eq rfl 32 _ rfl (.pointer (some ⟨rb, 0, none⟩)) (.agg L.toArray) rfl HLD.out ?_)
            refine (HII.out _).mono ?_
            rintro e y3 ⟨rfl, hF1⟩
            have HP3 := Lib.hid (HP2.out.no hF1)
            have HR3 := Lib.hid (HR2.out.no hF1)
            have HF3 := Lib.hid (HF2.out.trans hF1)
            have HLD : Hid ((Instr.loadAt 32 (.pointer (some ⟨rb, 0, none⟩))).run Try.prog y3 = .ok (.agg L.toArray) y3) := Lib.hid (by rw [HL.out]; exact load_rp HR3.out.blk (by rw [← HL.out]; exact HL65.out))
            have c0 := HR3.out.blk.cell (i := 0) (v := .slice ro n rc) (by rw [HSL.out]; rfl)
            obtain ⟨r0, hr0, ck⟩ := HR3.out.row.row k HK.out
            rw [hr0] at c0
            rw [← HXK.out] at ck
            clear hF1 hr0
            go_wp2_with (refine wpList_load_eqG 32 _ rfl (.pointer (some ⟨rb, 0, none⟩)) (.agg L.toArray) rfl HLD.out (by kernel_rfl) ?_)
            refine (HHH.out _).mono ?_
            rintro e y4 ⟨rfl, hF1⟩
            have HP4 := Lib.hid (HP3.out.no hF1)
            have HR4 := Lib.hid (HR3.out.no hF1)
            have HF4 := Lib.hid (HF3.out.trans hF1)
            clear hF1 c0 ck
            go_wp2
            exact ⟨⟨k1, HK1.out.1, HK1.out.2.1, rfl, HP4.out, HR4.out, HF4.out⟩, by have := HK1.out; simp [intOf]; omega⟩
        · have t4 : ¬ j ≤ (n : Int) := hlt
          clear hlt hj1 hj2
          go_wp2
          go_ret
          exact ⟨rfl, HF.out⟩
end Go.Proofs.Ytnimeafaciegkaa
