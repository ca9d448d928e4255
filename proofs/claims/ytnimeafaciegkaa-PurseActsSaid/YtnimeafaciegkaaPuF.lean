/- The document's purse: Reserve, Commit, Release, Move. -/
import Derived.Test.YtnimeafaciegkaaPuE
namespace Go.Proofs.Ytnimeafaciegkaa
open Go.RowKit
set_option linter.unusedVariables false
set_option maxRecDepth 100000

theorem alloc_box (w : World) (L : List Value) : (Instr.alloc 32 true (.tuple #[])).run Try.prog (w.alloc (.cells L.toArray 32)) = .ok (.pointer (some ⟨w.heap.size + 1, 0, none⟩)) ((w.alloc (.cells L.toArray 32)).alloc (.cells zeroP.toArray 32)) := by
  have := alloc_rp (w.alloc (.cells L.toArray 32))
  rw [World.size_alloc] at this
  exact this
theorem results_cell3 {P : Program} {fn : Func} {p q r : Tmp} {t : TypeId} (h : fn.results = #[.cell p t, .tmp q, .tmp r]) {tmps : Array Value} {w : World} {a : Addr} {x y z : Value}
    (hp : tmps.getD p undef = .pointer (some a)) (hq : tmps.getD q undef = y) (hr : tmps.getD r undef = z) (hx : (Go.loadVar t a).run P w = .ok x w) : (results fn tmps).run P w = .ok (.tuple #[x, y, z]) w := by
  have hp' : tmps[p]?.getD undef = .pointer (some a) := by simpa using hp
  have hq' : tmps[q]?.getD undef = y := by simpa using hq
  have hr' : tmps[r]?.getD undef = z := by simpa using hr
  simp [results, h, hp', hq', hr', asAddr, hx]
/-- Where the balances lie: as before, or anew. -/
def DNext (w : World) (ao ao' : Option Addr) : Prop := ao' = ao ∨ ∃ r, w.heap.size ≤ r ∧ ao' = some ⟨r, 0, none⟩
theorem DAt.congr {ao : Option Addr} {cap : Nat} {s t : Ps} {w : World} (h : DAt ao cap s w) (e : t.b = s.b) : DAt ao cap t w := ⟨fun i hi => by
  obtain ⟨r, hr, hc⟩ := h.row i (by rw [← e]; exact hi)
  refine ⟨r, hr, ?_⟩
  unfold Ps.bal at hc ⊢
  rw [e]
  exact hc⟩
theorem DAt.no {ao : Option Addr} {cap : Nat} {s : Ps} {w w' : World} (h : DAt ao cap s w) (f : Fr No w w') : DAt ao cap s w' := h.fr f (fun _ _ => id)
/-- Into the box q, what is handed back. -/
theorem RB.fill {w X : World} {q c : Nat} {L M N : List Value} (k : RB w q c L M X) (hl : L.length = 65) (hn : N.length = 65) (h1 : ∀ u ∈ N, u.oneCell' = true) :
    ∃ Y, (Instr.storeAt 32 (.pointer (some ⟨q, 0, none⟩)) (.agg N.toArray)).run Try.prog X = .ok () Y ∧ RB w q c N M Y ∧ Fr (· = q) X Y := by
  obtain ⟨Y, hY, hB, hF⟩ := store_rp k.box hl hn h1
  exact ⟨Y, hY, ⟨k.fr.trans' hF (fun i hi e => by have := k.q0; omega), k.q0, k.qc, k.c0, hB, k.res.fr hF (fun e => k.qc e.symm)⟩, hF⟩
theorem hold_info : (Try.prog.info? 29).map (·.size) = some 2 := by kernel_rfl
/-- A hold is stored into the box. -/
theorem RB.hold {w X : World} {q c : Nat} {M : List Value} {ao : Option Addr} {n cap : Nat} {h : List (Nat × Nat)} (k : RB w q c (cellsP ao n cap h) M X) (hl : h.length = 32) {i : Nat} (hi : i < 32) (x : Nat × Nat) :
    ∃ Y, (Instr.storeAt 29 (.pointer (some ⟨q, 1 + i * 2, none⟩)) (vR x)).run Try.prog X = .ok () Y ∧ RB w q c (cellsP ao n cap (h.set i x)) M Y ∧ Fr (· = q) X Y := by
  have hlen := cellsP_len (ao := ao) (n := n) (cap := cap) hl
  have h1 := store_range (P := Try.prog) (w := X) (b := q) (o := 1 + i * 2) (ty := 29) (cs := [.int .i64 (x.1 : Int), .int .u64 (x.2 : Int)]) (k.box.there (by rw [hlen]; simp; omega)) hold_info (by simp [Value.oneCell']) _ rfl
  have hF : Fr (· = q) X (X.setCells q (1 + i * 2) [.int .i64 (x.1 : Int), .int .u64 (x.2 : Int)]) := fr_setCells _ _ _ _ _ (.inl rfl) (Fr.refl _ _)
  have hB := k.box.setCells [.int .i64 (x.1 : Int), .int .u64 (x.2 : Int)] (1 + i * 2)
  have e : putL (cellsP ao n cap h) (1 + i * 2) [.int .i64 (x.1 : Int), .int .u64 (x.2 : Int)] = cellsP ao n cap (h.set i x) := by
    have := cellsH_set h i x
    show ((Value.slice ao n cap :: cellsH h).set (1 + i * 2) _).set (1 + i * 2 + 1) _ = _
    rw [show 1 + i * 2 = 2 * i + 1 by omega]
    simp only [List.set_cons_succ]
    rw [this]
    rfl
  rw [e] at hB
  exact ⟨_, h1, ⟨k.fr.trans' hF (fun i hi e => by have := k.q0; omega), k.q0, k.qc, k.c0, hB, k.res.fr hF (fun e => k.qc e.symm)⟩, hF⟩
set_option maxHeartbeats 8000000 in
theorem rreserve_any (s : Ps) (ao : Option Addr) (cap : Nat) (a : Int) (m : Nat) (w : World) (hd : DAt ao cap s w) (W : s.Wf) (hm : m < 18446744073709551616) : Calls Try.prog 11 #[vP ao s.b.length cap s.h, .int .i64 a, .int .u64 (m : Int)] w fun e w' =>
    ∃ ao' cap', e = .returned (.tuple #[vP ao' s.b.length cap' (s.resS a m).h, .int .i64 (s.resI a m : Int), .int .i64 (s.resE a m)]) ∧ DNext w ao ao' ∧ DAt ao' cap' (s.resS a m) w' ∧ Fr No w w' := by
  obtain ⟨L, hL⟩ : ∃ L, L = cellsP ao s.b.length cap s.h := ⟨_, rfl⟩
  have HL := Lib.hid hL
  have HL65 : Hid (L.length = 65) := Lib.hid (by rw [hL]; exact cellsP_len W.hl)
  have HL1 : Hid (∀ u ∈ L, u.oneCell' = true) := Lib.hid (by rw [hL]; exact cellsP_one)
  have HR : Hid (RB w w.heap.size (w.heap.size + 1) L zeroP ((w.alloc (.cells L.toArray 32)).alloc (.cells zeroP.toArray 32))) := Lib.hid (RB.new w L)
  have HAL := Lib.hid (alloc_box w L)
  obtain ⟨q, hq⟩ : ∃ q, q = w.heap.size := ⟨_, rfl⟩
  obtain ⟨c, hc⟩ : ∃ c, c = w.heap.size + 1 := ⟨_, rfl⟩
  rw [← hc] at HAL
  have HQ := Lib.hid hq
  have HC := Lib.hid hc
  have HD := Lib.hid hd
  have HW := Lib.hid W
  clear hq hc
  have HIN := Lib.hid (fun X => rin_any s ao cap a X W.b2)
  rw [vP, ← hL] at HIN ⊢
  obtain ⟨y, hy⟩ : ∃ y, y = s.has a := ⟨_, rfl⟩
  rw [← hy] at HIN
  cases y with
  | false =>
    have e1 : s.resE a m = 3 := if_pos hy.symm
    have e2 : s.resI a m = 0 := if_neg (by rw [e1]; omega)
    have e3 : s.resS a m = s := if_neg (by rw [e1]; omega)
    rw [e1, e2, e3]
    clear hd W hy e1 e2 e3 hL hm
    go_enter Try.func11, Try.ntmps11
    go_wp2_with (first
      | (refine wpList_execG (.pointer (some ⟨c, 0, none⟩)) (exec_alloc 32 rfl _ HAL.out) rfl ?_
         rw [← HQ.out]
         refine wpList_world (fun W => RB w q c L zeroP W) (by rw [HQ.out, HC.out]; exact HR.out) ?_
         intro X hX
         have HX := Lib.hid hX
         have HLD := Lib.hid (load_rp hX.box HL65.out)
         clear hX)
      | (refine wpList_load_eq rfl 32 _ rfl (.pointer (some ⟨q, 0, none⟩)) (.agg L.toArray) rfl HLD.out ?_))
    refine (HIN.out _).mono ?_
    rintro e X1 ⟨rfl, hF1⟩
    have HX := Lib.hid (HX.out.on hF1)
    have HLD := Lib.hid (load_rp HX.out.box HL65.out)
    clear hF1
    obtain ⟨Z, hZ, hZv, hZF, hZc⟩ := HX.out.put (cellsP_len rfl) HL65.out HL1.out
    have HST := Lib.hid hZ
    have HSV := Lib.hid hZv
    have HFZ := Lib.hid hZF
    clear hZ hZv hZF hZc
    go_wp2_with (first
      | (refine wpList_load_eq rfl 32 _ rfl (.pointer (some ⟨q, 0, none⟩)) (.agg L.toArray) rfl HLD.out ?_)
      | (refine wpList_store_eq rfl 32 _ _ rfl (.pointer (some ⟨c, 0, none⟩)) (.agg L.toArray) rfl rfl HST.out ?_))
    exact bodyPost_ret (results_cell3 rfl rfl rfl rfl HSV.out) rfl ⟨_, cap, by rw [HL.out]; rfl, .inl rfl, HD.out.no HFZ.out, HFZ.out⟩
  | true =>
    obtain ⟨k, rfl, hk⟩ := Ps.has_nat hy.symm
    by_cases h0 : m = 0
    · have e1 : s.resE (k : Int) m = 1 := by unfold Ps.resE; rw [if_neg (by rw [← hy]; simp), if_pos h0]
      have e2 : s.resI (k : Int) m = 0 := if_neg (by rw [e1]; omega)
      have e3 : s.resS (k : Int) m = s := if_neg (by rw [e1]; omega)
      rw [e1, e2, e3]
      have t0 : ((m : Int) == 0) = true := by rw [h0]; rfl
      clear hd W hy e1 e2 e3 hL hm h0
      go_enter Try.func11, Try.ntmps11
      go_wp2_with (first
        | (refine wpList_execG (.pointer (some ⟨c, 0, none⟩)) (exec_alloc 32 rfl _ HAL.out) rfl ?_
           rw [← HQ.out]
           refine wpList_world (fun W => RB w q c L zeroP W) (by rw [HQ.out, HC.out]; exact HR.out) ?_
           intro X hX
           have HX := Lib.hid hX
           have HLD := Lib.hid (load_rp hX.box HL65.out)
           clear hX)
        | (refine wpList_load_eq rfl 32 _ rfl (.pointer (some ⟨q, 0, none⟩)) (.agg L.toArray) rfl HLD.out ?_))
      refine (HIN.out _).mono ?_
      rintro e X1 ⟨rfl, hF1⟩
      have HX := Lib.hid (HX.out.on hF1)
      have HLD := Lib.hid (load_rp HX.out.box HL65.out)
      clear hF1
      obtain ⟨Z, hZ, hZv, hZF, hZc⟩ := HX.out.put (cellsP_len rfl) HL65.out HL1.out
      have HST := Lib.hid hZ
      have HSV := Lib.hid hZv
      have HFZ := Lib.hid hZF
      clear hZ hZv hZF hZc
      go_wp2_with (first
        | (refine wpList_load_eq rfl 32 _ rfl (.pointer (some ⟨q, 0, none⟩)) (.agg L.toArray) rfl HLD.out ?_)
        | (refine wpList_store_eq rfl 32 _ _ rfl (.pointer (some ⟨c, 0, none⟩)) (.agg L.toArray) rfl rfl HST.out ?_))
      exact bodyPost_ret (results_cell3 rfl rfl rfl rfl HSV.out) rfl ⟨_, cap, by rw [HL.out]; rfl, .inl rfl, HD.out.no HFZ.out, HFZ.out⟩
    · have t0 : ((m : Int) == 0) = false := by rw [beq_eq_false_iff_ne]; omega
      obtain ⟨F, hF⟩ : ∃ F, F = s.free := ⟨_, rfl⟩
      have HF32 : Hid (F ≤ 32) := Lib.hid (by rw [hF]; exact Ps.free_le W.hl)
      obtain ⟨x, hx⟩ : ∃ x, x = s.bal k := ⟨_, rfl⟩
      have HXK := Lib.hid hx
      have HK := Lib.hid hk
      have e0 : s.resE (k : Int) m = if F = 32 then 2 else if x < m then 61 else 0 := by
        unfold Ps.resE
        rw [if_neg (by rw [← hy]; simp), if_neg h0, Int.toNat_natCast, ← hF, ← hx]
      obtain ⟨E, hE⟩ : ∃ E, E = s.resE (k : Int) m := ⟨_, rfl⟩
      have HE : Hid (E = if F = 32 then 2 else if x < m then 61 else 0) := Lib.hid (by rw [hE, e0])
      obtain ⟨I, hI⟩ : ∃ I, I = s.resI (k : Int) m := ⟨_, rfl⟩
      have HI : Hid (I = if E = 0 then F else 0) := Lib.hid (by rw [hI, hE, hF]; rfl)
      obtain ⟨s', hs'⟩ : ∃ t, t = s.resS (k : Int) m := ⟨_, rfl⟩
      have HS : Hid (s' = if E = 0 then ⟨s.b.set k (x - m), s.h.set F (k, m)⟩ else s) := Lib.hid (by rw [hs', hE, hF, hx]; unfold Ps.resS Ps.res1; rw [Int.toNat_natCast])
      have HF := Lib.hid hF
      have hx50 : x ≤ 1125899906842624 := by rw [hx]; exact Nat.le_trans (Ps.bal_le hk) W.top
      have HM := Lib.hid hm
      have HM0 := Lib.hid h0
      have HX50 := Lib.hid hx50
      obtain ⟨n, hn⟩ : ∃ n, n = s.b.length := ⟨_, rfl⟩
      have HN := Lib.hid hn
      have t9 : (k : Int) < (n : Int) := by omega
      have t8 : 0 ≤ (k : Int) := by omega
      rw [← hE, ← hI, ← hs']
      clear hd W hy hL hm h0 hF hx e0 hE hI hs' hx50 hk hn
      go_enter Try.func11, Try.ntmps11
      go_wp2_with (first
        | (refine wpList_execG (.pointer (some ⟨c, 0, none⟩)) (exec_alloc 32 rfl _ HAL.out) rfl ?_
           rw [← HQ.out]
           refine wpList_world (fun W => RB w q c L zeroP W) (by rw [HQ.out, HC.out]; exact HR.out) ?_
           intro X hX
           have HX := Lib.hid hX
           have HLD := Lib.hid (load_rp hX.box HL65.out)
           clear hX)
        | (refine wpList_load_eq rfl 32 _ rfl (.pointer (some ⟨q, 0, none⟩)) (.agg L.toArray) rfl HLD.out ?_))
      refine (HIN.out _).mono ?_
      rintro e X1 ⟨rfl, hF1⟩
      have HX := Lib.hid (HX.out.on hF1)
      have HLD := Lib.hid (load_rp HX.out.box HL65.out)
      clear hF1
      go_wp2_with (first | (refine wpList_load_eq rfl 32 _ rfl (.pointer (some ⟨q, 0, none⟩)) (.agg L.toArray) rfl HLD.out ?_))
      go_loopw [9] (fun v wr => ∃ j : Nat, j ≤ F ∧ v = .int .i64 j ∧ RB w q c L zeroP wr) (fun v _ => 32 - (intOf v).toNat)
      case atStart => exact ⟨0, by omega, rfl, HX.out⟩
      case round =>
        obtain ⟨j, hj, rfl, hX⟩ := hrel
        have HX := Lib.hid hX
        have HLD := Lib.hid (load_rp hX.box HL65.out)
        clear hX
        by_cases hlt : j < 32
        · have t1 : decide ((j : Int) < 32) = true := decide_eq_true (by omega)
          obtain ⟨u, hu⟩ : ∃ u, u = (s.hold j).2 := ⟨_, rfl⟩
          have tj : (j : Int) < 32 := by omega
          have cu := HX.out.box.cell (i := 1 + j * 2 + 1) (v := .int .u64 (u : Int)) (by rw [HL.out, cellsP_snd s HW.out.hl hlt, ← hu])
          by_cases h2 : 0 < u
          · have t2 : decide ((0 : Int) < (u : Int)) = true := decide_eq_true (by omega)
            have t2' : decide (0 < u) = true := decide_eq_true h2
            have hjF : j + 1 ≤ F := by
              by_cases e : j = F
              · exfalso
                have h9 := Ps.free_is HW.out.hl (by rw [← HF.out]; omega)
                rw [← HF.out, ← e, ← hu] at h9
                omega
              · omega
            obtain ⟨k1, hk1⟩ : ∃ k1, k1 = j + 1 := ⟨_, rfl⟩
            have HK1 : Hid (k1 = j + 1 ∧ k1 ≤ F ∧ j < 32) := Lib.hid ⟨hk1, by omega, hlt⟩
            have s1 : (j : Int) + 1 = (k1 : Int) := by omega
            have l1 : IntKind.i64.wrap (k1 : Int) = (k1 : Int) := IntWalk.i64_in _ (by omega)
            clear hlt hj hu h2 hjF hk1
            go_wp2
            exact ⟨⟨k1, HK1.out.2.1, rfl, HX.out⟩, by have := HK1.out; simp [intOf]; omega⟩
          · have t2 : decide ((0 : Int) < (u : Int)) = false := decide_eq_false (by omega)
            have t2' : decide (0 < u) = false := decide_eq_false h2
            have hjF : j = F := by
              by_cases e : j = F
              · exact e
              · have h9 := Ps.free_taken HW.out.hl (i := j) (by rw [← HF.out]; omega)
                rw [← hu] at h9
                omega
            have t3 : ((j : Int) == 32) = false := by rw [beq_eq_false_iff_ne]; omega
            obtain rfl := hjF
            obtain ⟨r0, hr0, ck⟩ := (HD.out.no HX.out.fr).row k HK.out
            rw [← HXK.out] at ck
            subst hr0
            have c0 := HX.out.box.cell (i := 0) (v := .slice (some ⟨r0, 0, none⟩) n cap) (by rw [HL.out, HN.out]; rfl)
            have HJ := Lib.hid hlt
            clear hlt hj hu h2
            by_cases hxm : x < m
            · have t4 : decide ((x : Int) < (m : Int)) = true := decide_eq_true (by omega)
              have t5 : decide (x < m) = true := decide_eq_true hxm
              have t6 : (x : Int) < (m : Int) := by omega
              obtain rfl : E = 61 := by rw [HE.out, if_neg (by have := HJ.out; omega), if_pos hxm]
              obtain rfl : I = 0 := by rw [HI.out]; rfl
              obtain rfl : s' = s := by rw [HS.out]; rfl
              clear hxm HE HI HS
              obtain ⟨Z, hZ, hZv, hZF, hZc⟩ := HX.out.put (cellsP_len rfl) HL65.out HL1.out
              have HST := Lib.hid hZ
              have HSV := Lib.hid hZv
              have HFZ := Lib.hid hZF
              clear hZ hZv hZF hZc
              go_wp2_with (first
                | (refine wpList_load_eq rfl 32 _ rfl (.pointer (some ⟨q, 0, none⟩)) (.agg L.toArray) rfl HLD.out ?_)
                | (refine wpList_store_eq rfl 32 _ _ rfl (.pointer (some ⟨c, 0, none⟩)) (.agg L.toArray) rfl rfl HST.out ?_))
              exact bodyPost_ret (results_cell3 rfl rfl rfl rfl HSV.out) rfl ⟨_, cap, by rw [HL.out]; rfl, .inl rfl, HD.out.no HFZ.out, HFZ.out⟩
            · have t4 : decide ((x : Int) < (m : Int)) = false := decide_eq_false (by omega)
              have t5 : decide (x < m) = false := decide_eq_false hxm
              have t6 : ¬ (x : Int) < (m : Int) := by omega
              obtain rfl : E = 0 := by rw [HE.out, if_neg (by have := HJ.out; omega), if_neg hxm]
              obtain rfl : I = j := by rw [HI.out, if_pos rfl]
              obtain ⟨d, hdd⟩ : ∃ d : Int, d = 18446744073709551616 - (m : Int) := ⟨_, rfl⟩
              have hm1 := HM.out
              have hm2 := HM0.out
              have hx1 := HX50.out
              have w1 : IntKind.u64.wrap (-(m : Int)) = d := by rw [IntKind.wrap_u64]; omega
              obtain ⟨v, hv⟩ : ∃ v, v = x - m := ⟨_, rfl⟩
              have hw2 : IntKind.u64.wrap ((s.bal k : Int) + d) = (v : Int) := by rw [IntKind.wrap_u64, ← HXK.out]; omega
              have hS2 : s' = ⟨s.b.set k v, s.h.set I (k, m)⟩ := by rw [HS.out, if_pos rfl, hv]
              have HS2 := Lib.hid hS2
              have HAD := Lib.hid (fun X (hX : DAt (some ⟨r0, 0, none⟩) cap s X) => radd9_any s (some ⟨r0, 0, none⟩) cap k v d X hX HW.out.hl HW.out.b2 HK.out hw2)
              rw [vP, ← HL.out] at HAD
              clear hxm HE HI HS hdd hm1 hm2 hx1 hv hw2 hS2
              go_wp2_with (first | (refine wpList_load_eq rfl 32 _ rfl (.pointer (some ⟨q, 0, none⟩)) (.agg L.toArray) rfl HLD.out ?_))
              refine (HAD.out _ (HD.out.no HX.out.fr)).mono ?_
              rintro e X1 ⟨r, c', rfl, hr, hD1, hF1⟩
              have HX1 := Lib.hid (HX.out.on hF1)
              have HD1 := Lib.hid hD1
              have HR1 : Hid (w.heap.size ≤ r) := Lib.hid (by have := HX.out.fr.size; omega)
              have HR2 : Hid (q < r ∧ c < r) := Lib.hid ⟨by have := HX.out.box.lt; omega, by have := HX.out.res.lt; omega⟩
              obtain ⟨N, hN⟩ : ∃ N, N = cellsP (some ⟨r, 0, none⟩) s.b.length c' s.h := ⟨_, rfl⟩
              obtain ⟨Y, hY, hYB, hYF⟩ := HX1.out.fill (N := N) HL65.out (by rw [hN]; exact cellsP_len HW.out.hl) (by rw [hN]; exact cellsP_one)
              have HY := Lib.hid hY
              rw [vP, ← hN]
              rw [hN] at hYB
              obtain ⟨Z, hZ, hZB, hZF⟩ := hYB.hold HW.out.hl HJ.out (k, m)
              have HZ := Lib.hid hZ
              have hZ65 : (cellsP (some ⟨r, 0, none⟩) s.b.length c' (s.h.set I (k, m))).length = 65 := cellsP_len (by rw [List.length_set]; exact HW.out.hl)
              have HZB := Lib.hid hZB
              have HN2 := Lib.hid hN
              obtain ⟨N2, hN2⟩ : ∃ N2, N2 = cellsP (some ⟨r, 0, none⟩) s.b.length c' (s.h.set I (k, m)) := ⟨_, rfl⟩
              rw [← hN2] at hZB hZ65
              have HN2' := Lib.hid hN2
              have HLD2 := Lib.hid (load_rp hZB.box hZ65)
              obtain ⟨V, hV, hVv, hVF, hVc⟩ := hZB.put (cellsP_len rfl) hZ65 (by rw [hN2]; exact cellsP_one)
              have HST := Lib.hid hV
              have HSV := Lib.hid hVv
              have HFV := Lib.hid hVF
              have HDV : Hid (DAt (some ⟨r, 0, none⟩) c' s' V) := Lib.hid (by
                have g1 := HR2.out
                rw [HS2.out]
                refine DAt.congr (s := ⟨s.b.set k v, s.h⟩) ?_ rfl
                refine (((HD1.out.fr hYF (fun b hb => ?_)).fr hZF (fun b hb => ?_)).fr hVc (fun b hb => ?_))
                all_goals
                  injection hb with hb
                  subst hb
                  show ¬ r = _
                  omega)
              clear hr hD1 hF1 hY hYB hYF hZ hZB hZF hZ65 hN hN2 hV hVv hVF hVc ck c0 cu
              go_wp2_with (first
                | (refine wpList_store_eq rfl 32 _ _ rfl (.pointer (some ⟨q, 0, none⟩)) (.agg N.toArray) rfl rfl HY.out ?_)
                | (refine wpList_store_eq rfl 29 _ _ rfl (.pointer (some ⟨q, 1 + I * 2, none⟩)) (vR (k, m)) rfl rfl HZ.out ?_)
                | (refine wpList_load_eq rfl 32 _ rfl (.pointer (some ⟨q, 0, none⟩)) (.agg N2.toArray) rfl HLD2.out ?_)
                | (refine wpList_store_eq rfl 32 _ _ rfl (.pointer (some ⟨c, 0, none⟩)) (.agg N2.toArray) rfl rfl HST.out ?_))
              exact bodyPost_ret (results_cell3 rfl rfl rfl rfl HSV.out) rfl ⟨some ⟨r, 0, none⟩, c', by rw [HN2'.out, HS2.out]; rfl, .inr ⟨r, HR1.out, rfl⟩, HDV.out, HFV.out⟩
        · have t1 : decide ((j : Int) < 32) = false := decide_eq_false (by omega)
          obtain rfl : F = 32 := by have := HF32.out; omega
          have t3 : ((j : Int) == 32) = true := by rw [show j = 32 by omega]; rfl
          obtain rfl : E = 2 := by rw [HE.out, if_pos rfl]
          obtain rfl : I = 0 := by rw [HI.out]; rfl
          obtain rfl : s' = s := by rw [HS.out]; rfl
          clear hlt hj HE HI HS
          obtain ⟨Z, hZ, hZv, hZF, hZc⟩ := HX.out.put (cellsP_len rfl) HL65.out HL1.out
          have HST := Lib.hid hZ
          have HSV := Lib.hid hZv
          have HFZ := Lib.hid hZF
          clear hZ hZv hZF hZc
          go_wp2_with (first
            | (refine wpList_load_eq rfl 32 _ rfl (.pointer (some ⟨q, 0, none⟩)) (.agg L.toArray) rfl HLD.out ?_)
            | (refine wpList_store_eq rfl 32 _ _ rfl (.pointer (some ⟨c, 0, none⟩)) (.agg L.toArray) rfl rfl HST.out ?_))
          exact bodyPost_ret (results_cell3 rfl rfl rfl rfl HSV.out) rfl ⟨_, cap, by rw [HL.out]; rfl, .inl rfl, HD.out.no HFZ.out, HFZ.out⟩
end Go.Proofs.Ytnimeafaciegkaa
