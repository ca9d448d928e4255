/- The document's purse: Commit, Release, Move. -/
import Derived.Test.YtnimeafaciegkaaPuF
import Derived.Test.YtnimeafaciegkaaWpO
import Derived.Deep.RegionHeld
namespace Go.Proofs.Ytnimeafaciegkaa
open Go.RowKit
set_option linter.unusedVariables false
set_option maxRecDepth 100000

/-- What Commit, Release and Move answer. -/
def DAct (w : World) (ao : Option Addr) (s' : Ps) (E : Int) (e : Ending) (w' : World) : Prop :=
  ∃ ao' cap', e = .returned (.tuple #[vP ao' s'.b.length cap' s'.h, .int .i64 E]) ∧ DNext w ao ao' ∧ DAt ao' cap' s' w' ∧ Fr No w w'

set_option maxHeartbeats 8000000 in
theorem rcommit_any (s : Ps) (ao : Option Addr) (cap : Nat) (i t : Int) (w : World) (hd : DAt ao cap s w) (W : s.Wf) : Calls Try.prog 13 #[vP ao s.b.length cap s.h, .int .i64 i, .int .i64 t] w fun e w' => DAct w ao (s.comS i t) (s.comE i t) e w' := by
  obtain ⟨L, hL⟩ : ∃ L, L = cellsP ao s.b.length cap s.h := ⟨_, rfl⟩
  have HL := Lib.hid hL
  have HL65 : Hid (L.length = 65) := Lib.hid (by rw [hL]; exact cellsP_len W.hl)
  have HL1 : Hid (∀ u ∈ L, u.oneCell' = true) := Lib.hid (by rw [hL]; exact cellsP_one)
  have HR : Hid (RB w w.heap.size (w.heap.size + 1) L zeroP ((w.alloc (.cells L.toArray 32)).alloc (.cells zeroP.toArray 32))) := Lib.hid (RB.new w L)
  have HAL := Lib.hid (alloc_box w L)
  obtain ⟨q, hq⟩ : ∃ q, q = w.heap.size := ⟨_, rfl⟩
  obtain ⟨c, hc⟩ : ∃ c, c = w.heap.size + 1 := ⟨_, rfl⟩
  rw [← hc] at HAL
  have HQ := Lib.hid hq
  have HC := Lib.hid hc
  have HD := Lib.hid hd
  have HW := Lib.hid W
  clear hq hc
  have HTH := Lib.hid (fun X => rthere_any s ao s.b.length cap i X W)
  have HIN := Lib.hid (fun X => rin_any s ao cap t X W.b2)
  rw [vP, ← hL] at HIN HTH ⊢
  obtain ⟨y, hy⟩ : ∃ y, y = s.there i := ⟨_, rfl⟩
  rw [← hy] at HTH
  cases y with
  | false =>
    have e1 : s.comE i t = 1 := if_pos hy.symm
    have e3 : s.comS i t = s := if_neg (by rw [e1]; omega)
    rw [e1, e3]
    clear hd W hy e1 e3 hL
    go_enter Try.func13, Try.ntmps13
    go_wp2_with (first
      | (refine wpList_execG (.pointer (some ⟨c, 0, none⟩)) (exec_alloc 32 rfl _ HAL.out) rfl ?_
         rw [← HQ.out]
         refine wpList_world (fun W => RB w q c L zeroP W) (by rw [HQ.out, HC.out]; exact HR.out) ?_
         intro X hX
         have HX := Lib.hid hX
         have HLD := Lib.hid (load_rp hX.box HL65.out)
         clear hX)
      | (refine wpList_load_eq rfl 32 _ rfl (.pointer (some ⟨q, 0, none⟩)) (.agg L.toArray) rfl HLD.out ?_))
    refine (HTH.out _).mono ?_
    rintro e X1 ⟨rfl, hF1⟩
    have HX := Lib.hid (HX.out.on hF1)
    have HLD := Lib.hid (load_rp HX.out.box HL65.out)
    clear hF1
    obtain ⟨Z, hZ, hZv, hZF, hZc⟩ := HX.out.put (cellsP_len rfl) HL65.out HL1.out
    have HST := Lib.hid hZ
    have HSV := Lib.hid hZv
    have HFZ := Lib.hid hZF
    clear hZ hZv hZF hZc
    go_wp2_with (first
      | (refine wpList_load_eq rfl 32 _ rfl (.pointer (some ⟨q, 0, none⟩)) (.agg L.toArray) rfl HLD.out ?_)
      | (refine wpList_store_eq rfl 32 _ _ rfl (.pointer (some ⟨c, 0, none⟩)) (.agg L.toArray) rfl rfl HST.out ?_))
    exact bodyPost_ret (results_cellT rfl rfl rfl HSV.out) rfl ⟨_, cap, by rw [HL.out]; rfl, .inl rfl, HD.out.no HFZ.out, HFZ.out⟩
  | true =>
    obtain ⟨z, hz⟩ : ∃ z, z = s.has t := ⟨_, rfl⟩
    rw [← hz] at HIN
    cases z with
    | false =>
      have e1 : s.comE i t = 3 := by unfold Ps.comE; rw [if_neg (by rw [← hy]; simp), if_pos hz.symm]
      have e3 : s.comS i t = s := if_neg (by rw [e1]; omega)
      rw [e1, e3]
      clear hd W hy e1 e3 hL hz
      go_enter Try.func13, Try.ntmps13
      go_wp2_with (first
        | (refine wpList_execG (.pointer (some ⟨c, 0, none⟩)) (exec_alloc 32 rfl _ HAL.out) rfl ?_
           rw [← HQ.out]
           refine wpList_world (fun W => RB w q c L zeroP W) (by rw [HQ.out, HC.out]; exact HR.out) ?_
           intro X hX
           have HX := Lib.hid hX
           have HLD := Lib.hid (load_rp hX.box HL65.out)
           clear hX)
        | (refine wpList_load_eq rfl 32 _ rfl (.pointer (some ⟨q, 0, none⟩)) (.agg L.toArray) rfl HLD.out ?_))
      refine (HTH.out _).mono ?_
      rintro e X1 ⟨rfl, hF1⟩
      have HX := Lib.hid (HX.out.on hF1)
      have HLD := Lib.hid (load_rp HX.out.box HL65.out)
      clear hF1
      go_wp2_with (first | (refine wpList_load_eq rfl 32 _ rfl (.pointer (some ⟨q, 0, none⟩)) (.agg L.toArray) rfl HLD.out ?_))
      refine (HIN.out _).mono ?_
      rintro e X1 ⟨rfl, hF1⟩
      have HX := Lib.hid (HX.out.on hF1)
      have HLD := Lib.hid (load_rp HX.out.box HL65.out)
      clear hF1
      obtain ⟨Z, hZ, hZv, hZF, hZc⟩ := HX.out.put (cellsP_len rfl) HL65.out HL1.out
      have HST := Lib.hid hZ
      have HSV := Lib.hid hZv
      have HFZ := Lib.hid hZF
      clear hZ hZv hZF hZc
      go_wp2_with (first
        | (refine wpList_load_eq rfl 32 _ rfl (.pointer (some ⟨q, 0, none⟩)) (.agg L.toArray) rfl HLD.out ?_)
        | (refine wpList_store_eq rfl 32 _ _ rfl (.pointer (some ⟨c, 0, none⟩)) (.agg L.toArray) rfl rfl HST.out ?_))
      exact bodyPost_ret (results_cellT rfl rfl rfl HSV.out) rfl ⟨_, cap, by rw [HL.out]; rfl, .inl rfl, HD.out.no HFZ.out, HFZ.out⟩
    | true =>
      obtain ⟨k, rfl, hk, hk2⟩ := Ps.there_nat hy.symm
      obtain ⟨j, rfl, hj⟩ := Ps.has_nat hz.symm
      have e1 : s.comE (k : Int) (j : Int) = 0 := (Ps.comE_cases _ _).2 ⟨hy.symm, hz.symm⟩
      have e3 : s.comS (k : Int) (j : Int) = s.com1 k j := by unfold Ps.comS; rw [if_pos e1, Int.toNat_natCast, Int.toNat_natCast]
      obtain ⟨x, hx⟩ : ∃ x, x = (s.hold k).2 := ⟨_, rfl⟩
      obtain ⟨v, hv⟩ : ∃ v, v = s.bal j + x := ⟨_, rfl⟩
      have hw2 : IntKind.u64.wrap ((s.bal j : Int) + (x : Int)) = (v : Int) := by
        have a1 := Ps.bal_le hj
        have a2 := Ps.hold_le (s := s) hk
        have a3 := W.top
        rw [IntKind.wrap_u64]
        omega
      obtain ⟨s', hs'⟩ : ∃ t, t = s.comS (k : Int) (j : Int) := ⟨_, rfl⟩
      have HS2 : Hid (s' = ⟨s.b.set j v, s.h.set k (0, 0)⟩) := Lib.hid (by rw [hs', e3]; unfold Ps.com1; rw [hv, hx])
      have HAD := Lib.hid (fun X (hX : DAt ao cap s X) => radd9_any s ao cap j v (x : Int) X hX W.hl W.b2 hj hw2)
      rw [vP, ← HL.out] at HAD
      rw [e1, ← hs']
      have HK := Lib.hid hk
      have HXH := Lib.hid hx
      have t1 : (k : Int) < 32 := by omega
      have t2 : 0 ≤ (k : Int) := by omega
      clear hd W hy e1 e3 hL hz hx hv hw2 hs' hk2 hk hj
      go_enter Try.func13, Try.ntmps13
      go_wp2_with (first
        | (refine wpList_execG (.pointer (some ⟨c, 0, none⟩)) (exec_alloc 32 rfl _ HAL.out) rfl ?_
           rw [← HQ.out]
           refine wpList_world (fun W => RB w q c L zeroP W) (by rw [HQ.out, HC.out]; exact HR.out) ?_
           intro X hX
           have HX := Lib.hid hX
           have HLD := Lib.hid (load_rp hX.box HL65.out)
           clear hX)
        | (refine wpList_load_eq rfl 32 _ rfl (.pointer (some ⟨q, 0, none⟩)) (.agg L.toArray) rfl HLD.out ?_))
      refine (HTH.out _).mono ?_
      rintro e X1 ⟨rfl, hF1⟩
      have HX := Lib.hid (HX.out.on hF1)
      have HLD := Lib.hid (load_rp HX.out.box HL65.out)
      clear hF1
      go_wp2_with (first | (refine wpList_load_eq rfl 32 _ rfl (.pointer (some ⟨q, 0, none⟩)) (.agg L.toArray) rfl HLD.out ?_))
      refine (HIN.out _).mono ?_
      rintro e X1 ⟨rfl, hF1⟩
      have HX := Lib.hid (HX.out.on hF1)
      have HLD := Lib.hid (load_rp HX.out.box HL65.out)
      clear hF1
      go_wp2_with fail
      have cx0 := HX.out.box.cell (i := 1 + k * 2 + 1) (v := .int .u64 (x : Int)) (by rw [HL.out, cellsP_snd s HW.out.hl HK.out, ← HXH.out])
      have HXr := Lib.hid (HX.out.on (Fr.refl No _).drew)
      have HLDr := Lib.hid (load_rp HXr.out.box HL65.out)
      have cx := HXr.out.box.cell (i := 1 + k * 2 + 1) (v := .int .u64 (x : Int)) (by rw [HL.out, cellsP_snd s HW.out.hl HK.out, ← HXH.out])
      refine wp_region_held_drew (S := (fun X => Fr No w X)) (by kernel_rfl) (HXr.out.fr) (fun hHeld => ?_)
      refine takeD (i := 1) (d := some 19) (v := ?_) rfl (by kernel_rfl) (by kernel_rfl) (by kernel_rfl) (by kernel_rfl) (fun _ _ _ h => h) (Or.inl ⟨by kernel_rfl, fun X hX => Or.inl ?_⟩) (by assumption) ?_
      rotate_left
      · first | (go_simp; done) | (go_simp; with_reducible rfl)
      (try simp only [Act.put]); (try simp only [List.setIfInBounds_toArray]); (try simp only [List.set_cons_succ]); (try simp only [List.set_cons_zero])
      refine takeD (i := 2) (d := some 20) (v := ?_) rfl (by kernel_rfl) (by kernel_rfl) (by kernel_rfl) (by kernel_rfl) (fun _ _ _ h => h) (Or.inl ⟨by kernel_rfl, fun X hX => Or.inl ?_⟩) (by assumption) ?_
      rotate_left
      · first | (go_simp; done) | (go_simp; with_reducible rfl)
      (try simp only [Act.put]); (try simp only [List.setIfInBounds_toArray]); (try simp only [List.set_cons_succ]); (try simp only [List.set_cons_zero])
      refine takeD (i := 3) (d := some 21) (v := ?_) rfl (by kernel_rfl) (by kernel_rfl) (by kernel_rfl) (by kernel_rfl) (fun _ _ _ h => h) (Or.inl ⟨by kernel_rfl, fun X hX => Or.inl ?_⟩) (by assumption) ?_
      rotate_left
      · first | (go_simp; done) | (go_simp; with_reducible rfl)
      (try simp only [Act.put]); (try simp only [List.setIfInBounds_toArray]); (try simp only [List.set_cons_succ]); (try simp only [List.set_cons_zero])
      refine takeD (i := 4) (d := some 22) (v := ?_) rfl (by kernel_rfl) (by kernel_rfl) (by kernel_rfl) (by kernel_rfl) (fun _ _ _ h => h) (Or.inl ⟨by kernel_rfl, fun X hX => Or.inl ?_⟩) (by assumption) ?_
      rotate_left
      · first | (go_simp; done) | (go_simp; with_reducible rfl)
      (try simp only [Act.put]); (try simp only [List.setIfInBounds_toArray]); (try simp only [List.set_cons_succ]); (try simp only [List.set_cons_zero])
      refine takeD (i := 5) (d := some 23) (v := ?_) rfl (by kernel_rfl) (by kernel_rfl) (by kernel_rfl) (by kernel_rfl) (fun _ _ _ h => h) (Or.inl ⟨by kernel_rfl, fun X hX => Or.inl ?_⟩) (by assumption) ?_
      rotate_left
      · first | (go_simp; done) | (go_simp; with_reducible rfl)
      (try simp only [Act.put]); (try simp only [List.setIfInBounds_toArray]); (try simp only [List.set_cons_succ]); (try simp only [List.set_cons_zero])
      refine wpAnyH_ready (rs := [0, 6]) (by kernel_rfl) (by simp) ?_
      refine (AllReadyH.cons rfl (fun K hK => ?_) (AllReadyH.cons rfl (fun K hK => ?_) AllReadyH.nil))
      · rw [if_pos (by kernel_rfl)]
        refine wpO_exec (.agg L.toArray) (exec_load 32 (.tmp 3) rfl (.pointer (some ⟨q, 0, none⟩)) _ rfl HLDr.out) ?_
        refine hK.out _ _ (hHeld) (fun hHeld => ?_)
        clear hK K
        (try simp only [Act.put]); (try simp only [List.setIfInBounds_toArray]); (try simp only [List.set_cons_succ]); (try simp only [List.set_cons_zero])
        refine wpAnyH_ready (rs := [6]) (by kernel_rfl) (by simp) ?_
        refine AllReadyH.cons rfl (fun K hK => ?_) AllReadyH.nil
        rw [if_pos (by kernel_rfl)]
        refine wpO_exec (.int .u64 (x : Int)) (exec_load 27 (.tmp 23) rfl (.pointer (some ⟨q, 1 + k * 2 + 1, none⟩)) _ rfl (by simp [go_sem, cx])) ?_
        refine hK.out _ _ (hHeld) (fun hHeld => ?_)
        clear hK K
        (try simp only [Act.put]); (try simp only [List.setIfInBounds_toArray]); (try simp only [List.set_cons_succ]); (try simp only [List.set_cons_zero])
        refine wpAnyH_ready (rs := [7]) (by kernel_rfl) (by simp) ?_
        refine AllReadyH.cons rfl (fun K hK => ?_) AllReadyH.nil
        rw [if_pos (by kernel_rfl)]
        go_simp
        refine (HAD.out _ (HD.out.no HXr.out.fr)).mono ?_
        rintro e Y1 ⟨r, c', rfl, hr, hD1, hF1⟩
        have HX1 := Lib.hid (HXr.out.on hF1)
        have HD1 := Lib.hid hD1
        have HR1 : Hid (w.heap.size ≤ r) := Lib.hid (by have := HXr.out.fr.size; omega)
        have HR2 : Hid (q < r ∧ c < r) := Lib.hid ⟨by have := HXr.out.box.lt; omega, by have := HXr.out.res.lt; omega⟩
        obtain ⟨N, hN⟩ : ∃ N, N = cellsP (some ⟨r, 0, none⟩) s.b.length c' s.h := ⟨_, rfl⟩
        obtain ⟨Y, hY, hYB, hYF⟩ := HX1.out.fill (N := N) HL65.out (by rw [hN]; exact cellsP_len HW.out.hl) (by rw [hN]; exact cellsP_one)
        have HY := Lib.hid hY
        have HYB := Lib.hid hYB
        have HYF := Lib.hid hYF
        have HN := Lib.hid hN
        rw [vP, ← hN]
        clear hr hD1 hF1 hY hYB hYF hN
        refine hK.out _ _ (HX1.out.fr) (fun hHeld => ?_)
        clear hK K
        (try simp only [Act.put]); (try simp only [List.setIfInBounds_toArray]); (try simp only [List.set_cons_succ]); (try simp only [List.set_cons_zero])
        refine wpAnyH_ready (rs := [8]) (by kernel_rfl) (by simp) ?_
        refine AllReadyH.cons rfl (fun K hK => ?_) AllReadyH.nil
        rw [if_pos (by kernel_rfl)]
        refine wpO_store 32 _ _ rfl (.pointer (some ⟨q, 0, none⟩)) (.agg N.toArray) rfl rfl HY.out ?_
        refine hK.out _ _ (HYB.out.fr) (fun hHeld => ?_)
        clear hK K
        (try simp only [Act.put]); (try simp only [List.setIfInBounds_toArray]); (try simp only [List.set_cons_succ]); (try simp only [List.set_cons_zero])
        refine wpAnyH_done (by kernel_rfl) ?_ _
        clear hHeld
        have hYB := HYB.out
        rw [HN.out] at hYB
        obtain ⟨Z, hZ, hZB, hZF⟩ := hYB.hold HW.out.hl HK.out (0, 0)
        have HZ := Lib.hid hZ
        have hZ65 : (cellsP (some ⟨r, 0, none⟩) s.b.length c' (s.h.set k (0, 0))).length = 65 := cellsP_len (by rw [List.length_set]; exact HW.out.hl)
        obtain ⟨N2, hN2⟩ : ∃ N2, N2 = cellsP (some ⟨r, 0, none⟩) s.b.length c' (s.h.set k (0, 0)) := ⟨_, rfl⟩
        rw [← hN2] at hZB hZ65
        have HN2' := Lib.hid hN2
        have HLD2 := Lib.hid (load_rp hZB.box hZ65)
        obtain ⟨V, hV, hVv, hVF, hVc⟩ := hZB.put (cellsP_len rfl) hZ65 (by rw [hN2]; exact cellsP_one)
        have HST := Lib.hid hV
        have HSV := Lib.hid hVv
        have HFV := Lib.hid hVF
        have HDV : Hid (DAt (some ⟨r, 0, none⟩) c' s' V) := Lib.hid (by
          have g1 := HR2.out
          rw [HS2.out]
          refine DAt.congr (s := ⟨s.b.set j v, s.h⟩) ?_ rfl
          refine (((HD1.out.fr HYF.out (fun b hb => ?_)).fr hZF (fun b hb => ?_)).fr hVc (fun b hb => ?_))
          all_goals
            injection hb with hb
            subst hb
            show ¬ r = _
            omega)
        clear hYB hZ hZB hZF hZ65 hN2 hV hVv hVF hVc
        go_wp2_with (first
          | (refine wpList_store_eq rfl 29 _ _ rfl (.pointer (some ⟨q, 1 + k * 2, none⟩)) (vR (0, 0)) rfl rfl HZ.out ?_)
          | (refine wpList_load_eq rfl 32 _ rfl (.pointer (some ⟨q, 0, none⟩)) (.agg N2.toArray) rfl HLD2.out ?_)
          | (refine wpList_store_eq rfl 32 _ _ rfl (.pointer (some ⟨c, 0, none⟩)) (.agg N2.toArray) rfl rfl HST.out ?_))
        exact bodyPost_ret (results_cellT rfl rfl rfl HSV.out) rfl ⟨some ⟨r, 0, none⟩, c', by rw [HN2'.out, HS2.out, List.length_set]; rfl, .inr ⟨r, HR1.out, rfl⟩, HDV.out, HFV.out⟩
      · rw [if_pos (by kernel_rfl)]
        refine wpO_exec (.int .u64 (x : Int)) (exec_load 27 (.tmp 23) rfl (.pointer (some ⟨q, 1 + k * 2 + 1, none⟩)) _ rfl (by simp [go_sem, cx])) ?_
        refine hK.out _ _ (hHeld) (fun hHeld => ?_)
        clear hK K
        (try simp only [Act.put]); (try simp only [List.setIfInBounds_toArray]); (try simp only [List.set_cons_succ]); (try simp only [List.set_cons_zero])
        refine wpAnyH_ready (rs := [0]) (by kernel_rfl) (by simp) ?_
        refine AllReadyH.cons rfl (fun K hK => ?_) AllReadyH.nil
        rw [if_pos (by kernel_rfl)]
        refine wpO_exec (.agg L.toArray) (exec_load 32 (.tmp 3) rfl (.pointer (some ⟨q, 0, none⟩)) _ rfl HLDr.out) ?_
        refine hK.out _ _ (hHeld) (fun hHeld => ?_)
        clear hK K
        (try simp only [Act.put]); (try simp only [List.setIfInBounds_toArray]); (try simp only [List.set_cons_succ]); (try simp only [List.set_cons_zero])
        refine wpAnyH_ready (rs := [7]) (by kernel_rfl) (by simp) ?_
        refine AllReadyH.cons rfl (fun K hK => ?_) AllReadyH.nil
        rw [if_pos (by kernel_rfl)]
        go_simp
        refine (HAD.out _ (HD.out.no HXr.out.fr)).mono ?_
        rintro e Y1 ⟨r, c', rfl, hr, hD1, hF1⟩
        have HX1 := Lib.hid (HXr.out.on hF1)
        have HD1 := Lib.hid hD1
        have HR1 : Hid (w.heap.size ≤ r) := Lib.hid (by have := HXr.out.fr.size; omega)
        have HR2 : Hid (q < r ∧ c < r) := Lib.hid ⟨by have := HXr.out.box.lt; omega, by have := HXr.out.res.lt; omega⟩
        obtain ⟨N, hN⟩ : ∃ N, N = cellsP (some ⟨r, 0, none⟩) s.b.length c' s.h := ⟨_, rfl⟩
        obtain ⟨Y, hY, hYB, hYF⟩ := HX1.out.fill (N := N) HL65.out (by rw [hN]; exact cellsP_len HW.out.hl) (by rw [hN]; exact cellsP_one)
        have HY := Lib.hid hY
        have HYB := Lib.hid hYB
        have HYF := Lib.hid hYF
        have HN := Lib.hid hN
        rw [vP, ← hN]
        clear hr hD1 hF1 hY hYB hYF hN
        refine hK.out _ _ (HX1.out.fr) (fun hHeld => ?_)
        clear hK K
        (try simp only [Act.put]); (try simp only [List.setIfInBounds_toArray]); (try simp only [List.set_cons_succ]); (try simp only [List.set_cons_zero])
        refine wpAnyH_ready (rs := [8]) (by kernel_rfl) (by simp) ?_
        refine AllReadyH.cons rfl (fun K hK => ?_) AllReadyH.nil
        rw [if_pos (by kernel_rfl)]
        refine wpO_store 32 _ _ rfl (.pointer (some ⟨q, 0, none⟩)) (.agg N.toArray) rfl rfl HY.out ?_
        refine hK.out _ _ (HYB.out.fr) (fun hHeld => ?_)
        clear hK K
        (try simp only [Act.put]); (try simp only [List.setIfInBounds_toArray]); (try simp only [List.set_cons_succ]); (try simp only [List.set_cons_zero])
        refine wpAnyH_done (by kernel_rfl) ?_ _
        clear hHeld
        have hYB := HYB.out
        rw [HN.out] at hYB
        obtain ⟨Z, hZ, hZB, hZF⟩ := hYB.hold HW.out.hl HK.out (0, 0)
        have HZ := Lib.hid hZ
        have hZ65 : (cellsP (some ⟨r, 0, none⟩) s.b.length c' (s.h.set k (0, 0))).length = 65 := cellsP_len (by rw [List.length_set]; exact HW.out.hl)
        obtain ⟨N2, hN2⟩ : ∃ N2, N2 = cellsP (some ⟨r, 0, none⟩) s.b.length c' (s.h.set k (0, 0)) := ⟨_, rfl⟩
        rw [← hN2] at hZB hZ65
        have HN2' := Lib.hid hN2
        have HLD2 := Lib.hid (load_rp hZB.box hZ65)
        obtain ⟨V, hV, hVv, hVF, hVc⟩ := hZB.put (cellsP_len rfl) hZ65 (by rw [hN2]; exact cellsP_one)
        have HST := Lib.hid hV
        have HSV := Lib.hid hVv
        have HFV := Lib.hid hVF
        have HDV : Hid (DAt (some ⟨r, 0, none⟩) c' s' V) := Lib.hid (by
          have g1 := HR2.out
          rw [HS2.out]
          refine DAt.congr (s := ⟨s.b.set j v, s.h⟩) ?_ rfl
          refine (((HD1.out.fr HYF.out (fun b hb => ?_)).fr hZF (fun b hb => ?_)).fr hVc (fun b hb => ?_))
          all_goals
            injection hb with hb
            subst hb
            show ¬ r = _
            omega)
        clear hYB hZ hZB hZF hZ65 hN2 hV hVv hVF hVc
        go_wp2_with (first
          | (refine wpList_store_eq rfl 29 _ _ rfl (.pointer (some ⟨q, 1 + k * 2, none⟩)) (vR (0, 0)) rfl rfl HZ.out ?_)
          | (refine wpList_load_eq rfl 32 _ rfl (.pointer (some ⟨q, 0, none⟩)) (.agg N2.toArray) rfl HLD2.out ?_)
          | (refine wpList_store_eq rfl 32 _ _ rfl (.pointer (some ⟨c, 0, none⟩)) (.agg N2.toArray) rfl rfl HST.out ?_))
        exact bodyPost_ret (results_cellT rfl rfl rfl HSV.out) rfl ⟨some ⟨r, 0, none⟩, c', by rw [HN2'.out, HS2.out, List.length_set]; rfl, .inr ⟨r, HR1.out, rfl⟩, HDV.out, HFV.out⟩
end Go.Proofs.Ytnimeafaciegkaa
