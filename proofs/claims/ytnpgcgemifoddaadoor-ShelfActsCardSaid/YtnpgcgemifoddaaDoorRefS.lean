/- The sum of a text, as the document has it. -/
import Derived.Test.YtnpgcgemifoddaaDoorRefC
import Derived.Test.YtnpgcgemifoddaaDoorRefP
namespace Go.Proofs.YtnpgcgemifoddaaDoor
open Go.RowKit
set_option linter.unusedVariables false

/-- The world as a letter, behind a region. -/
theorem then_world' {K : Act → World → Prop} {Q : Exit → Act → World → Prop} {a : Act} {w0 : World} (S : World → Prop) (h0 : S w0) (h : ∀ W, S W → Exit.then K Q Exit.normal a W) : Exit.then K Q Exit.normal a w0 := h _ h0

set_option maxRecDepth 100000 in
theorem build32 (a : Act) (o : Oper) (ho : o.op = .build 27 #[]) (w : World) : (execOp a.eval o).run Tryd.prog w = .ok (.value (.agg (arr .u8 (List.replicate 32 0)))) w := by
  unfold execOp
  simp only [ho]
  kernel_rfl

theorem sstart (w : World) (Z : List Nat) (hZ : Z = H0) : (fun W => Fr No w W ∧ Row W w.heap.size 27 .u8 (List.replicate 32 0) ∧ Row W (w.heap.size + 1) 78 .u64 Z)
    (((w.alloc (.cells (arr .u8 (List.replicate 32 0)) 27)).alloc (.cells (arr .u64 (List.replicate 8 0)) 78)).setRow (w.heap.size + 1) (arr .u64 H0)) := by
  have hF : Fr (fun k => k = w.heap.size + 1) ((w.alloc (.cells (arr .u8 (List.replicate 32 0)) 27)).alloc (.cells (arr .u64 (List.replicate 8 0)) 78)) (((w.alloc (.cells (arr .u8 (List.replicate 32 0)) 27)).alloc (.cells (arr .u64 (List.replicate 8 0)) 78)).setRow (w.heap.size + 1) (arr .u64 H0)) :=
    fr_setRow (S := fun k => k = w.heap.size + 1) (Fr.refl _ _) (.inl rfl) _
  refine ⟨fr_setRow (((Fr.refl No w).alloc _).alloc _) (.inr (by omega)) _, ?_, ?_⟩
  · exact Row.fr ((Row.new w 27 .u8 (List.replicate 32 0)).alloc _) hF (by show ¬ _ = _; omega)
  · rw [hZ]; exact (Row.new2 w _ 78 .u64 (List.replicate 8 0)).setRow

set_option maxHeartbeats 2000000 in
set_option maxRecDepth 100000 in
theorem rsum_any (s : List UInt8) (w : World) (hs : s.length ≤ 90000) :
    Calls Tryd.prog 33 #[.string (str s)] w fun ex w' => ex = .returned (.agg (arr .u8 (sumL s))) ∧ Fr No w w' := by
  obtain ⟨P, hP⟩ : ∃ P, P = padded s := ⟨_, rfl⟩
  obtain ⟨L, hL⟩ : ∃ L, L = P.length := ⟨_, rfl⟩
  obtain ⟨N, hN⟩ : ∃ N, N = P.length / 64 := ⟨_, rfl⟩
  obtain ⟨Z, hZ⟩ : ∃ Z, Z = H0 := ⟨_, rfl⟩
  obtain ⟨D, hD⟩ : ∃ D, D = sumL s := ⟨_, rfl⟩
  have hl := padded_len s
  have hle := padded_le s hs
  rw [← hP, ← hL] at hl hle
  have hszP : (str P).size = L := by rw [str_size, hL]
  have hL7 : (L : Int) ≤ 100000 := by omega
  have HLN : Hid (L = 64 * N ∧ L = P.length ∧ L ≤ 100000) := Lib.hid (by omega)
  have HZ : Hid (Z = H0 ∧ Z.length = 8 ∧ Ws Z) := Lib.hid ⟨hZ, by rw [hZ]; rfl, by rw [hZ]; exact H0_ws⟩
  have HNN : Hid (N = P.length / 64) := Lib.hid hN
  have HD : Hid (D = hashL (foldL Z P N) 32 ∧ D.length = 32) := Lib.hid ⟨by rw [hD, hZ, hN, hP]; rfl, by rw [hD]; exact hashL_len _ _⟩
  have hpa := fun X => rpad_any s X hs
  rw [← hP] at hpa
  have HPA := Lib.hid hpa
  rw [← hD]
  clear hP hL hl hle hs hZ hN hD hpa
  go_enter Tryd.func33, Tryd.ntmps33
  go_wp2_with (refine wpList_store_row rfl 78 _ _ rfl (w.heap.size + 1) rfl (arr .u64 H0) rfl (Row.new2 w _ 78 .u64 (List.replicate 8 0)) arQ8 (by rfl) (by rfl) (arr_one .u64 H0) ?_
               refine wpList_world (fun W => Fr No w W ∧ Row W w.heap.size 27 .u8 (List.replicate 32 0) ∧ Row W (w.heap.size + 1) 78 .u64 Z) (sstart w Z HZ.out.1) ?_
               rintro w2 ⟨hF2, hR2, hR3⟩
               have HF2 := Lib.hid hF2
               have HR2 := Lib.hid hR2
               have HR3 := Lib.hid hR3
               clear hF2 hR2 hR3)
  refine (HPA.out w2).mono ?_
  rintro e w3 ⟨rfl, hF3⟩
  obtain ⟨r, hr⟩ : ∃ r, r = w.heap.size := ⟨_, rfl⟩
  obtain ⟨p, hp⟩ : ∃ p, p = w.heap.size + 1 := ⟨_, rfl⟩
  have HPR : Hid (w.heap.size = r ∧ p = r + 1) := Lib.hid ⟨hr.symm, by omega⟩
  have Q1 := HR2.out.fr (S := No) hF3 id
  have Q2 := HR3.out.fr (S := No) hF3 id
  have HF3 := Lib.hid (HF2.out.trans hF3)
  rw [← hr] at Q1
  rw [← hp] at Q2
  have HQ1 := Lib.hid Q1
  have HQ2 := Lib.hid Q2
  rw [show w.heap.size + 1 = p from hp.symm, ← hr]
  clear hF3 HF2 HR2 HR3 hr hp HPA Q1 Q2
  go_wp2
  go_loopw [5] (fun c wr => ∃ i : Nat, i ≤ N ∧ c = .int .i64 ((64 * i : Nat) : Int) ∧ Fr No w wr ∧ Row wr r 27 .u8 (List.replicate 32 0) ∧ Row wr p 78 .u64 (foldL Z P i)) (fun c _ => L - (intOf c).toNat)
  case atStart => exact ⟨0, by omega, rfl, HF3.out, HQ1.out, HQ2.out⟩
  clear HF3 HQ1 HQ2
  case round =>
    obtain ⟨i, hi, rfl, hF, k0, k1⟩ := hrel
    obtain ⟨lo, hlo⟩ : ∃ lo, lo = 64 * i := ⟨_, rfl⟩
    rw [← hlo]
    by_cases hlt : i < N
    · obtain ⟨hi2, hhi⟩ : ∃ hi, hi = lo + 64 := ⟨_, rfl⟩
      have hln := HLN.out
      have e1 : IntKind.i64.wrap (hi2 : Int) = (hi2 : Int) := by rw [IntKind.wrap_i64]; omega
      have e2 : (lo : Int) + 64 = (hi2 : Int) := by omega
      have g1 : (lo : Int) ≤ (hi2 : Int) := by omega
      have g2 : (hi2 : Int) ≤ (L : Int) := by omega
      have g3 : (lo : Int) ≤ 100000 := by omega
      have g4 : (lo : Int) < (L : Int) := by omega
      obtain ⟨blk, hblk⟩ : ∃ blk, blk = (P.drop (64 * i)).take 64 := ⟨_, rfl⟩
      have hex : (str P).extract lo hi2 = str blk := by rw [str_extract, hblk, hhi, hlo]; congr 2; omega
      obtain ⟨V, hV⟩ : ∃ V, V = foldL Z P i := ⟨_, rfl⟩
      rw [← hV] at k1
      have HVL : Hid (V.length = 8) := Lib.hid (by rw [hV, foldL_len]; exact HZ.out.2.1)
      have HVW : Hid (Ws V) := Lib.hid (by rw [hV]; exact foldL_ws _ HZ.out.2.2 i)
      have HBL : Hid (blk.length = 64) := Lib.hid (by rw [hblk]; exact block_len P i (by rw [← HNN.out]; exact hlt))
      have HN : Hid (foldL Z P (i + 1) = comp V blk) := Lib.hid (by rw [hV, hblk]; rfl)
      have HLDV : Hid (∀ X, Fr No wr X → (Instr.loadAt 78 (.pointer (some ⟨p, 0, none⟩))).run Tryd.prog X = .ok (.agg (arr .u64 V)) X) := Lib.hid (fun X hX => (k1.fr hX id).load arQ8 HVL.out)
      have HF := Lib.hid hF
      have K0 := Lib.hid k0
      have K1 := Lib.hid k1
      have HLO := Lib.hid hlo
      have HHI := Lib.hid hhi
      clear hV hblk hlo hhi hF k0 k1 hln
      go_wp2_with fail
      refine wp_region_held_drew (S := (fun X => Fr No wr X)) (by kernel_rfl) ((Fr.refl _ wr).drew) (fun hHeld => ?_)
      refine takeD (i := 0) (d := some 20) (v := .agg (arr .u64 V)) rfl (by kernel_rfl) (by kernel_rfl) (by kernel_rfl) (by kernel_rfl) (fun _ _ _ h => h) (Or.inl ⟨by kernel_rfl, fun X hX => Or.inl (exec_load 78 (.tmp 3) rfl _ _ rfl (HLDV.out X hX))⟩) (by assumption) ?_
      (try simp only [Act.put]); (try simp only [List.setIfInBounds_toArray]); (try simp only [List.set_cons_succ]); (try simp only [List.set_cons_zero])
      refine takeD (i := 1) (d := some 21) (v := ?_) rfl (by kernel_rfl) (by kernel_rfl) (by kernel_rfl) (by kernel_rfl) (fun _ _ _ h => h) (Or.inl ⟨by kernel_rfl, fun X hX => Or.inl ?_⟩) (by assumption) ?_
      rotate_left
      · first | (go_simp; done) | (go_simp; with_reducible rfl)
      (try simp only [Act.put]); (try simp only [List.setIfInBounds_toArray]); (try simp only [List.set_cons_succ]); (try simp only [List.set_cons_zero])
      refine takeD (i := 2) (d := some 22) (v := ?_) rfl (by kernel_rfl) (by kernel_rfl) (by kernel_rfl) (by kernel_rfl) (fun _ _ _ h => h) (Or.inl ⟨by kernel_rfl, fun X hX => Or.inl ?_⟩) (by assumption) ?_
      rotate_left
      · first | (go_simp; done) | (go_simp; with_reducible rfl)
      (try simp only [Act.put]); (try simp only [List.setIfInBounds_toArray]); (try simp only [List.set_cons_succ]); (try simp only [List.set_cons_zero])
      refine takeD (i := 3) (d := some 23) (v := ?_) rfl (by kernel_rfl) (by kernel_rfl) (by kernel_rfl) (by kernel_rfl) (fun _ _ _ h => h) (Or.inl ⟨by kernel_rfl, fun X hX => Or.inl ?_⟩) (by assumption) ?_
      rotate_left
      · first | (go_simp; done) | (go_simp; with_reducible rfl)
      (try simp only [Act.put]); (try simp only [List.setIfInBounds_toArray]); (try simp only [List.set_cons_succ]); (try simp only [List.set_cons_zero])
      refine takeD (i := 4) (d := some 24) (v := ?_) rfl (by kernel_rfl) (by kernel_rfl) (by kernel_rfl) (by kernel_rfl) (fun _ _ _ h => h) (Or.inl ⟨by kernel_rfl, fun X hX => Or.inl ?_⟩) (by assumption) ?_
      rotate_left
      · first | (go_simp; done) | (go_simp; with_reducible rfl)
      (try simp only [Act.put]); (try simp only [List.setIfInBounds_toArray]); (try simp only [List.set_cons_succ]); (try simp only [List.set_cons_zero])
      refine takeD (i := 5) (d := some 25) (v := ?_) rfl (by kernel_rfl) (by kernel_rfl) (by kernel_rfl) (by kernel_rfl) (fun _ _ _ h => h) (Or.inl ⟨by kernel_rfl, fun X hX => Or.inl ?_⟩) (by assumption) ?_
      rotate_left
      · first | (go_simp; done) | (go_simp; with_reducible rfl)
      (try simp only [Act.put]); (try simp only [List.setIfInBounds_toArray]); (try simp only [List.set_cons_succ]); (try simp only [List.set_cons_zero])
      refine wpAnyH_ready (rs := [6, 10]) (by kernel_rfl) (by simp) ?_
      refine (AllReadyH.cons rfl (fun K hK => ?_) (AllReadyH.cons rfl (fun K hK => ?_) AllReadyH.nil))
      · rw [if_pos (by kernel_rfl)]
        go_simp
        refine (rcomp_ok V blk _ HVL.out HVW.out HBL.out).mono ?_
        rintro ex w5 ⟨rfl, hF5⟩
        have H5 := Lib.hid hF5
        clear hF5
        refine hK.out _ _ (hHeld.trans H5.out) (fun hHeld => ?_)
        clear hK K
        (try simp only [Act.put]); (try simp only [List.setIfInBounds_toArray]); (try simp only [List.set_cons_succ]); (try simp only [List.set_cons_zero])
        refine takeD (i := 7) (d := some 19) (v := ?_) rfl (by kernel_rfl) (by kernel_rfl) (by kernel_rfl) (by kernel_rfl) (fun _ _ _ h => h) (Or.inl ⟨by kernel_rfl, fun X hX => Or.inl ?_⟩) (by assumption) ?_
        rotate_left
        · first | (go_simp; done) | (go_simp; with_reducible rfl)
        (try simp only [Act.put]); (try simp only [List.setIfInBounds_toArray]); (try simp only [List.set_cons_succ]); (try simp only [List.set_cons_zero])
        refine takeD (i := 8) (d := some 27) (v := ?_) rfl (by kernel_rfl) (by kernel_rfl) (by kernel_rfl) (by kernel_rfl) (fun _ _ _ h => h) (Or.inl ⟨by kernel_rfl, fun X hX => Or.inl ?_⟩) (by assumption) ?_
        rotate_left
        · first | (go_simp; done) | (go_simp; with_reducible rfl)
        (try simp only [Act.put]); (try simp only [List.setIfInBounds_toArray]); (try simp only [List.set_cons_succ]); (try simp only [List.set_cons_zero])
        refine takeD (i := 9) (d := some 28) (v := ?_) rfl (by kernel_rfl) (by kernel_rfl) (by kernel_rfl) (by kernel_rfl) (fun _ _ _ h => h) (Or.inl ⟨by kernel_rfl, fun X hX => Or.inl ?_⟩) (by assumption) ?_
        rotate_left
        · first | (go_simp; done) | (go_simp; with_reducible rfl)
        (try simp only [Act.put]); (try simp only [List.setIfInBounds_toArray]); (try simp only [List.set_cons_succ]); (try simp only [List.set_cons_zero])
        refine wpAnyH_ready (rs := [10]) (by kernel_rfl) (by simp) ?_
        refine AllReadyH.cons rfl (fun K hK => ?_) AllReadyH.nil
        rw [if_pos (by kernel_rfl)]
        go_simp
        refine hK.out _ _ (hHeld.alloc _) (fun hHeld => ?_)
        clear hK K
        (try simp only [Act.put]); (try simp only [List.setIfInBounds_toArray]); (try simp only [List.set_cons_succ]); (try simp only [List.set_cons_zero])
        refine wpAnyH_ready (rs := [11]) (by kernel_rfl) (by simp) ?_
        refine AllReadyH.cons rfl (fun K hK => ?_) AllReadyH.nil
        rw [if_pos (by kernel_rfl)]
        refine wp_store_row 78 _ _ rfl w5.heap.size rfl (arr .u64 (comp V blk)) rfl (Row.new w5 78 .u64 (List.replicate 8 0)) arQ8 (by rfl) (by rw [arr_size, comp_len]; exact HVL.out) (arr_one _ _) ?_
        refine hK.out _ _ (fr_setRow hHeld (.inr (by have := H5.out.size; simpa using this)) _) (fun hHeld => ?_)
        clear hK K
        (try simp only [Act.put]); (try simp only [List.setIfInBounds_toArray]); (try simp only [List.set_cons_succ]); (try simp only [List.set_cons_zero])
        refine takeD (i := 12) (d := some 7) (v := ?_) rfl (by kernel_rfl) (by kernel_rfl) (by kernel_rfl) (by kernel_rfl) (fun _ _ _ h => h) (Or.inl ⟨by kernel_rfl, fun X hX => Or.inl ?_⟩) (by assumption) ?_
        rotate_left
        · first | (go_simp; done) | (go_simp; with_reducible rfl)
        (try simp only [Act.put]); (try simp only [List.setIfInBounds_toArray]); (try simp only [List.set_cons_succ]); (try simp only [List.set_cons_zero])
        refine wpAnyH_done (by kernel_rfl) ?_ _
        refine then_world' (fun W => Fr No wr W ∧ Row W w5.heap.size 78 .u64 (comp V blk)) ⟨hHeld, (Row.new w5 78 .u64 (List.replicate 8 0)).setRow⟩ ?_
        rintro w6 ⟨hF6, hR6⟩
        have hCL : (comp V blk).length = 8 := (comp_len _ _).trans HVL.out
        have HL6 := Lib.hid (hR6.load arQ8 hCL)
        obtain ⟨Y, hY, hYR, hYF⟩ := (K1.out.fr (S := No) hF6 id).stored (l' := comp V blk) arQ8 HVL.out hCL
        have hpr := HPR.out
        have HY := Lib.hid hY
        have HYR := Lib.hid hYR
        have HY0 : Hid (Row Y r 27 .u8 (List.replicate 32 0)) := Lib.hid ((K0.out.fr (S := No) hF6 id).fr hYF (by show ¬ r = p; omega))
        have HYF : Hid (Fr No w Y) := Lib.hid ((HF.out.trans hF6).trans' hYF (fun k hk e => by omega))
        clear hF6 hR6 hCL hY hYR hYF hpr
        go_wp2_with (first | (refine wpList_load_eq rfl 78 _ rfl (.pointer (some ⟨w5.heap.size, 0, none⟩)) (.agg (arr .u64 (comp V blk))) rfl HL6.out ?_) | (refine wpList_store_eq rfl 78 _ _ rfl (.pointer (some ⟨p, 0, none⟩)) (.agg (arr .u64 (comp V blk))) rfl rfl HY.out ?_))
        have hlo := HLO.out
        have hhi := HHI.out
        have hln := HLN.out
        refine ⟨⟨i + 1, by omega, by congr 1; omega, HYF.out, HY0.out, ?_⟩, by simp [intOf]; omega⟩
        rw [HN.out]; exact HYR.out
      · rw [if_pos (by kernel_rfl)]
        go_simp
        refine hK.out _ _ (hHeld.alloc _) (fun hHeld => ?_)
        clear hK K
        (try simp only [Act.put]); (try simp only [List.setIfInBounds_toArray]); (try simp only [List.set_cons_succ]); (try simp only [List.set_cons_zero])
        refine wpAnyH_ready (rs := [6]) (by kernel_rfl) (by simp) ?_
        refine AllReadyH.cons rfl (fun K hK => ?_) AllReadyH.nil
        rw [if_pos (by kernel_rfl)]
        go_simp
        refine (rcomp_ok V blk _ HVL.out HVW.out HBL.out).mono ?_
        rintro ex w5 ⟨rfl, hF5⟩
        have H5 := Lib.hid hF5
        have R5 : Hid (Row w5 wr.heap.size 78 .u64 (List.replicate 8 0)) := Lib.hid (Row.fr (Row.new wr.drew 78 .u64 (List.replicate 8 0)) hF5 id)
        clear hF5
        refine hK.out _ _ (hHeld.trans H5.out) (fun hHeld => ?_)
        clear hK K
        (try simp only [Act.put]); (try simp only [List.setIfInBounds_toArray]); (try simp only [List.set_cons_succ]); (try simp only [List.set_cons_zero])
        refine takeD (i := 7) (d := some 19) (v := ?_) rfl (by kernel_rfl) (by kernel_rfl) (by kernel_rfl) (by kernel_rfl) (fun _ _ _ h => h) (Or.inl ⟨by kernel_rfl, fun X hX => Or.inl ?_⟩) (by assumption) ?_
        rotate_left
        · first | (go_simp; done) | (go_simp; with_reducible rfl)
        (try simp only [Act.put]); (try simp only [List.setIfInBounds_toArray]); (try simp only [List.set_cons_succ]); (try simp only [List.set_cons_zero])
        refine takeD (i := 8) (d := some 27) (v := ?_) rfl (by kernel_rfl) (by kernel_rfl) (by kernel_rfl) (by kernel_rfl) (fun _ _ _ h => h) (Or.inl ⟨by kernel_rfl, fun X hX => Or.inl ?_⟩) (by assumption) ?_
        rotate_left
        · first | (go_simp; done) | (go_simp; with_reducible rfl)
        (try simp only [Act.put]); (try simp only [List.setIfInBounds_toArray]); (try simp only [List.set_cons_succ]); (try simp only [List.set_cons_zero])
        refine takeD (i := 9) (d := some 28) (v := ?_) rfl (by kernel_rfl) (by kernel_rfl) (by kernel_rfl) (by kernel_rfl) (fun _ _ _ h => h) (Or.inl ⟨by kernel_rfl, fun X hX => Or.inl ?_⟩) (by assumption) ?_
        rotate_left
        · first | (go_simp; done) | (go_simp; with_reducible rfl)
        (try simp only [Act.put]); (try simp only [List.setIfInBounds_toArray]); (try simp only [List.set_cons_succ]); (try simp only [List.set_cons_zero])
        refine wpAnyH_ready (rs := [11]) (by kernel_rfl) (by simp) ?_
        refine AllReadyH.cons rfl (fun K hK => ?_) AllReadyH.nil
        rw [if_pos (by kernel_rfl)]
        refine wp_store_row 78 _ _ rfl wr.heap.size rfl (arr .u64 (comp V blk)) rfl R5.out arQ8 (by rfl) (by rw [arr_size, comp_len]; exact HVL.out) (arr_one _ _) ?_
        refine hK.out _ _ (fr_setRow hHeld (.inr (Nat.le_refl _)) _) (fun hHeld => ?_)
        clear hK K
        (try simp only [Act.put]); (try simp only [List.setIfInBounds_toArray]); (try simp only [List.set_cons_succ]); (try simp only [List.set_cons_zero])
        refine takeD (i := 12) (d := some 7) (v := ?_) rfl (by kernel_rfl) (by kernel_rfl) (by kernel_rfl) (by kernel_rfl) (fun _ _ _ h => h) (Or.inl ⟨by kernel_rfl, fun X hX => Or.inl ?_⟩) (by assumption) ?_
        rotate_left
        · first | (go_simp; done) | (go_simp; with_reducible rfl)
        (try simp only [Act.put]); (try simp only [List.setIfInBounds_toArray]); (try simp only [List.set_cons_succ]); (try simp only [List.set_cons_zero])
        refine wpAnyH_done (by kernel_rfl) ?_ _
        refine then_world' (fun W => Fr No wr W ∧ Row W wr.heap.size 78 .u64 (comp V blk)) ⟨hHeld, R5.out.setRow⟩ ?_
        rintro w6 ⟨hF6, hR6⟩
        have hCL : (comp V blk).length = 8 := (comp_len _ _).trans HVL.out
        have HL6 := Lib.hid (hR6.load arQ8 hCL)
        obtain ⟨Y, hY, hYR, hYF⟩ := (K1.out.fr (S := No) hF6 id).stored (l' := comp V blk) arQ8 HVL.out hCL
        have hpr := HPR.out
        have HY := Lib.hid hY
        have HYR := Lib.hid hYR
        have HY0 : Hid (Row Y r 27 .u8 (List.replicate 32 0)) := Lib.hid ((K0.out.fr (S := No) hF6 id).fr hYF (by show ¬ r = p; omega))
        have HYF : Hid (Fr No w Y) := Lib.hid ((HF.out.trans hF6).trans' hYF (fun k hk e => by omega))
        clear hF6 hR6 hCL hY hYR hYF hpr
        go_wp2_with (first | (refine wpList_load_eq rfl 78 _ rfl (.pointer (some ⟨wr.heap.size, 0, none⟩)) (.agg (arr .u64 (comp V blk))) rfl HL6.out ?_) | (refine wpList_store_eq rfl 78 _ _ rfl (.pointer (some ⟨p, 0, none⟩)) (.agg (arr .u64 (comp V blk))) rfl rfl HY.out ?_))
        have hlo := HLO.out
        have hhi := HHI.out
        have hln := HLN.out
        refine ⟨⟨i + 1, by omega, by congr 1; omega, HYF.out, HY0.out, ?_⟩, by simp [intOf]; omega⟩
        rw [HN.out]; exact HYR.out
    · have hln := HLN.out
      have hloL : lo = L := by have : i = N := by omega
                               omega
      have g3 : (lo : Int) ≤ 100000 := by omega
      have g4 : ¬ (lo : Int) < (L : Int) := by omega
      rw [show i = N by omega] at k1
      obtain ⟨V, hV⟩ : ∃ V, V = foldL Z P N := ⟨_, rfl⟩
      rw [← hV] at k1
      have HVL : Hid (V.length = 8) := Lib.hid (by rw [hV, foldL_len]; exact HZ.out.2.1)
      have HVW : Hid (Ws V) := Lib.hid (by rw [hV]; exact foldL_ws _ HZ.out.2.2 N)
      have HDV : Hid (D = hashL V 32) := Lib.hid (by rw [hV]; exact HD.out.1)
      have HF := Lib.hid hF
      have K0 := Lib.hid k0
      have K1 := Lib.hid k1
      clear hV hF k0 k1 hln hloL hlo hi
      go_wp2_with (first
        | (refine wpList_val_eq rfl _ (build32 _ _ rfl _) ?_)
        | (refine wpList_store_row rfl 27 _ _ rfl wr.heap.size rfl (arr .u8 (List.replicate 32 0)) rfl (Row.new wr 27 .u8 (List.replicate 32 0)) arHash (by rfl) (by rw [arr_size]; rfl) (arr_one _ _) ?_
           refine wpList_world (fun W => Fr No wr W ∧ Row W wr.heap.size 27 .u8 (hashL V 0)) ⟨fr_setRow ((Fr.refl No wr).alloc _) (.inr (Nat.le_refl _)) _, (Row.new wr 27 .u8 (List.replicate 32 0)).setRow⟩ ?_
           rintro w5 ⟨hF5, hR5⟩
           have HF5 := Lib.hid (HF.out.trans hF5)
           have L0 := Lib.hid (K0.out.fr (S := No) hF5 id)
           have L1 := Lib.hid (K1.out.fr (S := No) hF5 id)
           have L2 := Lib.hid hR5
           clear hF5 hR5))
      obtain ⟨q, hq⟩ : ∃ q, q = wr.heap.size := ⟨_, rfl⟩
      have HQ : Hid (p < q ∧ r < q) := Lib.hid ⟨by rw [hq]; exact K1.out.lt, by rw [hq]; exact K0.out.lt⟩
      rw [← hq] at L2
      rw [← hq]
      clear hq HF K0 K1
      go_loopw [9] (fun c wr => ∃ i : Nat, i ≤ 32 ∧ c = .int .i64 i ∧ Fr No w wr ∧ Row wr r 27 .u8 (List.replicate 32 0) ∧ Row wr p 78 .u64 V ∧ Row wr q 27 .u8 (hashL V i)) (fun c _ => 32 - (intOf c).toNat)
      case atStart => exact ⟨0, by omega, rfl, HF5.out, L0.out, L1.out, L2.out⟩
      clear HF5 L0 L1 L2
      case round =>
        clear hlt
        obtain ⟨i, hi, rfl, hF, k0, k1, k2⟩ := hrel
        by_cases hlt : i < 32
        · have h1 : (i : Int) < 32 := by omega
          obtain ⟨j, hj⟩ : ∃ j, j = i / 4 := ⟨_, rfl⟩
          obtain ⟨m, hm⟩ : ∃ m, m = i % 4 := ⟨_, rfl⟩
          obtain ⟨m8, hm8⟩ : ∃ m8, m8 = 8 * m := ⟨_, rfl⟩
          obtain ⟨s2, hs2⟩ : ∃ s2, s2 = 24 - m8 := ⟨_, rfl⟩
          have hw4 : IntKind.i64.wrap ((i : Int) / 4) = (j : Int) := by rw [IntKind.wrap_i64]; omega
          have hj8 : (j : Int) < 8 := by omega
          have em : (i : Int) % 4 = (m : Int) := by omega
          have e8 : (8 : Int) * (m : Int) = (m8 : Int) := by omega
          have e24 : (24 : Int) - (m8 : Int) = (s2 : Int) := by omega
          have hs32 : (s2 : Int) < 32 := by omega
          have hm84 : (m8 : Int) ≤ 24 := by omega
          have hm4 : (m : Int) < 4 := by omega
          obtain ⟨x, hx⟩ : ∃ x, x = V.getD j 0 := ⟨_, rfl⟩
          have hxW : x < W32 := by rw [hx]; exact HVW.out.getD j
          obtain ⟨y0, hy0⟩ : ∃ y0, y0 = x / 2 ^ s2 := ⟨_, rfl⟩
          obtain ⟨y, hy⟩ : ∃ y, y = y0 % 256 := ⟨_, rfl⟩
          have ey : (y0 : Int) % 256 = (y : Int) := by omega
          have ey2 : (y : Int) % 256 = (y : Int) := by omega
          have hsh := fun W => rshift_any x s2 W (by unfold W32 at hxW; omega) (by omega)
          rw [← hy0] at hsh
          have HSH := Lib.hid hsh
          have c1 := k1.cellD (i := j) (by have := HVL.out; omega)
          have c2 := k2.cellD (i := i) (by rw [hashL_len]; omega)
          have f2 := k2.frozen i
          rw [← hx] at c1
          have HN : Hid (hashL V (i + 1) = (hashL V i).set i y) := Lib.hid (by
            rw [hy, hy0, hx, hs2, hm8, hm, hj, show 24 - 8 * (i % 4) = 8 * (3 - i % 4) by omega]; rfl)
          have HF := Lib.hid hF
          have K0 := Lib.hid k0
          have K1 := Lib.hid k1
          have K2 := Lib.hid k2
          clear hx hy hy0 hj hm hm8 hs2 hF k0 k1 k2 hsh hxW
          go_wp2_with fail
          refine (HSH.out _).mono ?_
          rintro ex w6 ⟨rfl, rfl⟩
          go_wp2
          have hqq := HQ.out
          have hpr := HPR.out
          refine ⟨⟨i + 1, by omega, by simp, HF.out.setCell (.inr (by show _ ≤ q; omega)) _, K0.out.set_other (by omega) _, K1.out.set_other (by omega) _, ?_⟩, by simp [intOf]; omega⟩
          rw [HN.out]; exact K2.out.set i y
        · have hge : ¬ (i : Int) < 32 := by omega
          rw [show i = 32 by omega, ← HDV.out] at k2
          have HF := Lib.hid hF
          have HL := Lib.hid (k2.load arHash HD.out.2)
          obtain ⟨Y, hY, hYR, hYF⟩ := k0.stored (l' := D) arHash (by rfl) HD.out.2
          have HY := Lib.hid hY
          have HYR := Lib.hid (hYR.loadVar arHash HD.out.2)
          have HYF := Lib.hid hYF
          clear hF k0 k1 k2 hY hYR hYF
          go_wp2_with (first | (refine wpList_load_eq rfl 27 _ rfl (.pointer (some ⟨q, 0, none⟩)) (.agg (arr .u8 D)) rfl HL.out ?_) | (refine wpList_store_eq rfl 27 _ _ rfl (.pointer (some ⟨r, 0, none⟩)) (.agg (arr .u8 D)) rfl rfl HY.out ?_))
          refine bodyPost_ret (results_cell1 rfl rfl HYR.out) rfl ?_
          have hpr := HPR.out
          exact ⟨rfl, HF.out.trans' HYF.out (fun k hk e => by omega)⟩
end Go.Proofs.YtnpgcgemifoddaaDoor
