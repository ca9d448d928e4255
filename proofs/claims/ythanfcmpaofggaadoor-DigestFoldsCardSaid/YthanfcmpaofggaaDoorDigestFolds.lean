/- DigestFolds walked. -/
import Derived.Test.YthanfcmpaofggaaDoorDigG
import Derived.BigQuiet
namespace Go.Proofs.YthanfcmpaofggaaDoor
open Go.RowKit
set_option linter.unusedVariables false

/-- The world as a letter, behind a region. -/
theorem then_world {K : Act → World → Prop} {Q : Exit → Act → World → Prop} {a : Act} {w0 : World} (S : World → Prop) (h0 : S w0) (h : ∀ W, S W → Exit.then K Q Exit.normal a W) : Exit.then K Q Exit.normal a w0 := h _ h0

set_option maxHeartbeats 400000 in
theorem folds_big (s : List UInt8) (w : World) (hs : 600 < s.length) (hm : s.length ≤ maxLen) (hg : Gl w) :
    Calls Tryd.prog 7 #[.string (str s)] w fun e w' => e = .returned (.bool true) ∧ Fr No w w' := by
  unfold maxLen at hm
  have hsz := str_size s
  have h1 : (600 : Int) < s.length := by omega
  have HG := Lib.hid hg
  clear hg
  go_enter Tryd.func7, Tryd.ntmps7
  go_wp2_with fail
  refine (shown_any _ HG.out).mono ?_
  rintro e w1 ⟨rfl, hF⟩
  have HF := Lib.hid hF
  clear hF
  go_wp2
  go_ret
  exact ⟨rfl, HF.out⟩

set_option maxHeartbeats 1000000 in
set_option maxRecDepth 100000 in
theorem folds_ok (s : List UInt8) (w : World) (hs : s.length ≤ 600) (hg : Gl w) :
    Calls Tryd.prog 7 #[.string (str s)] w fun e w' => e = .returned (.bool true) ∧ Fr No w w' := by
  obtain ⟨P, hP⟩ : ∃ P, P = padded s := ⟨_, rfl⟩
  obtain ⟨L, hL⟩ : ∃ L, L = P.length := ⟨_, rfl⟩
  obtain ⟨n, hn⟩ : ∃ n, n = s.length := ⟨_, rfl⟩
  obtain ⟨N, hN⟩ : ∃ N, N = P.length / 64 := ⟨_, rfl⟩
  obtain ⟨Z, hZ⟩ : ∃ Z, Z = H0 := ⟨_, rfl⟩
  have hl := padded_len s
  rw [← hP, ← hL, ← hn] at hl
  have hsz : (str s).size = n := by rw [str_size, hn]
  have hszP : (str P).size = L := by rw [str_size, hL]
  have h1 : ¬ (600 : Int) < (n : Int) := by omega
  have hL7 : (L : Int) ≤ 700 := by omega
  have HLN : Hid (L = 64 * N ∧ L = P.length ∧ L ≤ 700) := Lib.hid (by omega)
  have HP : Hid (P = padded s) := Lib.hid hP
  have HS := Lib.hid hs
  have HG := Lib.hid hg
  have HZ : Hid (Z = H0 ∧ Z.length = 8 ∧ Ws Z) := Lib.hid ⟨hZ, by rw [hZ]; rfl, by rw [hZ]; exact H0_ws⟩
  have HNN : Hid (N = P.length / 64) := Lib.hid hN
  clear hP hL hn hl hs hg hZ hN
  go_enter Tryd.func7, Tryd.ntmps7
  go_wp2_with fail
  refine (shown_any _ HG.out).mono ?_
  rintro e w1 ⟨rfl, hF⟩
  have HF := Lib.hid hF
  clear hF
  go_wp2_with (refine wpList_store_row rfl 29 _ _ rfl w1.heap.size rfl (arr .u32 H0) rfl (Row.new w1 29 .u32 (List.replicate 8 0)) arW8 (by rfl) (by rfl) (arr_one _ _) ?_
               refine wpList_world (fun W => Fr No w W ∧ Row W w1.heap.size 29 .u32 Z) ⟨fr_setRow (HF.out.alloc _) (.inr HF.out.size) _, by rw [HZ.out.1]; exact (Row.new w1 29 .u32 (List.replicate 8 0)).setRow⟩ ?_
               rintro w2 ⟨hF2, hR2⟩
               have HF2 := Lib.hid hF2
               have HR2 := Lib.hid hR2
               clear hF2 hR2)
  have hpa := fun X => pad_any s X (by have := HS.out; omega)
  rw [← HP.out] at hpa
  refine (hpa w2).mono ?_
  rintro e w3 ⟨rfl, hF3⟩
  obtain ⟨p, hp⟩ : ∃ p, p = w1.heap.size := ⟨_, rfl⟩
  have hpw : w.heap.size ≤ p := by rw [hp]; exact HF.out.size
  have HR3 : Hid (Row w3 p 29 .u32 Z) := Lib.hid (by rw [hp]; exact HR2.out.fr hF3 id)
  have HF3 := Lib.hid (HF2.out.trans hF3)
  clear hF3 hpa HF2 HR2
  rw [← hp]
  have HPW := Lib.hid hpw
  clear hp hpw
  go_wp2
  go_loopw [5] (fun c wr => ∃ i : Nat, i ≤ N ∧ c = .int .i64 ((64 * i : Nat) : Int) ∧ Fr No w wr ∧ Row wr p 29 .u32 (foldL Z P i)) (fun c _ => L - (intOf c).toNat)
  case atStart => exact ⟨0, by omega, rfl, HF3.out, HR3.out⟩
  clear HF3 HR3
  case round =>
    obtain ⟨i, hi, rfl, hF, k1⟩ := hrel
    obtain ⟨lo, hlo⟩ : ∃ lo, lo = 64 * i := ⟨_, rfl⟩
    rw [← hlo]
    by_cases hlt : i < N
    · obtain ⟨hi2, hhi⟩ : ∃ hi, hi = lo + 64 := ⟨_, rfl⟩
      have hln := HLN.out
      have e1 : IntKind.i64.wrap (hi2 : Int) = (hi2 : Int) := by rw [IntKind.wrap_i64]; omega
      have e2 : (lo : Int) + 64 = (hi2 : Int) := by omega
      have g1 : (lo : Int) ≤ (hi2 : Int) := by omega
      have g2 : (hi2 : Int) ≤ (L : Int) := by omega
      have g3 : (lo : Int) ≤ 700 := by omega
      obtain ⟨blk, hblk⟩ : ∃ blk, blk = (P.drop (64 * i)).take 64 := ⟨_, rfl⟩
      have hex : (str P).extract lo hi2 = str blk := by rw [str_extract, hblk, hhi, hlo]; congr 2; omega
      obtain ⟨V, hV⟩ : ∃ V, V = foldL Z P i := ⟨_, rfl⟩
      rw [← hV] at k1
      have HVL : Hid (V.length = 8) := Lib.hid (by rw [hV, foldL_len]; exact HZ.out.2.1)
      have HVW : Hid (Ws V) := Lib.hid (by rw [hV]; exact foldL_ws _ HZ.out.2.2 i)
      have HBL : Hid (blk.length = 64) := Lib.hid (by rw [hblk]; exact block_len P i (by rw [← HNN.out]; exact hlt))
      have HN : Hid (foldL Z P (i + 1) = comp V blk) := Lib.hid (by rw [hV, hblk]; rfl)
      have HLDV : Hid (∀ X, Fr No wr X → (Instr.loadAt 29 (.pointer (some ⟨p, 0, none⟩))).run Tryd.prog X = .ok (.agg (arr .u32 V)) X) := Lib.hid (fun X hX => (k1.fr hX id).load arW8 HVL.out)
      have HGr : Hid (Gl wr) := Lib.hid (HG.out.fr hF (fun _ _ => id))
      have HF := Lib.hid hF
      have K1 := Lib.hid k1
      have HLO := Lib.hid hlo
      have HHI := Lib.hid hhi
      clear hV hblk hlo hhi hF k1 hln
      go_wp2_with fail
      refine wp_region_held_drew (S := (fun X => Fr No wr X)) (by kernel_rfl) ((Fr.refl _ wr).drew) (fun hHeld => ?_)
      refine takeD (i := 0) (d := some 29) (v := .agg (arr .u32 V)) rfl (by kernel_rfl) (by kernel_rfl) (by kernel_rfl) (by kernel_rfl) (fun _ _ _ h => h) (Or.inl ⟨by kernel_rfl, fun X hX => Or.inl (exec_load 29 (.tmp 3) rfl _ _ rfl (HLDV.out X hX))⟩) (by assumption) ?_
      (try simp only [Act.put]); (try simp only [List.setIfInBounds_toArray]); (try simp only [List.set_cons_succ]); (try simp only [List.set_cons_zero])
      refine takeD (i := 1) (d := some 30) (v := ?_) rfl (by kernel_rfl) (by kernel_rfl) (by kernel_rfl) (by kernel_rfl) (fun _ _ _ h => h) (Or.inl ⟨by kernel_rfl, fun X hX => Or.inl ?_⟩) (by assumption) ?_
      rotate_left
      · first | (go_simp; done) | (go_simp; with_reducible rfl)
      (try simp only [Act.put]); (try simp only [List.setIfInBounds_toArray]); (try simp only [List.set_cons_succ]); (try simp only [List.set_cons_zero])
      refine takeD (i := 2) (d := some 31) (v := ?_) rfl (by kernel_rfl) (by kernel_rfl) (by kernel_rfl) (by kernel_rfl) (fun _ _ _ h => h) (Or.inl ⟨by kernel_rfl, fun X hX => Or.inl ?_⟩) (by assumption) ?_
      rotate_left
      · first | (go_simp; done) | (go_simp; with_reducible rfl)
      (try simp only [Act.put]); (try simp only [List.setIfInBounds_toArray]); (try simp only [List.set_cons_succ]); (try simp only [List.set_cons_zero])
      refine takeD (i := 3) (d := some 32) (v := ?_) rfl (by kernel_rfl) (by kernel_rfl) (by kernel_rfl) (by kernel_rfl) (fun _ _ _ h => h) (Or.inl ⟨by kernel_rfl, fun X hX => Or.inl ?_⟩) (by assumption) ?_
      rotate_left
      · first | (go_simp; done) | (go_simp; with_reducible rfl)
      (try simp only [Act.put]); (try simp only [List.setIfInBounds_toArray]); (try simp only [List.set_cons_succ]); (try simp only [List.set_cons_zero])
      refine takeD (i := 4) (d := some 33) (v := ?_) rfl (by kernel_rfl) (by kernel_rfl) (by kernel_rfl) (by kernel_rfl) (fun _ _ _ h => h) (Or.inl ⟨by kernel_rfl, fun X hX => Or.inl ?_⟩) (by assumption) ?_
      rotate_left
      · first | (go_simp; done) | (go_simp; with_reducible rfl)
      (try simp only [Act.put]); (try simp only [List.setIfInBounds_toArray]); (try simp only [List.set_cons_succ]); (try simp only [List.set_cons_zero])
      refine takeD (i := 5) (d := some 34) (v := ?_) rfl (by kernel_rfl) (by kernel_rfl) (by kernel_rfl) (by kernel_rfl) (fun _ _ _ h => h) (Or.inl ⟨by kernel_rfl, fun X hX => Or.inl ?_⟩) (by assumption) ?_
      rotate_left
      · first | (go_simp; done) | (go_simp; with_reducible rfl)
      (try simp only [Act.put]); (try simp only [List.setIfInBounds_toArray]); (try simp only [List.set_cons_succ]); (try simp only [List.set_cons_zero])
      refine wpAnyH_ready (rs := [6, 10]) (by kernel_rfl) (by simp) ?_
      refine (AllReadyH.cons rfl (fun K hK => ?_) (AllReadyH.cons rfl (fun K hK => ?_) AllReadyH.nil))
      · rw [if_pos (by kernel_rfl)]
        go_simp
        refine (comp_ok V blk _ HVL.out HVW.out HBL.out (Gl.fr (S := No) HGr.out hHeld (fun _ _ => id))).mono ?_
        rintro ex w5 ⟨rfl, hF5⟩
        have H5 := Lib.hid hF5
        clear hF5
        refine hK.out _ _ (hHeld.trans H5.out) (fun hHeld => ?_)
        clear hK K
        (try simp only [Act.put]); (try simp only [List.setIfInBounds_toArray]); (try simp only [List.set_cons_succ]); (try simp only [List.set_cons_zero])
        refine takeD (i := 7) (d := some 28) (v := ?_) rfl (by kernel_rfl) (by kernel_rfl) (by kernel_rfl) (by kernel_rfl) (fun _ _ _ h => h) (Or.inl ⟨by kernel_rfl, fun X hX => Or.inl ?_⟩) (by assumption) ?_
        rotate_left
        · first | (go_simp; done) | (go_simp; with_reducible rfl)
        (try simp only [Act.put]); (try simp only [List.setIfInBounds_toArray]); (try simp only [List.set_cons_succ]); (try simp only [List.set_cons_zero])
        refine takeD (i := 8) (d := some 36) (v := ?_) rfl (by kernel_rfl) (by kernel_rfl) (by kernel_rfl) (by kernel_rfl) (fun _ _ _ h => h) (Or.inl ⟨by kernel_rfl, fun X hX => Or.inl ?_⟩) (by assumption) ?_
        rotate_left
        · first | (go_simp; done) | (go_simp; with_reducible rfl)
        (try simp only [Act.put]); (try simp only [List.setIfInBounds_toArray]); (try simp only [List.set_cons_succ]); (try simp only [List.set_cons_zero])
        refine takeD (i := 9) (d := some 37) (v := ?_) rfl (by kernel_rfl) (by kernel_rfl) (by kernel_rfl) (by kernel_rfl) (fun _ _ _ h => h) (Or.inl ⟨by kernel_rfl, fun X hX => Or.inl ?_⟩) (by assumption) ?_
        rotate_left
        · first | (go_simp; done) | (go_simp; with_reducible rfl)
        (try simp only [Act.put]); (try simp only [List.setIfInBounds_toArray]); (try simp only [List.set_cons_succ]); (try simp only [List.set_cons_zero])
        refine wpAnyH_ready (rs := [10]) (by kernel_rfl) (by simp) ?_
        refine AllReadyH.cons rfl (fun K hK => ?_) AllReadyH.nil
        rw [if_pos (by kernel_rfl)]
        go_simp
        refine hK.out _ _ (hHeld.alloc _) (fun hHeld => ?_)
        clear hK K
        (try simp only [Act.put]); (try simp only [List.setIfInBounds_toArray]); (try simp only [List.set_cons_succ]); (try simp only [List.set_cons_zero])
        refine wpAnyH_ready (rs := [11]) (by kernel_rfl) (by simp) ?_
        refine AllReadyH.cons rfl (fun K hK => ?_) AllReadyH.nil
        rw [if_pos (by kernel_rfl)]
        refine wp_store_row 29 _ _ rfl w5.heap.size rfl (arr .u32 (comp V blk)) rfl (Row.new w5 29 .u32 (List.replicate 8 0)) arW8 (by rfl) (by rw [arr_size, comp_len]; exact HVL.out) (arr_one _ _) ?_
        refine hK.out _ _ (fr_setRow hHeld (.inr (by have := H5.out.size; simpa using this)) _) (fun hHeld => ?_)
        clear hK K
        (try simp only [Act.put]); (try simp only [List.setIfInBounds_toArray]); (try simp only [List.set_cons_succ]); (try simp only [List.set_cons_zero])
        refine takeD (i := 12) (d := some 7) (v := ?_) rfl (by kernel_rfl) (by kernel_rfl) (by kernel_rfl) (by kernel_rfl) (fun _ _ _ h => h) (Or.inl ⟨by kernel_rfl, fun X hX => Or.inl ?_⟩) (by assumption) ?_
        rotate_left
        · first | (go_simp; done) | (go_simp; with_reducible rfl)
        (try simp only [Act.put]); (try simp only [List.setIfInBounds_toArray]); (try simp only [List.set_cons_succ]); (try simp only [List.set_cons_zero])
        refine wpAnyH_done (by kernel_rfl) ?_ _
        refine then_world (fun W => Fr No wr W ∧ Row W w5.heap.size 29 .u32 (comp V blk)) ⟨hHeld, (Row.new w5 29 .u32 (List.replicate 8 0)).setRow⟩ ?_
        rintro w6 ⟨hF6, hR6⟩
        have hCL : (comp V blk).length = 8 := (comp_len _ _).trans HVL.out
        have HL6 := Lib.hid (hR6.load arW8 hCL)
        obtain ⟨Y, hY, hYR, hYF⟩ := (K1.out.fr (S := No) hF6 id).stored (l' := comp V blk) arW8 HVL.out hCL
        have HY := Lib.hid hY
        have HYR := Lib.hid hYR
        have HYF : Hid (Fr No w Y) := Lib.hid ((HF.out.trans hF6).trans' hYF (fun k hk e => by have := HPW.out; omega))
        clear hF6 hR6 hCL hY hYR hYF
        go_wp2_with (first | (refine wpList_load_eq rfl 29 _ rfl (.pointer (some ⟨w5.heap.size, 0, none⟩)) (.agg (arr .u32 (comp V blk))) rfl HL6.out ?_) | (refine wpList_store_eq rfl 29 _ _ rfl (.pointer (some ⟨p, 0, none⟩)) (.agg (arr .u32 (comp V blk))) rfl rfl HY.out ?_))
        have hlo := HLO.out
        have hhi := HHI.out
        have hln := HLN.out
        refine ⟨⟨i + 1, by omega, by congr 1; omega, HYF.out, ?_⟩, by simp [intOf]; omega⟩
        rw [HN.out]; exact HYR.out
      · rw [if_pos (by kernel_rfl)]
        go_simp
        refine hK.out _ _ (hHeld.alloc _) (fun hHeld => ?_)
        clear hK K
        (try simp only [Act.put]); (try simp only [List.setIfInBounds_toArray]); (try simp only [List.set_cons_succ]); (try simp only [List.set_cons_zero])
        refine wpAnyH_ready (rs := [6]) (by kernel_rfl) (by simp) ?_
        refine AllReadyH.cons rfl (fun K hK => ?_) AllReadyH.nil
        rw [if_pos (by kernel_rfl)]
        go_simp
        refine (comp_ok V blk _ HVL.out HVW.out HBL.out (Gl.fr (S := No) HGr.out hHeld (fun _ _ => id))).mono ?_
        rintro ex w5 ⟨rfl, hF5⟩
        have H5 := Lib.hid hF5
        have R5 : Hid (Row w5 wr.heap.size 29 .u32 (List.replicate 8 0)) := Lib.hid (Row.fr (Row.new wr.drew 29 .u32 (List.replicate 8 0)) hF5 id)
        clear hF5
        refine hK.out _ _ (hHeld.trans H5.out) (fun hHeld => ?_)
        clear hK K
        (try simp only [Act.put]); (try simp only [List.setIfInBounds_toArray]); (try simp only [List.set_cons_succ]); (try simp only [List.set_cons_zero])
        refine takeD (i := 7) (d := some 28) (v := ?_) rfl (by kernel_rfl) (by kernel_rfl) (by kernel_rfl) (by kernel_rfl) (fun _ _ _ h => h) (Or.inl ⟨by kernel_rfl, fun X hX => Or.inl ?_⟩) (by assumption) ?_
        rotate_left
        · first | (go_simp; done) | (go_simp; with_reducible rfl)
        (try simp only [Act.put]); (try simp only [List.setIfInBounds_toArray]); (try simp only [List.set_cons_succ]); (try simp only [List.set_cons_zero])
        refine takeD (i := 8) (d := some 36) (v := ?_) rfl (by kernel_rfl) (by kernel_rfl) (by kernel_rfl) (by kernel_rfl) (fun _ _ _ h => h) (Or.inl ⟨by kernel_rfl, fun X hX => Or.inl ?_⟩) (by assumption) ?_
        rotate_left
        · first | (go_simp; done) | (go_simp; with_reducible rfl)
        (try simp only [Act.put]); (try simp only [List.setIfInBounds_toArray]); (try simp only [List.set_cons_succ]); (try simp only [List.set_cons_zero])
        refine takeD (i := 9) (d := some 37) (v := ?_) rfl (by kernel_rfl) (by kernel_rfl) (by kernel_rfl) (by kernel_rfl) (fun _ _ _ h => h) (Or.inl ⟨by kernel_rfl, fun X hX => Or.inl ?_⟩) (by assumption) ?_
        rotate_left
        · first | (go_simp; done) | (go_simp; with_reducible rfl)
        (try simp only [Act.put]); (try simp only [List.setIfInBounds_toArray]); (try simp only [List.set_cons_succ]); (try simp only [List.set_cons_zero])
        refine wpAnyH_ready (rs := [11]) (by kernel_rfl) (by simp) ?_
        refine AllReadyH.cons rfl (fun K hK => ?_) AllReadyH.nil
        rw [if_pos (by kernel_rfl)]
        refine wp_store_row 29 _ _ rfl wr.heap.size rfl (arr .u32 (comp V blk)) rfl R5.out arW8 (by rfl) (by rw [arr_size, comp_len]; exact HVL.out) (arr_one _ _) ?_
        refine hK.out _ _ (fr_setRow hHeld (.inr (Nat.le_refl _)) _) (fun hHeld => ?_)
        clear hK K
        (try simp only [Act.put]); (try simp only [List.setIfInBounds_toArray]); (try simp only [List.set_cons_succ]); (try simp only [List.set_cons_zero])
        refine takeD (i := 12) (d := some 7) (v := ?_) rfl (by kernel_rfl) (by kernel_rfl) (by kernel_rfl) (by kernel_rfl) (fun _ _ _ h => h) (Or.inl ⟨by kernel_rfl, fun X hX => Or.inl ?_⟩) (by assumption) ?_
        rotate_left
        · first | (go_simp; done) | (go_simp; with_reducible rfl)
        (try simp only [Act.put]); (try simp only [List.setIfInBounds_toArray]); (try simp only [List.set_cons_succ]); (try simp only [List.set_cons_zero])
        refine wpAnyH_done (by kernel_rfl) ?_ _
        refine then_world (fun W => Fr No wr W ∧ Row W wr.heap.size 29 .u32 (comp V blk)) ⟨hHeld, R5.out.setRow⟩ ?_
        rintro w6 ⟨hF6, hR6⟩
        have hCL : (comp V blk).length = 8 := (comp_len _ _).trans HVL.out
        have HL6 := Lib.hid (hR6.load arW8 hCL)
        obtain ⟨Y, hY, hYR, hYF⟩ := (K1.out.fr (S := No) hF6 id).stored (l' := comp V blk) arW8 HVL.out hCL
        have HY := Lib.hid hY
        have HYR := Lib.hid hYR
        have HYF : Hid (Fr No w Y) := Lib.hid ((HF.out.trans hF6).trans' hYF (fun k hk e => by have := HPW.out; omega))
        clear hF6 hR6 hCL hY hYR hYF
        go_wp2_with (first | (refine wpList_load_eq rfl 29 _ rfl (.pointer (some ⟨wr.heap.size, 0, none⟩)) (.agg (arr .u32 (comp V blk))) rfl HL6.out ?_) | (refine wpList_store_eq rfl 29 _ _ rfl (.pointer (some ⟨p, 0, none⟩)) (.agg (arr .u32 (comp V blk))) rfl rfl HY.out ?_))
        have hlo := HLO.out
        have hhi := HHI.out
        have hln := HLN.out
        refine ⟨⟨i + 1, by omega, by congr 1; omega, HYF.out, ?_⟩, by simp [intOf]; omega⟩
        rw [HN.out]; exact HYR.out
    · have hln := HLN.out
      have hnl : ¬ ((lo : Int) + 64 ≤ (L : Int)) := by omega
      have g3 : (lo : Int) ≤ 700 := by omega
      have hiN : i = N := by omega
      rw [hiN] at k1
      obtain ⟨VN, hVN⟩ : ∃ VN, VN = foldL Z P N := ⟨_, rfl⟩
      obtain ⟨D, hD⟩ : ∃ D, D = sumL s := ⟨_, rfl⟩
      rw [← hVN] at k1
      have HVL : Hid (VN.length = 8) := Lib.hid (by rw [hVN, foldL_len]; exact HZ.out.2.1)
      have HDD : Hid (D.length = 32 ∧ ∀ j, j < 32 → D.getD j 0 = hbyte VN j) := Lib.hid ⟨by rw [hD]; exact hashL_len _ _, fun j hj => by
        rw [hD, sumL, ← HP.out, ← HNN.out, ← HZ.out.1, ← hVN]
        exact hashL_get VN 32 (Nat.le_refl _) j hj⟩
      have hsu := sum_any s wr (by have := HS.out; omega) (HG.out.fr hF (fun _ _ => id))
      rw [← hD] at hsu
      have HSU := Lib.hid hsu
      have HF := Lib.hid hF
      have K1 := Lib.hid k1
      clear hVN hD hsu hF k1 hln hiN hlo
      go_wp2_with fail
      refine HSU.out.mono ?_
      rintro e w4 ⟨rfl, hF4⟩
      have HF4 := Lib.hid (HF.out.trans hF4)
      have K2 : Hid (Row w4 p 29 .u32 VN) := Lib.hid (K1.out.fr hF4 id)
      clear hF4 HSU
      go_wp2_with (refine wpList_store_row rfl 24 _ _ rfl w4.heap.size rfl (arr .u8 D) rfl (Row.new w4 24 .u8 (List.replicate 32 0)) arHash (by rfl) (by rw [arr_size]; exact HDD.out.1) (arr_one _ _) ?_
                   refine wpList_world (fun W => Fr No w4 W ∧ Row W w4.heap.size 24 .u8 D) ⟨fr_setRow ((Fr.refl No w4).alloc _) (.inr (Nat.le_refl _)) _, (Row.new w4 24 .u8 (List.replicate 32 0)).setRow⟩ ?_
                   rintro w5 ⟨hF5', hR5⟩
                   have hR6 : Row w5 p 29 .u32 VN := K2.out.fr (S := No) hF5' id
                   have hF5 := HF4.out.trans hF5'
                   clear hF5'
                   have HF5 := Lib.hid hF5
                   have HR5 := Lib.hid hR5
                   have HR6 := Lib.hid hR6
                   clear hF5 hR5 hR6)
      obtain ⟨q, hq⟩ : ∃ q, q = w4.heap.size := ⟨_, rfl⟩
      have HQ5 : Hid (Row w5 q 24 .u8 D) := Lib.hid (by rw [hq]; exact HR5.out)
      rw [← hq]
      clear HR5 hq
      go_loopw [9] (fun c wr => ∃ i : Nat, i ≤ 32 ∧ c = .int .i64 i ∧ Fr No w wr ∧ Row wr p 29 .u32 VN ∧ Row wr q 24 .u8 D) (fun c _ => 32 - (intOf c).toNat)
      case atStart => exact ⟨0, by omega, rfl, HF5.out, HR6.out, HQ5.out⟩
      clear HF5 HR6 HQ5 HF4 K2 K1 HF
      case round =>
        obtain ⟨i, hi, rfl, hF, k1, k2⟩ := hrel
        by_cases hlt : i < 32
        · have h1 : (i : Int) < 32 := by omega
          obtain ⟨j, hj⟩ : ∃ j, j = i / 4 := ⟨_, rfl⟩
          obtain ⟨m, hm⟩ : ∃ m, m = i % 4 := ⟨_, rfl⟩
          obtain ⟨m8, hm8⟩ : ∃ m8, m8 = 8 * m := ⟨_, rfl⟩
          obtain ⟨s2, hs2⟩ : ∃ s2, s2 = 24 - m8 := ⟨_, rfl⟩
          have hw4 : IntKind.i64.wrap ((i : Int) / 4) = (j : Int) := by rw [IntKind.wrap_i64]; omega
          have hj8 : (j : Int) < 8 := by omega
          have em : (i : Int) % 4 = (m : Int) := by omega
          have e8 : IntKind.i64.wrap (8 * (m : Int)) = (m8 : Int) := by rw [IntKind.wrap_i64]; omega
          have e24 : IntKind.i64.wrap (24 - (m8 : Int)) = (s2 : Int) := by rw [IntKind.wrap_i64]; omega
          have hs32 : (s2 : Int) < 32 := by omega
          obtain ⟨x, hx⟩ : ∃ x, x = VN.getD j 0 := ⟨_, rfl⟩
          obtain ⟨y, hy⟩ : ∃ y, y = D.getD i 0 := ⟨_, rfl⟩
          have c1 := k1.cellD (i := j) (by have := HVL.out; omega)
          have c2 := k2.cellD (i := i) (by have := HDD.out.1; omega)
          rw [← hx] at c1
          rw [← hy] at c2
          have hyv : (x : Int) / 2 ^ s2 % 256 = (y : Int) := by
            rw [hy, HDD.out.2 i hlt, hx, hj, show s2 = 8 * (3 - i % 4) by omega]
            simp [hbyte]
          have HF := Lib.hid hF
          have K1 := Lib.hid k1
          have K2 := Lib.hid k2
          clear hx hy hj hm hm8 hs2 hF k1 k2
          go_wp2_with fail
          go_quiet (fail)
          go_wp2
          exact ⟨⟨i + 1, by omega, by simp, HF.out.drewN _, K1.out, K2.out⟩, by simp [intOf]; omega⟩
        · obtain rfl : i = 32 := by omega
          have HF := Lib.hid hF
          clear hF k1 k2
          go_wp2
          go_ret
          exact ⟨rfl, HF.out⟩

theorem folds_walk (s : ByteArray) (w : World) (hm : s.size ≤ maxLen) (hg : Gl w) :
    Calls Tryd.prog 7 #[.string s] w fun e w' => e = .returned (.bool true) ∧ Fr No w w' := by
  have e : s = str s.data.toList := by apply ByteArray.ext; simp [str]
  have hl : s.data.toList.length = s.size := rfl
  rw [e]
  by_cases h : s.size ≤ 600
  · exact folds_ok _ _ (by omega) hg
  · exact folds_big _ _ (by omega) (by omega) hg
end Go.Proofs.YthanfcmpaofggaaDoor
