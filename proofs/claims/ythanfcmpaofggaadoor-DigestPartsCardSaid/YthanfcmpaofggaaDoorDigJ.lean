/- The sum of what came into a stream. -/
import Derived.Test.YthanfcmpaofggaaDoorDigI
namespace Go.Proofs.YthanfcmpaofggaaDoor
open Go.RowKit
set_option linter.unusedVariables false

set_option maxHeartbeats 2000000 in
set_option maxRecDepth 100000 in
theorem ssum_any (b : Nat) (A : List UInt8) (w : World) (h : SI w b A) (hg : Gl w) :
    Calls Tryd.prog 18 #[.pointer (some ⟨b, 0, none⟩)] w fun ex w' => ex = .returned (.agg (arr .u8 (sumL A))) ∧ Fr No w w' := by
  have HSI := Lib.hid h
  obtain ⟨hl, V, hV, hVW, hS⟩ := h
  obtain ⟨F, hF⟩ : ∃ F, F = foldL H0 A (A.length / 64) := ⟨_, rfl⟩
  obtain ⟨R, hR⟩ : ∃ R, R = A.drop (64 * (A.length / 64)) := ⟨_, rfl⟩
  obtain ⟨n, hn⟩ : ∃ n, n = A.length := ⟨_, rfl⟩
  obtain ⟨PL, hPL⟩ : ∃ PL, PL = padL n := ⟨_, rfl⟩
  obtain ⟨O, hO⟩ : ∃ O, O = R ++ PL := ⟨_, rfl⟩
  obtain ⟨F2, hF2⟩ : ∃ F2, F2 = foldL F O (O.length / 64) := ⟨_, rfl⟩
  obtain ⟨D, hD⟩ : ∃ D, D = hashL F2 32 := ⟨_, rfl⟩
  have hRl : R.length ≤ 64 := by rw [hR, List.length_drop]; omega
  have hPLl : PL.length ≤ 80 := by rw [hPL, padL_len]; omega
  have hOl : O.length = R.length + PL.length := by rw [hO, List.length_append]
  have hmw := (more_words A PL O (by rw [hO, hR])).1
  have hpd : A ++ PL = padded A := by rw [padded, hPL, hn]
  have hO64 : O.length % 64 = 0 := by
    have h1 := padded_mod A
    rw [← hpd, List.length_append] at h1
    rw [hOl, hR, List.length_drop]
    omega
  rw [← hF, List.take_of_length_le (by omega), ← hF2, hpd] at hmw
  have hDs : D = sumL A := by rw [hD, hmw]; rfl
  have hDl : D.length = 32 := by rw [hD]; exact hashL_len _ _
  have hFL : F.length = 8 ∧ Ws F := by rw [hF]; exact ⟨(foldL_len _ _ _).trans rfl, foldL_ws _ H0_ws _⟩
  have hF2L : F2.length = 8 ∧ Ws F2 := by rw [hF2]; exact ⟨(foldL_len _ _ _).trans hFL.1, foldL_ws _ hFL.2 _⟩
  rw [← hDs]
  have hszR : (str R).size = R.length := str_size R
  have hszP : (str PL).size = PL.length := str_size PL
  have hRl2 : (R.length : Int) ≤ 64 := by omega
  have hPl2 : (PL.length : Int) ≤ 80 := by omega
  have hPl3 : (str PL).size ≤ 80 := by rw [hszP]; exact hPLl
  have hno : ¬ 9223372036854775807 < R.length + PL.length := by omega
  have hcat : str R ++ str PL = str O := by rw [str_append, hO]
  rw [← hR, ← hn] at hS
  have hfo := fun X hX hG => folds_any' b A X hX hG
  rw [← hF] at hfo
  have hfd := fun X hG => folded_any F O X hFL.1 hFL.2 hG (by omega)
  rw [← hF2] at hfd
  have hpa := fun X => padding_any n X (by omega)
  rw [← hPL] at hpa
  have hha := fun X => hashof_any F2 X hF2L.1 hF2L.2
  rw [← hD] at hha
  have HFO := Lib.hid hfo
  have HFD := Lib.hid hfd
  have HPA := Lib.hid hpa
  have HHA := Lib.hid hha
  have HST := Lib.hid hS
  have HG := Lib.hid hg
  have HDL := Lib.hid hDl
  have HCR : Hid (∀ X, Fr No w X → X.cell? ⟨b, 8, none⟩ = some (.string (str R))) := Lib.hid (fun X hX => (hS.fr hX id).rest)
  have HCL : Hid (∀ X, Fr No w X → X.cell? ⟨b, 9, none⟩ = some (.int .u64 (n : Int))) := Lib.hid (fun X hX => (hS.fr hX id).len)
  clear hl hV hVW hS hF hR hn hPL hO hF2 hD hRl hPLl hOl hmw hpd hO64 hDs hDl hFL hF2L hfo hfd hpa hha hg
  go_enter Tryd.func18, Tryd.ntmps18
  go_wp2_with fail
  refine wp_world (fun W => Fr No w W ∧ Row W w.heap.size 24 .u8 (List.replicate 32 0)) ⟨(Fr.refl No w).alloc _, Row.new w 24 .u8 (List.replicate 32 0)⟩ ?_
  rintro W1 ⟨hF1, hR1⟩
  have HF1 := Lib.hid hF1
  have HR1 := Lib.hid hR1
  clear hF1 hR1
  go_wp2_with fail
  refine wp_region_held_drew (S := (fun X => Fr No w X)) (by kernel_rfl) (HF1.out.drew) (fun hHeld => ?_)
  refine takeD (i := 0) (d := some 6) (v := ?_) rfl (by kernel_rfl) (by kernel_rfl) (by kernel_rfl) (by kernel_rfl) (fun _ _ _ h => h) (Or.inl ⟨by kernel_rfl, fun X hX => Or.inl ?_⟩) (by assumption) ?_
  rotate_left
  · first | (go_simp; done) | (go_simp; with_reducible rfl)
  (try simp only [Act.put]); (try simp only [List.setIfInBounds_toArray]); (try simp only [List.set_cons_succ]); (try simp only [List.set_cons_zero])
  refine takeD (i := 2) (d := some 8) (v := ?_) rfl (by kernel_rfl) (by kernel_rfl) (by kernel_rfl) (by kernel_rfl) (fun _ _ _ h => h) (Or.inl ⟨by kernel_rfl, fun X hX => Or.inl ?_⟩) (by assumption) ?_
  rotate_left
  · first | (go_simp; done) | (go_simp; with_reducible rfl)
  (try simp only [Act.put]); (try simp only [List.setIfInBounds_toArray]); (try simp only [List.set_cons_succ]); (try simp only [List.set_cons_zero])
  refine takeD (i := 3) (d := some 9) (v := ?_) rfl (by kernel_rfl) (by kernel_rfl) (by kernel_rfl) (by kernel_rfl) (fun _ _ _ h => h) (Or.inl ⟨by kernel_rfl, fun X hX => Or.inl ?_⟩) (by assumption) ?_
  rotate_left
  · first | (go_simp; done) | (go_simp; with_reducible rfl)
  (try simp only [Act.put]); (try simp only [List.setIfInBounds_toArray]); (try simp only [List.set_cons_succ]); (try simp only [List.set_cons_zero])
  refine takeD (i := 4) (d := some 10) (v := ?_) rfl (by kernel_rfl) (by kernel_rfl) (by kernel_rfl) (by kernel_rfl) (fun _ _ _ h => h) (Or.inl ⟨by kernel_rfl, fun X hX => Or.inl ?_⟩) (by assumption) ?_
  rotate_left
  · first | (go_simp; done) | (go_simp; with_reducible rfl)
  (try simp only [Act.put]); (try simp only [List.setIfInBounds_toArray]); (try simp only [List.set_cons_succ]); (try simp only [List.set_cons_zero])
  refine takeD (i := 5) (d := some 11) (v := ?_) rfl (by kernel_rfl) (by kernel_rfl) (by kernel_rfl) (by kernel_rfl) (fun _ _ _ h => h) (Or.inl ⟨by kernel_rfl, fun X hX => Or.inl ?_⟩) (by assumption) ?_
  rotate_left
  · have c1 := HCR.out X hX; have c2 := HCL.out X hX; first | (go_simp; done) | (go_simp; with_reducible rfl)
  (try simp only [Act.put]); (try simp only [List.setIfInBounds_toArray]); (try simp only [List.set_cons_succ]); (try simp only [List.set_cons_zero])
  refine takeD (i := 6) (d := some 12) (v := ?_) rfl (by kernel_rfl) (by kernel_rfl) (by kernel_rfl) (by kernel_rfl) (fun _ _ _ h => h) (Or.inl ⟨by kernel_rfl, fun X hX => Or.inl ?_⟩) (by assumption) ?_
  rotate_left
  · first | (go_simp; done) | (go_simp; with_reducible rfl)
  (try simp only [Act.put]); (try simp only [List.setIfInBounds_toArray]); (try simp only [List.set_cons_succ]); (try simp only [List.set_cons_zero])
  refine takeD (i := 7) (d := some 13) (v := ?_) rfl (by kernel_rfl) (by kernel_rfl) (by kernel_rfl) (by kernel_rfl) (fun _ _ _ h => h) (Or.inl ⟨by kernel_rfl, fun X hX => Or.inl ?_⟩) (by assumption) ?_
  rotate_left
  · first | (go_simp; done) | (go_simp; with_reducible rfl)
  (try simp only [Act.put]); (try simp only [List.setIfInBounds_toArray]); (try simp only [List.set_cons_succ]); (try simp only [List.set_cons_zero])
  refine takeD (i := 8) (d := some 14) (v := ?_) rfl (by kernel_rfl) (by kernel_rfl) (by kernel_rfl) (by kernel_rfl) (fun _ _ _ h => h) (Or.inl ⟨by kernel_rfl, fun X hX => Or.inl ?_⟩) (by assumption) ?_
  rotate_left
  · first | (go_simp; done) | (go_simp; with_reducible rfl)
  (try simp only [Act.put]); (try simp only [List.setIfInBounds_toArray]); (try simp only [List.set_cons_succ]); (try simp only [List.set_cons_zero])
  refine takeD (i := 9) (d := some 15) (v := ?_) rfl (by kernel_rfl) (by kernel_rfl) (by kernel_rfl) (by kernel_rfl) (fun _ _ _ h => h) (Or.inl ⟨by kernel_rfl, fun X hX => Or.inl ?_⟩) (by assumption) ?_
  rotate_left
  · have c1 := HCR.out X hX; have c2 := HCL.out X hX; first | (go_simp; done) | (go_simp; with_reducible rfl)
  (try simp only [Act.put]); (try simp only [List.setIfInBounds_toArray]); (try simp only [List.set_cons_succ]); (try simp only [List.set_cons_zero])
  refine wpAnyH_ready (rs := [1]) (by kernel_rfl) (by simp) ?_
  refine AllReadyH.cons rfl (fun K hK => ?_) AllReadyH.nil
  rw [if_pos (by kernel_rfl)]
  go_simp
  refine (HFO.out _ (SI.fr (S := No) HSI.out hHeld id) (HG.out.fr hHeld (fun _ _ => id))).mono ?_
  rintro ex w2 ⟨rfl, hF2⟩
  have R2 : Hid (Row w2 w.heap.size 24 .u8 (List.replicate 32 0)) := Lib.hid (Row.fr (w := W1.drew) HR1.out hF2 id)
  have F2' := Lib.hid hF2
  clear hF2
  refine hK.out _ _ (hHeld.trans F2'.out) (fun hHeld => ?_)
  clear hK K
  (try simp only [Act.put]); (try simp only [List.setIfInBounds_toArray]); (try simp only [List.set_cons_succ]); (try simp only [List.set_cons_zero])
  refine wpAnyH_ready (rs := [10]) (by kernel_rfl) (by simp) ?_
  refine AllReadyH.cons rfl (fun K hK => ?_) AllReadyH.nil
  rw [if_pos (by kernel_rfl)]
  go_simp
  refine (HPA.out w2).mono ?_
  rintro ex w3 ⟨rfl, hF3⟩
  have R3 : Hid (Row w3 w.heap.size 24 .u8 (List.replicate 32 0)) := Lib.hid (R2.out.fr hF3 id)
  have F3' := Lib.hid hF3
  clear hF3
  refine hK.out _ _ (hHeld.trans F3'.out) (fun hHeld => ?_)
  clear hK K
  (try simp only [Act.put]); (try simp only [List.setIfInBounds_toArray]); (try simp only [List.set_cons_succ]); (try simp only [List.set_cons_zero])
  refine takeD (i := 11) (d := some 17) (v := ?_) rfl (by kernel_rfl) (by kernel_rfl) (by kernel_rfl) (by kernel_rfl) (fun _ _ _ h => h) (Or.inl ⟨by kernel_rfl, fun X hX => Or.inl ?_⟩) (by assumption) ?_
  rotate_left
  · first | (go_simp; done) | (go_simp; with_reducible rfl)
  (try simp only [Act.put]); (try simp only [List.setIfInBounds_toArray]); (try simp only [List.set_cons_succ]); (try simp only [List.set_cons_zero])
  refine wpAnyH_ready (rs := [12]) (by kernel_rfl) (by simp) ?_
  refine AllReadyH.cons rfl (fun K hK => ?_) AllReadyH.nil
  rw [if_pos (by kernel_rfl)]
  go_simp
  refine (HFD.out w3 (HG.out.fr hHeld (fun _ _ => id))).mono ?_
  rintro ex w4 ⟨rfl, hF4⟩
  have R4 : Hid (Row w4 w.heap.size 24 .u8 (List.replicate 32 0)) := Lib.hid (R3.out.fr hF4 id)
  have F4' := Lib.hid hF4
  clear hF4
  refine hK.out _ _ (hHeld.trans F4'.out) (fun hHeld => ?_)
  clear hK K
  (try simp only [Act.put]); (try simp only [List.setIfInBounds_toArray]); (try simp only [List.set_cons_succ]); (try simp only [List.set_cons_zero])
  refine wpAnyH_ready (rs := [13]) (by kernel_rfl) (by simp) ?_
  refine AllReadyH.cons rfl (fun K hK => ?_) AllReadyH.nil
  rw [if_pos (by kernel_rfl)]
  go_simp
  refine (HHA.out w4).mono ?_
  rintro ex w5 ⟨rfl, hF5⟩
  have R5 : Hid (Row w5 w.heap.size 24 .u8 (List.replicate 32 0)) := Lib.hid (R4.out.fr hF5 id)
  have F5' := Lib.hid hF5
  clear hF5
  refine hK.out _ _ (hHeld.trans F5'.out) (fun hHeld => ?_)
  clear hK K
  (try simp only [Act.put]); (try simp only [List.setIfInBounds_toArray]); (try simp only [List.set_cons_succ]); (try simp only [List.set_cons_zero])
  refine wpAnyH_ready (rs := [14]) (by kernel_rfl) (by simp) ?_
  refine AllReadyH.cons rfl (fun K hK => ?_) AllReadyH.nil
  rw [if_pos (by kernel_rfl)]
  refine wp_store_row 24 _ _ rfl w.heap.size rfl (arr .u8 D) rfl R5.out arHash (by rfl) (by rw [arr_size]; exact HDL.out) (arr_one _ _) ?_
  refine hK.out _ _ (fr_setRow hHeld (.inr (Nat.le_refl _)) _) (fun hHeld => ?_)
  clear hK K
  (try simp only [Act.put]); (try simp only [List.setIfInBounds_toArray]); (try simp only [List.set_cons_succ]); (try simp only [List.set_cons_zero])
  refine wpAnyH_done (by kernel_rfl) ?_ _
  have hY := Lib.hid ((R5.out.setRow (l' := D)).loadVar arHash HDL.out)
  have HH6 := Lib.hid hHeld
  generalize w5.setRow w.heap.size (arr .u8 D) = w6 at *
  clear hHeld
  go_wp2
  exact bodyPost_ret (results_cell1 rfl rfl hY.out) rfl ⟨rfl, HH6.out⟩
end Go.Proofs.YthanfcmpaofggaaDoor
