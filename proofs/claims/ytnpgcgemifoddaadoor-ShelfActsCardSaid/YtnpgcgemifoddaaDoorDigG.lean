/- The sum of a text, as the program has it. -/
import Derived.Test.YtnpgcgemifoddaaDoorDigF
namespace Go.Proofs.YtnpgcgemifoddaaDoor
open Go.RowKit
set_option linter.unusedVariables false

theorem padded_le (s : List UInt8) (h : s.length ≤ 90000) : (padded s).length ≤ 100000 := by rw [padded_len]; omega

set_option maxHeartbeats 1000000 in
set_option maxRecDepth 100000 in
theorem sum_any (s : List UInt8) (w : World) (hs : s.length ≤ 90000) (hg : Gl w) :
    Calls Tryd.prog 35 #[.string (str s)] w fun ex w' => ex = .returned (.agg (arr .u8 (sumL s))) ∧ Fr No w w' := by
  have HG := Lib.hid hg
  have HS := Lib.hid hs
  clear hg hs
  obtain ⟨Z, hZ⟩ : ∃ Z, Z = H0 := ⟨_, rfl⟩
  obtain ⟨PD, hPD⟩ : ∃ PD, PD = padded s := ⟨_, rfl⟩
  obtain ⟨V, hV⟩ : ∃ V, V = foldL Z PD (PD.length / 64) := ⟨_, rfl⟩
  obtain ⟨D, hD⟩ : ∃ D, D = hashL V 32 := ⟨_, rfl⟩
  have HZ : Hid (Z.length = 8 ∧ Ws Z) := Lib.hid (by rw [hZ]; exact ⟨rfl, H0_ws⟩)
  have HPD : Hid (PD = padded s ∧ PD.length ≤ 100000) := Lib.hid ⟨hPD, by rw [hPD]; exact padded_le s HS.out⟩
  have HV2 : Hid (V.length = 8 ∧ Ws V) := Lib.hid (by rw [hV]; exact ⟨(foldL_len _ _ _).trans HZ.out.1, foldL_ws _ HZ.out.2 _⟩)
  have HD : Hid (D = hashL V 32 ∧ D = sumL s ∧ D.length = 32) := Lib.hid ⟨hD, by rw [hD, hV, hPD, hZ]; rfl, by rw [hD]; exact hashL_len _ _⟩
  have HV := Lib.hid hV
  clear hPD hV hD
  rw [← HD.out.2.1]
  go_enter Tryd.func35, Tryd.ntmps35
  go_wp2_with fail
  refine wp_world (fun W => Fr No w W ∧ Row W w.heap.size 27 .u8 (List.replicate 32 0)) ⟨(Fr.refl No w).alloc _, Row.new w 27 .u8 (List.replicate 32 0)⟩ ?_
  rintro W1 ⟨hF, h1⟩
  have HF := Lib.hid hF
  have H1 := Lib.hid h1
  clear hF h1
  have HLD : Hid (∀ X, Fr No w X → (Instr.loadAt 85 (.pointer (some ⟨0, 0, none⟩))).run Tryd.prog X = .ok (.agg (arr .u32 Z)) X) := Lib.hid (fun X hX => by rw [hZ]; exact (HG.out.fr hX (fun _ _ => id)).load)
  clear hZ
  refine wp_region_held_drew (S := (fun X => Fr No w X)) (by kernel_rfl) (HF.out.drew) (fun hHeld => ?_)
  refine takeD (i := 0) (d := some 3) (v := .agg (arr .u32 Z)) rfl (by kernel_rfl) (by kernel_rfl) (by kernel_rfl) (by kernel_rfl) (fun _ _ _ h => h) (Or.inl ⟨by kernel_rfl, fun X hX => Or.inl (exec_load 85 (.global 0) rfl _ _ rfl (HLD.out X hX))⟩) (by assumption) ?_
  (try simp only [Act.put]); (try simp only [List.setIfInBounds_toArray]); (try simp only [List.set_cons_succ]); (try simp only [List.set_cons_zero])
  refine takeD (i := 1) (d := some 4) (v := ?_) rfl (by kernel_rfl) (by kernel_rfl) (by kernel_rfl) (by kernel_rfl) (fun _ _ _ h => h) (Or.inl ⟨by kernel_rfl, fun X hX => Or.inl ?_⟩) (by assumption) ?_
  rotate_left
  · first | (go_simp; done) | (go_simp; with_reducible rfl)
  (try simp only [Act.put]); (try simp only [List.setIfInBounds_toArray]); (try simp only [List.set_cons_succ]); (try simp only [List.set_cons_zero])
  refine wpAnyH_ready (rs := [2]) (by kernel_rfl) (by simp) ?_
  refine AllReadyH.cons rfl (fun K hK => ?_) AllReadyH.nil
  rw [if_pos (by kernel_rfl)]
  go_simp
  have hpa := fun X => pad_any s X HS.out
  rw [← HPD.out.1] at hpa
  refine (hpa _).mono ?_
  clear hpa
  rintro ex w2 ⟨rfl, hF2⟩
  have G2 : Hid (Gl w2) := Lib.hid (HG.out.fr (HF.out.drew.trans hF2) (fun _ _ => id))
  have R2 : Hid (Row w2 w.heap.size 27 .u8 (List.replicate 32 0)) := Lib.hid (Row.fr (w := W1.drew) H1.out hF2 id)
  have F2 := Lib.hid hF2
  clear hF2
  refine hK.out _ _ (hHeld.trans F2.out) (fun hHeld => ?_)
  clear hK K
  (try simp only [Act.put]); (try simp only [List.setIfInBounds_toArray]); (try simp only [List.set_cons_succ]); (try simp only [List.set_cons_zero])
  refine wpAnyH_ready (rs := [3]) (by kernel_rfl) (by simp) ?_
  refine AllReadyH.cons rfl (fun K hK => ?_) AllReadyH.nil
  rw [if_pos (by kernel_rfl)]
  go_simp
  have hfo := folded_any Z PD w2 HZ.out.1 HZ.out.2 G2.out HPD.out.2
  rw [← HV.out] at hfo
  refine hfo.mono ?_
  clear hfo
  rintro ex w3 ⟨rfl, hF3⟩
  have R3 : Hid (Row w3 w.heap.size 27 .u8 (List.replicate 32 0)) := Lib.hid (R2.out.fr hF3 id)
  have F3 := Lib.hid hF3
  clear hF3
  refine hK.out _ _ (hHeld.trans F3.out) (fun hHeld => ?_)
  clear hK K
  (try simp only [Act.put]); (try simp only [List.setIfInBounds_toArray]); (try simp only [List.set_cons_succ]); (try simp only [List.set_cons_zero])
  refine wpAnyH_ready (rs := [4]) (by kernel_rfl) (by simp) ?_
  refine AllReadyH.cons rfl (fun K hK => ?_) AllReadyH.nil
  rw [if_pos (by kernel_rfl)]
  go_simp
  have hho := hashof_any V w3 HV2.out.1 HV2.out.2
  rw [← HD.out.1] at hho
  refine hho.mono ?_
  clear hho
  rintro ex w4 ⟨rfl, hF4⟩
  have R4 : Hid (Row w4 w.heap.size 27 .u8 (List.replicate 32 0)) := Lib.hid (R3.out.fr hF4 id)
  have F4 := Lib.hid hF4
  clear hF4
  refine hK.out _ _ (hHeld.trans F4.out) (fun hHeld => ?_)
  clear hK K
  (try simp only [Act.put]); (try simp only [List.setIfInBounds_toArray]); (try simp only [List.set_cons_succ]); (try simp only [List.set_cons_zero])
  refine wpAnyH_ready (rs := [5]) (by kernel_rfl) (by simp) ?_
  refine AllReadyH.cons rfl (fun K hK => ?_) AllReadyH.nil
  rw [if_pos (by kernel_rfl)]
  refine wp_store_row 27 _ _ rfl w.heap.size rfl (arr .u8 D) rfl R4.out arHash (by rfl) (by rw [arr_size]; exact HD.out.2.2) (arr_one _ _) ?_
  refine hK.out _ _ (fr_setRow hHeld (.inr (Nat.le_refl _)) _) (fun hHeld => ?_)
  clear hK K
  (try simp only [Act.put]); (try simp only [List.setIfInBounds_toArray]); (try simp only [List.set_cons_succ]); (try simp only [List.set_cons_zero])
  refine wpAnyH_done (by kernel_rfl) ?_ _
  have hR := Lib.hid ((R4.out.setRow (l' := D)).loadVar arHash HD.out.2.2)
  have HH6 := Lib.hid hHeld
  generalize w4.setRow w.heap.size (arr .u8 D) = w6 at *
  clear hHeld
  go_wp2
  exact bodyPost_ret (results_cell1 rfl rfl hR.out) rfl ⟨rfl, HH6.out⟩
end Go.Proofs.YtnpgcgemifoddaaDoor
