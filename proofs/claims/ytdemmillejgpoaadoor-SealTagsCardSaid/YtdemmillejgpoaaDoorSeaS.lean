/- The document's tags and hashes. -/
import Derived.Test.YtdemmillejgpoaaDoorSeaR
namespace Go.Proofs.YtdemmillejgpoaaDoor
open Go.RowKit
set_option linter.unusedVariables false

set_option maxHeartbeats 1000000 in
set_option maxRecDepth 100000 in
theorem rof_any (p : List Nat) (w : World) (hp : p.length = 32) (h8 : B8 p) :
    Calls Tryd.prog 9 #[.agg (arr .u8 p)] w fun ex w' => ex = .returned (.agg (arr .u8 (ofL p))) ∧ Fr No w w' := by
  obtain ⟨D, hD⟩ : ∃ D, D = ofL p := ⟨_, rfl⟩
  obtain ⟨b, hb⟩ : ∃ b, b = bn p := ⟨_, rfl⟩
  have hs := fun X => rsum_any b X (by rw [hb, bn, List.length_map]; omega)
  rw [show sumL b = D by rw [hD, hb]; rfl] at hs
  have HS := Lib.hid hs
  have HDL : Hid (D.length = 32) := Lib.hid (by rw [hD]; exact ofL_len _)
  have HP := Lib.hid hp
  have H8 := Lib.hid h8
  have HB := Lib.hid hb
  rw [← hD]
  clear hD hb hs hp h8
  go_enter Tryd.func9, Tryd.ntmps9
  go_wp2_with (refine wpList_convert_eq rfl 31 9 _ rfl _ (.string (str b)) rfl (by rw [HB.out]; exact conv_row 32 (Row.alloc (Row.new w 23 .u8 p) _) HP.out H8.out) ?_)
  refine (HS.out _).mono ?_
  rintro ex w2 ⟨rfl, hF⟩
  have R1 : Hid (Row w2 (w.heap.size + 1) 23 .u8 (List.replicate 32 0)) := Lib.hid (Row.fr (Row.new2 w _ 23 .u8 (List.replicate 32 0)) hF id)
  have HF := Lib.hid ((((Fr.refl No w).alloc _).alloc _).trans hF)
  clear hF
  go_wp2_with (refine wpList_store_row rfl 23 _ _ rfl (w.heap.size + 1) rfl (arr .u8 D) rfl R1.out arHash (by rfl) (by rw [arr_size]; exact HDL.out) (arr_one _ _) ?_
               refine wpList_world (fun W => Fr No w W ∧ Row W (w.heap.size + 1) 23 .u8 D) ⟨fr_setRow HF.out (.inr (Nat.le_succ _)) _, R1.out.setRow⟩ ?_
               rintro w3 ⟨hF3, hR3⟩
               have HF3 := Lib.hid hF3
               have HR := Lib.hid (hR3.loadVar arHash HDL.out)
               clear hF3 hR3)
  exact bodyPost_ret (results_cell1 rfl rfl HR.out) rfl ⟨rfl, HF3.out⟩

set_option maxHeartbeats 1000000 in
set_option maxRecDepth 100000 in
theorem rtag_short (k s : List UInt8) (w : World) (hk0 : k.length ≤ 64) (hs : s.length ≤ 80000) :
    Calls Tryd.prog 8 #[.string (str k), .string (str s)] w fun ex w' => ex = .returned (.agg (arr .u8 (tagL k s))) ∧ Fr No w w' := by
  obtain ⟨K, hK⟩ : ∃ K, K = keyL k := ⟨_, rfl⟩
  have hKl : K.length ≤ 64 := by rw [hK]; exact keyL_le k
  obtain ⟨MI, hMI⟩ : ∃ MI, MI = mixL K 54 := ⟨_, rfl⟩
  obtain ⟨MO, hMO⟩ : ∃ MO, MO = mixL K 92 := ⟨_, rfl⟩
  obtain ⟨I, hI⟩ : ∃ I, I = innerL k s := ⟨_, rfl⟩
  obtain ⟨IB, hIB⟩ : ∃ IB, IB = bn I := ⟨_, rfl⟩
  obtain ⟨T, hT⟩ : ∃ T, T = tagL k s := ⟨_, rfl⟩
  obtain ⟨O1, hO1⟩ : ∃ O1, O1 = MI ++ s := ⟨_, rfl⟩
  obtain ⟨O2, hO2⟩ : ∃ O2, O2 = MO ++ IB := ⟨_, rfl⟩
  obtain ⟨n, hn⟩ : ∃ n, n = s.length := ⟨_, rfl⟩
  obtain ⟨kn, hkn⟩ : ∃ kn, kn = k.length := ⟨_, rfl⟩
  have hIl : I.length = 32 := by rw [hI]; exact sumL_len _
  have hIBl : IB.length = 32 := by rw [hIB, bn, List.length_map, hIl]
  have hMIl : MI.length = 64 := by rw [hMI]; exact mixL_len 54 hKl
  have hMOl : MO.length = 64 := by rw [hMO]; exact mixL_len 92 hKl
  have HTL : Hid (T.length = 32) := Lib.hid (by rw [hT]; exact tagL_len _ _)
  have hI1 : I = sumL O1 := by rw [hI, innerL, ← hK, ← hMI, ← hO1]
  have hT2 : T = sumL O2 := by rw [hT, tagL, ← hK, ← hMO, ← hI, hO2, hIB]
  have hsz0 : (str k).size = kn := by rw [str_size, hkn]
  have hsz1 : (str MI).size = 64 := by rw [str_size, hMIl]
  have hsz2 : (str s).size = n := by rw [str_size, hn]
  have hsz3 : (str MO).size = 64 := by rw [str_size, hMOl]
  have hsz4 : (str IB).size = 32 := by rw [str_size, hIBl]
  have hn8 : (n : Int) ≤ 80000 := by omega
  have hcat1 : str MI ++ str s = str O1 := by rw [str_append, hO1]
  have hcat2 : str MO ++ str IB = str O2 := by rw [str_append, hO2]
  have HM1 : Hid (∀ X, Calls Tryd.prog 16 #[.string (str K), .int .u8 54] X fun ex w' => ex = .returned (.string (str MI)) ∧ Fr No X w') := Lib.hid (fun X => by rw [hMI]; exact rmixed_any K 54 X hKl)
  have HM2 : Hid (∀ X, Calls Tryd.prog 16 #[.string (str K), .int .u8 92] X fun ex w' => ex = .returned (.string (str MO)) ∧ Fr No X w') := Lib.hid (fun X => by rw [hMO]; exact rmixed_any K 92 X hKl)
  have HS1 : Hid (∀ X, Calls Tryd.prog 15 #[.string (str O1)] X fun ex w' => ex = .returned (.agg (arr .u8 I)) ∧ Fr No X w') := Lib.hid (fun X => by rw [hI1]; exact rsum_any O1 X (by rw [hO1, List.length_append]; omega))
  have HS2 : Hid (∀ X, Calls Tryd.prog 15 #[.string (str O2)] X fun ex w' => ex = .returned (.agg (arr .u8 T)) ∧ Fr No X w') := Lib.hid (fun X => by rw [hT2]; exact rsum_any O2 X (by rw [hO2, List.length_append]; omega))
  have HIL := Lib.hid hIl
  have HCV : Hid (∀ X g, Row X g 23 .u8 I → (convert 31 9 (.slice (some ⟨g, 0, none⟩) 32 32)).run Tryd.prog X = .ok (.string (str IB)) X) := Lib.hid (fun X g hR => by rw [hIB]; exact conv_row 32 hR hIl (by rw [hI]; exact sumL_b8 _))
  have hb : ¬ (64 : Int) < (kn : Int) := by omega
  have HKK : Hid (K = k) := Lib.hid (by rw [hK, keyL_short hk0])
  rw [← hT]
  rw [HKK.out] at HM1 HM2
  clear hK hKl hMI hMO hI hIB hT hO1 hO2 hn hIl hIBl hMIl hMOl hI1 hT2 hs hk0 hkn HKK
  go_enter Tryd.func8, Tryd.ntmps8
  go_wp2_with fail
  refine (HM1.out _).mono ?_
  rintro ex w3 ⟨rfl, hF⟩
  have R3 : Hid (Row w3 w.heap.size 23 .u8 (List.replicate 32 0)) := Lib.hid (Row.fr (Row.new w 23 .u8 (List.replicate 32 0)) hF id)
  have F3 := Lib.hid (((Fr.refl No w).alloc _).trans hF)
  clear hF
  go_wp2_with fail
  refine (HS1.out _).mono ?_
  rintro ex w4 ⟨rfl, hF⟩
  have R4 : Hid (Row w4 w.heap.size 23 .u8 (List.replicate 32 0)) := Lib.hid (R3.out.fr hF id)
  have F4 := Lib.hid (F3.out.trans hF)
  clear hF
  go_wp2_with (refine wpList_store_row rfl 23 _ _ rfl w4.heap.size rfl (arr .u8 I) rfl (Row.new w4 23 .u8 (List.replicate 32 0)) arHash (by rfl) (by rw [arr_size]; exact HIL.out) (arr_one _ _) ?_
               refine wpList_world (fun W => Fr No w W ∧ Row W w.heap.size 23 .u8 (List.replicate 32 0) ∧ Row W w4.heap.size 23 .u8 I) ⟨fr_setRow (F4.out.alloc _) (.inr F4.out.size) _, Row.setRow_o (R4.out.alloc _) (Nat.ne_of_lt R4.out.lt) _, (Row.new w4 23 .u8 (List.replicate 32 0)).setRow⟩ ?_
               rintro w5 ⟨hF, hR, hQ⟩
               have F5 := Lib.hid hF
               have R5 := Lib.hid hR
               have CV5 : Hid (∀ X, Fr (fun k => k = w.heap.size) w5 X → (convert 31 9 (.slice (some ⟨w4.heap.size, 0, none⟩) 32 32)).run Tryd.prog X = .ok (.string (str IB)) X) := Lib.hid (fun X hX => HCV.out X _ (hQ.fr hX (by show ¬ _ = _; have := R4.out.lt; omega)))
               clear hF hR hQ)
  refine wp_region_held_drew (S := (fun X => Fr (fun k => k = w.heap.size) w5 X)) (by kernel_rfl) ((Fr.refl _ w5).drew) (fun hHeld => ?_)
  refine takeD (i := 0) (d := some 21) (v := ?_) rfl (by kernel_rfl) (by kernel_rfl) (by kernel_rfl) (by kernel_rfl) (fun _ _ _ h => h) (Or.inl ⟨by kernel_rfl, fun X hX => Or.inl ?_⟩) (by assumption) ?_
  rotate_left
  · first | (go_simp; done) | (go_simp; with_reducible rfl)
  (try simp only [Act.put]); (try simp only [List.setIfInBounds_toArray]); (try simp only [List.set_cons_succ]); (try simp only [List.set_cons_zero])
  refine takeD (i := 2) (d := some 23) (v := ?_) rfl (by kernel_rfl) (by kernel_rfl) (by kernel_rfl) (by kernel_rfl) (fun _ _ _ h => h) (Or.inl ⟨by kernel_rfl, fun X hX => Or.inl ?_⟩) (by assumption) ?_
  rotate_left
  · first | (go_simp; done) | (go_simp; with_reducible rfl)
  (try simp only [Act.put]); (try simp only [List.setIfInBounds_toArray]); (try simp only [List.set_cons_succ]); (try simp only [List.set_cons_zero])
  refine takeD (i := 3) (d := some 24) (v := .string (str IB)) rfl (by kernel_rfl) (by kernel_rfl) (by kernel_rfl) (by kernel_rfl) (fun _ _ _ h => h) (Or.inl ⟨by kernel_rfl, fun X hX => Or.inl (exec_convert 31 9 (.tmp 23) rfl _ _ rfl (CV5.out X hX))⟩) (by assumption) ?_
  (try simp only [Act.put]); (try simp only [List.setIfInBounds_toArray]); (try simp only [List.set_cons_succ]); (try simp only [List.set_cons_zero])
  refine wpAnyH_ready (rs := [1]) (by kernel_rfl) (by simp) ?_
  refine AllReadyH.cons rfl (fun K hK => ?_) AllReadyH.nil
  rw [if_pos (by kernel_rfl)]
  go_simp
  refine (HM2.out _).mono ?_
  rintro ex w6 ⟨rfl, hF6⟩
  have R6 : Hid (Row w6 w.heap.size 23 .u8 (List.replicate 32 0)) := Lib.hid (Row.fr (w := w5.drew) R5.out hF6 id)
  have F6 := Lib.hid (hHeld.trans (hF6.mono (fun _ _ h => h.elim)))
  clear hF6
  refine hK.out _ _ (F6.out) (fun hHeld => ?_)
  clear hK K
  (try simp only [Act.put]); (try simp only [List.setIfInBounds_toArray]); (try simp only [List.set_cons_succ]); (try simp only [List.set_cons_zero])
  refine takeD (i := 4) (d := some 25) (v := ?_) rfl (by kernel_rfl) (by kernel_rfl) (by kernel_rfl) (by kernel_rfl) (fun _ _ _ h => h) (Or.inl ⟨by kernel_rfl, fun X hX => Or.inl ?_⟩) (by assumption) ?_
  rotate_left
  · first | (go_simp; done) | (go_simp; with_reducible rfl)
  (try simp only [Act.put]); (try simp only [List.setIfInBounds_toArray]); (try simp only [List.set_cons_succ]); (try simp only [List.set_cons_zero])
  refine wpAnyH_ready (rs := [5]) (by kernel_rfl) (by simp) ?_
  refine AllReadyH.cons rfl (fun K hK => ?_) AllReadyH.nil
  rw [if_pos (by kernel_rfl)]
  go_simp
  refine (HS2.out w6).mono ?_
  rintro ex w7 ⟨rfl, hF7⟩
  have R7 : Hid (Row w7 w.heap.size 23 .u8 (List.replicate 32 0)) := Lib.hid (R6.out.fr hF7 id)
  have F7 := Lib.hid (F6.out.trans (hF7.mono (fun _ _ h => h.elim)))
  clear hF7
  refine hK.out _ _ (F7.out) (fun hHeld => ?_)
  clear hK K
  (try simp only [Act.put]); (try simp only [List.setIfInBounds_toArray]); (try simp only [List.set_cons_succ]); (try simp only [List.set_cons_zero])
  refine wpAnyH_ready (rs := [6]) (by kernel_rfl) (by simp) ?_
  refine AllReadyH.cons rfl (fun K hK => ?_) AllReadyH.nil
  rw [if_pos (by kernel_rfl)]
  refine wp_store_row 23 _ _ rfl w.heap.size rfl (arr .u8 T) rfl R7.out arHash (by rfl) (by rw [arr_size]; exact HTL.out) (arr_one _ _) ?_
  refine hK.out _ _ (fr_setRow hHeld (.inl rfl) _) (fun hHeld => ?_)
  clear hK K
  (try simp only [Act.put]); (try simp only [List.setIfInBounds_toArray]); (try simp only [List.set_cons_succ]); (try simp only [List.set_cons_zero])
  refine wpAnyH_done (by kernel_rfl) ?_ _
  have hY := Lib.hid ((R7.out.setRow (l' := T)).loadVar arHash HTL.out)
  have HH : Hid (Fr No w (w7.setRow w.heap.size (arr .u8 T))) := Lib.hid (F5.out.trans' hHeld (fun k hk e => by omega))
  generalize w7.setRow w.heap.size (arr .u8 T) = w8 at *
  clear hHeld
  go_wp2
  exact bodyPost_ret (results_cell1 rfl rfl hY.out) rfl ⟨rfl, HH.out⟩

set_option maxHeartbeats 1000000 in
set_option maxRecDepth 100000 in
theorem rtag_long (k s : List UInt8) (w : World) (hk0 : 64 < k.length) (hk : k.length ≤ 90000) (hs : s.length ≤ 80000) :
    Calls Tryd.prog 8 #[.string (str k), .string (str s)] w fun ex w' => ex = .returned (.agg (arr .u8 (tagL k s))) ∧ Fr No w w' := by
  obtain ⟨K, hK⟩ : ∃ K, K = keyL k := ⟨_, rfl⟩
  have hKl : K.length ≤ 64 := by rw [hK]; exact keyL_le k
  obtain ⟨MI, hMI⟩ : ∃ MI, MI = mixL K 54 := ⟨_, rfl⟩
  obtain ⟨MO, hMO⟩ : ∃ MO, MO = mixL K 92 := ⟨_, rfl⟩
  obtain ⟨I, hI⟩ : ∃ I, I = innerL k s := ⟨_, rfl⟩
  obtain ⟨IB, hIB⟩ : ∃ IB, IB = bn I := ⟨_, rfl⟩
  obtain ⟨T, hT⟩ : ∃ T, T = tagL k s := ⟨_, rfl⟩
  obtain ⟨O1, hO1⟩ : ∃ O1, O1 = MI ++ s := ⟨_, rfl⟩
  obtain ⟨O2, hO2⟩ : ∃ O2, O2 = MO ++ IB := ⟨_, rfl⟩
  obtain ⟨n, hn⟩ : ∃ n, n = s.length := ⟨_, rfl⟩
  obtain ⟨kn, hkn⟩ : ∃ kn, kn = k.length := ⟨_, rfl⟩
  have hIl : I.length = 32 := by rw [hI]; exact sumL_len _
  have hIBl : IB.length = 32 := by rw [hIB, bn, List.length_map, hIl]
  have hMIl : MI.length = 64 := by rw [hMI]; exact mixL_len 54 hKl
  have hMOl : MO.length = 64 := by rw [hMO]; exact mixL_len 92 hKl
  have HTL : Hid (T.length = 32) := Lib.hid (by rw [hT]; exact tagL_len _ _)
  have hI1 : I = sumL O1 := by rw [hI, innerL, ← hK, ← hMI, ← hO1]
  have hT2 : T = sumL O2 := by rw [hT, tagL, ← hK, ← hMO, ← hI, hO2, hIB]
  have hsz0 : (str k).size = kn := by rw [str_size, hkn]
  have hsz1 : (str MI).size = 64 := by rw [str_size, hMIl]
  have hsz2 : (str s).size = n := by rw [str_size, hn]
  have hsz3 : (str MO).size = 64 := by rw [str_size, hMOl]
  have hsz4 : (str IB).size = 32 := by rw [str_size, hIBl]
  have hn8 : (n : Int) ≤ 80000 := by omega
  have hcat1 : str MI ++ str s = str O1 := by rw [str_append, hO1]
  have hcat2 : str MO ++ str IB = str O2 := by rw [str_append, hO2]
  have HM1 : Hid (∀ X, Calls Tryd.prog 16 #[.string (str K), .int .u8 54] X fun ex w' => ex = .returned (.string (str MI)) ∧ Fr No X w') := Lib.hid (fun X => by rw [hMI]; exact rmixed_any K 54 X hKl)
  have HM2 : Hid (∀ X, Calls Tryd.prog 16 #[.string (str K), .int .u8 92] X fun ex w' => ex = .returned (.string (str MO)) ∧ Fr No X w') := Lib.hid (fun X => by rw [hMO]; exact rmixed_any K 92 X hKl)
  have HS1 : Hid (∀ X, Calls Tryd.prog 15 #[.string (str O1)] X fun ex w' => ex = .returned (.agg (arr .u8 I)) ∧ Fr No X w') := Lib.hid (fun X => by rw [hI1]; exact rsum_any O1 X (by rw [hO1, List.length_append]; omega))
  have HS2 : Hid (∀ X, Calls Tryd.prog 15 #[.string (str O2)] X fun ex w' => ex = .returned (.agg (arr .u8 T)) ∧ Fr No X w') := Lib.hid (fun X => by rw [hT2]; exact rsum_any O2 X (by rw [hO2, List.length_append]; omega))
  have HIL := Lib.hid hIl
  have HCV : Hid (∀ X g, Row X g 23 .u8 I → (convert 31 9 (.slice (some ⟨g, 0, none⟩) 32 32)).run Tryd.prog X = .ok (.string (str IB)) X) := Lib.hid (fun X g hR => by rw [hIB]; exact conv_row 32 hR hIl (by rw [hI]; exact sumL_b8 _))
  have hb : (64 : Int) < (kn : Int) := by omega
  obtain ⟨D, hD⟩ : ∃ D, D = sumL k := ⟨_, rfl⟩
  have hDl : D.length = 32 := by rw [hD]; exact sumL_len _
  have HDL := Lib.hid hDl
  have HS0 : Hid (∀ X, Calls Tryd.prog 15 #[.string (str k)] X fun ex w' => ex = .returned (.agg (arr .u8 D)) ∧ Fr No X w') := Lib.hid (fun X => by rw [hD]; exact rsum_any k X hk)
  have HCV0 : Hid (∀ X g, Row X g 23 .u8 D → (convert 31 9 (.slice (some ⟨g, 0, none⟩) 32 32)).run Tryd.prog X = .ok (.string (str K)) X) := Lib.hid (fun X g hR => by rw [hK, keyL_long hk0, ← hD]; exact conv_row 32 hR hDl (by rw [hD]; exact sumL_b8 _))
  rw [← hT]
  clear hK hKl hMI hMO hI hIB hT hO1 hO2 hn hIl hIBl hMIl hMOl hI1 hT2 hk hs hk0 hkn hD hDl
  go_enter Tryd.func8, Tryd.ntmps8
  go_wp2_with fail
  refine (HS0.out _).mono ?_
  rintro ex w0 ⟨rfl, hF⟩
  have R0 : Hid (Row w0 w.heap.size 23 .u8 (List.replicate 32 0)) := Lib.hid (Row.fr (Row.new w 23 .u8 (List.replicate 32 0)) hF id)
  have F0 := Lib.hid (((Fr.refl No w).alloc _).trans hF)
  clear hF
  go_wp2_with (first
    | (refine wpList_store_row rfl 23 _ _ rfl w0.heap.size rfl (arr .u8 D) rfl (Row.new w0 23 .u8 (List.replicate 32 0)) arHash (by rfl) (by rw [arr_size]; exact HDL.out) (arr_one _ _) ?_
       refine wpList_world (fun W => Fr No w W ∧ Row W w.heap.size 23 .u8 (List.replicate 32 0) ∧ Row W w0.heap.size 23 .u8 D) ⟨fr_setRow (F0.out.alloc _) (.inr F0.out.size) _, Row.setRow_o (R0.out.alloc _) (Nat.ne_of_lt R0.out.lt) _, (Row.new w0 23 .u8 (List.replicate 32 0)).setRow⟩ ?_
       rintro w1 ⟨hF, hR, hQ⟩
       have F1 := Lib.hid hF
       have R1 := Lib.hid hR
       have CV1 := Lib.hid (HCV0.out _ _ hQ)
       clear hF hR hQ)
    | (refine wpList_convert_eq rfl 31 9 _ rfl _ (.string (str K)) rfl CV1.out ?_))
  refine (HM1.out _).mono ?_
  rintro ex w3 ⟨rfl, hF⟩
  have R3 : Hid (Row w3 w.heap.size 23 .u8 (List.replicate 32 0)) := Lib.hid (R1.out.fr hF id)
  have F3 := Lib.hid (F1.out.trans hF)
  clear hF
  go_wp2_with fail
  refine (HS1.out _).mono ?_
  rintro ex w4 ⟨rfl, hF⟩
  have R4 : Hid (Row w4 w.heap.size 23 .u8 (List.replicate 32 0)) := Lib.hid (R3.out.fr hF id)
  have F4 := Lib.hid (F3.out.trans hF)
  clear hF
  go_wp2_with (refine wpList_store_row rfl 23 _ _ rfl w4.heap.size rfl (arr .u8 I) rfl (Row.new w4 23 .u8 (List.replicate 32 0)) arHash (by rfl) (by rw [arr_size]; exact HIL.out) (arr_one _ _) ?_
               refine wpList_world (fun W => Fr No w W ∧ Row W w.heap.size 23 .u8 (List.replicate 32 0) ∧ Row W w4.heap.size 23 .u8 I) ⟨fr_setRow (F4.out.alloc _) (.inr F4.out.size) _, Row.setRow_o (R4.out.alloc _) (Nat.ne_of_lt R4.out.lt) _, (Row.new w4 23 .u8 (List.replicate 32 0)).setRow⟩ ?_
               rintro w5 ⟨hF, hR, hQ⟩
               have F5 := Lib.hid hF
               have R5 := Lib.hid hR
               have CV5 : Hid (∀ X, Fr (fun k => k = w.heap.size) w5 X → (convert 31 9 (.slice (some ⟨w4.heap.size, 0, none⟩) 32 32)).run Tryd.prog X = .ok (.string (str IB)) X) := Lib.hid (fun X hX => HCV.out X _ (hQ.fr hX (by show ¬ _ = _; have := R4.out.lt; omega)))
               clear hF hR hQ)
  refine wp_region_held_drew (S := (fun X => Fr (fun k => k = w.heap.size) w5 X)) (by kernel_rfl) ((Fr.refl _ w5).drew) (fun hHeld => ?_)
  refine takeD (i := 0) (d := some 21) (v := ?_) rfl (by kernel_rfl) (by kernel_rfl) (by kernel_rfl) (by kernel_rfl) (fun _ _ _ h => h) (Or.inl ⟨by kernel_rfl, fun X hX => Or.inl ?_⟩) (by assumption) ?_
  rotate_left
  · first | (go_simp; done) | (go_simp; with_reducible rfl)
  (try simp only [Act.put]); (try simp only [List.setIfInBounds_toArray]); (try simp only [List.set_cons_succ]); (try simp only [List.set_cons_zero])
  refine takeD (i := 2) (d := some 23) (v := ?_) rfl (by kernel_rfl) (by kernel_rfl) (by kernel_rfl) (by kernel_rfl) (fun _ _ _ h => h) (Or.inl ⟨by kernel_rfl, fun X hX => Or.inl ?_⟩) (by assumption) ?_
  rotate_left
  · first | (go_simp; done) | (go_simp; with_reducible rfl)
  (try simp only [Act.put]); (try simp only [List.setIfInBounds_toArray]); (try simp only [List.set_cons_succ]); (try simp only [List.set_cons_zero])
  refine takeD (i := 3) (d := some 24) (v := .string (str IB)) rfl (by kernel_rfl) (by kernel_rfl) (by kernel_rfl) (by kernel_rfl) (fun _ _ _ h => h) (Or.inl ⟨by kernel_rfl, fun X hX => Or.inl (exec_convert 31 9 (.tmp 23) rfl _ _ rfl (CV5.out X hX))⟩) (by assumption) ?_
  (try simp only [Act.put]); (try simp only [List.setIfInBounds_toArray]); (try simp only [List.set_cons_succ]); (try simp only [List.set_cons_zero])
  refine wpAnyH_ready (rs := [1]) (by kernel_rfl) (by simp) ?_
  refine AllReadyH.cons rfl (fun K hK => ?_) AllReadyH.nil
  rw [if_pos (by kernel_rfl)]
  go_simp
  refine (HM2.out _).mono ?_
  rintro ex w6 ⟨rfl, hF6⟩
  have R6 : Hid (Row w6 w.heap.size 23 .u8 (List.replicate 32 0)) := Lib.hid (Row.fr (w := w5.drew) R5.out hF6 id)
  have F6 := Lib.hid (hHeld.trans (hF6.mono (fun _ _ h => h.elim)))
  clear hF6
  refine hK.out _ _ (F6.out) (fun hHeld => ?_)
  clear hK K
  (try simp only [Act.put]); (try simp only [List.setIfInBounds_toArray]); (try simp only [List.set_cons_succ]); (try simp only [List.set_cons_zero])
  refine takeD (i := 4) (d := some 25) (v := ?_) rfl (by kernel_rfl) (by kernel_rfl) (by kernel_rfl) (by kernel_rfl) (fun _ _ _ h => h) (Or.inl ⟨by kernel_rfl, fun X hX => Or.inl ?_⟩) (by assumption) ?_
  rotate_left
  · first | (go_simp; done) | (go_simp; with_reducible rfl)
  (try simp only [Act.put]); (try simp only [List.setIfInBounds_toArray]); (try simp only [List.set_cons_succ]); (try simp only [List.set_cons_zero])
  refine wpAnyH_ready (rs := [5]) (by kernel_rfl) (by simp) ?_
  refine AllReadyH.cons rfl (fun K hK => ?_) AllReadyH.nil
  rw [if_pos (by kernel_rfl)]
  go_simp
  refine (HS2.out w6).mono ?_
  rintro ex w7 ⟨rfl, hF7⟩
  have R7 : Hid (Row w7 w.heap.size 23 .u8 (List.replicate 32 0)) := Lib.hid (R6.out.fr hF7 id)
  have F7 := Lib.hid (F6.out.trans (hF7.mono (fun _ _ h => h.elim)))
  clear hF7
  refine hK.out _ _ (F7.out) (fun hHeld => ?_)
  clear hK K
  (try simp only [Act.put]); (try simp only [List.setIfInBounds_toArray]); (try simp only [List.set_cons_succ]); (try simp only [List.set_cons_zero])
  refine wpAnyH_ready (rs := [6]) (by kernel_rfl) (by simp) ?_
  refine AllReadyH.cons rfl (fun K hK => ?_) AllReadyH.nil
  rw [if_pos (by kernel_rfl)]
  refine wp_store_row 23 _ _ rfl w.heap.size rfl (arr .u8 T) rfl R7.out arHash (by rfl) (by rw [arr_size]; exact HTL.out) (arr_one _ _) ?_
  refine hK.out _ _ (fr_setRow hHeld (.inl rfl) _) (fun hHeld => ?_)
  clear hK K
  (try simp only [Act.put]); (try simp only [List.setIfInBounds_toArray]); (try simp only [List.set_cons_succ]); (try simp only [List.set_cons_zero])
  refine wpAnyH_done (by kernel_rfl) ?_ _
  have hY := Lib.hid ((R7.out.setRow (l' := T)).loadVar arHash HTL.out)
  have HH : Hid (Fr No w (w7.setRow w.heap.size (arr .u8 T))) := Lib.hid (F5.out.trans' hHeld (fun k hk e => by omega))
  generalize w7.setRow w.heap.size (arr .u8 T) = w8 at *
  clear hHeld
  go_wp2
  exact bodyPost_ret (results_cell1 rfl rfl hY.out) rfl ⟨rfl, HH.out⟩

theorem rtag_any (k s : List UInt8) (w : World) (hk : k.length ≤ 90000) (hs : s.length ≤ 80000) :
    Calls Tryd.prog 8 #[.string (str k), .string (str s)] w fun ex w' => ex = .returned (.agg (arr .u8 (tagL k s))) ∧ Fr No w w' := by
  by_cases h : 64 < k.length
  · exact rtag_long k s w h hk hs
  · exact rtag_short k s w (by omega) hs
end Go.Proofs.YtdemmillejgpoaaDoor
