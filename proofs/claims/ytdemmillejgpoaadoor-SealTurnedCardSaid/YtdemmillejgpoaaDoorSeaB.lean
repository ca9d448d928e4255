/- The program's tag of a text by a key. -/
import Derived.Test.YtdemmillejgpoaaDoorSeaA
import Derived.Test.YtdemmillejgpoaaDoorRefE
namespace Go.Proofs.YtdemmillejgpoaaDoor
open Go.RowKit
set_option linter.unusedVariables false

theorem exec_convert {P : Program} {o : Oper} {ev : Operand → Value} {w : World} (s t : TypeId) (x : Operand) (ho : o.op = .convert s t x) (vx v : Value) (hx : ev x = vx) (hr : (convert s t vx).run P w = .ok v w) :
    (execOp ev o).run P w = .ok (.value v) w := by
  unfold execOp
  simp only [ho, hx, hr, Sem.run_bind, Sem.run_pure, Result.andThen_ok]

set_option maxHeartbeats 1000000 in
set_option maxRecDepth 100000 in
theorem filled_long (k : List UInt8) (w : World) (hk : 64 < k.length) (hk2 : k.length ≤ 90000) (hg : Gl w) :
    Calls Tryd.prog 18 #[.string (str k)] w fun ex w' => ex = .returned (.agg (arr .u8 (nb (fillL (bn (sumL k)))))) ∧ Fr No w w' := by
  obtain ⟨n, hn⟩ : ∃ n, n = k.length := ⟨_, rfl⟩
  have hsz : (str k).size = n := by rw [str_size, hn]
  have h1 : (64 : Int) < (n : Int) := by omega
  obtain ⟨D, hD⟩ : ∃ D, D = sumL k := ⟨_, rfl⟩
  have hDL : D.length = 32 := by rw [hD]; exact sumL_len _
  obtain ⟨kk, hkk⟩ : ∃ kk, kk = bn D := ⟨_, rfl⟩
  have hkl : kk.length = 32 := by rw [hkk, bn, List.length_map, hDL]
  obtain ⟨L, hL⟩ : ∃ L, L = nb (fillL kk) := ⟨_, rfl⟩
  have hLL : L.length = 64 := by rw [hL, nb, List.length_map, fillL_len (by omega)]
  have HS : Hid (∀ X, Gl X → Calls Tryd.prog 14 #[.string (str k)] X fun ex w' => ex = .returned (.agg (arr .u8 D)) ∧ Fr No X w') := Lib.hid (fun X hX => by rw [hD]; exact sum_any k X hk2 hX)
  have HC : Hid (∀ X g ty, Row X g 37 .u8 (List.replicate 64 0) → (Builtin.copy_ #[31, 9] ty #[.slice (some ⟨g, 0, none⟩) 64 64, .string (str kk)]).run Tryd.prog X = .ok (goInt kk.length) (X.setRow g (arr .u8 L))) := Lib.hid (fun X g ty hR => by rw [hL]; exact copy_row kk 64 X g _ ty (by omega) hR)
  have HCV : Hid (∀ X g, Row X g 23 .u8 D → (convert 31 9 (.slice (some ⟨g, 0, none⟩) 32 32)).run Tryd.prog X = .ok (.string (str kk)) X) := Lib.hid (fun X g hR => by rw [hkk]; exact conv_row 32 hR hDL (by rw [hD]; exact sumL_b8 k))
  have HLL := Lib.hid hLL
  have HDL := Lib.hid hDL
  have HG := Lib.hid hg
  rw [← hD, ← hkk, ← hL]
  clear hn hL hk hLL hk2 hg hD hDL hkk hkl
  go_enter Tryd.func18, Tryd.ntmps18
  go_wp2_with fail
  refine (HS.out _ (HG.out.fr (((Fr.refl No w).alloc _).alloc _) (fun _ _ => id))).mono ?_
  rintro ex w1 ⟨rfl, hF⟩
  have R0 : Hid (Row w1 w.heap.size 37 .u8 (List.replicate 64 0)) := Lib.hid (Row.fr (Row.alloc (Row.new w 37 .u8 (List.replicate 64 0)) _) hF id)
  have R1 : Hid (Row w1 (w.heap.size + 1) 37 .u8 (List.replicate 64 0)) := Lib.hid (Row.fr (Row.new2 w _ 37 .u8 (List.replicate 64 0)) hF id)
  have HF1 := Lib.hid ((((Fr.refl No w).alloc _).alloc _).trans hF)
  have HSZ : Hid (w.heap.size + 2 ≤ w1.heap.size) := Lib.hid (by have := hF.size; simpa using this)
  clear hF
  go_wp2_with (first
    | (refine wpList_store_row rfl 23 _ _ rfl w1.heap.size rfl (arr .u8 D) rfl (Row.new w1 23 .u8 (List.replicate 32 0)) arHash (by rfl) (by rw [arr_size]; exact HDL.out) (arr_one _ _) ?_
       refine wpList_world (fun W => Fr No w W ∧ Row W w.heap.size 37 .u8 (List.replicate 64 0) ∧ Row W (w.heap.size + 1) 37 .u8 (List.replicate 64 0) ∧ Row W w1.heap.size 23 .u8 D) ⟨fr_setRow (HF1.out.alloc _) (.inr HF1.out.size) _, Row.setRow_o (R0.out.alloc _) (by have := HSZ.out; omega) _, Row.setRow_o (R1.out.alloc _) (by have := HSZ.out; omega) _, (Row.new w1 23 .u8 (List.replicate 32 0)).setRow⟩ ?_
       rintro w2 ⟨hF2, hR0, hR1, hR2⟩
       have HF2 := Lib.hid hF2
       have HR0 := Lib.hid hR0
       have HR1 := Lib.hid hR1
       have HCV2 := Lib.hid (HCV.out _ _ hR2)
       clear hF2 hR0 hR1 hR2)
    | (refine wpList_convert_eq rfl 31 9 _ rfl _ (.string (str kk)) rfl HCV2.out ?_)
    | (refine wpList_copy_eq rfl _ _ _ _ rfl _ (.string (str kk)) _ rfl rfl (HC.out _ (w.heap.size + 1) _ HR1.out) ?_
       refine wpList_world (fun W => Fr No w W ∧ Row W w.heap.size 37 .u8 (List.replicate 64 0) ∧ Row W (w.heap.size + 1) 37 .u8 L) ⟨fr_setRow HF2.out (.inr (Nat.le_succ _)) _, Row.setRow_o HR0.out (Nat.ne_of_lt (Nat.lt_succ_self _)) _, HR1.out.setRow⟩ ?_
       rintro w3 ⟨hF, hR0, hR1⟩
       have HF := Lib.hid hF
       have HL1 := Lib.hid (hR1.load ar64 HLL.out)
       obtain ⟨Y, hY, hYR, hYF⟩ := hR0.stored (l' := L) ar64 (by rfl) HLL.out
       have HY := Lib.hid hY
       have HYR := Lib.hid (hYR.loadVar ar64 HLL.out)
       have HYF : Hid (Fr No w Y) := Lib.hid (HF.out.trans' hYF (fun k hk e => Nat.lt_irrefl _ (e ▸ hk)))
       clear hF hR0 hR1 hY hYR hYF)
    | (refine wpList_load_eq rfl 37 _ rfl (.pointer (some ⟨w.heap.size + 1, 0, none⟩)) (.agg (arr .u8 L)) rfl HL1.out ?_)
    | (refine wpList_store_eq rfl 37 _ _ rfl (.pointer (some ⟨w.heap.size, 0, none⟩)) (.agg (arr .u8 L)) rfl rfl HY.out ?_))
  exact bodyPost_ret (results_cell1 rfl rfl HYR.out) rfl ⟨rfl, HYF.out⟩

theorem filled_any (k : List UInt8) (w : World) (hk : k.length ≤ 90000) (hg : Gl w) :
    Calls Tryd.prog 18 #[.string (str k)] w fun ex w' => ex = .returned (.agg (arr .u8 (nb (fillL (keyL k))))) ∧ Fr No w w' := by
  by_cases h : 64 < k.length
  · rw [keyL_long h]; exact filled_long k w h hk hg
  · rw [keyL_short (by omega)]; exact filled_short k w (by omega)

set_option maxHeartbeats 1000000 in
set_option maxRecDepth 100000 in
theorem tag_any (k s : List UInt8) (w : World) (hk : k.length ≤ 90000) (hs : s.length ≤ 80000) (hg : Gl w) :
    Calls Tryd.prog 10 #[.string (str k), .string (str s)] w fun ex w' => ex = .returned (.agg (arr .u8 (tagL k s))) ∧ Fr No w w' := by
  obtain ⟨K, hK⟩ : ∃ K, K = keyL k := ⟨_, rfl⟩
  have hKl : K.length ≤ 64 := by rw [hK]; exact keyL_le k
  obtain ⟨FK, hFK⟩ : ∃ FK, FK = nb (fillL K) := ⟨_, rfl⟩
  have hFKl : FK.length = 64 := by rw [hFK, nb, List.length_map, fillL_len hKl]
  obtain ⟨MI, hMI⟩ : ∃ MI, MI = mixL K 54 := ⟨_, rfl⟩
  obtain ⟨MO, hMO⟩ : ∃ MO, MO = mixL K 92 := ⟨_, rfl⟩
  obtain ⟨I, hI⟩ : ∃ I, I = innerL k s := ⟨_, rfl⟩
  obtain ⟨IB, hIB⟩ : ∃ IB, IB = bn I := ⟨_, rfl⟩
  obtain ⟨T, hT⟩ : ∃ T, T = tagL k s := ⟨_, rfl⟩
  obtain ⟨O1, hO1⟩ : ∃ O1, O1 = MI ++ s := ⟨_, rfl⟩
  obtain ⟨O2, hO2⟩ : ∃ O2, O2 = MO ++ IB := ⟨_, rfl⟩
  obtain ⟨n, hn⟩ : ∃ n, n = s.length := ⟨_, rfl⟩
  have hIl : I.length = 32 := by rw [hI]; exact sumL_len _
  have hIBl : IB.length = 32 := by rw [hIB, bn, List.length_map, hIl]
  have hMIl : MI.length = 64 := by rw [hMI]; exact mixL_len 54 hKl
  have hMOl : MO.length = 64 := by rw [hMO]; exact mixL_len 92 hKl
  have HTL : Hid (T.length = 32) := Lib.hid (by rw [hT]; exact tagL_len _ _)
  have hI1 : I = sumL O1 := by rw [hI, innerL, ← hK, ← hMI, ← hO1]
  have hT2 : T = sumL O2 := by rw [hT, tagL, ← hK, ← hMO, ← hI, hO2, hIB]
  have hsz1 : (str MI).size = 64 := by rw [str_size, hMIl]
  have hsz2 : (str s).size = n := by rw [str_size, hn]
  have hsz3 : (str MO).size = 64 := by rw [str_size, hMOl]
  have hsz4 : (str IB).size = 32 := by rw [str_size, hIBl]
  have hn8 : (n : Int) ≤ 80000 := by omega
  have hcat1 : str MI ++ str s = str O1 := by rw [str_append, hO1]
  have hcat2 : str MO ++ str IB = str O2 := by rw [str_append, hO2]
  have HFI : Hid (∀ X, Gl X → Calls Tryd.prog 18 #[.string (str k)] X fun ex w' => ex = .returned (.agg (arr .u8 FK)) ∧ Fr No X w') := Lib.hid (fun X hX => by rw [hFK, hK]; exact filled_any k X hk hX)
  have HM : Hid (∀ X, Calls Tryd.prog 17 #[.agg (arr .u8 FK)] X fun ex w' => ex = .returned (.func (.func 25) #[] #[.pointer (some ⟨X.heap.size, 0, none⟩)]) ∧ Fr No X w' ∧ Row w' X.heap.size 37 .u8 FK) := Lib.hid (fun X => mixer_any FK X hFKl)
  have HM1 : Hid (∀ X b, Row X b 37 .u8 FK → Calls Tryd.prog 25 #[.int .u8 54, .pointer (some ⟨b, 0, none⟩)] X fun ex w' => ex = .returned (.string (str MI)) ∧ Fr No X w') := Lib.hid (fun X b hR => by rw [hMI]; exact mixer1_any K 54 b X hKl (by rw [← hFK]; exact hR))
  have HM2 : Hid (∀ X b, Row X b 37 .u8 FK → Calls Tryd.prog 25 #[.int .u8 92, .pointer (some ⟨b, 0, none⟩)] X fun ex w' => ex = .returned (.string (str MO)) ∧ Fr No X w') := Lib.hid (fun X b hR => by rw [hMO]; exact mixer1_any K 92 b X hKl (by rw [← hFK]; exact hR))
  have HS1 : Hid (∀ X, Gl X → Calls Tryd.prog 14 #[.string (str O1)] X fun ex w' => ex = .returned (.agg (arr .u8 I)) ∧ Fr No X w') := Lib.hid (fun X hX => by rw [hI1]; exact sum_any O1 X (by rw [hO1, List.length_append]; omega) hX)
  have HS2 : Hid (∀ X, Gl X → Calls Tryd.prog 14 #[.string (str O2)] X fun ex w' => ex = .returned (.agg (arr .u8 T)) ∧ Fr No X w') := Lib.hid (fun X hX => by rw [hT2]; exact sum_any O2 X (by rw [hO2, List.length_append]; omega) hX)
  have HIL := Lib.hid hIl
  have HCV : Hid (∀ X g, Row X g 23 .u8 I → (convert 31 9 (.slice (some ⟨g, 0, none⟩) 32 32)).run Tryd.prog X = .ok (.string (str IB)) X) := Lib.hid (fun X g hR => by rw [hIB]; exact conv_row 32 hR hIl (by rw [hI]; exact sumL_b8 _))
  have HG := Lib.hid hg
  rw [← hT]
  clear hK hKl hFK hFKl hMI hMO hI hIB hT hO1 hO2 hn hIl hIBl hMIl hMOl hI1 hT2 hk hs hg
  go_enter Tryd.func10, Tryd.ntmps10
  go_wp2_with fail
  refine (HFI.out _ (HG.out.fr ((Fr.refl No w).alloc _) (fun _ _ => id))).mono ?_
  rintro ex w1 ⟨rfl, hF⟩
  have R1 : Hid (Row w1 w.heap.size 23 .u8 (List.replicate 32 0)) := Lib.hid (Row.fr (Row.new w 23 .u8 (List.replicate 32 0)) hF id)
  have F1 := Lib.hid (((Fr.refl No w).alloc _).trans hF)
  clear hF
  go_wp2_with fail
  refine (HM.out _).mono ?_
  rintro ex w2 ⟨rfl, hF, hK2⟩
  have R2 : Hid (Row w2 w.heap.size 23 .u8 (List.replicate 32 0)) := Lib.hid (R1.out.fr hF id)
  have F2 := Lib.hid (F1.out.trans hF)
  obtain ⟨b, hb⟩ : ∃ b, b = w1.heap.size := ⟨_, rfl⟩
  rw [← hb] at hK2 ⊢
  have K2 := Lib.hid hK2
  have HBN : Hid (¬ b = w.heap.size) := Lib.hid (by have := R1.out.lt; omega)
  clear hF hK2 hb
  go_wp2_with fail
  refine (HM1.out _ _ K2.out).mono ?_
  rintro ex w3 ⟨rfl, hF⟩
  have R3 : Hid (Row w3 w.heap.size 23 .u8 (List.replicate 32 0)) := Lib.hid (R2.out.fr hF id)
  have K3 : Hid (Row w3 b 37 .u8 FK) := Lib.hid (K2.out.fr hF id)
  have F3 := Lib.hid (F2.out.trans hF)
  clear hF
  go_wp2_with fail
  refine (HS1.out _ (HG.out.fr F3.out (fun _ _ => id))).mono ?_
  rintro ex w4 ⟨rfl, hF⟩
  have R4 : Hid (Row w4 w.heap.size 23 .u8 (List.replicate 32 0)) := Lib.hid (R3.out.fr hF id)
  have K4 : Hid (Row w4 b 37 .u8 FK) := Lib.hid (K3.out.fr hF id)
  have F4 := Lib.hid (F3.out.trans hF)
  clear hF
  go_wp2_with (refine wpList_store_row rfl 23 _ _ rfl w4.heap.size rfl (arr .u8 I) rfl (Row.new w4 23 .u8 (List.replicate 32 0)) arHash (by rfl) (by rw [arr_size]; exact HIL.out) (arr_one _ _) ?_
               refine wpList_world (fun W => Fr No w W ∧ Row W w.heap.size 23 .u8 (List.replicate 32 0) ∧ Row W b 37 .u8 FK ∧ Row W w4.heap.size 23 .u8 I) ⟨fr_setRow (F4.out.alloc _) (.inr F4.out.size) _, Row.setRow_o (R4.out.alloc _) (Nat.ne_of_lt R4.out.lt) _, Row.setRow_o (K4.out.alloc _) (Nat.ne_of_lt K4.out.lt) _, (Row.new w4 23 .u8 (List.replicate 32 0)).setRow⟩ ?_
               rintro w5 ⟨hF, hR, hK, hQ⟩
               have F5 := Lib.hid hF
               have R5 := Lib.hid hR
               have K5 := Lib.hid hK
               have CV5 : Hid (∀ X, Fr (fun k => k = w.heap.size) w5 X → (convert 31 9 (.slice (some ⟨w4.heap.size, 0, none⟩) 32 32)).run Tryd.prog X = .ok (.string (str IB)) X) := Lib.hid (fun X hX => HCV.out X _ (hQ.fr hX (by show ¬ _ = _; have := R4.out.lt; omega)))
               clear hF hR hK hQ)
  refine wp_region_held_drew (S := (fun X => Fr (fun k => k = w.heap.size) w5 X)) (by kernel_rfl) ((Fr.refl _ w5).drew) (fun hHeld => ?_)
  refine takeD (i := 0) (d := some 15) (v := ?_) rfl (by kernel_rfl) (by kernel_rfl) (by kernel_rfl) (by kernel_rfl) (fun _ _ _ h => h) (Or.inl ⟨by kernel_rfl, fun X hX => Or.inl ?_⟩) (by assumption) ?_
  rotate_left
  · first | (go_simp; done) | (go_simp; with_reducible rfl)
  (try simp only [Act.put]); (try simp only [List.setIfInBounds_toArray]); (try simp only [List.set_cons_succ]); (try simp only [List.set_cons_zero])
  refine takeD (i := 2) (d := some 17) (v := ?_) rfl (by kernel_rfl) (by kernel_rfl) (by kernel_rfl) (by kernel_rfl) (fun _ _ _ h => h) (Or.inl ⟨by kernel_rfl, fun X hX => Or.inl ?_⟩) (by assumption) ?_
  rotate_left
  · first | (go_simp; done) | (go_simp; with_reducible rfl)
  (try simp only [Act.put]); (try simp only [List.setIfInBounds_toArray]); (try simp only [List.set_cons_succ]); (try simp only [List.set_cons_zero])
  refine takeD (i := 3) (d := some 18) (v := .string (str IB)) rfl (by kernel_rfl) (by kernel_rfl) (by kernel_rfl) (by kernel_rfl) (fun _ _ _ h => h) (Or.inl ⟨by kernel_rfl, fun X hX => Or.inl (exec_convert 31 9 (.tmp 17) rfl _ _ rfl (CV5.out X hX))⟩) (by assumption) ?_
  (try simp only [Act.put]); (try simp only [List.setIfInBounds_toArray]); (try simp only [List.set_cons_succ]); (try simp only [List.set_cons_zero])
  refine wpAnyH_ready (rs := [1]) (by kernel_rfl) (by simp) ?_
  refine AllReadyH.cons rfl (fun K hK => ?_) AllReadyH.nil
  rw [if_pos (by kernel_rfl)]
  go_simp
  refine (HM2.out _ _ (K5.out.fr hHeld HBN.out)).mono ?_
  rintro ex w6 ⟨rfl, hF6⟩
  have R6 : Hid (Row w6 w.heap.size 23 .u8 (List.replicate 32 0)) := Lib.hid (Row.fr (w := w5.drew) R5.out hF6 id)
  have F6 := Lib.hid (hHeld.trans (hF6.mono (fun _ _ h => h.elim)))
  clear hF6
  refine hK.out _ _ (F6.out) (fun hHeld => ?_)
  clear hK K
  (try simp only [Act.put]); (try simp only [List.setIfInBounds_toArray]); (try simp only [List.set_cons_succ]); (try simp only [List.set_cons_zero])
  refine takeD (i := 4) (d := some 19) (v := ?_) rfl (by kernel_rfl) (by kernel_rfl) (by kernel_rfl) (by kernel_rfl) (fun _ _ _ h => h) (Or.inl ⟨by kernel_rfl, fun X hX => Or.inl ?_⟩) (by assumption) ?_
  rotate_left
  · first | (go_simp; done) | (go_simp; with_reducible rfl)
  (try simp only [Act.put]); (try simp only [List.setIfInBounds_toArray]); (try simp only [List.set_cons_succ]); (try simp only [List.set_cons_zero])
  refine wpAnyH_ready (rs := [5]) (by kernel_rfl) (by simp) ?_
  refine AllReadyH.cons rfl (fun K hK => ?_) AllReadyH.nil
  rw [if_pos (by kernel_rfl)]
  go_simp
  refine (HS2.out w6 ((HG.out.fr F5.out (fun _ _ => id)).fr F6.out (fun k hk e => by have := HG.out.two; omega))).mono ?_
  rintro ex w7 ⟨rfl, hF7⟩
  have R7 : Hid (Row w7 w.heap.size 23 .u8 (List.replicate 32 0)) := Lib.hid (R6.out.fr hF7 id)
  have F7 := Lib.hid (F6.out.trans (hF7.mono (fun _ _ h => h.elim)))
  clear hF7
  refine hK.out _ _ (F7.out) (fun hHeld => ?_)
  clear hK K
  (try simp only [Act.put]); (try simp only [List.setIfInBounds_toArray]); (try simp only [List.set_cons_succ]); (try simp only [List.set_cons_zero])
  refine wpAnyH_ready (rs := [6]) (by kernel_rfl) (by simp) ?_
  refine AllReadyH.cons rfl (fun K hK => ?_) AllReadyH.nil
  rw [if_pos (by kernel_rfl)]
  refine wp_store_row 23 _ _ rfl w.heap.size rfl (arr .u8 T) rfl R7.out arHash (by rfl) (by rw [arr_size]; exact HTL.out) (arr_one _ _) ?_
  refine hK.out _ _ (fr_setRow hHeld (.inl rfl) _) (fun hHeld => ?_)
  clear hK K
  (try simp only [Act.put]); (try simp only [List.setIfInBounds_toArray]); (try simp only [List.set_cons_succ]); (try simp only [List.set_cons_zero])
  refine wpAnyH_done (by kernel_rfl) ?_ _
  have hY := Lib.hid ((R7.out.setRow (l' := T)).loadVar arHash HTL.out)
  have HH : Hid (Fr No w (w7.setRow w.heap.size (arr .u8 T))) := Lib.hid (F5.out.trans' hHeld (fun k hk e => by omega))
  generalize w7.setRow w.heap.size (arr .u8 T) = w8 at *
  clear hHeld
  go_wp2
  exact bodyPost_ret (results_cell1 rfl rfl hY.out) rfl ⟨rfl, HH.out⟩
end Go.Proofs.YtdemmillejgpoaaDoor
