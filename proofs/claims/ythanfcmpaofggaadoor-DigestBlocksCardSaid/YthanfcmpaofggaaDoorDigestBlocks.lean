/- DigestBlocks walked. -/
import Derived.Test.YthanfcmpaofggaaDoorRefE
namespace Go.Proofs.YthanfcmpaofggaaDoor
open Go.RowKit
set_option linter.unusedVariables false

set_option maxHeartbeats 400000 in
set_option maxRecDepth 100000 in
theorem blocks_big (h : List Nat) (s : List UInt8) (w : World) (hh : h.length = 8) (hs : 200 < s.length) (hm : s.length ≤ maxLen) (hg : Gl w) :
    Calls Tryd.prog 4 #[.agg (arr .u32 h), .string (str s)] w fun e w' => e = .returned (.bool true) ∧ Fr No w w' := by
  unfold maxLen at hm
  have hsz := str_size s
  have h1 : (200 : Int) < s.length := by omega
  have HG := Lib.hid hg
  have HH := Lib.hid hh
  clear hg hh
  go_enter Tryd.func4, Tryd.ntmps4
  go_wp2_with fail
  have hFa : Fr No w (w.alloc (.cells (arr .u32 h) 29)) := (Fr.refl No w).alloc _
  refine (shown_any _ (HG.out.fr hFa (fun _ _ => id))).mono ?_
  rintro e w1 ⟨rfl, hF⟩
  have HF := Lib.hid (hFa.trans hF)
  clear hF hFa
  go_wp2
  go_ret
  exact ⟨rfl, HF.out⟩

set_option maxHeartbeats 1000000 in
set_option maxRecDepth 100000 in
theorem blocks_ok (h : List Nat) (s : List UInt8) (w : World) (hh : h.length = 8) (hw : Ws h) (hs : s.length ≤ 200) (hg : Gl w) :
    Calls Tryd.prog 4 #[.agg (arr .u32 h), .string (str s)] w fun e w' => e = .returned (.bool true) ∧ Fr No w w' := by
  obtain ⟨n, hn⟩ : ∃ n, n = s.length := ⟨_, rfl⟩
  obtain ⟨C, hC⟩ : ∃ C, C = cres h s := ⟨_, rfl⟩
  obtain ⟨fl, hfl⟩ : ∃ fl, fl = cfl s := ⟨_, rfl⟩
  have hsz : (str s).size = n := by rw [str_size, hn]
  have h1 : ¬ (200 : Int) < (n : Int) := by omega
  have hn2 : (n : Int) ≤ 200 := by omega
  have hc1 := fun X hg => comp_tot h s X hh hw hg
  have hc2 := fun X => rcomp_tot h s X hh hw
  have hba := fun X => rback_any h X hh hw
  rw [← hC, ← hfl] at hc1 hc2
  have HCL : Hid (C.length = 8 ∧ Ws C) := Lib.hid (by rw [hC]; exact ⟨(cres_len _ _).trans hh, cres_ws _ hw⟩)
  have HC1 := Lib.hid hc1
  have HC2 := Lib.hid hc2
  have HBA := Lib.hid hba
  have HG := Lib.hid hg
  have HH := Lib.hid hh
  clear hg hh hw hc1 hc2 hba hC hfl hn hs
  go_enter Tryd.func4, Tryd.ntmps4
  go_wp2_with fail
  have hFa : Fr No w (w.alloc (.cells (arr .u32 h) 29)) := (Fr.refl No w).alloc _
  have hRa : Row (w.alloc (.cells (arr .u32 h) 29)) w.heap.size 29 .u32 h := Row.new w _ _ _
  refine (shown_any _ (HG.out.fr hFa (fun _ _ => id))).mono ?_
  rintro e w1 ⟨rfl, hF⟩
  obtain ⟨p, hp⟩ : ∃ p, p = w.heap.size := ⟨_, rfl⟩
  have HF := Lib.hid (hFa.trans hF)
  have R1 : Hid (Row w1 p 29 .u32 h) := Lib.hid (by rw [hp]; exact hRa.fr (S := No) hF id)
  have G1 := Lib.hid (HG.out.fr HF.out (fun _ _ => id))
  have HP := Lib.hid hp
  rw [← hp]
  clear hF hFa hRa hp
  go_wp2_with (refine wpList_load_eq rfl 29 _ rfl (.pointer (some ⟨p, 0, none⟩)) (.agg (arr .u32 h)) rfl (R1.out.load arW8 HH.out) ?_)
  refine (HC1.out w1 G1.out).mono ?_
  rintro e w2 ⟨rfl, hF2⟩
  have F2 := Lib.hid (HF.out.trans hF2)
  have R2 := Lib.hid (R1.out.fr (S := No) hF2 id)
  clear hF2 HF R1 G1
  go_wp2_with (first
    | (refine wpList_load_eq rfl 29 _ rfl (.pointer (some ⟨p, 0, none⟩)) (.agg (arr .u32 h)) rfl (R3.out.load arW8 HH.out) ?_)
    | (refine wpList_store_row rfl 29 _ _ rfl w2.heap.size rfl (arr .u32 C) rfl (Row.new w2 29 .u32 (List.replicate 8 0)) arW8 (by rfl) (by rw [arr_size, HCL.out.1]) (arr_one .u32 C) ?_
       refine wpList_world (fun W => Fr No w2 W ∧ Row W w2.heap.size 29 .u32 C) ⟨fr_setRow ((Fr.refl No w2).alloc _) (.inr (Nat.le_refl _)) _, (Row.new w2 29 .u32 (List.replicate 8 0)).setRow⟩ ?_
       rintro w3 ⟨hF3, hR3⟩
       have F3 := Lib.hid (F2.out.trans hF3)
       have R3 := Lib.hid (R2.out.fr (S := No) hF3 id)
       have C3 := Lib.hid hR3
       clear hF3 hR3))
  refine (HBA.out _).mono ?_
  rintro e w4 ⟨rfl, hF4⟩
  obtain ⟨q, hq⟩ : ∃ q, q = w2.heap.size := ⟨_, rfl⟩
  have F4 := Lib.hid (F3.out.trans hF4)
  have C4 : Hid (Row w4 q 29 .u32 C) := Lib.hid (by rw [hq]; exact C3.out.fr (S := No) hF4 id)
  rw [← hq]
  clear hF4 hq C3 F3 R3 F2 R2
  go_wp2_with fail
  refine (HC2.out _).mono ?_
  rintro e w5 ⟨rfl, hF5⟩
  have F5 := Lib.hid (F4.out.trans hF5)
  have C5 := Lib.hid (C4.out.fr (S := No) hF5 id)
  clear hF5 C4 F4
  go_wp2_with (refine wpList_store_row rfl 33 _ _ rfl w5.heap.size rfl (arr .u64 C) rfl (Row.new w5 33 .u64 (List.replicate 8 0)) arQ8 (by rfl) (by rw [arr_size, HCL.out.1]) (arr_one .u64 C) ?_
               refine wpList_world (fun W => Fr No w5 W ∧ Row W w5.heap.size 33 .u64 C) ⟨fr_setRow ((Fr.refl No w5).alloc _) (.inr (Nat.le_refl _)) _, (Row.new w5 33 .u64 (List.replicate 8 0)).setRow⟩ ?_
               rintro w6 ⟨hF6, hR6⟩
               have F6 := Lib.hid (F5.out.trans hF6)
               have C6 := Lib.hid (C5.out.fr (S := No) hF6 id)
               have D6 := Lib.hid hR6
               clear hF6 hR6)
  obtain ⟨r, hr⟩ : ∃ r, r = w5.heap.size := ⟨_, rfl⟩
  rw [← hr] at D6
  rw [← hr]
  have HL1 : Hid (∀ X, Fr No w6 X → (Instr.loadAt 29 (.pointer (some ⟨q, 0, none⟩))).run Tryd.prog X = .ok (.agg (arr .u32 C)) X) := Lib.hid (fun X hX => (C6.out.fr hX id).load arW8 HCL.out.1)
  have HL2 : Hid (∀ X, Fr No w6 X → (Instr.loadAt 33 (.pointer (some ⟨r, 0, none⟩))).run Tryd.prog X = .ok (.agg (arr .u64 C)) X) := Lib.hid (fun X hX => (D6.out.fr hX id).load arQ8 HCL.out.1)
  have HEQ := Lib.hid (fun X => eql_w8 C HCL.out.1 X)
  clear hr C5 F5
  refine wp_region_held_drew (S := (fun X => Fr No w6 X)) (by kernel_rfl) ((Fr.refl _ w6).drew) (fun hHeld => ?_)
  refine takeD (i := 0) (d := some 30) (v := ?_) rfl (by kernel_rfl) (by kernel_rfl) (by kernel_rfl) (by kernel_rfl) (fun _ _ _ h => h) (Or.inl ⟨by kernel_rfl, fun X hX => Or.inl ?_⟩) (by assumption) ?_
  rotate_left
  · first | (go_simp; done) | (go_simp; with_reducible rfl)
  (try simp only [Act.put]); (try simp only [List.setIfInBounds_toArray]); (try simp only [List.set_cons_succ]); (try simp only [List.set_cons_zero])
  refine takeD (i := 1) (d := some 31) (v := ?_) rfl (by kernel_rfl) (by kernel_rfl) (by kernel_rfl) (by kernel_rfl) (fun _ _ _ h => h) (Or.inl ⟨by kernel_rfl, fun X hX => Or.inl ?_⟩) (by assumption) ?_
  rotate_left
  · first | (go_simp; done) | (go_simp; with_reducible rfl)
  (try simp only [Act.put]); (try simp only [List.setIfInBounds_toArray]); (try simp only [List.set_cons_succ]); (try simp only [List.set_cons_zero])
  refine takeD (i := 2) (d := some 32) (v := ?_) rfl (by kernel_rfl) (by kernel_rfl) (by kernel_rfl) (by kernel_rfl) (fun _ _ _ h => h) (Or.inl ⟨by kernel_rfl, fun X hX => Or.inl ?_⟩) (by assumption) ?_
  rotate_left
  · first | (go_simp; done) | (go_simp; with_reducible rfl)
  (try simp only [Act.put]); (try simp only [List.setIfInBounds_toArray]); (try simp only [List.set_cons_succ]); (try simp only [List.set_cons_zero])
  refine takeD (i := 3) (d := some 33) (v := ?_) rfl (by kernel_rfl) (by kernel_rfl) (by kernel_rfl) (by kernel_rfl) (fun _ _ _ h => h) (Or.inl ⟨by kernel_rfl, fun X hX => Or.inl ?_⟩) (by assumption) ?_
  rotate_left
  · first | (go_simp; done) | (go_simp; with_reducible rfl)
  (try simp only [Act.put]); (try simp only [List.setIfInBounds_toArray]); (try simp only [List.set_cons_succ]); (try simp only [List.set_cons_zero])
  refine takeD (i := 4) (d := some 34) (v := .agg (arr .u32 C)) rfl (by kernel_rfl) (by kernel_rfl) (by kernel_rfl) (by kernel_rfl) (fun _ _ _ h => h) (Or.inl ⟨by kernel_rfl, fun X hX => Or.inl (exec_load 29 (.tmp 5) rfl _ _ rfl (HL1.out X hX))⟩) (by assumption) ?_
  (try simp only [Act.put]); (try simp only [List.setIfInBounds_toArray]); (try simp only [List.set_cons_succ]); (try simp only [List.set_cons_zero])
  refine takeD (i := 5) (d := some 35) (v := .agg (arr .u64 C)) rfl (by kernel_rfl) (by kernel_rfl) (by kernel_rfl) (by kernel_rfl) (fun _ _ _ h => h) (Or.inl ⟨by kernel_rfl, fun X hX => Or.inl (exec_load 33 (.tmp 7) rfl _ _ rfl (HL2.out X hX))⟩) (by assumption) ?_
  (try simp only [Act.put]); (try simp only [List.setIfInBounds_toArray]); (try simp only [List.set_cons_succ]); (try simp only [List.set_cons_zero])
  refine wpAnyH_ready (rs := [6]) (by kernel_rfl) (by simp) ?_
  refine AllReadyH.cons rfl (fun K hK => ?_) AllReadyH.nil
  rw [if_pos (by kernel_rfl)]
  go_simp
  refine (rwords_any C _ HCL.out.1 HCL.out.2).mono ?_
  rintro ex w7 ⟨rfl, hF7⟩
  have F7 := Lib.hid hF7
  clear hF7
  refine hK.out _ _ (hHeld.trans F7.out) (fun hHeld => ?_)
  clear hK K
  (try simp only [Act.put]); (try simp only [List.setIfInBounds_toArray]); (try simp only [List.set_cons_succ]); (try simp only [List.set_cons_zero])
  refine takeD (i := 7) (d := some 37) (v := .bool true) rfl (by kernel_rfl) (by kernel_rfl) (by kernel_rfl) (by kernel_rfl) (fun _ _ _ h => h) (Or.inl ⟨by kernel_rfl, fun X hX => Or.inl (exec_bin .eql 29 (.tmp 34) (.tmp 36) 29 rfl _ _ _ rfl rfl (by kernel_rfl) (HEQ.out X))⟩) (by assumption) ?_
  (try simp only [Act.put]); (try simp only [List.setIfInBounds_toArray]); (try simp only [List.set_cons_succ]); (try simp only [List.set_cons_zero])
  refine takeD (i := 8) (d := some 38) (v := ?_) rfl (by kernel_rfl) (by kernel_rfl) (by kernel_rfl) (by kernel_rfl) (fun _ _ _ h => h) (Or.inl ⟨by kernel_rfl, fun X hX => Or.inl ?_⟩) (by assumption) ?_
  rotate_left
  · first | (go_simp; done) | (go_simp; with_reducible rfl)
  (try simp only [Act.put]); (try simp only [List.setIfInBounds_toArray]); (try simp only [List.set_cons_succ]); (try simp only [List.set_cons_zero])
  refine takeD (i := 9) (d := some 4) (v := ?_) rfl (by kernel_rfl) (by kernel_rfl) (by kernel_rfl) (by kernel_rfl) (fun _ _ _ h => h) (Or.inl ⟨by kernel_rfl, fun X hX => Or.inl ?_⟩) (by assumption) ?_
  rotate_left
  · first | (go_simp; done) | (go_simp; with_reducible rfl)
  (try simp only [Act.put]); (try simp only [List.setIfInBounds_toArray]); (try simp only [List.set_cons_succ]); (try simp only [List.set_cons_zero])
  refine wpAnyH_done (by kernel_rfl) ?_ _
  have HX := Lib.hid (F6.out.trans hHeld)
  clear hHeld
  go_wp2
  go_ret
  exact ⟨rfl, HX.out⟩

theorem blocks_walk (h : List Nat) (s : ByteArray) (w : World) (hh : h.length = 8) (hw : Ws h) (hm : s.size ≤ maxLen) (hg : Gl w) :
    Calls Tryd.prog 4 #[.agg (arr .u32 h), .string s] w fun e w' => e = .returned (.bool true) ∧ Fr No w w' := by
  have e : s = str s.data.toList := by apply ByteArray.ext; simp [str]
  have hl : s.data.toList.length = s.size := rfl
  rw [e]
  by_cases h2 : s.size ≤ 200
  · exact blocks_ok h _ _ hh hw (by omega) hg
  · exact blocks_big h _ _ hh (by omega) (by omega) hg
end Go.Proofs.YthanfcmpaofggaaDoor
