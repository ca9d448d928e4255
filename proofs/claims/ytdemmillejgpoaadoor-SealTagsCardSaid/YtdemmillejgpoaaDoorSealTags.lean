/- SealTags walked. -/
import Derived.Test.YtdemmillejgpoaaDoorSeaC
import Derived.Test.YtdemmillejgpoaaDoorSeaS
namespace Go.Proofs.YtdemmillejgpoaaDoor
open Go.RowKit
set_option linter.unusedVariables false

theorem eql_bool (b : Bool) (w : World) : (binOp .eql 4 (.bool b) (.bool b)).run Tryd.prog w = .ok (.bool true) w := by
  cases b <;> kernel_rfl

set_option maxHeartbeats 400000 in
theorem tags_big (k s : List UInt8) (p h : List Nat) (w : World) (hb : 300 < k.length ∨ 600 < s.length) (hk : k.length ≤ maxLen) (hs : s.length ≤ maxLen) (hg : Gl w) :
    Calls Tryd.prog 3 #[.string (str k), .string (str s), .agg (arr .u8 p), .agg (arr .u8 h)] w fun e w' => e = .returned (.bool true) ∧ Fr No w w' := by
  unfold maxLen at hk hs
  obtain ⟨n, hn⟩ : ∃ n, n = k.length := ⟨_, rfl⟩
  obtain ⟨m, hm⟩ : ∃ m, m = s.length := ⟨_, rfl⟩
  have hsz := (str_size k).trans hn.symm
  have hsz2 := (str_size s).trans hm.symm
  rw [← hn] at hb hk
  rw [← hm] at hb hs
  have HF0 : Hid (Fr No w ((w.alloc (.cells (arr .u8 p) 23)).alloc (.cells (arr .u8 h) 23))) := Lib.hid (((Fr.refl No w).alloc _).alloc _)
  have HG := Lib.hid hg
  clear hg hn hm
  by_cases h1 : 300 < n
  · have h1 : (300 : Int) < (n : Int) := by omega
    clear hb
    go_enter Tryd.func3, Tryd.ntmps3
    go_wp2_with fail
    refine (shown3_any _ (HG.out.fr HF0.out (fun _ _ => id))).mono ?_
    rintro e w1 ⟨rfl, hF⟩
    have HF := Lib.hid (HF0.out.trans hF)
    clear hF
    go_wp2
    go_ret
    exact ⟨rfl, HF.out⟩
  · have h2 : (600 : Int) < (m : Int) := by omega
    have h1 : ¬ (300 : Int) < (n : Int) := by omega
    clear hb
    go_enter Tryd.func3, Tryd.ntmps3
    go_wp2_with fail
    refine (shown3_any _ (HG.out.fr HF0.out (fun _ _ => id))).mono ?_
    rintro e w1 ⟨rfl, hF⟩
    have HF := Lib.hid (HF0.out.trans hF)
    clear hF
    go_wp2
    go_ret
    exact ⟨rfl, HF.out⟩

set_option maxHeartbeats 1000000 in
set_option maxRecDepth 100000 in
theorem tags_ok (k s : List UInt8) (p h : List Nat) (w : World) (hk : k.length ≤ 300) (hs : s.length ≤ 600) (hp : p.length = 32) (h8 : B8 p) (hh : h.length = 32) (hg : Gl w) :
    Calls Tryd.prog 3 #[.string (str k), .string (str s), .agg (arr .u8 p), .agg (arr .u8 h)] w fun e w' => e = .returned (.bool true) ∧ Fr No w w' := by
  obtain ⟨n, hn⟩ : ∃ n, n = k.length := ⟨_, rfl⟩
  obtain ⟨m, hm⟩ : ∃ m, m = s.length := ⟨_, rfl⟩
  obtain ⟨T, hT⟩ : ∃ T, T = tagL k s := ⟨_, rfl⟩
  obtain ⟨O, hO⟩ : ∃ O, O = ofL p := ⟨_, rfl⟩
  obtain ⟨e1, he1⟩ : ∃ e : Bool, e = (T == h) := ⟨_, rfl⟩
  obtain ⟨e2, he2⟩ : ∃ e : Bool, e = (O == h) := ⟨_, rfl⟩
  have hTL : T.length = 32 := by rw [hT]; exact tagL_len _ _
  have hOL : O.length = 32 := by rw [hO]; exact ofL_len _
  have hsz : (str k).size = n := (str_size k).trans hn.symm
  have hsz2 : (str s).size = m := (str_size s).trans hm.symm
  have hn3 : ¬ (300 : Int) < (n : Int) := by omega
  have hm6 : ¬ (600 : Int) < (m : Int) := by omega
  have HT : Hid (∀ X, Gl X → Calls Tryd.prog 10 #[.string (str k), .string (str s)] X fun ex w' => ex = .returned (.agg (arr .u8 T)) ∧ Fr No X w') := Lib.hid (fun X hX => by rw [hT]; exact tag_any k s X (by omega) (by omega) hX)
  have HRT : Hid (∀ X, Calls Tryd.prog 8 #[.string (str k), .string (str s)] X fun ex w' => ex = .returned (.agg (arr .u8 T)) ∧ Fr No X w') := Lib.hid (fun X => by rw [hT]; exact rtag_any k s X (by omega) (by omega))
  have HRO : Hid (∀ X, Calls Tryd.prog 9 #[.agg (arr .u8 p)] X fun ex w' => ex = .returned (.agg (arr .u8 O)) ∧ Fr No X w') := Lib.hid (fun X => by rw [hO]; exact rof_any p X hp h8)
  have HR1 : Hid (∀ X, Gl X → Calls Tryd.prog 11 #[.string (str k), .string (str s), .agg (arr .u8 T)] X fun ex w' => ex = .returned (.bool true) ∧ Fr No X w') := Lib.hid (fun X hX => by have h1 := right_any k s T X (by omega) (by omega) hTL hX; rw [← hT] at h1; simpa using h1)
  have HR2 : Hid (∀ X, Gl X → Calls Tryd.prog 11 #[.string (str k), .string (str s), .agg (arr .u8 h)] X fun ex w' => ex = .returned (.bool e1) ∧ Fr No X w') := Lib.hid (fun X hX => by have h1 := right_any k s h X (by omega) (by omega) hh hX; rw [← hT, ← he1] at h1; exact h1)
  have HOF : Hid (∀ X, Gl X → Calls Tryd.prog 12 #[.agg (arr .u8 p)] X fun ex w' => ex = .returned (.agg (arr .u8 O)) ∧ Fr No X w') := Lib.hid (fun X hX => by rw [hO]; exact of_any p X hp h8 hX)
  have HO1 : Hid (∀ X, Gl X → Calls Tryd.prog 13 #[.agg (arr .u8 p), .agg (arr .u8 O)] X fun ex w' => ex = .returned (.bool true) ∧ Fr No X w') := Lib.hid (fun X hX => by have h1 := opens_any p O X hp h8 hOL hX; rw [← hO] at h1; simpa using h1)
  have HO2 : Hid (∀ X, Gl X → Calls Tryd.prog 13 #[.agg (arr .u8 p), .agg (arr .u8 h)] X fun ex w' => ex = .returned (.bool e2) ∧ Fr No X w') := Lib.hid (fun X hX => by have h1 := opens_any p h X hp h8 hh hX; rw [← hO, ← he2] at h1; exact h1)
  have EQT : Hid (∀ X, (binOp .eql 23 (.agg (arr .u8 T)) (.agg (arr .u8 T))).run Tryd.prog X = .ok (.bool true) X) := Lib.hid (fun X => eql_h32 T hTL X)
  have EQO : Hid (∀ X, (binOp .eql 23 (.agg (arr .u8 O)) (.agg (arr .u8 O))).run Tryd.prog X = .ok (.bool true) X) := Lib.hid (fun X => eql_h32 O hOL X)
  have EQ1 : Hid (∀ X, (binOp .eql 23 (.agg (arr .u8 h)) (.agg (arr .u8 T))).run Tryd.prog X = .ok (.bool e1) X) := Lib.hid (fun X => by rw [eq_h32 h T hh hTL X, he1, BEq.comm])
  have EQ2 : Hid (∀ X, (binOp .eql 23 (.agg (arr .u8 h)) (.agg (arr .u8 O))).run Tryd.prog X = .ok (.bool e2) X) := Lib.hid (fun X => by rw [eq_h32 h O hh hOL X, he2, BEq.comm])
  have HTL := Lib.hid hTL
  have HOL := Lib.hid hOL
  have HP := Lib.hid hp
  have HH := Lib.hid hh
  have HG := Lib.hid hg
  have HF0 : Hid (Fr No w ((w.alloc (.cells (arr .u8 p) 23)).alloc (.cells (arr .u8 h) 23))) := Lib.hid (((Fr.refl No w).alloc _).alloc _)
  clear hn hm hT hO he1 he2 hTL hOL hk hs hp h8 hh hg
  go_enter Tryd.func3, Tryd.ntmps3
  go_wp2_with fail
  refine (shown3_any _ (HG.out.fr HF0.out (fun _ _ => id))).mono ?_
  rintro e w1 ⟨rfl, hF⟩
  have F1 := Lib.hid (HF0.out.trans hF)
  obtain ⟨bp, hbp⟩ : ∃ b, b = w.heap.size := ⟨_, rfl⟩
  obtain ⟨bh, hbh⟩ : ∃ b, b = w.heap.size + 1 := ⟨_, rfl⟩
  have P1 : Hid (Row w1 bp 23 .u8 p) := Lib.hid (by rw [hbp]; exact Row.fr ((Row.new w 23 .u8 p).alloc _) hF id)
  have H1 : Hid (Row w1 bh 23 .u8 h) := Lib.hid (by rw [hbh]; exact Row.fr (Row.new2 w _ 23 .u8 h) hF id)
  rw [← hbh, ← hbp]
  clear hF hbp hbh HF0
  go_wp2_with fail
  refine (HRT.out _).mono ?_
  rintro e w2 ⟨rfl, hF⟩
  have F2 := Lib.hid (F1.out.trans hF)
  have P2 := Lib.hid (P1.out.fr hF id)
  have H2 := Lib.hid (H1.out.fr hF id)
  clear hF P1 H1 F1
  go_wp2_with (first
    | (refine wpList_store_row rfl 23 _ _ rfl w2.heap.size rfl (arr .u8 T) rfl (Row.new w2 23 .u8 (List.replicate 32 0)) arHash (by rfl) (by rw [arr_size]; exact HTL.out) (arr_one .u8 T) ?_
       refine wpList_world (fun W => Fr No w2 W ∧ Row W w2.heap.size 23 .u8 T) ⟨fr_setRow ((Fr.refl No w2).alloc _) (.inr (Nat.le_refl _)) _, (Row.new w2 23 .u8 (List.replicate 32 0)).setRow⟩ ?_
       rintro w3 ⟨hF3, hR3⟩
       have F3 := Lib.hid (F2.out.trans hF3)
       have P3 := Lib.hid (P2.out.fr (S := No) hF3 id)
       have H3 := Lib.hid (H2.out.fr (S := No) hF3 id)
       have T3 := Lib.hid hR3
       clear hF3 hR3)
    | (refine wpList_load_eq rfl 23 _ rfl (.pointer (some ⟨bp, 0, none⟩)) (.agg (arr .u8 p)) rfl (P3.out.load arHash HP.out) ?_))
  refine (HRO.out _).mono ?_
  rintro e w4 ⟨rfl, hF⟩
  obtain ⟨bt, hbt⟩ : ∃ b, b = w2.heap.size := ⟨_, rfl⟩
  rw [← hbt] at T3
  rw [← hbt]
  have F4 := Lib.hid (F3.out.trans hF)
  have P4 := Lib.hid (P3.out.fr hF id)
  have H4 := Lib.hid (H3.out.fr hF id)
  have T4 := Lib.hid (T3.out.fr hF id)
  clear hF P3 H3 T3 F3 hbt P2 H2 F2
  go_wp2_with (refine wpList_store_row rfl 23 _ _ rfl w4.heap.size rfl (arr .u8 O) rfl (Row.new w4 23 .u8 (List.replicate 32 0)) arHash (by rfl) (by rw [arr_size]; exact HOL.out) (arr_one .u8 O) ?_
               refine wpList_world (fun W => Fr No w4 W ∧ Row W w4.heap.size 23 .u8 O) ⟨fr_setRow ((Fr.refl No w4).alloc _) (.inr (Nat.le_refl _)) _, (Row.new w4 23 .u8 (List.replicate 32 0)).setRow⟩ ?_
               rintro w5 ⟨hF5, hR5⟩
               have F5 := Lib.hid (F4.out.trans hF5)
               have P5 := Lib.hid (P4.out.fr (S := No) hF5 id)
               have H5 := Lib.hid (H4.out.fr (S := No) hF5 id)
               have T5 := Lib.hid (T4.out.fr (S := No) hF5 id)
               have O5 := Lib.hid hR5
               clear hF5 hR5)
  obtain ⟨bo, hbo⟩ : ∃ b, b = w4.heap.size := ⟨_, rfl⟩
  rw [← hbo] at O5
  rw [← hbo]
  have LP : Hid (∀ X, Fr No w5 X → (Instr.loadAt 23 (.pointer (some ⟨bp, 0, none⟩))).run Tryd.prog X = .ok (.agg (arr .u8 p)) X) := Lib.hid (fun X hX => (P5.out.fr hX id).load arHash HP.out)
  have LH : Hid (∀ X, Fr No w5 X → (Instr.loadAt 23 (.pointer (some ⟨bh, 0, none⟩))).run Tryd.prog X = .ok (.agg (arr .u8 h)) X) := Lib.hid (fun X hX => (H5.out.fr hX id).load arHash HH.out)
  have LT : Hid (∀ X, Fr No w5 X → (Instr.loadAt 23 (.pointer (some ⟨bt, 0, none⟩))).run Tryd.prog X = .ok (.agg (arr .u8 T)) X) := Lib.hid (fun X hX => (T5.out.fr hX id).load arHash HTL.out)
  have LO : Hid (∀ X, Fr No w5 X → (Instr.loadAt 23 (.pointer (some ⟨bo, 0, none⟩))).run Tryd.prog X = .ok (.agg (arr .u8 O)) X) := Lib.hid (fun X hX => (O5.out.fr hX id).load arHash HOL.out)
  have G5 : Hid (∀ X, Fr No w5 X → Gl X) := Lib.hid (fun X hX => HG.out.fr (F5.out.trans hX) (fun _ _ => id))
  clear hbo P4 H4 T4 F4 P5 H5 T5 O5 HG
  refine wp_region_held_drew (S := (fun X => Fr No w5 X)) (by kernel_rfl) ((Fr.refl _ w5).drew) (fun hHeld => ?_)
  refine takeD (i := 0) (d := some 29) (v := ?_) rfl (by kernel_rfl) (by kernel_rfl) (by kernel_rfl) (by kernel_rfl) (fun _ _ _ h => h) (Or.inl ⟨by kernel_rfl, fun X hX => Or.inl ?_⟩) (by assumption) ?_
  rotate_left
  · first | (go_simp; done) | (go_simp; with_reducible rfl)
  (try simp only [Act.put]); (try simp only [List.setIfInBounds_toArray]); (try simp only [List.set_cons_succ]); (try simp only [List.set_cons_zero])
  refine takeD (i := 1) (d := some 30) (v := ?_) rfl (by kernel_rfl) (by kernel_rfl) (by kernel_rfl) (by kernel_rfl) (fun _ _ _ h => h) (Or.inl ⟨by kernel_rfl, fun X hX => Or.inl ?_⟩) (by assumption) ?_
  rotate_left
  · first | (go_simp; done) | (go_simp; with_reducible rfl)
  (try simp only [Act.put]); (try simp only [List.setIfInBounds_toArray]); (try simp only [List.set_cons_succ]); (try simp only [List.set_cons_zero])
  refine takeD (i := 3) (d := some 32) (v := .agg (arr .u8 T)) rfl (by kernel_rfl) (by kernel_rfl) (by kernel_rfl) (by kernel_rfl) (fun _ _ _ h => h) (Or.inl ⟨by kernel_rfl, fun X hX => Or.inl (exec_load 23 (.tmp 9) rfl _ _ rfl (LT.out X hX))⟩) (by assumption) ?_
  (try simp only [Act.put]); (try simp only [List.setIfInBounds_toArray]); (try simp only [List.set_cons_succ]); (try simp only [List.set_cons_zero])
  refine wpAnyH_ready (rs := [2]) (by kernel_rfl) (by simp) ?_
  refine AllReadyH.cons rfl (fun K hK => ?_) AllReadyH.nil
  rw [if_pos (by kernel_rfl)]
  go_simp
  refine (HT.out _ (G5.out _ hHeld)).mono ?_
  rintro e y1 ⟨rfl, hF⟩
  have Fy1 := Lib.hid (hHeld.trans hF)
  clear hF
  refine hK.out _ _ (Fy1.out) (fun hHeld => ?_)
  clear hK K
  (try simp only [Act.put]); (try simp only [List.setIfInBounds_toArray]); (try simp only [List.set_cons_succ]); (try simp only [List.set_cons_zero])
  refine takeD (i := 4) (d := some 33) (v := .bool true) rfl (by kernel_rfl) (by kernel_rfl) (by kernel_rfl) (by kernel_rfl) (fun _ _ _ h => h) (Or.inl ⟨by kernel_rfl, fun X hX => Or.inl (exec_bin .eql 23 (.tmp 31) (.tmp 32) 23 rfl _ _ _ rfl rfl (by kernel_rfl) (EQT.out X))⟩) (by assumption) ?_
  (try simp only [Act.put]); (try simp only [List.setIfInBounds_toArray]); (try simp only [List.set_cons_succ]); (try simp only [List.set_cons_zero])
  refine takeD (i := 5) (d := some 34) (v := ?_) rfl (by kernel_rfl) (by kernel_rfl) (by kernel_rfl) (by kernel_rfl) (fun _ _ _ h => h) (Or.inl ⟨by kernel_rfl, fun X hX => Or.inl ?_⟩) (by assumption) ?_
  rotate_left
  · first | (go_simp; done) | (go_simp; with_reducible rfl)
  (try simp only [Act.put]); (try simp only [List.setIfInBounds_toArray]); (try simp only [List.set_cons_succ]); (try simp only [List.set_cons_zero])
  refine takeD (i := 6) (d := some 35) (v := ?_) rfl (by kernel_rfl) (by kernel_rfl) (by kernel_rfl) (by kernel_rfl) (fun _ _ _ h => h) (Or.inl ⟨by kernel_rfl, fun X hX => Or.inl ?_⟩) (by assumption) ?_
  rotate_left
  · first | (go_simp; done) | (go_simp; with_reducible rfl)
  (try simp only [Act.put]); (try simp only [List.setIfInBounds_toArray]); (try simp only [List.set_cons_succ]); (try simp only [List.set_cons_zero])
  refine takeD (i := 7) (d := some 36) (v := ?_) rfl (by kernel_rfl) (by kernel_rfl) (by kernel_rfl) (by kernel_rfl) (fun _ _ _ h => h) (Or.inl ⟨by kernel_rfl, fun X hX => Or.inl ?_⟩) (by assumption) ?_
  rotate_left
  · first | (go_simp; done) | (go_simp; with_reducible rfl)
  (try simp only [Act.put]); (try simp only [List.setIfInBounds_toArray]); (try simp only [List.set_cons_succ]); (try simp only [List.set_cons_zero])
  refine takeD (i := 8) (d := some 37) (v := .agg (arr .u8 T)) rfl (by kernel_rfl) (by kernel_rfl) (by kernel_rfl) (by kernel_rfl) (fun _ _ _ h => h) (Or.inl ⟨by kernel_rfl, fun X hX => Or.inl (exec_load 23 (.tmp 9) rfl _ _ rfl (LT.out X hX))⟩) (by assumption) ?_
  (try simp only [Act.put]); (try simp only [List.setIfInBounds_toArray]); (try simp only [List.set_cons_succ]); (try simp only [List.set_cons_zero])
  refine wpAnyH_ready (rs := [9]) (by kernel_rfl) (by simp) ?_
  refine AllReadyH.cons rfl (fun K hK => ?_) AllReadyH.nil
  rw [if_pos (by kernel_rfl)]
  go_simp
  refine (HR1.out _ (G5.out _ hHeld)).mono ?_
  rintro e y2 ⟨rfl, hF⟩
  have Fy2 := Lib.hid (hHeld.trans hF)
  clear hF
  refine hK.out _ _ (Fy2.out) (fun hHeld => ?_)
  clear hK K
  (try simp only [Act.put]); (try simp only [List.setIfInBounds_toArray]); (try simp only [List.set_cons_succ]); (try simp only [List.set_cons_zero])
  refine takeD (i := 10) (d := some 39) (v := ?_) rfl (by kernel_rfl) (by kernel_rfl) (by kernel_rfl) (by kernel_rfl) (fun _ _ _ h => h) (Or.inl ⟨by kernel_rfl, fun X hX => Or.inl ?_⟩) (by assumption) ?_
  rotate_left
  · first | (go_simp; done) | (go_simp; with_reducible rfl)
  (try simp only [Act.put]); (try simp only [List.setIfInBounds_toArray]); (try simp only [List.set_cons_succ]); (try simp only [List.set_cons_zero])
  refine takeD (i := 11) (d := some 40) (v := ?_) rfl (by kernel_rfl) (by kernel_rfl) (by kernel_rfl) (by kernel_rfl) (fun _ _ _ h => h) (Or.inl ⟨by kernel_rfl, fun X hX => Or.inl ?_⟩) (by assumption) ?_
  rotate_left
  · first | (go_simp; done) | (go_simp; with_reducible rfl)
  (try simp only [Act.put]); (try simp only [List.setIfInBounds_toArray]); (try simp only [List.set_cons_succ]); (try simp only [List.set_cons_zero])
  refine takeD (i := 12) (d := some 41) (v := ?_) rfl (by kernel_rfl) (by kernel_rfl) (by kernel_rfl) (by kernel_rfl) (fun _ _ _ h => h) (Or.inl ⟨by kernel_rfl, fun X hX => Or.inl ?_⟩) (by assumption) ?_
  rotate_left
  · first | (go_simp; done) | (go_simp; with_reducible rfl)
  (try simp only [Act.put]); (try simp only [List.setIfInBounds_toArray]); (try simp only [List.set_cons_succ]); (try simp only [List.set_cons_zero])
  refine takeD (i := 13) (d := some 42) (v := ?_) rfl (by kernel_rfl) (by kernel_rfl) (by kernel_rfl) (by kernel_rfl) (fun _ _ _ h => h) (Or.inl ⟨by kernel_rfl, fun X hX => Or.inl ?_⟩) (by assumption) ?_
  rotate_left
  · first | (go_simp; done) | (go_simp; with_reducible rfl)
  (try simp only [Act.put]); (try simp only [List.setIfInBounds_toArray]); (try simp only [List.set_cons_succ]); (try simp only [List.set_cons_zero])
  refine takeD (i := 14) (d := some 43) (v := .agg (arr .u8 h)) rfl (by kernel_rfl) (by kernel_rfl) (by kernel_rfl) (by kernel_rfl) (fun _ _ _ h => h) (Or.inl ⟨by kernel_rfl, fun X hX => Or.inl (exec_load 23 (.tmp 7) rfl _ _ rfl (LH.out X hX))⟩) (by assumption) ?_
  (try simp only [Act.put]); (try simp only [List.setIfInBounds_toArray]); (try simp only [List.set_cons_succ]); (try simp only [List.set_cons_zero])
  refine takeD (i := 16) (d := some 45) (v := .agg (arr .u8 h)) rfl (by kernel_rfl) (by kernel_rfl) (by kernel_rfl) (by kernel_rfl) (fun _ _ _ h => h) (Or.inl ⟨by kernel_rfl, fun X hX => Or.inl (exec_load 23 (.tmp 7) rfl _ _ rfl (LH.out X hX))⟩) (by assumption) ?_
  (try simp only [Act.put]); (try simp only [List.setIfInBounds_toArray]); (try simp only [List.set_cons_succ]); (try simp only [List.set_cons_zero])
  refine takeD (i := 17) (d := some 46) (v := .agg (arr .u8 T)) rfl (by kernel_rfl) (by kernel_rfl) (by kernel_rfl) (by kernel_rfl) (fun _ _ _ h => h) (Or.inl ⟨by kernel_rfl, fun X hX => Or.inl (exec_load 23 (.tmp 9) rfl _ _ rfl (LT.out X hX))⟩) (by assumption) ?_
  (try simp only [Act.put]); (try simp only [List.setIfInBounds_toArray]); (try simp only [List.set_cons_succ]); (try simp only [List.set_cons_zero])
  refine takeD (i := 18) (d := some 47) (v := .bool e1) rfl (by kernel_rfl) (by kernel_rfl) (by kernel_rfl) (by kernel_rfl) (fun _ _ _ h => h) (Or.inl ⟨by kernel_rfl, fun X hX => Or.inl (exec_bin .eql 23 (.tmp 45) (.tmp 46) 23 rfl _ _ _ rfl rfl (by kernel_rfl) (EQ1.out X))⟩) (by assumption) ?_
  (try simp only [Act.put]); (try simp only [List.setIfInBounds_toArray]); (try simp only [List.set_cons_succ]); (try simp only [List.set_cons_zero])
  refine wpAnyH_ready (rs := [15]) (by kernel_rfl) (by simp) ?_
  refine AllReadyH.cons rfl (fun K hK => ?_) AllReadyH.nil
  rw [if_pos (by kernel_rfl)]
  go_simp
  refine (HR2.out _ (G5.out _ hHeld)).mono ?_
  rintro e y3 ⟨rfl, hF⟩
  have Fy3 := Lib.hid (hHeld.trans hF)
  clear hF
  refine hK.out _ _ (Fy3.out) (fun hHeld => ?_)
  clear hK K
  (try simp only [Act.put]); (try simp only [List.setIfInBounds_toArray]); (try simp only [List.set_cons_succ]); (try simp only [List.set_cons_zero])
  refine takeD (i := 19) (d := some 48) (v := .bool true) rfl (by kernel_rfl) (by kernel_rfl) (by kernel_rfl) (by kernel_rfl) (fun _ _ _ h => h) (Or.inl ⟨by kernel_rfl, fun X hX => Or.inl (exec_bin .eql 4 (.tmp 44) (.tmp 47) 4 rfl _ _ _ rfl rfl (by kernel_rfl) (eql_bool e1 X))⟩) (by assumption) ?_
  (try simp only [Act.put]); (try simp only [List.setIfInBounds_toArray]); (try simp only [List.set_cons_succ]); (try simp only [List.set_cons_zero])
  refine takeD (i := 20) (d := some 49) (v := ?_) rfl (by kernel_rfl) (by kernel_rfl) (by kernel_rfl) (by kernel_rfl) (fun _ _ _ h => h) (Or.inl ⟨by kernel_rfl, fun X hX => Or.inl ?_⟩) (by assumption) ?_
  rotate_left
  · first | (go_simp; done) | (go_simp; with_reducible rfl)
  (try simp only [Act.put]); (try simp only [List.setIfInBounds_toArray]); (try simp only [List.set_cons_succ]); (try simp only [List.set_cons_zero])
  refine takeD (i := 21) (d := some 50) (v := ?_) rfl (by kernel_rfl) (by kernel_rfl) (by kernel_rfl) (by kernel_rfl) (fun _ _ _ h => h) (Or.inl ⟨by kernel_rfl, fun X hX => Or.inl ?_⟩) (by assumption) ?_
  rotate_left
  · first | (go_simp; done) | (go_simp; with_reducible rfl)
  (try simp only [Act.put]); (try simp only [List.setIfInBounds_toArray]); (try simp only [List.set_cons_succ]); (try simp only [List.set_cons_zero])
  refine takeD (i := 22) (d := some 51) (v := .agg (arr .u8 p)) rfl (by kernel_rfl) (by kernel_rfl) (by kernel_rfl) (by kernel_rfl) (fun _ _ _ h => h) (Or.inl ⟨by kernel_rfl, fun X hX => Or.inl (exec_load 23 (.tmp 6) rfl _ _ rfl (LP.out X hX))⟩) (by assumption) ?_
  (try simp only [Act.put]); (try simp only [List.setIfInBounds_toArray]); (try simp only [List.set_cons_succ]); (try simp only [List.set_cons_zero])
  refine takeD (i := 24) (d := some 53) (v := .agg (arr .u8 O)) rfl (by kernel_rfl) (by kernel_rfl) (by kernel_rfl) (by kernel_rfl) (fun _ _ _ h => h) (Or.inl ⟨by kernel_rfl, fun X hX => Or.inl (exec_load 23 (.tmp 10) rfl _ _ rfl (LO.out X hX))⟩) (by assumption) ?_
  (try simp only [Act.put]); (try simp only [List.setIfInBounds_toArray]); (try simp only [List.set_cons_succ]); (try simp only [List.set_cons_zero])
  refine wpAnyH_ready (rs := [23]) (by kernel_rfl) (by simp) ?_
  refine AllReadyH.cons rfl (fun K hK => ?_) AllReadyH.nil
  rw [if_pos (by kernel_rfl)]
  go_simp
  refine (HOF.out _ (G5.out _ hHeld)).mono ?_
  rintro e y4 ⟨rfl, hF⟩
  have Fy4 := Lib.hid (hHeld.trans hF)
  clear hF
  refine hK.out _ _ (Fy4.out) (fun hHeld => ?_)
  clear hK K
  (try simp only [Act.put]); (try simp only [List.setIfInBounds_toArray]); (try simp only [List.set_cons_succ]); (try simp only [List.set_cons_zero])
  refine takeD (i := 25) (d := some 54) (v := .bool true) rfl (by kernel_rfl) (by kernel_rfl) (by kernel_rfl) (by kernel_rfl) (fun _ _ _ h => h) (Or.inl ⟨by kernel_rfl, fun X hX => Or.inl (exec_bin .eql 23 (.tmp 52) (.tmp 53) 23 rfl _ _ _ rfl rfl (by kernel_rfl) (EQO.out X))⟩) (by assumption) ?_
  (try simp only [Act.put]); (try simp only [List.setIfInBounds_toArray]); (try simp only [List.set_cons_succ]); (try simp only [List.set_cons_zero])
  refine takeD (i := 26) (d := some 55) (v := ?_) rfl (by kernel_rfl) (by kernel_rfl) (by kernel_rfl) (by kernel_rfl) (fun _ _ _ h => h) (Or.inl ⟨by kernel_rfl, fun X hX => Or.inl ?_⟩) (by assumption) ?_
  rotate_left
  · first | (go_simp; done) | (go_simp; with_reducible rfl)
  (try simp only [Act.put]); (try simp only [List.setIfInBounds_toArray]); (try simp only [List.set_cons_succ]); (try simp only [List.set_cons_zero])
  refine takeD (i := 27) (d := some 56) (v := ?_) rfl (by kernel_rfl) (by kernel_rfl) (by kernel_rfl) (by kernel_rfl) (fun _ _ _ h => h) (Or.inl ⟨by kernel_rfl, fun X hX => Or.inl ?_⟩) (by assumption) ?_
  rotate_left
  · first | (go_simp; done) | (go_simp; with_reducible rfl)
  (try simp only [Act.put]); (try simp only [List.setIfInBounds_toArray]); (try simp only [List.set_cons_succ]); (try simp only [List.set_cons_zero])
  refine takeD (i := 28) (d := some 57) (v := .agg (arr .u8 p)) rfl (by kernel_rfl) (by kernel_rfl) (by kernel_rfl) (by kernel_rfl) (fun _ _ _ h => h) (Or.inl ⟨by kernel_rfl, fun X hX => Or.inl (exec_load 23 (.tmp 6) rfl _ _ rfl (LP.out X hX))⟩) (by assumption) ?_
  (try simp only [Act.put]); (try simp only [List.setIfInBounds_toArray]); (try simp only [List.set_cons_succ]); (try simp only [List.set_cons_zero])
  refine takeD (i := 29) (d := some 58) (v := .agg (arr .u8 O)) rfl (by kernel_rfl) (by kernel_rfl) (by kernel_rfl) (by kernel_rfl) (fun _ _ _ h => h) (Or.inl ⟨by kernel_rfl, fun X hX => Or.inl (exec_load 23 (.tmp 10) rfl _ _ rfl (LO.out X hX))⟩) (by assumption) ?_
  (try simp only [Act.put]); (try simp only [List.setIfInBounds_toArray]); (try simp only [List.set_cons_succ]); (try simp only [List.set_cons_zero])
  refine wpAnyH_ready (rs := [30]) (by kernel_rfl) (by simp) ?_
  refine AllReadyH.cons rfl (fun K hK => ?_) AllReadyH.nil
  rw [if_pos (by kernel_rfl)]
  go_simp
  refine (HO1.out _ (G5.out _ hHeld)).mono ?_
  rintro e y5 ⟨rfl, hF⟩
  have Fy5 := Lib.hid (hHeld.trans hF)
  clear hF
  refine hK.out _ _ (Fy5.out) (fun hHeld => ?_)
  clear hK K
  (try simp only [Act.put]); (try simp only [List.setIfInBounds_toArray]); (try simp only [List.set_cons_succ]); (try simp only [List.set_cons_zero])
  refine takeD (i := 31) (d := some 60) (v := ?_) rfl (by kernel_rfl) (by kernel_rfl) (by kernel_rfl) (by kernel_rfl) (fun _ _ _ h => h) (Or.inl ⟨by kernel_rfl, fun X hX => Or.inl ?_⟩) (by assumption) ?_
  rotate_left
  · first | (go_simp; done) | (go_simp; with_reducible rfl)
  (try simp only [Act.put]); (try simp only [List.setIfInBounds_toArray]); (try simp only [List.set_cons_succ]); (try simp only [List.set_cons_zero])
  refine takeD (i := 32) (d := some 61) (v := ?_) rfl (by kernel_rfl) (by kernel_rfl) (by kernel_rfl) (by kernel_rfl) (fun _ _ _ h => h) (Or.inl ⟨by kernel_rfl, fun X hX => Or.inl ?_⟩) (by assumption) ?_
  rotate_left
  · first | (go_simp; done) | (go_simp; with_reducible rfl)
  (try simp only [Act.put]); (try simp only [List.setIfInBounds_toArray]); (try simp only [List.set_cons_succ]); (try simp only [List.set_cons_zero])
  refine takeD (i := 33) (d := some 62) (v := .agg (arr .u8 p)) rfl (by kernel_rfl) (by kernel_rfl) (by kernel_rfl) (by kernel_rfl) (fun _ _ _ h => h) (Or.inl ⟨by kernel_rfl, fun X hX => Or.inl (exec_load 23 (.tmp 6) rfl _ _ rfl (LP.out X hX))⟩) (by assumption) ?_
  (try simp only [Act.put]); (try simp only [List.setIfInBounds_toArray]); (try simp only [List.set_cons_succ]); (try simp only [List.set_cons_zero])
  refine takeD (i := 34) (d := some 63) (v := .agg (arr .u8 h)) rfl (by kernel_rfl) (by kernel_rfl) (by kernel_rfl) (by kernel_rfl) (fun _ _ _ h => h) (Or.inl ⟨by kernel_rfl, fun X hX => Or.inl (exec_load 23 (.tmp 7) rfl _ _ rfl (LH.out X hX))⟩) (by assumption) ?_
  (try simp only [Act.put]); (try simp only [List.setIfInBounds_toArray]); (try simp only [List.set_cons_succ]); (try simp only [List.set_cons_zero])
  refine takeD (i := 36) (d := some 65) (v := .agg (arr .u8 h)) rfl (by kernel_rfl) (by kernel_rfl) (by kernel_rfl) (by kernel_rfl) (fun _ _ _ h => h) (Or.inl ⟨by kernel_rfl, fun X hX => Or.inl (exec_load 23 (.tmp 7) rfl _ _ rfl (LH.out X hX))⟩) (by assumption) ?_
  (try simp only [Act.put]); (try simp only [List.setIfInBounds_toArray]); (try simp only [List.set_cons_succ]); (try simp only [List.set_cons_zero])
  refine takeD (i := 37) (d := some 66) (v := .agg (arr .u8 O)) rfl (by kernel_rfl) (by kernel_rfl) (by kernel_rfl) (by kernel_rfl) (fun _ _ _ h => h) (Or.inl ⟨by kernel_rfl, fun X hX => Or.inl (exec_load 23 (.tmp 10) rfl _ _ rfl (LO.out X hX))⟩) (by assumption) ?_
  (try simp only [Act.put]); (try simp only [List.setIfInBounds_toArray]); (try simp only [List.set_cons_succ]); (try simp only [List.set_cons_zero])
  refine takeD (i := 38) (d := some 67) (v := .bool e2) rfl (by kernel_rfl) (by kernel_rfl) (by kernel_rfl) (by kernel_rfl) (fun _ _ _ h => h) (Or.inl ⟨by kernel_rfl, fun X hX => Or.inl (exec_bin .eql 23 (.tmp 65) (.tmp 66) 23 rfl _ _ _ rfl rfl (by kernel_rfl) (EQ2.out X))⟩) (by assumption) ?_
  (try simp only [Act.put]); (try simp only [List.setIfInBounds_toArray]); (try simp only [List.set_cons_succ]); (try simp only [List.set_cons_zero])
  refine wpAnyH_ready (rs := [35]) (by kernel_rfl) (by simp) ?_
  refine AllReadyH.cons rfl (fun K hK => ?_) AllReadyH.nil
  rw [if_pos (by kernel_rfl)]
  go_simp
  refine (HO2.out _ (G5.out _ hHeld)).mono ?_
  rintro e y6 ⟨rfl, hF⟩
  have Fy6 := Lib.hid (hHeld.trans hF)
  clear hF
  refine hK.out _ _ (Fy6.out) (fun hHeld => ?_)
  clear hK K
  (try simp only [Act.put]); (try simp only [List.setIfInBounds_toArray]); (try simp only [List.set_cons_succ]); (try simp only [List.set_cons_zero])
  refine takeD (i := 39) (d := some 68) (v := .bool true) rfl (by kernel_rfl) (by kernel_rfl) (by kernel_rfl) (by kernel_rfl) (fun _ _ _ h => h) (Or.inl ⟨by kernel_rfl, fun X hX => Or.inl (exec_bin .eql 4 (.tmp 64) (.tmp 67) 4 rfl _ _ _ rfl rfl (by kernel_rfl) (eql_bool e2 X))⟩) (by assumption) ?_
  (try simp only [Act.put]); (try simp only [List.setIfInBounds_toArray]); (try simp only [List.set_cons_succ]); (try simp only [List.set_cons_zero])
  refine takeD (i := 40) (d := some 69) (v := ?_) rfl (by kernel_rfl) (by kernel_rfl) (by kernel_rfl) (by kernel_rfl) (fun _ _ _ h => h) (Or.inl ⟨by kernel_rfl, fun X hX => Or.inl ?_⟩) (by assumption) ?_
  rotate_left
  · first | (go_simp; done) | (go_simp; with_reducible rfl)
  (try simp only [Act.put]); (try simp only [List.setIfInBounds_toArray]); (try simp only [List.set_cons_succ]); (try simp only [List.set_cons_zero])
  refine takeD (i := 41) (d := some 8) (v := ?_) rfl (by kernel_rfl) (by kernel_rfl) (by kernel_rfl) (by kernel_rfl) (fun _ _ _ h => h) (Or.inl ⟨by kernel_rfl, fun X hX => Or.inl ?_⟩) (by assumption) ?_
  rotate_left
  · first | (go_simp; done) | (go_simp; with_reducible rfl)
  (try simp only [Act.put]); (try simp only [List.setIfInBounds_toArray]); (try simp only [List.set_cons_succ]); (try simp only [List.set_cons_zero])
  refine wpAnyH_done (by kernel_rfl) ?_ _
  have HX := Lib.hid (F5.out.trans hHeld)
  clear hHeld
  go_wp2
  go_ret
  exact ⟨rfl, HX.out⟩

theorem tags_walk (k s : ByteArray) (p h : List Nat) (w : World) (hk : k.size ≤ maxLen) (hs : s.size ≤ maxLen) (hp : p.length = 32) (h8 : B8 p) (hh : h.length = 32) (hg : Gl w) :
    Calls Tryd.prog 3 #[.string k, .string s, .agg (arr .u8 p), .agg (arr .u8 h)] w fun e w' => e = .returned (.bool true) ∧ Fr No w w' := by
  have e1 : k = str k.data.toList := by apply ByteArray.ext; simp [str]
  have e2 : s = str s.data.toList := by apply ByteArray.ext; simp [str]
  have l1 : k.data.toList.length = k.size := rfl
  have l2 : s.data.toList.length = s.size := rfl
  rw [e1, e2]
  by_cases h2 : k.size ≤ 300 ∧ s.size ≤ 600
  · exact tags_ok _ _ p h _ (by omega) (by omega) hp h8 hh hg
  · exact tags_big _ _ p h _ (by omega) (by omega) (by omega) hg

theorem tags_walk' (k s : ByteArray) (p h : List UInt8) (w : World) (hk : k.size ≤ maxLen) (hs : s.size ≤ maxLen) (hp : p.length = 32) (hh : h.length = 32) (hg : Gl w) :
    Calls Tryd.prog 3 #[.string k, .string s, .agg (p.map u8v).toArray, .agg (h.map u8v).toArray] w fun e w' => e = .returned (.bool true) ∧ Fr No w w' := by
  rw [arr_nb, arr_nb]
  exact tags_walk k s (nb p) (nb h) w hk hs (by rw [nb, List.length_map]; exact hp) (nb_b8 _) (by rw [nb, List.length_map]; exact hh) hg
end Go.Proofs.YtdemmillejgpoaaDoor
