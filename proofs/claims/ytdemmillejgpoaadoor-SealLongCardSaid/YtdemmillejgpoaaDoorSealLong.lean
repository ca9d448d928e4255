/- SealLong walked. -/
import Derived.Test.YtdemmillejgpoaaDoorSeaC
namespace Go.Proofs.YtdemmillejgpoaaDoor
open Go.RowKit
set_option linter.unusedVariables false

theorem wp_convert_eq {P : Program} {o : Oper} {a : Act} {w w' : World} {K : Act → World → Prop} {Q : Exit → Act → World → Prop} (s t : TypeId) (x : Operand) (ho : o.op = .convert s t x)
    (vx v : Value) (hx : a.eval x = vx) (hr : (convert s t vx).run P w = .ok v w') (h : K (a.put o.dst v) w') : o.wp P a w K Q := by
  unfold Oper.wp execOp
  simp only [ho, hx, hr, Sem.run_bind, Sem.run_pure, Result.andThen_ok]
  exact h

set_option maxHeartbeats 400000 in
theorem long_big (k s : List UInt8) (z : UInt8) (w : World) (hb : 300 < k.length ∨ 300 < s.length) (hk : k.length ≤ maxLen) (hs : s.length ≤ maxLen) (hg : Gl w) :
    Calls Tryd.prog 4 #[.string (str k), .string (str s), .int .u8 (z.toNat : Int)] w fun e w' => e = .returned (.bool true) ∧ Fr No w w' := by
  unfold maxLen at hk hs
  obtain ⟨n, hn⟩ : ∃ n, n = k.length := ⟨_, rfl⟩
  obtain ⟨m, hm⟩ : ∃ m, m = s.length := ⟨_, rfl⟩
  have hsz := (str_size k).trans hn.symm
  have hsz2 := (str_size s).trans hm.symm
  rw [← hn] at hb hk
  rw [← hm] at hb hs
  have HG := Lib.hid hg
  clear hg hn hm
  by_cases h1 : 300 < n
  · have h1 : (300 : Int) < (n : Int) := by omega
    clear hb
    go_enter Tryd.func4, Tryd.ntmps4
    go_wp2_with fail
    refine (shown3_any _ HG.out).mono ?_
    rintro e w1 ⟨rfl, hF⟩
    have HF := Lib.hid hF
    clear hF
    go_wp2
    go_ret
    exact ⟨rfl, HF.out⟩
  · have h2 : (300 : Int) < (m : Int) := by omega
    have h1 : ¬ (300 : Int) < (n : Int) := by omega
    clear hb
    go_enter Tryd.func4, Tryd.ntmps4
    go_wp2_with fail
    refine (shown3_any _ HG.out).mono ?_
    rintro e w1 ⟨rfl, hF⟩
    have HF := Lib.hid hF
    clear hF
    go_wp2
    go_ret
    exact ⟨rfl, HF.out⟩

set_option maxHeartbeats 1000000 in
set_option maxRecDepth 100000 in
theorem long_long (k s : List UInt8) (z : UInt8) (w : World) (hk0 : 64 < k.length) (hk : k.length ≤ 300) (hs : s.length ≤ 300) (hg : Gl w) :
    Calls Tryd.prog 4 #[.string (str k), .string (str s), .int .u8 (z.toNat : Int)] w fun e w' => e = .returned (.bool true) ∧ Fr No w w' := by
  obtain ⟨n, hn⟩ : ∃ n, n = k.length := ⟨_, rfl⟩
  obtain ⟨m, hm⟩ : ∃ m, m = s.length := ⟨_, rfl⟩
  obtain ⟨T, hT⟩ : ∃ T, T = tagL k s := ⟨_, rfl⟩
  obtain ⟨D, hD⟩ : ∃ D, D = sumL k := ⟨_, rfl⟩
  obtain ⟨kk, hkk⟩ : ∃ kk, kk = bn D := ⟨_, rfl⟩
  have hTL : T.length = 32 := by rw [hT]; exact tagL_len _ _
  have hDL : D.length = 32 := by rw [hD]; exact sumL_len _
  have hsz : (str k).size = n := (str_size k).trans hn.symm
  have hsz2 : (str s).size = m := (str_size s).trans hm.symm
  have hn3 : ¬ (300 : Int) < (n : Int) := by omega
  have hn64 : (64 : Int) < (n : Int) := by omega
  have hm6 : ¬ (300 : Int) < (m : Int) := by omega
  have HT : Hid (∀ X, Gl X → Calls Tryd.prog 10 #[.string (str k), .string (str s)] X fun ex w' => ex = .returned (.agg (arr .u8 T)) ∧ Fr No X w') := Lib.hid (fun X hX => by rw [hT]; exact tag_any k s X (by omega) (by omega) hX)
  have HT2 : Hid (∀ X, Gl X → Calls Tryd.prog 10 #[.string (str kk), .string (str s)] X fun ex w' => ex = .returned (.agg (arr .u8 T)) ∧ Fr No X w') := Lib.hid (fun X hX => by rw [hT, ← tagL_long s hk0, ← hD, ← hkk]; exact tag_any kk s X (by rw [hkk, bn, List.length_map]; omega) (by omega) hX)
  have HS : Hid (∀ X, Gl X → Calls Tryd.prog 14 #[.string (str k)] X fun ex w' => ex = .returned (.agg (arr .u8 D)) ∧ Fr No X w') := Lib.hid (fun X hX => by rw [hD]; exact sum_any k X (by omega) hX)
  have HCV : Hid (∀ X g, Row X g 23 .u8 D → (convert 31 9 (.slice (some ⟨g, 0, none⟩) 32 32)).run Tryd.prog X = .ok (.string (str kk)) X) := Lib.hid (fun X g hR => by rw [hkk]; exact conv_row 32 hR hDL (by rw [hD]; exact sumL_b8 k))
  have EQT : Hid (∀ X, (binOp .eql 23 (.agg (arr .u8 T)) (.agg (arr .u8 T))).run Tryd.prog X = .ok (.bool true) X) := Lib.hid (fun X => eql_h32 T hTL X)
  have HTL := Lib.hid hTL
  have HDL := Lib.hid hDL
  have HG := Lib.hid hg
  clear hn hm hT hTL hD hDL hkk hk0 hk hs hg
  go_enter Tryd.func4, Tryd.ntmps4
  go_wp2_with fail
  refine (shown3_any _ HG.out).mono ?_
  rintro e w1 ⟨rfl, hF⟩
  have F1 := Lib.hid hF
  clear hF
  go_wp2_with fail
  refine (HT.out _ (HG.out.fr F1.out (fun _ _ => id))).mono ?_
  rintro e w2 ⟨rfl, hF⟩
  have F2 := Lib.hid (F1.out.trans hF)
  clear hF F1
  go_wp2_with (refine wpList_store_row rfl 23 _ _ rfl w2.heap.size rfl (arr .u8 T) rfl (Row.new w2 23 .u8 (List.replicate 32 0)) arHash (by rfl) (by rw [arr_size]; exact HTL.out) (arr_one .u8 T) ?_
               refine wpList_world (fun W => Fr No w2 W ∧ Row W w2.heap.size 23 .u8 T) ⟨fr_setRow ((Fr.refl No w2).alloc _) (.inr (Nat.le_refl _)) _, (Row.new w2 23 .u8 (List.replicate 32 0)).setRow⟩ ?_
               rintro w3 ⟨hF3, hR3⟩
               have F3 := Lib.hid (F2.out.trans hF3)
               have T3 := Lib.hid hR3
               clear hF3 hR3)
  refine (HS.out _ (HG.out.fr F3.out (fun _ _ => id))).mono ?_
  rintro e w4 ⟨rfl, hF⟩
  obtain ⟨bt, hbt⟩ : ∃ b, b = w2.heap.size := ⟨_, rfl⟩
  rw [← hbt] at T3
  rw [← hbt]
  have F4 := Lib.hid (F3.out.trans hF)
  have T4 := Lib.hid (T3.out.fr hF id)
  clear hF T3 F3 hbt F2
  go_wp2_with (refine wpList_store_row rfl 23 _ _ rfl w4.heap.size rfl (arr .u8 D) rfl (Row.new w4 23 .u8 (List.replicate 32 0)) arHash (by rfl) (by rw [arr_size]; exact HDL.out) (arr_one .u8 D) ?_
               refine wpList_world (fun W => Fr No w4 W ∧ Row W w4.heap.size 23 .u8 D) ⟨fr_setRow ((Fr.refl No w4).alloc _) (.inr (Nat.le_refl _)) _, (Row.new w4 23 .u8 (List.replicate 32 0)).setRow⟩ ?_
               rintro w5 ⟨hF5, hR5⟩
               have F5 := Lib.hid (F4.out.trans hF5)
               have T5 := Lib.hid (T4.out.fr (S := No) hF5 id)
               have D5 := Lib.hid hR5
               clear hF5 hR5)
  obtain ⟨bd, hbd⟩ : ∃ b, b = w4.heap.size := ⟨_, rfl⟩
  rw [← hbd] at D5
  rw [← hbd]
  have LT : Hid (∀ X, Fr No w5 X → (Instr.loadAt 23 (.pointer (some ⟨bt, 0, none⟩))).run Tryd.prog X = .ok (.agg (arr .u8 T)) X) := Lib.hid (fun X hX => (T5.out.fr hX id).load arHash HTL.out)
  have CV : Hid (∀ X, Fr No w5 X → (convert 31 9 (.slice (some ⟨bd, 0, none⟩) 32 32)).run Tryd.prog X = .ok (.string (str kk)) X) := Lib.hid (fun X hX => HCV.out X _ (D5.out.fr hX id))
  have G5 : Hid (∀ X, Fr No w5 X → Gl X) := Lib.hid (fun X hX => HG.out.fr (F5.out.trans hX) (fun _ _ => id))
  clear hbd T4 F4 T5 D5 HG
  refine wp_region_held_drew (S := (fun X => Fr No w5 X)) (by kernel_rfl) ((Fr.refl _ w5).drew) (fun hHeld => ?_)
  refine takeD (i := 0) (d := some 30) (v := .agg (arr .u8 T)) rfl (by kernel_rfl) (by kernel_rfl) (by kernel_rfl) (by kernel_rfl) (fun _ _ _ h => h) (Or.inl ⟨by kernel_rfl, fun X hX => Or.inl (exec_load 23 (.tmp 7) rfl _ _ rfl (LT.out X hX))⟩) (by assumption) ?_
  (try simp only [Act.put]); (try simp only [List.setIfInBounds_toArray]); (try simp only [List.set_cons_succ]); (try simp only [List.set_cons_zero])
  refine takeD (i := 1) (d := some 31) (v := ?_) rfl (by kernel_rfl) (by kernel_rfl) (by kernel_rfl) (by kernel_rfl) (fun _ _ _ h => h) (Or.inl ⟨by kernel_rfl, fun X hX => Or.inl ?_⟩) (by assumption) ?_
  rotate_left
  · first | (go_simp; done) | (go_simp; with_reducible rfl)
  (try simp only [Act.put]); (try simp only [List.setIfInBounds_toArray]); (try simp only [List.set_cons_succ]); (try simp only [List.set_cons_zero])
  refine takeD (i := 3) (d := some 33) (v := ?_) rfl (by kernel_rfl) (by kernel_rfl) (by kernel_rfl) (by kernel_rfl) (fun _ _ _ h => h) (Or.inl ⟨by kernel_rfl, fun X hX => Or.inl ?_⟩) (by assumption) ?_
  rotate_left
  · first | (go_simp; done) | (go_simp; with_reducible rfl)
  (try simp only [Act.put]); (try simp only [List.setIfInBounds_toArray]); (try simp only [List.set_cons_succ]); (try simp only [List.set_cons_zero])
  refine takeD (i := 2) (d := some 32) (v := .string (str kk)) rfl (by kernel_rfl) (by kernel_rfl) (by kernel_rfl) (by kernel_rfl) (fun _ _ _ h => h) (Or.inl ⟨by kernel_rfl, fun X hX => Or.inl (exec_convert 31 9 (.tmp 31) rfl _ _ rfl (CV.out X hX))⟩) (by assumption) ?_
  (try simp only [Act.put]); (try simp only [List.setIfInBounds_toArray]); (try simp only [List.set_cons_succ]); (try simp only [List.set_cons_zero])
  refine wpAnyH_ready (rs := [4]) (by kernel_rfl) (by simp) ?_
  refine AllReadyH.cons rfl (fun K hK => ?_) AllReadyH.nil
  rw [if_pos (by kernel_rfl)]
  go_simp
  refine (HT2.out _ (G5.out _ hHeld)).mono ?_
  rintro e y1 ⟨rfl, hF⟩
  have Fy1 := Lib.hid (hHeld.trans hF)
  clear hF
  refine hK.out _ _ (Fy1.out) (fun hHeld => ?_)
  clear hK K
  (try simp only [Act.put]); (try simp only [List.setIfInBounds_toArray]); (try simp only [List.set_cons_succ]); (try simp only [List.set_cons_zero])
  refine takeD (i := 5) (d := some 35) (v := .bool true) rfl (by kernel_rfl) (by kernel_rfl) (by kernel_rfl) (by kernel_rfl) (fun _ _ _ h => h) (Or.inl ⟨by kernel_rfl, fun X hX => Or.inl (exec_bin .eql 23 (.tmp 30) (.tmp 34) 23 rfl _ _ _ rfl rfl (by kernel_rfl) (EQT.out X))⟩) (by assumption) ?_
  (try simp only [Act.put]); (try simp only [List.setIfInBounds_toArray]); (try simp only [List.set_cons_succ]); (try simp only [List.set_cons_zero])
  refine takeD (i := 6) (d := some 6) (v := ?_) rfl (by kernel_rfl) (by kernel_rfl) (by kernel_rfl) (by kernel_rfl) (fun _ _ _ h => h) (Or.inl ⟨by kernel_rfl, fun X hX => Or.inl ?_⟩) (by assumption) ?_
  rotate_left
  · first | (go_simp; done) | (go_simp; with_reducible rfl)
  (try simp only [Act.put]); (try simp only [List.setIfInBounds_toArray]); (try simp only [List.set_cons_succ]); (try simp only [List.set_cons_zero])
  refine wpAnyH_done (by kernel_rfl) ?_ _
  have HX := Lib.hid (F5.out.trans hHeld)
  clear hHeld
  go_wp2
  go_ret
  exact ⟨rfl, HX.out⟩

set_option maxHeartbeats 1000000 in
set_option maxRecDepth 100000 in
theorem long_short (k s : List UInt8) (z : UInt8) (w : World) (hk0 : k.length ≤ 64) (hs : s.length ≤ 300) (hg : Gl w) :
    Calls Tryd.prog 4 #[.string (str k), .string (str s), .int .u8 (z.toNat : Int)] w fun e w' => e = .returned (.bool true) ∧ Fr No w w' := by
  obtain ⟨n, hn⟩ : ∃ n, n = k.length := ⟨_, rfl⟩
  obtain ⟨m, hm⟩ : ∃ m, m = s.length := ⟨_, rfl⟩
  obtain ⟨zn, hzn⟩ : ∃ zn, zn = z.toNat := ⟨_, rfl⟩
  obtain ⟨r, hr⟩ : ∃ r, r = 64 - n := ⟨_, rfl⟩
  obtain ⟨q, hq⟩ : ∃ q, q = min zn r := ⟨_, rfl⟩
  obtain ⟨T, hT⟩ : ∃ T, T = tagL k s := ⟨_, rfl⟩
  obtain ⟨Z, hZ⟩ : ∃ Z, Z = List.replicate q (0 : UInt8) := ⟨_, rfl⟩
  obtain ⟨kk, hkk⟩ : ∃ kk, kk = k ++ Z := ⟨_, rfl⟩
  have hTL : T.length = 32 := by rw [hT]; exact tagL_len _ _
  have hsz : (str k).size = n := (str_size k).trans hn.symm
  have hsz2 : (str s).size = m := (str_size s).trans hm.symm
  have hsz3 : (str Z).size = q := by rw [str_size, hZ, List.length_replicate]
  have hz8 : zn < 256 := by rw [hzn]; exact z.toNat_lt
  have hn3 : ¬ (300 : Int) < (n : Int) := by omega
  have hn64 : ¬ (64 : Int) < (n : Int) := by omega
  have hm6 : ¬ (300 : Int) < (m : Int) := by omega
  have hr1 : (64 : Int) - (n : Int) = (r : Int) := by omega
  have hwz : IntKind.i64.wrap (zn : Int) = (zn : Int) := by rw [IntKind.wrap_i64]; omega
  have hwr : IntKind.i64.wrap (r : Int) = (r : Int) := by rw [IntKind.wrap_i64]; omega
  have hq1 : (if r < zn then (r : Int) else (zn : Int)) = (q : Int) := by split <;> omega
  have hq64 : (q : Int) ≤ 64 := by omega
  have hn65 : (n : Int) ≤ 64 := by omega
  have hno : ¬ 9223372036854775807 < n + q := by omega
  have hcat : str k ++ str Z = str kk := by rw [str_append, hkk]
  have hmk := fun W => make_bytes q (by omega) W
  have HT : Hid (∀ X, Gl X → Calls Tryd.prog 10 #[.string (str k), .string (str s)] X fun ex w' => ex = .returned (.agg (arr .u8 T)) ∧ Fr No X w') := Lib.hid (fun X hX => by rw [hT]; exact tag_any k s X (by omega) (by omega) hX)
  have HT2 : Hid (∀ X, Gl X → Calls Tryd.prog 10 #[.string (str kk), .string (str s)] X fun ex w' => ex = .returned (.agg (arr .u8 T)) ∧ Fr No X w') := Lib.hid (fun X hX => by rw [hT, ← tagL_zeros s q (by omega), ← hZ, ← hkk]; exact tag_any kk s X (by rw [hkk, hZ]; simp; omega) (by omega) hX)
  have HCV : Hid (∀ X g, Row X g 5 .u8 (List.replicate q 0) → (convert 31 9 (.slice (some ⟨g, 0, none⟩) q q)).run Tryd.prog X = .ok (.string (str Z)) X) := Lib.hid (fun X g hR => by
    have h1 := conv_row (n := q) q hR (by simp) (fun x hx => by rw [List.eq_of_mem_replicate hx]; decide)
    rw [hZ]
    simpa using h1)
  have EQT : Hid (∀ X, (binOp .eql 23 (.agg (arr .u8 T)) (.agg (arr .u8 T))).run Tryd.prog X = .ok (.bool true) X) := Lib.hid (fun X => eql_h32 T hTL X)
  have HTL := Lib.hid hTL
  have HG := Lib.hid hg
  rw [← hzn]
  obtain ⟨A0, hA0⟩ : ∃ A0, A0 = arr .u8 (List.replicate q 0) := ⟨_, rfl⟩
  simp only [← hA0] at hmk
  have HA0 := Lib.hid hA0
  clear hn hm hT hTL hZ hkk hk0 hs hg hzn hr hq hA0
  go_enter Tryd.func4, Tryd.ntmps4
  go_wp2_with fail
  refine (shown3_any _ HG.out).mono ?_
  rintro e w1 ⟨rfl, hF⟩
  have F1 := Lib.hid hF
  clear hF
  go_wp2_with fail
  refine (HT.out _ (HG.out.fr F1.out (fun _ _ => id))).mono ?_
  rintro e w2 ⟨rfl, hF⟩
  have F2 := Lib.hid (F1.out.trans hF)
  clear hF F1
  go_wp2_with (refine wpList_store_row rfl 23 _ _ rfl w2.heap.size rfl (arr .u8 T) rfl (Row.new w2 23 .u8 (List.replicate 32 0)) arHash (by rfl) (by rw [arr_size]; exact HTL.out) (arr_one .u8 T) ?_
               refine wpList_world (fun W => Fr No w2 W ∧ Row W w2.heap.size 23 .u8 T) ⟨fr_setRow ((Fr.refl No w2).alloc _) (.inr (Nat.le_refl _)) _, (Row.new w2 23 .u8 (List.replicate 32 0)).setRow⟩ ?_
               rintro w3 ⟨hF3, hR3⟩
               have F3 := Lib.hid (F2.out.trans hF3)
               have T3 := Lib.hid hR3
               clear hF3 hR3)
  obtain ⟨bt, hbt⟩ : ∃ b, b = w2.heap.size := ⟨_, rfl⟩
  rw [← hbt] at T3
  rw [← hbt]
  have LT : Hid (∀ X, Fr No w3 X → (Instr.loadAt 23 (.pointer (some ⟨bt, 0, none⟩))).run Tryd.prog X = .ok (.agg (arr .u8 T)) X) := Lib.hid (fun X hX => (T3.out.fr hX id).load arHash HTL.out)
  have G3 : Hid (∀ X, Fr No w3 X → Gl X) := Lib.hid (fun X hX => HG.out.fr (F3.out.trans hX) (fun _ _ => id))
  clear hbt F2 T3 HG
  refine wp_region_held_drew (S := (fun X => Fr No w3 X)) (by kernel_rfl) ((Fr.refl _ w3).drew) (fun hHeld => ?_)
  refine takeD (i := 0) (d := some 36) (v := .agg (arr .u8 T)) rfl (by kernel_rfl) (by kernel_rfl) (by kernel_rfl) (by kernel_rfl) (fun _ _ _ h => h) (Or.inl ⟨by kernel_rfl, fun X hX => Or.inl (exec_load 23 (.tmp 7) rfl _ _ rfl (LT.out X hX))⟩) (by assumption) ?_
  (try simp only [Act.put]); (try simp only [List.setIfInBounds_toArray]); (try simp only [List.set_cons_succ]); (try simp only [List.set_cons_zero])
  refine takeD (i := 1) (d := some 37) (v := ?_) rfl (by kernel_rfl) (by kernel_rfl) (by kernel_rfl) (by kernel_rfl) (fun _ _ _ h => h) (Or.inl ⟨by kernel_rfl, fun X hX => Or.inl ?_⟩) (by assumption) ?_
  rotate_left
  · first | (go_simp; done) | (go_simp; with_reducible rfl)
  (try simp only [Act.put]); (try simp only [List.setIfInBounds_toArray]); (try simp only [List.set_cons_succ]); (try simp only [List.set_cons_zero])
  refine takeD (i := 2) (d := some 38) (v := ?_) rfl (by kernel_rfl) (by kernel_rfl) (by kernel_rfl) (by kernel_rfl) (fun _ _ _ h => h) (Or.inl ⟨by kernel_rfl, fun X hX => Or.inl ?_⟩) (by assumption) ?_
  rotate_left
  · first | (go_simp; done) | (go_simp; with_reducible rfl)
  (try simp only [Act.put]); (try simp only [List.setIfInBounds_toArray]); (try simp only [List.set_cons_succ]); (try simp only [List.set_cons_zero])
  refine takeD (i := 3) (d := some 39) (v := ?_) rfl (by kernel_rfl) (by kernel_rfl) (by kernel_rfl) (by kernel_rfl) (fun _ _ _ h => h) (Or.inl ⟨by kernel_rfl, fun X hX => Or.inl ?_⟩) (by assumption) ?_
  rotate_left
  · first | (go_simp; done) | (go_simp; with_reducible rfl)
  (try simp only [Act.put]); (try simp only [List.setIfInBounds_toArray]); (try simp only [List.set_cons_succ]); (try simp only [List.set_cons_zero])
  refine takeD (i := 4) (d := some 40) (v := ?_) rfl (by kernel_rfl) (by kernel_rfl) (by kernel_rfl) (by kernel_rfl) (fun _ _ _ h => h) (Or.inl ⟨by kernel_rfl, fun X hX => Or.inl ?_⟩) (by assumption) ?_
  rotate_left
  · first | (go_simp; done) | (go_simp; with_reducible rfl)
  (try simp only [Act.put]); (try simp only [List.setIfInBounds_toArray]); (try simp only [List.set_cons_succ]); (try simp only [List.set_cons_zero])
  refine takeD (i := 5) (d := some 41) (v := ?_) rfl (by kernel_rfl) (by kernel_rfl) (by kernel_rfl) (by kernel_rfl) (fun _ _ _ h => h) (Or.inl ⟨by kernel_rfl, fun X hX => Or.inl ?_⟩) (by assumption) ?_
  rotate_left
  · first | (go_simp; done) | (go_simp; with_reducible rfl)
  (try simp only [Act.put]); (try simp only [List.setIfInBounds_toArray]); (try simp only [List.set_cons_succ]); (try simp only [List.set_cons_zero])
  refine takeD (i := 6) (d := some 42) (v := ?_) rfl (by kernel_rfl) (by kernel_rfl) (by kernel_rfl) (by kernel_rfl) (fun _ _ _ h => h) (Or.inl ⟨by kernel_rfl, fun X hX => Or.inl ?_⟩) (by assumption) ?_
  rotate_left
  · first | (go_simp; done) | (go_simp; with_reducible rfl)
  (try simp only [Act.put]); (try simp only [List.setIfInBounds_toArray]); (try simp only [List.set_cons_succ]); (try simp only [List.set_cons_zero])
  refine takeD (i := 7) (d := some 43) (v := ?_) rfl (by kernel_rfl) (by kernel_rfl) (by kernel_rfl) (by kernel_rfl) (fun _ _ _ h => h) (Or.inl ⟨by kernel_rfl, fun X hX => Or.inl ?_⟩) (by assumption) ?_
  rotate_left
  · first | (go_simp; done) | (go_simp; with_reducible rfl)
  (try simp only [Act.put]); (try simp only [List.setIfInBounds_toArray]); (try simp only [List.set_cons_succ]); (try simp only [List.set_cons_zero])
  refine takeD (i := 11) (d := some 47) (v := ?_) rfl (by kernel_rfl) (by kernel_rfl) (by kernel_rfl) (by kernel_rfl) (fun _ _ _ h => h) (Or.inl ⟨by kernel_rfl, fun X hX => Or.inl ?_⟩) (by assumption) ?_
  rotate_left
  · first | (go_simp; done) | (go_simp; with_reducible rfl)
  (try simp only [Act.put]); (try simp only [List.setIfInBounds_toArray]); (try simp only [List.set_cons_succ]); (try simp only [List.set_cons_zero])
  refine wpAnyH_ready (rs := [8]) (by kernel_rfl) (by simp) ?_
  refine AllReadyH.cons rfl (fun K hK => ?_) AllReadyH.nil
  rw [if_pos (by kernel_rfl)]
  go_simp
  obtain ⟨w4, hw4⟩ : ∃ W, W = (w3.alloc (.cells A0 5)).drew := ⟨_, rfl⟩
  have F4 : Hid (Fr No w3 w4) := Lib.hid (by rw [hw4]; exact ((Fr.refl No w3).alloc _).drew)
  have CV : Hid ((convert 31 9 (.slice (some ⟨w3.heap.size, 0, none⟩) q q)).run Tryd.prog w4 = .ok (.string (str Z)) w4) := Lib.hid (HCV.out w4 _ (by rw [hw4, HA0.out]; exact Row.drew (Row.new w3 _ _ _)))
  rw [← hw4]
  clear hw4
  refine hK.out _ _ (F4.out) (fun hHeld => ?_)
  clear hK K
  (try simp only [Act.put]); (try simp only [List.setIfInBounds_toArray]); (try simp only [List.set_cons_succ]); (try simp only [List.set_cons_zero])
  refine wpAnyH_ready (rs := [9]) (by kernel_rfl) (by simp) ?_
  refine AllReadyH.cons rfl (fun K hK => ?_) AllReadyH.nil
  rw [if_pos (by kernel_rfl)]
  refine wp_convert_eq 31 9 _ rfl _ _ rfl CV.out ?_
  refine hK.out _ _ (hHeld) (fun hHeld => ?_)
  clear hK K
  (try simp only [Act.put]); (try simp only [List.setIfInBounds_toArray]); (try simp only [List.set_cons_succ]); (try simp only [List.set_cons_zero])
  refine takeD (i := 10) (d := some 46) (v := ?_) rfl (by kernel_rfl) (by kernel_rfl) (by kernel_rfl) (by kernel_rfl) (fun _ _ _ h => h) (Or.inl ⟨by kernel_rfl, fun X hX => Or.inl ?_⟩) (by assumption) ?_
  rotate_left
  · first | (go_simp; done) | (go_simp; with_reducible rfl)
  (try simp only [Act.put]); (try simp only [List.setIfInBounds_toArray]); (try simp only [List.set_cons_succ]); (try simp only [List.set_cons_zero])
  refine wpAnyH_ready (rs := [12]) (by kernel_rfl) (by simp) ?_
  refine AllReadyH.cons rfl (fun K hK => ?_) AllReadyH.nil
  rw [if_pos (by kernel_rfl)]
  go_simp
  refine (HT2.out _ (G3.out _ hHeld)).mono ?_
  rintro e y1 ⟨rfl, hF⟩
  have F5 := Lib.hid (hHeld.trans hF)
  clear hF
  refine hK.out _ _ (F5.out) (fun hHeld => ?_)
  clear hK K
  (try simp only [Act.put]); (try simp only [List.setIfInBounds_toArray]); (try simp only [List.set_cons_succ]); (try simp only [List.set_cons_zero])
  refine takeD (i := 13) (d := some 49) (v := .bool true) rfl (by kernel_rfl) (by kernel_rfl) (by kernel_rfl) (by kernel_rfl) (fun _ _ _ h => h) (Or.inl ⟨by kernel_rfl, fun X hX => Or.inl (exec_bin .eql 23 (.tmp 36) (.tmp 48) 23 rfl _ _ _ rfl rfl (by kernel_rfl) (EQT.out X))⟩) (by assumption) ?_
  (try simp only [Act.put]); (try simp only [List.setIfInBounds_toArray]); (try simp only [List.set_cons_succ]); (try simp only [List.set_cons_zero])
  refine takeD (i := 14) (d := some 6) (v := ?_) rfl (by kernel_rfl) (by kernel_rfl) (by kernel_rfl) (by kernel_rfl) (fun _ _ _ h => h) (Or.inl ⟨by kernel_rfl, fun X hX => Or.inl ?_⟩) (by assumption) ?_
  rotate_left
  · first | (go_simp; done) | (go_simp; with_reducible rfl)
  (try simp only [Act.put]); (try simp only [List.setIfInBounds_toArray]); (try simp only [List.set_cons_succ]); (try simp only [List.set_cons_zero])
  refine wpAnyH_done (by kernel_rfl) ?_ _
  have HX := Lib.hid (F3.out.trans hHeld)
  clear hHeld
  go_wp2
  go_ret
  exact ⟨rfl, HX.out⟩

theorem long_walk (k s : ByteArray) (z : UInt8) (w : World) (hk : k.size ≤ maxLen) (hs : s.size ≤ maxLen) (hg : Gl w) :
    Calls Tryd.prog 4 #[.string k, .string s, .int .u8 (z.toNat : Int)] w fun e w' => e = .returned (.bool true) ∧ Fr No w w' := by
  have e1 : k = str k.data.toList := by apply ByteArray.ext; simp [str]
  have e2 : s = str s.data.toList := by apply ByteArray.ext; simp [str]
  have l1 : k.data.toList.length = k.size := rfl
  have l2 : s.data.toList.length = s.size := rfl
  rw [e1, e2]
  by_cases h2 : k.size ≤ 300 ∧ s.size ≤ 300
  · by_cases h3 : 64 < k.size
    · exact long_long _ _ z _ (by omega) (by omega) (by omega) hg
    · exact long_short _ _ z _ (by omega) (by omega) hg
  · exact long_big _ _ z _ (by omega) (by omega) (by omega) hg

theorem long_walk' (k s : ByteArray) (z : Nat) (w : World) (hk : k.size ≤ maxLen) (hs : s.size ≤ maxLen) (hz : (z : Int) ≤ 255) (hg : Gl w) :
    Calls Tryd.prog 4 #[.string k, .string s, .int .u8 (z : Int)] w fun e w' => e = .returned (.bool true) ∧ Fr No w w' := by
  have h := long_walk k s (UInt8.ofNat z) w hk hs hg
  rwa [show ((UInt8.ofNat z).toNat : Int) = (z : Int) by simp; omega] at h
end Go.Proofs.YtdemmillejgpoaaDoor
