/- Whether a tag is right, and a hash opened, as the program has it; and what the laws show of the tag first. -/
import Derived.Test.YtdemmillejgpoaaDoorSeaB
namespace Go.Proofs.YtdemmillejgpoaaDoor
open Go.RowKit
set_option linter.unusedVariables false

theorem arr_nb (l : List UInt8) : (l.map u8v).toArray = arr .u8 (nb l) := by
  rw [show arr .u8 (nb l) = ((l.map (·.toNat)).map (vi .u8)).toArray from rfl, List.map_map]
  rfl

theorem eq_h32 (xs ys : List Nat) (hx : xs.length = 32) (hy : ys.length = 32) (w : World) : (binOp .eql 23 (.agg (arr .u8 xs)) (.agg (arr .u8 ys))).run Tryd.prog w = .ok (.bool (xs == ys)) w :=
  run_eql_arr w 23 5 32 .u8 Tryd.underlying23 Tryd.underlying5 (size_one (by kernel_rfl)) xs ys hx hy

set_option maxHeartbeats 1000000 in
set_option maxRecDepth 100000 in
theorem right_any (k s : List UInt8) (h : List Nat) (w : World) (hk : k.length ≤ 90000) (hs : s.length ≤ 80000) (hh : h.length = 32) (hg : Gl w) :
    Calls Tryd.prog 11 #[.string (str k), .string (str s), .agg (arr .u8 h)] w fun ex w' => ex = .returned (.bool (tagL k s == h)) ∧ Fr No w w' := by
  obtain ⟨T, hT⟩ : ∃ T, T = tagL k s := ⟨_, rfl⟩
  have hTL : T.length = 32 := by rw [hT]; exact tagL_len _ _
  have HEQ : Hid (∀ X, (binOp .eql 23 (.agg (arr .u8 T)) (.agg (arr .u8 h))).run Tryd.prog X = .ok (.bool (T == h)) X) := Lib.hid (fun X => eq_h32 T h hTL hh X)
  have HT : Hid (∀ X, Gl X → Calls Tryd.prog 10 #[.string (str k), .string (str s)] X fun ex w' => ex = .returned (.agg (arr .u8 T)) ∧ Fr No X w') := Lib.hid (fun X hX => by rw [hT]; exact tag_any k s X hk hs hX)
  obtain ⟨e, he⟩ : ∃ e : Bool, e = (T == h) := ⟨_, rfl⟩
  rw [← hT]
  rw [← he] at HEQ ⊢
  have HG := Lib.hid hg
  have HH := Lib.hid hh
  clear hT hTL hk hs hg hh he
  go_enter Tryd.func11, Tryd.ntmps11
  go_wp2_with fail
  refine wp_world (fun W => Fr No w W ∧ Row W w.heap.size 23 .u8 h) ⟨(Fr.refl No w).alloc _, Row.new w 23 .u8 h⟩ ?_
  rintro W1 ⟨hF1, hR1⟩
  have HF1 := Lib.hid hF1
  have HLD : Hid (∀ X, Fr No w X ∧ Row X w.heap.size 23 .u8 h → (Instr.loadAt 23 (.pointer (some ⟨w.heap.size, 0, none⟩))).run Tryd.prog X = .ok (.agg (arr .u8 h)) X) := Lib.hid (fun X hX => hX.2.load arHash HH.out)
  have HR1 := Lib.hid hR1
  clear hF1 hR1
  refine wp_region_held_drew (S := (fun X => Fr No w X ∧ Row X w.heap.size 23 .u8 h)) (by kernel_rfl) (⟨HF1.out.drew, Row.drew HR1.out⟩) (fun hHeld => ?_)
  refine takeD (i := 0) (d := some 7) (v := ?_) rfl (by kernel_rfl) (by kernel_rfl) (by kernel_rfl) (by kernel_rfl) (fun _ _ _ h => h) (Or.inl ⟨by kernel_rfl, fun X hX => Or.inl ?_⟩) (by assumption) ?_
  rotate_left
  · first | (go_simp; done) | (go_simp; with_reducible rfl)
  (try simp only [Act.put]); (try simp only [List.setIfInBounds_toArray]); (try simp only [List.set_cons_succ]); (try simp only [List.set_cons_zero])
  refine takeD (i := 1) (d := some 8) (v := ?_) rfl (by kernel_rfl) (by kernel_rfl) (by kernel_rfl) (by kernel_rfl) (fun _ _ _ h => h) (Or.inl ⟨by kernel_rfl, fun X hX => Or.inl ?_⟩) (by assumption) ?_
  rotate_left
  · first | (go_simp; done) | (go_simp; with_reducible rfl)
  (try simp only [Act.put]); (try simp only [List.setIfInBounds_toArray]); (try simp only [List.set_cons_succ]); (try simp only [List.set_cons_zero])
  refine takeD (i := 3) (d := some 10) (v := .agg (arr .u8 h)) rfl (by kernel_rfl) (by kernel_rfl) (by kernel_rfl) (by kernel_rfl) (fun _ _ _ h => h) (Or.inl ⟨by kernel_rfl, fun X hX => Or.inl (exec_load 23 (.tmp 5) rfl _ _ rfl (HLD.out X hX))⟩) (by assumption) ?_
  (try simp only [Act.put]); (try simp only [List.setIfInBounds_toArray]); (try simp only [List.set_cons_succ]); (try simp only [List.set_cons_zero])
  refine wpAnyH_ready (rs := [2]) (by kernel_rfl) (by simp) ?_
  refine AllReadyH.cons rfl (fun K hK => ?_) AllReadyH.nil
  rw [if_pos (by kernel_rfl)]
  go_simp
  refine (HT.out _ (HG.out.fr hHeld.1 (fun _ _ => id))).mono ?_
  rintro ex w2 ⟨rfl, hF2⟩
  have F2 := Lib.hid (hHeld.1.trans hF2)
  have R2 := Lib.hid (hHeld.2.fr hF2 id)
  clear hF2
  refine hK.out _ _ (⟨F2.out, R2.out⟩) (fun hHeld => ?_)
  clear hK K
  (try simp only [Act.put]); (try simp only [List.setIfInBounds_toArray]); (try simp only [List.set_cons_succ]); (try simp only [List.set_cons_zero])
  refine takeD (i := 4) (d := some 11) (v := .bool e) rfl (by kernel_rfl) (by kernel_rfl) (by kernel_rfl) (by kernel_rfl) (fun _ _ _ h => h) (Or.inl ⟨by kernel_rfl, fun X hX => Or.inl (exec_bin .eql 23 (.tmp 9) (.tmp 10) 23 rfl _ _ _ rfl rfl (by kernel_rfl) (HEQ.out X))⟩) (by assumption) ?_
  (try simp only [Act.put]); (try simp only [List.setIfInBounds_toArray]); (try simp only [List.set_cons_succ]); (try simp only [List.set_cons_zero])
  refine takeD (i := 5) (d := some 6) (v := ?_) rfl (by kernel_rfl) (by kernel_rfl) (by kernel_rfl) (by kernel_rfl) (fun _ _ _ h => h) (Or.inl ⟨by kernel_rfl, fun X hX => Or.inl ?_⟩) (by assumption) ?_
  rotate_left
  · first | (go_simp; done) | (go_simp; with_reducible rfl)
  (try simp only [Act.put]); (try simp only [List.setIfInBounds_toArray]); (try simp only [List.set_cons_succ]); (try simp only [List.set_cons_zero])
  refine wpAnyH_done (by kernel_rfl) ?_ _
  have HH6 := Lib.hid hHeld
  clear hHeld
  go_wp2
  go_ret
  exact ⟨rfl, HH6.out.1⟩

set_option maxHeartbeats 1000000 in
set_option maxRecDepth 100000 in
theorem opens_any (p h : List Nat) (w : World) (hp : p.length = 32) (h8 : B8 p) (hh : h.length = 32) (hg : Gl w) :
    Calls Tryd.prog 13 #[.agg (arr .u8 p), .agg (arr .u8 h)] w fun ex w' => ex = .returned (.bool (ofL p == h)) ∧ Fr No w w' := by
  obtain ⟨T, hT⟩ : ∃ T, T = ofL p := ⟨_, rfl⟩
  have hTL : T.length = 32 := by rw [hT]; exact ofL_len _
  have HEQ : Hid (∀ X, (binOp .eql 23 (.agg (arr .u8 T)) (.agg (arr .u8 h))).run Tryd.prog X = .ok (.bool (T == h)) X) := Lib.hid (fun X => eq_h32 T h hTL hh X)
  have HT : Hid (∀ X, Gl X → Calls Tryd.prog 12 #[.agg (arr .u8 p)] X fun ex w' => ex = .returned (.agg (arr .u8 T)) ∧ Fr No X w') := Lib.hid (fun X hX => by rw [hT]; exact of_any p X hp h8 hX)
  obtain ⟨e, he⟩ : ∃ e : Bool, e = (T == h) := ⟨_, rfl⟩
  rw [← hT]
  rw [← he] at HEQ ⊢
  have HG := Lib.hid hg
  have HH := Lib.hid hh
  have HP := Lib.hid hp
  clear hT hTL hp h8 hg hh he
  go_enter Tryd.func13, Tryd.ntmps13
  go_wp2_with fail
  refine wp_world (fun W => Fr No w W ∧ Row W w.heap.size 23 .u8 p ∧ Row W (w.heap.size + 1) 23 .u8 h) ⟨((Fr.refl No w).alloc _).alloc _, (Row.new w 23 .u8 p).alloc _, Row.new2 w _ 23 .u8 h⟩ ?_
  rintro W1 ⟨hF1, hR1, hR2⟩
  have HF1 := Lib.hid hF1
  have HLD1 : Hid (∀ X, Fr No W1 X → (Instr.loadAt 23 (.pointer (some ⟨w.heap.size, 0, none⟩))).run Tryd.prog X = .ok (.agg (arr .u8 p)) X) := Lib.hid (fun X hX => (hR1.fr hX id).load arHash HP.out)
  have HLD2 : Hid (∀ X, Fr No W1 X → (Instr.loadAt 23 (.pointer (some ⟨w.heap.size + 1, 0, none⟩))).run Tryd.prog X = .ok (.agg (arr .u8 h)) X) := Lib.hid (fun X hX => (hR2.fr hX id).load arHash HH.out)
  clear hF1 hR1 hR2
  refine wp_region_held_drew (S := (fun X => Fr No W1 X)) (by kernel_rfl) ((Fr.refl _ W1).drew) (fun hHeld => ?_)
  refine takeD (i := 0) (d := some 5) (v := .agg (arr .u8 p)) rfl (by kernel_rfl) (by kernel_rfl) (by kernel_rfl) (by kernel_rfl) (fun _ _ _ h => h) (Or.inl ⟨by kernel_rfl, fun X hX => Or.inl (exec_load 23 (.tmp 2) rfl _ _ rfl (HLD1.out X hX))⟩) (by assumption) ?_
  (try simp only [Act.put]); (try simp only [List.setIfInBounds_toArray]); (try simp only [List.set_cons_succ]); (try simp only [List.set_cons_zero])
  refine takeD (i := 2) (d := some 7) (v := .agg (arr .u8 h)) rfl (by kernel_rfl) (by kernel_rfl) (by kernel_rfl) (by kernel_rfl) (fun _ _ _ h => h) (Or.inl ⟨by kernel_rfl, fun X hX => Or.inl (exec_load 23 (.tmp 3) rfl _ _ rfl (HLD2.out X hX))⟩) (by assumption) ?_
  (try simp only [Act.put]); (try simp only [List.setIfInBounds_toArray]); (try simp only [List.set_cons_succ]); (try simp only [List.set_cons_zero])
  refine wpAnyH_ready (rs := [1]) (by kernel_rfl) (by simp) ?_
  refine AllReadyH.cons rfl (fun K hK => ?_) AllReadyH.nil
  rw [if_pos (by kernel_rfl)]
  go_simp
  refine (HT.out _ (HG.out.fr (HF1.out.trans hHeld) (fun _ _ => id))).mono ?_
  rintro ex w2 ⟨rfl, hF2⟩
  have F2 := Lib.hid (hHeld.trans hF2)
  clear hF2
  refine hK.out _ _ (F2.out) (fun hHeld => ?_)
  clear hK K
  (try simp only [Act.put]); (try simp only [List.setIfInBounds_toArray]); (try simp only [List.set_cons_succ]); (try simp only [List.set_cons_zero])
  refine takeD (i := 3) (d := some 8) (v := .bool e) rfl (by kernel_rfl) (by kernel_rfl) (by kernel_rfl) (by kernel_rfl) (fun _ _ _ h => h) (Or.inl ⟨by kernel_rfl, fun X hX => Or.inl (exec_bin .eql 23 (.tmp 6) (.tmp 7) 23 rfl _ _ _ rfl rfl (by kernel_rfl) (HEQ.out X))⟩) (by assumption) ?_
  (try simp only [Act.put]); (try simp only [List.setIfInBounds_toArray]); (try simp only [List.set_cons_succ]); (try simp only [List.set_cons_zero])
  refine takeD (i := 4) (d := some 4) (v := ?_) rfl (by kernel_rfl) (by kernel_rfl) (by kernel_rfl) (by kernel_rfl) (fun _ _ _ h => h) (Or.inl ⟨by kernel_rfl, fun X hX => Or.inl ?_⟩) (by assumption) ?_
  rotate_left
  · first | (go_simp; done) | (go_simp; with_reducible rfl)
  (try simp only [Act.put]); (try simp only [List.setIfInBounds_toArray]); (try simp only [List.set_cons_succ]); (try simp only [List.set_cons_zero])
  refine wpAnyH_done (by kernel_rfl) ?_ _
  have HH6 := Lib.hid hHeld
  clear hHeld
  go_wp2
  go_ret
  exact ⟨rfl, HF1.out.trans HH6.out⟩

set_option maxHeartbeats 1000000 in
set_option maxRecDepth 100000 in
theorem shown3_any (w : World) (hg : Gl w) : Calls Tryd.prog 7 #[] w fun ex w' => ex = .returned (.bool true) ∧ Fr No w w' := by
  obtain ⟨k, hk⟩ : ∃ k : List UInt8, k = [107, 101, 121] := ⟨_, rfl⟩
  obtain ⟨s, hsx⟩ : ∃ s : List UInt8, s = [84, 104, 101, 32, 113, 117, 105, 99, 107, 32, 98, 114, 111, 119, 110, 32, 102, 111, 120, 32, 106, 117, 109, 112, 115, 32, 111, 118, 101, 114, 32, 116, 104, 101, 32, 108, 97, 122, 121, 32, 100, 111, 103] := ⟨_, rfl⟩
  obtain ⟨D, hD⟩ : ∃ D, D = tagL k s := ⟨_, rfl⟩
  have hs := fun X => tag_any k s X (by rw [hk]; simp) (by rw [hsx]; simp)
  rw [← hD] at hs
  have HDL : Hid (D.length = 32) := Lib.hid (by rw [hD]; exact tagL_len _ _)
  rw [hk, hsx, fox_tag] at hD
  rw [hk, hsx] at hs
  have HS := Lib.hid hs
  have d0 : Hid (D[0]? = some 0xf7) := Lib.hid (by rw [hD]; rfl)
  have d1 : Hid (D[1]? = some 0xbc) := Lib.hid (by rw [hD]; rfl)
  have d2 : Hid (D[2]? = some 0x83) := Lib.hid (by rw [hD]; rfl)
  have d3 : Hid (D[3]? = some 0xf4) := Lib.hid (by rw [hD]; rfl)
  have d31 : Hid (D[31]? = some 0xd8) := Lib.hid (by rw [hD]; rfl)
  have HG := Lib.hid hg
  clear hD hs hg hk hsx
  go_enter Tryd.func7, Tryd.ntmps7
  go_wp2_with fail
  refine (HS.out w HG.out).mono ?_
  rintro ex w1 ⟨rfl, hF⟩
  have HF := Lib.hid hF
  clear hF
  go_wp2_with (refine wpList_store_row rfl 23 _ _ rfl w1.heap.size rfl (arr .u8 D) rfl (Row.new w1 23 .u8 (List.replicate 32 0)) arHash (by rfl) (by rw [arr_size]; exact HDL.out) (arr_one _ _) ?_
               refine wpList_world (fun W => Fr No w W ∧ Row W w1.heap.size 23 .u8 D) ⟨fr_setRow (HF.out.alloc _) (.inr HF.out.size) _, (Row.new w1 23 .u8 (List.replicate 32 0)).setRow⟩ ?_
               rintro w2 ⟨hF2, hR2⟩
               have c0 := hR2.cell d0.out
               have c1 := hR2.cell d1.out
               have c2 := hR2.cell d2.out
               have c3 := hR2.cell d3.out
               have c31 := hR2.cell d31.out
               have HF2 := Lib.hid hF2
               clear hF2 hR2)
  go_ret
  exact ⟨rfl, HF2.out⟩
end Go.Proofs.YtdemmillejgpoaaDoor
