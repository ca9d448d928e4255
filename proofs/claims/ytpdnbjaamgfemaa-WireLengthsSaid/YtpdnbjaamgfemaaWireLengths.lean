/- The walk of 'WireLengths'. -/
import Derived.Test.YtpdnbjaamgfemaaWiO
import Derived.Test.YtpdnbjaamgfemaaTake
namespace Go.Proofs.Ytpdnbjaamgfemaa
open Go.RowKit
set_option linter.unusedVariables false
set_option maxRecDepth 100000

def lensW : List Nat := [0, 13, 5, 57, 45, 15, 39, 39, 5, 15]
abbrev lensC : List Value := lensW.map (fun (x : Nat) => Value.int .i64 (x : Int))
theorem lens_of {k : Nat} (h1 : 1 ≤ k) (h9 : k ≤ 9) : lensC[k]? = some (.int .i64 ((5 + lenB (fieldsB (k : Int)) : Nat) : Int)) := by
  have : k = 1 ∨ k = 2 ∨ k = 3 ∨ k = 4 ∨ k = 5 ∨ k = 6 ∨ k = 7 ∨ k = 8 ∨ k = 9 := by omega
  rcases this with rfl | rfl | rfl | rfl | rfl | rfl | rfl | rfl | rfl <;> rfl
theorem build_ten (w : World) : (Instr.build 42 #[(0, .int .i64 0), (1, .int .i64 13), (2, .int .i64 5), (3, .int .i64 57), (4, .int .i64 45), (5, .int .i64 15), (6, .int .i64 39), (7, .int .i64 39), (8, .int .i64 5), (9, .int .i64 15)]).run Try.prog w = .ok (.agg lensC.toArray) w := by kernel_rfl
theorem alloc_ten (w : World) : (Instr.alloc 42 true (.tuple #[])).run Try.prog w = .ok (.pointer (some ⟨w.heap.size, 0, none⟩)) (w.alloc (.cells (List.replicate 10 (Value.int .i64 0)).toArray 42)) := by kernel_rfl
theorem ten_one : lensC.toArray.all (·.oneCell') = true :=
  all_oneCell_toArray fun v hv => by
    obtain ⟨x, _, rfl⟩ := List.mem_map.1 hv
    rfl
theorem eq_i (x : Int) (w : World) : (binOp .eql 3 (.int .i64 x) (.int .i64 x)).run Try.prog w = .ok (.bool true) w := by simp [go_sem]
theorem eq_b (x : Int) (w : World) : (binOp .eql 5 (.int .u8 x) (.int .u8 x)).run Try.prog w = .ok (.bool true) w := by simp [go_sem]

set_option maxHeartbeats 1000000 in
theorem lengths_no (m : Msg) (ok : m.Ok) (w : World) (hm : may m = false) :
    Calls Try.prog 6 #[vM m] w fun e w' => e = .returned (.bool true) ∧ Fr No w w' := by
  have HE : Hid (∀ X, Calls Try.prog 8 #[vM m] X fun ex w' => ex = .returned (.tuple #[.string (str []), .int .i64 1]) ∧ Fr No X w') := Lib.hid (fun X => by
    have := wencode_any m ok X
    rwa [encV, encE, hm] at this)
  have hs : ((str []).toList == []) = true := by rw [str_toList]; rfl
  have HL := Lib.hid (msg_load (Blk.new w 27 (cellsM m)) ok.h mt_msg)
  clear hm ok
  go_enter Try.func6, Try.ntmps6
  go_wp2_with (refine wpList_load_eq rfl 27 _ rfl (.pointer (some ⟨w.heap.size, 0, none⟩)) (vM m) rfl HL.out ?_)
  refine (HE.out _).mono ?_
  rintro e w1 ⟨rfl, hF⟩
  have HF := Lib.hid (((Fr.refl No w).alloc _).trans hF)
  clear hF HE
  go_wp2_with fail
  refine (shown7_any _).mono ?_
  rintro e w2 ⟨rfl, hF⟩
  have HF2 := Lib.hid (HF.out.trans hF)
  clear hF
  go_wp2
  go_ret
  exact ⟨rfl, HF2.out⟩

set_option maxHeartbeats 2000000 in
theorem lengths_yes (K c i a : Nat) (h : List UInt8) (E Nn : Int) (w : World) (h1 : 1 ≤ K) (h9 : K ≤ 9) (m : Msg) (hmm : m = ⟨(K : Int), c, i, a, h, E, Nn⟩) (ok : m.Ok) (hm : may m = true) :
    Calls Try.prog 6 #[vM m] w fun e w' => e = .returned (.bool true) ∧ Fr No w w' := by
  obtain ⟨l, hl⟩ : ∃ l, l = bytesM m := ⟨_, rfl⟩
  have HE : Hid (∀ X, Calls Try.prog 8 #[vM m] X fun ex w' => ex = .returned (.tuple #[.string (str l), .int .i64 0]) ∧ Fr No X w') := Lib.hid (fun X => by
    have := wencode_any m ok X
    rw [encV, encE, hm, if_pos rfl, if_pos rfl, ← hl] at this
    exact this)
  obtain ⟨n, hn⟩ : ∃ n, n = l.length := ⟨_, rfl⟩
  have zs : (str l).size = n := by rw [str_size, hn]
  have hk : m.k = (K : Int) := by rw [hmm]
  have hnl : n = 5 + lenB (fieldsB (K : Int)) := by rw [hn, hl, bytesM_len m ok.h, hk]
  have hcons := bytes_cons m (by rw [hk]; omega) (by rw [hk]; omega)
  rw [← hl] at hcons
  have h0 : 0 < (str l).size := by rw [zs]; omega
  have hn0 : 0 < n := by omega
  have hg : (str l)[0]'h0 = UInt8.ofNat K := by
    have : l[0]'(by rw [← hn]; omega) = UInt8.ofNat K := by simp only [hcons, hk, List.getElem_cons_zero, Int.toNat_natCast]
    exact this
  have hgK : (UInt8.ofNat K).toNat = K := by rw [UInt8.toNat_ofNat']; omega
  have lK : IntKind.u8.wrap (K : Int) = (K : Int) := by rw [IntKind.wrap_u8]; omega
  have hK1 : (K : Int) < 10 := by omega
  have hK0 : (0 : Int) ≤ (K : Int) := by omega
  have HW := Lib.hid (lens_of h1 h9)
  rw [← hnl] at HW
  have hB := Blk.new w 27 (cellsM m)
  have HL := Lib.hid (msg_load hB ok.h mt_msg)
  obtain ⟨b, hb⟩ : ∃ p, p = w.heap.size := ⟨_, rfl⟩
  have HB := Lib.hid hB
  have HK := Lib.hid hk
  have HBB := Lib.hid hb
  clear hcons hl hn hnl hB ok hm hk hmm h1 h9 hb
  go_enter Try.func6, Try.ntmps6
  go_wp2_with (refine wpList_load_eq rfl 27 _ rfl (.pointer (some ⟨w.heap.size, 0, none⟩)) (vM m) rfl HL.out ?_)
  refine (HE.out _).mono ?_
  rintro e w1 ⟨rfl, hF⟩
  have F1 := Lib.hid (((Fr.refl No w).alloc _).trans hF)
  have HB1 := Lib.hid (HB.out.fr hF id)
  rw [← HBB.out] at HB1 ⊢
  obtain ⟨p, hp⟩ : ∃ p, p = w1.heap.size := ⟨_, rfl⟩
  have HP := Lib.hid hp
  clear hF HE HL HB hp
  go_wp2_with (first
    | (refine wpList_execG (.agg lensC.toArray) (exec_build 42 _ rfl #[(0, .int .i64 0), (1, .int .i64 13), (2, .int .i64 5), (3, .int .i64 57), (4, .int .i64 45), (5, .int .i64 15), (6, .int .i64 39), (7, .int .i64 39), (8, .int .i64 5), (9, .int .i64 15)] (by rfl) _ (build_ten _)) rfl ?_)
    | (refine wpList_execG (.pointer (some ⟨p, 0, none⟩)) (exec_alloc 42 rfl _ (by rw [HP.out]; exact alloc_ten w1)) rfl ?_
       refine wpList_world (fun W => Fr No w W ∧ Blk W b 27 (cellsM m) ∧ Blk W p 42 (List.replicate 10 (Value.int .i64 0))) ⟨F1.out.alloc _, HB1.out.alloc _, by rw [HP.out]; exact Blk.new w1 _ _⟩ ?_
       rintro w2 ⟨hF2, hB2, hB3⟩
       have hbp : b < p := by rw [HP.out]; exact HB1.out.lt
       obtain ⟨Y, hY, hYR, hYF⟩ := hB3.stored (P := Try.prog) (ty := 42) lensC (by rfl) (by kernel_rfl) ten_one
       have HY := Lib.hid hY
       have HYR := Lib.hid hYR
       have HYB := Lib.hid (hB2.fr hYF (by omega))
       have HYF : Hid (Fr No w Y) := Lib.hid (hF2.trans' hYF (fun k hk e => by have h1 := HBB.out; omega))
       clear hF2 hB2 hB3 hbp hY hYR hYF)
    | (refine wpList_store_eq rfl 42 _ _ rfl (.pointer (some ⟨p, 0, none⟩)) (.agg lensC.toArray) rfl rfl HY.out ?_))
  have HLK : Hid (∀ X, Fr No Y X → (Instr.loadAt 3 (.pointer (some ⟨b, 0, none⟩))).run Try.prog X = .ok (.int .i64 (K : Int)) X) := Lib.hid (fun X hX => by
    have h9 := hX.cell id (msg_k HYB.out)
    rw [HK.out] at h9
    simp [go_sem, h9])
  have HLW : Hid (∀ X, Fr No Y X → (Instr.loadAt 3 (.pointer (some ⟨p, K, none⟩))).run Try.prog X = .ok (.int .i64 (n : Int)) X) := Lib.hid (fun X hX => by
    have h9 := hX.cell id (HYR.out.cell HW.out)
    simp [go_sem, h9])
  refine wp_region_held_drew (S := (fun X => Fr No Y X)) (by kernel_rfl) ((Fr.refl _ Y).drew) (fun hHeld => ?_)
  refine takeD (i := 0) (d := some 19) (v := ?_) rfl (by kernel_rfl) (by kernel_rfl) (by kernel_rfl) (by kernel_rfl) (fun _ _ _ h => h) (Or.inl ⟨by kernel_rfl, fun X hX => Or.inl ?_⟩) (by assumption) ?_
  rotate_left
  · first | (go_simp; done) | (go_simp; with_reducible rfl)
  (try simp only [Act.put]); (try simp only [List.setIfInBounds_toArray]); (try simp only [List.set_cons_succ]); (try simp only [List.set_cons_zero])
  refine takeD (i := 1) (d := some 20) (v := ?_) rfl (by kernel_rfl) (by kernel_rfl) (by kernel_rfl) (by kernel_rfl) (fun _ _ _ h => h) (Or.inl ⟨by kernel_rfl, fun X hX => Or.inl ?_⟩) (by assumption) ?_
  rotate_left
  · first | (go_simp; done) | (go_simp; with_reducible rfl)
  (try simp only [Act.put]); (try simp only [List.setIfInBounds_toArray]); (try simp only [List.set_cons_succ]); (try simp only [List.set_cons_zero])
  refine takeD (i := 2) (d := some 21) (v := ?_) rfl (by kernel_rfl) (by kernel_rfl) (by kernel_rfl) (by kernel_rfl) (fun _ _ _ h => h) (Or.inl ⟨by kernel_rfl, fun X hX => Or.inl ?_⟩) (by assumption) ?_
  rotate_left
  · first | (go_simp; done) | (go_simp; with_reducible rfl)
  (try simp only [Act.put]); (try simp only [List.setIfInBounds_toArray]); (try simp only [List.set_cons_succ]); (try simp only [List.set_cons_zero])
  refine takeD (i := 3) (d := some 22) (v := .int .i64 (K : Int)) rfl (by kernel_rfl) (by kernel_rfl) (by kernel_rfl) (by kernel_rfl) (fun _ _ _ h => h) (Or.inl ⟨by kernel_rfl, fun X hX => Or.inl (exec_load 3 (.tmp 21) rfl _ _ rfl (HLK.out X hX))⟩) (by assumption) ?_
  (try simp only [Act.put]); (try simp only [List.setIfInBounds_toArray]); (try simp only [List.set_cons_succ]); (try simp only [List.set_cons_zero])
  refine takeD (i := 4) (d := some 23) (v := .pointer (some ⟨p, K, none⟩)) rfl (by kernel_rfl) (by kernel_rfl) (by kernel_rfl) (by kernel_rfl) (fun _ _ _ h => h) (Or.inl ⟨by kernel_rfl, fun X hX => Or.inl (by go_simp)⟩) (by assumption) ?_
  (try simp only [Act.put]); (try simp only [List.setIfInBounds_toArray]); (try simp only [List.set_cons_succ]); (try simp only [List.set_cons_zero])
  refine takeD (i := 5) (d := some 24) (v := .int .i64 (n : Int)) rfl (by kernel_rfl) (by kernel_rfl) (by kernel_rfl) (by kernel_rfl) (fun _ _ _ h => h) (Or.inl ⟨by kernel_rfl, fun X hX => Or.inl (exec_load 3 (.tmp 23) rfl _ _ rfl (HLW.out X hX))⟩) (by assumption) ?_
  (try simp only [Act.put]); (try simp only [List.setIfInBounds_toArray]); (try simp only [List.set_cons_succ]); (try simp only [List.set_cons_zero])
  refine takeD (i := 6) (d := some 25) (v := .bool true) rfl (by kernel_rfl) (by kernel_rfl) (by kernel_rfl) (by kernel_rfl) (fun _ _ _ h => h) (Or.inl ⟨by kernel_rfl, fun X hX => Or.inl (exec_bin .eql 3 (.tmp 20) (.tmp 24) 3 rfl _ _ _ rfl rfl (by kernel_rfl) (eq_i _ _))⟩) (by assumption) ?_
  (try simp only [Act.put]); (try simp only [List.setIfInBounds_toArray]); (try simp only [List.set_cons_succ]); (try simp only [List.set_cons_zero])
  refine takeD (i := 7) (d := some 26) (v := ?_) rfl (by kernel_rfl) (by kernel_rfl) (by kernel_rfl) (by kernel_rfl) (fun _ _ _ h => h) (Or.inl ⟨by kernel_rfl, fun X hX => Or.inl ?_⟩) (by assumption) ?_
  rotate_left
  · first | (go_simp; done) | (go_simp; with_reducible rfl)
  (try simp only [Act.put]); (try simp only [List.setIfInBounds_toArray]); (try simp only [List.set_cons_succ]); (try simp only [List.set_cons_zero])
  refine takeD (i := 8) (d := some 27) (v := ?_) rfl (by kernel_rfl) (by kernel_rfl) (by kernel_rfl) (by kernel_rfl) (fun _ _ _ h => h) (Or.inl ⟨by kernel_rfl, fun X hX => Or.inl ?_⟩) (by assumption) ?_
  rotate_left
  · first | (go_simp; done) | (go_simp; with_reducible rfl)
  (try simp only [Act.put]); (try simp only [List.setIfInBounds_toArray]); (try simp only [List.set_cons_succ]); (try simp only [List.set_cons_zero])
  refine takeD (i := 9) (d := some 28) (v := ?_) rfl (by kernel_rfl) (by kernel_rfl) (by kernel_rfl) (by kernel_rfl) (fun _ _ _ h => h) (Or.inl ⟨by kernel_rfl, fun X hX => Or.inl ?_⟩) (by assumption) ?_
  rotate_left
  · first | (go_simp; done) | (go_simp; with_reducible rfl)
  (try simp only [Act.put]); (try simp only [List.setIfInBounds_toArray]); (try simp only [List.set_cons_succ]); (try simp only [List.set_cons_zero])
  refine takeD (i := 10) (d := some 29) (v := ?_) rfl (by kernel_rfl) (by kernel_rfl) (by kernel_rfl) (by kernel_rfl) (fun _ _ _ h => h) (Or.inl ⟨by kernel_rfl, fun X hX => Or.inl ?_⟩) (by assumption) ?_
  rotate_left
  · first | (go_simp; done) | (go_simp; with_reducible rfl)
  (try simp only [Act.put]); (try simp only [List.setIfInBounds_toArray]); (try simp only [List.set_cons_succ]); (try simp only [List.set_cons_zero])
  refine takeD (i := 11) (d := some 30) (v := .int .i64 (K : Int)) rfl (by kernel_rfl) (by kernel_rfl) (by kernel_rfl) (by kernel_rfl) (fun _ _ _ h => h) (Or.inl ⟨by kernel_rfl, fun X hX => Or.inl (exec_load 3 (.tmp 29) rfl _ _ rfl (HLK.out X hX))⟩) (by assumption) ?_
  (try simp only [Act.put]); (try simp only [List.setIfInBounds_toArray]); (try simp only [List.set_cons_succ]); (try simp only [List.set_cons_zero])
  refine takeD (i := 12) (d := some 31) (v := .int .u8 (K : Int)) rfl (by kernel_rfl) (by kernel_rfl) (by kernel_rfl) (by kernel_rfl) (fun _ _ _ h => h) (Or.inl ⟨by kernel_rfl, fun X hX => Or.inl (by go_simp)⟩) (by assumption) ?_
  (try simp only [Act.put]); (try simp only [List.setIfInBounds_toArray]); (try simp only [List.set_cons_succ]); (try simp only [List.set_cons_zero])
  refine takeD (i := 13) (d := some 32) (v := .bool true) rfl (by kernel_rfl) (by kernel_rfl) (by kernel_rfl) (by kernel_rfl) (fun _ _ _ h => h) (Or.inl ⟨by kernel_rfl, fun X hX => Or.inl (exec_bin .eql 5 (.tmp 28) (.tmp 31) 5 rfl _ _ _ rfl rfl (by kernel_rfl) (eq_b _ _))⟩) (by assumption) ?_
  (try simp only [Act.put]); (try simp only [List.setIfInBounds_toArray]); (try simp only [List.set_cons_succ]); (try simp only [List.set_cons_zero])
  refine takeD (i := 14) (d := some 33) (v := ?_) rfl (by kernel_rfl) (by kernel_rfl) (by kernel_rfl) (by kernel_rfl) (fun _ _ _ h => h) (Or.inl ⟨by kernel_rfl, fun X hX => Or.inl ?_⟩) (by assumption) ?_
  rotate_left
  · first | (go_simp; done) | (go_simp; with_reducible rfl)
  (try simp only [Act.put]); (try simp only [List.setIfInBounds_toArray]); (try simp only [List.set_cons_succ]); (try simp only [List.set_cons_zero])
  refine takeD (i := 15) (d := some 34) (v := ?_) rfl (by kernel_rfl) (by kernel_rfl) (by kernel_rfl) (by kernel_rfl) (fun _ _ _ h => h) (Or.inl ⟨by kernel_rfl, fun X hX => Or.inl ?_⟩) (by assumption) ?_
  rotate_left
  · first | (go_simp; done) | (go_simp; with_reducible rfl)
  (try simp only [Act.put]); (try simp only [List.setIfInBounds_toArray]); (try simp only [List.set_cons_succ]); (try simp only [List.set_cons_zero])
  refine wpAnyH_ready (rs := [16]) (by kernel_rfl) (by simp) ?_
  refine AllReadyH.cons rfl (fun K hK => ?_) AllReadyH.nil
  rw [if_pos (by kernel_rfl)]
  go_simp
  refine (shown7_any _).mono ?_
  rintro ex v3 ⟨rfl, hF3⟩
  have F3 := Lib.hid (hHeld.trans hF3)
  clear hF3
  refine hK.out _ _ (F3.out) (fun hHeld => ?_)
  clear hK K
  (try simp only [Act.put]); (try simp only [List.setIfInBounds_toArray]); (try simp only [List.set_cons_succ]); (try simp only [List.set_cons_zero])
  refine takeD (i := 17) (d := some 36) (v := ?_) rfl (by kernel_rfl) (by kernel_rfl) (by kernel_rfl) (by kernel_rfl) (fun _ _ _ h => h) (Or.inl ⟨by kernel_rfl, fun X hX => Or.inl ?_⟩) (by assumption) ?_
  rotate_left
  · first | (go_simp; done) | (go_simp; with_reducible rfl)
  (try simp only [Act.put]); (try simp only [List.setIfInBounds_toArray]); (try simp only [List.set_cons_succ]); (try simp only [List.set_cons_zero])
  refine takeD (i := 18) (d := some 2) (v := ?_) rfl (by kernel_rfl) (by kernel_rfl) (by kernel_rfl) (by kernel_rfl) (fun _ _ _ h => h) (Or.inl ⟨by kernel_rfl, fun X hX => Or.inl ?_⟩) (by assumption) ?_
  rotate_left
  · first | (go_simp; done) | (go_simp; with_reducible rfl)
  (try simp only [Act.put]); (try simp only [List.setIfInBounds_toArray]); (try simp only [List.set_cons_succ]); (try simp only [List.set_cons_zero])
  refine wpAnyH_done (by kernel_rfl) ?_ _
  go_wp2
  go_ret
  exact ⟨rfl, HYF.out.trans hHeld⟩

theorem lengths_walk (m : Msg) (ok : m.Ok) (w : World) : Calls Try.prog 6 #[vM m] w fun e w' => e = .returned (.bool true) ∧ Fr No w w' := by
  cases hm : may m with
  | false => exact lengths_no m ok w hm
  | true =>
    obtain ⟨⟨h1, h2, _⟩, _⟩ := may_bounds hm
    obtain ⟨k, c, i, a, h, e, n⟩ := m
    dsimp only at h1 h2
    obtain ⟨K, rfl⟩ : ∃ K : Nat, k = (K : Int) := ⟨k.toNat, by omega⟩
    exact lengths_yes K c i a h e n w (by omega) (by omega) _ rfl ok hm
end Go.Proofs.Ytpdnbjaamgfemaa
