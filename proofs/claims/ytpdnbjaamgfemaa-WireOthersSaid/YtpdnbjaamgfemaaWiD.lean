/- What bytes tell: the document's Decode, its errors. -/
import Derived.Test.YtpdnbjaamgfemaaWiG
import Derived.Test.YtpdnbjaamgfemaaOctK
import Derived.Test.YtpdnbjaamgfemaaWiT
namespace Go.Proofs.Ytpdnbjaamgfemaa
open Go.RowKit
set_option linter.unusedVariables false
set_option maxRecDepth 100000

set_option maxHeartbeats 1000000 in
theorem rdecode_nil (w : World) : Calls Try.prog 14 #[.string (str [])] w fun ex w' => ex = .returned (.tuple #[vM zeroM, .int .i64 10]) ∧ Fr No w w' := by
  have hs : (str []).size = 0 := rfl
  go_enter Try.func14, Try.ntmps14
  go_wp2_with (first
    | (refine wpList_execG (.pointer (some ⟨w.heap.size, 0, none⟩)) (exec_alloc 32 rfl _ (mt_msg7.alloc w)) rfl ?_
       refine wpList_world (fun W => Fr No w W ∧ Blk W w.heap.size 32 (cellsM zeroM)) ⟨(Fr.refl No w).alloc _, Blk.new w _ _⟩ ?_
       rintro w0 ⟨hF0, hB0⟩
       obtain ⟨Y, hY, hYR, hYF⟩ := msg_store (m := zeroM) hB0 (by rfl) (by rfl) mt_msg7
       have HY := Lib.hid hY
       have HYL := Lib.hid (msg_loadVar hYR (by rfl) mt_msg7)
       have HYF : Hid (Fr No w Y) := Lib.hid (hF0.trans' hYF (fun k hk e => Nat.lt_irrefl _ (e ▸ hk)))
       clear hF0 hB0 hY hYR hYF)
    | (refine wpList_execG (vM zeroM) (exec_build 32 #[] rfl #[] (by rfl) _ (mt_msg7.build _)) rfl ?_)
    | (refine wpList_store_eq rfl 32 _ _ rfl (.pointer (some ⟨w.heap.size, 0, none⟩)) (vM zeroM) rfl rfl HY.out ?_))
  exact bodyPost_ret (results_cellT rfl rfl rfl HYL.out) rfl ⟨rfl, HYF.out⟩

set_option maxHeartbeats 1000000 in
theorem rdecode_kind0 (b : UInt8) (s : List UInt8) (w : World) (hm : s.length + 1 ≤ maxLen) (hb : b.toNat < 1) : Calls Try.prog 14 #[.string (str (b :: s))] w fun ex w' => ex = .returned (.tuple #[vM zeroM, .int .i64 70]) ∧ Fr No w w' := by
  unfold maxLen at hm
  obtain ⟨n, hn⟩ : ∃ n, n = s.length + 1 := ⟨_, rfl⟩
  have zs : (str (b :: s)).size = n := by rw [str_size, hn, List.length_cons]
  have t0 : ((n : Int) == 0) = false := by rw [beq_eq_false_iff_ne]; omega
  have hks : 0 < (str (b :: s)).size := by rw [zs]; omega
  have hg : (str (b :: s))[0]'hks = b := rfl
  obtain ⟨B, hB⟩ : ∃ B, B = b.toNat := ⟨_, rfl⟩
  have hD := hB.symm
  have lB : IntKind.i64.wrap (B : Int) = (B : Int) := IntWalk.i64_in _ (by have := b.toNat_lt; omega)
  have t1 : decide ((B : Int) < 1) = true := decide_eq_true (by omega)
  clear hb hn hm hB
  go_enter Try.func14, Try.ntmps14
  go_wp2_with (first
    | (refine wpList_execG (.pointer (some ⟨w.heap.size, 0, none⟩)) (exec_alloc 32 rfl _ (mt_msg7.alloc w)) rfl ?_
       refine wpList_world (fun W => Fr No w W ∧ Blk W w.heap.size 32 (cellsM zeroM)) ⟨(Fr.refl No w).alloc _, Blk.new w _ _⟩ ?_
       rintro w0 ⟨hF0, hB0⟩
       obtain ⟨Y, hY, hYR, hYF⟩ := msg_store (m := zeroM) hB0 (by rfl) (by rfl) mt_msg7
       have HY := Lib.hid hY
       have HYL := Lib.hid (msg_loadVar hYR (by rfl) mt_msg7)
       have HYF : Hid (Fr No w Y) := Lib.hid (hF0.trans' hYF (fun k hk e => Nat.lt_irrefl _ (e ▸ hk)))
       clear hF0 hB0 hY hYR hYF)
    | (refine wpList_execG (vM zeroM) (exec_build 32 #[] rfl #[] (by rfl) _ (mt_msg7.build _)) rfl ?_)
    | (refine wpList_store_eq rfl 32 _ _ rfl (.pointer (some ⟨w.heap.size, 0, none⟩)) (vM zeroM) rfl rfl HY.out ?_))
  exact bodyPost_ret (results_cellT rfl rfl rfl HYL.out) rfl ⟨rfl, HYF.out⟩

set_option maxHeartbeats 1000000 in
theorem rdecode_kind9 (b : UInt8) (s : List UInt8) (w : World) (hm : s.length + 1 ≤ maxLen) (hb : 9 < b.toNat) : Calls Try.prog 14 #[.string (str (b :: s))] w fun ex w' => ex = .returned (.tuple #[vM zeroM, .int .i64 70]) ∧ Fr No w w' := by
  unfold maxLen at hm
  obtain ⟨n, hn⟩ : ∃ n, n = s.length + 1 := ⟨_, rfl⟩
  have zs : (str (b :: s)).size = n := by rw [str_size, hn, List.length_cons]
  have t0 : ((n : Int) == 0) = false := by rw [beq_eq_false_iff_ne]; omega
  have hks : 0 < (str (b :: s)).size := by rw [zs]; omega
  have hg : (str (b :: s))[0]'hks = b := rfl
  obtain ⟨B, hB⟩ : ∃ B, B = b.toNat := ⟨_, rfl⟩
  have hD := hB.symm
  have lB : IntKind.i64.wrap (B : Int) = (B : Int) := IntWalk.i64_in _ (by have := b.toNat_lt; omega)
  have t1 : decide ((B : Int) < 1) = false := decide_eq_false (by omega)
  have t2 : decide ((9 : Int) < (B : Int)) = true := decide_eq_true (by omega)
  clear hb hn hm hB
  go_enter Try.func14, Try.ntmps14
  go_wp2_with (first
    | (refine wpList_execG (.pointer (some ⟨w.heap.size, 0, none⟩)) (exec_alloc 32 rfl _ (mt_msg7.alloc w)) rfl ?_
       refine wpList_world (fun W => Fr No w W ∧ Blk W w.heap.size 32 (cellsM zeroM)) ⟨(Fr.refl No w).alloc _, Blk.new w _ _⟩ ?_
       rintro w0 ⟨hF0, hB0⟩
       obtain ⟨Y, hY, hYR, hYF⟩ := msg_store (m := zeroM) hB0 (by rfl) (by rfl) mt_msg7
       have HY := Lib.hid hY
       have HYL := Lib.hid (msg_loadVar hYR (by rfl) mt_msg7)
       have HYF : Hid (Fr No w Y) := Lib.hid (hF0.trans' hYF (fun k hk e => Nat.lt_irrefl _ (e ▸ hk)))
       clear hF0 hB0 hY hYR hYF)
    | (refine wpList_execG (vM zeroM) (exec_build 32 #[] rfl #[] (by rfl) _ (mt_msg7.build _)) rfl ?_)
    | (refine wpList_store_eq rfl 32 _ _ rfl (.pointer (some ⟨w.heap.size, 0, none⟩)) (vM zeroM) rfl rfl HY.out ?_))
  exact bodyPost_ret (results_cellT rfl rfl rfl HYL.out) rfl ⟨rfl, HYF.out⟩

theorem lenB_snoc : ∀ (l : List UInt8) (c : UInt8), lenB (l ++ [c]) = lenB l + widthB c
  | [], c => by simp [lenB]
  | d :: l, c => by rw [List.cons_append, lenB, lenB, lenB_snoc l c, Nat.add_assoc]
theorem widthB_le (c : UInt8) : widthB c ≤ 32 := by
  unfold widthB
  repeat' split
  all_goals omega
theorem lenB_le : ∀ l : List UInt8, lenB l ≤ 32 * l.length
  | [] => Nat.le_refl _
  | d :: l => by
    have h1 := widthB_le d
    have h2 := lenB_le l
    rw [lenB, List.length_cons]
    omega

set_option maxHeartbeats 2000000 in
theorem rdecode_short (b : UInt8) (s : List UInt8) (w : World) (hm : s.length + 1 ≤ maxLen) (h1 : ¬ b.toNat < 1) (h9 : ¬ 9 < b.toNat) (hlen : s.length + 1 < 5 + lenB (fieldsB (b.toNat : Int))) : Calls Try.prog 14 #[.string (str (b :: s))] w fun ex w' => ex = .returned (.tuple #[vM zeroM, .int .i64 10]) ∧ Fr No w w' := by
  unfold maxLen at hm
  obtain ⟨n, hn⟩ : ∃ n, n = s.length + 1 := ⟨_, rfl⟩
  have zs : (str (b :: s)).size = n := by rw [str_size, hn, List.length_cons]
  have t0 : ((n : Int) == 0) = false := by rw [beq_eq_false_iff_ne]; omega
  have hks : 0 < (str (b :: s)).size := by rw [zs]; omega
  have hg : (str (b :: s))[0]'hks = b := rfl
  obtain ⟨B, hB⟩ : ∃ B, B = b.toNat := ⟨_, rfl⟩
  have hD := hB.symm
  have lB : IntKind.i64.wrap (B : Int) = (B : Int) := IntWalk.i64_in _ (by have := b.toNat_lt; omega)
  have t1 : decide ((B : Int) < 1) = false := decide_eq_false (by omega)
  have t2 : decide ((9 : Int) < (B : Int)) = false := decide_eq_false (by omega)
  rw [hD] at hlen
  obtain ⟨L, hLL⟩ : ∃ L, L = fieldsB (B : Int) := ⟨_, rfl⟩
  obtain ⟨N, hN⟩ : ∃ N, N = L.length := ⟨_, rfl⟩
  have hN4 : N ≤ 4 := by rw [hN, hLL]; exact fields_len _
  have zL : (str L).size = N := by rw [str_size, hN]
  have HFD := Lib.hid (fun X => rfields_any (B : Int) X)
  rw [← hLL] at HFD hlen
  obtain ⟨W, hW⟩ : ∃ W, W = 5 + lenB L := ⟨_, rfl⟩
  have hW200 : W ≤ 200 := by have := lenB_le L; omega
  rw [← hn, ← hW] at hlen
  have q1 : (n : Int) < (W : Int) := by omega
  have HN := Lib.hid hN
  have HN4 := Lib.hid hN4
  have HW := Lib.hid hW
  have HLL := Lib.hid hLL
  clear h1 h9 hlen hn hm hB hN hN4 hW hLL hW200
  go_enter Try.func14, Try.ntmps14
  go_wp2_with (first
    | (refine wpList_execG (.pointer (some ⟨w.heap.size, 0, none⟩)) (exec_alloc 32 rfl _ (mt_msg7.alloc w)) rfl ?_
       refine wpList_world (fun W => Fr No w W ∧ Blk W w.heap.size 32 (cellsM zeroM)) ⟨(Fr.refl No w).alloc _, Blk.new w _ _⟩ ?_
       rintro w0 ⟨hF0, hB0⟩
       obtain ⟨Y, hY, hYR, hYF⟩ := msg_store (m := zeroM) hB0 (by rfl) (by rfl) mt_msg7
       have HY := Lib.hid hY
       have HYL := Lib.hid (msg_loadVar hYR (by rfl) mt_msg7)
       have HYF : Hid (Fr No w Y) := Lib.hid (hF0.trans' hYF (fun k hk e => Nat.lt_irrefl _ (e ▸ hk)))
       clear hF0 hB0 hY hYR hYF)
    | (refine wpList_execG (vM zeroM) (exec_build 32 #[] rfl #[] (by rfl) _ (mt_msg7.build _)) rfl ?_)
    | (refine wpList_store_eq rfl 32 _ _ rfl (.pointer (some ⟨w.heap.size, 0, none⟩)) (vM zeroM) rfl rfl HY.out ?_))
  refine (HFD.out _).mono ?_
  rintro ex w1 ⟨rfl, hw⟩
  rw [hw]
  clear hw HFD
  go_wp2_with fail
  go_loop [6, 7] (fun v i' => ∃ (j V : Nat), j ≤ N ∧ i' = .int .i64 j ∧ v = .int .i64 V ∧ V = 5 + lenB (L.take j)) (fun _ i' => N - (intOf i').toNat)
  case atStart => exact ⟨0, 5, by omega, rfl, rfl, rfl⟩
  case round =>
    obtain ⟨j, V, hj, rfl, rfl, hV⟩ := hrel
    by_cases hlt : j < N
    · have hk1 : (j : Int) < (N : Int) := by omega
      have hjl : j < L.length := by rw [← HN.out]; exact hlt
      have hkj : j < (str L).size := by rw [zL]; exact hlt
      have e1 : IntKind.i64.wrap ((j : Int) + 1) = ((j + 1 : Nat) : Int) := IntWalk.i64_in _ (by have := HN4.out; omega)
      obtain ⟨d, hd⟩ : ∃ d, d = L[j] := ⟨_, rfl⟩
      have hgj : (str L)[j]'hkj = d := by rw [hd]; rfl
      have ht : L.take (j + 1) = L.take j ++ [d] := by rw [hd]; exact List.take_succ_eq_append_getElem hjl
      have bV : V ≤ 200 := by
        have e2 := lenB_le (L.take j)
        have e3 : (L.take j).length ≤ j := List.length_take_le _ _
        have := HN4.out
        omega
      have HX : Hid (N - (j + 1) < N - j) := Lib.hid (by omega)
      have HK : Hid (j + 1 ≤ N) := Lib.hid hlt
      obtain ⟨u, hu⟩ : ∃ u, u = widthB d := ⟨_, rfl⟩
      have HWD := Lib.hid (fun X => rwidth_any d X)
      rw [← hu] at HWD
      have bu : u ≤ 32 := by rw [hu]; exact widthB_le d
      obtain ⟨V2, hV2⟩ : ∃ v, v = V + u := ⟨_, rfl⟩
      have s1 : (V : Int) + (u : Int) = (V2 : Int) := by omega
      have l1 : IntKind.i64.wrap (V2 : Int) = (V2 : Int) := IntWalk.i64_in _ (by omega)
      have HV2 : Hid (V2 = 5 + lenB (L.take (j + 1))) := Lib.hid (by rw [ht, lenB_snoc]; omega)
      clear hV hV2 hu ht hd bV bu hlt hjl hj
      go_wp2_with fail
      refine (HWD.out _).mono ?_
      rintro ex w2 ⟨rfl, hw⟩
      rw [hw]
      clear hw
      go_wp2
      exact ⟨⟨j + 1, V2, HK.out, by simp, rfl, HV2.out⟩, by simpa [intOf] using HX.out⟩
    · have hk1 : ¬ (j : Int) < (N : Int) := by omega
      obtain rfl : V = W := by rw [hV, List.take_of_length_le (by rw [← HN.out]; omega), HW.out]
      clear hV hj hlt
      go_wp2_with (first
        | (refine wpList_execG (vM zeroM) (exec_build 32 #[] rfl #[] (by rfl) _ (mt_msg7.build _)) rfl ?_)
        | (refine wpList_store_eq rfl 32 _ _ rfl (.pointer (some ⟨w.heap.size, 0, none⟩)) (vM zeroM) rfl rfl HY.out ?_))
      exact bodyPost_ret (results_cellT rfl rfl rfl HYL.out) rfl ⟨rfl, HYF.out⟩

set_option maxHeartbeats 2000000 in
theorem rdecode_more (b : UInt8) (s : List UInt8) (w : World) (hm : s.length + 1 ≤ maxLen) (h1 : ¬ b.toNat < 1) (h9 : ¬ 9 < b.toNat) (hlen : 5 + lenB (fieldsB (b.toNat : Int)) < s.length + 1) : Calls Try.prog 14 #[.string (str (b :: s))] w fun ex w' => ex = .returned (.tuple #[vM zeroM, .int .i64 11]) ∧ Fr No w w' := by
  unfold maxLen at hm
  obtain ⟨n, hn⟩ : ∃ n, n = s.length + 1 := ⟨_, rfl⟩
  have zs : (str (b :: s)).size = n := by rw [str_size, hn, List.length_cons]
  have t0 : ((n : Int) == 0) = false := by rw [beq_eq_false_iff_ne]; omega
  have hks : 0 < (str (b :: s)).size := by rw [zs]; omega
  have hg : (str (b :: s))[0]'hks = b := rfl
  obtain ⟨B, hB⟩ : ∃ B, B = b.toNat := ⟨_, rfl⟩
  have hD := hB.symm
  have lB : IntKind.i64.wrap (B : Int) = (B : Int) := IntWalk.i64_in _ (by have := b.toNat_lt; omega)
  have t1 : decide ((B : Int) < 1) = false := decide_eq_false (by omega)
  have t2 : decide ((9 : Int) < (B : Int)) = false := decide_eq_false (by omega)
  rw [hD] at hlen
  obtain ⟨L, hLL⟩ : ∃ L, L = fieldsB (B : Int) := ⟨_, rfl⟩
  obtain ⟨N, hN⟩ : ∃ N, N = L.length := ⟨_, rfl⟩
  have hN4 : N ≤ 4 := by rw [hN, hLL]; exact fields_len _
  have zL : (str L).size = N := by rw [str_size, hN]
  have HFD := Lib.hid (fun X => rfields_any (B : Int) X)
  rw [← hLL] at HFD hlen
  obtain ⟨W, hW⟩ : ∃ W, W = 5 + lenB L := ⟨_, rfl⟩
  have hW200 : W ≤ 200 := by have := lenB_le L; omega
  rw [← hn, ← hW] at hlen
  have q1 : ¬ (n : Int) < (W : Int) := by omega
  have q2 : (W : Int) < (n : Int) := by omega
  have HN := Lib.hid hN
  have HN4 := Lib.hid hN4
  have HW := Lib.hid hW
  have HLL := Lib.hid hLL
  clear h1 h9 hlen hn hm hB hN hN4 hW hLL hW200
  go_enter Try.func14, Try.ntmps14
  go_wp2_with (first
    | (refine wpList_execG (.pointer (some ⟨w.heap.size, 0, none⟩)) (exec_alloc 32 rfl _ (mt_msg7.alloc w)) rfl ?_
       refine wpList_world (fun W => Fr No w W ∧ Blk W w.heap.size 32 (cellsM zeroM)) ⟨(Fr.refl No w).alloc _, Blk.new w _ _⟩ ?_
       rintro w0 ⟨hF0, hB0⟩
       obtain ⟨Y, hY, hYR, hYF⟩ := msg_store (m := zeroM) hB0 (by rfl) (by rfl) mt_msg7
       have HY := Lib.hid hY
       have HYL := Lib.hid (msg_loadVar hYR (by rfl) mt_msg7)
       have HYF : Hid (Fr No w Y) := Lib.hid (hF0.trans' hYF (fun k hk e => Nat.lt_irrefl _ (e ▸ hk)))
       clear hF0 hB0 hY hYR hYF)
    | (refine wpList_execG (vM zeroM) (exec_build 32 #[] rfl #[] (by rfl) _ (mt_msg7.build _)) rfl ?_)
    | (refine wpList_store_eq rfl 32 _ _ rfl (.pointer (some ⟨w.heap.size, 0, none⟩)) (vM zeroM) rfl rfl HY.out ?_))
  refine (HFD.out _).mono ?_
  rintro ex w1 ⟨rfl, hw⟩
  rw [hw]
  clear hw HFD
  go_wp2_with fail
  go_loop [6, 7] (fun v i' => ∃ (j V : Nat), j ≤ N ∧ i' = .int .i64 j ∧ v = .int .i64 V ∧ V = 5 + lenB (L.take j)) (fun _ i' => N - (intOf i').toNat)
  case atStart => exact ⟨0, 5, by omega, rfl, rfl, rfl⟩
  case round =>
    obtain ⟨j, V, hj, rfl, rfl, hV⟩ := hrel
    by_cases hlt : j < N
    · have hk1 : (j : Int) < (N : Int) := by omega
      have hjl : j < L.length := by rw [← HN.out]; exact hlt
      have hkj : j < (str L).size := by rw [zL]; exact hlt
      have e1 : IntKind.i64.wrap ((j : Int) + 1) = ((j + 1 : Nat) : Int) := IntWalk.i64_in _ (by have := HN4.out; omega)
      obtain ⟨d, hd⟩ : ∃ d, d = L[j] := ⟨_, rfl⟩
      have hgj : (str L)[j]'hkj = d := by rw [hd]; rfl
      have ht : L.take (j + 1) = L.take j ++ [d] := by rw [hd]; exact List.take_succ_eq_append_getElem hjl
      have bV : V ≤ 200 := by
        have e2 := lenB_le (L.take j)
        have e3 : (L.take j).length ≤ j := List.length_take_le _ _
        have := HN4.out
        omega
      have HX : Hid (N - (j + 1) < N - j) := Lib.hid (by omega)
      have HK : Hid (j + 1 ≤ N) := Lib.hid hlt
      obtain ⟨u, hu⟩ : ∃ u, u = widthB d := ⟨_, rfl⟩
      have HWD := Lib.hid (fun X => rwidth_any d X)
      rw [← hu] at HWD
      have bu : u ≤ 32 := by rw [hu]; exact widthB_le d
      obtain ⟨V2, hV2⟩ : ∃ v, v = V + u := ⟨_, rfl⟩
      have s1 : (V : Int) + (u : Int) = (V2 : Int) := by omega
      have l1 : IntKind.i64.wrap (V2 : Int) = (V2 : Int) := IntWalk.i64_in _ (by omega)
      have HV2 : Hid (V2 = 5 + lenB (L.take (j + 1))) := Lib.hid (by rw [ht, lenB_snoc]; omega)
      clear hV hV2 hu ht hd bV bu hlt hjl hj
      go_wp2_with fail
      refine (HWD.out _).mono ?_
      rintro ex w2 ⟨rfl, hw⟩
      rw [hw]
      clear hw
      go_wp2
      exact ⟨⟨j + 1, V2, HK.out, by simp, rfl, HV2.out⟩, by simpa [intOf] using HX.out⟩
    · have hk1 : ¬ (j : Int) < (N : Int) := by omega
      obtain rfl : V = W := by rw [hV, List.take_of_length_le (by rw [← HN.out]; omega), HW.out]
      clear hV hj hlt
      go_wp2_with (first
        | (refine wpList_execG (vM zeroM) (exec_build 32 #[] rfl #[] (by rfl) _ (mt_msg7.build _)) rfl ?_)
        | (refine wpList_store_eq rfl 32 _ _ rfl (.pointer (some ⟨w.heap.size, 0, none⟩)) (vM zeroM) rfl rfl HY.out ?_))
      exact bodyPost_ret (results_cellT rfl rfl rfl HYL.out) rfl ⟨rfl, HYF.out⟩

end Go.Proofs.Ytpdnbjaamgfemaa
