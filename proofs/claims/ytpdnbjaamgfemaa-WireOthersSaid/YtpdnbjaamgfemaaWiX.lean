/- What bytes tell: the document's Decode, where their number is right. -/
import Derived.Test.YtpdnbjaamgfemaaWiU
namespace Go.Proofs.Ytpdnbjaamgfemaa
open Go.RowKit
set_option linter.unusedVariables false
set_option maxRecDepth 100000

set_option maxHeartbeats 4000000 in
theorem rdecode_full (b : UInt8) (s : List UInt8) (w : World) (hm : s.length + 1 ≤ maxLen) (h1 : ¬ b.toNat < 1) (h9 : ¬ 9 < b.toNat) (hlen : s.length + 1 = 5 + lenB (fieldsB (b.toNat : Int))) (M : Msg) (y : Bool) (hM : M = told b s) (hy : y = may M) (hMl : M.h.length = 32) :
    Calls Try.prog 14 #[.string (str (b :: s))] w fun ex w' => ex = .returned (.tuple #[vM (if y then M else zeroM), .int .i64 (if y then 0 else 1)]) ∧ Fr No w w' := by
  have hsm : s.length ≤ maxLen := by omega
  unfold maxLen at hm
  obtain ⟨n, hn⟩ : ∃ n, n = s.length + 1 := ⟨_, rfl⟩
  have zs : (str (b :: s)).size = n := by rw [str_size, hn, List.length_cons]
  have t0 : ((n : Int) == 0) = false := by rw [beq_eq_false_iff_ne]; omega
  have hks : 0 < (str (b :: s)).size := by rw [zs]; omega
  have hg : (str (b :: s))[0]'hks = b := rfl
  obtain ⟨B, hB⟩ : ∃ B, B = b.toNat := ⟨_, rfl⟩
  have hD := hB.symm
  have lB : IntKind.i64.wrap (B : Int) = (B : Int) := IntWalk.i64_in _ (by have := b.toNat_lt; omega)
  have t1 : decide ((B : Int) < 1) = false := decide_eq_false (by omega)
  have t2 : decide ((9 : Int) < (B : Int)) = false := decide_eq_false (by omega)
  rw [hD] at hlen
  obtain ⟨L, hLL⟩ : ∃ L, L = fieldsB (B : Int) := ⟨_, rfl⟩
  obtain ⟨N, hN⟩ : ∃ N, N = L.length := ⟨_, rfl⟩
  have hN4 : N ≤ 4 := by rw [hN, hLL]; exact fields_len _
  have zL : (str L).size = N := by rw [str_size, hN]
  have HFD := Lib.hid (fun X => rfields_any (B : Int) X)
  rw [← hLL] at HFD hlen
  obtain ⟨W, hW⟩ : ∃ W, W = 5 + lenB L := ⟨_, rfl⟩
  have hW200 : W ≤ 200 := by have := lenB_le L; omega
  rw [← hn, ← hW] at hlen
  have q1 : ¬ (n : Int) < (W : Int) := by omega
  have q2 : ¬ (W : Int) < (n : Int) := by omega
  have hs4 : 4 ≤ s.length := by omega
  have hex : (str (b :: s)).extract 1 n = str s := str_rest b s n hn
  obtain ⟨C, hC⟩ : ∃ C, C = beNat (s.take 4) := ⟨_, rfl⟩
  have bC : C < 4294967296 := by
    rw [hC]
    have := beNat_lt (s.take 4)
    rw [List.length_take, Nat.min_eq_left hs4] at this
    omega
  have lC : IntKind.u32.wrap (C : Int) = (C : Int) := by rw [IntKind.wrap_u32]; omega
  obtain ⟨s4, hs4e⟩ : ∃ l, l = s.drop 4 := ⟨_, rfl⟩
  have HRD : Hid (readF ⟨(B : Int), C, 0, 0, zeroH, 0, 0⟩ L s4 = M) := Lib.hid (by rw [hM, told, hC, hs4e, hLL, hD])
  have HSL : Hid (s4.length = lenB L) := Lib.hid (by rw [hs4e, List.length_drop]; omega)
  have HSM : Hid (s4.length ≤ maxLen) := Lib.hid (by rw [hs4e, List.length_drop]; omega)
  have HLt : Hid (∀ d ∈ L, Lett d) := Lib.hid (by rw [hLL]; exact fields_is _)
  have HNUM : Hid (∀ pr X, X.cell? ⟨pr, 0, none⟩ = some (.string (str s)) → X.frozen? ⟨pr, 0, none⟩ = false →
      Calls Try.prog 32 #[.pointer (some ⟨pr, 0, none⟩), .int .i64 4] X fun e w' => e = .returned (.tuple #[.int .u64 (C : Int), .int .i64 0]) ∧ Rd pr (str s4) X w') := Lib.hid (fun pr X hc hf => by
    have := rrnum_all pr s (4 : Nat) X hc hf hsm
    rw [numR_in s 4 (by decide) (by decide) hs4, ← hC, ← hs4e] at this
    exact this)
  have HMY : Hid (∀ X, Calls Try.prog 11 #[vM M] X fun ex w' => ex = .returned (.bool y) ∧ Fr No X w') := Lib.hid (fun X => by rw [hy]; exact rmay_any M hMl X)
  have HML := Lib.hid hMl
  have HN := Lib.hid hN
  have HN4 := Lib.hid hN4
  have HW := Lib.hid hW
  have HLL := Lib.hid hLL
  clear h1 h9 hlen hn hm hB hN hN4 hW hLL hW200 hsm hs4 hC bC hs4e hM hy hMl
  obtain ⟨p, hp⟩ : ∃ p, p = w.heap.size := ⟨_, rfl⟩
  have HP := Lib.hid hp
  go_enter Try.func14, Try.ntmps14
  go_wp2_with (refine wpList_execG (.pointer (some ⟨p, 0, none⟩)) (exec_alloc 32 rfl _ (by rw [HP.out]; exact mt_msg7.alloc w)) rfl ?_
               refine wpList_world (fun W => Fr No w W ∧ Blk W p 32 (cellsM zeroM)) ⟨(Fr.refl No w).alloc _, by rw [HP.out]; exact Blk.new w _ _⟩ ?_
               rintro w0 ⟨hF0, hB0⟩
               have HF0 := Lib.hid hF0
               have HB0 := Lib.hid hB0
               clear hF0 hB0 hp)
  refine (HFD.out _).mono ?_
  rintro ex w1 ⟨rfl, hw⟩
  rw [hw]
  clear hw HFD
  go_wp2_with fail
  go_loop [6, 7] (fun v i' => ∃ (j V : Nat), j ≤ N ∧ i' = .int .i64 j ∧ v = .int .i64 V ∧ V = 5 + lenB (L.take j)) (fun _ i' => N - (intOf i').toNat)
  case atStart => exact ⟨0, 5, by omega, rfl, rfl, rfl⟩
  case round =>
    obtain ⟨j, V, hj, rfl, rfl, hV⟩ := hrel
    by_cases hlt : j < N
    · have hk1 : (j : Int) < (N : Int) := by omega
      have hjl : j < L.length := by rw [← HN.out]; exact hlt
      have hkj : j < (str L).size := by rw [zL]; exact hlt
      have e1 : IntKind.i64.wrap ((j : Int) + 1) = ((j + 1 : Nat) : Int) := IntWalk.i64_in _ (by have := HN4.out; omega)
      obtain ⟨d, hd⟩ : ∃ d, d = L[j] := ⟨_, rfl⟩
      have hgj : (str L)[j]'hkj = d := by rw [hd]; rfl
      have ht : L.take (j + 1) = L.take j ++ [d] := by rw [hd]; exact List.take_succ_eq_append_getElem hjl
      have bV : V ≤ 200 := by
        have e2 := lenB_le (L.take j)
        have e3 : (L.take j).length ≤ j := List.length_take_le _ _
        have := HN4.out
        omega
      have HX : Hid (N - (j + 1) < N - j) := Lib.hid (by omega)
      have HK : Hid (j + 1 ≤ N) := Lib.hid hlt
      obtain ⟨u, hu⟩ : ∃ u, u = widthB d := ⟨_, rfl⟩
      have HWD := Lib.hid (fun X => rwidth_any d X)
      rw [← hu] at HWD
      have bu : u ≤ 32 := by rw [hu]; exact widthB_le d
      obtain ⟨V2, hV2⟩ : ∃ v, v = V + u := ⟨_, rfl⟩
      have s1 : (V : Int) + (u : Int) = (V2 : Int) := by omega
      have l1 : IntKind.i64.wrap (V2 : Int) = (V2 : Int) := IntWalk.i64_in _ (by omega)
      have HV2 : Hid (V2 = 5 + lenB (L.take (j + 1))) := Lib.hid (by rw [ht, lenB_snoc]; omega)
      clear hV hV2 hu ht hd bV bu hlt hjl hj
      go_wp2_with fail
      refine (HWD.out _).mono ?_
      rintro ex w2 ⟨rfl, hw⟩
      rw [hw]
      clear hw
      go_wp2
      exact ⟨⟨j + 1, V2, HK.out, by simp, rfl, HV2.out⟩, by simpa [intOf] using HX.out⟩
    · have hk1 : ¬ (j : Int) < (N : Int) := by omega
      obtain rfl : V = W := by rw [hV, List.take_of_length_le (by rw [← HN.out]; omega), HW.out]
      clear hV hj hlt
      obtain ⟨pr, hpr⟩ : ∃ p, p = w0.heap.size := ⟨_, rfl⟩
      go_wp2_with fail
      obtain ⟨X0, hX0⟩ : ∃ X, X = w0.alloc (.cells #[.string (str s)] 73) := ⟨_, rfl⟩
      have hc0 : X0.cell? ⟨pr, 0, none⟩ = some (.string (str s)) := by rw [hX0, hpr]; exact cell_new0 w0 _ _
      have hf0 : X0.frozen? ⟨pr, 0, none⟩ = false := by rw [hX0, hpr]; exact frozen_new w0 _ _
      have hFX : Fr No w X0 := by rw [hX0]; exact HF0.out.alloc _
      have hBX : Blk X0 p 32 (cellsM zeroM) := by rw [hX0]; exact HB0.out.alloc _
      have hpp : p < pr := by rw [hpr]; exact HB0.out.lt
      rw [← hX0, ← hpr]
      refine (HNUM.out pr X0 hc0 hf0).mono ?_
      rintro ex X1 ⟨rfl, hR1⟩
      have HD1 : Hid (Fr No w X1 ∧ Blk X1 p 32 (cellsM zeroM) ∧ X1.cell? ⟨pr, 0, none⟩ = some (.string (str s4)) ∧ X1.frozen? ⟨pr, 0, none⟩ = false ∧ p < pr ∧ pr < X1.heap.size ∧ w.heap.size ≤ p) := Lib.hid
        ⟨hFX.trans' hR1.2.2 (fun i hi e => by have := HP.out; omega), hBX.fr hR1.2.2 (by omega), hR1.1, hR1.2.1, hpp, lt_cell hR1.1, by rw [HP.out]; exact Nat.le_refl _⟩
      clear hX0 hc0 hf0 hFX hBX hpp hR1 hpr
      obtain ⟨pm, hpm⟩ : ∃ p, p = X1.heap.size := ⟨_, rfl⟩
      have HPM := Lib.hid hpm
      clear hpm
      go_wp2_with (first
        | (refine wpList_execG (vM ⟨(B : Int), C, 0, 0, zeroH, 0, 0⟩) (exec_build 32 _ rfl #[(0, .int .i64 (B : Int)), (1, .int .u32 (C : Int))] (by rfl) _ (build_two _ _ _)) rfl ?_)
        | (refine wpList_execG (.pointer (some ⟨pm, 0, none⟩)) (exec_alloc 32 rfl _ (by rw [HPM.out]; exact mt_msg7.alloc X1)) rfl ?_
           refine wpList_world (fun W => Dst w p pr pm zeroM s4 W) (by
             obtain ⟨d1, d2, d3, d4, d5, d6, d7⟩ := HD1.out
             exact ⟨d1.alloc _, d2.alloc _, by rw [HPM.out]; exact Blk.new X1 _ _, ((Fr.refl No X1).alloc _).cell id d3, (((Fr.refl No X1).alloc _).frozen 0 d6 id).trans d4, d7, by omega, by have := HPM.out; omega, by omega, by have := HPM.out; omega, by have := HPM.out; omega⟩) ?_
           rintro X2 hD2
           obtain ⟨Y, hY, hYR, hYF⟩ := msg_store (m := ⟨(B : Int), C, 0, 0, zeroH, 0, 0⟩) hD2.msg (by rfl) (by rfl) mt_msg7
           have HY := Lib.hid hY
           have HD3 := Lib.hid (hD2.fill hYF hYR)
           clear hD2 hY hYR hYF)
        | (refine wpList_store_eq rfl 32 _ _ rfl (.pointer (some ⟨pm, 0, none⟩)) (vM ⟨(B : Int), C, 0, 0, zeroH, 0, 0⟩) rfl rfl HY.out ?_))
      clear hk1 HNUM HB0 HF0 HD1 HPM HY
      go_loopw [12] (fun i' wr => ∃ (j : Nat) (m : Msg) (r : List UInt8), j ≤ N ∧ i' = .int .i64 j ∧ readF m (L.drop j) r = M ∧ r.length = lenB (L.drop j) ∧ m.h.length = 32 ∧ Dst w p pr pm m r wr) (fun i' _ => N - (intOf i').toNat)
      case atStart => exact ⟨0, ⟨(B : Int), C, 0, 0, zeroH, 0, 0⟩, s4, by omega, rfl, HRD.out, HSL.out, by rfl, HD3.out⟩
      case round =>
        obtain ⟨j2, m, r, hj, rfl, hrd, hrl, hml, hD⟩ := hrel
        have D := Lib.hid hD
        have HML2 := Lib.hid hml
        clear hD
        by_cases hlt : j2 < N
        · have hk1 : (j2 : Int) < (N : Int) := by omega
          have hjl : j2 < L.length := by rw [← HN.out]; exact hlt
          have hkj : j2 < (str L).size := by rw [zL]; exact hlt
          have e1 : IntKind.i64.wrap ((j2 : Int) + 1) = ((j2 + 1 : Nat) : Int) := IntWalk.i64_in _ (by have := HN4.out; omega)
          obtain ⟨d, hd⟩ : ∃ d, d = L[j2] := ⟨_, rfl⟩
          have hgj : (str L)[j2]'hkj = d := by rw [hd]; rfl
          have hdl : Lett d := HLt.out d (by rw [hd]; exact List.getElem_mem hjl)
          have ht : L.drop j2 = d :: L.drop (j2 + 1) := by rw [hd]; exact List.drop_eq_getElem_cons hjl
          rw [ht] at hrd hrl
          rw [readF] at hrd
          rw [lenB] at hrl
          have hrm : r.length ≤ maxLen := by
            have h1 := lenB_le (L.drop (j2 + 1))
            have h2 := widthB_le d
            have h3 : (L.drop (j2 + 1)).length ≤ L.length := by rw [List.length_drop]; omega
            have h4 := HN.out
            have h5 := HN4.out
            unfold maxLen
            omega
          have HX : Hid (N - (j2 + 1) < N - j2) := Lib.hid (by omega)
          have HK : Hid (j2 + 1 ≤ N) := Lib.hid hlt
          have HRL : Hid ((r.drop (widthB d)).length = lenB (L.drop (j2 + 1))) := Lib.hid (by rw [List.length_drop]; omega)
          clear ht hd hjl hlt hj
          rcases hdl with rfl | rfl | rfl | rfl | rfl
          · have hDD : (105 : UInt8).toNat = 105 := rfl
            have hwd : widthB 105 = 8 := rfl
            obtain ⟨x, hx⟩ : ∃ x, x = beNat (r.take 8) := ⟨_, rfl⟩
            have bx : x < 256 ^ 8 := by
              have h := beNat_lt (r.take 8)
              rw [List.length_take, Nat.min_eq_left (by omega), ← hx] at h
              exact h
            have HWD : Hid (∀ X, Calls Try.prog 31 #[.int .u8 105] X fun ex w' => ex = .returned (.int .i64 8) ∧ w' = X) := Lib.hid (fun X => rwidth_any 105 X)
            have HNM : Hid (∀ X, X.cell? ⟨pr, 0, none⟩ = some (.string (str r)) → X.frozen? ⟨pr, 0, none⟩ = false →
                Calls Try.prog 32 #[.pointer (some ⟨pr, 0, none⟩), .int .i64 8] X fun e w' => e = .returned (.tuple #[.int .u64 (x : Int), .int .i64 0]) ∧ Rd pr (str (r.drop 8)) X w') := Lib.hid (fun X hc hf => by
              have := rrnum_all pr r (8 : Nat) X hc hf hrm
              rw [numR_in r 8 (by decide) (by decide) (by omega), ← hx] at this
              exact this)
            have HRD2 : Hid (readF { m with i := x } (L.drop (j2 + 1)) (r.drop 8) = M) := Lib.hid (by rw [hx]; exact hrd)
            clear hrd hrl hml hrm hx bx hwd
            go_wp2_with fail
            refine (HWD.out _).mono ?_
            rintro ex X2 ⟨rfl, hw⟩
            rw [hw]
            clear hw HWD
            go_wp2_with fail
            refine (HNM.out wr D.out.rd D.out.fz).mono ?_
            rintro ex X3 ⟨rfl, hR3⟩
            have D3 := Lib.hid (D.out.read hR3)
            have cc := msg_i D3.out.msg
            have cf := D3.out.msg.frozen 2
            clear hR3 HNM
            go_wp2
            exact ⟨⟨j2 + 1, { m with i := x }, r.drop 8, HK.out, by simp, HRD2.out, HRL.out, HML2.out, D3.out.setI x⟩, by simpa [intOf] using HX.out⟩
          · have hDD : (97 : UInt8).toNat = 97 := rfl
            have hwd : widthB 97 = 8 := rfl
            obtain ⟨x, hx⟩ : ∃ x, x = beNat (r.take 8) := ⟨_, rfl⟩
            have bx : x < 256 ^ 8 := by
              have h := beNat_lt (r.take 8)
              rw [List.length_take, Nat.min_eq_left (by omega), ← hx] at h
              exact h
            have HWD : Hid (∀ X, Calls Try.prog 31 #[.int .u8 97] X fun ex w' => ex = .returned (.int .i64 8) ∧ w' = X) := Lib.hid (fun X => rwidth_any 97 X)
            have HNM : Hid (∀ X, X.cell? ⟨pr, 0, none⟩ = some (.string (str r)) → X.frozen? ⟨pr, 0, none⟩ = false →
                Calls Try.prog 32 #[.pointer (some ⟨pr, 0, none⟩), .int .i64 8] X fun e w' => e = .returned (.tuple #[.int .u64 (x : Int), .int .i64 0]) ∧ Rd pr (str (r.drop 8)) X w') := Lib.hid (fun X hc hf => by
              have := rrnum_all pr r (8 : Nat) X hc hf hrm
              rw [numR_in r 8 (by decide) (by decide) (by omega), ← hx] at this
              exact this)
            have HRD2 : Hid (readF { m with a := x } (L.drop (j2 + 1)) (r.drop 8) = M) := Lib.hid (by rw [hx]; exact hrd)
            clear hrd hrl hml hrm hx bx hwd
            go_wp2_with fail
            refine (HWD.out _).mono ?_
            rintro ex X2 ⟨rfl, hw⟩
            rw [hw]
            clear hw HWD
            go_wp2_with fail
            refine (HNM.out wr D.out.rd D.out.fz).mono ?_
            rintro ex X3 ⟨rfl, hR3⟩
            have D3 := Lib.hid (D.out.read hR3)
            have cc := msg_a D3.out.msg
            have cf := D3.out.msg.frozen 3
            clear hR3 HNM
            go_wp2
            exact ⟨⟨j2 + 1, { m with a := x }, r.drop 8, HK.out, by simp, HRD2.out, HRL.out, HML2.out, D3.out.setA x⟩, by simpa [intOf] using HX.out⟩
          · have hDD : (104 : UInt8).toNat = 104 := rfl
            have hwd : widthB 104 = 32 := rfl
            obtain ⟨V, hV⟩ : ∃ l, l = r.take 32 := ⟨_, rfl⟩
            have hVl : V.length = 32 := by
              rw [hV, List.length_take]
              omega
            have HRH : Hid (∀ X, X.cell? ⟨pr, 0, none⟩ = some (.string (str r)) → X.frozen? ⟨pr, 0, none⟩ = false →
                Calls Try.prog 33 #[.pointer (some ⟨pr, 0, none⟩)] X fun e w' => e = .returned (.tuple #[.agg (V.map u8v).toArray, .int .i64 0]) ∧ Rd pr (str (r.drop 32)) X w') := Lib.hid (fun X hc hf => by
              have := rrhash_all pr r X hc hf hrm
              rwa [hashR_in r (by omega), ← hV] at this)
            have HRD2 : Hid (readF { m with h := V } (L.drop (j2 + 1)) (r.drop 32) = M) := Lib.hid (by rw [hV]; exact hrd)
            have HVL := Lib.hid hVl
            clear hrd hrl hml hrm hV hVl hwd
            go_wp2_with fail
            refine (HRH.out wr D.out.rd D.out.fz).mono ?_
            rintro ex X3 ⟨rfl, hR3⟩
            obtain ⟨Y, hY, hYD⟩ := (D.out.read hR3).setH HML2.out V HVL.out
            have HY := Lib.hid hY
            have D4 := Lib.hid hYD
            clear hR3 hY hYD HRH
            go_wp2_with (refine wpList_store_eq rfl 25 _ _ rfl (.pointer (some ⟨pm, 4, none⟩)) (.agg (V.map u8v).toArray) rfl rfl HY.out ?_)
            exact ⟨⟨j2 + 1, { m with h := V }, r.drop 32, HK.out, by simp, HRD2.out, HRL.out, HVL.out, D4.out⟩, by simpa [intOf] using HX.out⟩
          · have hDD : (101 : UInt8).toNat = 101 := rfl
            have hwd : widthB 101 = 4 := rfl
            obtain ⟨x, hx⟩ : ∃ x, x = beNat (r.take 4) := ⟨_, rfl⟩
            have bx : x < 256 ^ 4 := by
              have h := beNat_lt (r.take 4)
              rw [List.length_take, Nat.min_eq_left (by omega), ← hx] at h
              exact h
            have HWD : Hid (∀ X, Calls Try.prog 31 #[.int .u8 101] X fun ex w' => ex = .returned (.int .i64 4) ∧ w' = X) := Lib.hid (fun X => rwidth_any 101 X)
            have HNM : Hid (∀ X, X.cell? ⟨pr, 0, none⟩ = some (.string (str r)) → X.frozen? ⟨pr, 0, none⟩ = false →
                Calls Try.prog 32 #[.pointer (some ⟨pr, 0, none⟩), .int .i64 4] X fun e w' => e = .returned (.tuple #[.int .u64 (x : Int), .int .i64 0]) ∧ Rd pr (str (r.drop 4)) X w') := Lib.hid (fun X hc hf => by
              have := rrnum_all pr r (4 : Nat) X hc hf hrm
              rw [numR_in r 4 (by decide) (by decide) (by omega), ← hx] at this
              exact this)
            have HRD2 : Hid (readF { m with e := (x : Int) } (L.drop (j2 + 1)) (r.drop 4) = M) := Lib.hid (by rw [hx]; exact hrd)
            have lx : IntKind.i64.wrap (x : Int) = (x : Int) := IntWalk.i64_in _ (by omega)
            clear hrd hrl hml hrm hx bx hwd
            go_wp2_with fail
            refine (HWD.out _).mono ?_
            rintro ex X2 ⟨rfl, hw⟩
            rw [hw]
            clear hw HWD
            go_wp2_with fail
            refine (HNM.out wr D.out.rd D.out.fz).mono ?_
            rintro ex X3 ⟨rfl, hR3⟩
            have D3 := Lib.hid (D.out.read hR3)
            have cc := msg_e D3.out.msg HML2.out
            have cf := D3.out.msg.frozen 36
            clear hR3 HNM
            go_wp2
            exact ⟨⟨j2 + 1, { m with e := (x : Int) }, r.drop 4, HK.out, by simp, HRD2.out, HRL.out, HML2.out, D3.out.setE HML2.out x⟩, by simpa [intOf] using HX.out⟩
          · have hDD : (110 : UInt8).toNat = 110 := rfl
            have hwd : widthB 110 = 2 := rfl
            obtain ⟨x, hx⟩ : ∃ x, x = beNat (r.take 2) := ⟨_, rfl⟩
            have bx : x < 256 ^ 2 := by
              have h := beNat_lt (r.take 2)
              rw [List.length_take, Nat.min_eq_left (by omega), ← hx] at h
              exact h
            have HWD : Hid (∀ X, Calls Try.prog 31 #[.int .u8 110] X fun ex w' => ex = .returned (.int .i64 2) ∧ w' = X) := Lib.hid (fun X => rwidth_any 110 X)
            have HNM : Hid (∀ X, X.cell? ⟨pr, 0, none⟩ = some (.string (str r)) → X.frozen? ⟨pr, 0, none⟩ = false →
                Calls Try.prog 32 #[.pointer (some ⟨pr, 0, none⟩), .int .i64 2] X fun e w' => e = .returned (.tuple #[.int .u64 (x : Int), .int .i64 0]) ∧ Rd pr (str (r.drop 2)) X w') := Lib.hid (fun X hc hf => by
              have := rrnum_all pr r (2 : Nat) X hc hf hrm
              rw [numR_in r 2 (by decide) (by decide) (by omega), ← hx] at this
              exact this)
            have HRD2 : Hid (readF { m with n := (x : Int) } (L.drop (j2 + 1)) (r.drop 2) = M) := Lib.hid (by rw [hx]; exact hrd)
            have lx : IntKind.i64.wrap (x : Int) = (x : Int) := IntWalk.i64_in _ (by omega)
            clear hrd hrl hml hrm hx bx hwd
            go_wp2_with fail
            refine (HWD.out _).mono ?_
            rintro ex X2 ⟨rfl, hw⟩
            rw [hw]
            clear hw HWD
            go_wp2_with fail
            refine (HNM.out wr D.out.rd D.out.fz).mono ?_
            rintro ex X3 ⟨rfl, hR3⟩
            have D3 := Lib.hid (D.out.read hR3)
            have cc := msg_n D3.out.msg HML2.out
            have cf := D3.out.msg.frozen 37
            clear hR3 HNM
            go_wp2
            exact ⟨⟨j2 + 1, { m with n := (x : Int) }, r.drop 2, HK.out, by simp, HRD2.out, HRL.out, HML2.out, D3.out.setN HML2.out x⟩, by simpa [intOf] using HX.out⟩
        · have hk1 : ¬ (j2 : Int) < (N : Int) := by omega
          obtain rfl : m = M := by rw [← hrd, List.drop_of_length_le (by rw [← HN.out]; omega)]; rfl
          have HL1 := Lib.hid (msg_load D.out.msg HML.out mt_msg7)
          clear hrd hrl hml hj hlt
          go_wp2_with (refine wpList_load_eq rfl 32 _ rfl (.pointer (some ⟨pm, 0, none⟩)) (vM m) rfl HL1.out ?_)
          refine (HMY.out _).mono ?_
          rintro ex X4 ⟨rfl, hF4⟩
          have D4 := Lib.hid (D.out.on hF4)
          clear hF4 HMY
          cases y with
          | true =>
            have HL2 := Lib.hid (msg_load D4.out.msg HML.out mt_msg7)
            obtain ⟨Y, hY, hYR, hYF⟩ := msg_store (m := m) D4.out.res (by rfl) HML.out mt_msg7
            have HY := Lib.hid hY
            have HYL := Lib.hid (msg_loadVar hYR HML.out mt_msg7)
            have HYF : Hid (Fr No w Y) := Lib.hid (D4.out.fr.trans' hYF (fun k hk e => by have := D4.out.n1; omega))
            clear hY hYR hYF
            go_wp2_with (first
              | (refine wpList_load_eq rfl 32 _ rfl (.pointer (some ⟨pm, 0, none⟩)) (vM m) rfl HL2.out ?_)
              | (refine wpList_store_eq rfl 32 _ _ rfl (.pointer (some ⟨p, 0, none⟩)) (vM m) rfl rfl HY.out ?_))
            exact bodyPost_ret (results_cellT rfl rfl rfl HYL.out) rfl ⟨rfl, HYF.out⟩
          | false =>
            obtain ⟨Y, hY, hYR, hYF⟩ := msg_store (m := zeroM) D4.out.res (by rfl) (by rfl) mt_msg7
            have HY := Lib.hid hY
            have HYL := Lib.hid (msg_loadVar hYR (by rfl) mt_msg7)
            have HYF : Hid (Fr No w Y) := Lib.hid (D4.out.fr.trans' hYF (fun k hk e => by have := D4.out.n1; omega))
            clear hY hYR hYF
            go_wp2_with (first
              | (refine wpList_execG (vM zeroM) (exec_build 32 #[] rfl #[] (by rfl) _ (mt_msg7.build _)) rfl ?_)
              | (refine wpList_store_eq rfl 32 _ _ rfl (.pointer (some ⟨p, 0, none⟩)) (vM zeroM) rfl rfl HY.out ?_))
            exact bodyPost_ret (results_cellT rfl rfl rfl HYL.out) rfl ⟨rfl, HYF.out⟩

theorem read_h : ∀ (l : List UInt8) (m : Msg) (s : List UInt8), m.h.length = 32 → s.length = lenB l → (readF m l s).h.length = 32
  | [], m, _, hm, _ => hm
  | d :: l, m, s, hm, hs => by
    rw [lenB] at hs
    rw [readF]
    refine read_h l _ _ ?_ (by rw [List.length_drop]; omega)
    unfold setF
    repeat' split
    all_goals first | exact hm | (rename_i h1 h2 h3; rw [h3] at hs ⊢; have : widthB 104 = 32 := rfl; simp only [List.length_take]; omega)

theorem decM_told (b : UInt8) (s : List UInt8) (h1 : ¬ b.toNat < 1) (h9 : ¬ 9 < b.toNat) (hlen : s.length + 1 = 5 + lenB (fieldsB (b.toNat : Int))) : decM (b :: s) = (if may (told b s) then (told b s, 0) else (zeroM, 1)) := by
  rw [decM, if_neg (by omega), if_neg (by omega), if_neg (by omega)]

theorem rdecode_any (l : List UInt8) (hm : l.length ≤ maxLen) (w : World) : Calls Try.prog 14 #[.string (str l)] w fun ex w' => ex = .returned (.tuple #[vM (decM l).1, .int .i64 (decM l).2]) ∧ Fr No w w' := by
  match l, hm with
  | [], _ => exact rdecode_nil w
  | b :: s, hm =>
    by_cases h1 : b.toNat < 1
    · rw [decM, if_pos (Or.inl h1)]
      exact rdecode_kind0 b s w hm h1
    by_cases h9 : 9 < b.toNat
    · rw [decM, if_pos (Or.inr h9)]
      exact rdecode_kind9 b s w hm h9
    by_cases hs : s.length + 1 < 5 + lenB (fieldsB (b.toNat : Int))
    · rw [decM, if_neg (by omega), if_pos hs]
      exact rdecode_short b s w hm h1 h9 hs
    by_cases hb : 5 + lenB (fieldsB (b.toNat : Int)) < s.length + 1
    · rw [decM, if_neg (by omega), if_neg hs, if_pos hb]
      exact rdecode_more b s w hm h1 h9 hb
    have hl : s.length + 1 = 5 + lenB (fieldsB (b.toNat : Int)) := by omega
    have h := rdecode_full b s w hm h1 h9 hl (told b s) (may (told b s)) rfl rfl (read_h _ _ _ (by rfl) (by rw [List.length_drop]; omega))
    rw [decM_told b s h1 h9 hl]
    cases hy : may (told b s) with
    | true =>
      rw [hy] at h
      exact h
    | false =>
      rw [hy] at h
      exact h

theorem decM_h (l : List UInt8) : (decM l).1.h.length = 32 := by
  match l with
  | [] => rfl
  | b :: s =>
    by_cases h1 : b.toNat < 1
    · rw [decM, if_pos (Or.inl h1)]; rfl
    by_cases h9 : 9 < b.toNat
    · rw [decM, if_pos (Or.inr h9)]; rfl
    by_cases hs : s.length + 1 < 5 + lenB (fieldsB (b.toNat : Int))
    · rw [decM, if_neg (by omega), if_pos hs]; rfl
    by_cases hb : 5 + lenB (fieldsB (b.toNat : Int)) < s.length + 1
    · rw [decM, if_neg (by omega), if_neg hs, if_pos hb]; rfl
    rw [decM_told b s h1 h9 (by omega)]
    split
    · exact read_h _ _ _ (by rfl) (by rw [List.length_drop]; omega)
    · rfl
end Go.Proofs.Ytpdnbjaamgfemaa
