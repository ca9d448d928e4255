/- The walk of 'ShelfOther'. -/
import Derived.Test.YtnpgcgemifoddaaDoorShS
namespace Go.Proofs.YtnpgcgemifoddaaDoor
open Go.RowKit
set_option linter.unusedVariables false

theorem or_one_i64 (a : Nat) (ha : a < 65536) : bits .or .i64 (a : Int) 1 = ((a / 2 * 2 + 1 : Nat) : Int) := by
  show IntKind.i64.wrap ((BitVec.ofInt 64 (a : Int) ||| BitVec.ofInt 64 ((1 : Nat) : Int)).toNat : Int) = _
  rw [BitVec.toNat_or, BitVec.ofInt_natCast, BitVec.ofInt_natCast, BitVec.toNat_ofNat, BitVec.toNat_ofNat, Nat.mod_eq_of_lt (by omega), Nat.mod_eq_of_lt (by omega)]
  have h1 : a ||| 1 = a / 2 * 2 + 1 := by
    apply Nat.eq_of_testBit_eq
    intro j
    cases j with
    | zero => simp [Nat.testBit_zero]
    | succ j =>
      rw [Nat.testBit_or, Nat.testBit_succ, Nat.testBit_succ, Nat.testBit_succ, show (a / 2 * 2 + 1) / 2 = a / 2 by omega]
      simp
  rw [h1]
  exact IntWalk.i64_in _ (by omega)

theorem place_odd {i : Nat} (h : i % 2 = 1) : placeN i = 0 := IsPlace.uniq (placeN_is i) ⟨by omega, fun b hb => by omega, fun _ => by simp [bit, h]⟩
theorem place_even {i : Nat} (h : i % 2 = 0) : 0 < placeN i := by
  rcases Nat.eq_zero_or_pos (placeN i) with h0 | h0
  · have := (placeN_is i).one (by omega)
    rw [h0, bit] at this
    simp at this
    omega
  · exact h0
theorem can_next {i : Nat} (h : i % 2 = 0) : canN i (i + 1) = true := by
  have h1 := place_even h
  have h2 : 2 ^ 1 ≤ 2 ^ placeN i := Nat.pow_le_pow_right (by omega) h1
  rw [canN_above]
  simp only [Bool.and_eq_true, decide_eq_true_eq]
  omega

/-- What stands when one with an odd number has come. -/
theorem one_is {h : List Nat} {j : Nat} (hs : H32 h) (hi : j + 1 < 65536) (hj : j % 2 = 0) :
    insL zeroL ((j + 1 : Nat) : Int) (mSec h ((j + 1 : Nat) : Int)) (mSec_h hs _) = zeroL.set 0 ⟨true, j + 1, mSec h ((j + 1 : Nat) : Int), mSec_h hs _, hi⟩ := by
  rw [insL_in (mSec_h hs _) hi (by simp [zeroL]) (of_bad (of_zero h) _), place_odd (by omega)]
theorem one_len (e : Ent) (he : e.has = true) : lenN (zeroL.set 0 e) = 1 := by
  rw [lenN]
  show List.countP _ (e :: List.replicate 16 Ent.zero) = 1
  rw [List.countP_cons_of_pos (by simpa using he)]
  rfl
theorem one_late (e : Ent) (i : Int) (hi : i < (e.n : Int)) : look (zeroL.set 0 e) i = (List.replicate 32 0, 3) := by
  refine look_none (fun d hd => ?_)
  cases hc : tells i d with
  | false => rfl
  | true =>
    exfalso
    simp only [tells, Bool.and_eq_true] at hc
    rcases List.mem_or_eq_of_mem_set hd with h1 | h1
    · rw [List.eq_of_mem_replicate h1] at hc
      cases hc.1
    · subst h1
      obtain ⟨a, b, ha, rfl, ha', hb', hcn⟩ := can_nums hc.2
      rw [canN_above] at hcn
      simp only [Bool.and_eq_true, decide_eq_true_eq] at hcn
      omega
theorem one_refuses {e : Ent} {j : Nat} {h : List Nat} (hh : H32 h) (hj : j % 2 = 0) (he : e.has = true) (hn : e.n = j + 1) (hd : dSec h (j : Int) ((j + 1 : Nat) : Int) ≠ e.s) :
    insE (zeroL.set 0 e) (j : Int) h = 50 ∧ insL (zeroL.set 0 e) (j : Int) h hh = zeroL.set 0 e := by
  have hjn : j < 65536 := by have := e.hn; omega
  have hr := refused_of (L := zeroL.set 0 e) (e := e) (q := 0) hjn (by simp [zeroL]) (by rfl) (place_even hj) he (by rw [hn]; exact can_next hj) (by rw [hn]; exact hd)
  constructor
  · rw [insE, if_pos (num_of hjn), if_pos hr]
  · unfold insL
    rw [dif_pos (num_of hjn), if_pos hr]

set_option maxHeartbeats 2000000 in
set_option maxRecDepth 100000 in
theorem other_ways (h : List Nat) (a j : Nat) (o : List Nat) (w : World) (hh : H32 h) (ha : a < 65536) (ho : H32 o) (hj : a / 2 * 2 = j) (hg : Gl w) :
    Calls Tryd.prog 5 #[.agg (arr .u8 h), .int .u16 (a : Int), .agg (arr .u8 o)] w fun e w' => e = .returned (.bool true) ∧ Fr No w w' := by
  have hj2 : j % 2 = 0 := by omega
  have hj3 : j + 1 < 65536 := by omega
  have e1 := or_one_i64 a ha
  rw [hj] at e1
  have e0 : IntKind.i64.wrap (a : Int) = (a : Int) := IntWalk.i64_in _ (by omega)
  obtain ⟨i, hi⟩ : ∃ i, i = j + 1 := ⟨_, rfl⟩
  have e2 : IntKind.i64.wrap ((i : Int) - 1) = (j : Int) := by rw [IntWalk.i64_in _ (by omega)]; omega
  have e3 : (i : Int) - 1 = (j : Int) := by omega
  have hOne := one_is hh hj3 hj2
  have hTold := of_told (of_zero h) hj3 (by simp [zeroL]) (mSec_h hh _)
  rw [hOne] at hTold
  rw [← hi] at e1
  simp only [← hi] at hOne hTold
  have hji : j + 1 < 65536 := hj3
  rw [← hi] at hj3
  obtain ⟨A, hA⟩ : ∃ A, A = mSec h (i : Int) := ⟨_, rfl⟩
  have hAh : H32 A := by rw [hA]; exact mSec_h hh _
  obtain ⟨M, hM⟩ : ∃ M : Ent, M = ⟨true, i, mSec h (i : Int), mSec_h hh _, hj3⟩ := ⟨_, rfl⟩
  obtain ⟨K, hK⟩ : ∃ K, K = zeroL.set 0 M := ⟨_, rfl⟩
  have hMs : M.s = A := by rw [hM, hA]
  have hMn : M.n = j + 1 := by rw [hM]; exact hi
  have hMh : M.has = true := by rw [hM]
  have HKL : Hid (K.length = 17) := Lib.hid (by rw [hK]; simp [zeroL])
  have hK1 : insL zeroL (i : Int) (mSec h (i : Int)) (mSec_h hh _) = K := by rw [hOne, hK, hM]
  have hT : look K (i : Int) = (A, 0) := by rw [hK, hM, hA]; exact hTold
  have hN : look K (j : Int) = (List.replicate 32 0, 3) := by rw [hK]; exact one_late M _ (by rw [hMn]; omega)
  have hLn : lenN K = 1 := by rw [hK]; exact one_len M hMh
  obtain ⟨C, hC⟩ : ∃ C, C = mSec o (j : Int) := ⟨_, rfl⟩
  have hCh : H32 C := by rw [hC]; exact mSec_h ho _
  obtain ⟨D, hD⟩ : ∃ D, D = dSec C (j : Int) (i : Int) := ⟨_, rfl⟩
  have hDh : H32 D := by rw [hD]; exact dSec_h hCh _ _
  obtain ⟨m1, hm1⟩ : ∃ e, e = mErr (i : Int) := ⟨_, rfl⟩
  obtain ⟨m2, hm2⟩ : ∃ e, e = mErr (j : Int) := ⟨_, rfl⟩
  obtain ⟨m3, hm3⟩ : ∃ e, e = dErr (j : Int) (i : Int) := ⟨_, rfl⟩
  have HM1 : Hid (∀ X, Calls Tryd.prog 18 #[.agg (arr .u8 h), .int .i64 (i : Int)] X fun ex w' => ex = .returned (.tuple #[.agg (arr .u8 A), .int .i64 m1]) ∧ Fr No X w') := Lib.hid (fun X => by rw [hA, hm1]; exact rmake_any h i X hh)
  have HM2 : Hid (∀ X, Calls Tryd.prog 18 #[.agg (arr .u8 o), .int .i64 (j : Int)] X fun ex w' => ex = .returned (.tuple #[.agg (arr .u8 C), .int .i64 m2]) ∧ Fr No X w') := Lib.hid (fun X => by rw [hC, hm2]; exact rmake_any o j X ho)
  have HDD : Hid (∀ X, Calls Tryd.prog 19 #[.agg (arr .u8 C), .int .i64 (j : Int), .int .i64 (i : Int)] X fun ex w' => ex = .returned (.tuple #[.agg (arr .u8 D), .int .i64 m3]) ∧ Fr No X w') := Lib.hid (fun X => by rw [hD, hm3]; exact rderive_any C j i X hCh)
  have HG := Lib.hid hg
  have HI1 : Hid (∀ b R X, St w b zeroL R X → Calls Tryd.prog 12 #[.pointer (some ⟨b, 0, none⟩), .int .i64 (i : Int), .agg (arr .u8 A)] X fun ex w' => ex = .returned (.int .i64 0) ∧ Fr (· = b) X w' ∧ Blk w' b 32 (flat K)) := Lib.hid (fun b R X s => by
    have := insert_of (i : Int) hh (of_zero h) (num_of hj3) s.blk (by simp [zeroL]) (s.gl HG.out)
    rw [hK1] at this
    rw [hA]
    exact this)
  have HI2 : Hid (D ≠ A → ∀ b R X, St w b K R X → Calls Tryd.prog 12 #[.pointer (some ⟨b, 0, none⟩), .int .i64 (j : Int), .agg (arr .u8 C)] X fun ex w' => ex = .returned (.int .i64 50) ∧ Fr (· = b) X w' ∧ Blk w' b 32 (flat K)) := Lib.hid (fun hne b R X s => by
    have := insert_any b K (j : Int) C X hCh s.blk HKL.out (s.gl HG.out)
    have hrf := one_refuses (e := M) hCh hj2 hMh hMn (by rw [hMs, ← hi]; exact hD ▸ hne)
    rw [hK, hrf.1, hrf.2] at this
    rw [hK]
    exact this)
  have HK1 : Hid (∀ b R X, St w b K R X → Calls Tryd.prog 16 #[.pointer (some ⟨b, 0, none⟩), .int .i64 (i : Int)] X fun ex w' => ex = .returned (.tuple #[.agg (arr .u8 A), .int .i64 0]) ∧ Fr No X w') := Lib.hid (fun b R X s => look_any b K i X A 0 s.blk HKL.out (s.gl HG.out) hT)
  have HK2 : Hid (∀ b R X, St w b K R X → Calls Tryd.prog 16 #[.pointer (some ⟨b, 0, none⟩), .int .i64 (j : Int)] X fun ex w' => ex = .returned (.tuple #[.agg (arr .u8 (List.replicate 32 0)), .int .i64 3]) ∧ Fr No X w') := Lib.hid (fun b R X s => look_any b K j X _ 3 s.blk HKL.out (s.gl HG.out) hN)
  have HKN : Hid (∀ b R X, St w b K R X → Calls Tryd.prog 13 #[.pointer (some ⟨b, 0, none⟩)] X fun ex w' => ex = .returned (.int .i64 1) ∧ Fr No X w') := Lib.hid (fun b R X s => by
    have := len_any b K X s.blk HKL.out
    rwa [hLn] at this)
  obtain ⟨Z, hZ⟩ : ∃ Z : List Nat, Z = List.replicate 32 0 := ⟨_, rfl⟩
  rw [← hZ] at HK2
  have HLA := Lib.hid hAh.len
  have HLC := Lib.hid hCh.len
  have HLD := Lib.hid hDh.len
  have HLZ : Hid (Z.length = 32) := Lib.hid (by rw [hZ]; rfl)
  have HEA := Lib.hid (eql_h32 A HLA.out)
  have HED := Lib.hid (fun X => eq_h32 D A HLD.out HLA.out X)
  have S0 := Lib.hid (St.new2 w h o hh.len ho.len)
  by_cases hda : D = A
  · have HE : Hid (∀ X, (binOp .eql 27 (.agg (arr .u8 D)) (.agg (arr .u8 A))).run Tryd.prog X = .ok (.bool true) X) := Lib.hid (fun X => by rw [HED.out X, hda]; simp)
    clear hj hj2 hji hi hOne hTold hj3 hA hAh hM hK hMs hMn hMh hK1 hT hN hLn hC hCh hD hDh hm1 hm2 hm3 hZ hda hh ha ho hg
    go_enter Tryd.func5, Tryd.ntmps5
    go_wp2_with (first
      | (refine wpList_load_eq rfl 27 _ rfl (.pointer (some ⟨w.heap.size, 0, none⟩)) (.agg (arr .u8 h)) rfl (S0.out.load (.tail _ (.head _))) ?_)
      | (refine wpList_execG (.agg (flat zeroL).toArray) (exec_shelf rfl) rfl ?_))
    refine (HM1.out _).mono ?_
    rintro ex v1 ⟨rfl, hF⟩
    have S1 := Lib.hid (S0.out.on hF)
    clear hF
    obtain ⟨y1, hY, hS⟩ := S1.out.add A HLA.out
    have Y1 := Lib.hid hY
    have T1 := Lib.hid hS
    clear hY hS
    go_wp2_with (first
      | (refine wpList_store_eq rfl 27 _ _ rfl (.pointer (some ⟨v1.heap.size, 0, none⟩)) (.agg (arr .u8 A)) rfl rfl Y1.out ?_)
      | (refine wpList_load_eq rfl 27 _ rfl (.pointer (some ⟨v1.heap.size, 0, none⟩)) (.agg (arr .u8 A)) rfl (T1.out.load (.head _)) ?_))
    refine (HI1.out _ _ _ T1.out).mono ?_
    rintro ex v2 ⟨rfl, hF, hB⟩
    have S2 := Lib.hid (T1.out.ins hF hB)
    clear hF hB
    go_wp2_with fail
    refine (shown5_any _ (S2.out.gl HG.out)).mono ?_
    rintro ex v3 ⟨rfl, hF⟩
    have S3 := Lib.hid (S2.out.on hF)
    clear hF
    go_wp2_with (first
      | (refine wpList_load_eq rfl 27 _ rfl (.pointer (some ⟨w.heap.size + 1, 0, none⟩)) (.agg (arr .u8 o)) rfl (S3.out.load (.tail _ (.head _))) ?_))
    refine (HM2.out _).mono ?_
    rintro ex v4 ⟨rfl, hF⟩
    have S4 := Lib.hid (S3.out.on hF)
    clear hF
    obtain ⟨y4, hY, hS⟩ := S4.out.add C HLC.out
    have Y4 := Lib.hid hY
    have T4 := Lib.hid hS
    clear hY hS
    go_wp2_with (first
      | (refine wpList_store_eq rfl 27 _ _ rfl (.pointer (some ⟨v4.heap.size, 0, none⟩)) (.agg (arr .u8 C)) rfl rfl Y4.out ?_)
      | (refine wpList_load_eq rfl 27 _ rfl (.pointer (some ⟨v4.heap.size, 0, none⟩)) (.agg (arr .u8 C)) rfl (T4.out.load (.head _)) ?_))
    refine (HDD.out _).mono ?_
    rintro ex v5 ⟨rfl, hF⟩
    have S5 := Lib.hid (T4.out.on hF)
    clear hF
    obtain ⟨y5, hY, hS⟩ := S5.out.add D HLD.out
    have Y5 := Lib.hid hY
    have T5 := Lib.hid hS
    clear hY hS
    go_wp2_with (first
      | (refine wpList_store_eq rfl 27 _ _ rfl (.pointer (some ⟨v5.heap.size, 0, none⟩)) (.agg (arr .u8 D)) rfl rfl Y5.out ?_)
      | (refine wpList_load_eq rfl 27 _ rfl (.pointer (some ⟨v5.heap.size, 0, none⟩)) (.agg (arr .u8 D)) rfl (T5.out.load (.head _)) ?_)
      | (refine wpList_load_eq rfl 27 _ rfl (.pointer (some ⟨v1.heap.size, 0, none⟩)) (.agg (arr .u8 A)) rfl (T5.out.load (.tail _ (.tail _ (.head _)))) ?_)
      | (refine wpList_execG (.bool true) (exec_bin .eql 27 (.tmp 55) (.tmp 56) 27 rfl _ _ _ rfl rfl (by kernel_rfl) (HE.out _)) rfl ?_))
    go_ret
    exact ⟨rfl, T5.out.fr⟩
  · have HE : Hid (∀ X, (binOp .eql 27 (.agg (arr .u8 D)) (.agg (arr .u8 A))).run Tryd.prog X = .ok (.bool false) X) := Lib.hid (fun X => by rw [HED.out X]; simp [hda])
    have HI2' := Lib.hid (HI2.out hda)
    clear hj hj2 hji hi hOne hTold hj3 hA hAh hM hK hMs hMn hMh hK1 hT hN hLn hC hCh hD hDh hm1 hm2 hm3 hZ hda hh ha ho hg
    go_enter Tryd.func5, Tryd.ntmps5
    go_wp2_with (first
      | (refine wpList_load_eq rfl 27 _ rfl (.pointer (some ⟨w.heap.size, 0, none⟩)) (.agg (arr .u8 h)) rfl (S0.out.load (.tail _ (.head _))) ?_)
      | (refine wpList_execG (.agg (flat zeroL).toArray) (exec_shelf rfl) rfl ?_))
    refine (HM1.out _).mono ?_
    rintro ex v1 ⟨rfl, hF⟩
    have S1 := Lib.hid (S0.out.on hF)
    clear hF
    obtain ⟨y1, hY, hS⟩ := S1.out.add A HLA.out
    have Y1 := Lib.hid hY
    have T1 := Lib.hid hS
    clear hY hS
    go_wp2_with (first
      | (refine wpList_store_eq rfl 27 _ _ rfl (.pointer (some ⟨v1.heap.size, 0, none⟩)) (.agg (arr .u8 A)) rfl rfl Y1.out ?_)
      | (refine wpList_load_eq rfl 27 _ rfl (.pointer (some ⟨v1.heap.size, 0, none⟩)) (.agg (arr .u8 A)) rfl (T1.out.load (.head _)) ?_))
    refine (HI1.out _ _ _ T1.out).mono ?_
    rintro ex v2 ⟨rfl, hF, hB⟩
    have S2 := Lib.hid (T1.out.ins hF hB)
    clear hF hB
    go_wp2_with fail
    refine (shown5_any _ (S2.out.gl HG.out)).mono ?_
    rintro ex v3 ⟨rfl, hF⟩
    have S3 := Lib.hid (S2.out.on hF)
    clear hF
    go_wp2_with (first
      | (refine wpList_load_eq rfl 27 _ rfl (.pointer (some ⟨w.heap.size + 1, 0, none⟩)) (.agg (arr .u8 o)) rfl (S3.out.load (.tail _ (.head _))) ?_))
    refine (HM2.out _).mono ?_
    rintro ex v4 ⟨rfl, hF⟩
    have S4 := Lib.hid (S3.out.on hF)
    clear hF
    obtain ⟨y4, hY, hS⟩ := S4.out.add C HLC.out
    have Y4 := Lib.hid hY
    have T4 := Lib.hid hS
    clear hY hS
    go_wp2_with (first
      | (refine wpList_store_eq rfl 27 _ _ rfl (.pointer (some ⟨v4.heap.size, 0, none⟩)) (.agg (arr .u8 C)) rfl rfl Y4.out ?_)
      | (refine wpList_load_eq rfl 27 _ rfl (.pointer (some ⟨v4.heap.size, 0, none⟩)) (.agg (arr .u8 C)) rfl (T4.out.load (.head _)) ?_))
    refine (HDD.out _).mono ?_
    rintro ex v5 ⟨rfl, hF⟩
    have S5 := Lib.hid (T4.out.on hF)
    clear hF
    obtain ⟨y5, hY, hS⟩ := S5.out.add D HLD.out
    have Y5 := Lib.hid hY
    have T5 := Lib.hid hS
    clear hY hS
    go_wp2_with (first
      | (refine wpList_store_eq rfl 27 _ _ rfl (.pointer (some ⟨v5.heap.size, 0, none⟩)) (.agg (arr .u8 D)) rfl rfl Y5.out ?_)
      | (refine wpList_load_eq rfl 27 _ rfl (.pointer (some ⟨v5.heap.size, 0, none⟩)) (.agg (arr .u8 D)) rfl (T5.out.load (.head _)) ?_)
      | (refine wpList_load_eq rfl 27 _ rfl (.pointer (some ⟨v1.heap.size, 0, none⟩)) (.agg (arr .u8 A)) rfl (T5.out.load (.tail _ (.tail _ (.head _)))) ?_)
      | (refine wpList_load_eq rfl 27 _ rfl (.pointer (some ⟨v4.heap.size, 0, none⟩)) (.agg (arr .u8 C)) rfl (T5.out.load (.tail _ (.head _))) ?_)
      | (refine wpList_execG (.bool false) (exec_bin .eql 27 (.tmp 55) (.tmp 56) 27 rfl _ _ _ rfl rfl (by kernel_rfl) (HE.out _)) rfl ?_))
    refine (HI2'.out _ _ _ T5.out).mono ?_
    rintro ex v6 ⟨rfl, hF, hB⟩
    have S6 := Lib.hid (T5.out.ins hF hB)
    clear hF hB
    go_wp2_with fail
    refine (HK1.out _ _ _ S6.out).mono ?_
    rintro ex v7 ⟨rfl, hF⟩
    have S7 := Lib.hid (S6.out.on hF)
    clear hF
    obtain ⟨y7, hY, hS⟩ := S7.out.add A HLA.out
    have Y7 := Lib.hid hY
    have T7 := Lib.hid hS
    clear hY hS
    go_wp2_with (first
      | (refine wpList_store_eq rfl 27 _ _ rfl (.pointer (some ⟨v7.heap.size, 0, none⟩)) (.agg (arr .u8 A)) rfl rfl Y7.out ?_))
    refine (HK2.out _ _ _ T7.out).mono ?_
    rintro ex v8 ⟨rfl, hF⟩
    have S8 := Lib.hid (T7.out.on hF)
    clear hF
    obtain ⟨y8, hY, hS⟩ := S8.out.add Z HLZ.out
    have Y8 := Lib.hid hY
    have T8 := Lib.hid hS
    clear hY hS
    go_wp2_with (first
      | (refine wpList_store_eq rfl 27 _ _ rfl (.pointer (some ⟨v8.heap.size, 0, none⟩)) (.agg (arr .u8 Z)) rfl rfl Y8.out ?_)
      | (refine wpList_load_eqG 27 _ rfl (.pointer (some ⟨v7.heap.size, 0, none⟩)) (.agg (arr .u8 A)) rfl (T8.out.load (.tail _ (.head _))) rfl ?_)
      | (refine wpList_load_eqG 27 _ rfl (.pointer (some ⟨v1.heap.size, 0, none⟩)) (.agg (arr .u8 A)) rfl (T8.out.load (.tail _ (.tail _ (.tail _ (.tail _ (.head _)))))) rfl ?_)
      | (refine wpList_execG (.bool true) (exec_bin .eql 27 (.tmp 79) (.tmp 80) 27 rfl _ _ _ rfl rfl (by kernel_rfl) (HEA.out _)) rfl ?_))
    refine (HKN.out _ _ _ T8.out).mono ?_
    rintro ex v9 ⟨rfl, hF⟩
    have S9 := Lib.hid (T8.out.on hF)
    clear hF
    go_wp2
    go_ret
    exact ⟨rfl, S9.out.fr⟩

theorem other_walk (h : List UInt8) (a : Nat) (o : List UInt8) (w : World) (hh : h.length = 32) (ha : (a : Int) ≤ 65535) (ho : o.length = 32) (hg : Gl w) :
    Calls Tryd.prog 5 #[.agg (h.map u8v).toArray, .int .u16 (a : Int), .agg (o.map u8v).toArray] w fun e w' => e = .returned (.bool true) ∧ Fr No w w' := by
  rw [arr_nb, arr_nb]
  exact other_ways (nb h) a _ (nb o) w ⟨by rw [nb, List.length_map]; exact hh, nb_b8 h⟩ (by omega) ⟨by rw [nb, List.length_map]; exact ho, nb_b8 o⟩ rfl hg
end Go.Proofs.YtnpgcgemifoddaaDoor
