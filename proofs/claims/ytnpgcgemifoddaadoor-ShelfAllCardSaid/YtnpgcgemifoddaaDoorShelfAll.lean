/- The walk of 'ShelfAll'. -/
import Derived.Test.YtnpgcgemifoddaaDoorShelfTwice
namespace Go.Proofs.YtnpgcgemifoddaaDoor
open Go.RowKit
set_option linter.unusedVariables false

set_option maxHeartbeats 2000000 in
set_option maxRecDepth 100000 in
theorem all_ways (h : List Nat) (a n s : Nat) (w : World) (hh : H32 h) (ha : a < 65536) (hn : n < 256) (hs : s < 256) (hg : Gl w) :
    Calls Tryd.prog 4 #[.agg (arr .u8 h), .int .u16 (a : Int), .int .u8 (n : Int), .int .u8 (s : Int)] w fun e w' => e = .returned (.bool true) ∧ Fr No w w' := by
  have HG := Lib.hid hg
  have HH := Lib.hid hh
  have HA := Lib.hid ha
  have HS := Lib.hid hs
  have e0 : IntKind.i64.wrap (a : Int) = (a : Int) := IntWalk.i64_in _ (by omega)
  have e1 : IntKind.i64.wrap (n : Int) = (n : Int) := IntWalk.i64_in _ (by omega)
  have e1s : IntKind.i64.wrap (s : Int) = (s : Int) := IntWalk.i64_in _ (by omega)
  obtain ⟨q, hq⟩ : ∃ q, q = n % 80 := ⟨_, rfl⟩
  have e2 : Int.tmod (n : Int) 80 = (q : Int) := by rw [Int.tmod_eq_emod_of_nonneg (by omega)]; omega
  have e3 : (n : Int) % 80 = (q : Int) := by omega
  obtain ⟨f1, hf1⟩ : ∃ f1, f1 = a + 1 := ⟨_, rfl⟩
  have e5 : IntKind.i64.wrap (f1 : Int) = (f1 : Int) := IntWalk.i64_in _ (by omega)
  have e5' : (a : Int) + 1 = (f1 : Int) := by omega
  obtain ⟨m, hm0⟩ : ∃ m, m = if f1 < q then f1 else q := ⟨_, rfl⟩
  have hm : (if f1 < q then (f1 : Int) else (q : Int)) = (m : Int) := by rw [hm0]; split <;> rfl
  have HMA : Hid (m ≤ a + 1 ∧ m ≤ 80) := Lib.hid (by rw [hm0]; split <;> omega)
  have S0 := Lib.hid (St.new1 w h hh.len)
  have hll := fun k => downL_len h hh a k
  have hoo := fun k => downL_of h hh a k
  have hdo := fun k hk => downL_is h hh a ha k hk
  obtain ⟨DL, hDL⟩ : ∃ DL : Nat → List Ent, DL = downL h hh a := ⟨_, rfl⟩
  have HST : Hid (∀ k : Nat, DL (k + 1) = insL (DL k) ((a : Int) - (k : Int)) (mSec h ((a : Int) - (k : Int))) (mSec_h hh _)) := Lib.hid (fun k => by rw [hDL, downL])
  have HZE : Hid (DL 0 = zeroL) := Lib.hid (by rw [hDL]; rfl)
  rw [← hDL] at hll hoo hdo
  have HLL := Lib.hid hll
  have HOO := Lib.hid hoo
  have HDO := Lib.hid hdo
  clear ha hg hs hm0 hq hf1 hn hDL hll hoo hdo
  go_enter Tryd.func4, Tryd.ntmps4
  go_wp2_with (refine wpList_execG (.agg (flat zeroL).toArray) (exec_shelf rfl) rfl ?_)
  refine wp_world (fun W => St w (w.heap.size + 1) zeroL [(w.heap.size, h)] W) S0.out (fun W hW => ?_)
  obtain ⟨p, hp⟩ : ∃ p, p = w.heap.size := ⟨_, rfl⟩
  rw [← hp] at hW ⊢
  clear S0 hp
  go_loopw [11] (fun c wr => ∃ (k : Nat), c = .int .i64 (k : Int) ∧ k ≤ m ∧ St w (p + 1) (DL k) [(p, h)] wr) (fun c _ => m - (intOf c).toNat)
  case atStart => exact ⟨0, rfl, by omega, by rw [HZE.out]; exact hW⟩
  case round =>
    obtain ⟨k, rfl, hk, hS⟩ := hrel
    have S0 := Lib.hid hS
    clear hS
    by_cases hlt : k < m
    · have h1 : (k : Int) < (m : Int) := by omega
      obtain ⟨x, hx⟩ : ∃ x, x = a - k := ⟨_, rfl⟩
      have hx2 : x < 65536 := by have := HA.out; omega
      have e6 : IntKind.i64.wrap (x : Int) = (x : Int) := IntWalk.i64_in _ (by omega)
      have e6' : (a : Int) - (k : Int) = (x : Int) := by have := HMA.out; omega
      have e7 : IntKind.i64.wrap ((k : Int) + 1) = ((k + 1 : Nat) : Int) := IntWalk.i64_in _ (by have := HMA.out; omega)
      obtain ⟨A, hAe⟩ : ∃ A, A = mSec h (x : Int) := ⟨_, rfl⟩
      have HLA : Hid (A.length = 32) := Lib.hid (by rw [hAe]; exact (mSec_h HH.out _).len)
      obtain ⟨m1, hm1⟩ : ∃ e, e = mErr (x : Int) := ⟨_, rfl⟩
      have HM1 : Hid (∀ X, Calls Tryd.prog 18 #[.agg (arr .u8 h), .int .i64 (x : Int)] X fun ex w' => ex = .returned (.tuple #[.agg (arr .u8 A), .int .i64 m1]) ∧ Fr No X w') := Lib.hid (fun X => by rw [hAe, hm1]; exact rmake_any h x X HH.out)
      have HI1 : Hid (∀ R X, St w (p + 1) (DL k) R X → Calls Tryd.prog 12 #[.pointer (some ⟨p + 1, 0, none⟩), .int .i64 (x : Int), .agg (arr .u8 A)] X fun ex w' => ex = .returned (.int .i64 0) ∧ Fr (· = p + 1) X w' ∧ Blk w' (p + 1) 32 (flat (DL (k + 1)))) := Lib.hid (fun R X s => by
        have h9 := insert_of (x : Int) HH.out (HOO.out k) (num_of hx2) s.blk (HLL.out k) (s.gl HG.out)
        rw [hAe, HST.out k]
        simp only [e6']
        exact h9)
      have HX : Hid (m - (k + 1) < m - k) := Lib.hid (by omega)
      have HK1 : Hid (k + 1 ≤ m) := Lib.hid (by omega)
      clear hx hx2 hAe hm1 hlt
      go_wp2_with (first
        | (refine wpList_load_eq rfl 27 _ rfl (.pointer (some ⟨p, 0, none⟩)) (.agg (arr .u8 h)) rfl (S0.out.load (.head _)) ?_))
      refine (HM1.out _).mono ?_
      rintro ex v1 ⟨rfl, hF⟩
      have S1 := Lib.hid (S0.out.on hF)
      clear hF
      obtain ⟨y1, hY, hS⟩ := S1.out.add A HLA.out
      have Y1 := Lib.hid hY
      have T1 := Lib.hid hS
      clear hY hS
      go_wp2_with (first
        | (refine wpList_store_eq rfl 27 _ _ rfl (.pointer (some ⟨v1.heap.size, 0, none⟩)) (.agg (arr .u8 A)) rfl rfl Y1.out ?_)
        | (refine wpList_load_eq rfl 27 _ rfl (.pointer (some ⟨v1.heap.size, 0, none⟩)) (.agg (arr .u8 A)) rfl (T1.out.load (.head _)) ?_))
      refine (HI1.out _ _ T1.out).mono ?_
      rintro ex v2 ⟨rfl, hF, hB⟩
      have S2 := Lib.hid (T1.out.ins hF hB)
      clear hF hB
      go_wp2
      exact ⟨⟨k + 1, by simp, HK1.out, S2.out.less (by intro r hr; exact .tail _ hr)⟩, by simp [intOf]; exact HX.out⟩
    · obtain rfl : k = m := by omega
      have HDN := Lib.hid (HDO.out k HMA.out.1)
      obtain ⟨L, hL⟩ : ∃ L, L = DL k := ⟨_, rfl⟩
      have HL17 : Hid (L.length = 17) := Lib.hid (by rw [hL]; exact HLL.out k)
      rw [← hL] at S0 HDN
      have HLE : Hid (lenN L ≤ 17) := Lib.hid (by rw [← HL17.out]; exact lenN_le L)
      have HKN : Hid (∀ R X, St w (p + 1) L R X → Calls Tryd.prog 13 #[.pointer (some ⟨p + 1, 0, none⟩)] X fun ex w' => ex = .returned (.int .i64 (lenN L : Int)) ∧ Fr No X w') := Lib.hid (fun R X s => len_any _ L X s.blk HL17.out)
      obtain ⟨N, hN⟩ : ∃ N, N = lenN L := ⟨_, rfl⟩
      rw [← hN] at HLE HKN
      have hN0 : (N : Int) ≤ 17 := by have := HLE.out; omega
      obtain ⟨Z, hZ⟩ : ∃ Z : List Nat, Z = List.replicate 32 0 := ⟨_, rfl⟩
      have HLZ : Hid (Z.length = 32) := Lib.hid (by rw [hZ]; rfl)
      by_cases h0 : k = 0
      · have HLK : Hid (∀ R X, St w (p + 1) L R X → Calls Tryd.prog 16 #[.pointer (some ⟨p + 1, 0, none⟩), .int .i64 (a : Int)] X fun ex w' => ex = .returned (.tuple #[.agg (arr .u8 Z), .int .i64 3]) ∧ Fr No X w') := Lib.hid (fun R X s => by
          rw [hZ]
          exact look_any _ L _ X _ 3 s.blk HL17.out (s.gl HG.out) (HDN.out.late (by rw [h0]; omega)))
        have hk0 : ((k : Int) == 0) = true := by rw [h0]; rfl
        subst h0
        clear hN hZ hL hlt
        go_wp2_with fail
        refine (shown5_any _ (S0.out.gl HG.out)).mono ?_
        rintro ex v1 ⟨rfl, hF⟩
        have S1 := Lib.hid (S0.out.on hF)
        clear hF
        go_wp2_with fail
        refine (HKN.out _ _ S1.out).mono ?_
        rintro ex v2 ⟨rfl, hF⟩
        have S2 := Lib.hid (S1.out.on hF)
        clear hF
        go_wp2_with fail
        refine (HLK.out _ _ S2.out).mono ?_
        rintro ex v3 ⟨rfl, hF⟩
        have S3 := Lib.hid (S2.out.on hF)
        clear hF
        obtain ⟨y3, hY, hS⟩ := S3.out.add Z HLZ.out
        have Y3 := Lib.hid hY
        have T3 := Lib.hid hS
        clear hY hS
        go_wp2_with (first
          | (refine wpList_store_eq rfl 27 _ _ rfl (.pointer (some ⟨v3.heap.size, 0, none⟩)) (.agg (arr .u8 Z)) rfl rfl Y3.out ?_))
        go_ret
        exact ⟨rfl, T3.out.fr⟩
      · obtain ⟨r, hr⟩ : ∃ r, r = s % k := ⟨_, rfl⟩
        have hrl : r < k := by rw [hr]; exact Nat.mod_lt _ (by omega)
        have e8 : Int.tmod (s : Int) (k : Int) = (r : Int) := by rw [Int.tmod_eq_emod_of_nonneg (by omega), hr]; rfl
        have e9 : (s : Int) % (k : Int) = (r : Int) := by rw [hr]; rfl
        have hk0 : ¬ (k : Int) = 0 := by omega
        have hk0' : ((k : Int) == 0) = false := by rw [beq_eq_false_iff_ne]; omega
        obtain ⟨x, hx⟩ : ∃ x, x = a - r := ⟨_, rfl⟩
        have hra : r ≤ a := by have := HMA.out; omega
        have hx2 : x < 65536 := by have := HA.out; omega
        have e10 : IntKind.i64.wrap (x : Int) = (x : Int) := IntWalk.i64_in _ (by omega)
        have e10' : (a : Int) - (r : Int) = (x : Int) := by omega
        obtain ⟨y, hy⟩ : ∃ y : Int, y = (a : Int) - (k : Int) := ⟨_, rfl⟩
        have e11 : IntKind.i64.wrap y = y := IntWalk.i64_in _ (by have := HA.out; have := HMA.out; omega)
        have e11' : (a : Int) - (k : Int) = y := hy.symm
        obtain ⟨lo, hlo⟩ : ∃ lo, lo = a + 1 - k := ⟨_, rfl⟩
        have e12 : IntKind.i64.wrap (lo : Int) = (lo : Int) := IntWalk.i64_in _ (by have := HA.out; omega)
        have e12' : y + 1 = (lo : Int) := by have := HMA.out; omega
        rw [← hlo] at HDN
        obtain ⟨A, hAe⟩ : ∃ A, A = mSec h (x : Int) := ⟨_, rfl⟩
        have HLA : Hid (A.length = 32) := Lib.hid (by rw [hAe]; exact (mSec_h HH.out _).len)
        have HEA := Lib.hid (eql_h32 A HLA.out)
        obtain ⟨m1, hm1⟩ : ∃ e, e = mErr (x : Int) := ⟨_, rfl⟩
        have HM1 : Hid (∀ X, Calls Tryd.prog 18 #[.agg (arr .u8 h), .int .i64 (x : Int)] X fun ex w' => ex = .returned (.tuple #[.agg (arr .u8 A), .int .i64 m1]) ∧ Fr No X w') := Lib.hid (fun X => by rw [hAe, hm1]; exact rmake_any h x X HH.out)
        have HK1 : Hid (∀ R X, St w (p + 1) L R X → Calls Tryd.prog 16 #[.pointer (some ⟨p + 1, 0, none⟩), .int .i64 (x : Int)] X fun ex w' => ex = .returned (.tuple #[.agg (arr .u8 A), .int .i64 0]) ∧ Fr No X w') := Lib.hid (fun R X s => by
          rw [hAe]
          exact look_any _ L _ X _ 0 s.blk HL17.out (s.gl HG.out) (HDN.out.told (by omega) (by omega) HA.out))
        have HK2 : Hid (∀ R X, St w (p + 1) L R X → Calls Tryd.prog 16 #[.pointer (some ⟨p + 1, 0, none⟩), .int .i64 y] X fun ex w' => ex = .returned (.tuple #[.agg (arr .u8 Z), .int .i64 3]) ∧ Fr No X w') := Lib.hid (fun R X s => by
          rw [hZ]
          exact look_any _ L _ X _ 3 s.blk HL17.out (s.gl HG.out) (HDN.out.late (by have := HMA.out; omega)))
        have HKL : Hid (∀ R X, St w (p + 1) L R X → Calls Tryd.prog 11 #[.pointer (some ⟨p + 1, 0, none⟩)] X fun ex w' => ex = .returned (.tuple #[.int .i64 (lo : Int), .bool true]) ∧ Fr No X w') := Lib.hid (fun R X s => by
          have := least_any _ L X s.blk HL17.out
          rw [HDN.out.least (by have := HMA.out; omega) HA.out] at this
          have e1 : leastI lo = (lo : Int) := by rw [leastI, if_pos (by have := HA.out; omega)]
          have e2 : leastB lo = true := by rw [leastB]; simpa using (show lo < 65536 by have := HA.out; omega)
          rwa [e1, e2] at this)
        clear hr hrl hx hra hx2 hy hlo hAe hm1 hN hZ hL hlt
        go_wp2_with fail
        refine (shown5_any _ (S0.out.gl HG.out)).mono ?_
        rintro ex v1 ⟨rfl, hF⟩
        have S1 := Lib.hid (S0.out.on hF)
        clear hF
        go_wp2_with fail
        refine (HKN.out _ _ S1.out).mono ?_
        rintro ex v2 ⟨rfl, hF⟩
        have S2 := Lib.hid (S1.out.on hF)
        clear hF
        go_wp2_with fail
        refine (HK1.out _ _ S2.out).mono ?_
        rintro ex v3 ⟨rfl, hF⟩
        have S3 := Lib.hid (S2.out.on hF)
        clear hF
        obtain ⟨y3, hY, hS⟩ := S3.out.add A HLA.out
        have Y3 := Lib.hid hY
        have T3 := Lib.hid hS
        clear hY hS
        go_wp2_with (first
          | (refine wpList_store_eq rfl 27 _ _ rfl (.pointer (some ⟨v3.heap.size, 0, none⟩)) (.agg (arr .u8 A)) rfl rfl Y3.out ?_)
          | (refine wpList_load_eq rfl 27 _ rfl (.pointer (some ⟨p, 0, none⟩)) (.agg (arr .u8 h)) rfl (T3.out.load (.tail _ (.head _))) ?_))
        refine (HM1.out _).mono ?_
        rintro ex v4 ⟨rfl, hF⟩
        have S4 := Lib.hid (T3.out.on hF)
        clear hF
        obtain ⟨y4, hY, hS⟩ := S4.out.add A HLA.out
        have Y4 := Lib.hid hY
        have T4 := Lib.hid hS
        clear hY hS
        go_wp2_with (first
          | (refine wpList_store_eq rfl 27 _ _ rfl (.pointer (some ⟨v4.heap.size, 0, none⟩)) (.agg (arr .u8 A)) rfl rfl Y4.out ?_))
        refine (HKL.out _ _ T4.out).mono ?_
        rintro ex v5 ⟨rfl, hF⟩
        have S5 := Lib.hid (T4.out.on hF)
        clear hF
        go_wp2_with fail
        refine (HK2.out _ _ S5.out).mono ?_
        rintro ex v6 ⟨rfl, hF⟩
        have S6 := Lib.hid (S5.out.on hF)
        clear hF
        obtain ⟨y6, hY, hS⟩ := S6.out.add Z HLZ.out
        have Y6 := Lib.hid hY
        have T6 := Lib.hid hS
        clear hY hS
        go_wp2_with (first
          | (refine wpList_store_eq rfl 27 _ _ rfl (.pointer (some ⟨v6.heap.size, 0, none⟩)) (.agg (arr .u8 Z)) rfl rfl Y6.out ?_)
          | (refine wpList_load_eqG 27 _ rfl (.pointer (some ⟨v3.heap.size, 0, none⟩)) (.agg (arr .u8 A)) rfl (T6.out.load (.tail _ (.tail _ (.head _)))) rfl ?_)
          | (refine wpList_load_eqG 27 _ rfl (.pointer (some ⟨v4.heap.size, 0, none⟩)) (.agg (arr .u8 A)) rfl (T6.out.load (.tail _ (.head _))) rfl ?_)
          | (refine wpList_execG (.bool true) (exec_bin .eql 27 (.tmp 110) (.tmp 111) 27 rfl _ _ _ rfl rfl (by kernel_rfl) (HEA.out _)) rfl ?_))
        go_ret
        exact ⟨rfl, T6.out.fr⟩

theorem all_walk (h : List UInt8) (a n s : Nat) (w : World) (hh : h.length = 32) (ha : (a : Int) ≤ 65535) (hn : (n : Int) ≤ 255) (hs : (s : Int) ≤ 255) (hg : Gl w) :
    Calls Tryd.prog 4 #[.agg (h.map u8v).toArray, .int .u16 (a : Int), .int .u8 (n : Int), .int .u8 (s : Int)] w fun e w' => e = .returned (.bool true) ∧ Fr No w w' := by
  rw [arr_nb]
  exact all_ways (nb h) a n s w ⟨by rw [nb, List.length_map]; exact hh, nb_b8 h⟩ (by omega) (by omega) (by omega) hg
end Go.Proofs.YtnpgcgemifoddaaDoor
