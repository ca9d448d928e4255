import Derived.Test.YthmpadhhbkielaaOct8
import Derived.Test.YthmpadhhbkielaaOctE
namespace Go.Proofs.Ythmpadhhbkielaa
open Go.RowKit
set_option linter.unusedVariables false

theorem shl_wrap (k : Nat) (hk : k ≤ 7) : IntKind.u64.wrap (2 ^ (8 * k)) = ((2 ^ (8 * k) : Nat) : Int) := by
  have : k = 0 ∨ k = 1 ∨ k = 2 ∨ k = 3 ∨ k = 4 ∨ k = 5 ∨ k = 6 ∨ k = 7 := by omega
  rcases this with h | h | h | h | h | h | h | h <;> subst h <;> decide

/-- The number that is written: n, or what is left of it in k bytes. -/
theorem back_num (n wd : Nat) (hn : n < 2 ^ 64) : ∃ k x : Nat, (1 : Int) + (wd : Int) % 8 = (k : Int) ∧ 1 ≤ k ∧ k ≤ 8 ∧ x < 256 ^ k ∧
    (((k : Int) < 8 ∧ ∃ M : Nat, IntKind.u64.wrap (2 ^ (8 * k)) = (M : Int) ∧ 0 < M ∧ (n : Int) % (M : Int) = (x : Int)) ∨ (¬ (k : Int) < 8 ∧ x = n)) := by
  refine ⟨1 + wd % 8, if 1 + wd % 8 < 8 then n % 2 ^ (8 * (1 + wd % 8)) else n, by omega, by omega, by omega, ?_, ?_⟩
  · have e : (256 : Nat) ^ (1 + wd % 8) = 2 ^ (8 * (1 + wd % 8)) := by rw [Nat.pow_mul]
    split
    · rw [e]; exact Nat.mod_lt _ (Nat.two_pow_pos _)
    · have h8 : 1 + wd % 8 = 8 := by omega
      rw [h8]; omega
  · by_cases h : 1 + wd % 8 < 8
    · left
      exact ⟨by omega, _, shl_wrap _ (by omega), Nat.two_pow_pos _, by rw [if_pos h]; exact (Int.natCast_emod n _).symm⟩
    · right
      exact ⟨by omega, by rw [if_neg h]⟩

set_option maxHeartbeats 400000 in
theorem back_long (n wd : Nat) (hs : List UInt8) (s : ByteArray) (w : World) (hn : n < 2 ^ 64) (hwd : wd < 256) (hm : 64 < s.size) :
    Calls Try.prog 5 #[.int .u64 n, .int .u8 wd, .agg (hs.map u8v).toArray, .string s] w fun e w' => e = .returned (.bool true) ∧ Fr No w w' := by
  obtain ⟨k, x, hk, k1, k8, hx, ⟨h8, M, hM, hM0, hnx⟩ | ⟨h8, rfl⟩⟩ := back_num n wd hn
  all_goals
    have h64 : (64 : Int) < s.size := by omega
    clear hx hn
    go_enter Try.func5, Try.ntmps5
    go_wp2_with fail
    refine (shown1_any _).mono ?_
    rintro e w1 ⟨rfl, hF⟩
    have HF := Lib.hid ((((Fr.refl No w).alloc _).alloc _).trans hF)
    clear hF
    go_wp2
    go_ret
    exact ⟨rfl, HF.out⟩

set_option maxHeartbeats 1000000 in
theorem back_walk (n wd : Nat) (hs : List UInt8) (l : List UInt8) (w : World) (hn : n < 2 ^ 64) (hwd : wd < 256) (hl : hs.length = 32) (hm : l.length ≤ 64) :
    Calls Try.prog 5 #[.int .u64 n, .int .u8 wd, .agg (hs.map u8v).toArray, .string (str l)] w fun e w' => e = .returned (.bool true) ∧ Fr No w w' := by
  obtain ⟨k, x, hk, k1, k8, hx, ⟨h8, M, hM, hM0, hnx⟩ | ⟨h8, rfl⟩⟩ := back_num n wd hn
  all_goals
    have hsz := str_size l
    have h64 : ¬ (64 : Int) < l.length := by omega
    have HL := Lib.hid hl
    have HM := Lib.hid hm
    have HX := Lib.hid hx
    clear hx hn hl hm
    go_enter Try.func5, Try.ntmps5
    go_wp2_with fail
    refine (shown1_any _).mono ?_
    rintro e w1 ⟨rfl, hF⟩
    have HF1 := Lib.hid ((((Fr.refl No w).alloc (.cells (hs.map u8v).toArray 30)).alloc (.cells #[.slice none 0 0] 27)).trans hF)
    have HW1 := Lib.hid (show Wr (w.heap.size + 2) (w.heap.size + 1) (.slice none 0 0) [] w1 from ((by simpa using Wr.new (w.heap.size + 2) (w.alloc (.cells (hs.map u8v).toArray 30)) : Wr (w.heap.size + 2) (w.heap.size + 1) (.slice none 0 0) [] ((w.alloc (.cells (hs.map u8v).toArray 30)).alloc (.cells #[.slice none 0 0] 27)))).fr hF id (fun _ _ => id))
    have HH1 := Lib.hid (show w1.heap[w.heap.size]? = some (.cells (hs.map u8v).toArray 30 (0, 0)) from (hF.block _ (by simp; omega) id).trans ((Below.heap_alloc _ _ _ (by simp)).trans (heap_alloc_new w _)))
    have hz1 : w.heap.size + 2 ≤ w1.heap.size := by have := hF.size; simpa using this
    clear hF
    go_wp2_with fail
    refine (wnum_ok (w.heap.size + 2) (w.heap.size + 1) _ [] _ k _ HW1.out hz1 (by simp) k1 k8 HX.out).mono ?_
    rintro e w2 ⟨rfl, v2, hq, hF⟩
    rw [List.nil_append] at hq
    have HW2 := Lib.hid hq
    have HF2 := Lib.hid (HF1.out.trans' hF (WS_new HW1.out (by omega) (by omega)))
    have HH2 := Lib.hid ((hF.block w.heap.size (by omega) (by rintro (e | e); omega; have := (HW1.out.2.lt _ e).1; omega)).trans HH1.out)
    have hz2 : w.heap.size + 2 ≤ w2.heap.size := by have := hF.size; omega
    clear hq hF HF1 HH1 HW1
    go_wp2_with fail
    refine (wtext_ok (w.heap.size + 2) (w.heap.size + 1) _ _ (str l) _ HW2.out hz2 (by rw [beBytes_length]; omega) (by rw [str_size]; exact HM.out)).mono ?_
    rintro e w3 ⟨rfl, v3, hq, hF⟩
    rw [str_size, show (str l).data.toList = l from rfl] at hq
    have HW3 := Lib.hid hq
    have HF3 := Lib.hid (HF2.out.trans' hF (WS_new HW2.out (by omega) (by omega)))
    have HH3 := Lib.hid ((hF.block w.heap.size (by omega) (by rintro (e | e); omega; have := (HW2.out.2.lt _ e).1; omega)).trans HH2.out)
    have hz3 : w.heap.size + 2 ≤ w3.heap.size := by have := hF.size; omega
    clear hq hF HF2 HH2 HW2
    go_wp2_with (refine wpList_load_eq rfl 30 _ rfl (.pointer (some ⟨w.heap.size, 0, none⟩)) (.agg (hs.map u8v).toArray) rfl (load_hash _ _ hs HL.out HH3.out) ?_)
    refine (whash_any (w.heap.size + 2) (w.heap.size + 1) _ _ hs _ HW3.out hz3 (by have := HM.out; simp [beBytes_length]; omega) HL.out).mono ?_
    rintro e w4 ⟨rfl, v4, hq, hF⟩
    have HW4 := Lib.hid hq
    have HF4 := Lib.hid (HF3.out.trans' hF (WS_new HW3.out (by omega) (by omega)))
    have HH4 := Lib.hid ((hF.block w.heap.size (by omega) (by rintro (e | e); omega; have := (HW3.out.2.lt _ e).1; omega)).trans HH3.out)
    have hz4 : w.heap.size + 2 ≤ w4.heap.size := by have := hF.size; omega
    clear hq hF HF3 HH3 HW3
    go_wp2_with fail
    refine (bytes_any _ _ _ _ _ HW4.out).mono ?_
    rintro e w5 ⟨rfl, rfl⟩
    go_wp2_with fail
    obtain ⟨A, hA⟩ : ∃ A, A = beBytes x k := ⟨_, rfl⟩
    have hAl : A.length = k := by rw [hA, beBytes_length]
    have hAn : beNat A = x := by rw [hA, beNat_beBytes, Nat.mod_eq_of_lt HX.out]
    have hc : (UInt8.ofNat l.length).toNat = l.length := by have := HM.out; simp; omega
    rw [← hA, List.append_assoc, List.cons_append] at HW4
    try rw [← hA]
    have HA := Lib.hid (And.intro hAl hAn)
    have HC := Lib.hid hc
    clear hA hAl hAn hc
    refine (new_any _ _).mono ?_
    rintro e w5 ⟨rfl, hw5⟩
    have hF45 : Fr No w4 w5 := hw5 ▸ (Fr.refl No w4).alloc _
    have c5 : w5.cell? ⟨w4.heap.size, 0, none⟩ = some (.string (str (A ++ UInt8.ofNat l.length :: (l ++ hs)))) := by rw [hw5]; simp [go_sem]
    have f5 : w5.frozen? ⟨w4.heap.size, 0, none⟩ = false := by rw [hw5]; simp [go_sem]
    clear hw5
    go_wp2_with fail
    have hrn := rnum_L w4.heap.size A (UInt8.ofNat l.length :: (l ++ hs)) k w5 HA.out.1 k1 k8 c5 f5 (by have := HA.out.1; have := HM.out; have := HL.out; simp [maxLen]; omega)
    rw [HA.out.2] at hrn
    refine hrn.mono ?_
    rintro e w6 ⟨rfl, hr6⟩
    have HR6 := Lib.hid hr6
    clear hr6 hrn
    go_wp2_with fail
    refine (rtext_ok w4.heap.size (UInt8.ofNat l.length) l hs w6 HR6.out.1 HR6.out.2.1 (by have := HM.out; have := HL.out; simp [maxLen]; omega) (by have := HM.out; have := HC.out; omega) HC.out).mono ?_
    rintro e w7 ⟨rfl, hr7⟩
    have HR7 := Lib.hid hr7
    clear hr7
    go_wp2_with fail
    refine (rhash_ok w4.heap.size hs [] w7 HL.out (by rw [List.append_nil]; exact HR7.out.1) HR7.out.2.1 (by have := HL.out; simp [maxLen]; omega)).mono ?_
    rintro e w8 ⟨rfl, hr8⟩
    have HF8 := Lib.hid (((HF4.out.trans hF45).trans' ((HR6.out.2.2.trans HR7.out.2.2).trans hr8.2.2) (fun i hi (e : i = w4.heap.size) => absurd hi (by have := HF4.out.size; omega))))
    have HQ8 := Lib.hid ((HW4.out.fr hF45 id (fun _ _ => id)).fr ((HR6.out.2.2.trans HR7.out.2.2).trans hr8.2.2) (Nat.ne_of_lt HW4.out.lt) (fun k hk => Nat.ne_of_lt (HW4.out.2.lt k hk).2))
    have HH8 := Lib.hid ((((HR6.out.2.2.trans HR7.out.2.2).trans hr8.2.2).block w.heap.size (by have := hF45.size; omega) (show ¬ w.heap.size = w4.heap.size by omega)).trans ((hF45.block w.heap.size (by omega) id).trans HH4.out))
    have HC8 := Lib.hid hr8.1
    have hz8 : w.heap.size < w8.heap.size := by have := HF8.out.size; have := (HQ8.out).lt; omega
    clear hr8 c5 f5 HR6 HR7 HW4 HH4 HF4 hF45
    obtain ⟨V, hV1, hV2, hV3⟩ := store_hash w8 hs HL.out
    have HV1 := Lib.hid hV1
    have HV2 := Lib.hid (load_hash V _ hs HL.out hV2)
    have HV4 := Lib.hid (load_hash V _ hs HL.out ((hV3.block _ hz8 id).trans HH8.out))
    have HCV := Lib.hid (hV3.cell id HC8.out)
    have HQV := Lib.hid (HQ8.out.fr hV3 id (fun _ _ => id))
    have HFV := Lib.hid (HF8.out.trans hV3)
    clear hV1 hV2 hV3 HQ8 HF8 HH8 HC8
    have hee := fun X => eql_hash hs hs HL.out HL.out X
    simp only [beq_self_eq_true] at hee
    have hst : ((str l).toList == (str l).toList) = true := by simp
    go_wp2_with (first | (refine wpList_store_eq rfl 30 _ _ rfl (.pointer (some ⟨w8.heap.size, 0, none⟩)) (.agg (hs.map u8v).toArray) rfl rfl HV1.out ?_) | (refine wpList_load_eqG 30 _ rfl (.pointer (some ⟨w8.heap.size, 0, none⟩)) (.agg (hs.map u8v).toArray) rfl HV2.out (by kernel_rfl) ?_) | (refine wpList_load_eqG 30 _ rfl (.pointer (some ⟨w.heap.size, 0, none⟩)) (.agg (hs.map u8v).toArray) rfl HV4.out (by kernel_rfl) ?_))
    refine (end_ok _ _ HCV.out).mono ?_
    rintro e w9 ⟨rfl, rfl⟩
    go_wp2_with fail
    refine (bytes_any _ _ _ _ _ HQV.out).mono ?_
    rintro e w9 ⟨rfl, rfl⟩
    have hlen : ((((str (A ++ UInt8.ofNat l.length :: (l ++ hs))).size : Nat) : Int) == (k : Int) + 1 + (l.length : Int) + 32) = true := by
      rw [beq_iff_eq, str_size]; have := HA.out.1; have := HL.out; simp; omega
    go_wp2_with fail
    go_ret
    exact ⟨rfl, HFV.out⟩

theorem back_all (n wd : Nat) (hs : List UInt8) (s : ByteArray) (w : World) (hn : n < 2 ^ 64) (hwd : wd < 256) (hl : hs.length = 32) :
    Calls Try.prog 5 #[.int .u64 n, .int .u8 wd, .agg (hs.map u8v).toArray, .string s] w fun e w' => e = .returned (.bool true) ∧ Fr No w w' := by
  by_cases h : 64 < s.size
  · exact back_long n wd hs s w hn hwd h
  · rw [← str_data s]
    exact back_walk n wd hs _ w hn hwd hl (by simp; omega)
end Go.Proofs.Ythmpadhhbkielaa
