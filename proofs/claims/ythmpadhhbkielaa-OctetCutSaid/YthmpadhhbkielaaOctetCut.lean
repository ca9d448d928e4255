import Derived.Test.YthmpadhhbkielaaOct8
import Derived.Test.YthmpadhhbkielaaOctF
namespace Go.Proofs.Ythmpadhhbkielaa
open Go.RowKit
set_option linter.unusedVariables false

set_option maxHeartbeats 1000000 in
theorem cut_a (n cut : Nat) (hs l : List UInt8) (k : Nat) (w : World) (hn : n < 2 ^ 64) (hcut : cut < 256) (hl : hs.length = 32) (hm : l.length ≤ 64) (hk : (cut : Int) % (41 + (l.length : Int)) = (k : Int)) (hk32 : k < 32) :
    Calls Try.prog 8 #[.int .u64 n, .agg (hs.map u8v).toArray, .string (str l), .int .u8 cut] w fun e w' => e = .returned (.bool true) ∧ Fr No w w' := by
  have hsz := str_size l
  have h64 : ¬ (64 : Int) < l.length := by omega
  have HL := Lib.hid hl
  have HM := Lib.hid hm
  have HN := Lib.hid (show n < 256 ^ 8 by omega)
  have hkl : k < 41 + l.length := by have h0 := Int.emod_lt_of_pos (cut : Int) (show (0 : Int) < 41 + (l.length : Int) by omega); omega
  clear hn hl hm
  go_enter Try.func8, Try.ntmps8
  go_wp2_with fail
  refine (shown1_any _).mono ?_
  rintro e w1 ⟨rfl, hF⟩
  have HF1 := Lib.hid (((Fr.refl No w).alloc (.cells (hs.map u8v).toArray 30)).trans hF)
  have HH1 := Lib.hid (show w1.heap[w.heap.size]? = some (.cells (hs.map u8v).toArray 30 (0, 0)) from (hF.block _ (by simp) id).trans (heap_alloc_new w _))
  have hz1 : w.heap.size + 1 ≤ w1.heap.size := by have := hF.size; simpa using this
  clear hF
  go_wp2_with (refine wpList_load_eq rfl 30 _ rfl (.pointer (some ⟨w.heap.size, 0, none⟩)) (.agg (hs.map u8v).toArray) rfl (load_hash _ _ hs HL.out ((Below.heap_alloc _ _ _ (by omega)).trans HH1.out)) ?_)
  refine (whash_any w1.heap.size w1.heap.size _ [] hs _ (Wr.new _ w1) (by simp) (by simp) HL.out).mono ?_
  rintro e w2 ⟨rfl, v2, hq, hF⟩
  rw [List.nil_append] at hq
  have HW2 := Lib.hid hq
  have HF2 := Lib.hid (HF1.out.trans (((Fr.refl No w1).alloc (.cells #[.slice none 0 0] 27)).trans' hF (WS_new (Wr.new w1.heap.size w1) (Nat.le_refl _) (Nat.le_refl _))))
  have HH2 := Lib.hid ((hF.block w.heap.size (by simp; omega) (by rintro (e | e); omega; simp [Value.ownBlock] at e)).trans ((Below.heap_alloc _ _ _ (by omega)).trans HH1.out))
  have hz2 : w1.heap.size < w2.heap.size := by have := hF.size; simp at this; omega
  clear hq hF HF1 HH1
  go_wp2_with fail
  refine (wnum_ok w1.heap.size w1.heap.size _ _ n 8 _ HW2.out (by omega) (by rw [HL.out]; omega) (by omega) (by omega) HN.out).mono ?_
  rintro e w3 ⟨rfl, v3, hq, hF⟩
  have HW3 := Lib.hid hq
  have HF3 := Lib.hid (HF2.out.trans' hF (WS_new HW2.out (by omega) (by omega)))
  have HH3 := Lib.hid ((hF.block w.heap.size (by omega) (by rintro (e | e); omega; have := (HW2.out.2.lt _ e).1; omega)).trans HH2.out)
  have hz3 : w1.heap.size < w3.heap.size := by have := hF.size; omega
  clear hq hF HF2 HH2 HW2
  go_wp2_with fail
  refine (wtext_ok w1.heap.size w1.heap.size _ _ (str l) _ HW3.out (by omega) (by have := HL.out; simp [beBytes_length]; omega) (by rw [str_size]; exact HM.out)).mono ?_
  rintro e w4 ⟨rfl, v4, hq, hF⟩
  rw [str_size, show (str l).data.toList = l from rfl] at hq
  have HW4 := Lib.hid hq
  have HF4 := Lib.hid (HF3.out.trans' hF (WS_new HW3.out (by omega) (by omega)))
  have HH4 := Lib.hid ((hF.block w.heap.size (by omega) (by rintro (e | e); omega; have := (HW3.out.2.lt _ e).1; omega)).trans HH3.out)
  have hz4 : w1.heap.size < w4.heap.size := by have := hF.size; omega
  clear hq hF HF3 HH3 HW3
  obtain ⟨A, hA⟩ : ∃ A, A = beBytes n 8 := ⟨_, rfl⟩
  have hAl : A.length = 8 := by rw [hA, beBytes_length]
  have hAn : beNat A = n := by rw [hA, beNat_beBytes, Nat.mod_eq_of_lt HN.out]
  have hc : (UInt8.ofNat l.length).toNat = l.length := by have := HM.out; simp; omega
  rw [← hA, List.append_assoc] at HW4
  have HA := Lib.hid (And.intro hAl hAn)
  have HC := Lib.hid hc
  clear hA hAl hAn hc
  obtain ⟨Z, hZ⟩ : ∃ Z, Z = hs ++ (A ++ (UInt8.ofNat l.length :: l)) := ⟨_, rfl⟩
  rw [← hZ] at HW4
  have hZl : Z.length = 41 + l.length := by rw [hZ]; have := HL.out; have := HA.out.1; simp; omega
  have hZs : (str Z).size = 41 + l.length := by rw [str_size, hZl]
  have hext : (str Z).extract 0 k = str (Z.take k) := str_take Z k
  have hk1 : (k : Int) ≤ 41 + (l.length : Int) := by omega
  have HZ := Lib.hid (And.intro hZ hZl)
  clear hZ hZl
  go_wp2_with fail
  refine (bytes_any _ _ _ _ _ HW4.out).mono ?_
  rintro e w5 ⟨rfl, rfl⟩
  go_wp2_with fail
  refine (new_any _ _).mono ?_
  rintro e w5 ⟨rfl, hw5⟩
  have hF45 : Fr No w4 w5 := hw5 ▸ (Fr.refl No w4).alloc _
  have c5 : w5.cell? ⟨w4.heap.size, 0, none⟩ = some (.string (str (Z.take k))) := by rw [hw5]; simp [go_sem]
  have f5 : w5.frozen? ⟨w4.heap.size, 0, none⟩ = false := by rw [hw5]; simp [go_sem]
  have hz5 : w4.heap.size < w5.heap.size := by rw [hw5]; simp
  have HH5 := Lib.hid ((hF45.block w.heap.size (by omega) id).trans HH4.out)
  have HF5 := Lib.hid (HF4.out.trans hF45)
  clear hw5 HH4 HF4 hF45 hext
  go_wp2_with fail
  have hlenk : (Z.take k).length = k := by rw [List.length_take, HZ.out.2]; omega
  refine (rhash_short w4.heap.size (str (Z.take k)) w5 (by rw [str_size, hlenk]; exact hk32) c5 f5).mono ?_
  rintro e w6 ⟨rfl, hr6⟩
  have HR6 := Lib.hid hr6
  clear hr6 c5 f5
  obtain ⟨V, hV1, hV2, hV3⟩ := store_hash w6 (List.replicate 32 0) (by simp)
  have HV1 := Lib.hid hV1
  have HV2 := Lib.hid (load_hash V _ (List.replicate 32 0) (by simp) hV2)
  have HV4 := Lib.hid (load_hash V _ hs HL.out ((hV3.block _ (by have := HR6.out.2.2.size; omega) id).trans ((HR6.out.2.2.block w.heap.size (by omega) (show ¬ w.heap.size = w4.heap.size by omega)).trans HH5.out)))
  have HCV := Lib.hid (hV3.cell id HR6.out.1)
  have HFr := Lib.hid ((hV3.frozen 0 (lt_cell HR6.out.1) id).trans HR6.out.2.1)
  have HFV := Lib.hid ((HF5.out.trans' HR6.out.2.2 (fun i hi (e : i = w4.heap.size) => absurd hi (by have := HF5.out.size; omega))).trans hV3)
  clear hV1 hV2 hV3 HH5 HF5 HR6
  have hk3 : ¬ (32 : Int) ≤ (k : Int) := by omega
  have hk4 : (k : Int) < 32 := by omega
  go_wp2_with (refine wpList_store_eq rfl 30 _ _ rfl (.pointer (some ⟨w6.heap.size, 0, none⟩)) (.agg ((List.replicate 32 0).map u8v).toArray) rfl rfl HV1.out ?_)
  refine (rnum_tot w4.heap.size (str (Z.take k)) 8 V HCV.out HFr.out (by omega) (by omega) (by rw [str_size, hlenk]; unfold maxLen; omega)).mono ?_
  rintro e w7 ⟨x, f, t, rfl, hr⟩
  have HF7 := Lib.hid (HFV.out.trans' hr.2.2 (fun i hi (e : i = w4.heap.size) => absurd hi (by have := HW4.out.lt; omega)))
  clear hr
  go_wp2
  go_ret
  exact ⟨rfl, HF7.out⟩

set_option maxHeartbeats 1000000 in
theorem cut_b (n cut : Nat) (hs l : List UInt8) (k : Nat) (w : World) (hn : n < 2 ^ 64) (hcut : cut < 256) (hl : hs.length = 32) (hm : l.length ≤ 64) (hk : (cut : Int) % (41 + (l.length : Int)) = (k : Int)) (hk32 : 32 ≤ k ∧ k < 40) :
    Calls Try.prog 8 #[.int .u64 n, .agg (hs.map u8v).toArray, .string (str l), .int .u8 cut] w fun e w' => e = .returned (.bool true) ∧ Fr No w w' := by
  have hsz := str_size l
  have h64 : ¬ (64 : Int) < l.length := by omega
  have HL := Lib.hid hl
  have HM := Lib.hid hm
  have HN := Lib.hid (show n < 256 ^ 8 by omega)
  have hkl : k < 41 + l.length := by have h0 := Int.emod_lt_of_pos (cut : Int) (show (0 : Int) < 41 + (l.length : Int) by omega); omega
  clear hn hl hm
  go_enter Try.func8, Try.ntmps8
  go_wp2_with fail
  refine (shown1_any _).mono ?_
  rintro e w1 ⟨rfl, hF⟩
  have HF1 := Lib.hid (((Fr.refl No w).alloc (.cells (hs.map u8v).toArray 30)).trans hF)
  have HH1 := Lib.hid (show w1.heap[w.heap.size]? = some (.cells (hs.map u8v).toArray 30 (0, 0)) from (hF.block _ (by simp) id).trans (heap_alloc_new w _))
  have hz1 : w.heap.size + 1 ≤ w1.heap.size := by have := hF.size; simpa using this
  clear hF
  go_wp2_with (refine wpList_load_eq rfl 30 _ rfl (.pointer (some ⟨w.heap.size, 0, none⟩)) (.agg (hs.map u8v).toArray) rfl (load_hash _ _ hs HL.out ((Below.heap_alloc _ _ _ (by omega)).trans HH1.out)) ?_)
  refine (whash_any w1.heap.size w1.heap.size _ [] hs _ (Wr.new _ w1) (by simp) (by simp) HL.out).mono ?_
  rintro e w2 ⟨rfl, v2, hq, hF⟩
  rw [List.nil_append] at hq
  have HW2 := Lib.hid hq
  have HF2 := Lib.hid (HF1.out.trans (((Fr.refl No w1).alloc (.cells #[.slice none 0 0] 27)).trans' hF (WS_new (Wr.new w1.heap.size w1) (Nat.le_refl _) (Nat.le_refl _))))
  have HH2 := Lib.hid ((hF.block w.heap.size (by simp; omega) (by rintro (e | e); omega; simp [Value.ownBlock] at e)).trans ((Below.heap_alloc _ _ _ (by omega)).trans HH1.out))
  have hz2 : w1.heap.size < w2.heap.size := by have := hF.size; simp at this; omega
  clear hq hF HF1 HH1
  go_wp2_with fail
  refine (wnum_ok w1.heap.size w1.heap.size _ _ n 8 _ HW2.out (by omega) (by rw [HL.out]; omega) (by omega) (by omega) HN.out).mono ?_
  rintro e w3 ⟨rfl, v3, hq, hF⟩
  have HW3 := Lib.hid hq
  have HF3 := Lib.hid (HF2.out.trans' hF (WS_new HW2.out (by omega) (by omega)))
  have HH3 := Lib.hid ((hF.block w.heap.size (by omega) (by rintro (e | e); omega; have := (HW2.out.2.lt _ e).1; omega)).trans HH2.out)
  have hz3 : w1.heap.size < w3.heap.size := by have := hF.size; omega
  clear hq hF HF2 HH2 HW2
  go_wp2_with fail
  refine (wtext_ok w1.heap.size w1.heap.size _ _ (str l) _ HW3.out (by omega) (by have := HL.out; simp [beBytes_length]; omega) (by rw [str_size]; exact HM.out)).mono ?_
  rintro e w4 ⟨rfl, v4, hq, hF⟩
  rw [str_size, show (str l).data.toList = l from rfl] at hq
  have HW4 := Lib.hid hq
  have HF4 := Lib.hid (HF3.out.trans' hF (WS_new HW3.out (by omega) (by omega)))
  have HH4 := Lib.hid ((hF.block w.heap.size (by omega) (by rintro (e | e); omega; have := (HW3.out.2.lt _ e).1; omega)).trans HH3.out)
  have hz4 : w1.heap.size < w4.heap.size := by have := hF.size; omega
  clear hq hF HF3 HH3 HW3
  obtain ⟨A, hA⟩ : ∃ A, A = beBytes n 8 := ⟨_, rfl⟩
  have hAl : A.length = 8 := by rw [hA, beBytes_length]
  have hAn : beNat A = n := by rw [hA, beNat_beBytes, Nat.mod_eq_of_lt HN.out]
  have hc : (UInt8.ofNat l.length).toNat = l.length := by have := HM.out; simp; omega
  rw [← hA, List.append_assoc] at HW4
  have HA := Lib.hid (And.intro hAl hAn)
  have HC := Lib.hid hc
  clear hA hAl hAn hc
  obtain ⟨Z, hZ⟩ : ∃ Z, Z = hs ++ (A ++ (UInt8.ofNat l.length :: l)) := ⟨_, rfl⟩
  rw [← hZ] at HW4
  have hZl : Z.length = 41 + l.length := by rw [hZ]; have := HL.out; have := HA.out.1; simp; omega
  have hZs : (str Z).size = 41 + l.length := by rw [str_size, hZl]
  have hext : (str Z).extract 0 k = str (Z.take k) := str_take Z k
  have hk1 : (k : Int) ≤ 41 + (l.length : Int) := by omega
  have HZ := Lib.hid (And.intro hZ hZl)
  clear hZ hZl
  go_wp2_with fail
  refine (bytes_any _ _ _ _ _ HW4.out).mono ?_
  rintro e w5 ⟨rfl, rfl⟩
  go_wp2_with fail
  obtain ⟨TL, hTL⟩ : ∃ TL, TL = A.take (k - 32) := ⟨_, rfl⟩
  have hT : Z.take k = hs ++ TL := by rw [hTL, HZ.out.1, List.take_append, List.take_of_length_le (by rw [HL.out]; omega), HL.out, List.take_append_of_le_length (by rw [HA.out.1]; omega)]
  have HTL := Lib.hid (show TL.length = k - 32 by rw [hTL, List.length_take, HA.out.1]; omega)
  clear hTL
  refine (new_any _ _).mono ?_
  rintro e w5 ⟨rfl, hw5⟩
  have hF45 : Fr No w4 w5 := hw5 ▸ (Fr.refl No w4).alloc _
  have c5 : w5.cell? ⟨w4.heap.size, 0, none⟩ = some (.string (str (Z.take k))) := by rw [hw5]; simp [go_sem]
  have f5 : w5.frozen? ⟨w4.heap.size, 0, none⟩ = false := by rw [hw5]; simp [go_sem]
  have hz5 : w4.heap.size < w5.heap.size := by rw [hw5]; simp
  have HH5 := Lib.hid ((hF45.block w.heap.size (by omega) id).trans HH4.out)
  have HF5 := Lib.hid (HF4.out.trans hF45)
  rw [hT] at c5
  clear hw5 HH4 HF4 hF45 hext
  go_wp2_with fail
  refine (rhash_ok w4.heap.size hs TL w5 HL.out c5 f5 (by have := HL.out; have := HTL.out; simp [maxLen]; omega)).mono ?_
  rintro e w6 ⟨rfl, hr6⟩
  have HR6 := Lib.hid hr6
  clear hr6 c5 f5
  obtain ⟨V, hV1, hV2, hV3⟩ := store_hash w6 hs HL.out
  have HV1 := Lib.hid hV1
  have HV2 := Lib.hid (load_hash V _ hs HL.out hV2)
  have HV4 := Lib.hid (load_hash V _ hs HL.out ((hV3.block _ (by have := HR6.out.2.2.size; omega) id).trans ((HR6.out.2.2.block w.heap.size (by omega) (show ¬ w.heap.size = w4.heap.size by omega)).trans HH5.out)))
  have HCV := Lib.hid (hV3.cell id HR6.out.1)
  have HFr := Lib.hid ((hV3.frozen 0 (lt_cell HR6.out.1) id).trans HR6.out.2.1)
  have HFV := Lib.hid ((HF5.out.trans' HR6.out.2.2 (fun i hi (e : i = w4.heap.size) => absurd hi (by have := HF5.out.size; omega))).trans hV3)
  clear hV1 hV2 hV3 HH5 HF5 HR6
  have hk3 : (32 : Int) ≤ (k : Int) := by omega
  have hk4 : ¬ (k : Int) < 32 := by omega
  have hee := fun X => neq_hash hs hs HL.out HL.out X
  simp only [beq_self_eq_true, Bool.not_true] at hee
  have hk5 : (k : Int) < 40 := by omega
  go_wp2_with (first | (refine wpList_store_eq rfl 30 _ _ rfl (.pointer (some ⟨w6.heap.size, 0, none⟩)) (.agg (hs.map u8v).toArray) rfl rfl HV1.out ?_) | (refine wpList_load_eqG 30 _ rfl (.pointer (some ⟨w6.heap.size, 0, none⟩)) (.agg (hs.map u8v).toArray) rfl HV2.out (by kernel_rfl) ?_) | (refine wpList_load_eqG 30 _ rfl (.pointer (some ⟨w.heap.size, 0, none⟩)) (.agg (hs.map u8v).toArray) rfl HV4.out (by kernel_rfl) ?_))
  refine (rnum_short w4.heap.size (str TL) 8 V HCV.out HFr.out (by omega) (by omega) (by rw [str_size, HTL.out]; omega)).mono ?_
  rintro e w7 ⟨rfl, hr7⟩
  have HR7 := Lib.hid hr7
  clear hr7
  go_wp2_with fail
  refine (rtext_tot w4.heap.size TL w7 HR7.out.1 HR7.out.2.1 (by have := HTL.out; simp [maxLen]; omega)).mono ?_
  rintro e w8 ⟨tt, ff, uu, rfl, hr8⟩
  have HF8 := Lib.hid (HFV.out.trans' (HR7.out.2.2.trans hr8.2.2) (fun i hi (e : i = w4.heap.size) => absurd hi (by have := HW4.out.lt; omega)))
  clear hr8
  go_wp2
  go_ret
  exact ⟨rfl, HF8.out⟩

/-- A text of which some bytes are cut off. -/
theorem cut_text (b : Nat) (l : List UInt8) (k : Nat) (w : World) (hc : w.cell? ⟨b, 0, none⟩ = some (.string (str ((UInt8.ofNat l.length :: l).take k)))) (hf : w.frozen? ⟨b, 0, none⟩ = false) (hm : l.length ≤ 64) (hk : k < 1 + l.length) :
    Calls Try.prog 23 #[.pointer (some ⟨b, 0, none⟩)] w fun e w' => ∃ (t u : ByteArray), e = .returned (.tuple #[.string t, .int .i64 10]) ∧ Rd b u w w' := by
  cases k with
  | zero => exact (rtext_none b (str []) w hc hf rfl).mono fun e w' ⟨he, hr⟩ => ⟨_, _, he, hr⟩
  | succ k =>
    rw [List.take_succ_cons] at hc
    have hcc : (UInt8.ofNat l.length).toNat = l.length := by simp; omega
    exact (rtext_short b (UInt8.ofNat l.length) (l.take k) w hc hf (by simp [maxLen]; omega) (by omega) (by rw [List.length_take]; omega)).mono fun e w' ⟨he, hr⟩ => ⟨_, _, he, hr⟩

set_option maxHeartbeats 1000000 in
theorem cut_c (n cut : Nat) (hs l : List UInt8) (k : Nat) (w : World) (hn : n < 2 ^ 64) (hcut : cut < 256) (hl : hs.length = 32) (hm : l.length ≤ 64) (hk : (cut : Int) % (41 + (l.length : Int)) = (k : Int)) (hk32 : 40 ≤ k) :
    Calls Try.prog 8 #[.int .u64 n, .agg (hs.map u8v).toArray, .string (str l), .int .u8 cut] w fun e w' => e = .returned (.bool true) ∧ Fr No w w' := by
  have hsz := str_size l
  have h64 : ¬ (64 : Int) < l.length := by omega
  have HL := Lib.hid hl
  have HM := Lib.hid hm
  have HN := Lib.hid (show n < 256 ^ 8 by omega)
  have hkl : k < 41 + l.length := by have h0 := Int.emod_lt_of_pos (cut : Int) (show (0 : Int) < 41 + (l.length : Int) by omega); omega
  clear hn hl hm
  go_enter Try.func8, Try.ntmps8
  go_wp2_with fail
  refine (shown1_any _).mono ?_
  rintro e w1 ⟨rfl, hF⟩
  have HF1 := Lib.hid (((Fr.refl No w).alloc (.cells (hs.map u8v).toArray 30)).trans hF)
  have HH1 := Lib.hid (show w1.heap[w.heap.size]? = some (.cells (hs.map u8v).toArray 30 (0, 0)) from (hF.block _ (by simp) id).trans (heap_alloc_new w _))
  have hz1 : w.heap.size + 1 ≤ w1.heap.size := by have := hF.size; simpa using this
  clear hF
  go_wp2_with (refine wpList_load_eq rfl 30 _ rfl (.pointer (some ⟨w.heap.size, 0, none⟩)) (.agg (hs.map u8v).toArray) rfl (load_hash _ _ hs HL.out ((Below.heap_alloc _ _ _ (by omega)).trans HH1.out)) ?_)
  refine (whash_any w1.heap.size w1.heap.size _ [] hs _ (Wr.new _ w1) (by simp) (by simp) HL.out).mono ?_
  rintro e w2 ⟨rfl, v2, hq, hF⟩
  rw [List.nil_append] at hq
  have HW2 := Lib.hid hq
  have HF2 := Lib.hid (HF1.out.trans (((Fr.refl No w1).alloc (.cells #[.slice none 0 0] 27)).trans' hF (WS_new (Wr.new w1.heap.size w1) (Nat.le_refl _) (Nat.le_refl _))))
  have HH2 := Lib.hid ((hF.block w.heap.size (by simp; omega) (by rintro (e | e); omega; simp [Value.ownBlock] at e)).trans ((Below.heap_alloc _ _ _ (by omega)).trans HH1.out))
  have hz2 : w1.heap.size < w2.heap.size := by have := hF.size; simp at this; omega
  clear hq hF HF1 HH1
  go_wp2_with fail
  refine (wnum_ok w1.heap.size w1.heap.size _ _ n 8 _ HW2.out (by omega) (by rw [HL.out]; omega) (by omega) (by omega) HN.out).mono ?_
  rintro e w3 ⟨rfl, v3, hq, hF⟩
  have HW3 := Lib.hid hq
  have HF3 := Lib.hid (HF2.out.trans' hF (WS_new HW2.out (by omega) (by omega)))
  have HH3 := Lib.hid ((hF.block w.heap.size (by omega) (by rintro (e | e); omega; have := (HW2.out.2.lt _ e).1; omega)).trans HH2.out)
  have hz3 : w1.heap.size < w3.heap.size := by have := hF.size; omega
  clear hq hF HF2 HH2 HW2
  go_wp2_with fail
  refine (wtext_ok w1.heap.size w1.heap.size _ _ (str l) _ HW3.out (by omega) (by have := HL.out; simp [beBytes_length]; omega) (by rw [str_size]; exact HM.out)).mono ?_
  rintro e w4 ⟨rfl, v4, hq, hF⟩
  rw [str_size, show (str l).data.toList = l from rfl] at hq
  have HW4 := Lib.hid hq
  have HF4 := Lib.hid (HF3.out.trans' hF (WS_new HW3.out (by omega) (by omega)))
  have HH4 := Lib.hid ((hF.block w.heap.size (by omega) (by rintro (e | e); omega; have := (HW3.out.2.lt _ e).1; omega)).trans HH3.out)
  have hz4 : w1.heap.size < w4.heap.size := by have := hF.size; omega
  clear hq hF HF3 HH3 HW3
  obtain ⟨A, hA⟩ : ∃ A, A = beBytes n 8 := ⟨_, rfl⟩
  have hAl : A.length = 8 := by rw [hA, beBytes_length]
  have hAn : beNat A = n := by rw [hA, beNat_beBytes, Nat.mod_eq_of_lt HN.out]
  have hc : (UInt8.ofNat l.length).toNat = l.length := by have := HM.out; simp; omega
  rw [← hA, List.append_assoc] at HW4
  have HA := Lib.hid (And.intro hAl hAn)
  have HC := Lib.hid hc
  clear hA hAl hAn hc
  obtain ⟨Z, hZ⟩ : ∃ Z, Z = hs ++ (A ++ (UInt8.ofNat l.length :: l)) := ⟨_, rfl⟩
  rw [← hZ] at HW4
  have hZl : Z.length = 41 + l.length := by rw [hZ]; have := HL.out; have := HA.out.1; simp; omega
  have hZs : (str Z).size = 41 + l.length := by rw [str_size, hZl]
  have hext : (str Z).extract 0 k = str (Z.take k) := str_take Z k
  have hk1 : (k : Int) ≤ 41 + (l.length : Int) := by omega
  have HZ := Lib.hid (And.intro hZ hZl)
  clear hZ hZl
  go_wp2_with fail
  refine (bytes_any _ _ _ _ _ HW4.out).mono ?_
  rintro e w5 ⟨rfl, rfl⟩
  go_wp2_with fail
  obtain ⟨TL, hTL⟩ : ∃ TL, TL = A ++ (UInt8.ofNat l.length :: l).take (k - 40) := ⟨_, rfl⟩
  have hT : Z.take k = hs ++ TL := by rw [hTL, HZ.out.1, List.take_append, List.take_of_length_le (by rw [HL.out]; omega), HL.out, List.take_append, List.take_of_length_le (by rw [HA.out.1]; omega), HA.out.1, Nat.sub_sub]
  have HTL := Lib.hid (And.intro (show TL.length = k - 32 by rw [hTL, List.length_append, List.length_take, HA.out.1, List.length_cons]; omega) hTL)
  clear hTL
  refine (new_any _ _).mono ?_
  rintro e w5 ⟨rfl, hw5⟩
  have hF45 : Fr No w4 w5 := hw5 ▸ (Fr.refl No w4).alloc _
  have c5 : w5.cell? ⟨w4.heap.size, 0, none⟩ = some (.string (str (Z.take k))) := by rw [hw5]; simp [go_sem]
  have f5 : w5.frozen? ⟨w4.heap.size, 0, none⟩ = false := by rw [hw5]; simp [go_sem]
  have hz5 : w4.heap.size < w5.heap.size := by rw [hw5]; simp
  have HH5 := Lib.hid ((hF45.block w.heap.size (by omega) id).trans HH4.out)
  have HF5 := Lib.hid (HF4.out.trans hF45)
  rw [hT] at c5
  clear hw5 HH4 HF4 hF45 hext
  go_wp2_with fail
  refine (rhash_ok w4.heap.size hs TL w5 HL.out c5 f5 (by have := HL.out; have := HTL.out; simp [maxLen]; omega)).mono ?_
  rintro e w6 ⟨rfl, hr6⟩
  have HR6 := Lib.hid hr6
  clear hr6 c5 f5
  obtain ⟨V, hV1, hV2, hV3⟩ := store_hash w6 hs HL.out
  have HV1 := Lib.hid hV1
  have HV2 := Lib.hid (load_hash V _ hs HL.out hV2)
  have HV4 := Lib.hid (load_hash V _ hs HL.out ((hV3.block _ (by have := HR6.out.2.2.size; omega) id).trans ((HR6.out.2.2.block w.heap.size (by omega) (show ¬ w.heap.size = w4.heap.size by omega)).trans HH5.out)))
  have HCV := Lib.hid (hV3.cell id HR6.out.1)
  have HFr := Lib.hid ((hV3.frozen 0 (lt_cell HR6.out.1) id).trans HR6.out.2.1)
  have HFV := Lib.hid ((HF5.out.trans' HR6.out.2.2 (fun i hi (e : i = w4.heap.size) => absurd hi (by have := HF5.out.size; omega))).trans hV3)
  clear hV1 hV2 hV3 HH5 HF5 HR6
  have hk3 : (32 : Int) ≤ (k : Int) := by omega
  have hk4 : ¬ (k : Int) < 32 := by omega
  have hee := fun X => neq_hash hs hs HL.out HL.out X
  simp only [beq_self_eq_true, Bool.not_true] at hee
  have hk5 : ¬ (k : Int) < 40 := by omega
  go_wp2_with (first | (refine wpList_store_eq rfl 30 _ _ rfl (.pointer (some ⟨w6.heap.size, 0, none⟩)) (.agg (hs.map u8v).toArray) rfl rfl HV1.out ?_) | (refine wpList_load_eqG 30 _ rfl (.pointer (some ⟨w6.heap.size, 0, none⟩)) (.agg (hs.map u8v).toArray) rfl HV2.out (by kernel_rfl) ?_) | (refine wpList_load_eqG 30 _ rfl (.pointer (some ⟨w.heap.size, 0, none⟩)) (.agg (hs.map u8v).toArray) rfl HV4.out (by kernel_rfl) ?_))
  have HCN := HCV.out
  rw [HTL.out.2] at HCN
  have hrn := rnum_L w4.heap.size A ((UInt8.ofNat l.length :: l).take (k - 40)) 8 V HA.out.1 (by omega) (by omega) HCN HFr.out (by have h0 := HTL.out.1; rw [HTL.out.2] at h0; have := HM.out; rw [h0]; simp [maxLen]; omega)
  rw [HA.out.2] at hrn
  clear HCN
  refine hrn.mono ?_
  rintro e w7 ⟨rfl, hr7⟩
  have HR7 := Lib.hid hr7
  clear hr7 hrn
  go_wp2_with fail
  refine (cut_text w4.heap.size l (k - 40) w7 HR7.out.1 HR7.out.2.1 HM.out (by omega)).mono ?_
  rintro e w8 ⟨tt, uu, rfl, hr8⟩
  have HF8 := Lib.hid (HFV.out.trans' (HR7.out.2.2.trans hr8.2.2) (fun i hi (e : i = w4.heap.size) => absurd hi (by have := HW4.out.lt; omega)))
  clear hr8
  go_wp2
  go_ret
  exact ⟨rfl, HF8.out⟩

set_option maxHeartbeats 400000 in
theorem cut_long (n cut : Nat) (hs : List UInt8) (s : ByteArray) (w : World) (hm : 64 < s.size) :
    Calls Try.prog 8 #[.int .u64 n, .agg (hs.map u8v).toArray, .string s, .int .u8 cut] w fun e w' => e = .returned (.bool true) ∧ Fr No w w' := by
  have h64 : (64 : Int) < s.size := by omega
  go_enter Try.func8, Try.ntmps8
  go_wp2_with fail
  refine (shown1_any _).mono ?_
  rintro e w1 ⟨rfl, hF⟩
  have HF := Lib.hid (((Fr.refl No w).alloc _).trans hF)
  clear hF
  go_wp2
  go_ret
  exact ⟨rfl, HF.out⟩

theorem cut_all (n : Nat) (hs : List UInt8) (s : ByteArray) (cut : Nat) (w : World) (hn : n < 2 ^ 64) (hl : hs.length = 32) (hcut : cut < 256) :
    Calls Try.prog 8 #[.int .u64 n, .agg (hs.map u8v).toArray, .string s, .int .u8 cut] w fun e w' => e = .returned (.bool true) ∧ Fr No w w' := by
  by_cases h : 64 < s.size
  · exact cut_long n cut hs s w h
  · rw [← str_data s]
    have hk : (cut : Int) % (41 + (s.data.toList.length : Int)) = ((cut % (41 + s.data.toList.length) : Nat) : Int) := by rw [Int.natCast_emod, Int.natCast_add]; rfl
    have hm : s.data.toList.length ≤ 64 := by simp; omega
    by_cases h1 : cut % (41 + s.data.toList.length) < 32
    · exact cut_a n cut hs _ _ w hn hcut hl hm hk h1
    · by_cases h2 : cut % (41 + s.data.toList.length) < 40
      · exact cut_b n cut hs _ _ w hn hcut hl hm hk ⟨by omega, h2⟩
      · exact cut_c n cut hs _ _ w hn hcut hl hm hk (by omega)
end Go.Proofs.Ythmpadhhbkielaa
