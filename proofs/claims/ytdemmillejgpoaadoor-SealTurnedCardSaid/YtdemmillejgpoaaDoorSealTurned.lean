/- SealTurned walked. -/
import Derived.Test.YtdemmillejgpoaaDoorSeaC
namespace Go.Proofs.YtdemmillejgpoaaDoor
open Go.RowKit
set_option linter.unusedVariables false

/-- One bit of the number i turned. -/
def flipL (l : List Nat) (i y : Nat) : List Nat := l.set i (l.getD i 0 ^^^ y)
theorem flipL_len (l : List Nat) (i y : Nat) : (flipL l i y).length = l.length := List.length_set ..
theorem flipL_b8 {l : List Nat} (h : B8 l) (i : Nat) {y : Nat} (hy : y < 256) : B8 (flipL l i y) := fun x hx => by
  rcases List.mem_or_eq_of_mem_set hx with h1 | h1
  · exact h x h1
  · rw [h1]; exact Nat.xor_lt_two_pow (n := 8) (h.getD i) hy
theorem flipL_ne {l : List Nat} {i y : Nat} (hi : i < l.length) (hy : y ≠ 0) : (l == flipL l i y) = false := by
  rw [beq_eq_false_iff_ne]
  intro h
  have h2 : l.getD i 0 = (flipL l i y).getD i 0 := by rw [← h]
  rw [flipL, getD_set _ _ _ _ hi, if_pos rfl] at h2
  have h3 : l.getD i 0 ^^^ l.getD i 0 = l.getD i 0 ^^^ (l.getD i 0 ^^^ y) := by rw [← h2]
  rw [Nat.xor_self, ← Nat.xor_assoc, Nat.xor_self, Nat.zero_xor] at h3
  exact hy h3.symm

set_option maxHeartbeats 400000 in
theorem turned_big (k s : List UInt8) (z : UInt8) (w : World) (hb : 100 < k.length ∨ 300 < s.length) (hk : k.length ≤ maxLen) (hs : s.length ≤ maxLen) (hg : Gl w) :
    Calls Tryd.prog 5 #[.string (str k), .string (str s), .int .u8 (z.toNat : Int)] w fun e w' => e = .returned (.bool true) ∧ Fr No w w' := by
  unfold maxLen at hk hs
  obtain ⟨n, hn⟩ : ∃ n, n = k.length := ⟨_, rfl⟩
  obtain ⟨m, hm⟩ : ∃ m, m = s.length := ⟨_, rfl⟩
  have hsz := (str_size k).trans hn.symm
  have hsz2 := (str_size s).trans hm.symm
  rw [← hn] at hb hk
  rw [← hm] at hb hs
  have HG := Lib.hid hg
  clear hg hn hm
  by_cases h1 : 100 < n
  · have h1 : (100 : Int) < (n : Int) := by omega
    clear hb
    go_enter Tryd.func5, Tryd.ntmps5
    go_wp2_with fail
    refine (shown3_any _ HG.out).mono ?_
    rintro e w1 ⟨rfl, hF⟩
    have HF := Lib.hid hF
    clear hF
    go_wp2
    go_ret
    exact ⟨rfl, HF.out⟩
  · have h2 : (300 : Int) < (m : Int) := by omega
    have h1 : ¬ (100 : Int) < (n : Int) := by omega
    clear hb
    go_enter Tryd.func5, Tryd.ntmps5
    go_wp2_with fail
    refine (shown3_any _ HG.out).mono ?_
    rintro e w1 ⟨rfl, hF⟩
    have HF := Lib.hid hF
    clear hF
    go_wp2
    go_ret
    exact ⟨rfl, HF.out⟩

set_option maxHeartbeats 1000000 in
set_option maxRecDepth 100000 in
theorem turned_ok (k s : List UInt8) (z : UInt8) (w : World) (hk : k.length ≤ 100) (hs : s.length ≤ 300) (hg : Gl w) :
    Calls Tryd.prog 5 #[.string (str k), .string (str s), .int .u8 (z.toNat : Int)] w fun e w' => e = .returned (.bool true) ∧ Fr No w w' := by
  obtain ⟨n, hn⟩ : ∃ n, n = k.length := ⟨_, rfl⟩
  obtain ⟨m, hm⟩ : ∃ m, m = s.length := ⟨_, rfl⟩
  obtain ⟨a, ha⟩ : ∃ a, a = z.toNat := ⟨_, rfl⟩
  have ha8 : a < 256 := by rw [ha]; exact z.toNat_lt
  obtain ⟨i, hi⟩ : ∃ i, i = a / 8 := ⟨_, rfl⟩
  obtain ⟨j, hj⟩ : ∃ j, j = a % 8 := ⟨_, rfl⟩
  obtain ⟨y, hy⟩ : ∃ y, y = 2 ^ j := ⟨_, rfl⟩
  have hj8 : j < 8 := by omega
  have hi32 : i < 32 := by omega
  have hy0 : y ≠ 0 := by rw [hy]; exact Nat.ne_of_gt (Nat.two_pow_pos j)
  have hy8 : y < 256 := by rw [hy]; exact Nat.pow_lt_pow_right (by decide) hj8
  obtain ⟨T, hT⟩ : ∃ T, T = tagL k s := ⟨_, rfl⟩
  obtain ⟨T2, hT2⟩ : ∃ T2, T2 = flipL T i y := ⟨_, rfl⟩
  obtain ⟨O, hO⟩ : ∃ O, O = ofL T2 := ⟨_, rfl⟩
  obtain ⟨O2, hO2⟩ : ∃ O2, O2 = flipL O i y := ⟨_, rfl⟩
  have hTL : T.length = 32 := by rw [hT]; exact tagL_len _ _
  have hT2L : T2.length = 32 := by rw [hT2, flipL_len, hTL]
  have hT28 : B8 T2 := by rw [hT2]; exact flipL_b8 (by rw [hT]; exact tagL_b8 _ _) i hy8
  have hOL : O.length = 32 := by rw [hO]; exact ofL_len _
  have hO2L : O2.length = 32 := by rw [hO2, flipL_len, hOL]
  obtain ⟨x, hx⟩ : ∃ x, x = T.getD i 0 := ⟨_, rfl⟩
  obtain ⟨x', hx'⟩ : ∃ x', x' = x ^^^ y := ⟨_, rfl⟩
  obtain ⟨o, ho⟩ : ∃ o, o = O.getD i 0 := ⟨_, rfl⟩
  obtain ⟨o', ho'⟩ : ∃ o', o' = o ^^^ y := ⟨_, rfl⟩
  have hx8 : x < 256 := by rw [hx, hT]; exact (tagL_b8 _ _).getD i
  have ho8 : o < 256 := by rw [ho, hO]; exact (ofL_b8 _).getD i
  have hxo1 : bits .xor .u8 (x : Int) (y : Int) = (x' : Int) := by rw [hx']; exact u8_xor_nat _ _ hx8 hy8
  have hxo2 : bits .xor .u8 (o : Int) (y : Int) = (o' : Int) := by rw [ho']; exact u8_xor_nat _ _ ho8 hy8
  have HT2S : Hid (T2 = T.set i x') := Lib.hid (by rw [hT2, flipL, hx', hx])
  have HO2S : Hid (O2 = O.set i o') := Lib.hid (by rw [hO2, flipL, ho', ho])
  have HXD := Lib.hid hx
  have HOD := Lib.hid ho
  have hsz : (str k).size = n := (str_size k).trans hn.symm
  have hsz2 : (str s).size = m := (str_size s).trans hm.symm
  have hn3 : ¬ (100 : Int) < (n : Int) := by omega
  have hm6 : ¬ (300 : Int) < (m : Int) := by omega
  have HT : Hid (∀ X, Gl X → Calls Tryd.prog 10 #[.string (str k), .string (str s)] X fun ex w' => ex = .returned (.agg (arr .u8 T)) ∧ Fr No X w') := Lib.hid (fun X hX => by rw [hT]; exact tag_any k s X (by omega) (by omega) hX)
  have HO : Hid (∀ X, Gl X → Calls Tryd.prog 12 #[.agg (arr .u8 T2)] X fun ex w' => ex = .returned (.agg (arr .u8 O)) ∧ Fr No X w') := Lib.hid (fun X hX => by rw [hO]; exact of_any T2 X hT2L hT28 hX)
  have HR : Hid (∀ X, Gl X → Calls Tryd.prog 11 #[.string (str k), .string (str s), .agg (arr .u8 T2)] X fun ex w' => ex = .returned (.bool false) ∧ Fr No X w') := Lib.hid (fun X hX => by
    have h1 := right_any k s T2 X (by omega) (by omega) hT2L hX
    rwa [← hT, hT2, flipL_ne (by omega) hy0, ← hT2] at h1)
  have HOP : Hid (∀ X, Gl X → Calls Tryd.prog 13 #[.agg (arr .u8 T2), .agg (arr .u8 O2)] X fun ex w' => ex = .returned (.bool false) ∧ Fr No X w') := Lib.hid (fun X hX => by
    have h1 := opens_any T2 O2 X hT2L hT28 hO2L hX
    rwa [← hO, hO2, flipL_ne (by omega) hy0, ← hO2] at h1)
  have hw1 : IntKind.u8.wrap ((a : Int) / 8) = (i : Int) := by rw [IntKind.wrap_u8]; omega
  have hw2 : (a : Int) % 8 = (j : Int) := by omega
  have hsh : (2 : Int) ^ j % 256 = (y : Int) := by
    have h1 : ((2 ^ j : Nat) : Int) = (2 : Int) ^ j := by simp
    rw [← h1, ← hy]
    omega
  have hi32' : (i : Int) < 32 := by omega
  have hj8' : (j : Int) < 8 := by omega
  have HTL := Lib.hid hTL
  have HT2L := Lib.hid hT2L
  have HOL := Lib.hid hOL
  have HO2L := Lib.hid hO2L
  have HI := Lib.hid hi32
  have HY := Lib.hid hy
  have HG := Lib.hid hg
  rw [← ha]
  clear hn hm hT hT2 hO hO2 hTL hT2L hT28 hOL hO2L hx hx' ho ho' hx8 ho8 hk hs hg ha hi hj hy hi32 hj8 hy0
  go_enter Tryd.func5, Tryd.ntmps5
  go_wp2_with fail
  refine (shown3_any _ HG.out).mono ?_
  rintro e w1 ⟨rfl, hF⟩
  have F1 := Lib.hid hF
  clear hF
  go_wp2_with fail
  refine (HT.out _ (HG.out.fr F1.out (fun _ _ => id))).mono ?_
  rintro e w2 ⟨rfl, hF⟩
  have F2 := Lib.hid (F1.out.trans hF)
  clear hF F1
  go_wp2_with (first
    | (refine wpList_store_row rfl 23 _ _ rfl w2.heap.size rfl (arr .u8 T) rfl (Row.new w2 23 .u8 (List.replicate 32 0)) arHash (by rfl) (by rw [arr_size]; exact HTL.out) (arr_one .u8 T) ?_
       refine wpList_world (fun W => Fr No w2 W ∧ Row W w2.heap.size 23 .u8 T) ⟨fr_setRow ((Fr.refl No w2).alloc _) (.inr (Nat.le_refl _)) _, (Row.new w2 23 .u8 (List.replicate 32 0)).setRow⟩ ?_
       rintro w3 ⟨hF3, hR3⟩
       have F3 := Lib.hid hF3
       have T3 := Lib.hid hR3
       have c3 := hR3.cellD (i := i) (by rw [HTL.out]; exact HI.out)
       have f3 := hR3.frozen i
       rw [← HXD.out] at c3
       have T4 : Hid (Row (w3.setCell ⟨w2.heap.size, i, none⟩ (.int .u8 (x' : Int))) w2.heap.size 23 .u8 T2) := Lib.hid (by rw [HT2S.out]; exact T3.out.set i x')
       have F4 : Hid (Fr No w (w3.setCell ⟨w2.heap.size, i, none⟩ (.int .u8 (x' : Int)))) := Lib.hid (F2.out.trans ((Fr.refl No w2).trans' (hF3.trans' ((Fr.refl (fun k => k = w2.heap.size) w3).setCell (p := ⟨w2.heap.size, i, none⟩) (.inl rfl) (.int .u8 (x' : Int))) (fun k hk e => Nat.lt_irrefl _ (e ▸ hk))) (fun _ _ h => h)))
       have L4 := Lib.hid (T4.out.load arHash HT2L.out)
       clear hF3 hR3)
    | (refine wpList_load_eq rfl 23 _ rfl (.pointer (some ⟨w2.heap.size, 0, none⟩)) (.agg (arr .u8 T2)) rfl L4.out ?_))
  obtain ⟨w4, hw4⟩ : ∃ W, W = w3.setCell ⟨w2.heap.size, i, none⟩ (.int .u8 (x' : Int)) := ⟨_, rfl⟩
  obtain ⟨bt, hbt⟩ : ∃ b, b = w2.heap.size := ⟨_, rfl⟩
  rw [← hw4] at T4 F4
  rw [← hbt] at T4
  rw [← hw4, ← hbt]
  clear hw4 hbt T3 F3 F2 L4 c3 f3
  refine (HO.out _ (HG.out.fr F4.out (fun _ _ => id))).mono ?_
  rintro e w5 ⟨rfl, hF⟩
  have F5 := Lib.hid (F4.out.trans hF)
  have T5 := Lib.hid (T4.out.fr hF id)
  clear hF T4 F4
  go_wp2_with (first
    | (refine wpList_store_row rfl 23 _ _ rfl w5.heap.size rfl (arr .u8 O) rfl (Row.new w5 23 .u8 (List.replicate 32 0)) arHash (by rfl) (by rw [arr_size]; exact HOL.out) (arr_one .u8 O) ?_
       refine wpList_world (fun W => Fr No w5 W ∧ Row W w5.heap.size 23 .u8 O) ⟨fr_setRow ((Fr.refl No w5).alloc _) (.inr (Nat.le_refl _)) _, (Row.new w5 23 .u8 (List.replicate 32 0)).setRow⟩ ?_
       rintro w6 ⟨hF6, hR6⟩
       have c6 := hR6.cellD (i := i) (by rw [HOL.out]; exact HI.out)
       have f6 := hR6.frozen i
       rw [← HOD.out] at c6
       have O7 : Hid (Row (w6.setCell ⟨w5.heap.size, i, none⟩ (.int .u8 (o' : Int))) w5.heap.size 23 .u8 O2) := Lib.hid (by rw [HO2S.out]; exact hR6.set i o')
       have F56 : Hid (Fr No w5 (w6.setCell ⟨w5.heap.size, i, none⟩ (.int .u8 (o' : Int)))) := Lib.hid (hF6.trans' ((Fr.refl (fun k => k = w5.heap.size) w6).setCell (p := ⟨w5.heap.size, i, none⟩) (.inl rfl) (.int .u8 (o' : Int))) (fun k hk e => Nat.lt_irrefl _ (e ▸ hk)))
       have F7 := Lib.hid (F5.out.trans F56.out)
       have T7 := Lib.hid (T5.out.fr F56.out id)
       have L7 := Lib.hid (T7.out.load arHash HT2L.out)
       clear hF6 hR6)
    | (refine wpList_load_eq rfl 23 _ rfl (.pointer (some ⟨bt, 0, none⟩)) (.agg (arr .u8 T2)) rfl L7.out ?_))
  obtain ⟨w7, hw7⟩ : ∃ W, W = w6.setCell ⟨w5.heap.size, i, none⟩ (.int .u8 (o' : Int)) := ⟨_, rfl⟩
  obtain ⟨bo, hbo⟩ : ∃ b, b = w5.heap.size := ⟨_, rfl⟩
  rw [← hw7] at O7 F7 T7
  rw [← hbo] at O7
  rw [← hw7, ← hbo]
  clear hw7 hbo F5 T5 L7 F56 c6 f6
  refine (HR.out _ (HG.out.fr F7.out (fun _ _ => id))).mono ?_
  rintro e w8 ⟨rfl, hF⟩
  have F8 := Lib.hid (F7.out.trans hF)
  have L8 := Lib.hid ((T7.out.fr hF id).load arHash HT2L.out)
  have M8 := Lib.hid ((O7.out.fr hF id).load arHash HO2L.out)
  clear hF T7 O7 F7
  go_wp2_with (first
    | (refine wpList_load_eqG 23 _ rfl (.pointer (some ⟨bt, 0, none⟩)) (.agg (arr .u8 T2)) rfl L8.out rfl ?_)
    | (refine wpList_load_eqG 23 _ rfl (.pointer (some ⟨bo, 0, none⟩)) (.agg (arr .u8 O2)) rfl M8.out rfl ?_))
  refine (HOP.out _ (HG.out.fr F8.out (fun _ _ => id))).mono ?_
  rintro e w9 ⟨rfl, hF⟩
  have F9 := Lib.hid (F8.out.trans hF)
  clear hF
  go_wp2
  go_ret
  exact ⟨rfl, F9.out⟩

theorem turned_walk (k s : ByteArray) (z : UInt8) (w : World) (hk : k.size ≤ maxLen) (hs : s.size ≤ maxLen) (hg : Gl w) :
    Calls Tryd.prog 5 #[.string k, .string s, .int .u8 (z.toNat : Int)] w fun e w' => e = .returned (.bool true) ∧ Fr No w w' := by
  have e1 : k = str k.data.toList := by apply ByteArray.ext; simp [str]
  have e2 : s = str s.data.toList := by apply ByteArray.ext; simp [str]
  have l1 : k.data.toList.length = k.size := rfl
  have l2 : s.data.toList.length = s.size := rfl
  rw [e1, e2]
  by_cases h2 : k.size ≤ 100 ∧ s.size ≤ 300
  · exact turned_ok _ _ z _ (by omega) (by omega) hg
  · exact turned_big _ _ z _ (by omega) (by omega) (by omega) hg

theorem turned_walk' (k s : ByteArray) (z : Nat) (w : World) (hk : k.size ≤ maxLen) (hs : s.size ≤ maxLen) (hz : (z : Int) ≤ 255) (hg : Gl w) :
    Calls Tryd.prog 5 #[.string k, .string s, .int .u8 (z : Int)] w fun e w' => e = .returned (.bool true) ∧ Fr No w w' := by
  have h := turned_walk k s (UInt8.ofNat z) w hk hs hg
  rwa [show ((UInt8.ofNat z).toNat : Int) = (z : Int) by simp; omega] at h
end Go.Proofs.YtdemmillejgpoaaDoor
