/- DigestPads walked. -/
import Derived.Test.YthanfcmpaofggaaDoorDigG
namespace Go.Proofs.YthanfcmpaofggaaDoor
open Go.RowKit
set_option linter.unusedVariables false

set_option maxHeartbeats 400000 in
theorem pads_big (s : List UInt8) (w : World) (hs : 600 < s.length) (hm : s.length ≤ maxLen) (hg : Gl w) :
    Calls Tryd.prog 6 #[.string (str s)] w fun e w' => e = .returned (.bool true) ∧ Fr No w w' := by
  unfold maxLen at hm
  have hsz := str_size s
  have h1 : (600 : Int) < s.length := by omega
  have HG := Lib.hid hg
  clear hg
  go_enter Tryd.func6, Tryd.ntmps6
  go_wp2_with fail
  refine (shown_any _ HG.out).mono ?_
  rintro e w1 ⟨rfl, hF⟩
  have HF := Lib.hid hF
  clear hF
  go_wp2
  go_ret
  exact ⟨rfl, HF.out⟩

theorem last_byte (n : Nat) : (padL n).getD ((padL n).length - 1) 0 = UInt8.ofNat (8 * n % 256) := by
  have e : padL n = (128 :: (List.replicate ((119 - n % 64) % 64) 0 ++ (List.range 7).map (fun j => UInt8.ofNat (8 * n / 2 ^ (8 * (7 - j)) % 256)))) ++ [UInt8.ofNat (8 * n % 256)] := by
    simp only [padL, List.cons_append, List.append_assoc]
    congr 2
    simp [List.range_succ_eq_map]
  rw [e, List.length_append, List.getD_eq_getElem?_getD]
  simp

set_option maxHeartbeats 1000000 in
theorem pads_ok (s : List UInt8) (w : World) (hs : s.length ≤ 600) (hg : Gl w) :
    Calls Tryd.prog 6 #[.string (str s)] w fun e w' => e = .returned (.bool true) ∧ Fr No w w' := by
  obtain ⟨P, hP⟩ : ∃ P, P = padded s := ⟨_, rfl⟩
  obtain ⟨L, hL⟩ : ∃ L, L = P.length := ⟨_, rfl⟩
  obtain ⟨n, hn⟩ : ∃ n, n = s.length := ⟨_, rfl⟩
  obtain ⟨j, hj⟩ : ∃ j, j = L - 1 := ⟨_, rfl⟩
  obtain ⟨b, hb⟩ : ∃ b, b = UInt8.ofNat (8 * n % 256) := ⟨_, rfl⟩
  have hl := padded_len s
  rw [← hP, ← hL, ← hn] at hl
  have hsz : (str s).size = n := by rw [str_size, hn]
  have hszP : (str P).size = L := by rw [str_size, hL]
  have h1 : ¬ (600 : Int) < (n : Int) := by omega
  have hn6 : (n : Int) ≤ 600 := by omega
  have hL7 : (L : Int) ≤ 700 := by omega
  have e1 : (L : Int) % 64 = 0 := by omega
  have e2 : (n : Int) + 9 ≤ (L : Int) := by omega
  have e3 : (L : Int) < (n : Int) + 9 + 64 := by omega
  have e4 : (L : Int) - 1 = (j : Int) := by omega
  have e5 : (n : Int) < (L : Int) := by omega
  have e6 : (j : Int) < (L : Int) := by omega
  have hex : (str P).extract 0 n = str s := by rw [str_extract, hP, hn]; simp [padded]
  have heq : ((str s).toList == (str s).toList) = true := by simp
  have hg1 : ∀ h : n < (str P).size, (str P)[n]'h = 128 := fun h => by
    rw [str_get, hP, hn, padded, List.getD_eq_getElem?_getD, List.getElem?_append_right (Nat.le_refl _)]
    simp [padL]
  have hg2 : ∀ h : j < (str P).size, (str P)[j]'h = b := fun h => by
    rw [str_get, hb, hn, ← last_byte s.length, hP, padded, List.getD_eq_getElem?_getD, List.getElem?_append_right (by rw [← hn]; omega), ← List.getD_eq_getElem?_getD]
    congr 1
    rw [hj, hL, hP, padded, List.length_append]
    have := padL_len s.length
    omega
  have hbv : (b.toNat : Int) = (n : Int) * 8 % 256 := by rw [hb]; simp; omega
  have HP : Hid (P = padded s) := Lib.hid hP
  have HS := Lib.hid hs
  have HG := Lib.hid hg
  clear hP hL hn hj hb hl hs hg
  go_enter Tryd.func6, Tryd.ntmps6
  go_wp2_with fail
  refine (shown_any _ HG.out).mono ?_
  rintro e w1 ⟨rfl, hF⟩
  have HF := Lib.hid hF
  clear hF
  go_wp2_with fail
  have hpa := fun X => pad_any s X (by have := HS.out; omega)
  rw [← HP.out] at hpa
  refine (hpa w1).mono ?_
  rintro e w2 ⟨rfl, hF2⟩
  have HF2 := Lib.hid (HF.out.trans hF2)
  clear hF2 hpa
  go_wp2
  go_ret
  exact ⟨rfl, HF2.out⟩

theorem pads_walk (s : ByteArray) (w : World) (hm : s.size ≤ maxLen) (hg : Gl w) :
    Calls Tryd.prog 6 #[.string s] w fun e w' => e = .returned (.bool true) ∧ Fr No w w' := by
  have e : s = str s.data.toList := by apply ByteArray.ext; simp [str]
  have hl : s.data.toList.length = s.size := rfl
  rw [e]
  by_cases h : s.size ≤ 600
  · exact pads_ok _ _ (by omega) hg
  · exact pads_big _ _ (by omega) (by omega) hg
end Go.Proofs.YthanfcmpaofggaaDoor
