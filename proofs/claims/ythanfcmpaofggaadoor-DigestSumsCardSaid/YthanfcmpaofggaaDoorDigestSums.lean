/- DigestSums walked. -/
import Derived.Test.YthanfcmpaofggaaDoorRefS
import Derived.Test.YthanfcmpaofggaaDoorRefE
namespace Go.Proofs.YthanfcmpaofggaaDoor
open Go.RowKit
set_option linter.unusedVariables false

set_option maxHeartbeats 400000 in
theorem sums_big (s : List UInt8) (w : World) (hs : 600 < s.length) (hm : s.length ≤ maxLen) (hg : Gl w) :
    Calls Tryd.prog 3 #[.string (str s)] w fun e w' => e = .returned (.bool true) ∧ Fr No w w' := by
  unfold maxLen at hm
  have hsz := str_size s
  have h1 : (600 : Int) < s.length := by omega
  have HG := Lib.hid hg
  clear hg
  go_enter Tryd.func3, Tryd.ntmps3
  go_wp2_with fail
  refine (shown_any _ HG.out).mono ?_
  rintro e w1 ⟨rfl, hF⟩
  have HF := Lib.hid hF
  clear hF
  go_wp2
  go_ret
  exact ⟨rfl, HF.out⟩

set_option maxHeartbeats 1000000 in
set_option maxRecDepth 100000 in
theorem sums_ok (s : List UInt8) (w : World) (hs : s.length ≤ 600) (hg : Gl w) :
    Calls Tryd.prog 3 #[.string (str s)] w fun e w' => e = .returned (.bool true) ∧ Fr No w w' := by
  obtain ⟨n, hn⟩ : ∃ n, n = s.length := ⟨_, rfl⟩
  obtain ⟨D, hD⟩ : ∃ D, D = sumL s := ⟨_, rfl⟩
  obtain ⟨T, hT⟩ : ∃ T, T = str (padded s) := ⟨_, rfl⟩
  have hsz : (str s).size = n := by rw [str_size, hn]
  have h1 : ¬ (600 : Int) < (n : Int) := by omega
  have hn6 : (n : Int) ≤ 600 := by omega
  have hDL : D.length = 32 := by rw [hD]; exact hashL_len _ _
  have heq := fun X => eql_h32 D hDL X
  have heqT : (T.toList == T.toList) = true := by simp
  have s1 := fun X hg => sum_any s X (by omega) hg
  have s2 := fun X => rsum_any s X (by omega)
  have s3 := fun X => pad_any s X (by omega)
  have s4 := fun X => rpad_any s X (by omega)
  rw [← hD] at s1 s2
  rw [← hT] at s3 s4
  have S1 := Lib.hid s1
  have S2 := Lib.hid s2
  have S3 := Lib.hid s3
  have S4 := Lib.hid s4
  have HG := Lib.hid hg
  clear hn hD hT hDL s1 s2 s3 s4 hs hg
  go_enter Tryd.func3, Tryd.ntmps3
  go_wp2_with fail
  refine (shown_any _ HG.out).mono ?_
  rintro e w1 ⟨rfl, hF⟩
  have HF1 := Lib.hid hF
  clear hF
  go_wp2_with fail
  refine (S1.out w1 (HG.out.fr HF1.out (fun _ _ => id))).mono ?_
  rintro e w2 ⟨rfl, hF⟩
  have HF2 := Lib.hid (HF1.out.trans hF)
  clear hF HF1
  go_wp2_with fail
  refine (S2.out w2).mono ?_
  rintro e w3 ⟨rfl, hF⟩
  have HF3 := Lib.hid (HF2.out.trans hF)
  clear hF HF2
  go_wp2_with fail
  refine (S3.out w3).mono ?_
  rintro e w4 ⟨rfl, hF⟩
  have HF4 := Lib.hid (HF3.out.trans hF)
  clear hF HF3
  go_wp2_with fail
  refine (S4.out w4).mono ?_
  rintro e w5 ⟨rfl, hF⟩
  have HF5 := Lib.hid (HF4.out.trans hF)
  clear hF HF4
  go_wp2
  go_ret
  exact ⟨rfl, HF5.out⟩

theorem sums_walk (s : ByteArray) (w : World) (hm : s.size ≤ maxLen) (hg : Gl w) :
    Calls Tryd.prog 3 #[.string s] w fun e w' => e = .returned (.bool true) ∧ Fr No w w' := by
  have e : s = str s.data.toList := by apply ByteArray.ext; simp [str]
  have hl : s.data.toList.length = s.size := rfl
  rw [e]
  by_cases h : s.size ≤ 600
  · exact sums_ok _ _ (by omega) hg
  · exact sums_big _ _ (by omega) (by omega) hg
end Go.Proofs.YthanfcmpaofggaaDoor
