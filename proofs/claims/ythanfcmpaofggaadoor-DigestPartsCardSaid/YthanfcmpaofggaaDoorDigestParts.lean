/- DigestParts walked. -/
import Derived.Test.YthanfcmpaofggaaDoorDigJ
import Derived.Test.YthanfcmpaofggaaDoorRefS
import Derived.Test.YthanfcmpaofggaaDoorRefE
namespace Go.Proofs.YthanfcmpaofggaaDoor
open Go.RowKit
set_option linter.unusedVariables false

theorem Fr.cellA {S : Nat → Prop} {w w' : World} (h : Fr S w w') {a : Addr} {v : Value} (hn : ¬ S a.block) (hc : w.cell? a = some v) : w'.cell? a = some v :=
  (World.cell?_of_block (h.block a.block (World.block_lt_of_cell? w a hc) hn)).trans hc

set_option maxHeartbeats 400000 in
theorem parts_big (ao : Option Addr) (n cap : Nat) (w : World) (hn : 30 < n) (hm : n ≤ maxLen) (hg : Gl w) :
    Calls Tryd.prog 5 #[.slice ao n cap] w fun e w' => e = .returned (.bool true) ∧ Fr No w w' := by
  unfold maxLen at hm
  have h1 : (30 : Int) < n := by omega
  have HG := Lib.hid hg
  clear hg
  go_enter Tryd.func5, Tryd.ntmps5
  go_wp2_with fail
  refine (shown_any _ HG.out).mono ?_
  rintro e w1 ⟨rfl, hF⟩
  have HF := Lib.hid hF
  clear hF
  go_wp2
  go_ret
  exact ⟨rfl, HF.out⟩

theorem stnew (w : World) : St (w.alloc (.cells #[.int .u32 0, .int .u32 0, .int .u32 0, .int .u32 0, .int .u32 0, .int .u32 0, .int .u32 0, .int .u32 0, .string ⟨#[]⟩, .int .u64 0] 42)) w.heap.size (List.replicate 8 0) [] 0 := by
  have hn := heap_alloc_new w (.cells #[.int .u32 0, .int .u32 0, .int .u32 0, .int .u32 0, .int .u32 0, .int .u32 0, .int .u32 0, .int .u32 0, .string ⟨#[]⟩, .int .u64 0] 42)
  refine ⟨fun j v hv => ?_, rfl, ?_, ?_, fun j => ?_⟩
  · rw [cell_of_row _ _ _ _ _ _ hn, Nat.zero_add, ← hv]
    have hj : j < 8 := by have := (List.getElem?_eq_some_iff.1 hv).1; simpa using this
    match j, hj with
    | 0, _ => rfl
    | 1, _ => rfl
    | 2, _ => rfl
    | 3, _ => rfl
    | 4, _ => rfl
    | 5, _ => rfl
    | 6, _ => rfl
    | 7, _ => rfl
  · rw [cell_of_row _ _ _ _ _ _ hn]; rfl
  · rw [cell_of_row _ _ _ _ _ _ hn]; rfl
  · unfold World.frozen?
    rw [show (w.alloc _).heap[(⟨w.heap.size, j, none⟩ : Addr).block]? = _ from hn]
    simp

set_option maxHeartbeats 2000000 in
set_option maxRecDepth 100000 in
theorem parts_ok (ao : Option Addr) (n cap : Nat) (ss : Nat → List UInt8) (w : World) (hn : n ≤ 30) (hel : ∀ i, i < n → ∃ a, ao = some a ∧ w.cell? (a.add i) = some (.string (str (ss i))) ∧ (ss i).length ≤ maxLen) (hg : Gl w) :
    Calls Tryd.prog 5 #[.slice ao n cap] w fun e w' => e = .returned (.bool true) ∧ Fr No w w' := by
  have h1 : ¬ (30 : Int) < n := by omega
  have hn30 : (n : Int) ≤ 30 := by omega
  have HG := Lib.hid hg
  have HE := Lib.hid hel
  have HNN := Lib.hid hn
  clear hg hel hn
  go_enter Tryd.func5, Tryd.ntmps5
  go_wp2_with fail
  refine (shown_any _ HG.out).mono ?_
  rintro e w1 ⟨rfl, hF⟩
  have HF1 := Lib.hid hF
  clear hF
  go_wp2
  refine wp_world (fun W => Fr No w W ∧ SI W w1.heap.size []) ⟨HF1.out.alloc _, by simp, List.replicate 8 0, fun h => absurd rfl h, by unfold Ws; decide, stnew w1⟩ ?_
  rintro w2 ⟨hF2, hS2⟩
  have HF2 := Lib.hid hF2
  have HS2 := Lib.hid hS2
  obtain ⟨b, hb⟩ : ∃ b, b = w1.heap.size := ⟨_, rfl⟩
  rw [← hb] at HS2 ⊢
  have HB : Hid (2 ≤ b ∧ w.heap.size ≤ b) := Lib.hid (by have := HG.out.two; have := HF1.out.size; omega)
  clear hF2 hS2 hb HF1
  go_loopw [4, 5] (fun s c wr => ∃ (i : Nat) (A : List UInt8), i ≤ n ∧ c = .int .i64 i ∧ s = .string (str A) ∧ A.length ≤ 200 * i ∧ SI wr b A ∧ Fr No w wr) (fun _ c _ => n - (intOf c).toNat)
  case atStart => exact ⟨0, [], by omega, rfl, rfl, by simp, HS2.out, HF2.out⟩
  clear HF2 HS2
  case round =>
    obtain ⟨i, A, hi, rfl, rfl, hA, hS, hF⟩ := hrel
    by_cases hlt : i < n
    · have hlt2 : (i : Int) < n := by omega
      obtain ⟨a, rfl, hca, hsl⟩ := HE.out i hlt
      obtain ⟨q, hq⟩ : ∃ q, q = a.add i := ⟨_, rfl⟩
      rw [← hq] at hca
      obtain ⟨si, hsi⟩ : ∃ si, si = ss i := ⟨_, rfl⟩
      rw [← hsi] at hca hsl
      have hq' : a.add i = q := hq.symm
      have hsz := str_size si
      have cq := hF.cellA id hca
      have HCA := Lib.hid hca
      have HS := Lib.hid hS
      have HF := Lib.hid hF
      have HAL := Lib.hid hA
      unfold maxLen at hsl
      clear hS hF hA hq hsi hca
      by_cases hbig : 200 < si.length
      · have hbig2 : (200 : Int) < si.length := by omega
        go_wp2_with fail
        refine (shown_any _ (HG.out.fr HF.out (fun _ _ => id))).mono ?_
        rintro e w3 ⟨rfl, hF3⟩
        have HF3 := Lib.hid (HF.out.trans hF3)
        clear hF3
        go_wp2
        go_ret
        exact ⟨rfl, HF3.out⟩
      · have hbig2 : ¬ (200 : Int) < si.length := by omega
        have hAl := HAL.out
        have hnn := HNN.out
        have hno : ¬ 9223372036854775807 < A.length + si.length := by omega
        have hszA := str_size A
        have hAl7 : (A.length : Int) ≤ 6000 := by omega
        have hsl2 : (si.length : Int) ≤ 200 := by omega
        have hsl3 : (str si).size ≤ 200 := by rw [hsz]; omega
        have hcat : str A ++ str si = str (A ++ si) := str_append _ _
        have HBB := HB.out
        have hwr := write_any b A si wr HS.out (HG.out.fr HF.out (fun _ _ => id)) HBB.1 (by omega)
        have HWR := Lib.hid hwr
        have HLN : Hid ((A ++ si).length ≤ 200 * (i + 1) ∧ (A ++ si).length ≤ 6200) := Lib.hid (by rw [List.length_append]; omega)
        clear hAl hnn HBB hwr
        go_wp2_with fail
        refine HWR.out.mono ?_
        rintro e w3 ⟨rfl, hS3, hF3⟩
        have HS3 := Lib.hid hS3
        have HF3 : Hid (Fr No w w3) := Lib.hid (HF.out.trans' hF3 (fun k hk e => by have := HB.out; omega))
        clear hF3 hS3 cq
        have cq := HF3.out.cellA id HCA.out
        by_cases h3 : i % 3 = 0
        · have hmod : ((i : Int) % 3 == 0) = true := by
            have : (i : Int) % 3 = 0 := by omega
            simpa using this
          obtain ⟨D, hD⟩ : ∃ D, D = sumL (A ++ si) := ⟨_, rfl⟩
          have hDL : D.length = 32 := by rw [hD]; exact hashL_len _ _
          have hneq := fun X => neq_h32 D hDL X
          have s1 := ssum_any b (A ++ si) w3 HS3.out (HG.out.fr HF3.out (fun _ _ => id))
          have s2 := fun X hg => sum_any (A ++ si) X (by have := HLN.out; omega) hg
          rw [← hD] at s1 s2
          have S1 := Lib.hid s1
          have S2 := Lib.hid s2
          clear hD hDL s1 s2
          go_wp2_with fail
          refine S1.out.mono ?_
          rintro e w4 ⟨rfl, hF4⟩
          have HF4 := Lib.hid (HF3.out.trans hF4)
          have HS4 := Lib.hid (HS3.out.fr (S := No) hF4 id)
          clear hF4
          go_wp2_with fail
          refine (S2.out w4 (HG.out.fr HF4.out (fun _ _ => id))).mono ?_
          rintro e w5 ⟨rfl, hF5⟩
          have HF5 := Lib.hid (HF4.out.trans hF5)
          have HS5 := Lib.hid (HS4.out.fr (S := No) hF5 id)
          clear hF5
          go_wp2
          exact ⟨⟨i + 1, A ++ si, by omega, by simp, rfl, HLN.out.1, HS5.out, HF5.out⟩, by simp [intOf]; omega⟩
        · have hmod : ((i : Int) % 3 == 0) = false := by
            have : (i : Int) % 3 ≠ 0 := by omega
            simpa using this
          go_wp2
          exact ⟨⟨i + 1, A ++ si, by omega, by simp, rfl, HLN.out.1, HS3.out, HF3.out⟩, by simp [intOf]; omega⟩
    · have hge : ¬ (i : Int) < n := by omega
      have hnn := HNN.out
      obtain ⟨D, hD⟩ : ∃ D, D = sumL A := ⟨_, rfl⟩
      have hDL : D.length = 32 := by rw [hD]; exact hashL_len _ _
      have heq := fun X => eql_h32 D hDL X
      have s1 := fun X hS hg => ssum_any b A X hS hg
      have s2 := fun X hg => sum_any A X (by omega) hg
      have s3 := fun X => rsum_any A X (by omega)
      rw [← hD] at s1 s2 s3
      have S1 := Lib.hid s1
      have S2 := Lib.hid s2
      have S3 := Lib.hid s3
      have HS := Lib.hid hS
      have HF := Lib.hid hF
      clear hD hDL s1 s2 s3 hS hF hnn
      go_wp2_with fail
      refine (S1.out wr HS.out (HG.out.fr HF.out (fun _ _ => id))).mono ?_
      rintro e w4 ⟨rfl, hF4⟩
      have HF4 := Lib.hid (HF.out.trans hF4)
      have HS4 := Lib.hid (HS.out.fr (S := No) hF4 id)
      clear hF4
      go_wp2_with fail
      refine (S3.out w4).mono ?_
      rintro e w5 ⟨rfl, hF5⟩
      have HF5 := Lib.hid (HF4.out.trans hF5)
      have HS5 := Lib.hid (HS4.out.fr (S := No) hF5 id)
      clear hF5
      go_wp2_with fail
      refine (S1.out w5 HS5.out (HG.out.fr HF5.out (fun _ _ => id))).mono ?_
      rintro e w6 ⟨rfl, hF6⟩
      have HF6 := Lib.hid (HF5.out.trans hF6)
      clear hF6
      go_wp2_with fail
      refine (S2.out w6 (HG.out.fr HF6.out (fun _ _ => id))).mono ?_
      rintro e w7 ⟨rfl, hF7⟩
      have HF7 := Lib.hid (HF6.out.trans hF7)
      clear hF7
      go_wp2
      go_ret
      exact ⟨rfl, HF7.out⟩
end Go.Proofs.YthanfcmpaofggaaDoor
