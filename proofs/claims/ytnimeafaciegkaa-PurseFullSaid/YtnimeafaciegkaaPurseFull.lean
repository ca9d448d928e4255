/- The walk of 'PurseFull'. -/
import Derived.Test.YtnimeafaciegkaaPuL
namespace Go.Proofs.Ytnimeafaciegkaa
open Go.RowKit
set_option linter.unusedVariables false
set_option maxRecDepth 100000

/-- Behind i reservations of 1. -/
def stF : Nat → Ps
  | 0 => Ps.newS [100, 0]
  | i + 1 => (stF i).resS 0 1
theorem stF_res : ∀ i, i < 40 → (stF i).resE 0 1 = (if i < 32 then 0 else 2) ∧ (i < 32 → (stF i).resI 0 1 = i) := by decide +kernel
theorem stF_held : ∀ i, i < 40 → (stF i).heldV 0 = (if 32 < i then 32 else i) ∧ (stF i).noneE 0 = 0 := by decide +kernel
theorem stF_rel : ∀ i, i < 40 → ∀ k, k < (if 32 < i then 32 else i) → (stF i).relE (k : Int) = 0 ∧ ((stF i).relS (k : Int)).resE 0 2 = 0 ∧ ((stF i).relS (k : Int)).resI 0 2 = k := by decide +kernel
theorem stF_none : (stF 0).relE 0 = 1 := by decide

set_option maxHeartbeats 4000000 in
theorem full_walk (n m : Nat) (w : World) (hn : n < 256) (hm : m < 256) : Calls Try.prog 6 #[.int .u8 (n : Int), .int .u8 (m : Int)] w fun e w' => e = .returned (.bool true) ∧ Fr No w w' := by
  obtain ⟨w0, hw0⟩ : ∃ X, X = w.alloc (.cells #[.int .u64 ((100 : Nat) : Int), .int .u64 ((0 : Nat) : Int)] 27) := ⟨_, rfl⟩
  have HF0 : Hid (Fr No w w0) := Lib.hid (by rw [hw0]; exact (Fr.refl _ _).alloc _)
  have HN := Lib.hid (pu_new (some ⟨w.heap.size, 0, none⟩) 2 2 [100, 0] w0 rfl (by unfold maxLen; omega) (by rw [hw0]; exact nums_two w 100 0 (by omega) (by omega)) true (by decide))
  have hw0' : w.alloc (.cells #[.int .u64 100, .int .u64 0] 27) = w0 := hw0.symm
  obtain ⟨M, hM⟩ : ∃ M, M = n % 40 := ⟨_, rfl⟩
  have hM40 : M < 40 := by omega
  have HM := Lib.hid hM40
  have wx : IntKind.i64.wrap (n : Int) = (n : Int) := IntWalk.i64_in _ (by omega)
  have wM : IntKind.i64.wrap (M : Int) = (M : Int) := IntWalk.i64_in _ (by omega)
  have r1 : (n : Int).tmod 40 = (M : Int) := by rw [hM, Int.tmod_eq_emod_of_nonneg (by omega)]; omega
  have r2 : (n : Int) % 40 = (M : Int) := by omega
  clear hw0 hM40 hM
  go_enter Try.func6, Try.ntmps6
  go_wp2_with fail
  refine HN.out.mono ?_
  rintro e w1 ⟨hF1, p, rfl, hP1⟩
  have HF1 := Lib.hid (HF0.out.trans hF1)
  have HB : Hid (w.heap.size ≤ w0.heap.size) := Lib.hid HF0.out.size
  have HP1 := Lib.hid hP1
  clear hF1 hP1 HN
  obtain ⟨B, hB⟩ : ∃ B, B = w0.heap.size := ⟨_, rfl⟩
  obtain ⟨T, hT⟩ : ∃ T, T = w1.heap.size := ⟨_, rfl⟩
  rw [← hB] at HB HP1
  rw [← hT] at HP1
  clear hB hT
  go_wp2_with fail
  refine (shown9_any _).mono ?_
  rintro e w2 ⟨rfl, hF2⟩
  have HF2 := Lib.hid (HF1.out.trans hF2)
  have HP2 := Lib.hid (HP1.out.no hF2)
  clear hF2
  go_wp2_with fail
  go_loopw [7] (fun c wr => ∃ i : Nat, i ≤ M ∧ c = .int .i64 i ∧ Pu B T p (stF i) wr ∧ Fr No w wr) (fun c _ => M - (intOf c).toNat)
  case atStart => exact ⟨0, by omega, rfl, HP2.out, HF2.out⟩
  case round =>
    obtain ⟨i, hi, rfl, hP, hF⟩ := hrel
    have HP := Lib.hid hP
    have HF := Lib.hid hF
    clear hP hF
    by_cases hlt : i < M
    · have t1 : (i : Int) < (M : Int) := by omega
      have hi40 : i < 40 := by have := HM.out; omega
      obtain ⟨k1, hk1⟩ : ∃ k, k = i + 1 := ⟨_, rfl⟩
      have HK : Hid (k1 = i + 1 ∧ k1 ≤ M) := Lib.hid ⟨hk1, by omega⟩
      have s1 : (i : Int) + 1 = (k1 : Int) := by omega
      have l1 : IntKind.i64.wrap (k1 : Int) = (k1 : Int) := IntWalk.i64_in _ (by omega)
      have HR := Lib.hid (fun X (hX : Pu B T p (stF i) X) => pu_reserve hX 0 1)
      rw [show (stF i).resS 0 1 = stF k1 by rw [hk1]; rfl] at HR
      obtain ⟨q1, q2⟩ := stF_res i hi40
      by_cases h32 : i < 32
      · have t2 : ¬ (32 : Int) ≤ (i : Int) := by omega
        have t3 : (i : Int) < 32 := by omega
        rw [q1, q2 h32, if_pos h32] at HR
        clear hlt hi hi40 hk1 q1 q2 h32
        go_wp2_with fail
        refine (HR.out _ HP.out).mono ?_
        rintro e w3 ⟨rfl, hP3, hF3⟩
        have HP3 := Lib.hid hP3
        have HF3 := Lib.hid (btw_no HF.out hF3 HB.out)
        clear hP3 hF3
        go_wp2
        exact ⟨⟨k1, HK.out.2, rfl, HP3.out, HF3.out⟩, by have := HK.out; simp [intOf]; omega⟩
      · have t2 : (32 : Int) ≤ (i : Int) := by omega
        have t3 : ¬ (i : Int) < 32 := by omega
        rw [q1, if_neg h32] at HR
        obtain ⟨I, hI⟩ : ∃ I, I = (stF i).resI 0 1 := ⟨_, rfl⟩
        rw [← hI] at HR
        clear hlt hi hi40 hk1 q1 q2 h32 hI
        go_wp2_with fail
        refine (HR.out _ HP.out).mono ?_
        rintro e w3 ⟨rfl, hP3, hF3⟩
        have HP3 := Lib.hid hP3
        have HF3 := Lib.hid (btw_no HF.out hF3 HB.out)
        clear hP3 hF3
        go_wp2
        exact ⟨⟨k1, HK.out.2, rfl, HP3.out, HF3.out⟩, by have := HK.out; simp [intOf]; omega⟩
    · have t1 : ¬ (i : Int) < (M : Int) := by omega
      obtain rfl : i = M := by omega
      obtain ⟨H, hH⟩ : ∃ H : Nat, H = if 32 < i then 32 else i := ⟨_, rfl⟩
      have HH := Lib.hid (fun X (hX : Pu B T p (stF i) X) => pu_held hX 0)
      rw [(stF_held i HM.out).1, (stF_held i HM.out).2, ← hH] at HH
      have m1 : (if (32 : Int) < (i : Int) then (32 : Int) else (i : Int)) = (H : Int) := by rw [hH]; split <;> split <;> omega
      have m2 : (if 32 < i then 32 else i) = H := hH.symm
      have hH32 : H ≤ 32 := by rw [hH]; split <;> omega
      have wH : IntKind.i64.wrap (H : Int) = (H : Int) := IntWalk.i64_in _ (by omega)
      have HHH := Lib.hid hH
      by_cases h0 : H = 0
      · have hi0 : i = 0 := by rw [hH] at h0; split at h0 <;> omega
        have t5 : ((H : Int) == 0) = true := by rw [h0]; rfl
        have HRL := Lib.hid (fun X (hX : Pu B T p (stF i) X) => pu_release hX 0 (by decide))
        rw [show (stF i).relE 0 = 1 by rw [hi0]; exact stF_none] at HRL
        clear hlt hi hH hH32 h0 hi0
        go_wp2_with fail
        refine (HH.out _ HP.out).mono ?_
        rintro e w3 ⟨rfl, hF3⟩
        have HP3 := Lib.hid (HP.out.no hF3)
        have HF3 := Lib.hid (HF.out.trans hF3)
        clear hF3
        go_wp2_with fail
        refine (HRL.out _ HP3.out).mono ?_
        rintro e w4 ⟨rfl, hP4, hF4⟩
        have HF4 := Lib.hid (btw_no HF3.out hF4 HB.out)
        clear hP4 hF4
        go_wp2
        go_ret
        exact ⟨rfl, HF4.out⟩
      · have t5 : ((H : Int) == 0) = false := by rw [beq_eq_false_iff_ne]; omega
        have t6 : ¬ (H : Int) = 0 := by omega
        obtain ⟨k, hk⟩ : ∃ k, k = m % H := ⟨_, rfl⟩
        have hkH : k < H := by rw [hk]; exact Nat.mod_lt _ (by omega)
        have wm : IntKind.i64.wrap (m : Int) = (m : Int) := IntWalk.i64_in _ (by omega)
        have wk : IntKind.i64.wrap (k : Int) = (k : Int) := IntWalk.i64_in _ (by omega)
        have wu : IntKind.u64.wrap (H : Int) = (H : Int) := wrapU H (by omega)
        have r4 : (m : Int) % (H : Int) = (k : Int) := by rw [hk]; rfl
        have r3 : (m : Int).tmod (H : Int) = (k : Int) := by rw [Int.tmod_eq_emod_of_nonneg (by omega)]; exact r4
        obtain ⟨q1, q2, q3⟩ := stF_rel i HM.out k (by rw [← hH]; exact hkH)
        have HRL := Lib.hid (fun X (hX : Pu B T p (stF i) X) => pu_release hX (k : Int) (wf_small (by omega)))
        have HRS := Lib.hid (fun X (hX : Pu B T p ((stF i).relS (k : Int)) X) => pu_reserve hX 0 2)
        rw [q1] at HRL
        rw [q2, q3] at HRS
        clear hlt hi hH hH32 h0 hk hkH q1 q2 q3
        go_wp2_with fail
        refine (HH.out _ HP.out).mono ?_
        rintro e w3 ⟨rfl, hF3⟩
        have HP3 := Lib.hid (HP.out.no hF3)
        have HF3 := Lib.hid (HF.out.trans hF3)
        clear hF3
        go_wp2_with fail
        refine (HRL.out _ HP3.out).mono ?_
        rintro e w4 ⟨rfl, hP4, hF4⟩
        have HP4 := Lib.hid hP4
        have HF4 := Lib.hid (btw_no HF3.out hF4 HB.out)
        clear hP4 hF4
        go_wp2_with fail
        refine (HRS.out _ HP4.out).mono ?_
        rintro e w5 ⟨rfl, hP5, hF5⟩
        have HF5 := Lib.hid (btw_no HF4.out hF5 HB.out)
        clear hP5 hF5
        go_wp2
        go_ret
        exact ⟨rfl, HF5.out⟩
end Go.Proofs.Ytnimeafaciegkaa
