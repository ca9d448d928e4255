/- The document's Put, Bad, Next. -/
import Derived.Test.YtejobioddkhinaaStr
import Derived.Test.YtejobioddkhinaaFrM
import Derived.Test.YtejobioddkhinaaTy8
import Derived.Test.YtejobioddkhinaaTake
import Derived.IntWalk
import Derived.OwnWalk
import Derived.Deep.RegionHeld
namespace Go.Proofs.Ytejobioddkhinaa
open Go.RowKit
set_option linter.unusedVariables false
set_option maxRecDepth 100000

theorem r8length_any (s : List UInt8) (hs : s.length ≤ 300000) (w : World) : Calls Try.prog 17 #[.string (str s)] w fun e w' => e = .returned (.int .i64 (lenH s)) ∧ Fr No w w' := by
  match s with
  | [] =>
    go_enter Try.func17, Try.ntmps17
    go_wp2
    go_ret
    exact ⟨rfl, Fr.refl _ _⟩
  | [a] =>
    go_enter Try.func17, Try.ntmps17
    go_wp2
    go_ret
    exact ⟨rfl, Fr.refl _ _⟩
  | a :: b :: t =>
    have hsz := str_size (a :: b :: t)
    have ha := a.toNat_lt
    have hb := b.toNat_lt
    have HI0 := Lib.hid (fun X => str_index (l := a :: b :: t) (i := 0) (a := a) rfl X)
    have HI1 := Lib.hid (fun X => str_index (l := a :: b :: t) (i := 1) (a := b) rfl X)
    have hD : lenH (a :: b :: t) = (a.toNat : Int) * 256 + (b.toNat : Int) := rfl
    rw [hD]
    obtain ⟨S, hS⟩ : ∃ S, S = str (a :: b :: t) := ⟨_, rfl⟩
    rw [← hS] at HI0 HI1 hsz ⊢
    obtain ⟨A, hA⟩ : ∃ A : Int, A = (a.toNat : Int) := ⟨_, rfl⟩
    obtain ⟨B, hB⟩ : ∃ A : Int, A = (b.toNat : Int) := ⟨_, rfl⟩
    rw [← hA] at HI0
    rw [← hB] at HI1
    rw [← hA, ← hB]
    have w1 : IntKind.i64.wrap A = A := IntWalk.i64_in _ (by omega)
    have w2 : IntKind.i64.wrap B = B := IntWalk.i64_in _ (by omega)
    obtain ⟨C, hC⟩ : ∃ C, C = A * 256 := ⟨_, rfl⟩
    obtain ⟨D, hE⟩ : ∃ D, D = C + B := ⟨_, rfl⟩
    rw [← hC, ← hE]
    have w3 : IntKind.i64.wrap C = C := IntWalk.i64_in _ (by omega)
    have w4 : IntKind.i64.wrap D = D := IntWalk.i64_in _ (by omega)
    have m1 : A * 256 = C := hC.symm
    have m2 : C + B = D := hE.symm
    have h2 : ¬ (S.size : Int) < 2 := by rw [hsz]; simp; omega
    clear hsz ha hb hS hA hB hC hE hs hD
    go_enter Try.func17, Try.ntmps17
    go_wp2_with fail
    refine wp_region_held_drew (S := (fun X : World => Fr No w X)) (by kernel_rfl) ((Fr.refl No w).drew) (fun hHeld => ?_)
    refine takeD (i := 0) (d := some 6) (v := ?_) rfl (by kernel_rfl) (by kernel_rfl) (by kernel_rfl) (by kernel_rfl) (fun _ _ _ h => h) (Or.inl ⟨by kernel_rfl, fun X hX => Or.inl ?_⟩) (by assumption) ?_
    rotate_left
    · first | (go_simp; done) | (go_simp; with_reducible rfl)
    (try simp only [Act.put]); (try simp only [List.setIfInBounds_toArray]); (try simp only [List.set_cons_succ]); (try simp only [List.set_cons_zero])
    refine takeD (i := 1) (d := some 7) (v := .int .u8 A) rfl (by kernel_rfl) (by kernel_rfl) (by kernel_rfl) (by kernel_rfl) (fun _ _ _ h => h) (Or.inl ⟨by kernel_rfl, fun X hX => Or.inl (by exact exec_index 9 (.tmp 6) (.const (.int .i64 0)) rfl _ _ _ rfl rfl (HI0.out X))⟩) (by assumption) ?_
    (try simp only [Act.put]); (try simp only [List.setIfInBounds_toArray]); (try simp only [List.set_cons_succ]); (try simp only [List.set_cons_zero])
    refine takeD (i := 2) (d := some 8) (v := ?_) rfl (by kernel_rfl) (by kernel_rfl) (by kernel_rfl) (by kernel_rfl) (fun _ _ _ h => h) (Or.inl ⟨by kernel_rfl, fun X hX => Or.inl ?_⟩) (by assumption) ?_
    rotate_left
    · first | (go_simp; done) | (go_simp; with_reducible rfl)
    (try simp only [Act.put]); (try simp only [List.setIfInBounds_toArray]); (try simp only [List.set_cons_succ]); (try simp only [List.set_cons_zero])
    refine takeD (i := 3) (d := some 9) (v := ?_) rfl (by kernel_rfl) (by kernel_rfl) (by kernel_rfl) (by kernel_rfl) (fun _ _ _ h => h) (Or.inl ⟨by kernel_rfl, fun X hX => Or.inl ?_⟩) (by assumption) ?_
    rotate_left
    · first | (go_simp; done) | (go_simp; with_reducible rfl)
    (try simp only [Act.put]); (try simp only [List.setIfInBounds_toArray]); (try simp only [List.set_cons_succ]); (try simp only [List.set_cons_zero])
    refine takeD (i := 4) (d := some 10) (v := ?_) rfl (by kernel_rfl) (by kernel_rfl) (by kernel_rfl) (by kernel_rfl) (fun _ _ _ h => h) (Or.inl ⟨by kernel_rfl, fun X hX => Or.inl ?_⟩) (by assumption) ?_
    rotate_left
    · first | (go_simp; done) | (go_simp; with_reducible rfl)
    (try simp only [Act.put]); (try simp only [List.setIfInBounds_toArray]); (try simp only [List.set_cons_succ]); (try simp only [List.set_cons_zero])
    refine takeD (i := 5) (d := some 11) (v := .int .u8 B) rfl (by kernel_rfl) (by kernel_rfl) (by kernel_rfl) (by kernel_rfl) (fun _ _ _ h => h) (Or.inl ⟨by kernel_rfl, fun X hX => Or.inl (by exact exec_index 9 (.tmp 10) (.const (.int .i64 1)) rfl _ _ _ rfl rfl (HI1.out X))⟩) (by assumption) ?_
    (try simp only [Act.put]); (try simp only [List.setIfInBounds_toArray]); (try simp only [List.set_cons_succ]); (try simp only [List.set_cons_zero])
    refine takeD (i := 6) (d := some 12) (v := ?_) rfl (by kernel_rfl) (by kernel_rfl) (by kernel_rfl) (by kernel_rfl) (fun _ _ _ h => h) (Or.inl ⟨by kernel_rfl, fun X hX => Or.inl ?_⟩) (by assumption) ?_
    rotate_left
    · first | (go_simp; done) | (go_simp; with_reducible rfl)
    (try simp only [Act.put]); (try simp only [List.setIfInBounds_toArray]); (try simp only [List.set_cons_succ]); (try simp only [List.set_cons_zero])
    refine takeD (i := 7) (d := some 13) (v := ?_) rfl (by kernel_rfl) (by kernel_rfl) (by kernel_rfl) (by kernel_rfl) (fun _ _ _ h => h) (Or.inl ⟨by kernel_rfl, fun X hX => Or.inl ?_⟩) (by assumption) ?_
    rotate_left
    · first | (go_simp; done) | (go_simp; with_reducible rfl)
    (try simp only [Act.put]); (try simp only [List.setIfInBounds_toArray]); (try simp only [List.set_cons_succ]); (try simp only [List.set_cons_zero])
    refine takeD (i := 8) (d := some 2) (v := ?_) rfl (by kernel_rfl) (by kernel_rfl) (by kernel_rfl) (by kernel_rfl) (fun _ _ _ h => h) (Or.inl ⟨by kernel_rfl, fun X hX => Or.inl ?_⟩) (by assumption) ?_
    rotate_left
    · first | (go_simp; done) | (go_simp; with_reducible rfl)
    (try simp only [Act.put]); (try simp only [List.setIfInBounds_toArray]); (try simp only [List.set_cons_succ]); (try simp only [List.set_cons_zero])
    refine wpAnyH_done (by kernel_rfl) ?_ _
    go_wp2
    go_ret
    exact ⟨rfl, (Fr.refl No w).drew⟩


theorem r8bad_any (s : List UInt8) (hs : s.length ≤ 300000) (w : World) : Calls Try.prog 11 #[.string (str s)] w fun e w' => e = .returned (.bool (badF s)) ∧ Fr No w w' := by
  have hl := lenH_le s
  have HL := Lib.hid (fun X => r8length_any s hs X)
  obtain ⟨n, hn⟩ : ∃ n, n = lenH s := ⟨_, rfl⟩
  obtain ⟨y, hy⟩ : ∃ y, y = badF s := ⟨_, rfl⟩
  rw [← hn] at HL
  rw [← hy]
  have HY : Hid (y = decide (n = 0 ∨ 1024 < n)) := Lib.hid (by rw [hy, hn]; rfl)
  clear hy hn hl hs
  by_cases h0 : n = 0
  · subst h0
    obtain rfl : y = true := by rw [HY.out]; rfl
    clear HY
    go_enter Try.func11, Try.ntmps11
    go_wp2_with fail
    refine (HL.out _).mono ?_
    rintro e w1 ⟨rfl, hF⟩
    have HF := Lib.hid hF
    clear hF HL
    go_wp2
    go_ret
    exact ⟨rfl, HF.out⟩
  · have t0 : (n == 0) = false := by simp [h0]
    by_cases h1 : 1024 < n
    · obtain rfl : y = true := by rw [HY.out]; exact decide_eq_true (.inr h1)
      have t1 : decide (1024 < n) = true := decide_eq_true h1
      clear HY h0 h1
      go_enter Try.func11, Try.ntmps11
      go_wp2_with fail
      refine (HL.out _).mono ?_
      rintro e w1 ⟨rfl, hF⟩
      have HF := Lib.hid hF
      clear hF HL
      go_wp2
      go_ret
      exact ⟨rfl, HF.out⟩
    · obtain rfl : y = false := by rw [HY.out]; exact decide_eq_false (by omega)
      have t1 : decide (1024 < n) = false := decide_eq_false h1
      clear HY h0 h1
      go_enter Try.func11, Try.ntmps11
      go_wp2_with fail
      refine (HL.out _).mono ?_
      rintro e w1 ⟨rfl, hF⟩
      have HF := Lib.hid hF
      clear hF HL
      go_wp2
      go_ret
      exact ⟨rfl, HF.out⟩

theorem isF_iff (s : List UInt8) : isF s = true ↔ (1 ≤ lenH s ∧ lenH s ≤ 1024 ∧ 2 + lenH s ≤ s.length) := decide_eq_true_iff
theorem next_no {s : List UInt8} (h : ¬ (1 ≤ lenH s ∧ lenH s ≤ 1024 ∧ 2 + lenH s ≤ s.length)) : textF s = [] ∧ restF s = s ∧ isF s = false := by
  have h1 : ¬ isF s = true := fun e => h ((isF_iff s).1 e)
  exact ⟨by rw [textF, if_neg h1], by rw [restF, if_neg h1], by simpa using h1⟩
theorem next_yes {s : List UInt8} (h : 1 ≤ lenH s ∧ lenH s ≤ 1024 ∧ 2 + lenH s ≤ s.length) : textF s = (s.drop 2).take (lenH s).toNat ∧ restF s = s.drop (2 + (lenH s).toNat) ∧ isF s = true := by
  have h1 : isF s = true := (isF_iff s).2 h
  exact ⟨by rw [textF, if_pos h1], by rw [restF, if_pos h1], h1⟩

theorem r8next_any (s : List UInt8) (hs : s.length ≤ 300000) (w : World) : Calls Try.prog 14 #[.string (str s)] w fun e w' => e = .returned (.tuple #[.string (str (textF s)), .string (str (restF s)), .bool (isF s)]) ∧ Fr No w w' := by
  have hl := lenH_le s
  have HL := Lib.hid (fun X => r8length_any s hs X)
  have HB := Lib.hid (fun X => r8bad_any s hs X)
  have hsz := str_size s
  have hbd : badF s = decide (lenH s = 0 ∨ 1024 < lenH s) := rfl
  have hno := next_no (s := s)
  have hyes := next_yes (s := s)
  have HP := Lib.hid (fun (N : Nat) (h : N + 2 ≤ s.length) X => str_piece (l := s) (i := 2) (j := N + 2) (by omega) h X)
  have HQ := Lib.hid (fun (N : Nat) (h : N + 2 ≤ s.length) X => str_from (l := s) (i := N + 2) h X)
  obtain ⟨n, hn⟩ : ∃ n, n = lenH s := ⟨_, rfl⟩
  rw [← hn] at HL hl hbd hno hyes
  obtain ⟨L, hL⟩ : ∃ L, L = s.length := ⟨_, rfl⟩
  rw [← hL] at hsz hno hyes HP HQ
  obtain ⟨T, hT⟩ : ∃ T, T = str s := ⟨_, rfl⟩
  obtain ⟨y, hy⟩ : ∃ y, y = badF s := ⟨_, rfl⟩
  obtain ⟨a, ha⟩ : ∃ a, a = str (textF s) := ⟨_, rfl⟩
  obtain ⟨b, hb⟩ : ∃ a, a = str (restF s) := ⟨_, rfl⟩
  obtain ⟨c, hc⟩ : ∃ a, a = isF s := ⟨_, rfl⟩
  rw [← ha, ← hb, ← hc]
  rw [← hT] at HL HB hsz ⊢
  rw [← hy] at HB hbd
  have e1 : (2 : Int) + n = n + 2 := by omega
  by_cases hk : 1 ≤ n ∧ n ≤ 1024 ∧ 2 + n ≤ L
  · obtain ⟨k1, k2, k3⟩ := hk
    obtain ⟨h1, h2, h3⟩ := hyes ⟨k1, k2, k3⟩
    obtain rfl : y = false := by rw [hbd]; exact decide_eq_false (by omega)
    obtain ⟨N, hN⟩ : ∃ N : Nat, n = (N : Int) := ⟨n.toNat, by omega⟩
    obtain ⟨M, hM⟩ : ∃ M : Nat, M = N + 2 := ⟨_, rfl⟩
    have hML : M ≤ L := by omega
    have HP2 := Lib.hid (HP.out N (by omega))
    have HQ2 := Lib.hid (HQ.out N (by omega))
    have ea : a = str ((s.drop 2).take (N + 2 - 2)) := by rw [ha, h1, hN]; simp
    have eb : b = str (s.drop (N + 2)) := by rw [hb, h2, hN]; simp [Nat.add_comm]
    have ec : c = true := by rw [hc, h3]
    rw [← ea, ← hM, ← hT] at HP2
    rw [← eb, ← hM, ← hT] at HQ2
    subst ec
    subst hN
    have s1 : (2 : Int) + (N : Int) = (M : Int) := by omega
    have w1 : IntKind.i64.wrap (M : Int) = (M : Int) := IntWalk.i64_in _ (by omega)
    have t0 : decide ((N : Int) < 0) = false := decide_eq_false (by omega)
    have hsz2 : (T.size : Int) = (L : Int) := by omega
    have t1 : decide (L < M) = false := decide_eq_false (by omega)
    clear hl hbd hno hyes HP HQ hn hL hT hy ha hb hc e1 k1 k2 k3 h1 h2 h3 hM hML ea eb hs hsz
    go_enter Try.func14, Try.ntmps14
    go_wp2_with fail
    refine (HL.out _).mono ?_
    rintro e w1 ⟨rfl, hF⟩
    have F1 := Lib.hid hF
    clear hF HL
    go_wp2_with fail
    refine (HB.out _).mono ?_
    rintro e w2 ⟨rfl, hF⟩
    have F2 := Lib.hid (F1.out.trans hF)
    clear hF HB F1
    go_wp2_with fail

    refine wp_region_held_drew (S := (fun X : World => Fr No w X)) (by kernel_rfl) (F2.out.drew) (fun hHeld => ?_)
    refine takeD (i := 0) (d := some 22) (v := ?_) rfl (by kernel_rfl) (by kernel_rfl) (by kernel_rfl) (by kernel_rfl) (fun _ _ _ h => h) (Or.inl ⟨by kernel_rfl, fun X hX => Or.inl ?_⟩) (by assumption) ?_
    rotate_left
    · first | (go_simp; done) | (go_simp; with_reducible rfl)
    (try simp only [Act.put]); (try simp only [List.setIfInBounds_toArray]); (try simp only [List.set_cons_succ]); (try simp only [List.set_cons_zero])
    refine takeD (i := 1) (d := some 23) (v := ?_) rfl (by kernel_rfl) (by kernel_rfl) (by kernel_rfl) (by kernel_rfl) (fun _ _ _ h => h) (Or.inl ⟨by kernel_rfl, fun X hX => Or.inl ?_⟩) (by assumption) ?_
    rotate_left
    · first | (go_simp; done) | (go_simp; with_reducible rfl)
    (try simp only [Act.put]); (try simp only [List.setIfInBounds_toArray]); (try simp only [List.set_cons_succ]); (try simp only [List.set_cons_zero])
    refine takeD (i := 2) (d := some 24) (v := ?_) rfl (by kernel_rfl) (by kernel_rfl) (by kernel_rfl) (by kernel_rfl) (fun _ _ _ h => h) (Or.inl ⟨by kernel_rfl, fun X hX => Or.inl ?_⟩) (by assumption) ?_
    rotate_left
    · first | (go_simp; done) | (go_simp; with_reducible rfl)
    (try simp only [Act.put]); (try simp only [List.setIfInBounds_toArray]); (try simp only [List.set_cons_succ]); (try simp only [List.set_cons_zero])
    refine takeD (i := 3) (d := some 25) (v := .string a) rfl (by kernel_rfl) (by kernel_rfl) (by kernel_rfl) (by kernel_rfl) (fun _ _ _ h => h) (Or.inl ⟨by kernel_rfl, fun X hX => Or.inl (by exact exec_slice 9 (.tmp 22) (some (.const (.int .i64 2))) (some (.tmp 24)) rfl _ _ _ _ rfl rfl rfl (HP2.out X))⟩) (by assumption) ?_
    (try simp only [Act.put]); (try simp only [List.setIfInBounds_toArray]); (try simp only [List.set_cons_succ]); (try simp only [List.set_cons_zero])
    refine takeD (i := 4) (d := some 26) (v := ?_) rfl (by kernel_rfl) (by kernel_rfl) (by kernel_rfl) (by kernel_rfl) (fun _ _ _ h => h) (Or.inl ⟨by kernel_rfl, fun X hX => Or.inl ?_⟩) (by assumption) ?_
    rotate_left
    · first | (go_simp; done) | (go_simp; with_reducible rfl)
    (try simp only [Act.put]); (try simp only [List.setIfInBounds_toArray]); (try simp only [List.set_cons_succ]); (try simp only [List.set_cons_zero])
    refine takeD (i := 5) (d := some 27) (v := ?_) rfl (by kernel_rfl) (by kernel_rfl) (by kernel_rfl) (by kernel_rfl) (fun _ _ _ h => h) (Or.inl ⟨by kernel_rfl, fun X hX => Or.inl ?_⟩) (by assumption) ?_
    rotate_left
    · first | (go_simp; done) | (go_simp; with_reducible rfl)
    (try simp only [Act.put]); (try simp only [List.setIfInBounds_toArray]); (try simp only [List.set_cons_succ]); (try simp only [List.set_cons_zero])
    refine takeD (i := 6) (d := some 28) (v := ?_) rfl (by kernel_rfl) (by kernel_rfl) (by kernel_rfl) (by kernel_rfl) (fun _ _ _ h => h) (Or.inl ⟨by kernel_rfl, fun X hX => Or.inl ?_⟩) (by assumption) ?_
    rotate_left
    · first | (go_simp; done) | (go_simp; with_reducible rfl)
    (try simp only [Act.put]); (try simp only [List.setIfInBounds_toArray]); (try simp only [List.set_cons_succ]); (try simp only [List.set_cons_zero])
    refine takeD (i := 7) (d := some 29) (v := .string b) rfl (by kernel_rfl) (by kernel_rfl) (by kernel_rfl) (by kernel_rfl) (fun _ _ _ h => h) (Or.inl ⟨by kernel_rfl, fun X hX => Or.inl (by exact exec_slice 9 (.tmp 26) (some (.tmp 28)) none rfl _ _ _ _ rfl rfl rfl (HQ2.out X))⟩) (by assumption) ?_
    (try simp only [Act.put]); (try simp only [List.setIfInBounds_toArray]); (try simp only [List.set_cons_succ]); (try simp only [List.set_cons_zero])
    refine takeD (i := 8) (d := some 2) (v := ?_) rfl (by kernel_rfl) (by kernel_rfl) (by kernel_rfl) (by kernel_rfl) (fun _ _ _ h => h) (Or.inl ⟨by kernel_rfl, fun X hX => Or.inl ?_⟩) (by assumption) ?_
    rotate_left
    · first | (go_simp; done) | (go_simp; with_reducible rfl)
    (try simp only [Act.put]); (try simp only [List.setIfInBounds_toArray]); (try simp only [List.set_cons_succ]); (try simp only [List.set_cons_zero])
    refine takeD (i := 9) (d := some 3) (v := ?_) rfl (by kernel_rfl) (by kernel_rfl) (by kernel_rfl) (by kernel_rfl) (fun _ _ _ h => h) (Or.inl ⟨by kernel_rfl, fun X hX => Or.inl ?_⟩) (by assumption) ?_
    rotate_left
    · first | (go_simp; done) | (go_simp; with_reducible rfl)
    (try simp only [Act.put]); (try simp only [List.setIfInBounds_toArray]); (try simp only [List.set_cons_succ]); (try simp only [List.set_cons_zero])
    refine takeD (i := 10) (d := some 4) (v := ?_) rfl (by kernel_rfl) (by kernel_rfl) (by kernel_rfl) (by kernel_rfl) (fun _ _ _ h => h) (Or.inl ⟨by kernel_rfl, fun X hX => Or.inl ?_⟩) (by assumption) ?_
    rotate_left
    · first | (go_simp; done) | (go_simp; with_reducible rfl)
    (try simp only [Act.put]); (try simp only [List.setIfInBounds_toArray]); (try simp only [List.set_cons_succ]); (try simp only [List.set_cons_zero])
    refine wpAnyH_done (by kernel_rfl) ?_ _
    go_wp2
    refine bodyPost_ret (results_tmp3 rfl _ _ _) rfl ?_
    exact ⟨rfl, F2.out.drew⟩

  · obtain ⟨h1, h2, h3⟩ := hno hk
    have ea : a = ⟨#[]⟩ := by rw [ha, h1]; rfl
    have eb : T = b := by rw [hb, h2, hT]
    have ec : c = false := by rw [hc, h3]
    subst ea eb ec
    clear HP HQ hno hyes ha hb hc h1 h2 h3 hT hL hn hs hy
    by_cases hb : y = true
    · subst hb
      clear hbd hl hk e1
      go_enter Try.func14, Try.ntmps14
      go_wp2_with fail
      refine (HL.out _).mono ?_
      rintro e w1 ⟨rfl, hF⟩
      have F1 := Lib.hid hF
      clear hF HL
      go_wp2_with fail
      refine (HB.out _).mono ?_
      rintro e w2 ⟨rfl, hF⟩
      have F2 := Lib.hid (F1.out.trans hF)
      clear hF HB F1
      go_wp2
      refine bodyPost_ret (results_tmp3 rfl _ _ _) rfl ?_
      exact ⟨rfl, F2.out⟩
    · obtain rfl : y = false := by simpa using hb
      have hnb : ¬ (n = 0 ∨ 1024 < n) := of_decide_eq_false hbd.symm
      by_cases hneg : n < 0
      · have t0 : decide (n < 0) = true := decide_eq_true hneg
        clear hbd hl hk e1 hb hnb hneg
        go_enter Try.func14, Try.ntmps14
        go_wp2_with fail
        refine (HL.out _).mono ?_
        rintro e w1 ⟨rfl, hF⟩
        have F1 := Lib.hid hF
        clear hF HL
        go_wp2_with fail
        refine (HB.out _).mono ?_
        rintro e w2 ⟨rfl, hF⟩
        have F2 := Lib.hid (F1.out.trans hF)
        clear hF HB F1
        go_wp2
        refine bodyPost_ret (results_tmp3 rfl _ _ _) rfl ?_
        exact ⟨rfl, F2.out⟩
      · obtain ⟨N, hN⟩ : ∃ N : Nat, n = (N : Int) := ⟨n.toNat, by omega⟩
        subst hN
        obtain ⟨M, hM⟩ : ∃ M : Nat, M = N + 2 := ⟨_, rfl⟩
        have s1 : (2 : Int) + (N : Int) = (M : Int) := by omega
        have w1 : IntKind.i64.wrap (M : Int) = (M : Int) := IntWalk.i64_in _ (by omega)
        have t0 : decide ((N : Int) < 0) = false := decide_eq_false (by omega)
        have hsz2 : (T.size : Int) = (L : Int) := by omega
        have t1 : decide (L < M) = true := decide_eq_true (by omega)
        clear hbd hl hk e1 hb hnb hneg hM hsz
        go_enter Try.func14, Try.ntmps14
        go_wp2_with fail
        refine (HL.out _).mono ?_
        rintro e w1 ⟨rfl, hF⟩
        have F1 := Lib.hid hF
        clear hF HL
        go_wp2_with fail
        refine (HB.out _).mono ?_
        rintro e w2 ⟨rfl, hF⟩
        have F2 := Lib.hid (F1.out.trans hF)
        clear hF HB F1
        go_wp2
        refine bodyPost_ret (results_tmp3 rfl _ _ _) rfl ?_
        exact ⟨rfl, F2.out⟩
end Go.Proofs.Ytejobioddkhinaa
