/- The document's numbers, bits, places, and which number can tell which. -/
import Derived.Test.YtnpgcgemifoddaaDoorSecC
namespace Go.Proofs.YtnpgcgemifoddaaDoor
open Go.RowKit
set_option linter.unusedVariables false

theorem rnumber_any (i : Int) (w : World) : Calls Tryd.prog 26 #[.int .i64 i] w fun ex w' => ex = .returned (.bool (num i)) ∧ w' = w := by
  have hn : num i = (decide (0 ≤ i) && decide (i < 65536)) := rfl
  rw [hn]
  by_cases h0 : 0 ≤ i
  · go_enter Tryd.func26, Tryd.ntmps26
    go_wp2
    go_ret
    simp [h0]
  · go_enter Tryd.func26, Tryd.ntmps26
    go_wp2
    go_ret
    simp
    omega
theorem rnumber_is (i : Int) (w : World) (c : Bool) (h : num i = c) : Calls Tryd.prog 26 #[.int .i64 i] w fun ex w' => ex = .returned (.bool c) ∧ w' = w := by
  have := rnumber_any i w
  rwa [h] at this

set_option maxRecDepth 100000 in
set_option maxHeartbeats 1000000 in
theorem rbit_any (i b : Nat) (w : World) (hi : i < 65536) (hb : b ≤ 16) : Calls Tryd.prog 28 #[.int .i64 (i : Int), .int .i64 (b : Int)] w fun ex w' => ex = .returned (.bool (bit i b)) ∧ w' = w := by
  go_enter Tryd.func28, Tryd.ntmps28
  go_wp2_with fail
  go_loopw [0, 5] (fun x c wr => ∃ k : Nat, k ≤ b ∧ x = .int .i64 ((i / 2 ^ k : Nat) : Int) ∧ c = .int .i64 k ∧ wr = w) (fun _ c _ => b - (intOf c).toNat)
  case atStart => exact ⟨0, by omega, by simp, rfl, rfl⟩
  case round =>
    obtain ⟨k, hk, rfl, rfl, rfl⟩ := hrel
    obtain ⟨q, hq⟩ : ∃ q, q = i / 2 ^ k := ⟨_, rfl⟩
    have hq2 : q < 65536 := by rw [hq]; exact Nat.lt_of_le_of_lt (Nat.div_le_self _ _) hi
    rw [← hq]
    by_cases hlt : k < b
    · have h1 : (k : Int) < (b : Int) := by omega
      have h2 : i / 2 ^ (k + 1) = q / 2 := by rw [Nat.pow_succ, ← Nat.div_div_eq_div_mul, hq]
      obtain ⟨r, hr⟩ : ∃ r, r = q / 2 := ⟨_, rfl⟩
      have e1 : Int.tdiv (q : Int) 2 = (r : Int) := by rw [Int.tdiv_eq_ediv_of_nonneg (by omega)]; omega
      have e2 : (q : Int) / 2 = (r : Int) := by omega
      have HE : Hid (i / 2 ^ (k + 1) = r) := Lib.hid (by rw [h2, hr])
      clear hr h2 hq
      go_wp2
      exact ⟨⟨k + 1, by omega, by rw [HE.out], by simp, by simp⟩, by simp [intOf]; omega⟩
    · obtain rfl : k = b := by omega
      have hbit : bit i k = (q % 2 == 1) := by rw [bit, hq]
      obtain ⟨r, hr⟩ : ∃ r, r = q % 2 := ⟨_, rfl⟩
      have e1 : Int.tmod (q : Int) 2 = (r : Int) := by rw [Int.tmod_eq_emod_of_nonneg (by omega)]; omega
      have e2 : (q : Int) % 2 = (r : Int) := by omega
      have hb2 : bit i k = ((r : Int) == 1) := by
        rw [hbit, ← hr, Bool.eq_iff_iff]
        simp only [beq_iff_eq]
        omega
      have HB := Lib.hid hb2
      clear hr hq hbit hb2
      go_wp2
      go_ret
      exact ⟨by rw [HB.out]; rfl, rfl⟩
theorem rbit_is (i b : Nat) (w : World) (hi : i < 65536) (hb : b ≤ 16) (c : Bool) (h : bit i b = c) : Calls Tryd.prog 28 #[.int .i64 (i : Int), .int .i64 (b : Int)] w fun ex w' => ex = .returned (.bool c) ∧ w' = w := by
  have := rbit_any i b w hi hb
  rwa [h] at this

theorem rplace_no (i : Int) (w : World) (h : num i = false) : Calls Tryd.prog 20 #[.int .i64 i] w fun ex w' => ex = .returned (.int .i64 0) ∧ w' = w := by
  go_enter Tryd.func20, Tryd.ntmps20
  go_wp2_with fail
  refine (rnumber_is i w _ h).mono ?_
  rintro ex w1 ⟨rfl, rfl⟩
  go_wp2
  go_ret
  exact ⟨rfl, rfl⟩

set_option maxRecDepth 100000 in
set_option maxHeartbeats 1000000 in
theorem rplace_ok (i : Nat) (w : World) (hi : i < 65536) : Calls Tryd.prog 20 #[.int .i64 (i : Int)] w fun ex w' => ex = .returned (.int .i64 (placeN i : Int)) ∧ w' = w := by
  have HP : Hid (IsPlace i (placeN i)) := Lib.hid (placeN_is i)
  obtain ⟨p, hp⟩ : ∃ p, p = placeN i := ⟨_, rfl⟩
  rw [← hp] at HP ⊢
  clear hp
  have HI := Lib.hid hi
  have hn := num_of hi
  clear hi
  go_enter Tryd.func20, Tryd.ntmps20
  go_wp2_with fail
  refine (rnumber_is i w _ hn).mono ?_
  rintro ex w1 ⟨rfl, rfl⟩
  go_wp2_with fail
  go_loopw [3] (fun c wr => ∃ k : Nat, k ≤ p ∧ c = .int .i64 k ∧ wr = w1) (fun c _ => 16 - (intOf c).toNat)
  case atStart => exact ⟨0, by omega, rfl, rfl⟩
  case round =>
    obtain ⟨k, hk, rfl, rfl⟩ := hrel
    have hp16 := HP.out.le
    by_cases hlt : k < p
    · have h1 : (k : Int) < 16 := by omega
      have hz := HP.out.zero k hlt
      go_wp2_with fail
      refine (rbit_is i k _ HI.out (by omega) _ hz).mono ?_
      rintro ex w2 ⟨rfl, rfl⟩
      go_wp2
      exact ⟨⟨k + 1, by omega, by simp, by simp⟩, by simp [intOf]; omega⟩
    · obtain rfl : k = p := by omega
      by_cases h16 : k < 16
      · have h1 : (k : Int) < 16 := by omega
        have ho := HP.out.one h16
        go_wp2_with fail
        refine (rbit_is i k _ HI.out (by omega) _ ho).mono ?_
        rintro ex w2 ⟨rfl, rfl⟩
        go_wp2
        go_ret
        exact ⟨rfl, rfl⟩
      · have h1 : ¬ (k : Int) < 16 := by omega
        go_wp2
        go_ret
        exact ⟨rfl, rfl⟩

theorem rplace_any (i : Int) (w : World) : Calls Tryd.prog 20 #[.int .i64 i] w fun ex w' => ex = .returned (.int .i64 (place i : Int)) ∧ w' = w := by
  by_cases h : num i = true
  · obtain ⟨n, rfl, hn⟩ := num_nat h
    rw [place_of hn]
    exact rplace_ok n w hn
  · have h' : num i = false := by simpa using h
    rw [place_no h']
    exact rplace_no i w h'

theorem rcan_no1 (x y : Int) (w : World) (h : num x = false) : Calls Tryd.prog 21 #[.int .i64 x, .int .i64 y] w fun ex w' => ex = .returned (.bool (can x y)) ∧ w' = w := by
  have e : can x y = false := by rw [can, h]; rfl
  rw [e]
  clear e
  go_enter Tryd.func21, Tryd.ntmps21
  go_wp2_with fail
  refine (rnumber_is x w _ h).mono ?_
  rintro ex w1 ⟨rfl, rfl⟩
  go_wp2
  go_ret
  exact ⟨rfl, rfl⟩

theorem rcan_no2 (x y : Int) (w : World) (h : num x = true) (h2 : num y = false) : Calls Tryd.prog 21 #[.int .i64 x, .int .i64 y] w fun ex w' => ex = .returned (.bool (can x y)) ∧ w' = w := by
  have e : can x y = false := by rw [can, h, h2]; rfl
  rw [e]
  clear e
  go_enter Tryd.func21, Tryd.ntmps21
  go_wp2_with fail
  refine (rnumber_is x w _ h).mono ?_
  rintro ex w1 ⟨rfl, rfl⟩
  go_wp2_with fail
  refine (rnumber_is y _ _ h2).mono ?_
  rintro ex w1 ⟨rfl, rfl⟩
  go_wp2
  go_ret
  exact ⟨rfl, rfl⟩

set_option maxRecDepth 100000 in
set_option maxHeartbeats 1000000 in
theorem rcan_num (x y : Nat) (w : World) (hx : x < 65536) (hy : y < 65536) : Calls Tryd.prog 21 #[.int .i64 (x : Int), .int .i64 (y : Int)] w fun ex w' => ex = .returned (.bool (canN x y)) ∧ w' = w := by
  have h1 := num_of hx
  have h2 := num_of hy
  obtain ⟨p, hp⟩ : ∃ p, p = placeN x := ⟨_, rfl⟩
  have hp16 : p ≤ 16 := by rw [hp]; exact (placeN_is x).le
  have HT : Hid (∀ b, p ≤ b → canN x y = true → bit x b = bit y b) := Lib.hid (fun b hb h => by rw [hp] at hb; exact canN_bits h hb)
  have HF : Hid ((∀ b, p ≤ b → b < 16 → bit x b = bit y b) → canN x y = true) := Lib.hid (fun h => by rw [hp] at h; rw [canN, div_of_bits x y _ hx hy h]; simp)
  obtain ⟨c, hc⟩ : ∃ c, c = canN x y := ⟨_, rfl⟩
  rw [← hc] at HT HF ⊢
  have hpl := rplace_ok x w hx
  rw [← hp] at hpl
  have HX := Lib.hid hx
  have HY := Lib.hid hy
  clear hx hy hp hc
  go_enter Tryd.func21, Tryd.ntmps21
  go_wp2_with fail
  refine (rnumber_is x w _ h1).mono ?_
  rintro ex w1 ⟨rfl, rfl⟩
  go_wp2_with fail
  refine (rnumber_is y _ _ h2).mono ?_
  rintro ex w1 ⟨rfl, rfl⟩
  go_wp2_with fail
  refine hpl.mono ?_
  clear hpl
  rintro ex w1 ⟨rfl, rfl⟩
  go_wp2_with fail
  go_loopw [5] (fun d wr => ∃ k : Nat, p ≤ k ∧ k ≤ 16 ∧ d = .int .i64 k ∧ (∀ b, p ≤ b → b < k → bit x b = bit y b) ∧ wr = w1) (fun d _ => 16 - (intOf d).toNat)
  case atStart => exact ⟨p, by omega, hp16, rfl, fun b h1 h2 => by omega, rfl⟩
  case round =>
    obtain ⟨k, hk, hk16, rfl, hall, rfl⟩ := hrel
    have HA := Lib.hid hall
    clear hall
    by_cases hlt : k < 16
    · have hl : (k : Int) < 16 := by omega
      rcases hbx : bit x k with _ | _ <;> rcases hby : bit y k with _ | _
      · -- d
        go_wp2_with fail
        refine (rbit_is x k _ HX.out hk16 _ hbx).mono ?_
        rintro ex w2 ⟨rfl, rfl⟩
        go_wp2_with fail
        refine (rbit_is y k _ HY.out hk16 _ hby).mono ?_
        rintro ex w2 ⟨rfl, rfl⟩
        go_wp2
        refine ⟨⟨k + 1, by omega, by omega, by simp, fun b h1 h2 => ?_, by simp⟩, by simp [intOf]; omega⟩
        by_cases h3 : b = k
        · rw [h3, hbx, hby]
        · exact HA.out b h1 (by omega)
      · -- false, true
        go_wp2_with fail
        refine (rbit_is x k _ HX.out hk16 _ hbx).mono ?_
        rintro ex w2 ⟨rfl, rfl⟩
        go_wp2_with fail
        refine (rbit_is y k _ HY.out hk16 _ hby).mono ?_
        rintro ex w2 ⟨rfl, rfl⟩
        have hcF : c = false := by
          cases c with
          | false => rfl
          | true =>
            have h3 := HT.out k hk rfl
            rw [hbx, hby] at h3
            cases h3
        subst hcF
        go_wp2
        go_ret
        exact ⟨rfl, rfl⟩
      · -- true, false
        go_wp2_with fail
        refine (rbit_is x k _ HX.out hk16 _ hbx).mono ?_
        rintro ex w2 ⟨rfl, rfl⟩
        go_wp2_with fail
        refine (rbit_is y k _ HY.out hk16 _ hby).mono ?_
        rintro ex w2 ⟨rfl, rfl⟩
        have hcF : c = false := by
          cases c with
          | false => rfl
          | true =>
            have h3 := HT.out k hk rfl
            rw [hbx, hby] at h3
            cases h3
        subst hcF
        go_wp2
        go_ret
        exact ⟨rfl, rfl⟩
      · -- a
        go_wp2_with fail
        refine (rbit_is x k _ HX.out hk16 _ hbx).mono ?_
        rintro ex w2 ⟨rfl, rfl⟩
        go_wp2_with fail
        refine (rbit_is y k _ HY.out hk16 _ hby).mono ?_
        rintro ex w2 ⟨rfl, rfl⟩
        go_wp2
        refine ⟨⟨k + 1, by omega, by omega, by simp, fun b h1 h2 => ?_, by simp⟩, by simp [intOf]; omega⟩
        by_cases h3 : b = k
        · rw [h3, hbx, hby]
        · exact HA.out b h1 (by omega)
    · obtain rfl : k = 16 := by omega
      have hcT := HF.out HA.out
      subst hcT
      go_wp2
      go_ret
      exact ⟨rfl, rfl⟩

theorem rcan_any (x y : Int) (w : World) : Calls Tryd.prog 21 #[.int .i64 x, .int .i64 y] w fun ex w' => ex = .returned (.bool (can x y)) ∧ w' = w := by
  by_cases h : num x = true
  · by_cases h2 : num y = true
    · obtain ⟨a, rfl, ha⟩ := num_nat h
      obtain ⟨b, rfl, hb⟩ := num_nat h2
      rw [can_of ha hb]
      exact rcan_num a b w ha hb
    · exact rcan_no2 x y w h (by simpa using h2)
  · exact rcan_no1 x y w (by simpa using h)
end Go.Proofs.YtnpgcgemifoddaaDoor
