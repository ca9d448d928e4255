/- The walk of 'FrameParts'. -/
import Derived.Test.YtejobioddkhinaaFpM
import Derived.Test.YtejobioddkhinaaTake
import Derived.Deep.Slices
import Derived.Deep.RegionHeld
import Derived.Deep.QuietTactic
import Derived.BigQuiet
namespace Go.Proofs.Ytejobioddkhinaa
open Go.RowKit
set_option linter.unusedVariables false
set_option maxRecDepth 100000


set_option maxHeartbeats 1000000 in
theorem parts_long8 (ao : Option Addr) (n cap : Nat) (v : Value) (w : World) (hn : 20 < n) : Calls Try.prog 4 #[.slice ao n cap, v] w fun e w' => e = .returned (.bool true) ∧ Fr No w w' := by
  have t0 : decide ((20 : Int) < (n : Int)) = true := decide_eq_true (by omega)
  clear hn
  go_enter Try.func4, Try.ntmps4
  go_wp2_with fail
  refine (shown8_any _).mono ?_
  rintro e w1 ⟨rfl, hF⟩
  have HF := Lib.hid hF
  clear hF
  go_wp2
  go_ret
  exact ⟨rfl, HF.out⟩

set_option maxHeartbeats 1000000 in
theorem parts_long8b (ao bo : Option Addr) (n cap m cap2 : Nat) (w : World) (hn : n ≤ 20) (hm : 100 < m) : Calls Try.prog 4 #[.slice ao n cap, .slice bo m cap2] w fun e w' => e = .returned (.bool true) ∧ Fr No w w' := by
  have t0 : decide ((20 : Int) < (n : Int)) = false := decide_eq_false (by omega)
  have t2 : decide ((100 : Int) < (m : Int)) = true := decide_eq_true (by omega)
  clear hn hm
  go_enter Try.func4, Try.ntmps4
  go_wp2_with fail
  refine (shown8_any _).mono ?_
  rintro e w1 ⟨rfl, hF⟩
  have HF := Lib.hid hF
  clear hF
  go_wp2
  go_ret
  exact ⟨rfl, HF.out⟩

set_option maxHeartbeats 8000000 in
theorem parts_ok8 (ao bo : Option Addr) (n cap m cap2 : Nat) (ss : Nat → List UInt8) (ks : Nat → Nat) (w : World) (hn : n ≤ 20) (hm : m ≤ 100)
    (hel : ∀ i, i < n → ∃ a, ao = some a ∧ w.cell? (a.add i) = some (.string (str (ss i))) ∧ (ss i).length ≤ maxLen) (hxl : ∀ i, i < m → ∃ a, bo = some a ∧ w.cell? (a.add i) = some (.int .u8 (ks i : Int)) ∧ ks i < 256) :
    Calls Try.prog 4 #[.slice ao n cap, .slice bo m cap2] w fun e w' => e = .returned (.bool true) ∧ Fr No w w' := by
  have t0 : decide ((20 : Int) < (n : Int)) = false := decide_eq_false (by omega)
  have t2 : decide ((100 : Int) < (m : Int)) = false := decide_eq_false (by omega)
  have HE := Lib.hid hel
  have HX := Lib.hid hxl
  have HN := Lib.hid (And.intro hn hm)
  clear hn hel hxl hm
  go_enter Try.func4, Try.ntmps4
  go_wp2_with fail
  refine (shown8_any _).mono ?_
  rintro e w1 ⟨rfl, hF⟩
  have F1 := Lib.hid hF
  clear hF
  go_wp2_with fail
  go_loopw [5, 6, 7] (fun sv wv c wr => ∃ (i : Nat) (xs : List (List UInt8)), i ≤ n ∧ c = .int .i64 i ∧ sv = .string (str (flat xs)) ∧ xs.length ≤ i ∧ OkL xs ∧ Own w.heap.size wv xs wr ∧ Fr No w wr) (fun _ _ c _ => n - (intOf c).toNat)
  case atStart => exact ⟨0, [], by omega, rfl, rfl, by simp, fun x hx => by (cases hx), own_new _ w1 F1.out.size, F1.out.alloc _⟩
  case round =>
    obtain ⟨i, xs, hi, rfl, rfl, hxi, hok, hO, hF⟩ := hrel
    by_cases hlt : i < n
    · have hlt2 : (i : Int) < n := by omega
      obtain ⟨a, rfl, hca, hsl⟩ := HE.out i hlt
      obtain ⟨q, hq⟩ : ∃ q, q = a.add i := ⟨_, rfl⟩
      rw [← hq] at hca
      obtain ⟨s, hs⟩ : ∃ s, s = ss i := ⟨_, rfl⟩
      rw [← hs] at hca hsl
      have hq' : a.add i = q := hq.symm
      have hsz := str_size s
      obtain ⟨L, hL⟩ : ∃ L, L = s.length := ⟨_, rfl⟩
      obtain ⟨x, hx⟩ : ∃ x, x = s.take 300 := ⟨_, rfl⟩
      obtain ⟨M, hM⟩ : ∃ M, M = min L 300 := ⟨_, rfl⟩
      have hex : (str s).extract 0 M = str x := by rw [str_extract, hx, hM, hL, List.drop_zero, Nat.sub_zero, Nat.min_comm, ← List.take_eq_take_min]
      have hxl : x.length ≤ 300 := by rw [hx]; simp; omega
      have HCA := Lib.hid hca
      obtain ⟨U, hU⟩ : ∃ U, U = str s := ⟨_, rfl⟩
      obtain ⟨X, hX⟩ : ∃ U, U = str x := ⟨_, rfl⟩
      rw [← hU] at hsz HCA hex
      rw [← hX] at hex
      have hszU : (U.size : Int) = (L : Int) := by omega
      have hmin : (if (300 : Int) < (L : Int) then (300 : Int) else (L : Int)) = (M : Int) := by split <;> omega
      have hML : (M : Int) ≤ (L : Int) := by omega
      obtain ⟨T, hT⟩ : ∃ T, T = str (flat xs) := ⟨_, rfl⟩
      have hszT := str_size (flat xs)
      rw [← hT] at hszT ⊢
      have hfl := flat_le xs hok
      have hpu := fun Y => fput_any x (by omega) Y
      rw [← hX] at hpu
      obtain ⟨V, hV⟩ : ∃ V, V = str (putV x) := ⟨_, rfl⟩
      obtain ⟨E, hE⟩ : ∃ V, V = putE x := ⟨_, rfl⟩
      rw [← hV, ← hE] at hpu
      have HPU := Lib.hid hpu
      have HF := Lib.hid hF
      have HO := Lib.hid hO
      have HI : Hid (i + 1 ≤ n ∧ xs.length ≤ i) := Lib.hid ⟨hlt, hxi⟩
      have HOK := Lib.hid hok
      have HXL := Lib.hid hxl
      have HV := Lib.hid hV
      have HEE := Lib.hid hE
      have HXX := Lib.hid hX
      have HT := Lib.hid hT
      have HTV : Hid (¬ 9223372036854775807 < T.size + V.size) := Lib.hid (by
        have h1 : V.size ≤ 1026 := by rw [hV, str_size]; exact putV_len_le (by omega)
        have := HN.out.1
        omega)
      clear hT hszT hfl hs hsl hq hca hsz hF hlt hi hx hM hxl hU hX hpu hV hE hO hxi hok hL
      go_wp2_with fail
      refine wp_region_held_drew (S := (fun Y : World => Fr No w Y)) (by kernel_rfl) (HF.out.drew) (fun hHeld => ?_)
      refine takeD (i := 0) (d := some 38) (v := ?_) rfl (by kernel_rfl) (by kernel_rfl) (by kernel_rfl) (by kernel_rfl) (fun _ _ _ h => h) (Or.inl ⟨by kernel_rfl, fun X hX => Or.inl ?_⟩) (by assumption) ?_
      rotate_left
      · first | (go_simp; done) | (go_simp; with_reducible rfl)
      (try simp only [Act.put]); (try simp only [List.setIfInBounds_toArray]); (try simp only [List.set_cons_succ]); (try simp only [List.set_cons_zero])
      refine takeD (i := 1) (d := some 39) (v := ?_) rfl (by kernel_rfl) (by kernel_rfl) (by kernel_rfl) (by kernel_rfl) (fun _ _ _ h => h) (Or.inl ⟨by kernel_rfl, fun X hX => Or.inl ?_⟩) (by assumption) ?_
      rotate_left
      · first | (go_simp; done) | (go_simp; with_reducible rfl)
      (try simp only [Act.put]); (try simp only [List.setIfInBounds_toArray]); (try simp only [List.set_cons_succ]); (try simp only [List.set_cons_zero])
      refine takeD (i := 2) (d := some 40) (v := ?_) rfl (by kernel_rfl) (by kernel_rfl) (by kernel_rfl) (by kernel_rfl) (fun _ _ _ h => h) (Or.inl ⟨by kernel_rfl, fun X hX => Or.inl ?_⟩) (by assumption) ?_
      rotate_left
      · first | (go_simp; done) | (go_simp; with_reducible rfl)
      (try simp only [Act.put]); (try simp only [List.setIfInBounds_toArray]); (try simp only [List.set_cons_succ]); (try simp only [List.set_cons_zero])
      refine takeD (i := 4) (d := some 42) (v := ?_) rfl (by kernel_rfl) (by kernel_rfl) (by kernel_rfl) (by kernel_rfl) (fun _ _ _ h => h) (Or.inl ⟨by kernel_rfl, fun X hX => Or.inl ?_⟩) (by assumption) ?_
      rotate_left
      · first | (go_simp; done) | (go_simp; with_reducible rfl)
      (try simp only [Act.put]); (try simp only [List.setIfInBounds_toArray]); (try simp only [List.set_cons_succ]); (try simp only [List.set_cons_zero])
      refine takeD (i := 5) (d := some 43) (v := ?_) rfl (by kernel_rfl) (by kernel_rfl) (by kernel_rfl) (by kernel_rfl) (fun _ _ _ h => h) (Or.inl ⟨by kernel_rfl, fun X hX => Or.inl ?_⟩) (by assumption) ?_
      rotate_left
      · first | (go_simp; done) | (go_simp; with_reducible rfl)
      (try simp only [Act.put]); (try simp only [List.setIfInBounds_toArray]); (try simp only [List.set_cons_succ]); (try simp only [List.set_cons_zero])
      refine takeD (i := 6) (d := some 44) (v := ?_) rfl (by kernel_rfl) (by kernel_rfl) (by kernel_rfl) (by kernel_rfl) (fun _ _ _ h => h) (Or.inl ⟨by kernel_rfl, fun X hX => Or.inl ?_⟩) (by assumption) ?_
      rotate_left
      · first | (go_simp; done) | (go_simp; with_reducible rfl)
      (try simp only [Act.put]); (try simp only [List.setIfInBounds_toArray]); (try simp only [List.set_cons_succ]); (try simp only [List.set_cons_zero])
      refine takeD (i := 3) (d := some 41) (v := ?_) rfl (by kernel_rfl) (by kernel_rfl) (by kernel_rfl) (by kernel_rfl) (fun _ _ _ h => h) (Or.inl ⟨by kernel_rfl, fun X hX => Or.inl ?_⟩) (by assumption) ?_
      rotate_left
      · have c1 := Fr.cellA hX id HCA.out; first | (go_simp; done) | (go_simp; with_reducible rfl)
      (try simp only [Act.put]); (try simp only [List.setIfInBounds_toArray]); (try simp only [List.set_cons_succ]); (try simp only [List.set_cons_zero])
      refine takeD (i := 7) (d := some 45) (v := ?_) rfl (by kernel_rfl) (by kernel_rfl) (by kernel_rfl) (by kernel_rfl) (fun _ _ _ h => h) (Or.inl ⟨by kernel_rfl, fun X hX => Or.inl ?_⟩) (by assumption) ?_
      rotate_left
      · have c1 := Fr.cellA hX id HCA.out; first | (go_simp; done) | (go_simp; with_reducible rfl)
      (try simp only [Act.put]); (try simp only [List.setIfInBounds_toArray]); (try simp only [List.set_cons_succ]); (try simp only [List.set_cons_zero])
      refine takeD (i := 8) (d := some 46) (v := ?_) rfl (by kernel_rfl) (by kernel_rfl) (by kernel_rfl) (by kernel_rfl) (fun _ _ _ h => h) (Or.inl ⟨by kernel_rfl, fun X hX => Or.inl ?_⟩) (by assumption) ?_
      rotate_left
      · first | (go_simp; done) | (go_simp; with_reducible rfl)
      (try simp only [Act.put]); (try simp only [List.setIfInBounds_toArray]); (try simp only [List.set_cons_succ]); (try simp only [List.set_cons_zero])
      refine takeD (i := 9) (d := some 47) (v := ?_) rfl (by kernel_rfl) (by kernel_rfl) (by kernel_rfl) (by kernel_rfl) (fun _ _ _ h => h) (Or.inl ⟨by kernel_rfl, fun X hX => Or.inl ?_⟩) (by assumption) ?_
      rotate_left
      · first | (go_simp; done) | (go_simp; with_reducible rfl)
      (try simp only [Act.put]); (try simp only [List.setIfInBounds_toArray]); (try simp only [List.set_cons_succ]); (try simp only [List.set_cons_zero])
      refine takeD (i := 10) (d := some 48) (v := ?_) rfl (by kernel_rfl) (by kernel_rfl) (by kernel_rfl) (by kernel_rfl) (fun _ _ _ h => h) (Or.inl ⟨by kernel_rfl, fun X hX => Or.inl ?_⟩) (by assumption) ?_
      rotate_left
      · first | (go_simp; done) | (go_simp; with_reducible rfl)
      (try simp only [Act.put]); (try simp only [List.setIfInBounds_toArray]); (try simp only [List.set_cons_succ]); (try simp only [List.set_cons_zero])
      refine wpAnyH_ready (rs := [11]) (by kernel_rfl) (by simp) ?_
      refine AllReadyH.cons rfl (fun K hK => ?_) AllReadyH.nil
      rw [if_pos (by kernel_rfl)]
      go_simp
      refine (HPU.out _).mono ?_
      rintro e w3 ⟨rfl, hF⟩
      have F3 : Hid (Fr No w w3) := Lib.hid (HF.out.drew.trans hF)
      have O3 : Hid (Own w.heap.size u6 xs w3) := Lib.hid ((HO.out.fr (drew_fr8 No _) (fun _ _ => id)).fr hF (fun _ _ => id))
      clear hF HPU HO HF
      refine hK.out _ _ (F3.out) (fun hHeld => ?_)
      clear hK K
      (try simp only [Act.put]); (try simp only [List.setIfInBounds_toArray]); (try simp only [List.set_cons_succ]); (try simp only [List.set_cons_zero])
      refine takeD (i := 12) (d := some 37) (v := ?_) rfl (by kernel_rfl) (by kernel_rfl) (by kernel_rfl) (by kernel_rfl) (fun _ _ _ h => h) (Or.inl ⟨by kernel_rfl, fun X hX => Or.inl ?_⟩) (by assumption) ?_
      rotate_left
      · first | (go_simp; done) | (go_simp; with_reducible rfl)
      (try simp only [Act.put]); (try simp only [List.setIfInBounds_toArray]); (try simp only [List.set_cons_succ]); (try simp only [List.set_cons_zero])
      refine takeD (i := 13) (d := some 50) (v := ?_) rfl (by kernel_rfl) (by kernel_rfl) (by kernel_rfl) (by kernel_rfl) (fun _ _ _ h => h) (Or.inl ⟨by kernel_rfl, fun X hX => Or.inl ?_⟩) (by assumption) ?_
      rotate_left
      · first | (go_simp; done) | (go_simp; with_reducible rfl)
      (try simp only [Act.put]); (try simp only [List.setIfInBounds_toArray]); (try simp only [List.set_cons_succ]); (try simp only [List.set_cons_zero])
      refine takeD (i := 14) (d := some 51) (v := ?_) rfl (by kernel_rfl) (by kernel_rfl) (by kernel_rfl) (by kernel_rfl) (fun _ _ _ h => h) (Or.inl ⟨by kernel_rfl, fun X hX => Or.inl ?_⟩) (by assumption) ?_
      rotate_left
      · first | (go_simp; done) | (go_simp; with_reducible rfl)
      (try simp only [Act.put]); (try simp only [List.setIfInBounds_toArray]); (try simp only [List.set_cons_succ]); (try simp only [List.set_cons_zero])
      refine takeD (i := 15) (d := some 8) (v := ?_) rfl (by kernel_rfl) (by kernel_rfl) (by kernel_rfl) (by kernel_rfl) (fun _ _ _ h => h) (Or.inl ⟨by kernel_rfl, fun X hX => Or.inl ?_⟩) (by assumption) ?_
      rotate_left
      · first | (go_simp; done) | (go_simp; with_reducible rfl)
      (try simp only [Act.put]); (try simp only [List.setIfInBounds_toArray]); (try simp only [List.set_cons_succ]); (try simp only [List.set_cons_zero])
      refine takeD (i := 16) (d := some 9) (v := ?_) rfl (by kernel_rfl) (by kernel_rfl) (by kernel_rfl) (by kernel_rfl) (fun _ _ _ h => h) (Or.inl ⟨by kernel_rfl, fun X hX => Or.inl ?_⟩) (by assumption) ?_
      rotate_left
      · first | (go_simp; done) | (go_simp; with_reducible rfl)
      (try simp only [Act.put]); (try simp only [List.setIfInBounds_toArray]); (try simp only [List.set_cons_succ]); (try simp only [List.set_cons_zero])
      refine wpAnyH_done (by kernel_rfl) ?_ _

      by_cases h0 : x.length = 0
      · obtain rfl : E = 1 := by rw [HEE.out, putE, if_pos h0]
        have e3 : IntKind.i64.wrap ((i : Int) + 1) = ((i + 1 : Nat) : Int) := IntWalk.i64_in _ (by have := HI.out; have := HN.out; omega)
        have HQ : Hid (n - (i + 1) < n - i) := Lib.hid (by have := HI.out; omega)
        clear hex hmin hML hszU h0
        go_wp2
        exact ⟨⟨i + 1, xs, HI.out.1, by simp, by rw [← HT.out], by have := HI.out.2; omega, HOK.out, O3.out, F3.out⟩, by simpa [intOf] using HQ.out⟩
      · obtain rfl : E = 0 := by rw [HEE.out, putE, if_neg h0, if_neg (by have := HXL.out; omega)]
        obtain ⟨T2, hT2⟩ : ∃ T, T = str (flat (xs ++ [x])) := ⟨_, rfl⟩
        have c1 : T ++ V = T2 := by rw [hT2, HT.out, HV.out, str_append, flat_snoc]
        have hnc := HTV.out
        have HT2 := Lib.hid hT2
        have HOK2 : Hid (OkL (xs ++ [x])) := Lib.hid (fun y hy => by
          rcases List.mem_append.1 hy with h | h
          · exact HOK.out y h
          · obtain rfl : y = x := by simpa using h
            exact ⟨by omega, HXL.out⟩)
        clear hT2 h0
        go_wp2_with fail
        refine wp_region_held_drew (S := (fun Y : World => Fr No w Y)) (by kernel_rfl) (F3.out.drew) (fun hHeld => ?_)
        refine takeD (i := 0) (d := some 57) (v := ?_) rfl (by kernel_rfl) (by kernel_rfl) (by kernel_rfl) (by kernel_rfl) (fun _ _ _ h => h) (Or.inl ⟨by kernel_rfl, fun X hX => Or.inl ?_⟩) (by assumption) ?_
        rotate_left
        · first | (go_simp; done) | (go_simp; with_reducible rfl)
        (try simp only [Act.put]); (try simp only [List.setIfInBounds_toArray]); (try simp only [List.set_cons_succ]); (try simp only [List.set_cons_zero])
        refine takeD (i := 1) (d := some 58) (v := ?_) rfl (by kernel_rfl) (by kernel_rfl) (by kernel_rfl) (by kernel_rfl) (fun _ _ _ h => h) (Or.inl ⟨by kernel_rfl, fun X hX => Or.inl ?_⟩) (by assumption) ?_
        rotate_left
        · first | (go_simp; done) | (go_simp; with_reducible rfl)
        (try simp only [Act.put]); (try simp only [List.setIfInBounds_toArray]); (try simp only [List.set_cons_succ]); (try simp only [List.set_cons_zero])
        refine takeD (i := 2) (d := some 59) (v := ?_) rfl (by kernel_rfl) (by kernel_rfl) (by kernel_rfl) (by kernel_rfl) (fun _ _ _ h => h) (Or.inl ⟨by kernel_rfl, fun X hX => Or.inl ?_⟩) (by assumption) ?_
        rotate_left
        · first | (go_simp; done) | (go_simp; with_reducible rfl)
        (try simp only [Act.put]); (try simp only [List.setIfInBounds_toArray]); (try simp only [List.set_cons_succ]); (try simp only [List.set_cons_zero])
        refine takeD (i := 3) (d := some 60) (v := ?_) rfl (by kernel_rfl) (by kernel_rfl) (by kernel_rfl) (by kernel_rfl) (fun _ _ _ h => h) (Or.inl ⟨by kernel_rfl, fun X hX => Or.inl ?_⟩) (by assumption) ?_
        rotate_left
        · first | (go_simp; done) | (go_simp; with_reducible rfl)
        (try simp only [Act.put]); (try simp only [List.setIfInBounds_toArray]); (try simp only [List.set_cons_succ]); (try simp only [List.set_cons_zero])
        refine takeD (i := 5) (d := some 62) (v := ?_) rfl (by kernel_rfl) (by kernel_rfl) (by kernel_rfl) (by kernel_rfl) (fun _ _ _ h => h) (Or.inl ⟨by kernel_rfl, fun X hX => Or.inl ?_⟩) (by assumption) ?_
        rotate_left
        · first | (go_simp; done) | (go_simp; with_reducible rfl)
        (try simp only [Act.put]); (try simp only [List.setIfInBounds_toArray]); (try simp only [List.set_cons_succ]); (try simp only [List.set_cons_zero])
        refine takeD (i := 6) (d := some 63) (v := ?_) rfl (by kernel_rfl) (by kernel_rfl) (by kernel_rfl) (by kernel_rfl) (fun _ _ _ h => h) (Or.inl ⟨by kernel_rfl, fun X hX => Or.inl ?_⟩) (by assumption) ?_
        rotate_left
        · first | (go_simp; done) | (go_simp; with_reducible rfl)
        (try simp only [Act.put]); (try simp only [List.setIfInBounds_toArray]); (try simp only [List.set_cons_succ]); (try simp only [List.set_cons_zero])
        refine takeD (i := 7) (d := some 64) (v := ?_) rfl (by kernel_rfl) (by kernel_rfl) (by kernel_rfl) (by kernel_rfl) (fun _ _ _ h => h) (Or.inl ⟨by kernel_rfl, fun X hX => Or.inl ?_⟩) (by assumption) ?_
        rotate_left
        · first | (go_simp; done) | (go_simp; with_reducible rfl)
        (try simp only [Act.put]); (try simp only [List.setIfInBounds_toArray]); (try simp only [List.set_cons_succ]); (try simp only [List.set_cons_zero])
        refine takeD (i := 4) (d := some 61) (v := ?_) rfl (by kernel_rfl) (by kernel_rfl) (by kernel_rfl) (by kernel_rfl) (fun _ _ _ h => h) (Or.inl ⟨by kernel_rfl, fun X hX => Or.inl ?_⟩) (by assumption) ?_
        rotate_left
        · have c1 := Fr.cellA hX id HCA.out; first | (go_simp; done) | (go_simp; with_reducible rfl)
        (try simp only [Act.put]); (try simp only [List.setIfInBounds_toArray]); (try simp only [List.set_cons_succ]); (try simp only [List.set_cons_zero])
        refine takeD (i := 8) (d := some 65) (v := ?_) rfl (by kernel_rfl) (by kernel_rfl) (by kernel_rfl) (by kernel_rfl) (fun _ _ _ h => h) (Or.inl ⟨by kernel_rfl, fun X hX => Or.inl ?_⟩) (by assumption) ?_
        rotate_left
        · have c1 := Fr.cellA hX id HCA.out; first | (go_simp; done) | (go_simp; with_reducible rfl)
        (try simp only [Act.put]); (try simp only [List.setIfInBounds_toArray]); (try simp only [List.set_cons_succ]); (try simp only [List.set_cons_zero])
        refine takeD (i := 9) (d := some 66) (v := ?_) rfl (by kernel_rfl) (by kernel_rfl) (by kernel_rfl) (by kernel_rfl) (fun _ _ _ h => h) (Or.inl ⟨by kernel_rfl, fun X hX => Or.inl ?_⟩) (by assumption) ?_
        rotate_left
        · first | (go_simp; done) | (go_simp; with_reducible rfl)
        (try simp only [Act.put]); (try simp only [List.setIfInBounds_toArray]); (try simp only [List.set_cons_succ]); (try simp only [List.set_cons_zero])
        refine takeD (i := 10) (d := some 67) (v := ?_) rfl (by kernel_rfl) (by kernel_rfl) (by kernel_rfl) (by kernel_rfl) (fun _ _ _ h => h) (Or.inl ⟨by kernel_rfl, fun X hX => Or.inl ?_⟩) (by assumption) ?_
        rotate_left
        · first | (go_simp; done) | (go_simp; with_reducible rfl)
        (try simp only [Act.put]); (try simp only [List.setIfInBounds_toArray]); (try simp only [List.set_cons_succ]); (try simp only [List.set_cons_zero])
        refine takeD (i := 11) (d := some 68) (v := ?_) rfl (by kernel_rfl) (by kernel_rfl) (by kernel_rfl) (by kernel_rfl) (fun _ _ _ h => h) (Or.inl ⟨by kernel_rfl, fun X hX => Or.inl ?_⟩) (by assumption) ?_
        rotate_left
        · first | (go_simp; done) | (go_simp; with_reducible rfl)
        (try simp only [Act.put]); (try simp only [List.setIfInBounds_toArray]); (try simp only [List.set_cons_succ]); (try simp only [List.set_cons_zero])
        refine wpAnyH_ready (rs := [12]) (by kernel_rfl) (by simp) ?_
        refine AllReadyH.cons rfl (fun K hK => ?_) AllReadyH.nil
        rw [if_pos (by kernel_rfl)]
        go_simp
        refine hK.out _ _ (hHeld.alloc _) (fun hHeld => ?_)
        clear hK K
        (try simp only [Act.put]); (try simp only [List.setIfInBounds_toArray]); (try simp only [List.set_cons_succ]); (try simp only [List.set_cons_zero])
        refine wpAnyH_ready (rs := [13]) (by kernel_rfl) (by simp) ?_
        refine AllReadyH.cons rfl (fun K hK => ?_) AllReadyH.nil
        rw [if_pos (by kernel_rfl)]
        have O4 : Own w.heap.size u6 xs (w3.drew.alloc (.cells #[.string X] 9)) := (O3.out.fr (drew_fr8 No _) (fun _ _ => id)).fr ((Fr.refl No _).alloc _) (fun _ _ => id)
        obtain ⟨v', w4, ha, hO4, hF4⟩ := own_app O4 (by have := F3.out.size; simp; omega) (by have := HI.out; have := HN.out; omega) x ⟨w3.heap.size, 0, none⟩ ((Blk.new w3.drew 9 [.string X]).cell (by rw [HXX.out]; rfl)) 1 22
        refine wp_append (.tmp 57) (.tmp 69) 22 rfl _ _ v' rfl rfl ha ?_
        have HO4 := Lib.hid hO4
        have F4 : Hid (Fr No w w4) := Lib.hid (hHeld.trans' hF4 (fun j hj hk => absurd hj (by have := (O4.low hk).1; omega)))
        clear ha hO4 hF4 O4
        refine hK.out _ _ (F4.out) (fun hHeld => ?_)
        clear hK K
        (try simp only [Act.put]); (try simp only [List.setIfInBounds_toArray]); (try simp only [List.set_cons_succ]); (try simp only [List.set_cons_zero])
        refine takeD (i := 14) (d := some 6) (v := ?_) rfl (by kernel_rfl) (by kernel_rfl) (by kernel_rfl) (by kernel_rfl) (fun _ _ _ h => h) (Or.inl ⟨by kernel_rfl, fun X hX => Or.inl ?_⟩) (by assumption) ?_
        rotate_left
        · first | (go_simp; done) | (go_simp; with_reducible rfl)
        (try simp only [Act.put]); (try simp only [List.setIfInBounds_toArray]); (try simp only [List.set_cons_succ]); (try simp only [List.set_cons_zero])
        refine wpAnyH_done (by kernel_rfl) ?_ _

        have e3 : IntKind.i64.wrap ((i : Int) + 1) = ((i + 1 : Nat) : Int) := IntWalk.i64_in _ (by have := HI.out; have := HN.out; omega)
        have HQ : Hid (n - (i + 1) < n - i) := Lib.hid (by have := HI.out; omega)
        clear hex hmin hML hszU c1 hnc
        go_wp2
        exact ⟨⟨i + 1, xs ++ [x], HI.out.1, by simp, by rw [← HT2.out], by have := HI.out.2; simp; omega, HOK2.out, HO4.out, F4.out⟩, by simpa [intOf] using HQ.out⟩
    · have hlt2 : ¬ (i : Int) < n := by omega
      obtain ⟨T, hT⟩ : ∃ T, T = str (flat xs) := ⟨_, rfl⟩
      rw [← hT]
      obtain ⟨p, hp⟩ : ∃ p, p = wr.heap.size := ⟨_, rfl⟩
      have HP := Lib.hid hp
      have HB : Hid (w.heap.size ≤ p ∧ xs.length ≤ 20) := Lib.hid ⟨by rw [hp]; exact hF.size, by have := HN.out; omega⟩
      have HWV : Hid (∀ b, u6.ownBlock = some b → b < p) := Lib.hid (fun b hb => by rw [hp]; exact (hO.low hb).2.1)
      have HOK := Lib.hid hok
      have HF := Lib.hid hF
      have HO := Lib.hid hO
      have HT := Lib.hid hT
      clear hT hp hF hO hok hxi hlt hi
      go_wp2_with (refine wpList_execG (.agg zeroSp.toArray) (exec_build 29 #[] rfl #[] (by rfl) _ (sp_build _)) rfl ?_)
      rw [← HP.out]
      refine wp_world (fun W => Fr No w W ∧ Sp p p [] W ∧ Own (p + 1) (.slice (some ⟨p + 1, 0, none⟩) 0 0) [] W ∧ Own w.heap.size u6 xs W) ⟨(HF.out.alloc _).alloc _, ?_, ?_, (HO.out.fr ((Fr.refl No _).alloc _) (fun _ _ => id)).fr ((Fr.refl No _).alloc _) (fun _ _ => id)⟩ ?_
      · rw [HP.out]
        exact (Sp.new _ wr (Nat.le_refl _)).fr ((Fr.refl No _).alloc _)
      · have e : (wr.alloc (.cells zeroSp.toArray 29)).heap.size = p + 1 := by rw [HP.out]; simp
        have := own_new (p + 1) (wr.alloc (.cells zeroSp.toArray 29)) (by rw [e]; exact Nat.le_refl _)
        rw [e] at this
        exact this
      rintro w2 ⟨hF2, hS2, hG2, hO2⟩
      have F2 := Lib.hid hF2
      have S2 := Lib.hid hS2
      have G2 := Lib.hid hG2
      have O2 := Lib.hid hO2
      clear hF2 hS2 hG2 hO2 HF HO
      go_loopw [5, 11, 12] (fun sv gv c wr2 => ∃ (k j : Nat) (s r : List UInt8), k ≤ m + 1 ∧ c = .int .i64 k ∧ sv = .string (str s) ∧ j ≤ xs.length ∧ Own (p + 1) gv (xs.take j) wr2 ∧ r ++ s = flat (xs.drop j) ∧ isF r = false ∧ (k = m + 1 → s = []) ∧ Sp p p r wr2 ∧ Own w.heap.size u6 xs wr2 ∧ Fr No w wr2) (fun _ _ c _ => m + 2 - (intOf c).toNat)
      case atStart => exact ⟨0, 0, flat xs, [], by omega, rfl, by rw [← HT.out], by omega, G2.out, rfl, rfl, fun h => by omega, S2.out, O2.out, F2.out⟩
      clear F2 S2 G2 O2
      case round =>
        obtain ⟨k, j, s, r, hk, rfl, rfl, hj, hG, hrs, hnf, hkm, hS, hO, hF⟩ := hrel
        have hokd : OkL (xs.drop j) := fun y hy => HOK.out y (List.mem_of_mem_drop hy)
        have hfl := flat_le _ hokd
        have htot : r.length + s.length ≤ 6040 := by
          rw [← hrs, List.length_append, List.length_drop] at hfl
          have := HB.out.2
          omega
        have hsz := str_size s
        obtain ⟨L, hL⟩ : ∃ L, L = s.length := ⟨_, rfl⟩
        obtain ⟨T1, hT1⟩ : ∃ T, T = str s := ⟨_, rfl⟩
        rw [← hT1] at hsz ⊢
        have hszT : (T1.size : Int) = (L : Int) := by omega
        by_cases hs0 : L = 0
        · have hse : s = [] := List.eq_nil_of_length_eq_zero (by omega)
          rw [hse, List.append_nil] at hrs
          obtain ⟨hd, hr⟩ := part_end hrs hokd hnf
          have htk : xs.take j = xs := by
            have := List.take_append_drop j xs
            rw [hd, List.append_nil] at this
            exact this
          rw [htk] at hG
          rw [hr] at hS
          obtain ⟨ga, gc, hgv⟩ := hG.slice
          obtain ⟨wa, wc, hwv⟩ := hO.slice
          obtain ⟨K, hK⟩ : ∃ K, K = xs.length := ⟨_, rfl⟩
          rw [← hK] at hgv hwv
          subst hgv hwv
          have hlf := fleft_any p p [] _ hS (by simp)
          have hbf := fun X (h : Sp p p [] X) => fbad_any p p [] X h (by simp)
          have HLF : Hid (Calls Try.prog 15 #[.pointer (some ⟨p, 0, none⟩)] _ fun e w' => e = .returned (.int .i64 0) ∧ Sp p p [] w' ∧ KSp p _ w') := Lib.hid hlf
          have HBF : Hid (∀ X, Sp p p [] X → Calls Try.prog 16 #[.pointer (some ⟨p, 0, none⟩)] X fun e w' => e = .returned (.bool false) ∧ Sp p p [] w' ∧ KSp p X w') := Lib.hid hbf
          have HG := Lib.hid hG
          have HO := Lib.hid hO
          have HF := Lib.hid hF
          have HK := Lib.hid hK
          have HKB : Hid (K ≤ 20) := Lib.hid (by rw [hK]; exact HB.out.2)
          have hs1 : ¬ (0 : Int) < (L : Int) := by omega
          clear hse hrs hd hr htk hS hlf hbf hG hO hF hK hkm hk hj hnf hokd hfl htot hsz hL hT1 hs0
          go_wp2_with fail
          refine HLF.out.mono ?_
          rintro e w3 ⟨rfl, hS, hk⟩
          have S3 := Lib.hid hS
          have F3 := Lib.hid (KSp.no HF.out hk HB.out.1)
          have G3 := Lib.hid (HG.out.ksp hk)
          have O3 := Lib.hid (HO.out.ksp hk)
          clear hS hk HLF HG HO HF
          go_wp2_with fail
          refine (HBF.out _ S3.out).mono ?_
          rintro e w4 ⟨rfl, hS, hk⟩
          have F4 := Lib.hid (KSp.no F3.out hk HB.out.1)
          have G4 := Lib.hid (G3.out.ksp hk)
          have O4 := Lib.hid (O3.out.ksp hk)
          clear hS hk HBF S3 F3 G3 O3
          go_wp2_with fail
          go_loopw [16] (fun c wr4 => ∃ q : Nat, q ≤ K ∧ c = .int .i64 q ∧ Own (p + 1) (.slice ga K gc) xs wr4 ∧ Own w.heap.size (.slice wa K wc) xs wr4 ∧ Fr No w wr4) (fun c _ => K - (intOf c).toNat)
          case atStart => exact ⟨0, by omega, rfl, G4.out, O4.out, F4.out⟩
          clear F4 G4 O4
          case round =>
            obtain ⟨q, hq, rfl, hG, hO, hF⟩ := hrel
            by_cases hqK : q < K
            · have hqK2 : (q : Int) < (K : Int) := by omega
              obtain ⟨x, hx⟩ : ∃ x, xs[q]? = some x := ⟨xs[q]'(by rw [← HK.out]; exact hqK), List.getElem?_eq_getElem _⟩
              obtain ⟨g1, cp1, he1, hc1⟩ := hG.cell hx
              obtain ⟨g2, cp2, he2, hc2⟩ := hO.cell hx
              obtain rfl : ga = some ⟨g1, 0, none⟩ := by injection he1
              obtain rfl : wa = some ⟨g2, 0, none⟩ := by injection he2
              obtain ⟨X, hX⟩ : ∃ X, X = str x := ⟨_, rfl⟩
              rw [← hX] at hc1 hc2
              have hKB := HKB.out
              have e4 : IntKind.i64.wrap ((q : Int) + 1) = ((q + 1 : Nat) : Int) := IntWalk.i64_in _ (by omega)
              have HQ : Hid (q + 1 ≤ K ∧ K - (q + 1) < K - q) := Lib.hid (by omega)
              have HG := Lib.hid hG
              have HO := Lib.hid hO
              have HF := Lib.hid hF
              clear hx he1 he2 hX hKB hG hO hF hq hqK
              go_wp2_with fail
              go_quiet (fail)
              go_wp2
              exact ⟨⟨q + 1, HQ.out.1, by simp, HG.out.fr ((Fr.refl No _).drewN _) (fun _ _ => id), HO.out.fr ((Fr.refl No _).drewN _) (fun _ _ => id), HF.out.drewN _⟩, by simpa [intOf] using HQ.out.2⟩
            · have hqK2 : ¬ (q : Int) < (K : Int) := by omega
              have HF := Lib.hid hF
              clear hG hO hF hq hqK
              go_wp2
              go_ret
              exact ⟨rfl, HF.out⟩
        · have hk2 : k ≤ m := by
            by_cases h : k = m + 1
            · have := hkm h
              rw [hL, this] at hs0
              exact absurd rfl hs0
            · omega
          have hpos : (0 : Int) < (L : Int) := by omega
          have hposn : 0 < L := by omega
          have hgood := part_good hrs hokd
          have hkn := HN.out.2
          have e3 : IntKind.i64.wrap ((k : Int) + 1) = ((k + 1 : Nat) : Int) := IntWalk.i64_in _ (by omega)
          by_cases hkm2 : k < m
          · have hkm3 : (k : Int) < (m : Int) := by omega
            obtain ⟨b0, rfl, hcb, hxb⟩ := HX.out k hkm2
            obtain ⟨q2, hq2⟩ : ∃ q, q = b0.add k := ⟨_, rfl⟩
            rw [← hq2] at hcb
            obtain ⟨xv, hxv⟩ : ∃ x, x = ks k := ⟨_, rfl⟩
            rw [← hxv] at hcb hxb
            have hq2' : b0.add k = q2 := hq2.symm
            have cb := hF.cellA id hcb
            obtain ⟨N, hNN⟩ : ∃ N, N = min L xv := ⟨_, rfl⟩
            have wx : IntKind.i64.wrap (xv : Int) = (xv : Int) := IntWalk.i64_in _ (by omega)
            have n1 : (if (xv : Int) < (L : Int) then (xv : Int) else (L : Int)) = (N : Int) := by split <;> omega
            have n2 : (if xv < L then (xv : Int) else (L : Int)) = (N : Int) := by split <;> omega
            have hNL : N ≤ L := by omega
            have hend : k + 1 = m + 1 → s.drop N = [] := fun h => by omega
            clear hq2 hxv hxb hcb hNN hkm2
            have hx1 : T1.extract 0 N = str (s.take N) := by rw [hT1, str_extract, List.drop_zero, Nat.sub_zero]
            have hx2 : T1.extract N T1.size = str (s.drop N) := by rw [hT1, str_extract, List.take_of_length_le (by rw [str_size, List.length_drop]; exact Nat.le_refl _)]
            have hx3 : T1.extract N L = str (s.drop N) := by rw [hT1, str_extract, List.take_of_length_le (by rw [List.length_drop]; omega)]
            have hNI : (N : Int) ≤ (L : Int) := by omega
            have hph := fpush_any p p r (s.take N) _ hS (by omega) (by simp; omega)
            have ep : pushE r = 0 := by rw [pushE, if_neg (by rw [hgood]; decide)]
            have ev : pushV r (s.take N) = r ++ s.take N := by rw [pushV, if_neg (by rw [hgood]; decide)]
            rw [ep, ev] at hph
            obtain ⟨s', hs'⟩ : ∃ t, t = s.drop N := ⟨_, rfl⟩
            obtain ⟨r1, hr1⟩ : ∃ t, t = r ++ s.take N := ⟨_, rfl⟩
            have hrs1 : r1 ++ s' = flat (xs.drop j) := by rw [hr1, hs', List.append_assoc, List.take_append_drop]; exact hrs
            obtain ⟨A1, hA1⟩ : ∃ A, A = str (s.take N) := ⟨_, rfl⟩
            obtain ⟨A2, hA2⟩ : ∃ A, A = str s' := ⟨_, rfl⟩
            rw [← hr1, ← hA1] at hph
            rw [← hA1] at hx1
            rw [← hs', ← hA2] at hx2 hx3
            rw [← hs'] at hend
            have HPH := Lib.hid hph
            have HRS1 := Lib.hid hrs1
            have HG := Lib.hid hG
            have HO := Lib.hid hO
            have HF := Lib.hid hF
            have HJ := Lib.hid hj
            have HEND := Lib.hid hend
            have HK2 := Lib.hid hk2
            have HA2 := Lib.hid hA2
            clear hph hrs1 hG hO hF hj hend hk2 hA1 hA2 hr1 hs' ep ev hS hrs hnf hkm hk hokd hfl htot hgood hT1 hL hs0 hsz
            go_wp2_with fail
            refine HPH.out.mono ?_
            rintro e w3 ⟨rfl, hS, hk⟩
            have F3 := Lib.hid (KSp.no HF.out hk HB.out.1)
            have S3 := Lib.hid hS
            have G3 := Lib.hid (HG.out.ksp hk)
            have O3 := Lib.hid (HO.out.ksp hk)
            clear hS hk HPH HF HG HO
            go_wp2_with fail
            go_loopw [11] (fun gv2 wr3 => ∃ (j' : Nat) (r' : List UInt8), j' ≤ xs.length ∧ Own (p + 1) gv2 (xs.take j') wr3 ∧ r' ++ s' = flat (xs.drop j') ∧ Sp p p r' wr3 ∧ Own w.heap.size u6 xs wr3 ∧ Fr No w wr3) (fun gv2 _ => xs.length - lenV gv2)
            case atStart => exact ⟨j, r1, HJ.out, G3.out, HRS1.out, S3.out, O3.out, F3.out⟩
            clear F3 S3 G3 O3
            case round =>
              obtain ⟨j', r', hj', hG, hrs, hS, hO, hF⟩ := hrel
              have hokd : OkL (xs.drop j') := fun y hy => HOK.out y (List.mem_of_mem_drop hy)
              have hfl := flat_le _ hokd
              have hrl : r'.length ≤ 6040 := by
                rw [← hrs, List.length_append, List.length_drop] at hfl
                have := HB.out.2
                omega
              have hnx := fnext_any p p r' _ hS (by omega)
              obtain ⟨V1, hV1⟩ : ∃ V, V = str (textF r') := ⟨_, rfl⟩
              rw [← hV1] at hnx
              have HNX := Lib.hid hnx
              have HG := Lib.hid hG
              have HO := Lib.hid hO
              have HF := Lib.hid hF
              by_cases hy : isF r' = true
              · obtain ⟨y1, zs, hzs, hty, hrest⟩ := part_next hrs hokd hy
                rw [hy] at HNX
                have hlt : j' < xs.length := by
                  have := congrArg List.length hzs
                  rw [List.length_drop, List.length_cons] at this
                  omega
                have hget : xs[j']? = some y1 := by
                  have h := congrArg (fun l : List (List UInt8) => l[0]?) hzs
                  simpa using h
                have htake : xs.take j' ++ [y1] = xs.take (j' + 1) := by rw [List.take_add_one, hget]; rfl
                have hdrop : xs.drop (j' + 1) = zs := by
                  rw [← List.drop_drop, hzs]
                  rfl
                have HNEW : Hid (restF r' ++ s' = flat (xs.drop (j' + 1)) ∧ xs.take j' ++ [y1] = xs.take (j' + 1) ∧ j' + 1 ≤ xs.length ∧ V1 = str y1) := Lib.hid ⟨by rw [hdrop]; exact hrest, htake, hlt, by rw [hV1, hty]⟩
                clear hnx hG hO hF hokd hfl hrl hV1 hzs hty hrest hlt hget htake hdrop hy hrs hj' hS
                go_wp2_with fail
                refine HNX.out.mono ?_
                rintro e w5 ⟨rfl, hS, hk⟩
                have F5 := Lib.hid (KSp.no HF.out hk HB.out.1)
                have G5 := HG.out.ksp hk
                have O5 := HO.out.ksp hk
                have hpw : p < w5.heap.size := sp_lt hS
                have G6 : Own (p + 1) _ (xs.take j') (w5.alloc (.cells #[.string V1] 9)) := G5.fr ((Fr.refl No _).alloc _) (fun _ _ => id)
                obtain ⟨v', w6, ha, hG7, hF7⟩ := own_app G6 (by simp; omega) (by rw [List.length_take]; have := HB.out.2; omega) y1 ⟨w5.heap.size, 0, none⟩ ((Blk.new w5 9 [.string V1]).cell (by rw [HNEW.out.2.2.2]; rfl)) 1 22
                rw [HNEW.out.2.1] at hG7
                have HA := Lib.hid ha
                have HG7 := Lib.hid hG7
                have HS7 := Lib.hid (sp_app (hS.fr ((Fr.refl No _).alloc (.cells #[.string V1] 9))) G6 hF7)
                have HO7 := Lib.hid ((O5.fr ((Fr.refl No _).alloc (.cells #[.string V1] 9)) (fun _ _ => id)).fr hF7 (fun b hb hb2 => by have := HWV.out b hb; have := (G6.low hb2).1; omega))
                have F7 : Hid (Fr No w w6) := Lib.hid ((F5.out.alloc (.cells #[.string V1] 9)).trans' hF7 (fun b hb hb2 => absurd hb (by have := (G6.low hb2).1; have := HB.out.1; omega)))
                have HQ : Hid (xs.length - lenV v' < xs.length - lenV u11) := Lib.hid (by
                  rw [hG7.lenV, HG.out.lenV, List.length_take, List.length_take]
                  have := HNEW.out.2.2.1
                  omega)
                clear hS hk G5 O5 hpw G6 ha hG7 hF7 HNX HG HO HF F5
                go_wp2_with (at_builtin; refine wpList_execG v' (exec_append (.tmp 108) (.tmp 110) 22 rfl _ _ v' rfl rfl HA.out) (by kernel_rfl) ?_)
                exact ⟨⟨j' + 1, restF r', HNEW.out.2.2.1, HG7.out, HNEW.out.1, HS7.out, HO7.out, F7.out⟩, HQ.out⟩
              · have hy2 : isF r' = false := by simpa using hy
                rw [hy2] at HNX
                have hre := noF_rest hy2
                rw [hre] at HNX
                have HQ : Hid (m + 2 - (k + 1) < m + 2 - k) := Lib.hid (by have := HK2.out; omega)
                have HST : Hid (j' ≤ xs.length ∧ r' ++ s' = flat (xs.drop j') ∧ isF r' = false) := Lib.hid ⟨hj', hrs, hy2⟩
                clear hnx hG hO hF hokd hfl hrl hV1 hy hrs hj' hS hre hy2
                go_wp2_with fail
                refine HNX.out.mono ?_
                rintro e w5 ⟨rfl, hS, hk⟩
                have F5 := Lib.hid (KSp.no HF.out hk HB.out.1)
                have G5 := Lib.hid (HG.out.ksp hk)
                have O5 := Lib.hid (HO.out.ksp hk)
                have S5 := Lib.hid hS
                clear hS hk HNX HG HO HF
                go_wp2
                exact ⟨⟨k + 1, j', s', r', by have := HK2.out; omega, by simp, by rw [← HA2.out], HST.out.1, G5.out, HST.out.2.1, HST.out.2.2, HEND.out, S5.out, O5.out, F5.out⟩, by simpa [intOf] using HQ.out⟩
          · have hkm3 : ¬ (k : Int) < (m : Int) := by omega
            have hNL : L ≤ L := Nat.le_refl _
            have hend : k + 1 = m + 1 → s.drop L = [] := fun h => by rw [hL]; exact List.drop_length
            clear hkm2
            have hx1 : T1.extract 0 L = str (s.take L) := by rw [hT1, str_extract, List.drop_zero, Nat.sub_zero]
            have hx2 : T1.extract L T1.size = str (s.drop L) := by rw [hT1, str_extract, List.take_of_length_le (by rw [str_size, List.length_drop]; exact Nat.le_refl _)]
            have hx3 : T1.extract L L = str (s.drop L) := by rw [hT1, str_extract, List.take_of_length_le (by rw [List.length_drop]; omega)]
            have hNI : (L : Int) ≤ (L : Int) := by omega
            have hph := fpush_any p p r (s.take L) _ hS (by omega) (by simp; omega)
            have ep : pushE r = 0 := by rw [pushE, if_neg (by rw [hgood]; decide)]
            have ev : pushV r (s.take L) = r ++ s.take L := by rw [pushV, if_neg (by rw [hgood]; decide)]
            rw [ep, ev] at hph
            obtain ⟨s', hs'⟩ : ∃ t, t = s.drop L := ⟨_, rfl⟩
            obtain ⟨r1, hr1⟩ : ∃ t, t = r ++ s.take L := ⟨_, rfl⟩
            have hrs1 : r1 ++ s' = flat (xs.drop j) := by rw [hr1, hs', List.append_assoc, List.take_append_drop]; exact hrs
            obtain ⟨A1, hA1⟩ : ∃ A, A = str (s.take L) := ⟨_, rfl⟩
            obtain ⟨A2, hA2⟩ : ∃ A, A = str s' := ⟨_, rfl⟩
            rw [← hr1, ← hA1] at hph
            rw [← hA1] at hx1
            rw [← hs', ← hA2] at hx2 hx3
            rw [← hs'] at hend
            have HPH := Lib.hid hph
            have HRS1 := Lib.hid hrs1
            have HG := Lib.hid hG
            have HO := Lib.hid hO
            have HF := Lib.hid hF
            have HJ := Lib.hid hj
            have HEND := Lib.hid hend
            have HK2 := Lib.hid hk2
            have HA2 := Lib.hid hA2
            clear hph hrs1 hG hO hF hj hend hk2 hA1 hA2 hr1 hs' ep ev hS hrs hnf hkm hk hokd hfl htot hgood hT1 hL hs0 hsz
            go_wp2_with fail
            refine HPH.out.mono ?_
            rintro e w3 ⟨rfl, hS, hk⟩
            have F3 := Lib.hid (KSp.no HF.out hk HB.out.1)
            have S3 := Lib.hid hS
            have G3 := Lib.hid (HG.out.ksp hk)
            have O3 := Lib.hid (HO.out.ksp hk)
            clear hS hk HPH HF HG HO
            go_wp2_with fail
            go_loopw [11] (fun gv2 wr3 => ∃ (j' : Nat) (r' : List UInt8), j' ≤ xs.length ∧ Own (p + 1) gv2 (xs.take j') wr3 ∧ r' ++ s' = flat (xs.drop j') ∧ Sp p p r' wr3 ∧ Own w.heap.size u6 xs wr3 ∧ Fr No w wr3) (fun gv2 _ => xs.length - lenV gv2)
            case atStart => exact ⟨j, r1, HJ.out, G3.out, HRS1.out, S3.out, O3.out, F3.out⟩
            clear F3 S3 G3 O3
            case round =>
              obtain ⟨j', r', hj', hG, hrs, hS, hO, hF⟩ := hrel
              have hokd : OkL (xs.drop j') := fun y hy => HOK.out y (List.mem_of_mem_drop hy)
              have hfl := flat_le _ hokd
              have hrl : r'.length ≤ 6040 := by
                rw [← hrs, List.length_append, List.length_drop] at hfl
                have := HB.out.2
                omega
              have hnx := fnext_any p p r' _ hS (by omega)
              obtain ⟨V1, hV1⟩ : ∃ V, V = str (textF r') := ⟨_, rfl⟩
              rw [← hV1] at hnx
              have HNX := Lib.hid hnx
              have HG := Lib.hid hG
              have HO := Lib.hid hO
              have HF := Lib.hid hF
              by_cases hy : isF r' = true
              · obtain ⟨y1, zs, hzs, hty, hrest⟩ := part_next hrs hokd hy
                rw [hy] at HNX
                have hlt : j' < xs.length := by
                  have := congrArg List.length hzs
                  rw [List.length_drop, List.length_cons] at this
                  omega
                have hget : xs[j']? = some y1 := by
                  have h := congrArg (fun l : List (List UInt8) => l[0]?) hzs
                  simpa using h
                have htake : xs.take j' ++ [y1] = xs.take (j' + 1) := by rw [List.take_add_one, hget]; rfl
                have hdrop : xs.drop (j' + 1) = zs := by
                  rw [← List.drop_drop, hzs]
                  rfl
                have HNEW : Hid (restF r' ++ s' = flat (xs.drop (j' + 1)) ∧ xs.take j' ++ [y1] = xs.take (j' + 1) ∧ j' + 1 ≤ xs.length ∧ V1 = str y1) := Lib.hid ⟨by rw [hdrop]; exact hrest, htake, hlt, by rw [hV1, hty]⟩
                clear hnx hG hO hF hokd hfl hrl hV1 hzs hty hrest hlt hget htake hdrop hy hrs hj' hS
                go_wp2_with fail
                refine HNX.out.mono ?_
                rintro e w5 ⟨rfl, hS, hk⟩
                have F5 := Lib.hid (KSp.no HF.out hk HB.out.1)
                have G5 := HG.out.ksp hk
                have O5 := HO.out.ksp hk
                have hpw : p < w5.heap.size := sp_lt hS
                have G6 : Own (p + 1) _ (xs.take j') (w5.alloc (.cells #[.string V1] 9)) := G5.fr ((Fr.refl No _).alloc _) (fun _ _ => id)
                obtain ⟨v', w6, ha, hG7, hF7⟩ := own_app G6 (by simp; omega) (by rw [List.length_take]; have := HB.out.2; omega) y1 ⟨w5.heap.size, 0, none⟩ ((Blk.new w5 9 [.string V1]).cell (by rw [HNEW.out.2.2.2]; rfl)) 1 22
                rw [HNEW.out.2.1] at hG7
                have HA := Lib.hid ha
                have HG7 := Lib.hid hG7
                have HS7 := Lib.hid (sp_app (hS.fr ((Fr.refl No _).alloc (.cells #[.string V1] 9))) G6 hF7)
                have HO7 := Lib.hid ((O5.fr ((Fr.refl No _).alloc (.cells #[.string V1] 9)) (fun _ _ => id)).fr hF7 (fun b hb hb2 => by have := HWV.out b hb; have := (G6.low hb2).1; omega))
                have F7 : Hid (Fr No w w6) := Lib.hid ((F5.out.alloc (.cells #[.string V1] 9)).trans' hF7 (fun b hb hb2 => absurd hb (by have := (G6.low hb2).1; have := HB.out.1; omega)))
                have HQ : Hid (xs.length - lenV v' < xs.length - lenV u11) := Lib.hid (by
                  rw [hG7.lenV, HG.out.lenV, List.length_take, List.length_take]
                  have := HNEW.out.2.2.1
                  omega)
                clear hS hk G5 O5 hpw G6 ha hG7 hF7 HNX HG HO HF F5
                go_wp2_with (at_builtin; refine wpList_execG v' (exec_append (.tmp 108) (.tmp 110) 22 rfl _ _ v' rfl rfl HA.out) (by kernel_rfl) ?_)
                exact ⟨⟨j' + 1, restF r', HNEW.out.2.2.1, HG7.out, HNEW.out.1, HS7.out, HO7.out, F7.out⟩, HQ.out⟩
              · have hy2 : isF r' = false := by simpa using hy
                rw [hy2] at HNX
                have hre := noF_rest hy2
                rw [hre] at HNX
                have HQ : Hid (m + 2 - (k + 1) < m + 2 - k) := Lib.hid (by have := HK2.out; omega)
                have HST : Hid (j' ≤ xs.length ∧ r' ++ s' = flat (xs.drop j') ∧ isF r' = false) := Lib.hid ⟨hj', hrs, hy2⟩
                clear hnx hG hO hF hokd hfl hrl hV1 hy hrs hj' hS hre hy2
                go_wp2_with fail
                refine HNX.out.mono ?_
                rintro e w5 ⟨rfl, hS, hk⟩
                have F5 := Lib.hid (KSp.no HF.out hk HB.out.1)
                have G5 := Lib.hid (HG.out.ksp hk)
                have O5 := Lib.hid (HO.out.ksp hk)
                have S5 := Lib.hid hS
                clear hS hk HNX HG HO HF
                go_wp2
                exact ⟨⟨k + 1, j', s', r', by have := HK2.out; omega, by simp, by rw [← HA2.out], HST.out.1, G5.out, HST.out.2.1, HST.out.2.2, HEND.out, S5.out, O5.out, F5.out⟩, by simpa [intOf] using HQ.out⟩

theorem frame_parts (ao bo : Option Addr) (n cap m cap2 : Nat) (ss : Nat → List UInt8) (ks : Nat → Nat) (w : World)
    (hel : ∀ i, i < n → ∃ a, ao = some a ∧ w.cell? (a.add i) = some (.string (str (ss i))) ∧ (ss i).length ≤ maxLen) (hxl : ∀ i, i < m → ∃ a, bo = some a ∧ w.cell? (a.add i) = some (.int .u8 (ks i : Int)) ∧ ks i < 256) :
    Calls Try.prog 4 #[.slice ao n cap, .slice bo m cap2] w fun e w' => e = .returned (.bool true) ∧ Fr No w w' := by
  by_cases hn : n ≤ 20
  · by_cases hm : m ≤ 100
    · exact parts_ok8 ao bo n cap m cap2 ss ks w hn hm hel hxl
    · exact parts_long8b ao bo n cap m cap2 w hn (by omega)
  · exact parts_long8 ao n cap _ w (by omega)
end Go.Proofs.Ytejobioddkhinaa
