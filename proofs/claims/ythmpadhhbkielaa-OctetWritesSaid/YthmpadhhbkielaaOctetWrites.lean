import Derived.Test.YthmpadhhbkielaaOctH
import Derived.Test.YthmpadhhbkielaaOct8
import Derived.Test.YthmpadhhbkielaaTake
import Derived.Test.YthmpadhhbkielaaOctetLong
namespace Go.Proofs.Ythmpadhhbkielaa
open Go.RowKit
set_option linter.unusedVariables false

set_option maxHeartbeats 1000000 in
set_option maxRecDepth 100000 in
theorem writes_walk (a : Addr) (len cap : Nat) (xs : Nat → It) (w : World) (hlen : len ≤ 100) (hok : ∀ i, i < len → (xs i).Ok ∧ ItAt (a.add (i * 36)) (xs i) w) :
    Calls Try.prog 3 #[.slice (some a) len cap] w fun e w' => e = .returned (.bool true) ∧ Fr No w w' := by
  have hl1 : ¬ (100 : Int) < len := by omega
  have HOK := Lib.hid hok
  clear hok
  go_enter Try.func3, Try.ntmps3
  go_wp2_with fail
  refine (shown1_any _).mono ?_
  rintro e w1 ⟨rfl, hF⟩
  have HF1 := Lib.hid hF
  have hz1 : w.heap.size ≤ w1.heap.size := hF.size
  clear hF
  go_wp2_with fail
  go_loopw [4, 5] (fun s c wr => ∃ (i : Nat) (v : Value) (bs : List UInt8), i ≤ len ∧ c = .int .i64 i ∧ s = .string (str bs) ∧ bs.length ≤ 65 * i ∧ Wr w1.heap.size w1.heap.size v bs wr ∧ w1.heap.size ≤ wr.heap.size ∧ Fr No w wr) (fun _ c _ => len - (intOf c).toNat)
  case atStart => exact ⟨0, _, [], Nat.zero_le _, rfl, rfl, by simp, Wr.new _ w1, by simp, HF1.out.alloc _⟩
  case round =>
    obtain ⟨i, v, bs, hi, rfl, rfl, hbl, hW, hz, hF⟩ := hrel
    have HF := Lib.hid hF
    have HW := Lib.hid hW
    clear hF hW
    by_cases hlt : i < len
    · obtain ⟨hx, hat⟩ := HOK.out i hlt
      have hat := hat.fr HF.out id
      obtain ⟨x, hxs⟩ : ∃ x, x = xs i := ⟨_, rfl⟩
      obtain ⟨q, hq⟩ : ∃ q, a.add (i * 36) = q := ⟨_, rfl⟩
      rw [← hxs] at hx hat
      rw [hq] at hat
      have HX := Lib.hid hx
      have HAT := Lib.hid hat
      have hs := hat.s
      have hk := hat.k
      have hqb : q.block < w.heap.size := by have := (HOK.out i hlt).2.lt; rwa [hq] at this
      have hne : ¬ WS w1.heap.size v q.block := fun h => WS_new (w := w) (S := No) HW.out hz1 hz1 q.block hqb h
      clear hx hat hxs
      by_cases hsz : 100 < x.s.size
      · have hsz1 : (100 : Int) < x.s.size := by omega
        go_wp2_with fail
        refine (shown1_any _).mono ?_
        rintro e w2 ⟨rfl, hF⟩
        have HF2 := Lib.hid (HF.out.trans hF)
        clear hF
        go_wp2
        go_ret
        exact ⟨rfl, HF2.out⟩
      · have hsz1 : ¬ (100 : Int) < x.s.size := by omega
        have hsn : x.s.size ≤ 100 := by omega
        clear hsz
        by_cases h0 : x.k = 0
        · rw [h0] at hk
          go_wp2
          have hb9 : bs.length ≤ 1048000 := by omega
          
          refine wp_region_held_drew (S := (fun X => ItAt q x X)) (by kernel_rfl) (HAT.out.fr ((Fr.refl No wr).drew) id) (fun hHeld => ?_)
          refine takeD (i := 0) (d := some 40) (v := ?_) rfl (by kernel_rfl) (by kernel_rfl) (by kernel_rfl) (by kernel_rfl) (fun _ _ _ h => h) (Or.inl ⟨by kernel_rfl, fun X hX => Or.inl ?_⟩) (by assumption) ?_
          rotate_left
          · (have hXn := hX.n; have hXw := hX.wd; have hXk := hX.k; have hXs := hX.s); first | (go_simp; done) | (go_simp; with_reducible rfl)
          try simp only [Act.put, List.setIfInBounds_toArray, List.set_cons_zero, List.set_cons_succ]
          refine takeD (i := 1) (d := some 41) (v := ?_) rfl (by kernel_rfl) (by kernel_rfl) (by kernel_rfl) (by kernel_rfl) (fun _ _ _ h => h) (Or.inl ⟨by kernel_rfl, fun X hX => Or.inl ?_⟩) (by assumption) ?_
          rotate_left
          · (have hXn := hX.n; have hXw := hX.wd; have hXk := hX.k; have hXs := hX.s); first | (go_simp; done) | (go_simp; with_reducible rfl)
          try simp only [Act.put, List.setIfInBounds_toArray, List.set_cons_zero, List.set_cons_succ]
          refine takeD (i := 2) (d := some 42) (v := ?_) rfl (by kernel_rfl) (by kernel_rfl) (by kernel_rfl) (by kernel_rfl) (fun _ _ _ h => h) (Or.inl ⟨by kernel_rfl, fun X hX => Or.inl ?_⟩) (by assumption) ?_
          rotate_left
          · (have hXn := hX.n; have hXw := hX.wd; have hXk := hX.k; have hXs := hX.s); first | (go_simp; done) | (go_simp; with_reducible rfl)
          try simp only [Act.put, List.setIfInBounds_toArray, List.set_cons_zero, List.set_cons_succ]
          refine takeD (i := 3) (d := some 43) (v := ?_) rfl (by kernel_rfl) (by kernel_rfl) (by kernel_rfl) (by kernel_rfl) (fun _ _ _ h => h) (Or.inl ⟨by kernel_rfl, fun X hX => Or.inl ?_⟩) (by assumption) ?_
          rotate_left
          · (have hXn := hX.n; have hXw := hX.wd; have hXk := hX.k; have hXs := hX.s); first | (go_simp; done) | (go_simp; with_reducible rfl)
          try simp only [Act.put, List.setIfInBounds_toArray, List.set_cons_zero, List.set_cons_succ]
          refine takeD (i := 4) (d := some 44) (v := ?_) rfl (by kernel_rfl) (by kernel_rfl) (by kernel_rfl) (by kernel_rfl) (fun _ _ _ h => h) (Or.inl ⟨by kernel_rfl, fun X hX => Or.inl ?_⟩) (by assumption) ?_
          rotate_left
          · (have hXn := hX.n; have hXw := hX.wd; have hXk := hX.k; have hXs := hX.s); first | (go_simp; done) | (go_simp; with_reducible rfl)
          try simp only [Act.put, List.setIfInBounds_toArray, List.set_cons_zero, List.set_cons_succ]
          refine takeD (i := 5) (d := some 45) (v := ?_) rfl (by kernel_rfl) (by kernel_rfl) (by kernel_rfl) (by kernel_rfl) (fun _ _ _ h => h) (Or.inl ⟨by kernel_rfl, fun X hX => Or.inl ?_⟩) (by assumption) ?_
          rotate_left
          · (have hXn := hX.n; have hXw := hX.wd; have hXk := hX.k; have hXs := hX.s); first | (go_simp; done) | (go_simp; with_reducible rfl)
          try simp only [Act.put, List.setIfInBounds_toArray, List.set_cons_zero, List.set_cons_succ]
          refine takeD (i := 6) (d := some 46) (v := ?_) rfl (by kernel_rfl) (by kernel_rfl) (by kernel_rfl) (by kernel_rfl) (fun _ _ _ h => h) (Or.inl ⟨by kernel_rfl, fun X hX => Or.inl ?_⟩) (by assumption) ?_
          rotate_left
          · (have hXn := hX.n; have hXw := hX.wd; have hXk := hX.k; have hXs := hX.s); first | (go_simp; done) | (go_simp; with_reducible rfl)
          try simp only [Act.put, List.setIfInBounds_toArray, List.set_cons_zero, List.set_cons_succ]
          refine takeD (i := 7) (d := some 47) (v := ?_) rfl (by kernel_rfl) (by kernel_rfl) (by kernel_rfl) (by kernel_rfl) (fun _ _ _ h => h) (Or.inl ⟨by kernel_rfl, fun X hX => Or.inl ?_⟩) (by assumption) ?_
          rotate_left
          · (have hXn := hX.n; have hXw := hX.wd; have hXk := hX.k; have hXs := hX.s); first | (go_simp; done) | (go_simp; with_reducible rfl)
          try simp only [Act.put, List.setIfInBounds_toArray, List.set_cons_zero, List.set_cons_succ]
          refine takeD (i := 8) (d := some 48) (v := ?_) rfl (by kernel_rfl) (by kernel_rfl) (by kernel_rfl) (by kernel_rfl) (fun _ _ _ h => h) (Or.inl ⟨by kernel_rfl, fun X hX => Or.inl ?_⟩) (by assumption) ?_
          rotate_left
          · (have hXn := hX.n; have hXw := hX.wd; have hXk := hX.k; have hXs := hX.s); first | (go_simp; done) | (go_simp; with_reducible rfl)
          try simp only [Act.put, List.setIfInBounds_toArray, List.set_cons_zero, List.set_cons_succ]
          refine takeD (i := 9) (d := some 49) (v := ?_) rfl (by kernel_rfl) (by kernel_rfl) (by kernel_rfl) (by kernel_rfl) (fun _ _ _ h => h) (Or.inl ⟨by kernel_rfl, fun X hX => Or.inl ?_⟩) (by assumption) ?_
          rotate_left
          · (have hXn := hX.n; have hXw := hX.wd; have hXk := hX.k; have hXs := hX.s); first | (go_simp; done) | (go_simp; with_reducible rfl)
          try simp only [Act.put, List.setIfInBounds_toArray, List.set_cons_zero, List.set_cons_succ]
          refine takeD (i := 10) (d := some 50) (v := ?_) rfl (by kernel_rfl) (by kernel_rfl) (by kernel_rfl) (by kernel_rfl) (fun _ _ _ h => h) (Or.inl ⟨by kernel_rfl, fun X hX => Or.inl ?_⟩) (by assumption) ?_
          rotate_left
          · (have hXn := hX.n; have hXw := hX.wd; have hXk := hX.k; have hXs := hX.s); first | (go_simp; done) | (go_simp; with_reducible rfl)
          try simp only [Act.put, List.setIfInBounds_toArray, List.set_cons_zero, List.set_cons_succ]
          refine wpAnyH_ready (rs := [11]) (by kernel_rfl) (by simp) ?_
          refine AllReadyH.cons rfl (fun K hK => ?_) AllReadyH.nil
          go_simp
          refine (wnum_all w1.heap.size w1.heap.size v bs x.n x.wd wr.drew HW.out hz hb9 HX.out.n).mono ?_
          rintro e w2 ⟨rfl, v2, hq2, hF2⟩
          have HW2 := Lib.hid hq2
          have HG2 := Lib.hid (HF.out.drew.trans' hF2 (WS_new HW.out (by omega) (by omega)))
          have HF2 := Lib.hid hF2
          have hz2 : w1.heap.size ≤ w2.heap.size := Nat.le_trans hz hF2.size
          clear hq2 hF2
          refine hK.out _ _ (hHeld.fr HF2.out hne) (fun hHeld => ?_)
          clear hK K
          try simp only [Act.put, List.setIfInBounds_toArray, List.set_cons_zero, List.set_cons_succ]
          refine takeD (i := 12) (d := some 7) (v := ?_) rfl (by kernel_rfl) (by kernel_rfl) (by kernel_rfl) (by kernel_rfl) (fun _ _ _ h => h) (Or.inl ⟨by kernel_rfl, fun X hX => Or.inl ?_⟩) (by assumption) ?_
          rotate_left
          · (have hXn := hX.n; have hXw := hX.wd; have hXk := hX.k; have hXs := hX.s); first | (go_simp; done) | (go_simp; with_reducible rfl)
          try simp only [Act.put, List.setIfInBounds_toArray, List.set_cons_zero, List.set_cons_succ]
          refine wpAnyH_done (by kernel_rfl) ?_ _
          have HAT2 := Lib.hid hHeld
          clear hHeld HF2 HW HF HAT
          go_wp2
          refine wp_region_held_drew (S := (fun X => ItAt q x X)) (by kernel_rfl) (HAT2.out.fr ((Fr.refl No w2).drew) id) (fun hHeld => ?_)
          refine takeD (i := 0) (d := some 53) (v := ?_) rfl (by kernel_rfl) (by kernel_rfl) (by kernel_rfl) (by kernel_rfl) (fun _ _ _ h => h) (Or.inl ⟨by kernel_rfl, fun X hX => Or.inl ?_⟩) (by assumption) ?_
          rotate_left
          · (have hXn := hX.n; have hXw := hX.wd; have hXk := hX.k; have hXs := hX.s); first | (go_simp; done) | (go_simp; with_reducible rfl)
          try simp only [Act.put, List.setIfInBounds_toArray, List.set_cons_zero, List.set_cons_succ]
          refine takeD (i := 1) (d := some 54) (v := ?_) rfl (by kernel_rfl) (by kernel_rfl) (by kernel_rfl) (by kernel_rfl) (fun _ _ _ h => h) (Or.inl ⟨by kernel_rfl, fun X hX => Or.inl ?_⟩) (by assumption) ?_
          rotate_left
          · (have hXn := hX.n; have hXw := hX.wd; have hXk := hX.k; have hXs := hX.s); first | (go_simp; done) | (go_simp; with_reducible rfl)
          try simp only [Act.put, List.setIfInBounds_toArray, List.set_cons_zero, List.set_cons_succ]
          refine takeD (i := 2) (d := some 55) (v := ?_) rfl (by kernel_rfl) (by kernel_rfl) (by kernel_rfl) (by kernel_rfl) (fun _ _ _ h => h) (Or.inl ⟨by kernel_rfl, fun X hX => Or.inl ?_⟩) (by assumption) ?_
          rotate_left
          · (have hXn := hX.n; have hXw := hX.wd; have hXk := hX.k; have hXs := hX.s); first | (go_simp; done) | (go_simp; with_reducible rfl)
          try simp only [Act.put, List.setIfInBounds_toArray, List.set_cons_zero, List.set_cons_succ]
          refine takeD (i := 3) (d := some 56) (v := ?_) rfl (by kernel_rfl) (by kernel_rfl) (by kernel_rfl) (by kernel_rfl) (fun _ _ _ h => h) (Or.inl ⟨by kernel_rfl, fun X hX => Or.inl ?_⟩) (by assumption) ?_
          rotate_left
          · (have hXn := hX.n; have hXw := hX.wd; have hXk := hX.k; have hXs := hX.s); first | (go_simp; done) | (go_simp; with_reducible rfl)
          try simp only [Act.put, List.setIfInBounds_toArray, List.set_cons_zero, List.set_cons_succ]
          refine takeD (i := 4) (d := some 57) (v := ?_) rfl (by kernel_rfl) (by kernel_rfl) (by kernel_rfl) (by kernel_rfl) (fun _ _ _ h => h) (Or.inl ⟨by kernel_rfl, fun X hX => Or.inl ?_⟩) (by assumption) ?_
          rotate_left
          · (have hXn := hX.n; have hXw := hX.wd; have hXk := hX.k; have hXs := hX.s); first | (go_simp; done) | (go_simp; with_reducible rfl)
          try simp only [Act.put, List.setIfInBounds_toArray, List.set_cons_zero, List.set_cons_succ]
          refine takeD (i := 5) (d := some 58) (v := ?_) rfl (by kernel_rfl) (by kernel_rfl) (by kernel_rfl) (by kernel_rfl) (fun _ _ _ h => h) (Or.inl ⟨by kernel_rfl, fun X hX => Or.inl ?_⟩) (by assumption) ?_
          rotate_left
          · (have hXn := hX.n; have hXw := hX.wd; have hXk := hX.k; have hXs := hX.s); first | (go_simp; done) | (go_simp; with_reducible rfl)
          try simp only [Act.put, List.setIfInBounds_toArray, List.set_cons_zero, List.set_cons_succ]
          refine takeD (i := 6) (d := some 59) (v := ?_) rfl (by kernel_rfl) (by kernel_rfl) (by kernel_rfl) (by kernel_rfl) (fun _ _ _ h => h) (Or.inl ⟨by kernel_rfl, fun X hX => Or.inl ?_⟩) (by assumption) ?_
          rotate_left
          · (have hXn := hX.n; have hXw := hX.wd; have hXk := hX.k; have hXs := hX.s); first | (go_simp; done) | (go_simp; with_reducible rfl)
          try simp only [Act.put, List.setIfInBounds_toArray, List.set_cons_zero, List.set_cons_succ]
          refine takeD (i := 7) (d := some 60) (v := ?_) rfl (by kernel_rfl) (by kernel_rfl) (by kernel_rfl) (by kernel_rfl) (fun _ _ _ h => h) (Or.inl ⟨by kernel_rfl, fun X hX => Or.inl ?_⟩) (by assumption) ?_
          rotate_left
          · (have hXn := hX.n; have hXw := hX.wd; have hXk := hX.k; have hXs := hX.s); first | (go_simp; done) | (go_simp; with_reducible rfl)
          try simp only [Act.put, List.setIfInBounds_toArray, List.set_cons_zero, List.set_cons_succ]
          refine takeD (i := 8) (d := some 61) (v := ?_) rfl (by kernel_rfl) (by kernel_rfl) (by kernel_rfl) (by kernel_rfl) (fun _ _ _ h => h) (Or.inl ⟨by kernel_rfl, fun X hX => Or.inl ?_⟩) (by assumption) ?_
          rotate_left
          · (have hXn := hX.n; have hXw := hX.wd; have hXk := hX.k; have hXs := hX.s); first | (go_simp; done) | (go_simp; with_reducible rfl)
          try simp only [Act.put, List.setIfInBounds_toArray, List.set_cons_zero, List.set_cons_succ]
          refine takeD (i := 9) (d := some 62) (v := ?_) rfl (by kernel_rfl) (by kernel_rfl) (by kernel_rfl) (by kernel_rfl) (fun _ _ _ h => h) (Or.inl ⟨by kernel_rfl, fun X hX => Or.inl ?_⟩) (by assumption) ?_
          rotate_left
          · (have hXn := hX.n; have hXw := hX.wd; have hXk := hX.k; have hXs := hX.s); first | (go_simp; done) | (go_simp; with_reducible rfl)
          try simp only [Act.put, List.setIfInBounds_toArray, List.set_cons_zero, List.set_cons_succ]
          refine wpAnyH_ready (rs := [10]) (by kernel_rfl) (by simp) ?_
          refine AllReadyH.cons rfl (fun K hK => ?_) AllReadyH.nil
          go_simp
          refine (refnum_all x.n x.wd w2.drew HX.out.n).mono ?_
          rintro e w3 ⟨rfl, hF3⟩
          have HW3 := Lib.hid ((wr_drew HW2.out).fr hF3 id (fun _ _ => id))
          have HG3 := Lib.hid (HG2.out.drew.trans hF3)
          have HF3 := Lib.hid hF3
          have hz3 : w1.heap.size ≤ w3.heap.size := Nat.le_trans hz2 hF3.size
          clear hF3
          refine hK.out _ _ (hHeld.fr HF3.out id) (fun hHeld => ?_)
          clear hK K
          try simp only [Act.put, List.setIfInBounds_toArray, List.set_cons_zero, List.set_cons_succ]
          refine takeD (i := 11) (d := some 52) (v := ?_) rfl (by kernel_rfl) (by kernel_rfl) (by kernel_rfl) (by kernel_rfl) (fun _ _ _ h => h) (Or.inl ⟨by kernel_rfl, fun X hX => Or.inl ?_⟩) (by assumption) ?_
          rotate_left
          · (have hXn := hX.n; have hXw := hX.wd; have hXk := hX.k; have hXs := hX.s); first | (go_simp; done) | (go_simp; with_reducible rfl)
          try simp only [Act.put, List.setIfInBounds_toArray, List.set_cons_zero, List.set_cons_succ]
          refine takeD (i := 12) (d := some 64) (v := ?_) rfl (by kernel_rfl) (by kernel_rfl) (by kernel_rfl) (by kernel_rfl) (fun _ _ _ h => h) (Or.inl ⟨by kernel_rfl, fun X hX => Or.inl ?_⟩) (by assumption) ?_
          rotate_left
          · (have hXn := hX.n; have hXw := hX.wd; have hXk := hX.k; have hXs := hX.s); first | (go_simp; done) | (go_simp; with_reducible rfl)
          try simp only [Act.put, List.setIfInBounds_toArray, List.set_cons_zero, List.set_cons_succ]
          refine takeD (i := 13) (d := some 65) (v := ?_) rfl (by kernel_rfl) (by kernel_rfl) (by kernel_rfl) (by kernel_rfl) (fun _ _ _ h => h) (Or.inl ⟨by kernel_rfl, fun X hX => Or.inl ?_⟩) (by assumption) ?_
          rotate_left
          · (have hXn := hX.n; have hXw := hX.wd; have hXk := hX.k; have hXs := hX.s); first | (go_simp; done) | (go_simp; with_reducible rfl)
          try simp only [Act.put, List.setIfInBounds_toArray, List.set_cons_zero, List.set_cons_succ]
          refine takeD (i := 14) (d := some 6) (v := ?_) rfl (by kernel_rfl) (by kernel_rfl) (by kernel_rfl) (by kernel_rfl) (fun _ _ _ h => h) (Or.inl ⟨by kernel_rfl, fun X hX => Or.inl ?_⟩) (by assumption) ?_
          rotate_left
          · (have hXn := hX.n; have hXw := hX.wd; have hXk := hX.k; have hXs := hX.s); first | (go_simp; done) | (go_simp; with_reducible rfl)
          try simp only [Act.put, List.setIfInBounds_toArray, List.set_cons_zero, List.set_cons_succ]
          refine takeD (i := 15) (d := some 8) (v := ?_) rfl (by kernel_rfl) (by kernel_rfl) (by kernel_rfl) (by kernel_rfl) (fun _ _ _ h => h) (Or.inl ⟨by kernel_rfl, fun X hX => Or.inl ?_⟩) (by assumption) ?_
          rotate_left
          · (have hXn := hX.n; have hXw := hX.wd; have hXk := hX.k; have hXs := hX.s); first | (go_simp; done) | (go_simp; with_reducible rfl)
          try simp only [Act.put, List.setIfInBounds_toArray, List.set_cons_zero, List.set_cons_succ]
          refine wpAnyH_done (by kernel_rfl) ?_ _
          clear hHeld HF3 HW2 HG2 HAT2
          have hcat := str_append bs (numOf x.n x.wd).1
          have heq : ((str (bs ++ (numOf x.n x.wd).1)).toList == (str (bs ++ (numOf x.n x.wd).1)).toList) = true := by simp
          have hsb := str_size bs
          have hst := str_size (numOf x.n x.wd).1
          have htl : (numOf x.n x.wd).1.length ≤ 65 := numOf_le _ _
          have hff : ((numOf x.n x.wd).2 != (numOf x.n x.wd).2) = false := by simp
          go_wp2_with fail
          refine (bytes_any _ _ _ _ _ HW3.out).mono ?_
          rintro e w9 ⟨rfl, rfl⟩
          go_wp2
          refine ⟨⟨i + 1, _, bs ++ (numOf x.n x.wd).1, by omega, by simp, rfl, by rw [List.length_append]; omega, HW3.out, hz3, HG3.out⟩, by simp [intOf]; omega⟩
        · by_cases h1 : x.k = 1
          · rw [h1] at hk
            have hb9 : bs.length ≤ 1048000 := by omega
            have HLD := Lib.hid (HAT.out.load HX.out.h)
            go_wp2_with (refine wpList_load_eq rfl 30 _ rfl (.pointer (some ⟨q.block, q.off + 3, none⟩)) (.agg (x.hs.map u8v).toArray) rfl HLD.out ?_)
            refine (whash_any w1.heap.size w1.heap.size v bs x.hs wr HW.out hz hb9 HX.out.h).mono ?_
            rintro e w2 ⟨rfl, v2, hq2, hF2⟩
            have HW2 := Lib.hid hq2
            have HG2 := Lib.hid (HF.out.trans' hF2 (WS_new HW.out (by omega) (by omega)))
            have hz2 : w1.heap.size ≤ w2.heap.size := Nat.le_trans hz hF2.size
            have HLD2 := Lib.hid ((HAT.out.fr hF2 hne).load HX.out.h)
            clear hq2 hF2 HW HF HAT HLD
            go_wp2_with (refine wpList_load_eq rfl 30 _ rfl (.pointer (some ⟨q.block, q.off + 3, none⟩)) (.agg (x.hs.map u8v).toArray) rfl HLD2.out ?_)
            refine (refhash_any x.hs w2 HX.out.h).mono ?_
            rintro e w3 ⟨rfl, hF3⟩
            have HW3 := Lib.hid (HW2.out.fr hF3 id (fun _ _ => id))
            have HG3 := Lib.hid (HG2.out.trans hF3)
            have hz3 : w1.heap.size ≤ w3.heap.size := Nat.le_trans hz2 hF3.size
            clear hF3 HW2 HG2
            have hcat := str_append bs x.hs
            have heq : ((str (bs ++ x.hs)).toList == (str (bs ++ x.hs)).toList) = true := by simp
            have hsb := str_size bs
            have hst := str_size x.hs
            have htl : x.hs.length ≤ 65 := by rw [HX.out.h]; omega
            go_wp2_with fail
            refine (bytes_any _ _ _ _ _ HW3.out).mono ?_
            rintro e w9 ⟨rfl, rfl⟩
            go_wp2
            refine ⟨⟨i + 1, _, bs ++ x.hs, by omega, by simp, rfl, by rw [List.length_append]; omega, HW3.out, hz3, HG3.out⟩, by simp [intOf]; omega⟩
          · by_cases h2 : x.k = 2
            · rw [h2] at hk
              have hb9 : bs.length ≤ 1048000 := by omega
              go_wp2_with fail
              refine (wtext_all w1.heap.size w1.heap.size v bs x.s wr HW.out hz hb9).mono ?_
              rintro e w2 ⟨rfl, v2, hq2, hF2⟩
              have HW2 := Lib.hid hq2
              have HG2 := Lib.hid (HF.out.trans' hF2 (WS_new HW.out (by omega) (by omega)))
              have hz2 : w1.heap.size ≤ w2.heap.size := Nat.le_trans hz hF2.size
              have hs2 := (HAT.out.fr hF2 hne).s
              clear hq2 hF2 HW HF HAT
              go_wp2_with fail
              refine (reftext_all x.s w2).mono ?_
              rintro e w3 ⟨rfl, hF3⟩
              have HW3 := Lib.hid (HW2.out.fr hF3 id (fun _ _ => id))
              have HG3 := Lib.hid (HG2.out.trans hF3)
              have hz3 : w1.heap.size ≤ w3.heap.size := Nat.le_trans hz2 hF3.size
              clear hF3 HW2 HG2
              have hcat := str_append bs (textOf x.s).1
              have heq : ((str (bs ++ (textOf x.s).1)).toList == (str (bs ++ (textOf x.s).1)).toList) = true := by simp
              have hsb := str_size bs
              have hst := str_size (textOf x.s).1
              have htl : (textOf x.s).1.length ≤ 65 := textOf_le _
              have hff : ((textOf x.s).2 != (textOf x.s).2) = false := by simp
              go_wp2_with fail
              refine (bytes_any _ _ _ _ _ HW3.out).mono ?_
              rintro e w9 ⟨rfl, rfl⟩
              go_wp2
              refine ⟨⟨i + 1, _, bs ++ (textOf x.s).1, by omega, by simp, rfl, by rw [List.length_append]; omega, HW3.out, hz3, HG3.out⟩, by simp [intOf]; omega⟩
            · have hk0 : (x.k == 0) = false := by simpa using h0
              have hk1 : (x.k == 1) = false := by simpa using h1
              have hk2 : (x.k == 2) = false := by simpa using h2
              have hcat : str bs ++ (⟨#[]⟩ : ByteArray) = str bs := by have := str_append bs []; rwa [List.append_nil] at this
              have heq : ((str bs).toList == (str bs).toList) = true := by simp
              have hsb := str_size bs
              go_wp2_with fail
              refine (bytes_any _ _ _ _ _ HW.out).mono ?_
              rintro e w9 ⟨rfl, rfl⟩
              go_wp2
              refine ⟨⟨i + 1, _, bs, by omega, by simp, rfl, by omega, HW.out, hz, HF.out⟩, by simp [intOf]; omega⟩
    · have heq : ((str bs).toList == (str bs).toList) = true := by simp
      go_wp2_with fail
      refine (bytes_any _ _ _ _ _ HW.out).mono ?_
      rintro e w9 ⟨rfl, rfl⟩
      go_wp2
      go_ret
      exact ⟨rfl, HF.out⟩

set_option maxHeartbeats 400000 in
theorem writes_long (ao : Option Addr) (len cap : Nat) (w : World) (hlen : 100 < len) :
    Calls Try.prog 3 #[.slice ao len cap] w fun e w' => e = .returned (.bool true) ∧ Fr No w w' := by
  have hl1 : (100 : Int) < len := by omega
  go_enter Try.func3, Try.ntmps3
  go_wp2_with fail
  refine (shown1_any _).mono ?_
  rintro e w1 ⟨rfl, hF⟩
  have HF1 := Lib.hid hF
  clear hF
  go_wp2
  go_ret
  exact ⟨rfl, HF1.out⟩

set_option maxHeartbeats 400000 in
theorem writes_nil (w : World) :
    Calls Try.prog 3 #[.slice none 0 0] w fun e w' => e = .returned (.bool true) ∧ Fr No w w' := by
  have heq : (str []).toList.isEmpty = true := by rw [str_toList]; rfl
  go_enter Try.func3, Try.ntmps3
  go_wp2_with fail
  refine (shown1_any _).mono ?_
  rintro e w1 ⟨rfl, hF⟩
  have HF1 := Lib.hid hF
  clear hF
  go_wp2_with fail
  refine wp_loop_rounds 1 ?_
  rw [rounds_succ]
  go_wp2_with fail
  refine (bytes_any _ _ _ _ _ (Wr.new w1.heap.size w1)).mono ?_
  rintro e w9 ⟨rfl, rfl⟩
  go_wp2
  go_ret
  exact ⟨rfl, HF1.out.alloc _⟩

theorem writes_all (v : Value) (w : World) (hv : v = .slice none 0 0 ∨ ∃ (a : Addr) (len cap : Nat) (xs : Nat → It), v = .slice (some a) len cap ∧ ∀ i, i < len → (xs i).Ok ∧ ItAt (a.add (i * 36)) (xs i) w) :
    Calls Try.prog 3 #[v] w fun e w' => e = .returned (.bool true) ∧ Fr No w w' := by
  rcases hv with rfl | ⟨a, len, cap, xs, rfl, hok⟩
  · exact writes_nil w
  · by_cases h : 100 < len
    · exact writes_long _ _ _ w h
    · exact writes_walk a len cap xs w (by omega) hok
end Go.Proofs.Ythmpadhhbkielaa
