import Derived.Test.YtpdnbjaamgfemaaOct5
namespace Go.Proofs.Ytpdnbjaamgfemaa
open Go.RowKit
set_option linter.unusedVariables false
set_option maxRecDepth 100000

/-- Byte number j of n in k bytes, the highest one first. -/
def beByte (n k j : Nat) : UInt8 := UInt8.ofNat (n / 2 ^ (8 * (k - 1 - j)) % 256)
def beBytes (n k : Nat) : List UInt8 := (List.range k).map (beByte n k)

/-- The array behind i rounds. -/
def numArr (n k i : Nat) : Array Value := ((List.range 8).map fun j => if k ≤ i + j ∧ j < k then u8v (beByte n k j) else .int .u8 0).toArray

theorem numArr_get (n k i j : Nat) (hj : j < 8) : (numArr n k i)[j]? = some (if k ≤ i + j ∧ j < k then u8v (beByte n k j) else .int .u8 0) := by
  simp [numArr, hj]

theorem numArr_zero (n k : Nat) : numArr n k 0 = #[.int .u8 0, .int .u8 0, .int .u8 0, .int .u8 0, .int .u8 0, .int .u8 0, .int .u8 0, .int .u8 0] := by
  have h : ∀ j, (if k ≤ 0 + j ∧ j < k then u8v (beByte n k j) else .int .u8 0) = .int .u8 0 := fun j => if_neg (by omega)
  simp only [numArr, h]
  rfl

theorem numArr_set (n k i : Nat) (hi : i < k) (hk : k ≤ 8) : (numArr n k i).setIfInBounds (k - 1 - i) (u8v (beByte n k (k - 1 - i))) = numArr n k (i + 1) := by
  apply Array.ext_getElem?
  intro j
  by_cases hj : j < 8
  · rw [Array.getElem?_setIfInBounds, numArr_get _ _ _ _ hj, numArr_get _ _ _ _ hj]
    have hs : (numArr n k i).size = 8 := by simp [numArr]
    rw [hs]
    by_cases e : k - 1 - i = j
    · subst e
      simp only [if_true, hj]
      rw [if_pos (by omega)]
    · rw [if_neg e]
      by_cases h1 : k ≤ i + j ∧ j < k
      · rw [if_pos h1, if_pos (by omega)]
      · rw [if_neg h1, if_neg (by omega)]
  · have hs : (numArr n k i).size = 8 := by simp [numArr]
    have hs' : (numArr n k (i + 1)).size = 8 := by simp [numArr]
    rw [Array.getElem?_eq_none (by rw [Array.size_setIfInBounds]; omega), Array.getElem?_eq_none (by omega)]

theorem num_byte (n k i : Nat) (h : i < k) : Value.int .u8 ((n : Int) / 2 ^ (8 * i) % 256) = u8v (beByte n k (k - 1 - i)) := by
  have e : k - 1 - (k - 1 - i) = i := by omega
  have h2 : ((n : Int) / 2 ^ (8 * i) % 256) = ((n / 2 ^ (8 * i) % 256 : Nat) : Int) := by simp
  simp only [u8v, beByte, e, h2]
  congr 2
  simp

theorem high_zero (n k : Nat) (h : n < 256 ^ k) : ((n : Int) / 2 ^ (8 * k) != 0) = false := by
  have e : (256 : Nat) ^ k = 2 ^ (8 * k) := by rw [Nat.pow_mul]
  rw [e] at h
  have h2 : (n : Int) / 2 ^ (8 * k) = ((n / 2 ^ (8 * k) : Nat) : Int) := by simp
  rw [h2, Nat.div_eq_of_lt h]
  rfl

set_option maxHeartbeats 400000 in
theorem wnum_ok (B p : Nat) (v : Value) (bs : List UInt8) (n k : Nat) (w : World) (hw : Wr B p v bs w) (hB : B ≤ w.heap.size) (hn : bs.length ≤ 1048000) (h1 : 1 ≤ k) (h2 : k ≤ 8) (hlt : n < 256 ^ k) :
    Calls Try.prog 63 #[.pointer (some ⟨p, 0, none⟩), .int .u64 n, .int .i64 k] w fun e w' => e = .returned (.int .i64 0) ∧ ∃ v', Wr B p v' (bs ++ beBytes n k) w' ∧ Fr (WS p v) w w' := by
  have g1 : 1 ≤ (k : Int) := by omega
  have g2 : (k : Int) ≤ 8 := by omega
  have hz := high_zero n k hlt
  have HW := Lib.hid hw
  clear hw hlt
  go_enter Try.func63, Try.ntmps63
  go_wp2_with (go_at_call 65; refine (width_yes _ _ g1 g2).mono ?_; rintro e w' ⟨rfl, rfl⟩)
  go_loopw [20] (fun c wr => ∃ i : Nat, i ≤ k ∧ c = .int .i64 i ∧ wr = w.alloc (.cells (numArr n k i) 112)) (fun c _ => k - (intOf c).toNat)
  case atStart => exact ⟨0, Nat.zero_le _, rfl, by rw [numArr_zero]⟩
  case round =>
    obtain ⟨i, hi, rfl, rfl⟩ := hrel
    by_cases hlt : i < k
    · have hg := numArr_get n k i (k - 1 - i) (by omega)
      go_wp2
      refine ⟨⟨i + 1, by omega, by simp, ?_⟩, by simp [intOf]; omega⟩
      rw [← numArr_set n k i hlt h2, num_byte n k i hlt]
    · obtain rfl : i = k := by omega
      have hnews : ∀ j u, ((beBytes n i).map u8v)[j]? = some u → (w.alloc (.cells (numArr n i i) 112)).cell? ((⟨w.heap.size, 0, none⟩ : Addr).add j) = some u := by
        intro j u hu
        have hj : j < i := by
          have := List.getElem?_eq_some_iff.1 hu |>.1
          simpa [beBytes] using this
        rw [Addr.add_lit, World.cell?_alloc_at _ _ _ _ rfl]
        simp only [Nat.zero_add]
        rw [numArr_get _ _ _ _ (by omega), if_pos (by omega), ← hu]
        simp [beBytes, hj]
      have HN := Lib.hid hnews
      clear hnews
      go_wp2_with fail
      have e8 : (beBytes n i).length = i := by simp [beBytes]
      have hput := put_any B p v bs (beBytes n i) ⟨w.heap.size, 0, none⟩ 8 (w.alloc (.cells (numArr n i i) 112)) (HW.out.fr (S := No) ((Fr.refl _ _).alloc _) id (fun _ _ => id)) (by simp; omega) (by rw [e8]; omega) HN.out
      rw [e8] at hput
      refine hput.mono ?_
      rintro e w1 ⟨rfl, v', hq1, hq2⟩
      have H1 := Lib.hid hq1
      have H2 := Lib.hid hq2
      clear hq1 hq2 hput e8
      go_wp2
      go_ret
      exact ⟨rfl, v', H1.out, ((Fr.refl (WS p v) w).alloc _).trans H2.out⟩

set_option maxHeartbeats 400000 in
theorem wnum_bad (p : Nat) (n : Int) (k : Int) (w : World) (h : ¬ (1 ≤ k ∧ k ≤ 8)) :
    Calls Try.prog 63 #[.pointer (some ⟨p, 0, none⟩), .int .u64 n, .int .i64 k] w fun e w' => e = .returned (.int .i64 1) ∧ w = w' := by
  have H := Lib.hid h
  clear h
  go_enter Try.func63, Try.ntmps63
  go_wp2_with (go_at_call 65; refine (width_no _ _ H.out).mono ?_; rintro e w' ⟨rfl, rfl⟩)
  go_ret
  exact ⟨rfl, rfl⟩

set_option maxHeartbeats 400000 in
theorem wnum_high (p : Nat) (n k : Nat) (w : World) (h1 : 1 ≤ k) (h2 : k ≤ 8) (h : ((n : Int) / 2 ^ (8 * k) != 0) = true) :
    Calls Try.prog 63 #[.pointer (some ⟨p, 0, none⟩), .int .u64 n, .int .i64 k] w fun e w' => e = .returned (.int .i64 1) ∧ w = w' := by
  have g1 : 1 ≤ (k : Int) := by omega
  have g2 : (k : Int) ≤ 8 := by omega
  go_enter Try.func63, Try.ntmps63
  go_wp2_with (go_at_call 65; refine (width_yes _ _ g1 g2).mono ?_; rintro e w' ⟨rfl, rfl⟩)
  go_ret
  exact ⟨rfl, rfl⟩
end Go.Proofs.Ytpdnbjaamgfemaa
