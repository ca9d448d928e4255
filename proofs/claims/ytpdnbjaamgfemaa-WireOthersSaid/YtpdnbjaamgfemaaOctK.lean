/- What a read comes to, said once for both readers. -/
import Derived.Test.YtpdnbjaamgfemaaOctJ
import Derived.Test.YtpdnbjaamgfemaaOctF
namespace Go.Proofs.Ytpdnbjaamgfemaa
open Go.RowKit
set_option linter.unusedVariables false
set_option maxRecDepth 100000

def numR (l : List UInt8) (k : Int) : Nat × Int × List UInt8 :=
  if 1 ≤ k ∧ k ≤ 8 then (if (l.length : Int) < k then (0, 10, l) else (beNat (l.take k.toNat), 0, l.drop k.toNat)) else (0, 1, l)

def hashR (l : List UInt8) : List UInt8 × Int × List UInt8 := if l.length < 32 then (List.replicate 32 0, 10, l) else (l.take 32, 0, l.drop 32)

def textR : List UInt8 → List UInt8 × Int × List UInt8
  | [] => ([], 10, [])
  | c :: l => if 64 < c.toNat then ([], 12, c :: l) else if l.length < c.toNat then ([], 10, c :: l) else (l.take c.toNat, 0, l.drop c.toNat)

theorem numR_err (l : List UInt8) (k : Int) (h : (numR l k).2.1 ≠ 0) : (numR l k).2.2 = l := by
  unfold numR at *
  split at h
  · split at h
    · rename_i h1 h2; rw [if_pos h1, if_pos h2]
    · exact absurd rfl h
  · rename_i h1; rw [if_neg h1]

theorem numR_len (l : List UInt8) (k : Int) : (numR l k).2.2.length ≤ l.length := by
  unfold numR
  split
  · split
    · exact Nat.le_refl _
    · simp
  · exact Nat.le_refl _

theorem hashR_err (l : List UInt8) (h : (hashR l).2.1 ≠ 0) : (hashR l).2.2 = l := by
  unfold hashR at *
  split at h
  · rename_i h1; rw [if_pos h1]
  · exact absurd rfl h

theorem hashR_len (l : List UInt8) : (hashR l).2.2.length ≤ l.length := by
  unfold hashR
  split
  · exact Nat.le_refl _
  · simp

theorem hashR_32 (l : List UInt8) : (hashR l).1.length = 32 := by
  unfold hashR
  split
  · simp
  · simp; omega

theorem textR_err (l : List UInt8) (h : (textR l).2.1 ≠ 0) : (textR l).2.2 = l := by
  cases l with
  | nil => rfl
  | cons c l =>
    simp only [textR] at h ⊢
    split at h
    · rename_i h1; rw [if_pos h1]
    · rename_i h1
      split at h
      · rename_i h2; rw [if_neg h1, if_pos h2]
      · exact absurd rfl h

theorem textR_len (l : List UInt8) : (textR l).2.2.length ≤ l.length := by
  cases l with
  | nil => exact Nat.le_refl _
  | cons c l =>
    simp only [textR]
    split
    · exact Nat.le_refl _
    · split
      · exact Nat.le_refl _
      · simp; omega

theorem Rd.here {b : Nat} {s : ByteArray} {w : World} (hc : w.cell? ⟨b, 0, none⟩ = some (.string s)) (hf : w.frozen? ⟨b, 0, none⟩ = false) : Rd b s w w := ⟨hc, hf, Fr.refl _ _⟩

theorem str_drop (l : List UInt8) (n : Nat) (h : n ≤ l.length) : (str l).extract n (str l).size = str (l.drop n) := by
  have e := str_extract1 (l.take n) (l.drop n)
  rw [List.take_append_drop, List.length_take, Nat.min_eq_left h] at e
  exact e

theorem rnum_all (b : Nat) (l : List UInt8) (k : Int) (w : World) (hc : w.cell? ⟨b, 0, none⟩ = some (.string (str l))) (hf : w.frozen? ⟨b, 0, none⟩ = false) (hm : l.length ≤ maxLen) :
    Calls Try.prog 69 #[.pointer (some ⟨b, 0, none⟩), .int .i64 k] w fun e w' => e = .returned (.tuple #[.int .u64 (numR l k).1, .int .i64 (numR l k).2.1]) ∧ Rd b (str (numR l k).2.2) w w' := by
  unfold numR
  split
  · rename_i h
    split
    · rename_i h2
      exact rnum_short b (str l) k w hc hf h.1 h.2 (by rw [str_size]; exact h2)
    · rename_i h2
      obtain ⟨n, rfl⟩ : ∃ n : Nat, k = (n : Int) := ⟨k.toNat, by omega⟩
      have e := rnum_ok b (str l) n w hc hf (by omega) (by omega) (by rw [str_size]; omega) (by rw [str_size]; exact hm)
      rw [str_drop l n (by omega)] at e
      exact e
  · rename_i h
    exact rnum_bad b (str l) k w hc hf h

theorem rrnum_all (b : Nat) (l : List UInt8) (k : Int) (w : World) (hc : w.cell? ⟨b, 0, none⟩ = some (.string (str l))) (hf : w.frozen? ⟨b, 0, none⟩ = false) (hm : l.length ≤ maxLen) :
    Calls Try.prog 32 #[.pointer (some ⟨b, 0, none⟩), .int .i64 k] w fun e w' => e = .returned (.tuple #[.int .u64 (numR l k).1, .int .i64 (numR l k).2.1]) ∧ Rd b (str (numR l k).2.2) w w' := by
  unfold numR
  split
  · rename_i h
    split
    · rename_i h2
      exact (rrnum_short b (str l) k w hc h.1 h.2 (by rw [str_size]; exact h2)).mono fun e w' ⟨he, hw⟩ => ⟨he, hw ▸ Rd.here hc hf⟩
    · rename_i h2
      obtain ⟨n, rfl⟩ : ∃ n : Nat, k = (n : Int) := ⟨k.toNat, by omega⟩
      have e := rrnum_ok b (str l) n w hc hf (by omega) (by omega) (by rw [str_size]; omega) (by rw [str_size]; exact hm)
      rw [str_drop l n (by omega)] at e
      exact e
  · rename_i h
    exact (rrnum_bad b (str l) k w hc h).mono fun e w' ⟨he, hw⟩ => ⟨he, hw ▸ Rd.here hc hf⟩

theorem rhash_all (b : Nat) (l : List UInt8) (w : World) (hc : w.cell? ⟨b, 0, none⟩ = some (.string (str l))) (hf : w.frozen? ⟨b, 0, none⟩ = false) (hm : l.length ≤ maxLen) :
    Calls Try.prog 68 #[.pointer (some ⟨b, 0, none⟩)] w fun e w' => e = .returned (.tuple #[.agg ((hashR l).1.map u8v).toArray, .int .i64 (hashR l).2.1]) ∧ Rd b (str (hashR l).2.2) w w' := by
  unfold hashR
  split
  · rename_i h
    exact rhash_short b (str l) w (by rw [str_size]; exact h) hc hf
  · rename_i h
    have e : l = l.take 32 ++ l.drop 32 := (List.take_append_drop _ _).symm
    rw [e] at hc hm
    exact rhash_ok b (l.take 32) (l.drop 32) w (by simp; omega) hc hf hm

theorem rrhash_all (b : Nat) (l : List UInt8) (w : World) (hc : w.cell? ⟨b, 0, none⟩ = some (.string (str l))) (hf : w.frozen? ⟨b, 0, none⟩ = false) (hm : l.length ≤ maxLen) :
    Calls Try.prog 33 #[.pointer (some ⟨b, 0, none⟩)] w fun e w' => e = .returned (.tuple #[.agg ((hashR l).1.map u8v).toArray, .int .i64 (hashR l).2.1]) ∧ Rd b (str (hashR l).2.2) w w' := by
  unfold hashR
  split
  · rename_i h
    exact rrhash_short b (str l) w (by rw [str_size]; exact h) hc hf
  · rename_i h
    have e : l = l.take 32 ++ l.drop 32 := (List.take_append_drop _ _).symm
    rw [e] at hc hm
    exact rrhash_ok b (l.take 32) (l.drop 32) w (by simp; omega) hc hf hm

end Go.Proofs.Ytpdnbjaamgfemaa
