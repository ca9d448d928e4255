/- What Decode's steps tell is what the document tells: plain. -/
import Derived.Test.YtpdnbjaamgfemaaWpN
namespace Go.Proofs.Ytpdnbjaamgfemaa
open Go.RowKit
set_option linter.unusedVariables false
set_option maxRecDepth 100000

/-- The field of a letter. -/
def toFd (c : UInt8) : Fd := if c = 105 then .id else if c = 97 then .amount else if c = 104 then .hash else if c = 101 then .expiry else .count

theorem numR_fits {s : List UInt8} {k : Nat} (hk : 1 ≤ k ∧ k ≤ 8) : numR s (k : Int) = if s.length < k then (0, 10, s) else (beNat (s.take k), 0, s.drop k) := by
  unfold numR
  rw [if_pos (by omega), Int.toNat_natCast]
  by_cases h : s.length < k
  · rw [if_pos h, if_pos (by omega)]
  · rw [if_neg h, if_neg (by omega)]
theorem beNat_take {s : List UInt8} {k : Nat} : beNat (s.take k) < 256 ^ k := by
  have h1 := beNat_lt (s.take k)
  have h2 : (s.take k).length ≤ k := by simp; omega
  exact Nat.lt_of_lt_of_le h1 (Nat.pow_le_pow_right (by omega) h2)

theorem stepV_num {m : Msg} {d : Fd} (hd : d ≠ .hash) {s : List UInt8} {k : Nat} (hw : d.width = (k : Int)) (hk : 1 ≤ k ∧ k ≤ 8) :
    stepF numV hshV d (m, s) = if s.length < k then .error 10 else .ok (d.put m (beNat (s.take k)), s.drop k) := by
  unfold stepF numV
  rw [if_neg hd]
  dsimp only
  rw [hw, numR_fits hk]
  by_cases h : s.length < k
  · simp [h]
  · simp [h]
theorem stepV_hash {m : Msg} {s : List UInt8} : stepF numV hshV .hash (m, s) = if s.length < 32 then .error 10 else .ok ({ m with h := s.take 32 }, s.drop 32) := by
  unfold stepF hshV hashR
  rw [if_pos rfl]
  by_cases h : s.length < 32
  · simp [h]
  · simp [h]

theorem stepV (m : Msg) (s : List UInt8) {c : UInt8} (hc : c = 105 ∨ c = 97 ∨ c = 104 ∨ c = 101 ∨ c = 110) :
    stepF numV hshV (toFd c) (m, s) = if s.length < widthB c then .error 10 else .ok (setF m c (s.take (widthB c)), s.drop (widthB c)) := by
  rcases hc with rfl | rfl | rfl | rfl | rfl
  · exact stepV_num (d := .id) (by decide) (k := 8) rfl (by decide)
  · exact stepV_num (d := .amount) (by decide) (k := 8) rfl (by decide)
  · exact stepV_hash
  · have h := stepV_num (m := m) (d := .expiry) (by decide) (s := s) (k := 4) rfl (by decide)
    have h4 : beNat (s.take 4) < 4294967296 := beNat_take
    have e : Fd.expiry.put m (beNat (s.take 4)) = setF m 101 (s.take 4) := by
      simp only [Fd.put]
      rw [i64_id _ (by omega) (by omega)]
      rfl
    rw [e] at h
    exact h
  · have h := stepV_num (m := m) (d := .count) (by decide) (s := s) (k := 2) rfl (by decide)
    have h4 : beNat (s.take 2) < 65536 := beNat_take
    have e : Fd.count.put m (beNat (s.take 2)) = setF m 110 (s.take 2) := by
      simp only [Fd.put]
      rw [i64_id _ (by omega) (by omega)]
      rfl
    rw [e] at h
    exact h

theorem stepsV : ∀ (cs : List UInt8) (m : Msg) (s : List UInt8), (∀ c ∈ cs, c = 105 ∨ c = 97 ∨ c = 104 ∨ c = 101 ∨ c = 110) →
    stepsF numV hshV (cs.map toFd) (m, s) = if s.length < lenB cs then .error 10 else .ok (readF m cs s, s.drop (lenB cs))
  | [], m, s, _ => by simp [stepsF, lenB, readF]
  | c :: cs, m, s, h => by
    rw [List.map_cons, stepsF, stepV m s (h c (List.mem_cons_self ..)), lenB]
    by_cases h1 : s.length < widthB c
    · rw [if_pos h1, if_pos (by omega)]
    · rw [if_neg h1]
      show stepsF numV hshV (cs.map toFd) (setF m c (s.take (widthB c)), s.drop (widthB c)) = _
      rw [stepsV cs _ _ (fun d hd => h d (List.mem_cons_of_mem _ hd)), List.length_drop, List.drop_drop]
      by_cases h2 : s.length - widthB c < lenB cs
      · rw [if_pos h2, if_pos (by omega)]
      · rw [if_neg h2, if_neg (by omega)]
        rfl

theorem fields_map {k : Int} (h1 : 1 ≤ k) (h2 : k ≤ 9) : fieldsL k = .chan :: (fieldsB k).map toFd := by
  rcases kinds h1 h2 with rfl | rfl | rfl | rfl | rfl | rfl | rfl | rfl | rfl <;> rfl

theorem readR_is (l : List UInt8) : readR l = decM l := by
  cases l with
  | nil => rfl
  | cons b s =>
    have hb := b.toNat_lt
    have h1 : stepsF numV hshV [.kind] (zeroM, b :: s) = .ok ({ zeroM with k := (b.toNat : Int) }, s) := by
      rw [stepsF, stepV_num (d := .kind) (by decide) (k := 1) rfl (by decide), if_neg (by simp)]
      have e1 : beNat (List.take 1 (b :: s)) = b.toNat := by simp [beNat]
      show stepsF numV hshV [] _ = _
      rw [e1, stepsF]
      simp only [Fd.put, List.drop_succ_cons, List.drop_zero]
      rw [i64_id _ (by omega) (by omega)]
    unfold readR
    rw [h1]
    simp only [decM]
    by_cases hk : 1 ≤ (b.toNat : Int) ∧ (b.toNat : Int) ≤ 9
    · rw [if_pos hk, if_neg (by omega), fields_map hk.1 hk.2, stepsF, stepV_num (d := .chan) (by decide) (k := 4) rfl (by decide)]
      by_cases h4 : s.length < 4
      · rw [if_pos h4, if_pos (by omega)]
      · rw [if_neg h4]
        have h5 : beNat (s.take 4) < 4294967296 := beNat_take
        have e2 : Fd.chan.put { zeroM with k := (b.toNat : Int) } (beNat (s.take 4)) = ⟨(b.toNat : Int), beNat (s.take 4), 0, 0, zeroH, 0, 0⟩ := by
          simp only [Fd.put]
          rw [u32_int _ (by omega) (by omega), Int.toNat_natCast]
          rfl
        rw [e2]
        dsimp only
        rw [stepsV _ _ _ (fields_is _), List.length_drop]
        by_cases h6 : s.length - 4 < lenB (fieldsB (b.toNat : Int))
        · rw [if_pos h6, if_pos (by omega)]
        · rw [if_neg h6, if_neg (by omega)]
          dsimp only
          rw [List.drop_drop, List.length_drop]
          by_cases h7 : 5 + lenB (fieldsB (b.toNat : Int)) < s.length + 1
          · rw [if_pos h7, if_neg (by omega)]
          · rw [if_neg h7, if_pos (by omega)]
            rfl
    · rw [if_neg hk, if_pos (by omega)]
end Go.Proofs.Ytpdnbjaamgfemaa
