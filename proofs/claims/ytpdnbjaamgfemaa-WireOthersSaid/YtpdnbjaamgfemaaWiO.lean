/- What bytes tell holds to a message's types; a message's bytes are few. -/
import Derived.Test.YtpdnbjaamgfemaaWiL
namespace Go.Proofs.Ytpdnbjaamgfemaa
open Go.RowKit
set_option linter.unusedVariables false
set_option maxRecDepth 100000

theorem beNat_w (s : List UInt8) (k : Nat) (h : k ≤ s.length) : beNat (s.take k) < 256 ^ k := by
  have := beNat_lt (s.take k)
  rwa [List.length_take, Nat.min_eq_left h] at this
theorem read_ok : ∀ (l : List UInt8) (m : Msg) (s : List UInt8), m.Ok → s.length = lenB l → (readF m l s).Ok
  | [], m, _, hm, _ => hm
  | d :: l, m, s, hm, hs => by
    rw [lenB] at hs
    rw [readF]
    refine read_ok l _ _ ?_ (by rw [List.length_drop]; omega)
    unfold setF
    split
    · rename_i h; subst h
      have h8 : widthB 105 = 8 := rfl
      have := beNat_w s 8 (by omega)
      rw [h8]
      exact { hm with i := by dsimp only; omega }
    split
    · rename_i h; subst h
      have h8 : widthB 97 = 8 := rfl
      have := beNat_w s 8 (by omega)
      rw [h8]
      exact { hm with a := by dsimp only; omega }
    split
    · rename_i h; subst h
      have h8 : widthB 104 = 32 := rfl
      exact { hm with h := by dsimp only; rw [List.length_take]; omega }
    split
    · rename_i h; subst h
      have h8 : widthB 101 = 4 := rfl
      have := beNat_w s 4 (by omega)
      rw [h8]
      exact { hm with e := by dsimp only; omega }
    split
    · rename_i h; subst h
      have h8 : widthB 110 = 2 := rfl
      have := beNat_w s 2 (by omega)
      rw [h8]
      exact { hm with n := by dsimp only; omega }
    · exact hm
theorem decM_okM (l : List UInt8) : (decM l).1.Ok := by
  match l with
  | [] => exact zeroM_ok
  | b :: s =>
    by_cases h1 : b.toNat < 1
    · rw [decM, if_pos (Or.inl h1)]; exact zeroM_ok
    by_cases h9 : 9 < b.toNat
    · rw [decM, if_pos (Or.inr h9)]; exact zeroM_ok
    by_cases hs : s.length + 1 < 5 + lenB (fieldsB (b.toNat : Int))
    · rw [decM, if_neg (by omega), if_pos hs]; exact zeroM_ok
    by_cases hb : 5 + lenB (fieldsB (b.toNat : Int)) < s.length + 1
    · rw [decM, if_neg (by omega), if_neg hs, if_pos hb]; exact zeroM_ok
    rw [decM_told b s h1 h9 (by omega)]
    split
    · have := beNat_w s 4 (by omega)
      exact read_ok _ _ _ ⟨by dsimp only; omega, by dsimp only; omega, by dsimp only; omega, by rfl, by have := b.toNat_lt; dsimp only; omega, by dsimp only; omega, by dsimp only; omega⟩ (by rw [List.length_drop]; omega)
    · exact zeroM_ok
theorem enc_dec {l : List UInt8} (h : (decM l).2 = 0) : encV (decM l).1 = l ∧ encE (decM l).1 = 0 := by
  obtain ⟨h1, h2⟩ := decM_ok (m := (decM l).1) (Prod.ext rfl h)
  unfold encV encE
  rw [h1, if_pos rfl, if_pos rfl]
  exact ⟨h2, rfl⟩
theorem bytesM_le (m : Msg) (h : m.h.length = 32) : (bytesM m).length ≤ 133 := by
  rw [bytesM_len m h]
  have h1 := lenB_le (fieldsB m.k)
  have h2 := fields_len m.k
  omega
theorem encV_le (m : Msg) (h : m.h.length = 32) : (encV m).length ≤ 133 := by
  unfold encV
  split
  · exact bytesM_le m h
  · simp
end Go.Proofs.Ytpdnbjaamgfemaa
