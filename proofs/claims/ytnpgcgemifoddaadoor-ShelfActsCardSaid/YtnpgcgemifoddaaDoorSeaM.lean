/- The numbers of layer 3: keys as they are filled and mixed, tags, hashes; said once for the program and for the document. -/
import Derived.Test.YtnpgcgemifoddaaDoorDigM
namespace Go.Proofs.YtnpgcgemifoddaaDoor
set_option linter.unusedVariables false

abbrev nb (l : List UInt8) : List Nat := l.map (·.toNat)
abbrev bn (l : List Nat) : List UInt8 := l.map UInt8.ofNat
/-- All are bytes. -/
def B8 (l : List Nat) : Prop := ∀ x ∈ l, x < 256

theorem nb_b8 (l : List UInt8) : B8 (nb l) := fun x hx => by
  obtain ⟨b, _, rfl⟩ := List.mem_map.1 hx
  exact b.toNat_lt
theorem bn_nb (l : List UInt8) : bn (nb l) = l := by
  rw [bn, nb, List.map_map]
  conv => rhs; rw [← List.map_id l]
  exact List.map_congr_left fun b _ => by simp
theorem nb_bn {l : List Nat} (h : B8 l) : nb (bn l) = l := by
  rw [nb, bn, List.map_map]
  conv => rhs; rw [← List.map_id l]
  apply List.map_congr_left
  intro x hx
  have := h x hx
  simp
  omega
theorem B8.getD {l : List Nat} (h : B8 l) (i : Nat) : l.getD i 0 < 256 := by
  rw [List.getD_eq_getElem?_getD]
  cases hq : l[i]? with
  | none => simp
  | some x => simpa using h x (List.mem_of_getElem? hq)

theorem hashL_b8 (h : List Nat) : B8 (hashL h 32) := fun x hx => by
  obtain ⟨j, hj, rfl⟩ := List.getElem_of_mem hx
  have hl := hashL_len h 32
  have h2 := hashL_get h 32 (Nat.le_refl _) j (by omega)
  rw [List.getD_eq_getElem?_getD, List.getElem?_eq_getElem hj] at h2
  have h3 : (hashL h 32)[j] = hbyte h j := h2
  rw [h3]
  exact hbyte_lt h j
theorem sumL_b8 (s : List UInt8) : B8 (sumL s) := hashL_b8 _
theorem sumL_len (s : List UInt8) : (sumL s).length = 32 := hashL_len _ _

/-- A key that is too long stands for its sum. -/
def keyL (k : List UInt8) : List UInt8 := if 64 < k.length then bn (sumL k) else k
theorem keyL_le (k : List UInt8) : (keyL k).length ≤ 64 := by
  unfold keyL
  split
  · rw [bn, List.length_map, sumL_len]; omega
  · omega
/-- With bytes 0 behind. -/
def fillL (k : List UInt8) : List UInt8 := k ++ List.replicate (64 - k.length) 0
theorem fillL_len {k : List UInt8} (h : k.length ≤ 64) : (fillL k).length = 64 := by simp [fillL]; omega
theorem fillL_getD (k : List UInt8) (i : Nat) : (fillL k).getD i 0 = k.getD i 0 := by
  simp only [fillL, List.getD_eq_getElem?_getD, List.getElem?_append, List.getElem?_replicate]
  by_cases h : i < k.length
  · rw [if_pos h]
  · rw [if_neg h, List.getElem?_eq_none (by omega)]
    split <;> rfl
def mixL (k : List UInt8) (m : UInt8) : List UInt8 := (fillL k).map (· ^^^ m)
theorem mixL_len {k : List UInt8} (m : UInt8) (h : k.length ≤ 64) : (mixL k m).length = 64 := by rw [mixL, List.length_map, fillL_len h]
def innerL (k s : List UInt8) : List Nat := sumL (mixL (keyL k) 54 ++ s)
def tagL (k s : List UInt8) : List Nat := sumL (mixL (keyL k) 92 ++ bn (innerL k s))
theorem tagL_len (k s : List UInt8) : (tagL k s).length = 32 := sumL_len _
theorem tagL_b8 (k s : List UInt8) : B8 (tagL k s) := sumL_b8 _
def ofL (p : List Nat) : List Nat := sumL (bn p)
theorem ofL_len (p : List Nat) : (ofL p).length = 32 := sumL_len _
theorem ofL_b8 (p : List Nat) : B8 (ofL p) := sumL_b8 _

theorem keyL_long {k : List UInt8} (h : 64 < k.length) : keyL k = bn (sumL k) := if_pos h
theorem keyL_short {k : List UInt8} (h : k.length ≤ 64) : keyL k = k := if_neg (by omega)

/-- A long key is as its sum. -/
theorem tagL_long {k : List UInt8} (s : List UInt8) (h : 64 < k.length) : tagL (bn (sumL k)) s = tagL k s := by
  have h2 : keyL (bn (sumL k)) = bn (sumL k) := keyL_short (by rw [bn, List.length_map, sumL_len]; omega)
  rw [tagL, tagL, innerL, innerL, h2, keyL_long h]

/-- Bytes 0 behind a short one change nothing. -/
theorem tagL_zeros {k : List UInt8} (s : List UInt8) (z : Nat) (h : k.length + z ≤ 64) : tagL (k ++ List.replicate z 0) s = tagL k s := by
  have h2 : keyL (k ++ List.replicate z 0) = k ++ List.replicate z 0 := keyL_short (by simp; omega)
  have h3 : fillL (k ++ List.replicate z 0) = fillL k := by
    rw [fillL, fillL, List.append_assoc, List.replicate_append_replicate, List.length_append, List.length_replicate, show z + (64 - (k.length + z)) = 64 - k.length by omega]
  rw [tagL, tagL, innerL, innerL, h2, keyL_short (by omega), mixL, mixL, h3]
  rfl

/-- The first i of the numbers mixed. -/
def xst (L : List Nat) (m i : Nat) : List Nat := (L.take i).map (· ^^^ m) ++ L.drop i
theorem xst_len (L : List Nat) (m i : Nat) : (xst L m i).length = L.length := by simp [xst]; omega
theorem xst_zero (L : List Nat) (m : Nat) : xst L m 0 = L := by simp [xst]
theorem xst_getD (L : List Nat) (m i : Nat) (h : i < L.length) : (xst L m i).getD i 0 = L.getD i 0 := by
  rw [xst, List.getD_eq_getElem?_getD, List.getD_eq_getElem?_getD, List.getElem?_append_right (by simp <;> omega), List.getElem?_drop]
  congr 2
  simp; omega
theorem xst_set (L : List Nat) (m i : Nat) (h : i < L.length) : (xst L m i).set i (L.getD i 0 ^^^ m) = xst L m (i + 1) := by
  have hl : ((L.take i).map (· ^^^ m)).length = i := by simp; omega
  rw [xst, xst, List.set_append_right _ _ (by omega), hl, Nat.sub_self, List.take_succ_eq_append_getElem h, List.map_append, List.append_assoc, List.drop_eq_getElem_cons h, List.set_cons_zero]
  simp [List.getD_eq_getElem?_getD, List.getElem?_eq_getElem h]
theorem xst_all (k : List UInt8) (m : UInt8) (h : k.length ≤ 64) : xst (nb (fillL k)) m.toNat 64 = nb (mixL k m) := by
  have hl := fillL_len h
  rw [xst, List.take_of_length_le (by rw [nb, List.length_map]; omega), List.drop_of_length_le (by rw [nb, List.length_map]; omega), List.append_nil, mixL, nb, nb, List.map_map, List.map_map]
  apply List.map_congr_left
  intro x _
  simp

set_option maxRecDepth 100000 in
theorem fox_tag : tagL [107, 101, 121] [84, 104, 101, 32, 113, 117, 105, 99, 107, 32, 98, 114, 111, 119, 110, 32, 102, 111, 120, 32, 106, 117, 109, 112, 115, 32, 111, 118, 101, 114, 32, 116, 104, 101, 32, 108, 97, 122, 121, 32, 100, 111, 103] =
    [0xf7, 0xbc, 0x83, 0xf4, 0x30, 0x53, 0x84, 0x24, 0xb1, 0x32, 0x98, 0xe6, 0xaa, 0x6f, 0xb1, 0x43, 0xef, 0x4d, 0x59, 0xa1, 0x49, 0x46, 0x17, 0x59, 0x97, 0x47, 0x9d, 0xbc, 0x2d, 0x1a, 0x3c, 0xd8] := by
  decide +kernel

end Go.Proofs.YtnpgcgemifoddaaDoor
