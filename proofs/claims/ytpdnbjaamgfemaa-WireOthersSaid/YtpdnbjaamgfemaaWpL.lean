/- What the fields of a kind come to, written: plain. -/
import Derived.Test.YtpdnbjaamgfemaaWpK
namespace Go.Proofs.Ytpdnbjaamgfemaa
open Go.RowKit
set_option linter.unusedVariables false
set_option maxRecDepth 100000

/-- The bytes of a field. -/
def bytesD (m : Msg) : Fd → List UInt8
  | .kind => beBytes m.k.toNat 1 | .chan => beBytes m.c 4 | .id => beBytes m.i 8 | .amount => beBytes m.a 8 | .hash => m.h | .expiry => beBytes m.e.toNat 4 | .count => beBytes m.n.toNat 2

theorem i64_id (n : Int) (h1 : 0 ≤ n) (h2 : n < 9223372036854775808) : IntKind.i64.wrap n = n := by
  have h1 : IntKind.i64.wrap n = if 9223372036854775808 ≤ n % 18446744073709551616 then n % 18446744073709551616 - 18446744073709551616 else n % 18446744073709551616 := by simp [IntKind.wrap, IntKind.signed, IntKind.bits]
  rw [h1]
  split <;> omega
theorem u64_int (n : Int) (h1 : 0 ≤ n) (h2 : n < 18446744073709551616) : IntKind.u64.wrap n = n := by
  have h1 : IntKind.u64.wrap n = n % 18446744073709551616 := by simp [IntKind.wrap, IntKind.signed, IntKind.bits]
  omega
theorem u32_int (n : Int) (h1 : 0 ≤ n) (h2 : n < 4294967296) : IntKind.u32.wrap n = n := by
  have h1 : IntKind.u32.wrap n = n % 4294967296 := by simp [IntKind.wrap, IntKind.signed, IntKind.bits]
  omega

structure Fits (m : Msg) : Prop where
  k : 1 ≤ m.k ∧ m.k ≤ 9
  e : 0 ≤ m.e ∧ m.e ≤ 1073741824
  n : 0 ≤ m.n ∧ m.n ≤ 65535
  a : m.a ≤ 1125899906842624
theorem fits_of {m : Msg} (h : may m = true) : Fits m := by
  unfold may boundOk at h
  rw [Bool.and_eq_true, decide_eq_true_iff] at h
  obtain ⟨⟨h1, h2, h3, h4, h5, h6, h7⟩, _⟩ := h
  exact ⟨⟨h1, h2⟩, ⟨h3, h4⟩, ⟨h5, h6⟩, h7⟩

theorem numOf_fits {n k : Nat} (hk : 1 ≤ k ∧ k ≤ 8) (hn : n < 256 ^ k) : numOf n (k : Int) = (beBytes n k, 0) := by
  unfold numOf
  rw [if_pos ⟨by omega, by omega, by rw [Int.toNat_natCast]; exact Nat.div_eq_of_lt hn⟩, Int.toNat_natCast]

theorem stepW_num {m : Msg} {d : Fd} (hd : d ≠ .hash) {n k : Nat} (t : List UInt8) (hr : d.raw m = n) (hw : d.width = (k : Int)) (hk : 1 ≤ k ∧ k ≤ 8) (hn : n < 256 ^ k) (hp : d.put m n = m) : stepF numW hshW d (m, t) = .ok (m, t ++ beBytes n k) := by
  unfold stepF numW
  rw [if_neg hd]
  dsimp only
  rw [hr, hw, numOf_fits hk hn]
  simp only [if_true]
  rw [hp]

theorem stepW (m : Msg) (ok : m.Ok) (f : Fits m) (d : Fd) (t : List UInt8) : stepF numW hshW d (m, t) = .ok (m, t ++ bytesD m d) := by
  obtain ⟨⟨a1, a2⟩, ⟨a3, a4⟩, ⟨a5, a6⟩, a7⟩ := f
  have o1 := ok.c
  have o2 := ok.i
  obtain ⟨k, c, i, a, h, e, n⟩ := m
  dsimp only at a1 a2 a3 a4 a5 a6 a7 o1 o2
  cases d
  · exact stepW_num (d := .kind) (n := k.toNat) (k := 1) (by decide) t (by simp only [Fd.raw]; rw [u64_int k (by omega) (by omega)]) rfl (by decide) (by omega) (by simp only [Fd.put]; rw [i64_id _ (by omega) (by omega), Int.toNat_of_nonneg (by omega)])
  · exact stepW_num (d := .chan) (n := c) (k := 4) (by decide) t rfl rfl (by decide) (by omega) (by simp only [Fd.put]; rw [u32_int _ (by omega) (by omega), Int.toNat_natCast])
  · exact stepW_num (d := .id) (n := i) (k := 8) (by decide) t rfl rfl (by decide) (by omega) rfl
  · exact stepW_num (d := .amount) (n := a) (k := 8) (by decide) t rfl rfl (by decide) (by omega) rfl
  · rfl
  · exact stepW_num (d := .expiry) (n := e.toNat) (k := 4) (by decide) t (by simp only [Fd.raw]; rw [u64_int e (by omega) (by omega)]) rfl (by decide) (by omega) (by simp only [Fd.put]; rw [i64_id _ (by omega) (by omega), Int.toNat_of_nonneg (by omega)])
  · exact stepW_num (d := .count) (n := n.toNat) (k := 2) (by decide) t (by simp only [Fd.raw]; rw [u64_int n (by omega) (by omega)]) rfl (by decide) (by omega) (by simp only [Fd.put]; rw [i64_id _ (by omega) (by omega), Int.toNat_of_nonneg (by omega)])

theorem stepsW (m : Msg) (ok : m.Ok) (f : Fits m) : ∀ (L : List Fd) (t : List UInt8), stepsF numW hshW L (m, t) = .ok (m, t ++ L.flatMap (bytesD m))
  | [], t => by simp [stepsF]
  | d :: L, t => by
    rw [stepsF, stepW m ok f d t]
    show stepsF numW hshW L (m, t ++ bytesD m d) = _
    rw [stepsW m ok f L, List.flatMap_cons, List.append_assoc]

theorem bytes_math (m : Msg) (f : Fits m) : bytesD m .kind ++ (fieldsL m.k).flatMap (bytesD m) = bytesM m := by
  obtain ⟨k, c, i, a, h, e, n⟩ := m
  have h1 := f.k.1
  have h2 := f.k.2
  dsimp only at h1 h2
  rcases kinds h1 h2 with rfl | rfl | rfl | rfl | rfl | rfl | rfl | rfl | rfl
  all_goals simp [bytesM, fieldsL, fieldsB, allOf, fieldOf, bytesD]
end Go.Proofs.Ytpdnbjaamgfemaa
