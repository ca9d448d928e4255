/- The document's own writers: what they return. -/
import Derived.Test.YtpdnbjaamgfemaaClo
import Derived.Test.YtpdnbjaamgfemaaOctB
namespace Go.Proofs.Ytpdnbjaamgfemaa
open Go.RowKit
set_option linter.unusedVariables false
set_option maxRecDepth 100000

theorem conv_1 (X : World) (c : UInt8) (m : Int) (hm : m = (c.toNat : Int)) (g : Nat) (hg : g = X.heap.size) :
    (convert 48 9 (.slice (some ⟨g, 0, none⟩) 1 1)).run Try.prog (X.alloc (.cells #[.int .u8 m] 5)) = .ok (.string (str [c])) (X.alloc (.cells #[.int .u8 m] 5)) := by
  subst hm
  subst hg
  refine conv_cells (l := [c]) 1 fun j u hu => ?_
  rw [Addr.add_lit, World.cell?_alloc_at _ _ _ _ rfl]
  simpa using hu

set_option maxHeartbeats 400000 in
theorem refnum_bad (n : Int) (k : Int) (w : World) (h : ¬ (1 ≤ k ∧ k ≤ 8)) :
    Calls Try.prog 23 #[.int .u64 n, .int .i64 k] w fun e w' => e = .returned (.tuple #[.string ⟨#[]⟩, .int .i64 1]) ∧ w = w' := by
  by_cases h1 : k < 1
  · go_enter Try.func23, Try.ntmps23
    go_wp2
    go_ret2
    exact ⟨rfl, rfl⟩
  · have h2 : 8 < k := by omega
    clear h
    go_enter Try.func23, Try.ntmps23
    go_wp2
    go_ret2
    exact ⟨rfl, rfl⟩

theorem ref_byte (n j : Nat) : (UInt8.ofNat (n / 256 ^ j % 256)).toNat = n / 256 ^ j % 256 := by simp

set_option maxHeartbeats 400000 in
theorem refnum_any (n k : Nat) (w : World) (h1 : 1 ≤ k) (h2 : k ≤ 8) (hn : n < 2 ^ 64) :
    Calls Try.prog 23 #[.int .u64 n, .int .i64 k] w fun e w' => ∃ (t : ByteArray) (f : Int), e = .returned (.tuple #[.string t, .int .i64 f]) ∧ ((n / 256 ^ k = 0 ∧ t = str (beBytes n k) ∧ f = 0) ∨ (0 < n / 256 ^ k ∧ t = ⟨#[]⟩ ∧ f = 1)) ∧ Fr No w w' := by
  have g1 : ¬ (k : Int) < 1 := by omega
  have g2 : ¬ 8 < (k : Int) := by omega
  have HN := Lib.hid hn
  clear hn
  go_enter Try.func23, Try.ntmps23
  go_wp2_with fail
  go_loopw [0, 6, 7] (fun a s c wr => ∃ j q : Nat, j ≤ k ∧ q = n / 256 ^ j ∧ c = .int .i64 j ∧ a = .int .u64 (q : Int) ∧ s = .string (str (beBytes n j)) ∧ Fr No w wr) (fun _ _ c _ => k - (intOf c).toNat)
  case atStart => exact ⟨0, n, Nat.zero_le _, by simp, rfl, rfl, rfl, Fr.refl _ _⟩
  case round =>
    obtain ⟨j, q, hj, hq, rfl, rfl, rfl, hF⟩ := hrel
    have HF := Lib.hid hF
    have HQ := Lib.hid hq
    clear hF hq
    have hsz := str_size (beBytes n j)
    rw [beBytes_length] at hsz
    by_cases hlt : j < k
    · have ht : (q : Int).tmod 256 = (q : Int) % 256 := Int.tmod_eq_emod_of_nonneg (by omega)
      have hd : (q : Int).tdiv 256 = ((q / 256 : Nat) : Int) := by rw [Int.tdiv_eq_ediv_of_nonneg (by omega)]; rfl
      have hcv := fun X => conv_1 X (UInt8.ofNat (q % 256)) ((q : Int) % 256) (by simp)
      have hcat : str [UInt8.ofNat (q % 256)] ++ str (beBytes n j) = str (beBytes n (j + 1)) := by rw [str_append, beBytes_succ, pow8, ← HQ.out]; rfl
      have hs1 : (str [UInt8.ofNat (q % 256)]).size = 1 := rfl
      go_wp2
      have hq2 : q < 2 ^ 64 := by rw [HQ.out]; exact Nat.lt_of_le_of_lt (Nat.div_le_self _ _) HN.out
      have hwr : IntKind.u64.wrap ((q : Int) / 256) = ((q / 256 : Nat) : Int) := by rw [IntKind.wrap_u64]; omega
      refine ⟨⟨j + 1, q / 256, by omega, by rw [HQ.out, Nat.div_div_eq_div_mul, Nat.pow_succ], by simp, by rw [hwr], rfl, HF.out.alloc _⟩, by simp [intOf]; omega⟩
    · obtain rfl : j = k := by omega
      by_cases h0 : q = 0
      · subst h0
        go_wp2
        go_ret2
        exact ⟨_, _, rfl, .inl ⟨HQ.out.symm, rfl, rfl⟩, HF.out⟩
      · have h0' : 0 < (q : Int) := by omega
        go_wp2
        go_ret2
        exact ⟨_, _, rfl, .inr ⟨by have := HQ.out; omega, rfl, rfl⟩, HF.out⟩

set_option maxHeartbeats 400000 in
theorem refhash_any (hs : List UInt8) (w : World) (hl : hs.length = 32) :
    Calls Try.prog 24 #[.agg (hs.map u8v).toArray] w fun e w' => e = .returned (.string (str hs)) ∧ Fr No w w' := by
  have hcv : (convert 48 9 (.slice (some ⟨w.heap.size, 0, none⟩) 32 32)).run Try.prog (w.alloc (.cells (hs.map u8v).toArray 25)) = .ok (.string (str hs)) (w.alloc (.cells (hs.map u8v).toArray 25)) := by
    have h := conv_cells (w := w.alloc (.cells (hs.map u8v).toArray 25)) (ad := ⟨w.heap.size, 0, none⟩) (l := hs) 32 (fun j u hu => by
      rw [Addr.add_lit, World.cell?_alloc_at _ _ _ _ rfl]
      simpa using hu)
    rwa [hl] at h
  clear hl
  go_enter Try.func24, Try.ntmps24
  go_wp2
  go_ret
  exact ⟨rfl, (Fr.refl No w).alloc _⟩

end Go.Proofs.Ytpdnbjaamgfemaa
