import Derived.Test.YthmpadhhbkielaaOct8
import Derived.Test.YthmpadhhbkielaaOctB
namespace Go.Proofs.Ythmpadhhbkielaa
open Go.RowKit
set_option linter.unusedVariables false

theorem mask_wrap (k : Nat) (hk : k ≤ 7) : IntKind.u64.wrap (IntKind.u64.wrap (2 ^ (8 * k)) - 1) = ((2 ^ (8 * k) - 1 : Nat) : Int) := by
  have : k = 0 ∨ k = 1 ∨ k = 2 ∨ k = 3 ∨ k = 4 ∨ k = 5 ∨ k = 6 ∨ k = 7 := by omega
  rcases this with h | h | h | h | h | h | h | h <;> subst h <;> decide

theorem mask_and (a k : Nat) (ha : a < 2 ^ 64) (hk : k ≤ 7) : bits .and .u64 (a : Int) ((2 ^ (8 * k) - 1 : Nat) : Int) = ((a % 2 ^ (8 * k) : Nat) : Int) := by
  have h : 2 ^ (8 * k) ≤ 2 ^ 56 := Nat.pow_le_pow_right (by omega) (by omega)
  have h0 : 0 < 2 ^ (8 * k) := Nat.two_pow_pos _
  rw [u64_and_nat _ _ (by omega) (by omega), Nat.and_two_pow_sub_one_eq_mod]

theorem Wr.keep {B p q : Nat} {v : Value} {bs : List UInt8} {w w' : World} (h : Wr B p v bs w) (hF : Fr (WS q (.slice none 0 0)) w w') (h1 : p ≠ q) (h2 : q < B) : Wr B p v bs w' :=
  h.fr hF (by rintro (e | e); exact h1 e; simp [Value.ownBlock] at e) (fun k hk => by
    rintro (e | e)
    · have := (h.2.lt k hk).1; omega
    · simp [Value.ownBlock] at e)

theorem Fr.keep {q : Nat} {a w w' : World} (h : Fr No a w) (hF : Fr (WS q (.slice none 0 0)) w w') (hq : a.heap.size ≤ q) : Fr No a w' :=
  h.trans' hF (fun i hi => by
    rintro (e | e)
    · omega
    · simp [Value.ownBlock] at e)

set_option maxHeartbeats 400000 in
set_option maxRecDepth 100000 in
theorem order_walk (a b wd : Nat) (ha : a < 2 ^ 64) (hb : b < 2 ^ 64) (hwd : wd < 256) (w : World) :
    Calls Try.prog 6 #[.int .u64 a, .int .u64 b, .int .u8 wd] w fun e w' => e = .returned (.bool true) ∧ Fr No w w' := by
  obtain ⟨k, hk, k1, k7⟩ : ∃ k : Nat, (1 : Int) + (wd : Int) % 7 = (k : Int) ∧ 1 ≤ k ∧ k ≤ 7 := ⟨1 + wd % 7, by omega, by omega, by omega⟩
  obtain ⟨k', hk'⟩ : ∃ k' : Nat, (k : Int) + 1 = (k' : Int) := ⟨k + 1, by omega⟩
  obtain ⟨M, hM, hMa⟩ : ∃ M : Nat, IntKind.u64.wrap (IntKind.u64.wrap (2 ^ (8 * k)) - 1) = (M : Int) ∧ M = 2 ^ (8 * k) - 1 := ⟨_, mask_wrap k k7, rfl⟩
  obtain ⟨x, hx, hx2⟩ : ∃ x : Nat, bits .and .u64 (a : Int) (M : Int) = (x : Int) ∧ x < 256 ^ k := ⟨_, by rw [hMa]; exact mask_and a k ha k7, by rw [show 256 = 2 ^ 8 from rfl, ← Nat.pow_mul]; exact Nat.mod_lt _ (Nat.two_pow_pos _)⟩
  obtain ⟨y, hy, hy2⟩ : ∃ y : Nat, bits .and .u64 (b : Int) (M : Int) = (y : Int) ∧ y < 256 ^ k := ⟨_, by rw [hMa]; exact mask_and b k hb k7, by rw [show 256 = 2 ^ 8 from rfl, ← Nat.pow_mul]; exact Nat.mod_lt _ (Nat.two_pow_pos _)⟩
  have HK := Lib.hid hk'
  have HX := Lib.hid hx2
  have HY := Lib.hid hy2
  clear hMa hx2 hy2 ha hb
  go_enter Try.func6, Try.ntmps6
  go_wp2_with fail
  obtain ⟨W, hW⟩ : ∃ W, W = (((w.alloc (.cells #[.slice none 0 0] 27)).alloc (.cells #[.slice none 0 0] 27)).alloc (.cells #[.slice none 0 0] 27)) := ⟨_, rfl⟩
  have hs : W.heap.size = w.heap.size + 3 := by rw [hW]; simp
  have hF0 : Fr No w W := by rw [hW]; exact (((Fr.refl No w).alloc _).alloc _).alloc _
  have wx : Wr (w.heap.size + 3) w.heap.size (.slice none 0 0) [] W := ⟨by rw [hW, Below.heap_alloc _ _ _ (by simp; omega), Below.heap_alloc _ _ _ (by simp)]; exact heap_alloc_new w _, World.ownsRow_nil _ _ _ _⟩
  have wy : ∀ B, Wr B (w.heap.size + 1) (.slice none 0 0) [] W := fun B => ⟨by rw [hW, Below.heap_alloc _ _ _ (by simp)]; simpa using heap_alloc_new (w.alloc (.cells #[.slice none 0 0] 27)) (.cells #[.slice none 0 0] 27), World.ownsRow_nil _ _ _ _⟩
  have wz : ∀ B, Wr B (w.heap.size + 1 + 1) (.slice none 0 0) [] W := fun B => ⟨by rw [hW]; simpa using heap_alloc_new ((w.alloc (.cells #[.slice none 0 0] 27)).alloc (.cells #[.slice none 0 0] 27)) (.cells #[.slice none 0 0] 27), World.ownsRow_nil _ _ _ _⟩
  rw [← hW]
  have HWX := Lib.hid wx
  have HWY := Lib.hid wy
  have HWZ := Lib.hid wz
  have HS := Lib.hid hs
  have HF0 := Lib.hid hF0
  clear hW wx wy wz hs hF0
  refine (wnum_ok (w.heap.size + 3) w.heap.size _ [] x k _ HWX.out (by rw [HS.out]; omega) (by simp) k1 (by omega) HX.out).mono ?_
  rintro e w1 ⟨rfl, v1, hq, hF⟩
  rw [List.nil_append] at hq
  have HQ1 := Lib.hid hq
  have HF1 := Lib.hid hF
  clear hq hF
  go_wp2_with fail
  refine (wnum_ok w1.heap.size (w.heap.size + 1) _ [] y k _ ((HWY.out _).keep HF1.out (by omega) (by have := HF1.out.size; have := HS.out; omega)) (Nat.le_refl _) (by simp) k1 (by omega) HY.out).mono ?_
  rintro e w2 ⟨rfl, v2, hq, hF⟩
  rw [List.nil_append] at hq
  have HQ2 := Lib.hid hq
  have HF2 := Lib.hid hF
  have HQ1b := Lib.hid (HQ1.out.keep hF (by omega) (by omega))
  clear hq hF
  go_wp2_with fail
  obtain rfl : k' = k + 1 := by have := HK.out; omega
  clear hk'
  refine (wnum_ok w2.heap.size (w.heap.size + 1 + 1) _ [] x (k + 1) _ (((HWZ.out _).keep HF1.out (by omega) (by have := HF1.out.size; have := HF2.out.size; have := HS.out; omega)).keep HF2.out (by omega) (by have := HF1.out.size; have := HF2.out.size; have := HS.out; omega)) (Nat.le_refl _) (by simp) (by omega) (by omega) (Nat.lt_of_lt_of_le HX.out (Nat.pow_le_pow_right (by omega) (by omega)))).mono ?_
  rintro e w3 ⟨rfl, v3, hq, hF⟩
  rw [List.nil_append] at hq
  have HQ3 := Lib.hid hq
  have HQ1c := Lib.hid (HQ1b.out.keep hF (by omega) (by omega))
  have HQ2c := Lib.hid (HQ2.out.keep hF (by omega) (by have := HF1.out.size; have := HS.out; omega))
  have HFF := Lib.hid (((HF0.out.keep HF1.out (Nat.le_refl _)).keep HF2.out (by omega)).keep hF (by omega))
  clear hq hF HQ1 HQ1b HQ2 HF1 HF2 HF0 HS HWX HWY HWZ
  go_wp2_with fail
  refine (shown1_any _).mono ?_
  rintro e w4 ⟨rfl, hF⟩
  have HA := Lib.hid (HQ1c.out.fr hF id (fun _ _ => id))
  have HB := Lib.hid (HQ2c.out.fr hF id (fun _ _ => id))
  have HC := Lib.hid (HQ3.out.fr hF id (fun _ _ => id))
  have HF := Lib.hid (HFF.out.trans hF)
  clear hF
  go_wp2_with fail
  refine (bytes_any _ _ _ _ _ HA.out).mono ?_
  rintro e w5 ⟨rfl, rfl⟩
  go_wp2_with fail
  refine (bytes_any _ _ _ _ _ HB.out).mono ?_
  rintro e w5 ⟨rfl, rfl⟩
  have hsz : (str (beBytes x k)).size ≤ 8 := by rw [str_size, beBytes_length]; omega
  have hEq : ((str (beBytes x (k + 1))).toList == (({ data := #[0] } : ByteArray) ++ str (beBytes x k)).toList) = true := by
    rw [show ({ data := #[0] } : ByteArray) = str [0] from rfl, str_append, str_toList, str_toList, beBytes_zero x k HX.out]; simp
  have hL : Op.bytesLess (str (beBytes x k)).toList (str (beBytes y k)).toList = decide (x < y) := by
    rw [str_toList, str_toList, beBytes_less, Nat.mod_eq_of_lt HX.out, Nat.mod_eq_of_lt HY.out]
  rcases Nat.lt_or_ge x y with hxy | hxy
  · have hlt : (x : Int) < (y : Int) := by omega
    rw [decide_eq_true hxy] at hL
    go_wp2_with fail
    refine (bytes_any _ _ _ _ _ HC.out).mono ?_
    rintro e w5 ⟨rfl, rfl⟩
    go_wp2_with fail
    refine (bytes_any _ _ _ _ _ HA.out).mono ?_
    rintro e w5 ⟨rfl, rfl⟩
    go_wp2_with fail
    go_ret
    exact ⟨rfl, HF.out⟩
  · have hlt : ¬ (x : Int) < (y : Int) := by omega
    have hd : decide (x < y) = false := decide_eq_false (by omega)
    rw [hd] at hL
    go_wp2_with fail
    refine (bytes_any _ _ _ _ _ HC.out).mono ?_
    rintro e w5 ⟨rfl, rfl⟩
    go_wp2_with fail
    refine (bytes_any _ _ _ _ _ HA.out).mono ?_
    rintro e w5 ⟨rfl, rfl⟩
    go_wp2_with fail
    go_ret
    exact ⟨rfl, HF.out⟩
end Go.Proofs.Ythmpadhhbkielaa
