/- One round of the program. -/
import Derived.Test.YtnpgcgemifoddaaDoorDigA
import Derived.BigQuiet
namespace Go.Proofs.YtnpgcgemifoddaaDoor
open Go.RowKit
set_option linter.unusedVariables false

theorem turned3 (x n1 n2 n3 : Nat) (w : World) (b : Nat) (t : TypeId) (hx : x < W32) (h1 : 1 ≤ n1 ∧ n1 ≤ 31) (h2 : 1 ≤ n2 ∧ n2 ≤ 31) (h3 : 1 ≤ n3 ∧ n3 ≤ 31) (hr : w.heap[b]? = some (.cells #[.int .i64 n1, .int .i64 n2, .int .i64 n3] t (0, 0))) :
    Calls Tryd.prog 48 #[.int .u32 x, .slice (some ⟨b, 0, none⟩) 3 3] w fun e w' => e = .returned (.int .u32 ((rotr x n1 ^^^ rotr x n2 ^^^ rotr x n3 : Nat) : Int)) ∧ w' = w := by
  have h := turned_any x [n1, n2, n3] b t w hx (by simp; omega) (by simp) hr
  simpa [xors] using h

theorem turned2 (x n1 n2 : Nat) (w : World) (b : Nat) (t : TypeId) (hx : x < W32) (h1 : 1 ≤ n1 ∧ n1 ≤ 31) (h2 : 1 ≤ n2 ∧ n2 ≤ 31) (hr : w.heap[b]? = some (.cells #[.int .i64 n1, .int .i64 n2] t (0, 0))) :
    Calls Tryd.prog 48 #[.int .u32 x, .slice (some ⟨b, 0, none⟩) 2 2] w fun e w' => e = .returned (.int .u32 ((rotr x n1 ^^^ rotr x n2 : Nat) : Int)) ∧ w' = w := by
  have h := turned_any x [n1, n2] b t w hx (by simp; omega) (by simp) hr
  simpa [xors] using h

theorem not_nat (x : Nat) (h : x < W32) : 4294967295 ^^^ x = 4294967295 - x := by
  apply Nat.eq_of_testBit_eq
  intro i
  rw [Nat.testBit_xor, show 4294967295 - x = 2 ^ 32 - (x + 1) by omega, Nat.testBit_two_pow_sub_succ h, show (4294967295 : Nat) = 2 ^ 32 - 1 from rfl, Nat.testBit_two_pow_sub_one]
  by_cases hi : i < 32
  · simp [hi]
  · have : x.testBit i = false := Nat.testBit_lt_two_pow (Nat.lt_of_lt_of_le h (Nat.pow_le_pow_right (n := 2) (by omega) (show 32 ≤ i by omega)))
    simp [hi, this]

theorem cho_bits (e f g : Nat) (he : e < W32) (hf : f < W32) (hg : g < W32) :
    bits .xor .u32 (bits .and .u32 (e : Int) (f : Int)) (bits .and .u32 (bits .xor .u32 IntKind.u32.max (e : Int)) (g : Int)) = ((cho e f g : Nat) : Int) := by
  have h1 := u32_xor_nat 4294967295 e (by decide) he
  rw [not_nat e he] at h1
  rw [show IntKind.u32.max = ((4294967295 : Nat) : Int) by decide, h1, u32_and_nat e f he hf, u32_and_nat _ g (by omega) hg, u32_xor_nat _ _ (and_lt hf) (and_lt hg)]
  rfl

theorem maj_bits (a b c : Nat) (ha : a < W32) (hb : b < W32) (hc : c < W32) :
    bits .xor .u32 (bits .xor .u32 (bits .and .u32 (a : Int) (b : Int)) (bits .and .u32 (a : Int) (c : Int))) (bits .and .u32 (b : Int) (c : Int)) = ((maj a b c : Nat) : Int) := by
  rw [u32_and_nat a b ha hb, u32_and_nat a c ha hc, u32_and_nat b c hb hc, u32_xor_nat _ _ (and_lt hb) (and_lt hc), u32_xor_nat _ _ (xor_lt (and_lt hb) (and_lt hc)) (and_lt hc)]
  rfl

theorem alloc2_new (w : World) (o p : Obj) : ((w.alloc o).alloc p).heap[w.heap.size + 1]? = some p := by
  have h := heap_alloc_new (w.alloc o) p
  rwa [World.size_alloc] at h

theorem alloc3_new (w : World) (o p q : Obj) : (((w.alloc o).alloc p).alloc q).heap[w.heap.size + 2]? = some q := by
  have h := heap_alloc_new ((w.alloc o).alloc p) q
  rwa [World.size_alloc, World.size_alloc] at h

set_option maxHeartbeats 1000000 in
theorem round_any (a b c d e f g h kw : Nat) (w : World) (hw : Ws [a, b, c, d, e, f, g, h]) :
    Calls Tryd.prog 47 #[.agg #[.int .u32 a, .int .u32 b, .int .u32 c, .int .u32 d, .int .u32 e, .int .u32 f, .int .u32 g, .int .u32 h], .int .u32 kw] w fun ex w' => ex = .returned (.agg (arr .u32 (rnd [a, b, c, d, e, f, g, h] kw))) ∧ Fr No w w' := by
  have ha : a < W32 := hw _ (by simp)
  have hb : b < W32 := hw _ (by simp)
  have hc : c < W32 := hw _ (by simp)
  have hd : d < W32 := hw _ (by simp)
  have he : e < W32 := hw _ (by simp)
  have hf : f < W32 := hw _ (by simp)
  have hg : g < W32 := hw _ (by simp)
  have hh : h < W32 := hw _ (by simp)
  clear hw
  have hcho := cho_bits e f g he hf hg
  have hmaj := maj_bits a b c ha hb hc
  have hval : (#[.int .u32 (((h : Int) + ((rotr e 6 ^^^ rotr e 11 ^^^ rotr e 25 : Nat) : Int) + ((cho e f g : Nat) : Int) + (kw : Int) + (((rotr a 2 ^^^ rotr a 13 ^^^ rotr a 22 : Nat) : Int) + ((maj a b c : Nat) : Int))) % 4294967296),
      .int .u32 a, .int .u32 b, .int .u32 c, .int .u32 (((d : Int) + ((h : Int) + ((rotr e 6 ^^^ rotr e 11 ^^^ rotr e 25 : Nat) : Int) + ((cho e f g : Nat) : Int) + (kw : Int))) % 4294967296),
      .int .u32 e, .int .u32 f, .int .u32 g] : Array Value) = arr .u32 (rnd [a, b, c, d, e, f, g, h] kw) := by
    have e1 : (((h + b1 e + cho e f g + kw) % W32 + (b0 a + maj a b c) % W32) % W32 : Nat) = (h + b1 e + cho e f g + kw + (b0 a + maj a b c)) % W32 := by rw [← Nat.add_mod]
    have e2 : ((d + (h + b1 e + cho e f g + kw) % W32) % W32 : Nat) = (d + (h + b1 e + cho e f g + kw)) % W32 := by rw [Nat.add_mod_mod]
    simp only [arr, rnd, List.map, vi, e1, e2]
    simp [b0, b1]
  have HV := Lib.hid hval
  clear hval hb hc hf hg hh
  go_enter Tryd.func47, Tryd.ntmps47
  go_wp2
  go_quiet (fail)
  obtain ⟨W1, hF, hR, hs1⟩ : ∃ W1 : World, Fr No w W1 ∧ Row W1 (w.heap.size + 1) 85 .u32 (List.replicate 8 0) ∧ W1 = (((w.alloc (Obj.cells #[.int .u32 a, .int .u32 b, .int .u32 c, .int .u32 d, .int .u32 e, .int .u32 f, .int .u32 g, .int .u32 h] 85)).alloc (Obj.cells #[.int .u32 0, .int .u32 0, .int .u32 0, .int .u32 0, .int .u32 0, .int .u32 0, .int .u32 0, .int .u32 0] 85)).drewN nq) :=
    ⟨_, (((Fr.refl No w).alloc _).alloc _).drewN nq, by
      have := heap_alloc_new (w.alloc (Obj.cells #[.int .u32 a, .int .u32 b, .int .u32 c, .int .u32 d, .int .u32 e, .int .u32 f, .int .u32 g, .int .u32 h] 85)) (Obj.cells #[.int .u32 0, .int .u32 0, .int .u32 0, .int .u32 0, .int .u32 0, .int .u32 0, .int .u32 0, .int .u32 0] 85)
      rw [World.size_alloc] at this
      exact this, rfl⟩
  rw [← hs1]
  clear hs1
  have HR := Lib.hid hR
  have HF := Lib.hid hF
  clear hR hF
  go_wp2_with fail
  refine (turned3 e 6 11 25 _ _ _ he (by omega) (by omega) (by omega) (heap_alloc_new W1 _)).mono ?_
  rintro ex w2 ⟨rfl, rfl⟩
  have hsg : IntKind.u32.signed = false := rfl
  go_wp2_with fail
  refine (turned3 a 2 13 22 _ _ _ ha (by omega) (by omega) (by omega) (alloc2_new W1 _ _)).mono ?_
  rintro ex w2 ⟨rfl, hw2⟩
  have HR2 : Hid (Row w2 (w.heap.size + 1) 85 .u32 (List.replicate 8 0)) := Lib.hid (by rw [hw2]; exact (HR.out.alloc _).alloc _)
  have HF2 : Hid (Fr No w w2) := Lib.hid (by rw [hw2]; exact (HF.out.alloc _).alloc _)
  clear HR HF hw2
  go_wp2_with (refine wpList_store_row rfl 85 _ _ rfl (w.heap.size + 1) rfl _ rfl HR2.out arW8 rfl (by rfl) (by simp [Value.oneCell']) ?_)
  rw [HV.out]
  refine bodyPost_ret (results_cell1 rfl rfl (HR2.out.setRow.loadVar arW8 (rnd_len (by rfl) kw))) rfl ?_
  exact ⟨rfl, fr_setRow HF2.out (.inr (by omega)) _⟩
end Go.Proofs.YtnpgcgemifoddaaDoor
