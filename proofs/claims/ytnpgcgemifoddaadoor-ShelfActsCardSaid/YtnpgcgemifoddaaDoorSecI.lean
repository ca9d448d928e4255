/- The program's numbers, its iterator over the bits of one, and the place that comes of it. -/
import Derived.RangeFuncNested
import Derived.RangeFuncBound
import Derived.RangeFuncCalls
import Derived.RangeFuncLeaves
import Derived.Shelf.Abstract
import Derived.Shelf.RegionOpen
import Derived.WalkKit
import Derived.OwnWalkIn
import Derived.TacticsInMore
import Derived.LoopNIn
import Derived.LoopIn
import Derived.IntWalk
import Derived.Test.YtnpgcgemifoddaaDoorSecM
import Derived.Test.YtnpgcgemifoddaaDoorProg
namespace Go.Proofs.YtnpgcgemifoddaaDoor
open Go.RowKit Go.Shelf
set_option linter.unusedVariables false
attribute [local go_sem] Oper.semAt_some

/-- 'x & 1' on an int that is no less than 0. -/
theorem and_one_i64 (a : Nat) (ha : a < 9223372036854775808) : bits .and .i64 (a : Int) 1 = ((a % 2 : Nat) : Int) := by
  show IntKind.i64.wrap ((BitVec.ofInt 64 (a : Int) &&& BitVec.ofInt 64 ((1 : Nat) : Int)).toNat : Int) = _
  rw [BitVec.toNat_and, BitVec.ofInt_natCast, BitVec.ofInt_natCast, BitVec.toNat_ofNat, BitVec.toNat_ofNat, Nat.mod_eq_of_lt (by omega), Nat.mod_eq_of_lt (by omega), Nat.and_one_is_mod]
  exact IntWalk.i64_in _ (by omega)

/-- The bit k of i, as the program asks for it. -/
theorem bit_i64 (i k : Nat) (hi : i < 65536) : bits .and .i64 ((i : Int) / 2 ^ k) 1 = if bit i k then 1 else 0 := by
  have h1 : ((i : Int) / 2 ^ k) = ((i / 2 ^ k : Nat) : Int) := by simp
  have h2 : i / 2 ^ k ≤ i := Nat.div_le_self _ _
  rw [h1, and_one_i64 _ (by omega), bit]
  obtain ⟨q, hq⟩ : ∃ q, q = i / 2 ^ k := ⟨_, rfl⟩
  rw [← hq]
  by_cases h : q % 2 = 1
  · simp [h]
  · have h3 : q % 2 = 0 := by omega
    simp [h3]

theorem isNumber_any (i : Int) (w : World) : Calls Tryd.prog 30 #[.int .i64 i] w fun ex w' => ex = .returned (.bool (num i)) ∧ w' = w := by
  have hn : num i = (decide (0 ≤ i) && decide (i < 65536)) := rfl
  rw [hn]
  by_cases h0 : 0 ≤ i
  · go_enter Tryd.func30, Tryd.ntmps30
    go_wp2
    go_ret
    simp [h0]
  · go_enter Tryd.func30, Tryd.ntmps30
    go_wp2
    go_ret
    simp
    omega

/-- Behind a round the number of the iterator lies as it lay. -/
def KpC (b : Nat) (W W' : World) : Prop := ∀ v, W.cell? ⟨b, 0, none⟩ = some v → W'.cell? ⟨b, 0, none⟩ = some v
theorem KpC.trans {b : Nat} {A B C : World} (h : KpC b A B) (k : KpC b B C) : KpC b A C := fun v hv => k v (h v hv)
theorem KpC.book {b s : Nat} (hb : b < s) (W : World) (l : Nat) (o o' : Obj) (hl : s ≤ l) (h : W.heap[l]? = some o) (_ : o.isCells = false) (_ : o.isWalk = false) : KpC b W (W.putObj l o') :=
  fun v hv => (World.cell?_of_block (w := W) (a := ⟨b, 0, none⟩) (World.putObj_heap_other (by show b ≠ l; omega))).trans hv

set_option maxRecDepth 100000 in
set_option maxHeartbeats 1000000 in
theorem ones1_in (F : Fence) (n : Nat) (hf : F.fn 34) (hro : F.round = none) (hn : 1 ≤ n) (l bt bi i top : Nat) (J Jx : List (Fin 16) → World → Prop)
    (hY : ∀ pre x W, J pre W → pre.length < (ones i top).length → YieldAt F (n - 1) Tryd.prog l #[.int .i64 (x.val : Int)] W fun e W' =>
      (e = .returned (.bool true) ∧ J (pre ++ [x]) W' ∧ KpC bi W W') ∨ (e = .returned (.bool false) ∧ Jx (pre ++ [x]) W'))
    (W : World) (ht : W.cell? ⟨bt, 0, none⟩ = some (.int .i64 (top : Int))) (hi : W.cell? ⟨bi, 0, none⟩ = some (.int .i64 (i : Int))) (hi2 : i < 65536) (ht2 : top ≤ 16) (h0 : J [] W) :
    CallsIn F n Tryd.prog 34 #[.func (.yield l) #[] #[], .pointer (some ⟨bt, 0, none⟩), .pointer (some ⟨bi, 0, none⟩)] W fun e W' => (∃ v, e = .returned v) ∧
      ((∃ ys, ys = ones i top ∧ J ys W') ∨ (∃ pre, True ∧ Jx pre W')) := by
  have e1 : IntKind.i64.wrap ((top : Int) - 1) = (top : Int) - 1 := IntWalk.i64_in _ (by omega)
  refine callsIn_of_wp Tryd.func34 rfl hf ?_ hro
  simp only [Tryd.ntmps34, List.size_toArray, List.length_cons, List.length_nil, Nat.reduceAdd, Nat.reduceSub, Array.replicate_succ, Array.replicate_zero, List.push_toArray, List.append_toArray, List.nil_append, List.cons_append]
  gi_wp2
  gi_loopw [4] (fun p wr => ∃ (b : Nat) (pre : List (Fin 16)), p = .int .i64 ((b : Int) - 1) ∧ b ≤ 16 ∧ ones i top = pre ++ ones i b ∧ J pre wr ∧ wr.cell? ⟨bi, 0, none⟩ = some (.int .i64 (i : Int)))
    (fun p wr => (intOf p + 1).toNat)
  case atStart =>
    exact ⟨top, [], by simp, ht2, rfl, h0, hi⟩
  case round =>
    obtain ⟨b, pre, rfl, hb, hx, hJs, hci⟩ := hrel
    match b, hb, hx with
    | 0, hb, hx =>
      gi_wp2
      go_end0
      exact ⟨⟨_, rfl⟩, .inl ⟨pre, by simp [hx, ones], hJs⟩⟩
    | k + 1, hb, hx =>
      have e2 : IntKind.i64.wrap ((k : Int) - 1) = (k : Int) - 1 := IntWalk.i64_in _ (by omega)
      have hbi := bit_i64 i k hi2
      by_cases hk : bit i k = true
      · rw [if_pos hk] at hbi
        rw [ones_one hk] at hx
        have hv : (Fin.ofNat 16 k).val = k := Nat.mod_eq_of_lt (by omega)
        obtain ⟨fn, tmps, assign, body, hy, hR⟩ := hY pre (Fin.ofNat 16 k) wr hJs (by rw [hx]; simp)
        rw [hv] at hy
        gi_wp2
        refine hR.mono ?_
        rintro e W3 (⟨rfl, hJ3, hk3⟩ | ⟨rfl, hJx3⟩)
        · have hc3 := hk3 _ hci
          gi_wp2
          go_roundw
          case rel => exact ⟨k, pre ++ [Fin.ofNat 16 k], by simp, by omega, by simp [hx], hJ3, hc3⟩
          case measure => simp [intOf]
        · gi_wp2
          refine bodyPost_ret (results_none rfl _ _ _) rfl ?_
          exact ⟨⟨_, rfl⟩, .inr ⟨pre ++ [Fin.ofNat 16 k], trivial, hJx3⟩⟩
      · have hk' : bit i k = false := by simpa using hk
        rw [if_neg hk] at hbi
        rw [ones_none hk'] at hx
        gi_wp2
        refine ⟨fun _ h => (by cases h), ?_⟩
        gi_wp2
        go_roundw
        case rel => exact ⟨k, pre, by simp, by omega, hx, hJs, hci⟩
        case measure => simp [intOf]

/-- The iterator over the bits of i. -/
theorem ones_stops (F : Fence) (n : Nat) (hf : F.fn 34) (hro : F.round = none) (hn : 1 ≤ n) (bt bi i top : Nat) (w : World) (hbt : bt < w.heap.size) (hbi : bi < w.heap.size)
    (ht : w.cell? ⟨bt, 0, none⟩ = some (.int .i64 (top : Int))) (hi : w.cell? ⟨bi, 0, none⟩ = some (.int .i64 (i : Int))) (hi2 : i < 65536) (ht2 : top ≤ 16) :
    SeqStopsK F n Tryd.prog 34 #[.pointer (some ⟨bt, 0, none⟩), .pointer (some ⟨bi, 0, none⟩)] (fun x : Fin 16 => #[Value.int .i64 (x.val : Int)]) (KpC bi) (fun ys => ys = ones i top) (fun _ => True) (ones i top).length w := fun l J Jx W hW _ _ hY h0 =>
  ones1_in F n hf hro hn l bt bi i top J Jx hY W ((hW.cell (p := ⟨bt, 0, none⟩) hbt).trans ht) ((hW.cell (p := ⟨bi, 0, none⟩) hbi).trans hi) hi2 ht2 h0

theorem ones_in (i top : Int) (w : World) :
    Calls Tryd.prog 31 #[.int .i64 i, .int .i64 top] w fun e w' => e = .returned (.func (.func 34) #[] #[.pointer (some ⟨w.heap.size + 1, 0, none⟩), .pointer (some ⟨w.heap.size, 0, none⟩)]) ∧
      Fr No w w' ∧ w'.heap.size = w.heap.size + 2 ∧ w'.cell? ⟨w.heap.size, 0, none⟩ = some (.int .i64 i) ∧ w'.cell? ⟨w.heap.size + 1, 0, none⟩ = some (.int .i64 top) := by
  go_enter Tryd.func31, Tryd.ntmps31
  go_wp2
  go_ret
  refine ⟨rfl, ((Fr.refl No w).alloc _).alloc _, by simp, ?_, ?_⟩
  · simp
  · simp
end Go.Proofs.YtnpgcgemifoddaaDoor
