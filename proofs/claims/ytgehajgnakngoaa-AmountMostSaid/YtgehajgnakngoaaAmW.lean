/- The greatest number that is enough: the search by a closure. -/
import Derived.Test.YtgehajgnakngoaaAmF
namespace Go.Proofs.Ytgehajgnakngoaa
open Go.RowKit
set_option linter.unusedVariables false

/-- '1 << k' on a uint64, and '|' of a bit that lacks, by equations on their runs. -/
theorem shl_u64 (k M : Nat) (hk : k < 64) (hM : M = 2 ^ k) (w : World) : (binOp .shl 23 (.int .u64 1) (.int .i64 (k : Int))).run Try.prog w = .ok (.int .u64 (M : Int)) w := by
  have h : ∀ q : Nat, q < 64 → (binOp .shl 23 (.int .u64 1) (.int .i64 (q : Int))).run Try.prog w = .ok (.int .u64 ((2 ^ q : Nat) : Int)) w := by
    intro q hq
    have h2 : ((2 ^ q : Nat) : Int) = (2 : Int) ^ q := by simp
    have h3 : 2 ^ q ≤ 2 ^ 63 := Nat.pow_le_pow_right (by omega) (by omega)
    obtain ⟨m, hm⟩ : ∃ m, m = 2 ^ q := ⟨_, rfl⟩
    rw [← hm] at h2 h3
    go_simp
    rw [← h2]
    exact wrapU m (by omega)
  rw [hM]
  exact h k hk

/-- What the closure reads. -/
structure Cap (w : World) (p1 p2 p3 i b r : Nat) : Prop where
  a : w.cell? ⟨p1, 0, none⟩ = some (.int .u64 (i : Int))
  b : w.cell? ⟨p2, 0, none⟩ = some (.int .u64 (b : Int))
  c : w.cell? ⟨p3, 0, none⟩ = some (.int .u64 (r : Int))
theorem Cap.fr {w w' : World} {p1 p2 p3 i b r : Nat} (h : Cap w p1 p2 p3 i b r) (f : Fr No w w') : Cap w' p1 p2 p3 i b r := ⟨f.cell id h.a, f.cell id h.b, f.cell id h.c⟩

set_option maxRecDepth 100000 in
set_option maxHeartbeats 1000000 in
theorem most1_any (p1 p2 p3 i b r o : Nat) (w : World) (hc : Cap w p1 p2 p3 i b r) (hi : i < 18446744073709551616) (ho : o < 18446744073709551616) (hb : b < 18446744073709551616) (hr : r < 18446744073709551616) :
    Calls Try.prog 22 #[.int .u64 (o : Int), .pointer (some ⟨p1, 0, none⟩), .pointer (some ⟨p2, 0, none⟩), .pointer (some ⟨p3, 0, none⟩)] w fun e w' => e = .returned (.bool (enough i o b r)) ∧ Fr No w w' := by
  have HE := Lib.hid (fun X => enough_any i o b r X hi ho hb hr)
  obtain ⟨y, hy⟩ : ∃ y, y = enough i o b r := ⟨_, rfl⟩
  rw [← hy] at HE ⊢
  have c1 := hc.a
  have c2 := hc.b
  have c3 := hc.c
  clear hy hi ho hb hr hc
  go_enter Try.func22, Try.ntmps22
  go_wp2_with fail
  refine (HE.out _).mono ?_
  rintro e w1 ⟨rfl, hF⟩
  have HF := Lib.hid hF
  clear hF HE
  go_wp2
  go_ret
  exact ⟨rfl, HF.out⟩

set_option maxRecDepth 100000 in
set_option maxHeartbeats 1000000 in
theorem greatest_any (p1 p2 p3 i b r : Nat) (w : World) (hc : Cap w p1 p2 p3 i b r) (hi : i < 18446744073709551616) (hb : b < 18446744073709551616) (hr : r < 18446744073709551616) :
    Calls Try.prog 21 #[.func (.func 22) #[] #[.pointer (some ⟨p1, 0, none⟩), .pointer (some ⟨p2, 0, none⟩), .pointer (some ⟨p3, 0, none⟩)]] w fun e w' => (∃ m : Nat, e = .returned (.int .u64 (m : Int)) ∧ IsMost i b r m) ∧ Fr No w w' := by
  have HM := Lib.hid (fun o X ho hC => most1_any p1 p2 p3 i b r o X hC hi ho hb hr)
  have HS := Lib.hid (Seek.start (i := i) (b := b) (r := r) hi)
  have HC := Lib.hid hc
  clear hc hi hb hr
  go_enter Try.func21, Try.ntmps21
  go_wp2
  go_loopw [3, 4] (fun s c wr => ∃ k n : Nat, c = .int .i64 ((k : Int) - 1) ∧ s = .int .u64 (n : Int) ∧ k ≤ 64 ∧ Seek i b r k n ∧ Fr No w wr) (fun _ c wr => (intOf c + 1).toNat)
  case atStart => exact ⟨64, 0, rfl, rfl, by omega, HS.out, Fr.refl No w⟩
  case round =>
    obtain ⟨k, n, rfl, rfl, hk, hS, hF⟩ := hrel
    have HSS := Lib.hid hS
    have HF := Lib.hid hF
    clear hF
    match k, hk, hS, HSS with
    | 0, _, _, HSS =>
      go_wp2
      go_ret
      exact ⟨⟨n, rfl, HSS.out.done⟩, HF.out⟩
    | j + 1, hk, hS, HSS =>
      have e0 : (((j + 1 : Nat) : Int) - 1) = (j : Int) := by omega
      rw [e0]
      obtain ⟨M, hM⟩ : ∃ M, M = 2 ^ j := ⟨_, rfl⟩
      have HSH := Lib.hid (shl_u64 j M (by omega) hM)
      obtain ⟨m, hm⟩ : ∃ m, m = n + M := ⟨_, rfl⟩
      have hlt := hS.more_lt
      have hor := hS.or
      rw [← hM] at hlt hor
      rw [← hm] at hlt hor
      have t0 : (0 : Int) ≤ (j : Int) := by omega
      have e1 : bits .or .u64 (n : Int) (M : Int) = (m : Int) := by
        rw [bits_or_u64_nat n M (by omega) (by omega), hor]
      have e2 : IntKind.i64.wrap ((j : Int) - 1) = (j : Int) - 1 := IntWalk.i64_in _ (by omega)
      have HK : Hid (j ≤ 64) := Lib.hid (by omega)
      have HL := Lib.hid hlt
      have HE : Hid (m = n + 2 ^ j) := Lib.hid (by rw [hm, hM])
      clear hm hM hlt hor hk hS e0
      go_wp2_with (refine wpList_execG (.int .u64 (M : Int)) (exec_bin .shl 23 (.const (.int .u64 1)) (.tmp 11) 3 rfl _ _ _ rfl rfl (by kernel_rfl) (HSH.out _)) rfl ?_)
      refine (HM.out m _ HL.out (HC.out.fr HF.out)).mono ?_
      rintro e w1 ⟨rfl, hF1⟩
      have HF1 := Lib.hid (HF.out.trans hF1)
      clear hF1
      by_cases hy : enough i m b r = true
      · have HY := Lib.hid (HSS.out.yes (by rw [← HE.out]; exact hy))
        rw [hy]
        clear hy
        go_wp2
        exact ⟨⟨j, m, rfl, rfl, HK.out, by rw [HE.out]; exact HY.out, HF1.out⟩, by simp [intOf]⟩
      · have hy' : enough i m b r = false := by simpa using hy
        have HY := Lib.hid (HSS.out.not (by rw [← HE.out]; exact hy'))
        rw [hy']
        clear hy hy'
        go_wp2
        exact ⟨⟨j, n, rfl, rfl, HK.out, HY.out, HF1.out⟩, by simp [intOf]⟩

theorem cell_new (w : World) (t : TypeId) (v : Value) : (w.alloc (.cells #[v] t)).cell? ⟨w.heap.size, 0, none⟩ = some v := by
  rw [cell_of_row _ _ _ _ t (0, 0) (heap_alloc_new w _)]
  rfl
theorem size_alloc (w : World) (o : Obj) : (w.alloc o).heap.size = w.heap.size + 1 := by simp
theorem cap_new (i b r : Nat) (w : World) (t : TypeId) :
    Cap (((w.alloc (.cells #[.int .u64 (i : Int)] t)).alloc (.cells #[.int .u64 (b : Int)] t)).alloc (.cells #[.int .u64 (r : Int)] t)) w.heap.size (w.heap.size + 1) (w.heap.size + 1 + 1) i b r := by
  refine ⟨?_, ?_, ?_⟩
  · exact (((Fr.refl No _).alloc _).alloc _).cell id (cell_new w t _)
  · have h := cell_new (w.alloc (.cells #[.int .u64 (i : Int)] t)) t (.int .u64 (b : Int))
    rw [size_alloc] at h
    exact ((Fr.refl No _).alloc _).cell id h
  · have h := cell_new ((w.alloc (.cells #[.int .u64 (i : Int)] t)).alloc (.cells #[.int .u64 (b : Int)] t)) t (.int .u64 (r : Int))
    rw [size_alloc, size_alloc] at h
    exact h

set_option maxRecDepth 100000 in
set_option maxHeartbeats 1000000 in
theorem most_any (i b r : Nat) (w : World) (hi : i < 18446744073709551616) (hb : b < 18446744073709551616) (hr : r < 18446744073709551616) :
    Calls Try.prog 18 #[.int .u64 (i : Int), .int .u64 (b : Int), .int .u64 (r : Int)] w fun e w' => (∃ m : Nat, e = .returned (.int .u64 (m : Int)) ∧ IsMost i b r m) ∧ Fr No w w' := by
  have hmf : ∀ (fn : Fn) (first cap : Array Value) (w : World), (Instr.makeFunc fn first cap).run Try.prog w = .ok (.func fn first cap) w := fun _ _ _ _ => rfl
  have HG := Lib.hid (fun p1 p2 p3 X hC => greatest_any p1 p2 p3 i b r X hC hi hb hr)
  clear hi hb hr
  go_enter Try.func18, Try.ntmps18
  go_wp2_with fail
  refine (HG.out _ _ _ _ (cap_new i b r w _)).mono ?_
  rintro e w1 ⟨⟨m, rfl, hm⟩, hF⟩
  have HF := Lib.hid ((((Fr.refl No w).alloc _).alloc _).alloc _ |>.trans hF)
  have HM := Lib.hid hm
  clear hF hm HG
  go_wp2
  go_ret
  exact ⟨⟨m, rfl, HM.out⟩, HF.out⟩
end Go.Proofs.Ytgehajgnakngoaa
