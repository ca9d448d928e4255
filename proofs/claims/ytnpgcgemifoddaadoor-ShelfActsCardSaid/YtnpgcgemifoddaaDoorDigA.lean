/- Turns and shifts of words: the program's and the document's. -/
import Derived.Test.YtnpgcgemifoddaaDoorChecked
import Derived.Test.YtnpgcgemifoddaaDoorDigR
import Derived.Defers
namespace Go.Proofs.YtnpgcgemifoddaaDoor
open Go.RowKit
set_option linter.unusedVariables false

theorem neg31 (n : Nat) (h1 : 1 ≤ n) (h2 : n ≤ 31) : bits .and .u64 (IntKind.u64.wrap (-(n : Int))) 31 = ((32 - n : Nat) : Int) := by
  have e : IntKind.u64.wrap (-(n : Int)) = ((18446744073709551616 - n : Nat) : Int) := by rw [IntKind.wrap_u64]; omega
  have h := u64_and_nat (18446744073709551616 - n) 31 (by omega) (by omega)
  rw [show (31 : Nat) = 2 ^ 5 - 1 from rfl, Nat.and_two_pow_sub_one_eq_mod] at h
  rw [e]
  refine h.trans ?_
  congr 1
  omega

set_option maxHeartbeats 400000 in
theorem rot_any (x n : Nat) (w : World) (hx : x < W32) (h1 : 1 ≤ n) (h2 : n ≤ 31) :
    Calls Tryd.prog 49 #[.int .u32 x, .int .i64 (-(n : Int))] w fun e w' => e = .returned (.int .u32 (rotr x n)) ∧ w' = w := by
  have hb := neg31 n h1 h2
  have hsub : IntKind.u64.wrap (32 - ((32 - n : Nat) : Int)) = (n : Int) := by rw [IntKind.wrap_u64]; omega
  have hor : bits .or .u32 ((x : Int) * 2 ^ min (32 - n) 32 % 4294967296) ((x : Int) / 2 ^ n) = (rotr x n : Int) := by
    rw [show min (32 - n) 32 = 32 - n by omega]
    have h := u32_or_nat (x * 2 ^ (32 - n) % W32) (x / 2 ^ n) (Nat.mod_lt _ (by decide)) (Nat.lt_of_le_of_lt (Nat.div_le_self _ _) hx)
    rw [rotr_or x n hx (by omega)] at h
    simpa using h
  generalize 32 - n = s at *
  go_enter Tryd.func49, Tryd.ntmps49
  go_wp2
  go_ret
  exact ⟨rfl, rfl⟩

/-- The turns of x by each of the numbers, one ^ the other. -/
def xors (x : Nat) (ns : List Nat) : Nat := ns.foldl (fun a n => a ^^^ rotr x n) 0
theorem xors_snoc (x : Nat) (l : List Nat) (n : Nat) : xors x (l ++ [n]) = xors x l ^^^ rotr x n := by simp [xors, List.foldl_append]
theorem xors_lt {x : Nat} (hx : x < W32) {ns : List Nat} (h : ∀ n ∈ ns, n ≤ 31) : xors x ns < W32 := by
  suffices h2 : ∀ (ns : List Nat) (a : Nat), a < W32 → (∀ n ∈ ns, n ≤ 31) → ns.foldl (fun a n => a ^^^ rotr x n) a < W32 from h2 ns 0 (by decide) h
  intro ns
  induction ns with
  | nil => intro a ha _; exact ha
  | cons n ns ih =>
    intro a ha hn
    exact ih _ (xor_lt ha (rotr_lt x n hx (Nat.le_trans (hn n (by simp)) (by omega)))) (fun m hm => hn m (by simp [hm]))

set_option maxHeartbeats 1000000 in
theorem turned_any (x : Nat) (ns : List Nat) (b : Nat) (t : TypeId) (w : World) (hx : x < W32) (hn : ∀ n ∈ ns, 1 ≤ n ∧ n ≤ 31) (hl : ns.length ≤ 3) (hr : Row w b t .i64 ns) :
    Calls Tryd.prog 48 #[.int .u32 x, .slice (some ⟨b, 0, none⟩) ns.length ns.length] w fun e w' => e = .returned (.int .u32 (xors x ns)) ∧ w' = w := by
  have hl3 : (ns.length : Int) ≤ 3 := by omega
  go_enter Tryd.func48, Tryd.ntmps48
  go_wp2
  go_loop [5, 10] (fun v i => ∃ k : Nat, k ≤ ns.length ∧ i = .int .i64 k ∧ v = .int .u32 (xors x (ns.take k))) (fun _ i => ns.length - (intOf i).toNat)
  case atStart => exact ⟨0, Nat.zero_le _, rfl, rfl⟩
  case round =>
    obtain ⟨k, hk, rfl, rfl⟩ := hrel
    by_cases hlt : k < ns.length
    · have hc := hr.cellD hlt
      have hm : ns.getD k 0 ∈ ns := by rw [List.getD_eq_getElem?_getD, List.getElem?_eq_getElem hlt]; exact List.getElem_mem hlt
      obtain ⟨m, hme⟩ : ∃ m, m = ns.getD k 0 := ⟨_, rfl⟩
      rw [← hme] at hc hm
      obtain ⟨m1, m2⟩ := hn m hm
      have hklt : (k : Int) < ns.length := by omega
      have htk : xors x (ns.take (k + 1)) = xors x (ns.take k) ^^^ rotr x m := by
        rw [List.take_succ_eq_append_getElem hlt, xors_snoc, hme, List.getD_eq_getElem?_getD, List.getElem?_eq_getElem hlt]
        rfl
      have hxo : bits .xor .u32 (xors x (ns.take k) : Int) (rotr x m : Int) = (xors x (ns.take (k + 1)) : Int) := by
        rw [u32_xor_nat _ _ (xors_lt hx (fun n h => (hn n (List.mem_of_mem_take h)).2)) (rotr_lt x m hx (by omega)), htk]
      have HX := Lib.hid hxo
      have hneg : wrap64 (-(m : Int)) = -(m : Int) := by unfold wrap64; omega
      clear htk hme hxo
      go_wp2_with fail
      refine (rot_any x m w hx m1 m2).mono ?_
      rintro e w2 ⟨rfl, rfl⟩
      have hxo := HX.out
      go_wp2
      exact ⟨⟨k + 1, by omega, by simp, by first | rfl | trivial⟩, by simp [intOf]; omega⟩
    · obtain rfl : k = ns.length := by omega
      go_wp2
      go_ret
      exact ⟨rfl, rfl⟩
end Go.Proofs.YtnpgcgemifoddaaDoor
