/- Sums of a slice of numbers, and differences: the program's and the document's. -/
import Derived.Test.YtldcglmpnildiaaAmB
import Derived.Test.YtldcglmpnildiaaGen
namespace Go.Proofs.Ytldcglmpnildiaa
open Go.RowKit
set_option linter.unusedVariables false
set_option maxRecDepth 100000

/-- A slice of numbers that lies in w. -/
def Nums (w : World) (ao : Option Addr) (n : Nat) (xs : Nat → Nat) : Prop :=
  ∀ i, i < n → ∃ a, ao = some a ∧ w.cell? (a.add i) = some (.int .u64 (xs i : Int)) ∧ xs i < 18446744073709551616
theorem Nums.fr {S : Nat → Prop} {w w' : World} {ao : Option Addr} {n : Nat} {xs : Nat → Nat} (h : Nums w ao n xs) (f : Fr S w w') (hn : ∀ k, k < w.heap.size → ¬ S k) : Nums w' ao n xs := fun i hi => by
  obtain ⟨a, ha, hc, hx⟩ := h i hi
  exact ⟨a, ha, f.cellB (hn _ (World.block_lt_of_cell? w _ hc)) hc, hx⟩

set_option maxRecDepth 100000 in
set_option maxHeartbeats 1000000 in
theorem add_any (ao : Option Addr) (n cap : Nat) (xs : Nat → Nat) (w : World) (hn : n ≤ maxLen) (hx : Nums w ao n xs) :
    Calls Try.prog 36 #[.slice ao n cap] w fun e w' => e = .returned (.tuple #[.int .u64 (addV (sumN xs n) : Int), .int .i64 (addE (sumN xs n))]) ∧ Fr No w w' := by
  unfold maxLen at hn
  have HX := Lib.hid hx
  have HN := Lib.hid hn
  obtain ⟨S, hS⟩ : ∃ S, S = sumN xs n := ⟨_, rfl⟩
  have HS := Lib.hid hS
  obtain ⟨V, hV⟩ : ∃ V, V = addV S := ⟨_, rfl⟩
  have HV := Lib.hid hV
  obtain ⟨E, hE⟩ : ∃ E, E = addE S := ⟨_, rfl⟩
  have HE := Lib.hid hE
  rw [← hS, ← hV, ← hE]
  clear hx hn hS hV hE
  go_enter Try.func36, Try.ntmps36
  go_wp2
  go_loop [4, 9] (fun s c => ∃ (i v : Nat), i ≤ n ∧ c = .int .i64 i ∧ s = .int .u64 v ∧ v = sumN xs i ∧ v ≤ 1125899906842624) (fun _ c => n - (intOf c).toNat)
  case atStart => exact ⟨0, 0, by omega, rfl, rfl, rfl, by omega⟩
  case round =>
    obtain ⟨i, v, hi, rfl, rfl, hv, hm⟩ := hrel
    have HI := Lib.hid hi
    have HVS := Lib.hid hv
    have HM := Lib.hid hm
    by_cases hlt : i < n
    · obtain ⟨a, rfl, hc, hb⟩ := HX.out i hlt
      obtain ⟨x, hxx⟩ : ∃ x, x = xs i := ⟨_, rfl⟩
      rw [← hxx] at hc hb
      have hi1 : (i : Int) < (n : Int) := by omega
      have e1 : IntKind.i64.wrap ((i : Int) + 1) = ((i + 1 : Nat) : Int) := IntWalk.i64_in _ (by have := HN.out; omega)
      obtain ⟨d, hd⟩ : ∃ d, d = 1125899906842624 - v := ⟨_, rfl⟩
      have s1 : (1125899906842624 : Int) - (v : Int) = (d : Int) := by omega
      have l1 := wrapU d (by omega)
      have HXX := Lib.hid hxx
      by_cases hgt : d < x
      · have t1 : (d : Int) < (x : Int) := by omega
        have HB : Hid (V = 0 ∧ E = 60) := Lib.hid (by
          have h1 := sumN_mono xs (i := i + 1) (n := n) hlt
          rw [sumN] at h1
          have h2 : 1125899906842624 < S := by rw [HS.out]; omega
          exact ⟨by rw [HV.out]; exact addV_gt h2, by rw [HE.out]; exact addE_gt h2⟩)
        clear hv hm hi hd hxx hlt hgt hb
        go_wp2
        go_ret2
        exact ⟨by rw [HB.out.1, HB.out.2]; rfl, Fr.refl No _⟩
      · have t1 : ¬ (d : Int) < (x : Int) := by omega
        obtain ⟨y, hy⟩ : ∃ y, y = v + x := ⟨_, rfl⟩
        have s2 : (v : Int) + (x : Int) = (y : Int) := by omega
        have l2 := wrapU y (by omega)
        have HY : Hid (y = sumN xs (i + 1) ∧ y ≤ 1125899906842624) := Lib.hid ⟨by rw [sumN]; omega, by omega⟩
        have HK : Hid (i + 1 ≤ n) := Lib.hid hlt
        have HQ : Hid (n - (i + 1) < n - i) := Lib.hid (by omega)
        clear hv hm hi hd hxx hlt hgt hb hy
        go_wp2
        exact ⟨⟨i + 1, y, HK.out, by simp, rfl, HY.out.1, HY.out.2⟩, by simpa [intOf] using HQ.out⟩
    · have hi1 : ¬ (i : Int) < (n : Int) := by omega
      have HB : Hid (V = v ∧ E = 0) := Lib.hid (by
        have h1 : S = v := by rw [HS.out, hv, show i = n by omega]
        exact ⟨by rw [HV.out, h1]; exact addV_le hm, by rw [HE.out, h1]; exact addE_le hm⟩)
      clear hv hm hi hlt
      go_wp2
      go_ret2
      exact ⟨by rw [HB.out.1, HB.out.2]; rfl, Fr.refl No _⟩

set_option maxRecDepth 100000 in
set_option maxHeartbeats 1000000 in
theorem radd_any (ao : Option Addr) (n cap : Nat) (xs : Nat → Nat) (w : World) (hn : n ≤ maxLen) (hx : Nums w ao n xs) :
    Calls Try.prog 35 #[.slice ao n cap] w fun e w' => e = .returned (.tuple #[.int .u64 (addV (sumN xs n) : Int), .int .i64 (addE (sumN xs n))]) ∧ Fr No w w' := by
  unfold maxLen at hn
  have HX := Lib.hid hx
  have HN := Lib.hid hn
  obtain ⟨S, hS⟩ : ∃ S, S = sumN xs n := ⟨_, rfl⟩
  have HS := Lib.hid hS
  obtain ⟨V, hV⟩ : ∃ V, V = addV S := ⟨_, rfl⟩
  have HV := Lib.hid hV
  obtain ⟨E, hE⟩ : ∃ E, E = addE S := ⟨_, rfl⟩
  have HE := Lib.hid hE
  rw [← hS, ← hV, ← hE]
  clear hx hn hS hV hE
  go_enter Try.func35, Try.ntmps35
  go_wp2
  go_loop [4, 5] (fun s c => ∃ (i v : Nat), i ≤ n ∧ c = .int .i64 i ∧ s = .int .u64 v ∧ v = sumN xs i ∧ v ≤ 1125899906842624) (fun _ c => n - (intOf c).toNat)
  case atStart => exact ⟨0, 0, by omega, rfl, rfl, rfl, by omega⟩
  case round =>
    obtain ⟨i, v, hi, rfl, rfl, hv, hm⟩ := hrel
    have HI := Lib.hid hi
    have HVS := Lib.hid hv
    have HM := Lib.hid hm
    by_cases hlt : i < n
    · obtain ⟨a, rfl, hc, hb⟩ := HX.out i hlt
      obtain ⟨x, hxx⟩ : ∃ x, x = xs i := ⟨_, rfl⟩
      rw [← hxx] at hc hb
      have hi1 : (i : Int) < (n : Int) := by omega
      have e1 : IntKind.i64.wrap ((i : Int) + 1) = ((i + 1 : Nat) : Int) := IntWalk.i64_in _ (by have := HN.out; omega)
      have HXX := Lib.hid hxx
      by_cases hgt : 1125899906842624 < x
      · have t1 : decide ((1125899906842624 : Int) < (x : Int)) = true := decide_eq_true (by omega)
        have HB : Hid (V = 0 ∧ E = 60) := Lib.hid (by
          have h1 := sumN_mono xs (i := i + 1) (n := n) hlt
          rw [sumN] at h1
          have h2 : 1125899906842624 < S := by rw [HS.out]; omega
          exact ⟨by rw [HV.out]; exact addV_gt h2, by rw [HE.out]; exact addE_gt h2⟩)
        clear hv hm hi hxx hlt hgt hb
        go_wp2
        go_ret2
        exact ⟨by rw [HB.out.1, HB.out.2]; rfl, Fr.refl No _⟩
      · have t1 : decide ((1125899906842624 : Int) < (x : Int)) = false := decide_eq_false (by omega)
        obtain ⟨y, hy⟩ : ∃ y, y = v + x := ⟨_, rfl⟩
        have s2 : (v : Int) + (x : Int) = (y : Int) := by omega
        have l2 := wrapU y (by omega)
        by_cases hgy : 1125899906842624 < y
        · have t2 : decide ((1125899906842624 : Int) < (y : Int)) = true := decide_eq_true (by omega)
          have HB : Hid (V = 0 ∧ E = 60) := Lib.hid (by
            have h1 := sumN_mono xs (i := i + 1) (n := n) hlt
            rw [sumN] at h1
            have h2 : 1125899906842624 < S := by rw [HS.out]; omega
            exact ⟨by rw [HV.out]; exact addV_gt h2, by rw [HE.out]; exact addE_gt h2⟩)
          clear hv hm hi hxx hlt hgt hb hgy hy
          go_wp2
          go_ret2
          exact ⟨by rw [HB.out.1, HB.out.2]; rfl, Fr.refl No _⟩
        · have t2 : decide ((1125899906842624 : Int) < (y : Int)) = false := decide_eq_false (by omega)
          have HY : Hid (y = sumN xs (i + 1) ∧ y ≤ 1125899906842624) := Lib.hid ⟨by rw [sumN]; omega, by omega⟩
          have HK : Hid (i + 1 ≤ n) := Lib.hid hlt
          have HQ : Hid (n - (i + 1) < n - i) := Lib.hid (by omega)
          clear hv hm hi hxx hlt hgt hb hy hgy
          go_wp2
          exact ⟨⟨i + 1, y, HK.out, by simp, rfl, HY.out.1, HY.out.2⟩, by simpa [intOf] using HQ.out⟩
    · have hi1 : ¬ (i : Int) < (n : Int) := by omega
      have HB : Hid (V = v ∧ E = 0) := Lib.hid (by
        have h1 : S = v := by rw [HS.out, hv, show i = n by omega]
        exact ⟨by rw [HV.out, h1]; exact addV_le hm, by rw [HE.out, h1]; exact addE_le hm⟩)
      clear hv hm hi hlt
      go_wp2
      go_ret2
      exact ⟨by rw [HB.out.1, HB.out.2]; rfl, Fr.refl No _⟩

/-- What a difference is told as, and its error. -/
def subV (a b : Nat) : Nat := if a < b then 0 else a - b
def subE (a b : Nat) : Int := if a < b then 61 else 0

theorem sub_any (a b : Nat) (w : World) (ha : a < 18446744073709551616) :
    Calls Try.prog 45 #[.int .u64 (a : Int), .int .u64 (b : Int)] w fun e w' => e = .returned (.tuple #[.int .u64 (subV a b : Int), .int .i64 (subE a b)]) ∧ Fr No w w' := by
  unfold subV subE
  by_cases h : a < b
  · have t : (a : Int) < (b : Int) := by omega
    rw [if_pos h, if_pos h]
    clear h ha
    go_enter Try.func45, Try.ntmps45
    go_wp2
    go_ret2
    exact ⟨rfl, Fr.refl No _⟩
  · have t : ¬ (a : Int) < (b : Int) := by omega
    rw [if_neg h, if_neg h]
    obtain ⟨d, hd⟩ : ∃ d, d = a - b := ⟨_, rfl⟩
    rw [← hd]
    have s : (a : Int) - (b : Int) = (d : Int) := by omega
    have l := wrapU d (by omega)
    clear h ha hd
    go_enter Try.func45, Try.ntmps45
    go_wp2
    go_ret2
    exact ⟨rfl, Fr.refl No _⟩

end Go.Proofs.Ytldcglmpnildiaa
