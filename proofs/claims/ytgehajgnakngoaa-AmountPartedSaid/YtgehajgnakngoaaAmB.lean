/- math/bits: the product of two numbers in 128 bits; a number of 128 bits by a million. -/
import Derived.Test.YtgehajgnakngoaaProg
import Derived.Test.YtgehajgnakngoaaAmM
import Derived.Lib.Mul64
import Derived.Laws.Bits64b
import Derived.IntWalk
import Derived.Deep.QuietTactic
import Derived.BigQuiet
namespace Go.Proofs.Ytgehajgnakngoaa
open Go.RowKit
set_option linter.unusedVariables false

theorem wrapU (a : Nat) (h : a < 18446744073709551616) : IntKind.u64.wrap (a : Int) = (a : Int) := by rw [IntKind.wrap_u64]; omega
theorem maskU (a : Nat) (h : a < 18446744073709551616) : bits .and .u64 (a : Int) 4294967295 = ((a % 4294967296 : Nat) : Int) := by
  have h1 := bits_and_u64_nat a 4294967295 h (by omega)
  rw [Nat.and_two_pow_sub_one_eq_mod a 32] at h1
  exact h1

set_option maxHeartbeats 1000000 in
theorem mul64_any (x y : Nat) (w : World) (hx : x < 18446744073709551616) (hy : y < 18446744073709551616) :
    Calls Try.prog 23 #[.int .u64 (x : Int), .int .u64 (y : Int)] w fun e w' => e = .returned (.tuple #[.int .u64 ((x * y / 18446744073709551616 : Nat) : Int), .int .u64 ((x * y % 18446744073709551616 : Nat) : Int)]) ∧ w' = w := by
  obtain ⟨bd, bt, bw, hhi⟩ := Lib.mul64_hi x y hx hy
  have ba := Lib.half_mul_le (a := x / 4294967296) (b := y / 4294967296) (by omega) (by omega)
  have bb := Lib.half_mul_le (a := x / 4294967296) (b := y % 4294967296) (by omega) (by omega)
  have bc := Lib.half_mul_le (a := x % 4294967296) (b := y / 4294967296) (by omega) (by omega)
  obtain ⟨x0, hx0⟩ : ∃ v, v = x % 4294967296 := ⟨_, rfl⟩
  obtain ⟨x1, hx1⟩ : ∃ v, v = x / 4294967296 := ⟨_, rfl⟩
  obtain ⟨y0, hy0⟩ : ∃ v, v = y % 4294967296 := ⟨_, rfl⟩
  obtain ⟨y1, hy1⟩ : ∃ v, v = y / 4294967296 := ⟨_, rfl⟩
  rw [← hx0, ← hy0] at bd
  rw [← hx0, ← hx1, ← hy0] at bt
  rw [← hx0, ← hx1, ← hy0, ← hy1] at bw hhi
  rw [← hx1, ← hy1] at ba
  rw [← hx1, ← hy0] at bb
  rw [← hx0, ← hy1] at bc
  have e1 : bits .and .u64 (x : Int) 4294967295 = (x0 : Int) := by rw [hx0]; exact maskU x hx
  have e2 : bits .and .u64 (y : Int) 4294967295 = (y0 : Int) := by rw [hy0]; exact maskU y hy
  have e3 : (x : Int) / 4294967296 = (x1 : Int) := by omega
  have e4 : (y : Int) / 4294967296 = (y1 : Int) := by omega
  have m1 : (x0 : Int) * (y0 : Int) = ((x0 * y0 : Nat) : Int) := (Int.natCast_mul _ _).symm
  have m2 : (x1 : Int) * (y0 : Int) = ((x1 * y0 : Nat) : Int) := (Int.natCast_mul _ _).symm
  have m3 : (x0 : Int) * (y1 : Int) = ((x0 * y1 : Nat) : Int) := (Int.natCast_mul _ _).symm
  have m4 : (x1 : Int) * (y1 : Int) = ((x1 * y1 : Nat) : Int) := (Int.natCast_mul _ _).symm
  have m5 : (x : Int) * (y : Int) = ((x * y : Nat) : Int) := (Int.natCast_mul _ _).symm
  generalize x * y / 18446744073709551616 = hi at hhi ⊢
  obtain ⟨lo, hlo⟩ : ∃ v, v = x * y % 18446744073709551616 := ⟨_, rfl⟩
  rw [← hlo]
  have l5 : IntKind.u64.wrap ((x * y : Nat) : Int) = (lo : Int) := by rw [IntKind.wrap_u64, hlo]; omega
  generalize x * y = p at m5 l5 hlo
  generalize x0 * y0 = w0 at *
  generalize x1 * y0 = a1 at *
  generalize x0 * y1 = a2 at *
  generalize x1 * y1 = a3 at *
  clear hlo hx0 hx1 hy0 hy1
  obtain ⟨c0, hc0⟩ : ∃ v, v = w0 / 4294967296 := ⟨_, rfl⟩
  rw [← hc0] at bt bw hhi
  obtain ⟨t, ht⟩ : ∃ v, v = a1 + c0 := ⟨_, rfl⟩
  rw [← ht] at bt bw hhi
  obtain ⟨t0, ht0⟩ : ∃ v, v = t % 4294967296 := ⟨_, rfl⟩
  obtain ⟨t1, ht1⟩ : ∃ v, v = t / 4294967296 := ⟨_, rfl⟩
  rw [← ht0] at bw hhi
  rw [← ht1] at hhi
  obtain ⟨u, hu⟩ : ∃ v, v = t0 + a2 := ⟨_, rfl⟩
  rw [← hu] at bw hhi
  obtain ⟨u1, hu1⟩ : ∃ v, v = u / 4294967296 := ⟨_, rfl⟩
  rw [← hu1] at hhi
  obtain ⟨s, hs⟩ : ∃ v, v = a3 + t1 := ⟨_, rfl⟩
  rw [← hs] at hhi
  have l1 := wrapU w0 bd
  have l2 := wrapU a1 (by omega)
  have l3 := wrapU a2 (by omega)
  have l4 := wrapU a3 (by omega)
  have d0 : (w0 : Int) / 4294967296 = (c0 : Int) := by omega
  have s1 : (a1 : Int) + (c0 : Int) = (t : Int) := by omega
  have l6 := wrapU t bt
  have k0 : bits .and .u64 (t : Int) 4294967295 = (t0 : Int) := by rw [ht0]; exact maskU t bt
  have d1 : (t : Int) / 4294967296 = (t1 : Int) := by omega
  have s2 : (t0 : Int) + (a2 : Int) = (u : Int) := by omega
  have l7 := wrapU u bw
  have d2 : (u : Int) / 4294967296 = (u1 : Int) := by omega
  have s3 : (a3 : Int) + (t1 : Int) = (s : Int) := by omega
  have l8 := wrapU s (by omega)
  have s4 : (s : Int) + (u1 : Int) = (hi : Int) := by omega
  have l9 := wrapU hi (by omega)
  clear hhi hs hu1 hu ht1 ht0 ht hc0 bt bw bd ba bb bc hx hy
  go_enter Try.func23, Try.ntmps23
  go_wp2
  go_ret2
  exact ⟨rfl, rfl⟩

set_option maxRecDepth 100000 in
set_option maxHeartbeats 1000000 in
theorem len64_m (w : World) : Calls Try.prog 27 #[.int .u64 1000000] w fun e w' => e = .returned (.int .i64 20) ∧ w' = w := by
  go_enter Try.func27, Try.ntmps27
  go_wp2
  go_ret
  exact ⟨by kernel_rfl, rfl⟩

set_option maxRecDepth 100000 in
set_option maxHeartbeats 1000000 in
theorem lz64_m (w : World) : Calls Try.prog 26 #[.int .u64 1000000] w fun e w' => e = .returned (.int .i64 44) ∧ w' = w := by
  go_enter Try.func26, Try.ntmps26
  go_wp2_with fail
  refine (len64_m _).mono ?_
  rintro e w1 ⟨rfl, hw⟩
  rw [hw]
  go_wp2
  go_ret
  exact ⟨rfl, rfl⟩

set_option maxRecDepth 100000 in
set_option maxHeartbeats 1000000 in
theorem div64_low (lo : Nat) (w : World) (hlo : lo < 18446744073709551616) :
    Calls Try.prog 24 #[.int .u64 0, .int .u64 (lo : Int), .int .u64 1000000] w fun e w' => (∃ r, e = .returned (.tuple #[.int .u64 ((lo / 1000000 : Nat) : Int), r])) ∧ Fr No w w' := by
  obtain ⟨q, hq⟩ : ∃ v, v = lo / 1000000 := ⟨_, rfl⟩
  obtain ⟨r, hr⟩ : ∃ v, v = lo % 1000000 := ⟨_, rfl⟩
  rw [← hq]
  have e1 : (lo : Int) / 1000000 = (q : Int) := by omega
  have e2 : (lo : Int) % 1000000 = (r : Int) := by omega
  have l1 := wrapU q (by omega)
  have l2 := wrapU r (by omega)
  clear hq hr hlo
  go_enter Try.func24, Try.ntmps24
  go_wp2_with fail
  go_quiet (fail)
  go_wp2
  go_ret2
  exact ⟨⟨_, rfl⟩, (Fr.refl No w).drewN _⟩

/-- Long division by 1000000 * 2^44, whose lower half is 0: two digits, none of which is to be put right. -/
theorem div_digits (hi lo u v1 q1 r1 e q0 : Nat) (hlo : lo < 18446744073709551616) (h1 : hi < 1000000) (hu : u = hi * 17592186044416 + lo / 1048576) (hv : v1 = lo % 1048576 * 4096)
    (hq : q1 = u / 4096000000) (hr : r1 = u % 4096000000) (he : e = r1 * 4294967296 + v1) (hq0 : q0 = e / 4096000000) :
    q1 * 4294967296 + q0 = (hi * 18446744073709551616 + lo) / 1000000 := by omega

set_option maxRecDepth 100000 in
set_option maxHeartbeats 1000000 in
theorem div64_high (hi lo : Nat) (w : World) (h0 : 0 < hi) (h1 : hi < 1000000) (hlo : lo < 18446744073709551616) :
    Calls Try.prog 24 #[.int .u64 (hi : Int), .int .u64 (lo : Int), .int .u64 1000000] w fun e w' => (∃ r, e = .returned (.tuple #[.int .u64 (((hi * 18446744073709551616 + lo) / 1000000 : Nat) : Int), r])) ∧ Fr No w w' := by
  have t1 : ¬ (1000000 : Int) ≤ (hi : Int) := by omega
  have t2 : ¬ (hi : Int) = 0 := by omega
  obtain ⟨H, hH⟩ : ∃ v, v = hi * 17592186044416 := ⟨_, rfl⟩
  obtain ⟨g, hg⟩ : ∃ v, v = lo / 1048576 := ⟨_, rfl⟩
  obtain ⟨u, hu⟩ : ∃ v, v = H + g := ⟨_, rfl⟩
  obtain ⟨p, hp⟩ : ∃ v, v = lo * 17592186044416 := ⟨_, rfl⟩
  obtain ⟨v, hv⟩ : ∃ v, v = lo % 1048576 * 17592186044416 := ⟨_, rfl⟩
  obtain ⟨v1, hv1⟩ : ∃ v, v = lo % 1048576 * 4096 := ⟨_, rfl⟩
  obtain ⟨q1, hq1⟩ : ∃ v, v = u / 4096000000 := ⟨_, rfl⟩
  obtain ⟨r1, hr1⟩ : ∃ v, v = u % 4096000000 := ⟨_, rfl⟩
  obtain ⟨m1, hm1⟩ : ∃ v, v = q1 * 4096000000 := ⟨_, rfl⟩
  obtain ⟨z, hz⟩ : ∃ v, v = 4294967296 * r1 := ⟨_, rfl⟩
  obtain ⟨e, he⟩ : ∃ v, v = r1 * 4294967296 + v1 := ⟨_, rfl⟩
  obtain ⟨q0, hq0⟩ : ∃ v, v = e / 4096000000 := ⟨_, rfl⟩
  obtain ⟨r0, hr0⟩ : ∃ v, v = e % 4096000000 := ⟨_, rfl⟩
  obtain ⟨m0, hm0⟩ : ∃ v, v = q0 * 4096000000 := ⟨_, rfl⟩
  obtain ⟨z0, hz0⟩ : ∃ v, v = 4294967296 * r0 := ⟨_, rfl⟩
  obtain ⟨zz, hzz⟩ : ∃ v, v = z + v1 := ⟨_, rfl⟩
  obtain ⟨Q, hQ⟩ : ∃ v, v = q1 * 4294967296 := ⟨_, rfl⟩
  obtain ⟨F, hF⟩ : ∃ v, v = (hi * 18446744073709551616 + lo) / 1000000 := ⟨_, rfl⟩
  obtain ⟨A, hA⟩ : ∃ v, v = u * 4294967296 := ⟨_, rfl⟩
  obtain ⟨A2, hA2⟩ : ∃ v, v = A % 18446744073709551616 := ⟨_, rfl⟩
  obtain ⟨B, hB⟩ : ∃ v, v = A2 + v1 := ⟨_, rfl⟩
  obtain ⟨B2, hB2⟩ : ∃ v, v = B % 18446744073709551616 := ⟨_, rfl⟩
  obtain ⟨C, hC⟩ : ∃ v, v = q1 * 17592186044416000000 := ⟨_, rfl⟩
  obtain ⟨C2, hC2⟩ : ∃ v, v = C % 18446744073709551616 := ⟨_, rfl⟩
  obtain ⟨D, hD⟩ : ∃ v, v = (B2 : Int) - (C2 : Int) := ⟨_, rfl⟩
  have dF := div_digits hi lo u v1 q1 r1 e q0 hlo h1 (by omega) hv1 hq1 hr1 he hq0
  rw [← hF] at dF ⊢
  have bu : u < 17592186044416000000 := by omega
  have bq : q1 < 4294967296 := by omega
  have br : r1 < 4096000000 := by omega
  have bv : v1 < 4294967296 := by omega
  have be : e < 17592186044416000000 := by omega
  have bq0 : q0 < 4294967296 := by omega
  have br0 : r0 < 4096000000 := by omega
  have k1 : bits .and .u64 17592186044416000000 4294967295 = 0 := by kernel_rfl
  have k2 : (hi : Int) * 17592186044416 = (H : Int) := by omega
  have k3 : (lo : Int) / 1048576 = (g : Int) := by omega
  have k4 : bits .or .u64 (H : Int) (g : Int) = (u : Int) := by
    have h5 := bits_or_u64_nat H g (by omega) (by omega)
    rw [h5, hu, hH, Nat.mul_comm, ← Nat.two_pow_add_eq_or_of_lt (i := 44) (b := g) (show g < 17592186044416 by omega) hi]
  have k5 : (lo : Int) * 17592186044416 = (p : Int) := by omega
  have k6 : IntKind.u64.wrap (p : Int) = (v : Int) := by rw [IntKind.wrap_u64]; omega
  have k7 : (v : Int) / 4294967296 = (v1 : Int) := by omega
  have k8 : bits .and .u64 (v : Int) 4294967295 = 0 := by rw [maskU v (by omega), show v % 4294967296 = 0 by omega]; rfl
  have d1 : (u : Int).tdiv 4096000000 = (q1 : Int) := by rw [Int.tdiv_eq_ediv_of_nonneg (by omega)]; omega
  have l1 := wrapU q1 (by omega)
  have s1 : (q1 : Int) * 4096000000 = (m1 : Int) := by omega
  have l2 := wrapU m1 (by omega)
  have s2 : (u : Int) - (m1 : Int) = (r1 : Int) := by omega
  have l3 := wrapU r1 (by omega)
  have c1 : decide ((4294967296 : Int) ≤ (q1 : Int)) = false := decide_eq_false (by omega)
  have s3 : 4294967296 * (r1 : Int) = (z : Int) := by omega
  have l4 := wrapU z (by omega)
  have s4 : (z : Int) + (v1 : Int) = (zz : Int) := by omega
  have l5 := wrapU zz (by omega)
  have c2 : decide ((zz : Int) < 0) = false := decide_eq_false (by omega)
  have s5 : (u : Int) * 4294967296 = (A : Int) := by omega
  have l6 : IntKind.u64.wrap (A : Int) = (A2 : Int) := by rw [IntKind.wrap_u64]; omega
  have s6 : (A2 : Int) + (v1 : Int) = (B : Int) := by omega
  have l7 : IntKind.u64.wrap (B : Int) = (B2 : Int) := by rw [IntKind.wrap_u64]; omega
  have s7 : (q1 : Int) * 17592186044416000000 = (C : Int) := by omega
  have l8 : IntKind.u64.wrap (C : Int) = (C2 : Int) := by rw [IntKind.wrap_u64]; omega
  have s8 : (B2 : Int) - (C2 : Int) = D := hD.symm
  have l9 : IntKind.u64.wrap D = (e : Int) := by rw [IntKind.wrap_u64]; omega
  have d2 : (e : Int).tdiv 4096000000 = (q0 : Int) := by rw [Int.tdiv_eq_ediv_of_nonneg (by omega)]; omega
  have l10 := wrapU q0 (by omega)
  have s9 : (q0 : Int) * 4096000000 = (m0 : Int) := by omega
  have l11 := wrapU m0 (by omega)
  have s10 : (e : Int) - (m0 : Int) = (r0 : Int) := by omega
  have l12 := wrapU r0 (by omega)
  have c3 : decide ((4294967296 : Int) ≤ (q0 : Int)) = false := decide_eq_false (by omega)
  have s11 : 4294967296 * (r0 : Int) = (z0 : Int) := by omega
  have l13 := wrapU z0 (by omega)
  have c4 : decide ((z0 : Int) < 0) = false := decide_eq_false (by omega)
  have s12 : (q1 : Int) * 4294967296 = (Q : Int) := by omega
  have l14 := wrapU Q (by omega)
  have s13 : (Q : Int) + (q0 : Int) = (F : Int) := by omega
  have l15 := wrapU F (by omega)
  clear hH hg hu hp hv hv1 hq1 hr1 hm1 hz he hq0 hr0 hm0 hz0 hzz hQ hF hA hA2 hB hB2 hC hC2 hD dF bu bq br bv be bq0 br0 h0 h1 hlo
  go_enter Try.func24, Try.ntmps24
  go_wp2_with fail
  refine (lz64_m _).mono ?_
  rintro e w1 ⟨rfl, hw⟩
  rw [hw]
  go_wp2
  go_loop [15, 16] (fun a c => a = .int .u64 (q1 : Int) ∧ c = .int .u64 (r1 : Int)) (fun _ _ => 0)
  case atStart => exact ⟨rfl, rfl⟩
  case round =>
    obtain ⟨rfl, rfl⟩ := hrel
    go_wp2
    go_loop [18, 16] (fun a c => a = .int .u64 (q0 : Int) ∧ c = .int .u64 (r0 : Int)) (fun _ _ => 0)
    case atStart => exact ⟨rfl, rfl⟩
    case round =>
      obtain ⟨rfl, rfl⟩ := hrel
      go_wp2
      go_ret2
      exact ⟨⟨_, rfl⟩, Fr.refl No _⟩
end Go.Proofs.Ytgehajgnakngoaa
