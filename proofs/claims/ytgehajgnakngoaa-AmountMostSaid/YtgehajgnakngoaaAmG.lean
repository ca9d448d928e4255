/- A fee, and what is enough: the document's. -/
import Derived.Test.YtgehajgnakngoaaAmF
namespace Go.Proofs.Ytgehajgnakngoaa
open Go.RowKit
set_option linter.unusedVariables false

theorem results_four {P : Program} {fn : Func} {p q r s : Tmp} (h : fn.results = #[.tmp p, .tmp q, .tmp r, .tmp s]) {tmps : Array Value} {w : World} {x y z u : Value}
    (hx : tmps.getD p undef = x) (hy : tmps.getD q undef = y) (hz : tmps.getD r undef = z) (hu : tmps.getD s undef = u) : (results fn tmps).run P w = .ok (.tuple #[x, y, z, u]) w := by
  have hx' : tmps[p]?.getD undef = x := by simpa using hx
  have hy' : tmps[q]?.getD undef = y := by simpa using hy
  have hz' : tmps[r]?.getD undef = z := by simpa using hz
  have hu' : tmps[s]?.getD undef = u := by simpa using hu
  simp [results, h, hx', hy', hz', hu']

/-- The school's product: what is carried, and the four digits. -/
theorem times_digits (n m a b c d p q r s N : Nat) (hn : n = b * 4294967296 + a) (hm : m = d * 4294967296 + c) (hp : p = a * c) (hq : q = b * c + p / 4294967296) (hr : r = a * d + q % 4294967296)
    (hs : s = b * d + q / 4294967296 + r / 4294967296) (hN : N = n * m) : N = s * 18446744073709551616 + r % 4294967296 * 4294967296 + p % 4294967296 := by
  have e := Lib.split_mul b a d c 4294967296
  rw [hN, hn, hm, e]
  generalize b * d = bd at *
  generalize b * c = bc at *
  generalize a * d = ad at *
  generalize a * c = ac at *
  omega

set_option maxRecDepth 100000 in
set_option maxHeartbeats 1000000 in
theorem rtimes_any (n m : Nat) (w : World) (hn : n < 18446744073709551616) (hm : m < 18446744073709551616) :
    Calls Try.prog 25 #[.int .u64 (n : Int), .int .u64 (m : Int)] w fun e w' => e = .returned (.tuple #[.int .u64 ((n * m / 79228162514264337593543950336 : Nat) : Int), .int .u64 ((n * m / 18446744073709551616 % 4294967296 : Nat) : Int),
      .int .u64 ((n * m / 4294967296 % 4294967296 : Nat) : Int), .int .u64 ((n * m % 4294967296 : Nat) : Int)]) ∧ w' = w := by
  obtain ⟨a, ha⟩ : ∃ v, v = n % 4294967296 := ⟨_, rfl⟩
  obtain ⟨b, hb⟩ : ∃ v, v = n / 4294967296 := ⟨_, rfl⟩
  obtain ⟨c, hc⟩ : ∃ v, v = m % 4294967296 := ⟨_, rfl⟩
  obtain ⟨d, hd⟩ : ∃ v, v = m / 4294967296 := ⟨_, rfl⟩
  have bbd := Lib.half_mul_le (a := b) (b := d) (by omega) (by omega)
  have bbc := Lib.half_mul_le (a := b) (b := c) (by omega) (by omega)
  have bad := Lib.half_mul_le (a := a) (b := d) (by omega) (by omega)
  have bac := Lib.half_mul_le (a := a) (b := c) (by omega) (by omega)
  obtain ⟨p, hp⟩ : ∃ v, v = a * c := ⟨_, rfl⟩
  obtain ⟨p1, hp1⟩ : ∃ v, v = p / 4294967296 := ⟨_, rfl⟩
  obtain ⟨q, hq⟩ : ∃ v, v = b * c + p1 := ⟨_, rfl⟩
  obtain ⟨q0, hq0⟩ : ∃ v, v = q % 4294967296 := ⟨_, rfl⟩
  obtain ⟨q1, hq1⟩ : ∃ v, v = q / 4294967296 := ⟨_, rfl⟩
  obtain ⟨r, hr⟩ : ∃ v, v = a * d + q0 := ⟨_, rfl⟩
  obtain ⟨r1, hr1⟩ : ∃ v, v = r / 4294967296 := ⟨_, rfl⟩
  obtain ⟨s0, hs0⟩ : ∃ v, v = b * d + q1 := ⟨_, rfl⟩
  obtain ⟨s, hs⟩ : ∃ v, v = s0 + r1 := ⟨_, rfl⟩
  obtain ⟨N, hN⟩ : ∃ v, v = n * m := ⟨_, rfl⟩
  have hD := times_digits n m a b c d p q r s N (by omega) (by omega) hp (by rw [hq, hp1]) (by rw [hr, hq0]) (by rw [hs, hs0, hr1, hq1]) hN
  have m1 : (a : Int) * (c : Int) = (p : Int) := by rw [hp]; exact (Int.natCast_mul _ _).symm
  have m2 : (b : Int) * (c : Int) = ((b * c : Nat) : Int) := (Int.natCast_mul _ _).symm
  have m3 : (a : Int) * (d : Int) = ((a * d : Nat) : Int) := (Int.natCast_mul _ _).symm
  have m4 : (b : Int) * (d : Int) = ((b * d : Nat) : Int) := (Int.natCast_mul _ _).symm
  generalize b * c = bc at *
  generalize a * d = ad at *
  generalize b * d = bd at *
  rw [← hN]
  obtain ⟨x3, hx3⟩ : ∃ v, v = N / 79228162514264337593543950336 := ⟨_, rfl⟩
  obtain ⟨x2, hx2⟩ : ∃ v, v = N / 18446744073709551616 % 4294967296 := ⟨_, rfl⟩
  obtain ⟨x1, hx1⟩ : ∃ v, v = N / 4294967296 % 4294967296 := ⟨_, rfl⟩
  obtain ⟨x0, hx0⟩ : ∃ v, v = N % 4294967296 := ⟨_, rfl⟩
  rw [← hx3, ← hx2, ← hx1, ← hx0]
  have e1 : (n : Int) % 4294967296 = (a : Int) := by omega
  have e2 : (n : Int) / 4294967296 = (b : Int) := by omega
  have e3 : (m : Int) % 4294967296 = (c : Int) := by omega
  have e4 : (m : Int) / 4294967296 = (d : Int) := by omega
  have l1 := wrapU a (by omega)
  have l2 := wrapU b (by omega)
  have l3 := wrapU c (by omega)
  have l4 := wrapU d (by omega)
  have l5 := wrapU p (by omega)
  have e5 : (p : Int) / 4294967296 = (p1 : Int) := by omega
  have l6 := wrapU p1 (by omega)
  have l7 := wrapU bc (by omega)
  have s1 : (bc : Int) + (p1 : Int) = (q : Int) := by omega
  have l8 := wrapU q (by omega)
  have e6 : (q : Int) % 4294967296 = (q0 : Int) := by omega
  have l9 := wrapU q0 (by omega)
  have l10 := wrapU ad (by omega)
  have s2 : (ad : Int) + (q0 : Int) = (r : Int) := by omega
  have l11 := wrapU r (by omega)
  have e7 : (q : Int) / 4294967296 = (q1 : Int) := by omega
  have l12 := wrapU q1 (by omega)
  have l13 := wrapU bd (by omega)
  have s3 : (bd : Int) + (q1 : Int) = (s0 : Int) := by omega
  have l14 := wrapU s0 (by omega)
  have e8 : (r : Int) / 4294967296 = (r1 : Int) := by omega
  have l15 := wrapU r1 (by omega)
  have s4 : (s0 : Int) + (r1 : Int) = (s : Int) := by omega
  have l16 := wrapU s (by omega)
  have e9 : (s : Int) / 4294967296 = (x3 : Int) := by omega
  have e10 : (s : Int) % 4294967296 = (x2 : Int) := by omega
  have e11 : (r : Int) % 4294967296 = (x1 : Int) := by omega
  have e12 : (p : Int) % 4294967296 = (x0 : Int) := by omega
  have l17 := wrapU x3 (by omega)
  have l18 := wrapU x2 (by omega)
  have l19 := wrapU x1 (by omega)
  have l20 := wrapU x0 (by omega)
  clear hx3 hx2 hx1 hx0 hD hN hs hs0 hr1 hr hq1 hq0 hq hp1 hp bbd bbc bad bac ha hb hc hd hn hm
  go_enter Try.func25, Try.ntmps25
  go_wp2
  refine bodyPost_ret (results_four rfl rfl rfl rfl rfl) rfl ?_
  exact ⟨by rw [← e10, ← e11, ← e12]; rfl, rfl⟩

/-- One step of a long division by a million. -/
theorem long_step (T c P r : Nat) (h : T = P * 1000000 + r) : (T * 4294967296 + c) / 1000000 = P * 4294967296 + (r * 4294967296 + c) / 1000000 ∧ (T * 4294967296 + c) % 1000000 = (r * 4294967296 + c) % 1000000 := by omega

/-- Long division by a million, four digits. -/
theorem share_digits (N a b c d A q1 x y z q2 q3 : Nat) (ha : a = N / 79228162514264337593543950336) (hb : b = N / 18446744073709551616 % 4294967296) (hc : c = N / 4294967296 % 4294967296) (hd : d = N % 4294967296)
    (hA : A = a / 1000000) (hx : x = a % 1000000 * 4294967296 + b) (hq1 : q1 = x / 1000000) (hy : y = x % 1000000 * 4294967296 + c) (hq2 : q2 = y / 1000000) (hz : z = y % 1000000 * 4294967296 + d) (hq3 : q3 = z / 1000000) :
    N / 1000000 = (A * 4294967296 + q1) * 18446744073709551616 + q2 * 4294967296 + q3 := by
  have e1 : N / 18446744073709551616 = N / 4294967296 / 4294967296 := (Nat.div_div_eq_div_mul N 4294967296 4294967296).symm
  have e2 : N / 79228162514264337593543950336 = N / 4294967296 / 4294967296 / 4294967296 := by rw [← e1]; exact (Nat.div_div_eq_div_mul N 18446744073709551616 4294967296).symm
  rw [e2] at ha
  rw [e1] at hb
  clear e1 e2
  obtain ⟨u, hu⟩ : ∃ u, u = N / 4294967296 := ⟨_, rfl⟩
  rw [← hu] at ha hb hc
  obtain ⟨v, hv⟩ : ∃ v, v = u / 4294967296 := ⟨_, rfl⟩
  rw [← hv] at ha hb
  have g1 : v = a * 4294967296 + b := by rw [ha, hb]; exact (Nat.div_add_mod' v 4294967296).symm
  have g2 : u = v * 4294967296 + c := by rw [hv, hc]; exact (Nat.div_add_mod' u 4294967296).symm
  have g3 : N = u * 4294967296 + d := by rw [hu, hd]; exact (Nat.div_add_mod' N 4294967296).symm
  obtain ⟨k1, k2⟩ := long_step a b A (a % 1000000) (by rw [hA]; exact (Nat.div_add_mod' a 1000000).symm)
  rw [← hx, ← g1] at k1 k2
  rw [← hq1] at k1
  have h1 : v = (A * 4294967296 + q1) * 1000000 + x % 1000000 := by rw [← k1, ← k2]; exact (Nat.div_add_mod' v 1000000).symm
  obtain ⟨k3, k4⟩ := long_step v c _ _ h1
  rw [← hy, ← g2] at k3 k4
  rw [← hq2] at k3
  have h2 : u = ((A * 4294967296 + q1) * 4294967296 + q2) * 1000000 + y % 1000000 := by rw [← k3, ← k4]; exact (Nat.div_add_mod' u 1000000).symm
  obtain ⟨k5, k6⟩ := long_step u d _ _ h2
  rw [← hz, ← g3] at k5
  rw [← hq3] at k5
  rw [k5]
  obtain ⟨P, hP⟩ : ∃ P, P = A * 4294967296 + q1 := ⟨_, rfl⟩
  rw [← hP]
  clear k1 k2 k3 k4 k5 k6 h1 h2 g1 g2 g3 hu hv ha hb hc hd hA hx hq1 hy hq2 hz hq3 hP
  omega

/-- A share in 64 bits, whether they hold it or not. -/
def shW (r n : Nat) : Nat := partN r n % 18446744073709551616

set_option maxRecDepth 100000 in
set_option maxHeartbeats 2000000 in
theorem rshare_any (n r : Nat) (w : World) (hn : n < 18446744073709551616) (hr : r < 18446744073709551616) :
    Calls Try.prog 20 #[.int .u64 (n : Int), .int .u64 (r : Int)] w fun e w' => e = .returned (.tuple #[.int .u64 (shW r n : Int), .bool (shB r n)]) ∧ w' = w := by
  have ht := rtimes_any n r w hn hr
  obtain ⟨N, hN⟩ : ∃ v, v = n * r := ⟨_, rfl⟩
  rw [← hN] at ht
  have hp : partN r n = N / 1000000 := by rw [partN, hN, Nat.mul_comm]
  have hNb : N < 340282366920938463463374607431768211456 := by
    rw [hN]
    exact Nat.mul_lt_mul'' hn hr
  unfold shW shB
  rw [hp]
  obtain ⟨a, ha⟩ : ∃ v, v = N / 79228162514264337593543950336 := ⟨_, rfl⟩
  obtain ⟨b, hb⟩ : ∃ v, v = N / 18446744073709551616 % 4294967296 := ⟨_, rfl⟩
  obtain ⟨c, hc⟩ : ∃ v, v = N / 4294967296 % 4294967296 := ⟨_, rfl⟩
  obtain ⟨d, hd⟩ : ∃ v, v = N % 4294967296 := ⟨_, rfl⟩
  rw [← ha, ← hb, ← hc, ← hd] at ht
  have HT := Lib.hid ht
  obtain ⟨A, hA⟩ : ∃ v, v = a / 1000000 := ⟨_, rfl⟩
  obtain ⟨a1, ha1⟩ : ∃ v, v = a % 1000000 := ⟨_, rfl⟩
  obtain ⟨x0, hx0⟩ : ∃ v, v = a1 * 4294967296 := ⟨_, rfl⟩
  obtain ⟨x, hx⟩ : ∃ v, v = x0 + b := ⟨_, rfl⟩
  obtain ⟨x1, hx1⟩ : ∃ v, v = x % 1000000 := ⟨_, rfl⟩
  obtain ⟨q1, hq1⟩ : ∃ v, v = x / 1000000 := ⟨_, rfl⟩
  obtain ⟨y0, hy0⟩ : ∃ v, v = x1 * 4294967296 := ⟨_, rfl⟩
  obtain ⟨y, hy⟩ : ∃ v, v = y0 + c := ⟨_, rfl⟩
  obtain ⟨y1, hy1⟩ : ∃ v, v = y % 1000000 := ⟨_, rfl⟩
  obtain ⟨q2, hq2⟩ : ∃ v, v = y / 1000000 := ⟨_, rfl⟩
  obtain ⟨z0, hz0⟩ : ∃ v, v = y1 * 4294967296 := ⟨_, rfl⟩
  obtain ⟨z, hz⟩ : ∃ v, v = z0 + d := ⟨_, rfl⟩
  obtain ⟨q3, hq3⟩ : ∃ v, v = z / 1000000 := ⟨_, rfl⟩
  obtain ⟨Q, hQ⟩ : ∃ v, v = q2 * 4294967296 := ⟨_, rfl⟩
  obtain ⟨F, hF⟩ : ∃ v, v = Q + q3 := ⟨_, rfl⟩
  have hD := share_digits N a b c d A q1 x y z q2 q3 ha hb hc hd hA (by omega) hq1 (by omega) hq2 (by omega) hq3
  have ba : a < 4294967296 := by omega
  have bq2 : q2 < 4294967296 := by omega
  have bq3 : q3 < 4294967296 := by omega
  have bx : x < 18446744073709551616 := by omega
  have by' : y < 18446744073709551616 := by omega
  have bz : z < 18446744073709551616 := by omega
  have e1 : (a : Int) % 1000000 = (a1 : Int) := by omega
  have l1 := wrapU a1 (by omega)
  have e2 : (a1 : Int) * 4294967296 = (x0 : Int) := by omega
  have l2 := wrapU x0 (by omega)
  have e3 : (x0 : Int) + (b : Int) = (x : Int) := by omega
  have l3 := wrapU x bx
  have e4 : (x : Int) % 1000000 = (x1 : Int) := by omega
  have l4 := wrapU x1 (by omega)
  have e5 : (x1 : Int) * 4294967296 = (y0 : Int) := by omega
  have l5 := wrapU y0 (by omega)
  have e6 : (x : Int) / 1000000 = (q1 : Int) := by omega
  have l6 := wrapU q1 (by omega)
  have e7 : (y0 : Int) + (c : Int) = (y : Int) := by omega
  have l7 := wrapU y by'
  have e8 : (y : Int) % 1000000 = (y1 : Int) := by omega
  have l8 := wrapU y1 (by omega)
  have e9 : (y1 : Int) * 4294967296 = (z0 : Int) := by omega
  have l9 := wrapU z0 (by omega)
  have e10 : (y : Int) / 1000000 = (q2 : Int) := by omega
  have l10 := wrapU q2 (by omega)
  have e11 : (z0 : Int) + (d : Int) = (z : Int) := by omega
  have l11 := wrapU z bz
  have e12 : (z : Int) / 1000000 = (q3 : Int) := by omega
  have l12 := wrapU q3 (by omega)
  have e13 : (q2 : Int) * 4294967296 = (Q : Int) := by omega
  have l13 := wrapU Q (by omega)
  have e14 : (Q : Int) + (q3 : Int) = (F : Int) := by omega
  have l14 := wrapU F (by omega)
  have e15 : (a : Int) / 1000000 = (A : Int) := by omega
  have l15 := wrapU A (by omega)
  have hV : N / 1000000 % 18446744073709551616 = F := by omega
  rw [hV]
  by_cases h1 : A = 0
  · by_cases h2 : q1 = 0
    · rw [decide_eq_true (show N / 1000000 < 18446744073709551616 by omega)]
      subst h1 h2
      clear hV ba bq2 bq3 bx by' bz hD hF hQ hq3 hz hz0 hq2 hy1 hy hy0 hq1 hx1 hx hx0 ha1 hA ht ha hb hc hd hNb hp hN hn hr
      go_enter Try.func20, Try.ntmps20
      go_wp2_with fail
      refine HT.out.mono ?_
      rintro e w1 ⟨rfl, hw⟩
      rw [hw]
      clear hw HT
      go_wp2
      go_ret2
      exact ⟨rfl, rfl⟩
    · rw [decide_eq_false (show ¬ N / 1000000 < 18446744073709551616 by omega)]
      subst h1
      have t1 : ((q1 : Int) == 0) = false := by simpa using h2
      clear hV ba bq2 bq3 bx by' bz hD hF hQ hq3 hz hz0 hq2 hy1 hy hy0 hq1 hx1 hx hx0 ha1 hA ht ha hb hc hd hNb hp hN hn hr h2
      go_enter Try.func20, Try.ntmps20
      go_wp2_with fail
      refine HT.out.mono ?_
      rintro e w1 ⟨rfl, hw⟩
      rw [hw]
      clear hw HT
      go_wp2
      go_ret2
      exact ⟨rfl, rfl⟩
  · rw [decide_eq_false (show ¬ N / 1000000 < 18446744073709551616 by omega)]
    have t1 : ((A : Int) == 0) = false := by simpa using h1
    clear hV ba bq2 bq3 bx by' bz hD hF hQ hq3 hz hz0 hq2 hy1 hy hy0 hq1 hx1 hx hx0 ha1 hA ht ha hb hc hd hNb hp hN hn hr h1
    go_enter Try.func20, Try.ntmps20
    go_wp2_with fail
    refine HT.out.mono ?_
    rintro e w1 ⟨rfl, hw⟩
    rw [hw]
    clear hw HT
    go_wp2
    go_ret2
    exact ⟨rfl, rfl⟩
end Go.Proofs.Ytgehajgnakngoaa
