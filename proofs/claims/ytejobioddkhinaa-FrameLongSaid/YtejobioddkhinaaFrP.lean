/- The document's Put. -/
import Derived.Test.YtejobioddkhinaaFrR
namespace Go.Proofs.Ytejobioddkhinaa
open Go.RowKit
set_option linter.unusedVariables false
set_option maxRecDepth 100000

theorem ofNat_toNat (n : Nat) (h : n < 256) : (UInt8.ofNat n).toNat = n := by
  rw [UInt8.toNat_ofNat']
  omega

set_option maxHeartbeats 1000000 in
theorem r8put_any (s : List UInt8) (hs : s.length ≤ 300000) (w : World) : Calls Try.prog 10 #[.string (str s)] w fun e w' => e = .returned (.tuple #[.string (str (putV s)), .int .i64 (putE s)]) ∧ Fr No w w' := by
  have hsz := str_size s
  obtain ⟨L, hL⟩ : ∃ L, L = s.length := ⟨_, rfl⟩
  have hv : putV s = if L = 0 then [] else if 1024 < L then [] else UInt8.ofNat (L / 256) :: UInt8.ofNat (L % 256) :: s := by rw [hL]; rfl
  have he : putE s = if L = 0 then 1 else if 1024 < L then 80 else 0 := by rw [hL]; rfl
  obtain ⟨T, hT⟩ : ∃ T, T = str s := ⟨_, rfl⟩
  obtain ⟨U, hU⟩ : ∃ T, T = str (putV s) := ⟨_, rfl⟩
  obtain ⟨E, hE⟩ : ∃ E, E = putE s := ⟨_, rfl⟩
  rw [← hT, ← hU, ← hE]
  rw [← hT, ← hL] at hsz
  have hsz2 : (T.size : Int) = (L : Int) := by omega
  by_cases h0 : L = 0
  · obtain rfl : U = ⟨#[]⟩ := by rw [hU, hv, if_pos h0]; rfl
    obtain rfl : E = 1 := by rw [hE, he, if_pos h0]
    have t0 : (L : Int) = 0 := by omega
    clear hv he hT hU hE hL hs hsz h0
    go_enter Try.func10, Try.ntmps10
    go_wp2
    go_ret2
    exact ⟨rfl, Fr.refl _ _⟩
  have t0 : ¬ (L : Int) = 0 := by omega
  by_cases h1 : 1024 < L
  · obtain rfl : U = ⟨#[]⟩ := by rw [hU, hv, if_neg h0, if_pos h1]; rfl
    obtain rfl : E = 80 := by rw [hE, he, if_neg h0, if_pos h1]
    have t1 : (1024 : Int) < (L : Int) := by omega
    clear hv he hT hU hE hL hs hsz h0 h1
    go_enter Try.func10, Try.ntmps10
    go_wp2
    go_ret2
    exact ⟨rfl, Fr.refl _ _⟩
  have t1 : ¬ (1024 : Int) < (L : Int) := by omega
  obtain ⟨Q, hQ⟩ : ∃ Q, Q = L / 256 := ⟨_, rfl⟩
  obtain ⟨R, hR⟩ : ∃ Q, Q = L % 256 := ⟨_, rfl⟩
  obtain ⟨H, hH⟩ : ∃ H, H = str [UInt8.ofNat Q, UInt8.ofNat R] := ⟨_, rfl⟩
  have hHT : H ++ T = U := by
    rw [hH, hT, hU, hv, if_neg h0, if_neg h1, str_append, hQ, hR]
    rfl
  obtain rfl : E = 0 := by rw [hE, he, if_neg h0, if_neg h1]
  have q1 : (L : Int).tdiv 256 = (Q : Int) := by rw [hQ, Int.tdiv_eq_ediv_of_nonneg (by omega)]; omega
  have q2 : (L : Int) / 256 = (Q : Int) := by omega
  have r1 : (L : Int).tmod 256 = (R : Int) := by rw [hR, Int.tmod_eq_emod_of_nonneg (by omega)]; omega
  have r2 : (L : Int) % 256 = (R : Int) := by omega
  have wq : IntKind.i64.wrap (Q : Int) = (Q : Int) := IntWalk.i64_in _ (by omega)
  have wr : IntKind.i64.wrap (R : Int) = (R : Int) := IntWalk.i64_in _ (by omega)
  have uq : IntKind.u8.wrap (Q : Int) = (Q : Int) := by
    have h1 : IntKind.u8.wrap (Q : Int) = (Q : Int) % 256 := by simp [IntKind.wrap, IntKind.signed, IntKind.bits]
    omega
  have ur : IntKind.u8.wrap (R : Int) = (R : Int) := by
    have h1 : IntKind.u8.wrap (R : Int) = (R : Int) % 256 := by simp [IntKind.wrap, IntKind.signed, IntKind.bits]
    omega
  have hC : (convert 23 9 (.slice (some ⟨w.heap.size, 0, none⟩) 2 2)).run Try.prog (w.alloc (.cells #[.int .u8 (Q : Int), .int .u8 (R : Int)] 5)) = .ok (.string H) (w.alloc (.cells #[.int .u8 (Q : Int), .int .u8 (R : Int)] 5)) := by
    have hB := Blk.new w 5 [.int .u8 (Q : Int), .int .u8 (R : Int)]
    have e : [Value.int .u8 (Q : Int), .int .u8 (R : Int)] = [UInt8.ofNat Q, UInt8.ofNat R].map u8v := by
      simp only [List.map_cons, List.map_nil, u8v]
      rw [ofNat_toNat Q (by omega), ofNat_toNat R (by omega)]
    rw [hH]
    rw [e] at hB
    have := conv_blk (cap := 2) hB
    rw [← e] at this
    exact this
  have hnc : ¬ 9223372036854775807 < H.size + T.size := by
    have : H.size = 2 := by rw [hH]; rfl
    omega
  have HC := Lib.hid hC
  clear hv he hT hU hE hL hs hsz h0 h1 hC hQ hR hH
  go_enter Try.func10, Try.ntmps10
  go_wp2_with (refine wpList_execG (.string H) (exec_convert 23 9 (.tmp 18) rfl _ _ rfl HC.out) rfl ?_)
  go_ret2
  exact ⟨rfl, (Fr.refl No w).alloc _⟩
end Go.Proofs.Ytejobioddkhinaa
