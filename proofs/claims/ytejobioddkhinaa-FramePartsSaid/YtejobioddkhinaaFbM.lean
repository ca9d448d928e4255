/- For the walk of 'FrameBad': lengths that may not be. -/
import Derived.Test.YtejobioddkhinaaFrameLeft
namespace Go.Proofs.Ytejobioddkhinaa
open Go.RowKit
set_option linter.unusedVariables false
set_option maxRecDepth 100000

/-- The two bytes of a number. -/
def two8 (k : Nat) : List UInt8 := [UInt8.ofNat (k / 256), UInt8.ofNat (k % 256)]
theorem lenH_two (k : Nat) (hk : k < 65536) (s : List UInt8) : lenH (two8 k ++ s) = (k : Int) := by
  have h1 := ofNat_toNat (k / 256) (by omega)
  have h2 := ofNat_toNat (k % 256) (by omega)
  show ((UInt8.ofNat (k / 256)).toNat : Int) * 256 + ((UInt8.ofNat (k % 256)).toNat : Int) = _
  rw [h1, h2]
  omega
theorem putV_some {s : List UInt8} (h1 : 1 ≤ s.length) (h2 : s.length ≤ 1024) : putV s = two8 s.length ++ s := by
  rw [putV, if_neg (by omega), if_neg (by omega)]
  rfl
theorem bad_two {k : Nat} (hk : k < 65536) (hb : k = 0 ∨ 1024 < k) (s : List UInt8) : badF (two8 k ++ s) = true := by
  unfold badF
  rw [lenH_two k hk]
  exact decide_eq_true (by omega)
theorem frame_first {s : List UInt8} (h1 : 1 ≤ s.length) (h2 : s.length ≤ 1024) (t : List UInt8) : isF (putV s ++ t) = true ∧ textF (putV s ++ t) = s ∧ restF (putV s ++ t) = t := by
  rw [putV_some h1 h2, List.append_assoc]
  have hl := lenH_two s.length (by omega) (s ++ t)
  have hi : isF (two8 s.length ++ (s ++ t)) = true := by
    rw [isF_iff, hl]
    simp [two8]
    omega
  refine ⟨hi, ?_, ?_⟩
  · rw [textF, if_pos hi, hl, Int.toNat_natCast]
    show (s ++ t).take s.length = s
    exact List.take_left
  · rw [restF, if_pos hi, hl, Int.toNat_natCast, Nat.add_comm]
    show (s ++ t).drop s.length = t
    exact List.drop_left
theorem putV_len_le {s : List UInt8} (h : s.length ≤ 1024) : (putV s).length ≤ 1026 := by
  unfold putV
  split
  · simp
  · split
    · simp
    · simp; omega

theorem conv_two (k : Nat) (hk : k < 65536) (X : World) : (convert 23 9 (.slice (some ⟨X.heap.size, 0, none⟩) 2 2)).run Try.prog (X.alloc (.cells #[.int .u8 ((k / 256 : Nat) : Int), .int .u8 ((k % 256 : Nat) : Int)] 5)) = .ok (.string (str (two8 k))) (X.alloc (.cells #[.int .u8 ((k / 256 : Nat) : Int), .int .u8 ((k % 256 : Nat) : Int)] 5)) := by
  have hB := Blk.new X 5 [.int .u8 ((k / 256 : Nat) : Int), .int .u8 ((k % 256 : Nat) : Int)]
  have e : [Value.int .u8 ((k / 256 : Nat) : Int), .int .u8 ((k % 256 : Nat) : Int)] = (two8 k).map u8v := by
    simp only [two8, List.map_cons, List.map_nil, u8v]
    rw [ofNat_toNat _ (by omega), ofNat_toNat _ (by omega)]
  rw [e] at hB
  have := conv_blk (cap := 2) hB
  rw [← e] at this
  exact this

set_option maxHeartbeats 1000000 in
theorem bad_long (G M : ByteArray) (v : Value) (w : World) (hn : 300 < G.size) : Calls Try.prog 5 #[.string G, .string M, v] w fun e w' => e = .returned (.bool true) ∧ Fr No w w' := by
  have t0 : decide ((300 : Int) < (G.size : Int)) = true := decide_eq_true (by omega)
  clear hn
  go_enter Try.func5, Try.ntmps5
  go_wp2_with fail
  refine (shown8_any _).mono ?_
  rintro e w1 ⟨rfl, hF⟩
  have HF := Lib.hid hF
  clear hF
  go_wp2
  go_ret
  exact ⟨rfl, HF.out⟩
set_option maxHeartbeats 1000000 in
theorem bad_long2 (G M : ByteArray) (v : Value) (w : World) (hn : G.size ≤ 300) (hm : 300 < M.size) : Calls Try.prog 5 #[.string G, .string M, v] w fun e w' => e = .returned (.bool true) ∧ Fr No w w' := by
  have t0 : decide ((300 : Int) < (G.size : Int)) = false := decide_eq_false (by omega)
  have t1 : decide ((300 : Int) < (M.size : Int)) = true := decide_eq_true (by omega)
  clear hn hm
  go_enter Try.func5, Try.ntmps5
  go_wp2_with fail
  refine (shown8_any _).mono ?_
  rintro e w1 ⟨rfl, hF⟩
  have HF := Lib.hid hF
  clear hF
  go_wp2
  go_ret
  exact ⟨rfl, HF.out⟩

end Go.Proofs.Ytejobioddkhinaa
