/- What the laws of layer 5 show first; the secret that is told. -/
import Derived.Test.YtnpgcgemifoddaaDoorShF
import Derived.Test.YtnpgcgemifoddaaDoorShJ
namespace Go.Proofs.YtnpgcgemifoddaaDoor
open Go.RowKit
set_option linter.unusedVariables false

theorem rinsert_any (L : List Ent) (i : Int) (h : List Nat) (w : World) (hh : H32 h) (hL : L.length = 17) :
    Calls Tryd.prog 9 #[.agg (flat L).toArray, .int .i64 i, .agg (arr .u8 h)] w fun ex w' => ex = .returned (.tuple #[.agg (flat (insL L i h hh)).toArray, .int .i64 (insE L i h)]) ∧ Fr No w w' := by
  by_cases hn : num i = true
  · obtain ⟨n, rfl, hi⟩ := num_nat hn
    rw [insE, if_pos hn]
    have e : insL L (n : Int) h hh = if refused L (n : Int) h then L else L.set (placeN n) ⟨true, n, h, hh, hi⟩ := by
      unfold insL
      rw [dif_pos hn, place_of hi]
      rfl
    rw [e]
    exact rinsert_ok L n h w hi hh hL
  · have hn' : num i = false := by simpa using hn
    have e : insL L i h hh = L := by unfold insL; rw [dif_neg hn]
    rw [insE, hn', e]
    exact rinsert_no L i h w hL hn'

/-- A secret of the seed that the shelf's secrets have. -/
theorem insert_of {seed : List Nat} {b : Nat} {L : List Ent} {w : World} (i : Int) (hs : H32 seed) (hO : Of seed L) (hn : num i = true) (hB : Blk w b 32 (flat L)) (hL : L.length = 17) (hg : Gl w) :
    Calls Tryd.prog 12 #[.pointer (some ⟨b, 0, none⟩), .int .i64 i, .agg (arr .u8 (mSec seed i))] w fun ex w' => ex = .returned (.int .i64 0) ∧ Fr (· = b) w w' ∧ Blk w' b 32 (flat (insL L i (mSec seed i) (mSec_h hs i))) := by
  have := insert_any b L i (mSec seed i) w (mSec_h hs i) hB hL hg
  rwa [of_insE hO i, if_pos hn] at this

def s7 : List Nat := 7 :: List.replicate 31 0
theorem s7_h : H32 s7 := ⟨by rfl, fun x hx => by
  rcases List.mem_cons.1 hx with rfl | hx
  · decide
  · rw [List.eq_of_mem_replicate hx]; decide⟩

theorem shown_len : lenN (downL s7 s7_h 65535 4) = 3 := by
  have h0 := downL_of s7 s7_h 65535
  have e : ∀ n : Nat, n < 4 → downL s7 s7_h 65535 (n + 1) = (downL s7 s7_h 65535 n).set (placeN (65535 - n)) ⟨true, 65535 - n, mSec s7 ((65535 - n : Nat) : Int), mSec_h s7_h _, by omega⟩ := fun n hn => by
    have e1 : ((65535 : Nat) : Int) - (n : Int) = ((65535 - n : Nat) : Int) := by omega
    rw [downL]
    simp only [e1]
    exact insL_in _ _ (downL_len s7 s7_h 65535 n) (of_bad (h0 n) _)
  rw [e 3 (by omega), e 2 (by omega), e 1 (by omega), e 0 (by omega), show placeN (65535 - 3) = 2 by decide, show placeN (65535 - 2) = 0 by decide, show placeN (65535 - 1) = 1 by decide, show placeN (65535 - 0) = 0 by decide]
  rfl

set_option maxRecDepth 100000 in
set_option maxHeartbeats 2000000 in
theorem shown5_any (w : World) (hg : Gl w) : Calls Tryd.prog 8 #[] w fun ex w' => ex = .returned (.bool true) ∧ Fr No w w' := by
  have HG := Lib.hid hg
  clear hg
  go_enter Tryd.func8, Tryd.ntmps8
  go_wp2_with (refine wpList_execG (.agg (flat zeroL).toArray) (exec_build 32 _ rfl #[] (by simp) _ (build_shelf _)) rfl ?_)
  refine wp_world (fun W => Fr No w W ∧ Blk W w.heap.size 32 (flat zeroL)) ⟨(Fr.refl No w).alloc _, Blk.new w 32 (flat zeroL)⟩ (fun W hW => ?_)
  have hF0 := hW.1
  have hB0 := hW.2
  clear hW
  obtain ⟨b, hb⟩ : ∃ b, b = w.heap.size := ⟨_, rfl⟩
  rw [← hb] at hB0 ⊢
  have HB := Lib.hid hb
  clear hb
  go_loopw [2] (fun c wr => ∃ n : Nat, n ≤ 4 ∧ c = .int .i64 (65535 - (n : Int)) ∧ Fr No w wr ∧ Blk wr b 32 (flat (downL s7 s7_h 65535 n))) (fun c _ => (intOf c - 65531).toNat)
  case atStart => exact ⟨0, by omega, rfl, hF0, hB0⟩
  case round =>
    obtain ⟨n, hn, rfl, hF, hBk⟩ := hrel
    have HF := Lib.hid hF
    by_cases hlt : n < 4
    · obtain ⟨x, hx⟩ : ∃ x : Int, x = 65535 - (n : Int) := ⟨_, rfl⟩
      have h1 : 65531 < x := by omega
      have e1 : IntKind.i64.wrap (x - 1) = 65535 - ((n + 1 : Nat) : Int) := by rw [IntWalk.i64_in _ (by omega)]; omega
      have e2 : x - 1 = 65535 - ((n + 1 : Nat) : Int) := by omega
      have hnum : num x = true := by simp only [num, Bool.and_eq_true, decide_eq_true_eq]; omega
      have HIN : Hid (∀ X, Blk X b 32 (flat (downL s7 s7_h 65535 n)) → Gl X → Calls Tryd.prog 12 #[.pointer (some ⟨b, 0, none⟩), .int .i64 x, .agg (arr .u8 (mSec s7 x))] X fun ex w' => ex = .returned (.int .i64 0) ∧ Fr (· = b) X w' ∧ Blk w' b 32 (flat (downL s7 s7_h 65535 (n + 1)))) := Lib.hid (fun X hX hg => by
        have h2 := insert_of x s7_h (downL_of s7 s7_h 65535 n) hnum hX (downL_len s7 s7_h 65535 n) hg
        rw [downL]
        simp only [show ((65535 : Nat) : Int) - (n : Int) = x by omega]
        exact h2)
      have HMK : Hid (∀ X, Calls Tryd.prog 18 #[.agg (arr .u8 s7), .int .i64 x] X fun ex w' => ex = .returned (.tuple #[.agg (arr .u8 (mSec s7 x)), .int .i64 (mErr x)]) ∧ Fr No X w') := Lib.hid (fun X => rmake_any s7 x X s7_h)
      obtain ⟨D, hD⟩ : ∃ D, D = mSec s7 x := ⟨_, rfl⟩
      have HDL : Hid (D.length = 32) := Lib.hid (by rw [hD]; exact (mSec_h s7_h x).len)
      obtain ⟨me, hme⟩ : ∃ me, me = mErr x := ⟨_, rfl⟩
      rw [← hD] at HIN HMK
      rw [← hme] at HMK
      have HE : Hid (∀ m : Nat, 65535 - ((n + 1 : Nat) : Int) = 65535 - ((n + 1 : Nat) : Int)) := Lib.hid (fun _ => rfl)
      have HBk := Lib.hid hBk
      have HX2 : Hid ((x - 65531).toNat = 4 - n) := Lib.hid (by omega)
      have HX3 : Hid ((65535 - ((n + 1 : Nat) : Int) - 65531).toNat = 3 - n) := Lib.hid (by omega)
      rw [← hx]
      clear hD hme hF hBk hnum hx
      go_wp2_with fail
      refine (HMK.out _).mono ?_
      rintro ex w2 ⟨rfl, hF2⟩
      obtain ⟨Y, hY, hYR, hYF⟩ := hash_new w2 D HDL.out
      have HY := Lib.hid hY
      have hF5 := hF2.trans hYF
      have HYL := Lib.hid (hYR.load arHash HDL.out)
      have HBY := Lib.hid (HBk.out.fr hF5 id)
      have HFY := Lib.hid (HF.out.trans hF5)
      clear hY hYR hYF hF2 hF5
      go_wp2_with (first
        | (refine wpList_store_eq rfl 27 _ _ rfl (.pointer (some ⟨w2.heap.size, 0, none⟩)) (.agg (arr .u8 D)) rfl rfl HY.out ?_)
        | (refine wpList_load_eq rfl 27 _ rfl (.pointer (some ⟨w2.heap.size, 0, none⟩)) (.agg (arr .u8 D)) rfl HYL.out ?_))
      refine (HIN.out _ HBY.out (HG.out.fr HFY.out (fun _ _ => id))).mono ?_
      rintro ex w3 ⟨rfl, hF3, hB3⟩
      have HF3 : Hid (Fr No w w3) := Lib.hid (HFY.out.trans' hF3 (fun j hj e => by have := HB.out; omega))
      have HB3 := Lib.hid hB3
      clear hF3 hB3
      go_wp2
      exact ⟨⟨n + 1, by omega, by simp, HF3.out, HB3.out⟩, by simp [intOf]; omega⟩
    · obtain rfl : n = 4 := by omega
      have HL : Hid (∀ X, Blk X b 32 (flat (downL s7 s7_h 65535 4)) → Calls Tryd.prog 13 #[.pointer (some ⟨b, 0, none⟩)] X fun ex w' => ex = .returned (.int .i64 3) ∧ Fr No X w') := Lib.hid (fun X hX => by
        have := len_any b _ X hX (downL_len s7 s7_h 65535 4)
        rwa [shown_len] at this)
      have HBk := Lib.hid hBk
      clear hF hBk
      go_wp2_with fail
      refine (HL.out _ HBk.out).mono ?_
      rintro ex w3 ⟨rfl, hF3⟩
      have HF3 := Lib.hid (HF.out.trans hF3)
      clear hF3
      go_wp2
      go_ret
      exact ⟨rfl, HF3.out⟩
end Go.Proofs.YtnpgcgemifoddaaDoor
