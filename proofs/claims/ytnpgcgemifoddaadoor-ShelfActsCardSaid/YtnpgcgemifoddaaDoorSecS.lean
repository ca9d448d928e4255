/- The program's step: a bit turned, and the sum of that. -/
import Derived.Test.YtnpgcgemifoddaaDoorSecN
import Derived.Test.YtnpgcgemifoddaaDoorDigG
import Derived.Test.YtnpgcgemifoddaaDoorRefP
namespace Go.Proofs.YtnpgcgemifoddaaDoor
open Go.RowKit
set_option linter.unusedVariables false

set_option maxHeartbeats 1000000 in
set_option maxRecDepth 100000 in
theorem step_any (h : List Nat) (b : Nat) (w : World) (hh : H32 h) (hb : b < 16) (hg : Gl w) :
    Calls Tryd.prog 32 #[.agg (arr .u8 h), .int .i64 (b : Int)] w fun ex w' => ex = .returned (.agg (arr .u8 (stepL h b))) ∧ Fr No w w' := by
  obtain ⟨q, hq⟩ : ∃ q, q = b / 8 := ⟨_, rfl⟩
  obtain ⟨r, hr⟩ : ∃ r, r = b % 8 := ⟨_, rfl⟩
  obtain ⟨m, hm⟩ : ∃ m, m = 2 ^ r := ⟨_, rfl⟩
  obtain ⟨x, hx⟩ : ∃ x, x = h.getD q 0 := ⟨_, rfl⟩
  obtain ⟨y, hy⟩ : ∃ y, y = x ^^^ m := ⟨_, rfl⟩
  obtain ⟨T, hT⟩ : ∃ T, T = turnL h b := ⟨_, rfl⟩
  obtain ⟨D, hD⟩ : ∃ D, D = stepL h b := ⟨_, rfl⟩
  obtain ⟨TB, hTB⟩ : ∃ TB, TB = bn T := ⟨_, rfl⟩
  have hm8 : m < 256 := by rw [hm, hr]; exact pow8_lt b
  have hx8 : x < 256 := by rw [hx]; exact hh.b8.getD q
  have hTs : T = h.set q y := by rw [hT, turnL, hy, hx, hm, hr, hq]
  have hTH : H32 T := by rw [hT]; exact turnL_h hh b
  have hDH : H32 D := by rw [hD]; exact stepL_h h b
  have e1 : Int.tdiv (b : Int) 8 = (q : Int) := by rw [Int.tdiv_eq_ediv_of_nonneg (by omega)]; omega
  have e1' : (b : Int) / 8 = (q : Int) := by omega
  have e2 : Int.tmod (b : Int) 8 = (r : Int) := by rw [Int.tmod_eq_emod_of_nonneg (by omega)]; omega
  have e2' : (b : Int) % 8 = (r : Int) := by omega
  have hq32 : (q : Int) < 32 := by omega
  have hr8 : (r : Int) < 8 := by omega
  have hsh : (2 : Int) ^ r % 256 = (m : Int) := by
    have h1 : ((2 ^ r : Nat) : Int) = (2 : Int) ^ r := by simp
    rw [← h1, ← hm]
    omega
  have hxo : bits .xor .u8 (x : Int) (m : Int) = (y : Int) := by rw [hy]; exact u8_xor_nat _ _ hx8 hm8
  have HS : Hid (∀ X, Gl X → Calls Tryd.prog 35 #[.string (str TB)] X fun ex w' => ex = .returned (.agg (arr .u8 D)) ∧ Fr No X w') := Lib.hid (fun X hX => by
    rw [hD, stepL, hTB, hT]
    exact sum_any _ X (by rw [bn, List.length_map, (turnL_h hh b).len]; omega) hX)
  have HCV : Hid (∀ X g, Row X g 27 .u8 T → (convert 76 9 (.slice (some ⟨g, 0, none⟩) 32 32)).run Tryd.prog X = .ok (.string (str TB)) X) := Lib.hid (fun X g hR => by rw [hTB]; exact conv_row 32 hR hTH.len hTH.b8)
  have HTS := Lib.hid hTs
  have HH := Lib.hid hh
  have HD := Lib.hid hDH
  have HX := Lib.hid hx
  have HG := Lib.hid hg
  have HQ : Hid (q < 32) := Lib.hid (by omega)
  rw [← hD]
  clear hq hr hm hx hy hT hD hTB hm8 hx8 hTs hTH hDH hh hg hb
  go_enter Tryd.func32, Tryd.ntmps32
  go_wp2_with fail
  refine wp_world (fun W => Fr No w W ∧ Row W w.heap.size 27 .u8 h ∧ Row W (w.heap.size + 1) 27 .u8 (List.replicate 32 0)) ⟨((Fr.refl No w).alloc _).alloc _, Row.alloc (Row.new w 27 .u8 h) _, by have := Row.new (w.alloc (.cells (arr .u8 h) 27)) 27 .u8 (List.replicate 32 0); rwa [World.size_alloc] at this⟩ ?_
  rintro W1 ⟨hF, hR0, hR1⟩
  obtain ⟨p, hp⟩ : ∃ p, p = w.heap.size := ⟨_, rfl⟩
  rw [← hp] at hR0 hR1 ⊢
  have HP := Lib.hid hp
  have c0 := hR0.cellD (i := q) (by rw [HH.out.len]; exact HQ.out)
  have f0 := hR0.frozen q
  rw [← HX.out] at c0
  have HF := Lib.hid hF
  have H0 := Lib.hid hR0
  have H1 := Lib.hid hR1
  clear hp hF hR0 hR1
  go_region
  have F2 : Hid (Fr No w (W1.setCell ⟨p, q, none⟩ (.int .u8 (y : Int))).drew) := Lib.hid (HF.out.setCell (.inr (by rw [← HP.out]; exact Nat.le_refl _)) _).drew
  have R2 : Hid (Row (W1.setCell ⟨p, q, none⟩ (.int .u8 (y : Int))).drew p 27 .u8 T) := Lib.hid (by rw [HTS.out]; exact (H0.out.set q y).drew)
  have Z2 : Hid (Row (W1.setCell ⟨p, q, none⟩ (.int .u8 (y : Int))).drew (p + 1) 27 .u8 (List.replicate 32 0)) := Lib.hid (H1.out.set_other (by omega) _).drew
  generalize (W1.setCell ⟨p, q, none⟩ (.int .u8 (y : Int))).drew = W2 at *
  clear c0 f0 hsh hxo
  have CV := Lib.hid (HCV.out _ _ R2.out)
  go_wp2_with (refine wpList_convert_eq rfl 76 9 _ rfl _ (.string (str TB)) rfl CV.out ?_)
  refine (HS.out _ (HG.out.fr F2.out (fun _ _ => id))).mono ?_
  rintro ex w3 ⟨rfl, hF3⟩
  have F3 := Lib.hid (F2.out.trans hF3)
  obtain ⟨Y, hY, hYR, hYF⟩ := (Z2.out.fr hF3 id).stored (l' := D) arHash (by rfl) HD.out.len
  have HY := Lib.hid hY
  have HYR := Lib.hid (hYR.loadVar arHash HD.out.len)
  have HYF : Hid (Fr No w Y) := Lib.hid (F3.out.trans' hYF (fun k hk e => by have := HP.out; omega))
  clear hF3 hY hYR hYF
  go_wp2_with (refine wpList_store_eq rfl 27 _ _ rfl (.pointer (some ⟨p + 1, 0, none⟩)) (.agg (arr .u8 D)) rfl rfl HY.out ?_)
  exact bodyPost_ret (results_cell1 rfl rfl HYR.out) rfl ⟨rfl, HYF.out⟩
end Go.Proofs.YtnpgcgemifoddaaDoor
