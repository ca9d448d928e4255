/- The document's walk, Make and Derive. -/
import Derived.Test.YtnpgcgemifoddaaDoorSecD
import Derived.Test.YtnpgcgemifoddaaDoorSecS
import Derived.Test.YtnpgcgemifoddaaDoorRefS
namespace Go.Proofs.YtnpgcgemifoddaaDoor
open Go.RowKit
set_option linter.unusedVariables false

set_option maxHeartbeats 1000000 in
set_option maxRecDepth 100000 in
theorem rwalk_any (h : List Nat) (n i : Nat) (w : World) (hh : H32 h) (hn : n ≤ 16) (hi : i < 65536) :
    Calls Tryd.prog 27 #[.agg (arr .u8 h), .int .i64 (n : Int), .int .i64 (i : Int)] w fun ex w' => ex = .returned (.agg (arr .u8 (walkL h i n))) ∧ Fr No w w' := by
  obtain ⟨D, hD⟩ : ∃ D, D = walkL h i n := ⟨_, rfl⟩
  have HDL : Hid (D.length = 32) := Lib.hid (by rw [hD]; exact (walkL_h hh i n).len)
  have HDE : Hid (walkL h i n = D) := Lib.hid hD.symm
  have HS : Hid (∀ (T : List Nat) X, H32 T → Calls Tryd.prog 33 #[.string (str (bn T))] X fun ex w' => ex = .returned (.agg (arr .u8 (sumL (bn T)))) ∧ Fr No X w') := Lib.hid (fun T X hT => rsum_any _ X (by rw [bn, List.length_map, hT.len]; omega))
  have HCV : Hid (∀ X g (T : List Nat), H32 T → Row X g 27 .u8 T → (convert 76 9 (.slice (some ⟨g, 0, none⟩) 32 32)).run Tryd.prog X = .ok (.string (str (bn T))) X) := Lib.hid (fun X g T hT hR => conv_row 32 hR hT.len hT.b8)
  have HI := Lib.hid hi
  have HN := Lib.hid hn
  have HH := Lib.hid hh
  have en : IntKind.i64.wrap ((n : Int) - 1) = (n : Int) - 1 := IntWalk.i64_in _ (by omega)
  rw [← hD]
  clear hD hi hn hh
  go_enter Tryd.func27, Tryd.ntmps27
  go_wp2_with fail
  refine wp_world (fun W => Fr No w W ∧ Row W w.heap.size 27 .u8 h ∧ Row W (w.heap.size + 1) 27 .u8 (List.replicate 32 0)) ⟨((Fr.refl No w).alloc _).alloc _, Row.alloc (Row.new w 27 .u8 h) _, Row.new2 w _ 27 .u8 (List.replicate 32 0)⟩ ?_
  rintro W1 ⟨hF, hR0, hR1⟩
  obtain ⟨p, hp⟩ : ∃ p, p = w.heap.size := ⟨_, rfl⟩
  rw [← hp] at hR0 hR1 ⊢
  have HP := Lib.hid hp
  clear hp
  go_loopw [7] (fun c wr => ∃ (b : Nat) (H : List Nat), b ≤ 16 ∧ c = .int .i64 ((b : Int) - 1) ∧ H32 H ∧ walkL H i b = D ∧ Fr No w wr ∧ Row wr p 27 .u8 H ∧ Row wr (p + 1) 27 .u8 (List.replicate 32 0)) (fun c _ => (intOf c + 1).toNat)
  case atStart => exact ⟨n, h, HN.out, by simp, HH.out, HDE.out, hF, hR0, hR1⟩
  clear hF hR0 hR1
  case round =>
    obtain ⟨b, H, hb, rfl, hH, hW, hF, hR0, hR1⟩ := hrel
    match b, hb, hW with
    | 0, hb, hW =>
      have e : H = D := hW
      subst e
      have HL := Lib.hid (hR0.load arHash hH.len)
      obtain ⟨Y, hY, hYR, hYF⟩ := hR1.stored (l' := H) arHash (by rfl) hH.len
      have HY := Lib.hid hY
      have HYR := Lib.hid (hYR.loadVar arHash hH.len)
      have HYF : Hid (Fr No w Y) := Lib.hid (hF.trans' hYF (fun k hk e => by have := HP.out; omega))
      clear hH hW hF hR0 hR1 hY hYR hYF
      go_wp2_with (first
        | (refine wpList_load_eq rfl 27 _ rfl (.pointer (some ⟨p, 0, none⟩)) (.agg (arr .u8 H)) rfl HL.out ?_)
        | (refine wpList_store_eq rfl 27 _ _ rfl (.pointer (some ⟨p + 1, 0, none⟩)) (.agg (arr .u8 H)) rfl rfl HY.out ?_))
      exact bodyPost_ret (results_cell1 rfl rfl HYR.out) rfl ⟨rfl, HYF.out⟩
    | k + 1, hb, hW =>
      have e2 : IntKind.i64.wrap ((k : Int) - 1) = (k : Int) - 1 := IntWalk.i64_in _ (by omega)
      have HF := Lib.hid hF
      have H0 := Lib.hid hR0
      have H1 := Lib.hid hR1
      have HHH := Lib.hid hH
      have HK : Hid (k < 16) := Lib.hid (by omega)
      cases hk : bit i k with
      | false =>
        rw [walkL_none H hk] at hW
        have HW := Lib.hid hW
        clear hW hF hR0 hR1 hH
        go_wp2_with fail
        refine (rbit_is i k _ HI.out (by have := HK.out; omega) _ hk).mono ?_
        rintro ex w2 ⟨rfl, rfl⟩
        go_wp2
        exact ⟨⟨k, H, by omega, by simp, HHH.out, HW.out, HF.out, H0.out, H1.out⟩, by simp [intOf]⟩
      | true =>
        rw [walkL_one H (by omega) hk] at hW
        obtain ⟨q, hq⟩ : ∃ q, q = k / 8 := ⟨_, rfl⟩
        obtain ⟨r, hr⟩ : ∃ r, r = k % 8 := ⟨_, rfl⟩
        obtain ⟨m, hm⟩ : ∃ m, m = 2 ^ r := ⟨_, rfl⟩
        obtain ⟨x, hx⟩ : ∃ x, x = H.getD q 0 := ⟨_, rfl⟩
        obtain ⟨y, hy⟩ : ∃ y, y = x ^^^ m := ⟨_, rfl⟩
        obtain ⟨T, hT⟩ : ∃ T, T = turnL H k := ⟨_, rfl⟩
        obtain ⟨E, hE⟩ : ∃ E, E = stepL H k := ⟨_, rfl⟩
        obtain ⟨TB, hTB⟩ : ∃ TB, TB = bn T := ⟨_, rfl⟩
        have hm8 : m < 256 := by rw [hm, hr]; exact pow8_lt k
        have hx8 : x < 256 := by rw [hx]; exact hH.b8.getD q
        have hTs : T = H.set q y := by rw [hT, turnL, hy, hx, hm, hr, hq]
        have hTH : H32 T := by rw [hT]; exact turnL_h hH k
        have hEH : H32 E := by rw [hE]; exact stepL_h H k
        have e1 : Int.tdiv (k : Int) 8 = (q : Int) := by rw [Int.tdiv_eq_ediv_of_nonneg (by omega)]; omega
        have e1' : (k : Int) / 8 = (q : Int) := by omega
        have e3 : Int.tmod (k : Int) 8 = (r : Int) := by rw [Int.tmod_eq_emod_of_nonneg (by omega)]; omega
        have e3' : (k : Int) % 8 = (r : Int) := by omega
        have hq32 : (q : Int) < 32 := by omega
        have hr8 : (r : Int) < 8 := by omega
        have hsh : (2 : Int) ^ r % 256 = (m : Int) := by
          have h1 : ((2 ^ r : Nat) : Int) = (2 : Int) ^ r := by simp
          rw [← h1, ← hm]
          omega
        have hxo : bits .xor .u8 (x : Int) (m : Int) = (y : Int) := by rw [hy]; exact u8_xor_nat _ _ hx8 hm8
        have HSE : Hid (∀ X, Calls Tryd.prog 33 #[.string (str TB)] X fun ex w' => ex = .returned (.agg (arr .u8 E)) ∧ Fr No X w') := Lib.hid (fun X => by
          rw [hE, stepL, hTB, hT]
          exact HS.out _ X (turnL_h hH k))
        have HCT : Hid (∀ X g, Row X g 27 .u8 T → (convert 76 9 (.slice (some ⟨g, 0, none⟩) 32 32)).run Tryd.prog X = .ok (.string (str TB)) X) := Lib.hid (fun X g hR => by rw [hTB]; exact HCV.out X g T hTH hR)
        rw [← hE] at hW
        have HW := Lib.hid hW
        have HTS := Lib.hid hTs
        have HE := Lib.hid hEH
        have c0 := hR0.cellD (i := q) (by rw [hH.len]; omega)
        have f0 := hR0.frozen q
        rw [← hx] at c0
        clear hW hF hR0 hR1 hH hq hr hm hx hy hT hE hTB hm8 hx8 hTs hTH hEH
        go_wp2_with fail
        refine (rbit_is i k _ HI.out (by have := HK.out; omega) _ hk).mono ?_
        rintro ex w2 ⟨rfl, rfl⟩
        go_wp2_with fail
        go_region
        have F2 : Hid (Fr No w (w2.setCell ⟨p, q, none⟩ (.int .u8 (y : Int))).drew) := Lib.hid (HF.out.setCell (.inr (by rw [← HP.out]; exact Nat.le_refl _)) _).drew
        have R2 : Hid (Row (w2.setCell ⟨p, q, none⟩ (.int .u8 (y : Int))).drew p 27 .u8 T) := Lib.hid (by rw [HTS.out]; exact (H0.out.set q y).drew)
        have Z2 : Hid (Row (w2.setCell ⟨p, q, none⟩ (.int .u8 (y : Int))).drew (p + 1) 27 .u8 (List.replicate 32 0)) := Lib.hid (H1.out.set_other (by omega) _).drew
        generalize (w2.setCell ⟨p, q, none⟩ (.int .u8 (y : Int))).drew = W2 at *
        have HTL : Hid (T.length = 32) := Lib.hid (by rw [HTS.out, List.length_set]; exact HHH.out.len)
        clear c0 f0 hsh hxo HF H0 H1 HTS HHH HS HCV
        have CV := Lib.hid (HCT.out _ _ R2.out)
        go_wp2_with (refine wpList_convert_eq rfl 76 9 _ rfl _ (.string (str TB)) rfl CV.out ?_)
        refine (HSE.out _).mono ?_
        rintro ex w3 ⟨rfl, hF3⟩
        have F3 := Lib.hid (F2.out.trans hF3)
        have Z3 := Lib.hid (Z2.out.fr hF3 id)
        obtain ⟨Y, hY, hYR, hYF⟩ := (R2.out.fr hF3 id).stored (l' := E) arHash HTL.out HE.out.len
        have HY := Lib.hid hY
        have HYR := Lib.hid hYR
        have HYF : Hid (Fr No w Y) := Lib.hid (F3.out.trans' hYF (fun k hk e => by have := HP.out; omega))
        have HYZ : Hid (Row Y (p + 1) 27 .u8 (List.replicate 32 0)) := Lib.hid (Z3.out.fr hYF (by omega))
        clear hF3 hY hYR hYF
        go_wp2_with (refine wpList_store_eq rfl 27 _ _ rfl (.pointer (some ⟨p, 0, none⟩)) (.agg (arr .u8 E)) rfl rfl HY.out ?_)
        exact ⟨⟨k, E, by omega, by simp, HE.out, HW.out, HYF.out, HYR.out, HYZ.out⟩, by simp [intOf]⟩

/-- What a call with an array by value begins with: its box, and the result's variable. -/
structure Two (w : World) (h : List Nat) (W : World) : Prop where
  fr : Fr No w W
  row : Row W w.heap.size 27 .u8 h
  res : Row W (w.heap.size + 1) 27 .u8 (List.replicate 32 0)
theorem Two.new (w : World) (h : List Nat) : Two w h ((w.alloc (.cells (arr .u8 h) 27)).alloc (.cells (arr .u8 (List.replicate 32 0)) 27)) :=
  ⟨((Fr.refl No w).alloc _).alloc _, Row.alloc (Row.new w 27 .u8 h) _, Row.new2 w _ 27 .u8 (List.replicate 32 0)⟩
theorem Two.on {w W W' : World} {h : List Nat} (t : Two w h W) (f : Fr No W W') : Two w h W' := ⟨t.fr.trans f, t.row.fr f id, t.res.fr f id⟩
theorem Two.load {w W : World} {h : List Nat} (t : Two w h W) (hl : h.length = 32) : (Instr.loadAt 27 (.pointer (some ⟨w.heap.size, 0, none⟩))).run Tryd.prog W = .ok (.agg (arr .u8 h)) W := t.row.load arHash hl
theorem Two.store {w W : World} {h D : List Nat} (t : Two w h W) (hl : D.length = 32) : ∃ Y, (Instr.storeAt 27 (.pointer (some ⟨w.heap.size + 1, 0, none⟩)) (.agg (arr .u8 D))).run Tryd.prog W = .ok () Y ∧
    (Go.loadVar 27 ⟨w.heap.size + 1, 0, none⟩).run Tryd.prog Y = .ok (.agg (arr .u8 D)) Y ∧ Fr No w Y := by
  obtain ⟨Y, hY, hYR, hYF⟩ := t.res.stored (l' := D) arHash (by rfl) hl
  exact ⟨Y, hY, hYR.loadVar arHash hl, t.fr.trans' hYF (fun k hk e => by omega)⟩

set_option maxHeartbeats 1000000 in
set_option maxRecDepth 100000 in
theorem rmake_no (h : List Nat) (i : Int) (w : World) (hc : num i = false) :
    Calls Tryd.prog 18 #[.agg (arr .u8 h), .int .i64 i] w fun ex w' => ex = .returned (.tuple #[.agg (arr .u8 (List.replicate 32 0)), .int .i64 1]) ∧ Fr No w w' := by
  have T0 := Lib.hid (Two.new w h)
  go_enter Tryd.func18, Tryd.ntmps18
  go_wp2_with fail
  refine (rnumber_is i _ _ hc).mono ?_
  rintro ex w1 ⟨rfl, rfl⟩
  obtain ⟨Y, hY, hYR, hYF⟩ := T0.out.store (D := List.replicate 32 0) (by rfl)
  have HY := Lib.hid hY
  have HYR := Lib.hid hYR
  have HYF := Lib.hid hYF
  clear hY hYR hYF
  go_wp2_with (refine wpList_store_eq rfl 27 _ _ rfl (.pointer (some ⟨w.heap.size + 1, 0, none⟩)) (.agg (arr .u8 (List.replicate 32 0))) rfl rfl HY.out ?_)
  exact bodyPost_ret (results_cellT rfl rfl rfl HYR.out) rfl ⟨rfl, HYF.out⟩

set_option maxHeartbeats 1000000 in
set_option maxRecDepth 100000 in
theorem rmake_ok (h : List Nat) (i : Nat) (w : World) (hh : H32 h) (hi : i < 65536) :
    Calls Tryd.prog 18 #[.agg (arr .u8 h), .int .i64 (i : Int)] w fun ex w' => ex = .returned (.tuple #[.agg (arr .u8 (walkL h i 16)), .int .i64 0]) ∧ Fr No w w' := by
  have hc := num_of hi
  have HW : Hid (∀ X, Calls Tryd.prog 27 #[.agg (arr .u8 h), .int .i64 16, .int .i64 (i : Int)] X fun ex w' => ex = .returned (.agg (arr .u8 (walkL h i 16))) ∧ Fr No X w') := Lib.hid (fun X => rwalk_any h 16 i X hh (Nat.le_refl _) hi)
  obtain ⟨D, hD⟩ : ∃ D, D = walkL h i 16 := ⟨_, rfl⟩
  have HDL : Hid (D.length = 32) := Lib.hid (by rw [hD]; exact (walkL_h hh i 16).len)
  rw [← hD] at HW ⊢
  have HHL := Lib.hid hh.len
  have T0 := Lib.hid (Two.new w h)
  have HL := Lib.hid (T0.out.load HHL.out)
  clear hD hh hi
  go_enter Tryd.func18, Tryd.ntmps18
  go_wp2_with fail
  refine (rnumber_is i _ _ hc).mono ?_
  rintro ex w1 ⟨rfl, rfl⟩
  go_wp2_with (refine wpList_load_eq rfl 27 _ rfl (.pointer (some ⟨w.heap.size, 0, none⟩)) (.agg (arr .u8 h)) rfl HL.out ?_)
  refine (HW.out _).mono ?_
  rintro ex w2 ⟨rfl, hF2⟩
  obtain ⟨Y, hY, hYR, hYF⟩ := (T0.out.on hF2).store (D := D) HDL.out
  have HY := Lib.hid hY
  have HYR := Lib.hid hYR
  have HYF := Lib.hid hYF
  clear hF2 hY hYR hYF
  go_wp2_with (refine wpList_store_eq rfl 27 _ _ rfl (.pointer (some ⟨w.heap.size + 1, 0, none⟩)) (.agg (arr .u8 D)) rfl rfl HY.out ?_)
  exact bodyPost_ret (results_cellT rfl rfl rfl HYR.out) rfl ⟨rfl, HYF.out⟩

theorem rmake_any (h : List Nat) (i : Int) (w : World) (hh : H32 h) :
    Calls Tryd.prog 18 #[.agg (arr .u8 h), .int .i64 i] w fun ex w' => ex = .returned (.tuple #[.agg (arr .u8 (mSec h i)), .int .i64 (mErr i)]) ∧ Fr No w w' := by
  by_cases hc : num i = true
  · obtain ⟨n, rfl, hn⟩ := num_nat hc
    rw [mSec_num h hn, mErr_num hn]
    exact rmake_ok h n w hh hn
  · have hc' : num i = false := by simpa using hc
    rw [mSec, mErr, hc']
    exact rmake_no h i w hc'

set_option maxHeartbeats 1000000 in
set_option maxRecDepth 100000 in
theorem rderive_no (h : List Nat) (x y : Int) (w : World) (hc : can x y = false) :
    Calls Tryd.prog 19 #[.agg (arr .u8 h), .int .i64 x, .int .i64 y] w fun ex w' => ex = .returned (.tuple #[.agg (arr .u8 (List.replicate 32 0)), .int .i64 1]) ∧ Fr No w w' := by
  have T0 := Lib.hid (Two.new w h)
  have hca := fun X => rcan_any x y X
  rw [hc] at hca
  go_enter Tryd.func19, Tryd.ntmps19
  go_wp2_with fail
  refine (hca _).mono ?_
  rintro ex w1 ⟨rfl, rfl⟩
  obtain ⟨Y, hY, hYR, hYF⟩ := T0.out.store (D := List.replicate 32 0) (by rfl)
  have HY := Lib.hid hY
  have HYR := Lib.hid hYR
  have HYF := Lib.hid hYF
  clear hY hYR hYF
  go_wp2_with (refine wpList_store_eq rfl 27 _ _ rfl (.pointer (some ⟨w.heap.size + 1, 0, none⟩)) (.agg (arr .u8 (List.replicate 32 0))) rfl rfl HY.out ?_)
  exact bodyPost_ret (results_cellT rfl rfl rfl HYR.out) rfl ⟨rfl, HYF.out⟩

set_option maxHeartbeats 1000000 in
set_option maxRecDepth 100000 in
theorem rderive_ok (h : List Nat) (x y : Nat) (w : World) (hh : H32 h) (hx : x < 65536) (hy : y < 65536) (hc : canN x y = true) :
    Calls Tryd.prog 19 #[.agg (arr .u8 h), .int .i64 (x : Int), .int .i64 (y : Int)] w fun ex w' => ex = .returned (.tuple #[.agg (arr .u8 (walkL h y (placeN x))), .int .i64 0]) ∧ Fr No w w' := by
  have hca := fun X => rcan_num x y X hx hy
  rw [hc] at hca
  have HPL : Hid (∀ X, Calls Tryd.prog 20 #[.int .i64 (x : Int)] X fun ex w' => ex = .returned (.int .i64 (placeN x : Int)) ∧ w' = X) := Lib.hid (fun X => rplace_ok x X hx)
  obtain ⟨p, hp⟩ : ∃ p, p = placeN x := ⟨_, rfl⟩
  have hp16 : p ≤ 16 := by rw [hp]; exact (placeN_is x).le
  rw [← hp] at HPL ⊢
  have HW : Hid (∀ X, Calls Tryd.prog 27 #[.agg (arr .u8 h), .int .i64 (p : Int), .int .i64 (y : Int)] X fun ex w' => ex = .returned (.agg (arr .u8 (walkL h y p))) ∧ Fr No X w') := Lib.hid (fun X => rwalk_any h p y X hh hp16 hy)
  obtain ⟨D, hD⟩ : ∃ D, D = walkL h y p := ⟨_, rfl⟩
  have HDL : Hid (D.length = 32) := Lib.hid (by rw [hD]; exact (walkL_h hh y p).len)
  rw [← hD] at HW ⊢
  have HHL := Lib.hid hh.len
  have T0 := Two.new w h
  clear hD hh hx hy hc hp hp16
  go_enter Tryd.func19, Tryd.ntmps19
  go_wp2_with fail
  refine (hca _).mono ?_
  rintro ex w1 ⟨rfl, hw1⟩
  have T1 : Hid (Two w h w1) := Lib.hid (by rw [hw1]; exact T0)
  clear hw1 T0 hca
  have HLD : Hid (∀ X, Fr (fun k => k = w.heap.size + 1) w1 X → (Instr.loadAt 27 (.pointer (some ⟨w.heap.size, 0, none⟩))).run Tryd.prog X = .ok (.agg (arr .u8 h)) X) := Lib.hid (fun X hX => (T1.out.row.fr hX (by omega)).load arHash HHL.out)
  go_wp2_with fail
  refine wp_region_held_drew (S := (fun X => Fr (fun k => k = w.heap.size + 1) w1 X)) (by kernel_rfl) ((Fr.refl _ w1).drew) (fun hHeld => ?_)
  refine takeD (i := 0) (d := some 13) (v := .agg (arr .u8 h)) rfl (by kernel_rfl) (by kernel_rfl) (by kernel_rfl) (by kernel_rfl) (fun _ _ _ h => h) (Or.inl ⟨by kernel_rfl, fun X hX => Or.inl (exec_load 27 (.tmp 3) rfl _ _ rfl (HLD.out X hX))⟩) (by assumption) ?_
  (try simp only [Act.put]); (try simp only [List.setIfInBounds_toArray]); (try simp only [List.set_cons_succ]); (try simp only [List.set_cons_zero])
  refine takeD (i := 1) (d := some 14) (v := ?_) rfl (by kernel_rfl) (by kernel_rfl) (by kernel_rfl) (by kernel_rfl) (fun _ _ _ h => h) (Or.inl ⟨by kernel_rfl, fun X hX => Or.inl ?_⟩) (by assumption) ?_
  rotate_left
  · first | (go_simp; done) | (go_simp; with_reducible rfl)
  (try simp only [Act.put]); (try simp only [List.setIfInBounds_toArray]); (try simp only [List.set_cons_succ]); (try simp only [List.set_cons_zero])
  refine takeD (i := 3) (d := some 16) (v := ?_) rfl (by kernel_rfl) (by kernel_rfl) (by kernel_rfl) (by kernel_rfl) (fun _ _ _ h => h) (Or.inl ⟨by kernel_rfl, fun X hX => Or.inl ?_⟩) (by assumption) ?_
  rotate_left
  · first | (go_simp; done) | (go_simp; with_reducible rfl)
  (try simp only [Act.put]); (try simp only [List.setIfInBounds_toArray]); (try simp only [List.set_cons_succ]); (try simp only [List.set_cons_zero])
  refine wpAnyH_ready (rs := [2]) (by kernel_rfl) (by simp) ?_
  refine AllReadyH.cons rfl (fun K hK => ?_) AllReadyH.nil
  rw [if_pos (by kernel_rfl)]
  go_simp
  refine (HPL.out _).mono ?_
  rintro ex w2 ⟨rfl, rfl⟩
  refine hK.out _ _ (hHeld) (fun hHeld => ?_)
  clear hK K
  (try simp only [Act.put]); (try simp only [List.setIfInBounds_toArray]); (try simp only [List.set_cons_succ]); (try simp only [List.set_cons_zero])
  refine wpAnyH_ready (rs := [4]) (by kernel_rfl) (by simp) ?_
  refine AllReadyH.cons rfl (fun K hK => ?_) AllReadyH.nil
  rw [if_pos (by kernel_rfl)]
  go_simp
  refine (HW.out _).mono ?_
  rintro ex w3 ⟨rfl, hF3⟩
  have F3 := Lib.hid (hHeld.trans (hF3.mono (fun _ _ h => h.elim)))
  have T3 : Hid (Two w h w3) := Lib.hid ((show Two w h w1.drew from ⟨T1.out.fr.drew, T1.out.row, T1.out.res⟩).on hF3)
  clear hF3
  refine hK.out _ _ (F3.out) (fun hHeld => ?_)
  clear hK K
  (try simp only [Act.put]); (try simp only [List.setIfInBounds_toArray]); (try simp only [List.set_cons_succ]); (try simp only [List.set_cons_zero])
  refine wpAnyH_ready (rs := [5]) (by kernel_rfl) (by simp) ?_
  refine AllReadyH.cons rfl (fun K hK => ?_) AllReadyH.nil
  rw [if_pos (by kernel_rfl)]
  refine wp_store_row 27 _ _ rfl (w.heap.size + 1) rfl (arr .u8 D) rfl T3.out.res arHash (by rfl) (by rw [arr_size]; exact HDL.out) (arr_one _ _) ?_
  refine hK.out _ _ (fr_setRow hHeld (.inl rfl) _) (fun hHeld => ?_)
  clear hK K
  (try simp only [Act.put]); (try simp only [List.setIfInBounds_toArray]); (try simp only [List.set_cons_succ]); (try simp only [List.set_cons_zero])
  refine takeD (i := 6) (d := some 7) (v := ?_) rfl (by kernel_rfl) (by kernel_rfl) (by kernel_rfl) (by kernel_rfl) (fun _ _ _ h => h) (Or.inl ⟨by kernel_rfl, fun X hX => Or.inl ?_⟩) (by assumption) ?_
  rotate_left
  · first | (go_simp; done) | (go_simp; with_reducible rfl)
  (try simp only [Act.put]); (try simp only [List.setIfInBounds_toArray]); (try simp only [List.set_cons_succ]); (try simp only [List.set_cons_zero])
  refine wpAnyH_done (by kernel_rfl) ?_ _
  have HY := Lib.hid ((T3.out.res.setRow (l' := D)).loadVar arHash HDL.out)
  have HH : Hid (Fr No w (w3.setRow (w.heap.size + 1) (arr .u8 D))) := Lib.hid (T1.out.fr.trans' hHeld (fun k hk e => by omega))
  generalize w3.setRow (w.heap.size + 1) (arr .u8 D) = w8 at *
  clear hHeld
  go_wp2
  exact bodyPost_ret (results_cellT rfl rfl rfl HY.out) rfl ⟨rfl, HH.out⟩

theorem rderive_any (h : List Nat) (x y : Int) (w : World) (hh : H32 h) :
    Calls Tryd.prog 19 #[.agg (arr .u8 h), .int .i64 x, .int .i64 y] w fun ex w' => ex = .returned (.tuple #[.agg (arr .u8 (dSec h x y)), .int .i64 (dErr x y)]) ∧ Fr No w w' := by
  by_cases hc : can x y = true
  · have h1 : num x = true := by
      simp only [can, Bool.and_eq_true] at hc
      exact hc.1.1
    have h2 : num y = true := by
      simp only [can, Bool.and_eq_true] at hc
      exact hc.1.2
    obtain ⟨a, rfl, ha⟩ := num_nat h1
    obtain ⟨b, rfl, hb⟩ := num_nat h2
    rw [can_of ha hb] at hc
    rw [dSec_num h ha hb hc, dErr_num ha hb hc]
    exact rderive_ok h a b w hh ha hb hc
  · have hc' : can x y = false := by simpa using hc
    rw [dSec_no h hc', dErr_no hc']
    exact rderive_no h x y w hc'
end Go.Proofs.YtnpgcgemifoddaaDoor
