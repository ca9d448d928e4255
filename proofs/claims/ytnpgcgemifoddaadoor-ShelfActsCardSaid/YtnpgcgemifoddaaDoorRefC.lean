/- Compress, as the document has it. -/
import Derived.Test.YtnpgcgemifoddaaDoorRefB
import Derived.BigQuiet
namespace Go.Proofs.YtnpgcgemifoddaaDoor
open Go.RowKit
set_option linter.unusedVariables false

theorem xor64 (a b : Nat) (ha : a < W32) (hb : b < W32) : bits .xor .u64 (a : Int) (b : Int) = ((a ^^^ b : Nat) : Int) := by
  unfold W32 at *
  exact u64_xor_nat a b (by omega) (by omega)
theorem and64 (a b : Nat) (ha : a < W32) (hb : b < W32) : bits .and .u64 (a : Int) (b : Int) = ((a &&& b : Nat) : Int) := by
  unfold W32 at *
  exact u64_and_nat a b (by omega) (by omega)

/-- An operation that yields a value, by an equation on its run. -/
theorem wpList_val_eq {P : Program} {ops : Array Oper} {rest : List Oper} {o : Oper} {a : Act} {w : World} {Q : Exit → Act → World → Prop} (hgd : o.guard = none) (v : Value) (hr : (execOp a.eval o).run P w = .ok (.value v) w)
    (h : wpList P ops Q rest (a.put o.dst v) w) : wpList P ops Q (o :: rest) a w :=
  wpList_plain hgd fun _ hK => by
    unfold Oper.wp
    rw [hr]
    exact hK _ _ h

set_option maxRecDepth 100000 in
theorem zero64 (w : World) : (zeroValue 87).run Tryd.prog w = .ok (.agg (arr .u64 (List.replicate 64 0))) w := by kernel_rfl

set_option maxHeartbeats 1000000 in
set_option maxRecDepth 100000 in
theorem rcomp_no (h : List Nat) (bs : List UInt8) (w : World) (hh : h.length = 8) (hb : bs.length ≠ 64) :
    Calls Tryd.prog 37 #[.agg (arr .u64 h), .string (str bs)] w fun ex w' => ex = .returned (.tuple #[.agg (arr .u64 h), .bool false]) ∧ Fr No w w' := by
  have hsz := str_size bs
  have hb2 : (bs.length : Int) ≠ 64 := by omega
  obtain ⟨a, b, c, d, e, f, g, i, rfl⟩ := eight hh
  go_enter Tryd.func37, Tryd.ntmps37
  go_wp2_with fail
  refine bodyPost_ret (results_cellT rfl rfl rfl (Row.loadVar (k := .u64) (l := [a, b, c, d, e, f, g, i]) (alloc2_new w _ _) arQ8 rfl)) rfl ?_
  exact ⟨rfl, ((Fr.refl No w).alloc _).alloc _⟩

set_option maxRecDepth 100000 in
theorem build64 (a : Act) (o : Oper) (ho : o.op = .build 87 #[]) (w : World) : (execOp a.eval o).run Tryd.prog w = .ok (.value (.agg (arr .u64 (List.replicate 64 0)))) w := by
  unfold execOp
  simp only [ho]
  kernel_rfl

theorem rturn_int (x : Nat) (n : Int) (w : World) (hx : x < W32) (h0 : 0 ≤ n) (hn : n ≤ 32) :
    Calls Tryd.prog 42 #[.int .u64 x, .int .i64 n] w fun e w' => e = .returned (.int .u64 (rotr x n.toNat)) ∧ w' = w := by
  obtain ⟨k, rfl⟩ := Int.eq_ofNat_of_zero_le h0
  exact rturn_any x k w hx (by omega)

theorem rstart (h : List Nat) (bs : List UInt8) (w : World) : (fun W => Fr No w W ∧ Row W w.heap.size 78 .u64 h ∧ Row W (w.heap.size + 1) 78 .u64 (List.replicate 8 0) ∧ Row W (w.heap.size + 2) 87 .u64 (words0 bs 0))
    ((((w.alloc (.cells (arr .u64 h) 78)).alloc (.cells (arr .u64 (List.replicate 8 0)) 78)).alloc (.cells (arr .u64 (List.replicate 64 0)) 87)).setRow (w.heap.size + 2) (arr .u64 (List.replicate 64 0))) := by
  have hF : Fr (fun k => k = w.heap.size + 2) (((w.alloc (.cells (arr .u64 h) 78)).alloc (.cells (arr .u64 (List.replicate 8 0)) 78)).alloc (.cells (arr .u64 (List.replicate 64 0)) 87)) ((((w.alloc (.cells (arr .u64 h) 78)).alloc (.cells (arr .u64 (List.replicate 8 0)) 78)).alloc (.cells (arr .u64 (List.replicate 64 0)) 87)).setRow (w.heap.size + 2) (arr .u64 (List.replicate 64 0))) :=
    fr_setRow (S := fun k => k = w.heap.size + 2) (Fr.refl _ _) (.inl rfl) _
  refine ⟨fr_setRow ((((Fr.refl No w).alloc _).alloc _).alloc _) (.inr (by omega)) _, ?_, ?_, (Row.new3 w _ _ 87 .u64 (List.replicate 64 0)).setRow⟩
  · exact Row.fr (((Row.new w 78 .u64 h).alloc _).alloc _) hF (by show ¬ _ = _; omega)
  · exact Row.fr ((Row.new2 w _ 78 .u64 (List.replicate 8 0)).alloc _) hF (by show ¬ _ = _; omega)

set_option maxHeartbeats 4000000 in
set_option maxRecDepth 100000 in
theorem rcomp_ok (h : List Nat) (bs : List UInt8) (w : World) (hh : h.length = 8) (hw : Ws h) (hb : bs.length = 64) :
    Calls Tryd.prog 37 #[.agg (arr .u64 h), .string (str bs)] w fun ex w' => ex = .returned (.tuple #[.agg (arr .u64 (comp h bs)), .bool true]) ∧ Fr No w w' := by
  have hsz : (str bs).size = 64 := (str_size bs).trans hb
  have HH := Lib.hid hh
  have HB := Lib.hid hb
  have HW := Lib.hid hw
  clear hh hb hw
  go_enter Tryd.func37, Tryd.ntmps37
  go_wp2_with (first
    | (refine wpList_val_eq rfl _ (build64 _ _ rfl _) ?_)
    | (refine wpList_store_row rfl 87 _ _ rfl (w.heap.size + 2) rfl (arr .u64 (List.replicate 64 0)) rfl (Row.new3 w _ _ 87 .u64 (List.replicate 64 0)) arQ64 (by rfl) (by rw [arr_size]; rfl) (arr_one _ _) ?_
       refine wpList_world (fun W => Fr No w W ∧ Row W w.heap.size 78 .u64 h ∧ Row W (w.heap.size + 1) 78 .u64 (List.replicate 8 0) ∧ Row W (w.heap.size + 2) 87 .u64 (words0 bs 0))
         (rstart h bs w) ?_
       rintro w1 ⟨hF, h1, h2, h3⟩
       have HF := Lib.hid hF
       have H1 := Lib.hid h1
       have H2 := Lib.hid h2
       have H3 := Lib.hid h3
       clear hF h1 h2 h3))
  obtain ⟨p, hp⟩ : ∃ p, p = w.heap.size := ⟨_, rfl⟩
  have HP := Lib.hid hp
  rw [← hp] at H1 H2 H3 ⊢
  clear hp
  go_loopw [7] (fun c wr => ∃ i : Nat, i ≤ 16 ∧ c = .int .i64 i ∧ Fr No w wr ∧ Row wr p 78 .u64 h ∧ Row wr (p + 1) 78 .u64 (List.replicate 8 0) ∧ Row wr (p + 2) 87 .u64 (words0 bs (4 * i))) (fun c _ => 16 - (intOf c).toNat)
  case atStart => exact ⟨0, by omega, rfl, HF.out, H1.out, H2.out, H3.out⟩
  clear HF H1 H2 H3
  case round =>
    obtain ⟨i, hi, rfl, hF, k1, k2, k3⟩ := hrel
    by_cases hlt : i < 16
    · have h1 : (i : Int) < 16 := by omega
      have HF := Lib.hid hF
      have K1 := Lib.hid k1
      have K2 := Lib.hid k2
      have K3 := Lib.hid k3
      clear hF k1 k2 k3
      go_wp2
      go_loopw [8] (fun c wr => ∃ k : Nat, k ≤ 4 ∧ c = .int .i64 k ∧ Fr No w wr ∧ Row wr p 78 .u64 h ∧ Row wr (p + 1) 78 .u64 (List.replicate 8 0) ∧ Row wr (p + 2) 87 .u64 (words0 bs (4 * i + k))) (fun c _ => 4 - (intOf c).toNat)
      case atStart => exact ⟨0, by omega, rfl, HF.out, K1.out, K2.out, K3.out⟩
      clear HF K1 K2 K3
      case round =>
        obtain ⟨k, hk, rfl, hF, k1, k2, k3⟩ := hrel
        by_cases hkl : k < 4
        · have h2 : (k : Int) < 4 := by omega
          obtain ⟨m, hm⟩ : ∃ m, m = 4 * i + k := ⟨_, rfl⟩
          obtain ⟨i4, hi4⟩ : ∃ i4, i4 = 4 * i := ⟨_, rfl⟩
          rw [← hm] at k3
          have hm64 : (m : Int) < 64 := by omega
          have e1 : IntKind.i64.wrap (4 * (i : Int)) = (i4 : Int) := by rw [IntKind.wrap_i64]; omega
          have e2 : IntKind.i64.wrap ((i4 : Int) + (k : Int)) = (m : Int) := by rw [IntKind.wrap_i64]; omega
          obtain ⟨x, hx⟩ : ∃ x, x = (words0 bs m).getD i 0 := ⟨_, rfl⟩
          obtain ⟨b, hb⟩ : ∃ b, b = bs.getD m 0 := ⟨_, rfl⟩
          obtain ⟨y, hy⟩ : ∃ y, y = x * 256 + b.toNat := ⟨_, rfl⟩
          have hmi : m / 4 = i := by omega
          have hget : ∀ h : m < (str bs).size, (str bs)[m]'h = b := fun h => (str_get bs m h).trans hb.symm
          have hxs : (x : Int) < 16777216 := by have := words0_at bs m (by omega); rw [hmi, ← hx] at this; omega
          have hbt := b.toNat_lt
          have ey1 : IntKind.u64.wrap ((x : Int) * 256) = (x : Int) * 256 := by rw [IntKind.wrap_u64]; omega
          have ey2 : IntKind.u64.wrap ((x : Int) * 256 + (b.toNat : Int)) = (y : Int) := by rw [IntKind.wrap_u64]; omega
          have ey3 : IntKind.u64.wrap (b.toNat : Int) = (b.toNat : Int) := by rw [IntKind.wrap_u64]; omega
          have c3 := k3.cellD (i := i) (by rw [words0_len]; omega)
          have f3 := k3.frozen i
          rw [← hx] at c3
          have HN : Hid (words0 bs (m + 1) = (words0 bs m).set i y) := Lib.hid (by rw [hy, hx, hb, ← hmi]; rfl)
          have HF := Lib.hid hF
          have K1 := Lib.hid k1
          have K2 := Lib.hid k2
          have K3 := Lib.hid k3
          have HM := Lib.hid hm
          clear hx hb hy hF k1 k2 k3 hm hi4 hmi hbt
          go_wp2_with fail
          go_region
          go_wp2
          refine ⟨⟨k + 1, by omega, by simp, (HF.out.setCell (.inr (by have := HP.out; show _ ≤ p + 2; omega)) _).drew, (K1.out.set_other (by omega) _).drew, (K2.out.set_other (by omega) _).drew, ?_⟩, by simp [intOf]; omega⟩
          rw [show 4 * i + (k + 1) = m + 1 by have := HM.out; omega, HN.out]
          exact (K3.out.set i y).drew
        · have hge : ¬ (k : Int) < 4 := by omega
          rw [show 4 * i + k = 4 * (i + 1) by omega] at k3
          have HF := Lib.hid hF
          have K1 := Lib.hid k1
          have K2 := Lib.hid k2
          have K3 := Lib.hid k3
          clear hF k1 k2 k3
          go_wp2
          exact ⟨⟨i + 1, by omega, by simp, HF.out, K1.out, K2.out, K3.out⟩, by simp [intOf]; omega⟩
    · have hge : ¬ (i : Int) < 16 := by omega
      rw [show 4 * i = 64 by omega] at k3
      have HF := Lib.hid hF
      have K1 := Lib.hid k1
      have K2 := Lib.hid k2
      have K3 : Hid (Row wr (p + 2) 87 .u64 (sched bs 0)) := Lib.hid k3
      clear hF k1 k2 k3
      go_wp2
      go_loopw [9] (fun c wr => ∃ j : Nat, j ≤ 48 ∧ c = .int .i64 ((16 + j : Nat) : Int) ∧ Fr No w wr ∧ Row wr p 78 .u64 h ∧ Row wr (p + 1) 78 .u64 (List.replicate 8 0) ∧ Row wr (p + 2) 87 .u64 (sched bs j)) (fun c _ => 64 - (intOf c).toNat)
      case atStart => exact ⟨0, by omega, rfl, HF.out, K1.out, K2.out, K3.out⟩
      clear HF K1 K2 K3
      case round =>
        clear hi hlt hge
        obtain ⟨j, hj, rfl, hF, k1, k2, k3⟩ := hrel
        obtain ⟨i', hi⟩ : ∃ i', i' = 16 + j := ⟨_, rfl⟩
        rw [← hi]
        by_cases hlt : j < 48
        · obtain ⟨a1, ha1⟩ : ∃ a1, a1 = 1 + j := ⟨_, rfl⟩
          obtain ⟨a2, ha2⟩ : ∃ a2, a2 = 14 + j := ⟨_, rfl⟩
          obtain ⟨a3, ha3⟩ : ∃ a3, a3 = 9 + j := ⟨_, rfl⟩
          have h1 : (i' : Int) < 64 := by omega
          have e1 : (i' : Int) - 15 = (a1 : Int) := by omega
          have e2 : (i' : Int) - 2 = (a2 : Int) := by omega
          have e3 : (i' : Int) - 7 = (a3 : Int) := by omega
          have e4 : (i' : Int) - 16 = (j : Int) := by omega
          have g1 : (a1 : Int) < 64 := by omega
          have g2 : (a2 : Int) < 64 := by omega
          have g3 : (a3 : Int) < 64 := by omega
          have g4 : (j : Int) < 64 := by omega
          have hlen := sched_len bs j
          obtain ⟨x1, hx1⟩ : ∃ x, x = (sched bs j).getD a1 0 := ⟨_, rfl⟩
          obtain ⟨x2, hx2⟩ : ∃ x, x = (sched bs j).getD a2 0 := ⟨_, rfl⟩
          obtain ⟨x3, hx3⟩ : ∃ x, x = (sched bs j).getD a3 0 := ⟨_, rfl⟩
          obtain ⟨x4, hx4⟩ : ∃ x, x = (sched bs j).getD j 0 := ⟨_, rfl⟩
          have c1 := k3.cellD (i := a1) (by omega)
          have c2 := k3.cellD (i := a2) (by omega)
          have c3 := k3.cellD (i := a3) (by omega)
          have c4 := k3.cellD (i := j) (by omega)
          have c5 := k3.cellD (i := i') (by omega)
          have f5 := k3.frozen i'
          rw [← hx1] at c1
          rw [← hx2] at c2
          rw [← hx3] at c3
          rw [← hx4] at c4
          have hx1W : x1 < W32 := by rw [hx1]; exact (sched_ws bs j).getD _
          have hx2W : x2 < W32 := by rw [hx2]; exact (sched_ws bs j).getD _
          have hx3W : x3 < W32 := by rw [hx3]; exact (sched_ws bs j).getD _
          have hx4W : x4 < W32 := by rw [hx4]; exact (sched_ws bs j).getD _
          obtain ⟨z1, hz1⟩ : ∃ z, z = x1 / 2 ^ 3 := ⟨_, rfl⟩
          obtain ⟨z2, hz2⟩ : ∃ z, z = x2 / 2 ^ 10 := ⟨_, rfl⟩
          have hz1W : z1 < W32 := by rw [hz1]; exact Nat.lt_of_le_of_lt (Nat.div_le_self _ _) hx1W
          have hz2W : z2 < W32 := by rw [hz2]; exact Nat.lt_of_le_of_lt (Nat.div_le_self _ _) hx2W
          have hsh1 := fun W => rshift_any x1 3 W (by unfold W32 at hx1W; omega) (by omega)
          have hsh2 := fun W => rshift_any x2 10 W (by unfold W32 at hx2W; omega) (by omega)
          rw [← hz1] at hsh1
          rw [← hz2] at hsh2
          obtain ⟨q1, hq1⟩ : ∃ q, q = rotr x1 7 ^^^ rotr x1 18 := ⟨_, rfl⟩
          obtain ⟨q2, hq2⟩ : ∃ q, q = rotr x2 17 ^^^ rotr x2 19 := ⟨_, rfl⟩
          obtain ⟨u1, hu1⟩ : ∃ u, u = s0 x1 := ⟨_, rfl⟩
          obtain ⟨u2, hu2⟩ : ∃ u, u = s1 x2 := ⟨_, rfl⟩
          have hq1W : q1 < W32 := by rw [hq1]; exact xor_lt (rotr_lt x1 7 hx1W (by omega)) (rotr_lt x1 18 hx1W (by omega))
          have hq2W : q2 < W32 := by rw [hq2]; exact xor_lt (rotr_lt x2 17 hx2W (by omega)) (rotr_lt x2 19 hx2W (by omega))
          have hu1W : u1 < W32 := by rw [hu1]; exact s0_lt hx1W
          have hu2W : u2 < W32 := by rw [hu2]; exact s1_lt hx2W
          have hxa : bits .xor .u64 ((rotr x1 7 : Nat) : Int) ((rotr x1 18 : Nat) : Int) = (q1 : Int) := by rw [hq1]; exact xor64 _ _ (rotr_lt x1 7 hx1W (by omega)) (rotr_lt x1 18 hx1W (by omega))
          have hxb : bits .xor .u64 ((rotr x2 17 : Nat) : Int) ((rotr x2 19 : Nat) : Int) = (q2 : Int) := by rw [hq2]; exact xor64 _ _ (rotr_lt x2 17 hx2W (by omega)) (rotr_lt x2 19 hx2W (by omega))
          have hxc : bits .xor .u64 (q1 : Int) (z1 : Int) = (u1 : Int) := by rw [xor64 _ _ hq1W hz1W, hu1, hq1, hz1]; rfl
          have hxd : bits .xor .u64 (q2 : Int) (z2 : Int) = (u2 : Int) := by rw [xor64 _ _ hq2W hz2W, hu2, hq2, hz2]; rfl
          obtain ⟨v1, hv1⟩ : ∃ v, v = x4 + u1 := ⟨_, rfl⟩
          obtain ⟨v2, hv2⟩ : ∃ v, v = v1 + x3 := ⟨_, rfl⟩
          obtain ⟨v3, hv3⟩ : ∃ v, v = v2 + u2 := ⟨_, rfl⟩
          obtain ⟨y, hy⟩ : ∃ y, y = v3 % W32 := ⟨_, rfl⟩
          have HN : Hid (sched bs (j + 1) = (sched bs j).set i' y) := Lib.hid (by rw [hy, hv3, hv2, hv1, hu1, hu2, hx1, hx2, hx3, hx4, ha1, ha2, ha3, hi]; rfl)
          have s1' : (x4 : Int) + (u1 : Int) = (v1 : Int) := by omega
          have s2' : (v1 : Int) + (x3 : Int) = (v2 : Int) := by omega
          have s3' : (v2 : Int) + (u2 : Int) = (v3 : Int) := by omega
          have s4' : (v3 : Int) % 4294967296 = (y : Int) := by rw [hy]; unfold W32; omega
          have w1' : IntKind.u64.wrap (v1 : Int) = (v1 : Int) := by unfold W32 at *; rw [IntKind.wrap_u64]; omega
          have w2' : IntKind.u64.wrap (v2 : Int) = (v2 : Int) := by unfold W32 at *; rw [IntKind.wrap_u64]; omega
          have w3' : IntKind.u64.wrap (v3 : Int) = (v3 : Int) := by unfold W32 at *; rw [IntKind.wrap_u64]; omega
          have HX1 := Lib.hid hx1W
          have HX2 := Lib.hid hx2W
          have HS1 := Lib.hid hsh1
          have HS2 := Lib.hid hsh2
          have HF := Lib.hid hF
          have K1 := Lib.hid k1
          have K2 := Lib.hid k2
          have K3 := Lib.hid k3
          have HI := Lib.hid hi
          clear hx1 hx2 hx3 hx4 ha1 ha2 ha3 hz1 hz2 hq1 hq2 hu1 hu2 hv1 hv2 hv3 hy hi hF k1 k2 k3 hlen hsh1 hsh2 hx1W hx2W hx3W hx4W hz1W hz2W hq1W hq2W hu1W hu2W
          go_wp2_with fail
          refine (rturn_any x1 7 _ HX1.out (by omega)).mono ?_
          rintro ex w5 ⟨rfl, rfl⟩
          go_wp2_with fail
          refine (rturn_any x1 18 _ HX1.out (by omega)).mono ?_
          rintro ex w5 ⟨rfl, rfl⟩
          go_wp2_with fail
          refine (HS1.out _).mono ?_
          rintro ex w5 ⟨rfl, rfl⟩
          go_wp2_with fail
          refine (rturn_any x2 17 _ HX2.out (by omega)).mono ?_
          rintro ex w5 ⟨rfl, rfl⟩
          go_wp2_with fail
          refine (rturn_any x2 19 _ HX2.out (by omega)).mono ?_
          rintro ex w5 ⟨rfl, rfl⟩
          go_wp2_with fail
          refine (HS2.out _).mono ?_
          rintro ex w5 ⟨rfl, rfl⟩
          go_wp2_with fail
          go_region
          go_wp2
          have hii := HI.out
          refine ⟨⟨j + 1, by omega, by congr 1; omega, (HF.out.setCell (.inr (by have := HP.out; show _ ≤ p + 2; omega)) _).drew, (K1.out.set_other (by omega) _).drew, (K2.out.set_other (by omega) _).drew, ?_⟩, by simp [intOf]; omega⟩
          rw [HN.out]
          exact (K3.out.set i' y).drew
        · have hge : ¬ (i' : Int) < 64 := by omega
          rw [show j = 48 by omega] at k3
          obtain ⟨S, hS⟩ : ∃ S, S = sched bs 48 := ⟨_, rfl⟩
          rw [← hS] at k3
          have HSL : Hid (S.length = 64 ∧ Ws S) := Lib.hid (by rw [hS]; exact ⟨sched_len bs 48, sched_ws bs 48⟩)
          have HCO : Hid (comp h bs = adds h (rounds1 h S 64) 8) := Lib.hid (by rw [hS]; rfl)
          obtain ⟨KK, hKK⟩ : ∃ KK, KK = KL := ⟨_, rfl⟩
          have HKL : Hid (KK = KL ∧ KK.length = 64 ∧ Ws KK) := Lib.hid (by rw [hKK]; exact ⟨rfl, KL_len, KL_ws⟩)
          have hrk := fun W => rk_any W
          rw [← hKK] at hrk
          have HF := Lib.hid hF
          have K1 := Lib.hid k1
          have K2 := Lib.hid k2
          have K3 := Lib.hid k3
          clear hS hKK hF k1 k2 k3 hi
          go_wp2_with fail
          refine (hrk _).mono ?_
          rintro ex w4 ⟨rfl, hF4⟩
          have F4 := Lib.hid (HF.out.trans hF4)
          have L1 := Lib.hid (K1.out.fr (S := No) hF4 id)
          have L2 := Lib.hid (K2.out.fr (S := No) hF4 id)
          have L3 := Lib.hid (K3.out.fr (S := No) hF4 id)
          clear hF4 hrk HF K1 K2 K3
          go_wp2_with (first
            | (refine wpList_store_row rfl 87 _ _ rfl w4.heap.size rfl (arr .u64 KK) rfl (Row.new w4 87 .u64 (List.replicate 64 0)) arQ64 (by rfl) (by rw [arr_size, HKL.out.2.1]) (arr_one _ _) ?_
               refine wpList_world (fun W => Fr No w4 W ∧ Row W w4.heap.size 87 .u64 KK ∧ W.heap.size = w4.heap.size + 1) ⟨fr_setRow ((Fr.refl No w4).alloc _) (.inr (Nat.le_refl _)) _, (Row.new w4 87 .u64 (List.replicate 64 0)).setRow, by simp⟩ ?_
               rintro w5 ⟨hF5, hR5, hs5⟩
               have F5 := Lib.hid (F4.out.trans hF5)
               have M1 := Lib.hid (L1.out.fr (S := No) hF5 id)
               have M2 := Lib.hid (L2.out.fr (S := No) hF5 id)
               have M3 := Lib.hid (L3.out.fr (S := No) hF5 id)
               have M4 := Lib.hid hR5
               have HS5 := Lib.hid hs5
               clear hF5 hR5 hs5)
            | (refine wpList_load_eq rfl 78 _ rfl (.pointer (some ⟨p, 0, none⟩)) (.agg (arr .u64 h)) rfl (M1.out.load arQ8 HH.out) ?_)
            | (refine wpList_store_row rfl 78 _ _ rfl w5.heap.size rfl (arr .u64 h) rfl (Row.new w5 78 .u64 (List.replicate 8 0)) arQ8 (by rfl) (by rw [arr_size, HH.out]) (arr_one _ _) ?_
               refine wpList_world (fun W => Fr No w5 W ∧ Row W w5.heap.size 78 .u64 h) ⟨fr_setRow ((Fr.refl No w5).alloc _) (.inr (Nat.le_refl _)) _, (Row.new w5 78 .u64 (List.replicate 8 0)).setRow⟩ ?_
               rintro w6 ⟨hF6, hR6⟩
               have F6 := Lib.hid (F5.out.trans hF6)
               have N1 := Lib.hid (M1.out.fr (S := No) hF6 id)
               have N2 := Lib.hid (M2.out.fr (S := No) hF6 id)
               have N3 := Lib.hid (M3.out.fr (S := No) hF6 id)
               have N4 := Lib.hid (M4.out.fr (S := No) hF6 id)
               have N5 := Lib.hid hR6
               clear hF6 hR6))
          obtain ⟨q, hq⟩ : ∃ q, q = w4.heap.size := ⟨_, rfl⟩
          obtain ⟨r, hr⟩ : ∃ r, r = w5.heap.size := ⟨_, rfl⟩
          have HQR : Hid (p + 2 < q ∧ q + 1 = r ∧ w.heap.size ≤ p) := Lib.hid (by have := HS5.out; have := L3.out.lt; have := HP.out; omega)
          rw [← hq] at N4
          rw [← hr] at N5
          rw [← hq, ← hr]
          clear hq hr L1 L2 L3 M1 M2 M3 M4 F4 F5 HS5
          go_loopw [16] (fun c wr => ∃ i : Nat, i ≤ 64 ∧ c = .int .i64 i ∧ Fr No w wr ∧ Row wr p 78 .u64 h ∧ Row wr (p + 1) 78 .u64 (List.replicate 8 0) ∧ Row wr (p + 2) 87 .u64 S ∧ Row wr q 87 .u64 KK ∧ Row wr r 78 .u64 (rounds1 h S i)) (fun c _ => 64 - (intOf c).toNat)
          case atStart => exact ⟨0, by omega, rfl, F6.out, N1.out, N2.out, N3.out, N4.out, N5.out⟩
          clear F6 N1 N2 N3 N4 N5
          case round =>
            clear hlt hge
            obtain ⟨i, hi, rfl, hF, k1, k2, k3, k4, k5⟩ := hrel
            by_cases hlt : i < 64
            · have h1 : (i : Int) < 64 := by omega
              obtain ⟨V, hV⟩ : ∃ V, V = rounds1 h S i := ⟨_, rfl⟩
              obtain ⟨a, b, c, d, e, f, g, hh, hVe⟩ := eight (l := V) (by rw [hV]; exact rounds1_len _ HH.out i)
              have hVW : Ws V := by rw [hV]; exact rounds1_ws _ HW.out i
              rw [← hV, hVe] at k5
              rw [hVe] at hVW
              have haW : a < W32 := hVW _ (by simp)
              have hbW : b < W32 := hVW _ (by simp)
              have hcW : c < W32 := hVW _ (by simp)
              have hdW : d < W32 := hVW _ (by simp)
              have heW : e < W32 := hVW _ (by simp)
              have hfW : f < W32 := hVW _ (by simp)
              have hgW : g < W32 := hVW _ (by simp)
              have hhW : hh < W32 := hVW _ (by simp)
              have c0 := k5.cell (i := 0) (x := a) rfl
              have c1 := k5.cell (i := 1) (x := b) rfl
              have c2 := k5.cell (i := 2) (x := c) rfl
              have c3 := k5.cell (i := 3) (x := d) rfl
              have c4 := k5.cell (i := 4) (x := e) rfl
              have c5 := k5.cell (i := 5) (x := f) rfl
              have c6 := k5.cell (i := 6) (x := g) rfl
              have c7 := k5.cell (i := 7) (x := hh) rfl
              obtain ⟨k, hk⟩ : ∃ k, k = KK.getD i 0 := ⟨_, rfl⟩
              obtain ⟨x, hx⟩ : ∃ x, x = S.getD i 0 := ⟨_, rfl⟩
              have ck := k4.cellD (i := i) (by rw [HKL.out.2.1]; exact hlt)
              have cx := k3.cellD (i := i) (by rw [HSL.out.1]; exact hlt)
              rw [← hk] at ck
              rw [← hx] at cx
              have hkW : k < W32 := by rw [hk]; exact HKL.out.2.2.getD i
              have hxW : x < W32 := by rw [hx]; exact HSL.out.2.getD i
              -- choose, most, the sums of turns
              obtain ⟨ne, hne⟩ : ∃ ne, ne = 4294967295 - e := ⟨_, rfl⟩
              have n1 : (4294967295 : Int) - (e : Int) = (ne : Int) := by unfold W32 at heW; omega
              have n2 : IntKind.u64.wrap (ne : Int) = (ne : Int) := by rw [IntKind.wrap_u64]; omega
              have hneW : ne < W32 := by unfold W32; omega
              obtain ⟨ch, hch⟩ : ∃ ch, ch = cho e f g := ⟨_, rfl⟩
              obtain ⟨mj, hmj⟩ : ∃ mj, mj = maj a b c := ⟨_, rfl⟩
              have b1' := and64 e f heW hfW
              have b2' := and64 ne g hneW hgW
              have b3' : bits .xor .u64 ((e &&& f : Nat) : Int) ((ne &&& g : Nat) : Int) = (ch : Int) := by rw [xor64 _ _ (and_lt hfW) (and_lt hgW), hch, hne]; rfl
              have b4' := and64 a b haW hbW
              have b5' := and64 a c haW hcW
              have b6' := and64 b c hbW hcW
              have b7' := xor64 (a &&& b) (a &&& c) (and_lt hbW) (and_lt hcW)
              have b8' : bits .xor .u64 (((a &&& b) ^^^ (a &&& c) : Nat) : Int) ((b &&& c : Nat) : Int) = (mj : Int) := by rw [xor64 _ _ (xor_lt (and_lt hbW) (and_lt hcW)) (and_lt hcW), hmj]; rfl
              obtain ⟨E1, hE1⟩ : ∃ E1, E1 = b1 e := ⟨_, rfl⟩
              obtain ⟨A1, hA1⟩ : ∃ A1, A1 = b0 a := ⟨_, rfl⟩
              have t1' := xor64 (rotr e 6) (rotr e 11) (rotr_lt e 6 heW (by omega)) (rotr_lt e 11 heW (by omega))
              have t2' : bits .xor .u64 ((rotr e 6 ^^^ rotr e 11 : Nat) : Int) ((rotr e 25 : Nat) : Int) = (E1 : Int) := by rw [xor64 _ _ (xor_lt (rotr_lt e 6 heW (by omega)) (rotr_lt e 11 heW (by omega))) (rotr_lt e 25 heW (by omega)), hE1]; rfl
              have t3' := xor64 (rotr a 2) (rotr a 13) (rotr_lt a 2 haW (by omega)) (rotr_lt a 13 haW (by omega))
              have t4' : bits .xor .u64 ((rotr a 2 ^^^ rotr a 13 : Nat) : Int) ((rotr a 22 : Nat) : Int) = (A1 : Int) := by rw [xor64 _ _ (xor_lt (rotr_lt a 2 haW (by omega)) (rotr_lt a 13 haW (by omega))) (rotr_lt a 22 haW (by omega)), hA1]; rfl
              have hchW : ch < W32 := by rw [hch]; exact cho_lt hfW hgW
              have hmjW : mj < W32 := by rw [hmj]; exact maj_lt hbW hcW
              have hE1W : E1 < W32 := by rw [hE1]; exact b1_lt heW
              have hA1W : A1 < W32 := by rw [hA1]; exact b0_lt haW
              obtain ⟨q1, hq1⟩ : ∃ q1, q1 = hh + E1 := ⟨_, rfl⟩
              obtain ⟨q2, hq2⟩ : ∃ q2, q2 = q1 + ch := ⟨_, rfl⟩
              obtain ⟨q3, hq3⟩ : ∃ q3, q3 = q2 + k := ⟨_, rfl⟩
              obtain ⟨q4, hq4⟩ : ∃ q4, q4 = q3 + x := ⟨_, rfl⟩
              obtain ⟨y1, hy1⟩ : ∃ y1, y1 = q4 % W32 := ⟨_, rfl⟩
              obtain ⟨p1, hp1⟩ : ∃ p1, p1 = A1 + mj := ⟨_, rfl⟩
              obtain ⟨y2, hy2⟩ : ∃ y2, y2 = p1 % W32 := ⟨_, rfl⟩
              obtain ⟨m1, hm1⟩ : ∃ m1, m1 = y1 + y2 := ⟨_, rfl⟩
              obtain ⟨o1, ho1⟩ : ∃ o1, o1 = m1 % W32 := ⟨_, rfl⟩
              obtain ⟨m4, hm4⟩ : ∃ m4, m4 = d + y1 := ⟨_, rfl⟩
              obtain ⟨o4, ho4⟩ : ∃ o4, o4 = m4 % W32 := ⟨_, rfl⟩
              have r1 : (hh : Int) + (E1 : Int) = (q1 : Int) := by omega
              have r2 : (q1 : Int) + (ch : Int) = (q2 : Int) := by omega
              have r3 : (q2 : Int) + (k : Int) = (q3 : Int) := by omega
              have r4 : (q3 : Int) + (x : Int) = (q4 : Int) := by omega
              have r5 : (q4 : Int) % 4294967296 = (y1 : Int) := by rw [hy1]; unfold W32; omega
              have r6 : (A1 : Int) + (mj : Int) = (p1 : Int) := by omega
              have r7 : (p1 : Int) % 4294967296 = (y2 : Int) := by rw [hy2]; unfold W32; omega
              have r8 : (y1 : Int) + (y2 : Int) = (m1 : Int) := by omega
              have r9 : (m1 : Int) % 4294967296 = (o1 : Int) := by rw [ho1]; unfold W32; omega
              have r10 : (d : Int) + (y1 : Int) = (m4 : Int) := by omega
              have r11 : (m4 : Int) % 4294967296 = (o4 : Int) := by rw [ho4]; unfold W32; omega
              have hy1W : y1 < W32 := by rw [hy1]; exact mod_lt32 _
              have hy2W : y2 < W32 := by rw [hy2]; exact mod_lt32 _
              have x1' : IntKind.u64.wrap (q1 : Int) = (q1 : Int) := by unfold W32 at *; rw [IntKind.wrap_u64]; omega
              have x2' : IntKind.u64.wrap (q2 : Int) = (q2 : Int) := by unfold W32 at *; rw [IntKind.wrap_u64]; omega
              have x3' : IntKind.u64.wrap (q3 : Int) = (q3 : Int) := by unfold W32 at *; rw [IntKind.wrap_u64]; omega
              have x4' : IntKind.u64.wrap (q4 : Int) = (q4 : Int) := by unfold W32 at *; rw [IntKind.wrap_u64]; omega
              have x5' : IntKind.u64.wrap (p1 : Int) = (p1 : Int) := by unfold W32 at *; rw [IntKind.wrap_u64]; omega
              have x6' : IntKind.u64.wrap (m1 : Int) = (m1 : Int) := by unfold W32 at *; rw [IntKind.wrap_u64]; omega
              have x7' : IntKind.u64.wrap (m4 : Int) = (m4 : Int) := by unfold W32 at *; rw [IntKind.wrap_u64]; omega
              have HN : Hid (rounds1 h S (i + 1) = [o1, a, b, c, o4, e, f, g]) := Lib.hid (by
                rw [show rounds1 h S (i + 1) = rnd (rounds1 h S i) (KL.getD i 0 + S.getD i 0) from rfl, ← hV, ← hx, ← HKL.out.1, ← hk, hVe]
                simp only [rnd, ← hE1, ← hch, ← hA1, ← hmj]
                rw [ho1, hm1, hy1, hy2, hp1, ho4, hm4, hy1, hq4, hq3, hq2, hq1, Nat.add_assoc (hh + E1 + ch)])
              have HEW := Lib.hid heW
              have HAW := Lib.hid haW
              have HF := Lib.hid hF
              have K1 := Lib.hid k1
              have K2 := Lib.hid k2
              have K3 := Lib.hid k3
              have K4 := Lib.hid k4
              have K5 := Lib.hid k5
              clear hV hVe hVW haW hbW hcW hdW heW hfW hgW hhW hk hx hkW hxW hne hneW hch hmj hE1 hA1 hchW hmjW hE1W hA1W hq1 hq2 hq3 hq4 hy1 hp1 hy2 hm1 ho1 hm4 ho4 hy1W hy2W hF k1 k2 k3 k4 k5
              go_wp2_with fail
              go_quiet (refine Calls.quiet_of_same (rturn_int e _ _ HEW.out (by decide) (by decide)))
              go_wp2_with fail
              refine (rturn_any a 2 _ HAW.out (by omega)).mono ?_
              rintro ex w5 ⟨rfl, rfl⟩
              go_wp2_with fail
              refine (rturn_any a 13 _ HAW.out (by omega)).mono ?_
              rintro ex w5 ⟨rfl, rfl⟩
              go_wp2_with fail
              refine (rturn_any a 22 _ HAW.out (by omega)).mono ?_
              rintro ex w5 ⟨rfl, rfl⟩
              have K5' : Hid (Row (wr.drewN nq) r 78 .u64 [a, b, c, d, e, f, g, hh]) := Lib.hid K5.out
              have hone : (#[.int .u64 o1, .int .u64 a, .int .u64 b, .int .u64 c, .int .u64 o4, .int .u64 e, .int .u64 f, .int .u64 g] : Array Value).all (·.oneCell') = true := arr_one .u64 [o1, a, b, c, o4, e, f, g]
              have hrow : Row ((wr.drewN nq).setRow r #[.int .u64 o1, .int .u64 a, .int .u64 b, .int .u64 c, .int .u64 o4, .int .u64 e, .int .u64 f, .int .u64 g]) r 78 .u64 [o1, a, b, c, o4, e, f, g] := Row.setRow (l' := [o1, a, b, c, o4, e, f, g]) K5'.out
              have hfr : Fr (· = r) wr ((wr.drewN nq).setRow r #[.int .u64 o1, .int .u64 a, .int .u64 b, .int .u64 c, .int .u64 o4, .int .u64 e, .int .u64 f, .int .u64 g]) := fr_setRow (S := fun k => k = r) ((Fr.refl _ wr).drewN nq) (.inl rfl) _
              have HONE := Lib.hid hone
              have HWO : Hid ((fun W => Fr (· = r) wr W ∧ Row W r 78 .u64 [o1, a, b, c, o4, e, f, g]) ((wr.drewN nq).setRow r #[.int .u64 o1, .int .u64 a, .int .u64 b, .int .u64 c, .int .u64 o4, .int .u64 e, .int .u64 f, .int .u64 g])) := Lib.hid ⟨hfr, hrow⟩
              clear hone hrow hfr
              go_wp2_with (refine wpList_store_row rfl 78 _ _ rfl r rfl _ rfl K5'.out arQ8 rfl rfl HONE.out ?_
                           refine wpList_world (fun W => Fr (· = r) wr W ∧ Row W r 78 .u64 [o1, a, b, c, o4, e, f, g]) HWO.out ?_
                           rintro w6 ⟨hF6, hR6⟩
                           have HF6 := Lib.hid hF6
                           have HR6 := Lib.hid hR6
                           clear hF6 hR6 c0 c1 c2 c3 c4 c5 c6 c7 ck cx n1 n2 b1' b2' b3' b4' b5' b6' b7' b8' t1' t2' t3' t4' r1 r2 r3 r4 r5 r6 r7 r8 r9 r10 r11 x1' x2' x3' x4' x5' x6' x7')
              have hqr := HQR.out
              refine ⟨⟨i + 1, by omega, by simp, HF.out.trans' HF6.out (fun k hk e => by omega), K1.out.fr HF6.out (by show ¬ p = r; omega), K2.out.fr HF6.out (by show ¬ p + 1 = r; omega), K3.out.fr HF6.out (by show ¬ p + 2 = r; omega), K4.out.fr HF6.out (by show ¬ q = r; omega), ?_⟩, by simp [intOf]; omega⟩
              rw [HN.out]; exact HR6.out
            · have hge : ¬ (i : Int) < 64 := by omega
              rw [show i = 64 by omega] at k5
              obtain ⟨V, hV⟩ : ∃ V, V = rounds1 h S 64 := ⟨_, rfl⟩
              rw [← hV] at k5
              have HVL : Hid (V.length = 8) := Lib.hid (by rw [hV]; exact rounds1_len _ HH.out 64)
              have HVW : Hid (Ws V) := Lib.hid (by rw [hV]; exact rounds1_ws _ HW.out 64)
              have HVC : Hid (comp h bs = adds h V 8) := Lib.hid (by rw [hV]; exact HCO.out)
              have HF := Lib.hid hF
              have K1 := Lib.hid k1
              have K2 := Lib.hid k2
              have K5 := Lib.hid k5
              clear hV hF k1 k2 k3 k4 k5 hi
              go_wp2
              go_loopw [23] (fun c wr => ∃ i : Nat, i ≤ 8 ∧ c = .int .i64 i ∧ Fr No w wr ∧ Row wr p 78 .u64 (adds h V i) ∧ Row wr (p + 1) 78 .u64 (List.replicate 8 0) ∧ Row wr r 78 .u64 V) (fun c _ => 8 - (intOf c).toNat)
              case atStart => exact ⟨0, by omega, rfl, HF.out, K1.out, K2.out, K5.out⟩
              clear HF K1 K2 K5
              case round =>
                clear hlt hge
                obtain ⟨i, hi, rfl, hF, k1, k2, k4⟩ := hrel
                by_cases hlt : i < 8
                · have h1 : (i : Int) < 8 := by omega
                  have hlen : (adds h V i).length = 8 := (adds_len h V i).trans HH.out
                  obtain ⟨x, hx⟩ : ∃ x, x = (adds h V i).getD i 0 := ⟨_, rfl⟩
                  obtain ⟨z, hz⟩ : ∃ z, z = V.getD i 0 := ⟨_, rfl⟩
                  have hxW : x < W32 := by rw [hx]; exact (adds_ws V HW.out i).getD i
                  have hzW : z < W32 := by rw [hz]; exact HVW.out.getD i
                  obtain ⟨m, hm⟩ : ∃ m, m = x + z := ⟨_, rfl⟩
                  obtain ⟨y, hy⟩ : ∃ y, y = m % W32 := ⟨_, rfl⟩
                  have c1 := k1.cellD (i := i) (by omega)
                  have c2 := k4.cellD (i := i) (by have := HVL.out; omega)
                  rw [← hx] at c1
                  rw [← hz] at c2
                  have f1 := k1.frozen i
                  have s1' : (x : Int) + (z : Int) = (m : Int) := by omega
                  have s2' : IntKind.u64.wrap (m : Int) = (m : Int) := by unfold W32 at *; rw [IntKind.wrap_u64]; omega
                  have s3' : (m : Int) % 4294967296 = (y : Int) := by rw [hy]; unfold W32; omega
                  have HN : Hid (adds h V (i + 1) = (adds h V i).set i y) := Lib.hid (by rw [hy, hm, hx, hz]; rfl)
                  have HF := Lib.hid hF
                  have K1 := Lib.hid k1
                  have K2 := Lib.hid k2
                  have K4 := Lib.hid k4
                  clear hx hy hz hm hxW hzW hF k1 k2 k4 hlen
                  go_wp2
                  go_region
                  go_wp2
                  have hqr := HQR.out
                  refine ⟨⟨i + 1, by omega, by simp, (HF.out.setCell (.inr hqr.2.2) _).drew, ?_, (K2.out.set_other (by omega) _).drew, (K4.out.set_other (by omega) _).drew⟩, by simp [intOf]; omega⟩
                  rw [HN.out]; exact (K1.out.set i y).drew
                · have hge : ¬ (i : Int) < 8 := by omega
                  rw [show i = 8 by omega] at k1
                  have hlen : (adds h V 8).length = 8 := (adds_len h V 8).trans HH.out
                  have HF := Lib.hid hF
                  have HL := Lib.hid (k1.load arQ8 hlen)
                  obtain ⟨Y, hY, hYR, hYF⟩ := k2.stored (l' := adds h V 8) arQ8 (by rfl) hlen
                  have HY := Lib.hid hY
                  have HYR := Lib.hid (hYR.loadVar arQ8 hlen)
                  have HYF := Lib.hid hYF
                  clear hF k1 k2 k4 hY hYR hYF hlen
                  go_wp2_with (first | (refine wpList_load_eq rfl 78 _ rfl (.pointer (some ⟨p, 0, none⟩)) (.agg (arr .u64 (adds h V 8))) rfl HL.out ?_) | (refine wpList_store_eq rfl 78 _ _ rfl (.pointer (some ⟨p + 1, 0, none⟩)) (.agg (arr .u64 (adds h V 8))) rfl rfl HY.out ?_))
                  refine bodyPost_ret (results_cellT rfl rfl rfl HYR.out) rfl ?_
                  have hqr := HQR.out
                  rw [HVC.out]
                  exact ⟨rfl, HF.out.trans' HYF.out (fun k hk e => by omega)⟩
end Go.Proofs.YtnpgcgemifoddaaDoor
