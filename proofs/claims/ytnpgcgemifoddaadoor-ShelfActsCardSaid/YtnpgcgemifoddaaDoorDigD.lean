/- Compress, as the program has it. -/
import Derived.Test.YtnpgcgemifoddaaDoorDigC
import Derived.Test.YtnpgcgemifoddaaDoorTake
namespace Go.Proofs.YtnpgcgemifoddaaDoor
open Go.RowKit
set_option linter.unusedVariables false

theorem exec_load {P : Program} {o : Oper} {ev : Operand → Value} {w : World} (ty : TypeId) (x : Operand) (ho : o.op = .load ty x) (p v : Value) (hx : ev x = p) (hr : (Instr.loadAt ty p).run P w = .ok v w) :
    (execOp ev o).run P w = .ok (.value v) w := by
  unfold execOp
  simp only [ho, hx, hr, Sem.run_bind, Sem.run_pure, Result.andThen_ok]

theorem eight {l : List Nat} (h : l.length = 8) : ∃ a b c d e f g i, l = [a, b, c, d, e, f, g, i] := by
  match l, h with
  | [a, b, c, d, e, f, g, i], _ => exact ⟨a, b, c, d, e, f, g, i, rfl⟩

set_option maxHeartbeats 1000000 in
set_option maxRecDepth 100000 in
theorem comp_no (h : List Nat) (bs : List UInt8) (w : World) (hh : h.length = 8) (hb : bs.length ≠ 64) :
    Calls Tryd.prog 44 #[.agg (arr .u32 h), .string (str bs)] w fun ex w' => ex = .returned (.tuple #[.agg (arr .u32 h), .bool false]) ∧ Fr No w w' := by
  have hsz := str_size bs
  have hb2 : (bs.length : Int) ≠ 64 := by omega
  obtain ⟨a, b, c, d, e, f, g, i, rfl⟩ := eight hh
  go_enter Tryd.func44, Tryd.ntmps44
  go_wp2_with fail
  refine bodyPost_ret (results_cellT rfl rfl rfl (Row.loadVar (k := .u32) (l := [a, b, c, d, e, f, g, i]) (alloc2_new w _ _) arW8 rfl)) rfl ?_
  exact ⟨rfl, ((Fr.refl No w).alloc _).alloc _⟩

theorem round_L (V : List Nat) (kw : Nat) (w : World) (hl : V.length = 8) (hw : Ws V) :
    Calls Tryd.prog 47 #[.agg (arr .u32 V), .int .u32 kw] w fun ex w' => ex = .returned (.agg (arr .u32 (rnd V kw))) ∧ Fr No w w' := by
  obtain ⟨a, b, c, d, e, f, g, i, rfl⟩ := eight hl
  exact round_any a b c d e f g i kw w hw

theorem wp_load_eq {P : Program} {o : Oper} {a : Act} {w w' : World} {K : Act → World → Prop} {Q : Exit → Act → World → Prop} (ty : TypeId) (x : Operand) (ho : o.op = .load ty x)
    (p v : Value) (hx : a.eval x = p) (hr : (Instr.loadAt ty p).run P w = .ok v w') (h : K (a.put o.dst v) w') : o.wp P a w K Q := by
  unfold Oper.wp execOp
  simp only [ho, hx, hr, Sem.run_bind, Sem.run_pure, Result.andThen_ok]
  exact h

set_option maxHeartbeats 1000000 in
set_option maxRecDepth 100000 in
theorem comp_ok (h : List Nat) (bs : List UInt8) (w : World) (hh : h.length = 8) (hw : Ws h) (hb : bs.length = 64) (hg : Gl w) :
    Calls Tryd.prog 44 #[.agg (arr .u32 h), .string (str bs)] w fun ex w' => ex = .returned (.tuple #[.agg (arr .u32 (comp h bs)), .bool true]) ∧ Fr No w w' := by
  have hsz : (str bs).size = 64 := (str_size bs).trans hb
  have HH := Lib.hid hh
  have HB := Lib.hid hb
  have HG := Lib.hid hg
  clear hh hb hg
  go_enter Tryd.func44, Tryd.ntmps44
  go_wp2_with fail
  refine (stretched_any bs _ HB.out).mono ?_
  rintro ex w1 ⟨rfl, hF1⟩
  have hR1 : Row ((w.alloc (.cells (arr .u32 h) 85)).alloc (.cells (arr .u32 (List.replicate 8 0)) 85)) w.heap.size 85 .u32 h := (Row.new w _ _ _).alloc _
  have hR2 : Row ((w.alloc (.cells (arr .u32 h) 85)).alloc (.cells (arr .u32 (List.replicate 8 0)) 85)) (w.heap.size + 1) 85 .u32 (List.replicate 8 0) := alloc2_new w _ _
  have HR1 := Lib.hid (hR1.fr (S := No) hF1 id)
  have HR2 := Lib.hid (hR2.fr (S := No) hF1 id)
  have HF := Lib.hid ((((Fr.refl No w).alloc (.cells (arr .u32 h) 85)).alloc (.cells (arr .u32 (List.replicate 8 0)) 85)).trans hF1)
  have HS : Hid (w.heap.size + 2 ≤ w1.heap.size) := Lib.hid (by have := hF1.size; simp at this; omega)
  clear hR1 hR2 hF1
  go_wp2_with (first
    | (refine wpList_store_row rfl 92 _ _ rfl w1.heap.size rfl (arr .u32 (sched bs 48)) rfl (Row.new w1 92 .u32 (List.replicate 64 0)) arW64 (by rfl) (by rw [arr_size, sched_len]) (arr_one _ _) ?_
       refine wpList_world (fun W => Fr No w1 W ∧ Row W w1.heap.size 92 .u32 (sched bs 48) ∧ W.heap.size = w1.heap.size + 1) ⟨fr_setRow ((Fr.refl No w1).alloc _) (.inr (Nat.le_refl _)) _, (Row.new w1 92 .u32 (List.replicate 64 0)).setRow, by simp⟩ ?_
       rintro w2 ⟨hF2, hR3, hs2⟩
       have HF2 := Lib.hid hF2
       have HR3 := Lib.hid hR3
       have HS2 := Lib.hid hs2
       have HR4 : Hid (Row w2 w.heap.size 85 .u32 h) := Lib.hid (HR1.out.fr (S := No) hF2 id)
       have HR5 : Hid (Row w2 (w.heap.size + 1) 85 .u32 (List.replicate 8 0)) := Lib.hid (HR2.out.fr (S := No) hF2 id)
       clear hF2 hR3 hs2)
    | (refine wpList_load_eq rfl 85 _ rfl (.pointer (some ⟨w.heap.size, 0, none⟩)) (.agg (arr .u32 h)) rfl (HR4.out.load arW8 HH.out) ?_)
    | (refine wpList_store_row rfl 85 _ _ rfl w2.heap.size rfl (arr .u32 h) rfl (Row.new w2 85 .u32 (List.replicate 8 0)) arW8 (by rfl) (by rw [arr_size, HH.out]) (arr_one _ _) ?_
       refine wpList_world (fun W => Fr No w2 W ∧ Row W w2.heap.size 85 .u32 h ∧ W.heap.size = w2.heap.size + 1) ⟨fr_setRow ((Fr.refl No w2).alloc _) (.inr (Nat.le_refl _)) _, (Row.new w2 85 .u32 (List.replicate 8 0)).setRow, by simp⟩ ?_
       rintro w3 ⟨hF3, hR6, hs3⟩
       have HF3 := Lib.hid hF3
       have HR6 := Lib.hid hR6
       have HS3 := Lib.hid hs3
       clear hF3 hR6 hs3))
  obtain ⟨p, hp⟩ : ∃ p, p = w.heap.size := ⟨_, rfl⟩
  obtain ⟨q, hq⟩ : ∃ q, q = w1.heap.size := ⟨_, rfl⟩
  obtain ⟨r, hr⟩ : ∃ r, r = w2.heap.size := ⟨_, rfl⟩
  have hpqr : p + 1 < q ∧ q + 1 = r ∧ w.heap.size ≤ p := by have := HS.out; have := HS2.out; omega
  have K1 := HR4.out.fr (S := No) HF3.out id
  have K2 := HR5.out.fr (S := No) HF3.out id
  have K3 := HR3.out.fr (S := No) HF3.out id
  have K4 := HR6.out
  have KF := (HF.out.trans HF2.out).trans HF3.out
  rw [← hp] at K1 K2 
  rw [← hq] at K3
  rw [← hr] at K4
  rw [← hp, ← hq, ← hr]
  have HPQ := Lib.hid hpqr
  clear HR1 HR2 HF HS HF2 HR3 HS2 HR4 HR5 HF3 HR6 HS3 hp hq hr hpqr
  go_loopw [17] (fun c wr => ∃ i : Nat, i ≤ 64 ∧ c = .int .i64 i ∧ Fr No w wr ∧ Row wr p 85 .u32 h ∧ Row wr (p + 1) 85 .u32 (List.replicate 8 0) ∧ Row wr q 92 .u32 (sched bs 48) ∧ Row wr r 85 .u32 (rounds1 h (sched bs 48) i)) (fun c _ => 64 - (intOf c).toNat)
  case atStart => exact ⟨0, by omega, rfl, KF, K1, K2, K3, K4⟩
  clear K1 K2 K3 K4 KF
  case round =>
    obtain ⟨i, hi, rfl, hF, k1, k2, k3, k4⟩ := hrel
    by_cases hlt : i < 64
    · have h1 : (i : Int) < 64 := by omega
      obtain ⟨V, hV⟩ : ∃ V, V = rounds1 h (sched bs 48) i := ⟨_, rfl⟩
      obtain ⟨k, hk⟩ : ∃ k, k = KL.getD i 0 := ⟨_, rfl⟩
      obtain ⟨x, hx⟩ : ∃ x, x = (sched bs 48).getD i 0 := ⟨_, rfl⟩
      obtain ⟨y, hy⟩ : ∃ y, y = (k + x) % W32 := ⟨_, rfl⟩
      have hgr : Gl wr := HG.out.fr hF (fun _ _ => id)
      have hpq := HPQ.out
      have hr2 : 2 ≤ w.heap.size := HG.out.two
      have HK : Hid (∀ X, Fr (· = r) wr X → X.cell? ⟨1, i, none⟩ = some (.int .u32 (k : Int))) := Lib.hid (fun X hX => by rw [hk]; exact hX.cell (S := (· = r)) (by show ¬ 1 = r; omega) (hgr.cellK hlt))
      have HC : Hid (∀ X, Fr (· = r) wr X → X.cell? ⟨q, i, none⟩ = some (.int .u32 (x : Int))) := Lib.hid (fun X hX => by rw [hx]; exact hX.cell (S := (· = r)) (by show ¬ q = r; omega) (k3.cellD (by rw [sched_len]; exact hlt)))
      have hsum : IntKind.u32.wrap ((k : Int) + (x : Int)) = (y : Int) := by rw [IntKind.wrap_u32', hy]; unfold W32; omega
      have HN : Hid (rounds1 h (sched bs 48) (i + 1) = rnd V y) := Lib.hid (by rw [hy, hx, hk, hV, rnd_mod]; rfl)
      rw [← hV] at k4
      have HVL : Hid (V.length = 8) := Lib.hid (by rw [hV]; exact rounds1_len _ HH.out i)
      have HVW : Hid (Ws V) := Lib.hid (by rw [hV]; exact rounds1_ws _ hw i)
      have HF := Lib.hid hF
      have K1 := Lib.hid k1
      have K2 := Lib.hid k2
      have K3 := Lib.hid k3
      have K4 := Lib.hid k4
      clear hV hk hx hy hgr hpq hr2 hF k1 k2 k3 k4
      go_wp2_with fail
      refine wp_region_held_drew (S := (fun X => Fr (· = r) wr X)) (by kernel_rfl) ((Fr.refl _ wr).drew) (fun hHeld => ?_)
      refine takeD (i := 1) (d := some 21) (v := ?_) rfl (by kernel_rfl) (by kernel_rfl) (by kernel_rfl) (by kernel_rfl) (fun _ _ _ h => h) (Or.inl ⟨by kernel_rfl, fun X hX => Or.inl ?_⟩) (by assumption) ?_
      rotate_left
      · first | (go_simp; done) | (go_simp; with_reducible rfl)
      (try simp only [Act.put]); (try simp only [List.setIfInBounds_toArray]); (try simp only [List.set_cons_succ]); (try simp only [List.set_cons_zero])
      refine takeD (i := 2) (d := some 22) (v := ?_) rfl (by kernel_rfl) (by kernel_rfl) (by kernel_rfl) (by kernel_rfl) (fun _ _ _ h => h) (Or.inl ⟨by kernel_rfl, fun X hX => Or.inl ?_⟩) (by assumption) ?_
      rotate_left
      · first | (go_simp; done) | (go_simp; with_reducible rfl)
      (try simp only [Act.put]); (try simp only [List.setIfInBounds_toArray]); (try simp only [List.set_cons_succ]); (try simp only [List.set_cons_zero])
      refine takeD (i := 3) (d := some 23) (v := ?_) rfl (by kernel_rfl) (by kernel_rfl) (by kernel_rfl) (by kernel_rfl) (fun _ _ _ h => h) (Or.inl ⟨by kernel_rfl, fun X hX => Or.inl ?_⟩) (by assumption) ?_
      rotate_left
      · have c1 := HK.out X hX; have c2 := HC.out X hX; first | (go_simp; done) | (go_simp; with_reducible rfl)
      (try simp only [Act.put]); (try simp only [List.setIfInBounds_toArray]); (try simp only [List.set_cons_succ]); (try simp only [List.set_cons_zero])
      refine takeD (i := 4) (d := some 24) (v := ?_) rfl (by kernel_rfl) (by kernel_rfl) (by kernel_rfl) (by kernel_rfl) (fun _ _ _ h => h) (Or.inl ⟨by kernel_rfl, fun X hX => Or.inl ?_⟩) (by assumption) ?_
      rotate_left
      · first | (go_simp; done) | (go_simp; with_reducible rfl)
      (try simp only [Act.put]); (try simp only [List.setIfInBounds_toArray]); (try simp only [List.set_cons_succ]); (try simp only [List.set_cons_zero])
      refine takeD (i := 5) (d := some 25) (v := ?_) rfl (by kernel_rfl) (by kernel_rfl) (by kernel_rfl) (by kernel_rfl) (fun _ _ _ h => h) (Or.inl ⟨by kernel_rfl, fun X hX => Or.inl ?_⟩) (by assumption) ?_
      rotate_left
      · first | (go_simp; done) | (go_simp; with_reducible rfl)
      (try simp only [Act.put]); (try simp only [List.setIfInBounds_toArray]); (try simp only [List.set_cons_succ]); (try simp only [List.set_cons_zero])
      refine takeD (i := 6) (d := some 26) (v := ?_) rfl (by kernel_rfl) (by kernel_rfl) (by kernel_rfl) (by kernel_rfl) (fun _ _ _ h => h) (Or.inl ⟨by kernel_rfl, fun X hX => Or.inl ?_⟩) (by assumption) ?_
      rotate_left
      · have c1 := HK.out X hX; have c2 := HC.out X hX; first | (go_simp; done) | (go_simp; with_reducible rfl)
      (try simp only [Act.put]); (try simp only [List.setIfInBounds_toArray]); (try simp only [List.set_cons_succ]); (try simp only [List.set_cons_zero])
      refine takeD (i := 7) (d := some 27) (v := ?_) rfl (by kernel_rfl) (by kernel_rfl) (by kernel_rfl) (by kernel_rfl) (fun _ _ _ h => h) (Or.inl ⟨by kernel_rfl, fun X hX => Or.inl ?_⟩) (by assumption) ?_
      rotate_left
      · first | (go_simp; done) | (go_simp; with_reducible rfl)
      (try simp only [Act.put]); (try simp only [List.setIfInBounds_toArray]); (try simp only [List.set_cons_succ]); (try simp only [List.set_cons_zero])
      refine wpAnyH_ready (rs := [0]) (by kernel_rfl) (by simp) ?_
      refine AllReadyH.cons rfl (fun K hK => ?_) AllReadyH.nil
      rw [if_pos (by kernel_rfl)]
      refine wp_load_eq 85 _ rfl (.pointer (some ⟨r, 0, none⟩)) (.agg (arr .u32 V)) rfl (Row.load (t' := 85) K4.out arW8 HVL.out) ?_
      refine hK.out _ _ (hHeld) (fun hHeld => ?_)
      clear hK K
      (try simp only [Act.put]); (try simp only [List.setIfInBounds_toArray]); (try simp only [List.set_cons_succ]); (try simp only [List.set_cons_zero])
      refine wpAnyH_ready (rs := [8]) (by kernel_rfl) (by simp) ?_
      refine AllReadyH.cons rfl (fun K hK => ?_) AllReadyH.nil
      rw [if_pos (by kernel_rfl)]
      go_simp
      refine (round_L V y _ HVL.out HVW.out).mono ?_
      rintro ex w5 ⟨rfl, hF5⟩
      have K5 : Hid (Row w5 r 85 .u32 V) := Lib.hid (Row.fr (w := wr.drew) K4.out hF5 id)
      have H5 := Lib.hid hF5
      refine hK.out _ _ (hHeld.trans (H5.out.mono (fun _ _ h => h.elim))) (fun hHeld => ?_)
      clear hK K
      (try simp only [Act.put]); (try simp only [List.setIfInBounds_toArray]); (try simp only [List.set_cons_succ]); (try simp only [List.set_cons_zero])
      refine wpAnyH_ready (rs := [9]) (by kernel_rfl) (by simp) ?_
      refine AllReadyH.cons rfl (fun K hK => ?_) AllReadyH.nil
      rw [if_pos (by kernel_rfl)]
      refine wp_store_row 85 _ _ rfl r rfl (arr .u32 (rnd V y)) rfl K5.out arW8 HVL.out (by rw [arr_size, rnd_len HVL.out]) (arr_one _ _) ?_
      refine hK.out _ _ (fr_setRow hHeld (.inl rfl) _) (fun hHeld => ?_)
      clear hK K
      (try simp only [Act.put]); (try simp only [List.setIfInBounds_toArray]); (try simp only [List.set_cons_succ]); (try simp only [List.set_cons_zero])
      refine wpAnyH_done (by kernel_rfl) ?_ _
      have hR6 := Lib.hid (K5.out.setRow (l' := rnd V y))
      have HH6 := Lib.hid hHeld
      generalize w5.setRow r (arr .u32 (rnd V y)) = w6 at *
      clear hHeld hF5
      go_wp2
      have hpq := HPQ.out
      refine ⟨⟨i + 1, by omega, by simp, HF.out.trans' HH6.out (fun k hk e => by omega), K1.out.fr HH6.out (by show ¬ p = r; omega), K2.out.fr HH6.out (by show ¬ p + 1 = r; omega), K3.out.fr HH6.out (by show ¬ q = r; omega), ?_⟩, by simp [intOf]; omega⟩
      rw [HN.out]; exact hR6.out
    · obtain rfl : i = 64 := by omega
      obtain ⟨V, hV⟩ : ∃ V, V = rounds1 h (sched bs 48) 64 := ⟨_, rfl⟩
      rw [← hV] at k4
      have HVL : Hid (V.length = 8) := Lib.hid (by rw [hV]; exact rounds1_len _ HH.out 64)
      have HVW : Hid (Ws V) := Lib.hid (by rw [hV]; exact rounds1_ws _ hw 64)
      have HVC : Hid (comp h bs = adds h V 8) := Lib.hid (by rw [hV]; rfl)
      have HF := Lib.hid hF
      have K1 := Lib.hid k1
      have K2 := Lib.hid k2
      have K4 := Lib.hid k4
      clear hV hF k1 k2 k3 k4
      go_wp2
      go_loopw [30] (fun c wr => ∃ i : Nat, i ≤ 8 ∧ c = .int .i64 i ∧ Fr No w wr ∧ Row wr p 85 .u32 (adds h V i) ∧ Row wr (p + 1) 85 .u32 (List.replicate 8 0) ∧ Row wr r 85 .u32 V) (fun c _ => 8 - (intOf c).toNat)
      case atStart => exact ⟨0, by omega, rfl, HF.out, K1.out, K2.out, K4.out⟩
      clear HF K1 K2 K4
      case round =>
        obtain ⟨i, hi, rfl, hF, k1, k2, k4⟩ := hrel
        by_cases hlt : i < 8
        · have h1 : (i : Int) < 8 := by omega
          have hlen : (adds h V i).length = 8 := (adds_len h V i).trans HH.out
          obtain ⟨x, hx⟩ : ∃ x, x = (adds h V i).getD i 0 := ⟨_, rfl⟩
          obtain ⟨z, hz⟩ : ∃ z, z = V.getD i 0 := ⟨_, rfl⟩
          obtain ⟨y, hy⟩ : ∃ y, y = (x + z) % W32 := ⟨_, rfl⟩
          have c1 := k1.cellD (i := i) (by omega)
          have c2 := k4.cellD (i := i) (by have := HVL.out; omega)
          rw [← hx] at c1
          rw [← hz] at c2
          have f1 := k1.frozen i
          have hsum : IntKind.u32.wrap ((x : Int) + (z : Int)) = (y : Int) := by rw [IntKind.wrap_u32', hy]; unfold W32; omega
          have hsum2 : ((x : Int) + (z : Int)) % 4294967296 = (y : Int) := by rw [hy]; unfold W32; omega
          have HN : Hid (adds h V (i + 1) = (adds h V i).set i y) := Lib.hid (by rw [hy, hx, hz]; rfl)
          have HF := Lib.hid hF
          have K1 := Lib.hid k1
          have K2 := Lib.hid k2
          have K4 := Lib.hid k4
          clear hx hy hz hF k1 k2 k4 hlen
          go_wp2
          go_region
          go_wp2
          have hpq := HPQ.out
          refine ⟨⟨i + 1, by omega, by simp, (HF.out.drew).setCell (.inr hpq.2.2) _, ?_, ?_, ?_⟩, by simp [intOf]; omega⟩
          · rw [HN.out]; exact Row.set (w := wr.drew) K1.out i y
          · exact Row.set_other (w := wr.drew) K2.out (by omega) _
          · exact Row.set_other (w := wr.drew) K4.out (by omega) _
        · obtain rfl : i = 8 := by omega
          have hlen : (adds h V 8).length = 8 := (adds_len h V 8).trans HH.out
          have HF := Lib.hid hF
          have HL := Lib.hid (k1.load arW8 hlen)
          obtain ⟨Y, hY, hYR, hYF⟩ := k2.stored (l' := adds h V 8) arW8 (by rfl) hlen
          have HY := Lib.hid hY
          have HYR := Lib.hid (hYR.loadVar arW8 hlen)
          have HYF := Lib.hid hYF
          clear hF k1 k2 k4 hY hYR hYF hlen
          go_wp2_with (first | (refine wpList_load_eq rfl 85 _ rfl (.pointer (some ⟨p, 0, none⟩)) (.agg (arr .u32 (adds h V 8))) rfl HL.out ?_) | (refine wpList_store_eq rfl 85 _ _ rfl (.pointer (some ⟨p + 1, 0, none⟩)) (.agg (arr .u32 (adds h V 8))) rfl rfl HY.out ?_))
          refine bodyPost_ret (results_cellT rfl rfl rfl HYR.out) rfl ?_
          have hpq := HPQ.out
          rw [HVC.out]
          exact ⟨rfl, HF.out.trans' HYF.out (fun k hk e => by omega)⟩
end Go.Proofs.YtnpgcgemifoddaaDoor
