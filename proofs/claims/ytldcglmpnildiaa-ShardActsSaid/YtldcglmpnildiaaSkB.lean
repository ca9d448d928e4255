/- The document's bank: a task begins. -/
import Derived.Test.YtldcglmpnildiaaSkA
import Derived.Test.YtldcglmpnildiaaSdY
namespace Go.Proofs.Ytldcglmpnildiaa
open Go.RowKit
set_option linter.unusedVariables false
set_option maxRecDepth 100000

theorem RowA.fr {S : Nat → Prop} {w w' : World} {ao : Option Addr} {xs : List Value} (h : RowA w ao xs) (f : Fr S w w') (hn : ∀ g, ao = some ⟨g, 0, none⟩ → ¬ S g) : RowA w' ao xs := fun j u hu => by
  obtain ⟨g, e, hc⟩ := h j u hu
  exact ⟨g, e, f.cell (hn g e) hc⟩
theorem fr_cellq {q i : Nat} {X V : World} (h : Fr (· = q) X V) (u : Value) : Fr (· = q) X (V.setCell ⟨q, i, none⟩ u) := h.setCell (p := ⟨q, i, none⟩) (.inl rfl) u
theorem load_task {X : World} {b : Nat} {cs : List Value} (h : Blk X b 59 cs) (hl : cs.length = 12) : (Instr.loadAt 59 (.pointer (some ⟨b, 0, none⟩))).run Try.prog X = .ok (.agg cs.toArray) X :=
  load_range _ h.whole Try.underlying59 rfl (by rw [hl]; kernel_rfl) _ rfl
/-- A bank's cells with other tasks. -/
theorem DBk.setT {s : Bs} {L : List Value} {w : World} {pa ta da : Option Addr} {pc tc dc : Nat} {ps : List (Tk × Value)} (h : DBk s L w pa pc ta tc da dc ps) (V : s.p.Wf) (v : Value) : L.set 65 v = cellsK pa s.p.b.length pc s.p.h v s.hold (.slice da s.done.length dc) := by
  rw [h.cells]
  exact cellsK_setT V.hl v
theorem DBk.cellT {s : Bs} {L : List Value} {w : World} {pa ta da : Option Addr} {pc tc dc : Nat} {ps : List (Tk × Value)} (h : DBk s L w pa pc ta tc da dc ps) (V : s.p.Wf) : L[65]? = some (.slice ta s.t.length tc) := by
  rw [h.cells]
  exact cellsK_hi V.hl 0
theorem DBk.rowOne {s : Bs} {L : List Value} {w : World} {pa ta da : Option Addr} {pc tc dc : Nat} {ps : List (Tk × Value)} (h : DBk s L w pa pc ta tc da dc ps) : ∀ u ∈ flatX ps, u.oneCell' = true := flatX_one ps (fun x hx => (h.told x hx).one)

set_option maxHeartbeats 8000000 in
theorem rbegin_full {S : Nat → Prop} (s : Bs) (L : List Value) (w : World) (V : s.p.Wf) (h : DB S s L w) (x : Tk) (tov : Value) (h32 : 32 ≤ s.t.length) : Calls Try.prog 28 #[.agg L.toArray, .agg (cellsX x tov).toArray] w fun e w' =>
    ∃ L', e = .returned (.tuple #[.agg L'.toArray, .int .i64 0, .int .i64 2]) ∧ DB S s L' w' ∧ Fr No w w' := by
  have HDB := Lib.hid h
  have HL71 : Hid (L.length = 71) := Lib.hid (h.len V)
  have HL1 : Hid (∀ u ∈ L, u.oneCell' = true) := Lib.hid h.one
  obtain ⟨pa, pc, ta, tc, da, dc, ps, hk⟩ := h
  have hk := hk w (Fr.refl _ _)
  obtain ⟨n, hn⟩ : ∃ n, n = s.t.length := ⟨_, rfl⟩
  have HC65 : Hid (L[65]? = some (.slice ta n tc)) := Lib.hid (by rw [hn]; exact hk.cellT V)
  have HAL := Lib.hid (alloc_rk ((w.alloc (.cells L.toArray 37)).alloc (.cells (cellsX x tov).toArray 59)))
  obtain ⟨q, hq⟩ : ∃ q, q = w.heap.size := ⟨_, rfl⟩
  obtain ⟨c, hc⟩ : ∃ c, c = ((w.alloc (.cells L.toArray 37)).alloc (.cells (cellsX x tov).toArray 59)).heap.size := ⟨_, rfl⟩
  rw [← hc] at HAL
  have HR : Hid (RK w q c L zeroK (((w.alloc (.cells L.toArray 37)).alloc (.cells (cellsX x tov).toArray 59)).alloc (.cells zeroK.toArray 37))) := Lib.hid (by
    have h2 := Blk.new ((w.alloc (.cells L.toArray 37)).alloc (.cells (cellsX x tov).toArray 59)) 37 zeroK
    rw [← hc] at h2
    have e : c = w.heap.size + 2 := by rw [hc]; simp
    exact ⟨(((Fr.refl No w).alloc _).alloc _).alloc _, by omega, by omega, by omega, by rw [hq]; exact ((Blk.new w 37 L).alloc _).alloc _, h2⟩)
  have HQ := Lib.hid hq
  rw [← hn] at h32
  have t0 : decide ((32 : Int) ≤ (n : Int)) = true := decide_eq_true (by omega)
  have t1 : decide (32 ≤ n) = true := decide_eq_true h32
  clear hq hc hk hn h32 V
  unfold cellsX at HAL HR ⊢
  go_enter Try.func28, Try.ntmps28
  go_wp2_with (first
    | (refine wpList_execG (.pointer (some ⟨c, 0, none⟩)) (exec_alloc 37 rfl _ HAL.out) rfl ?_
       rw [← HQ.out]
       refine wpList_world (fun W => RK w q c L zeroK W) HR.out ?_
       intro X hX
       have HX := Lib.hid hX
       have HLD := Lib.hid (load_rk hX.box HL71.out)
       have c65 := hX.box.cell HC65.out
       obtain ⟨Z, hZ, hZv, hZF, hZc⟩ := hX.put (by rfl) HL71.out HL1.out
       have HST := Lib.hid hZ
       have HSV := Lib.hid hZv
       have HFZ := Lib.hid hZF
       clear hX hZ hZv hZF hZc)
    | (refine wpList_load_eq rfl 37 _ rfl (.pointer (some ⟨q, 0, none⟩)) (.agg L.toArray) rfl HLD.out ?_)
    | (refine wpList_store_eq rfl 37 _ _ rfl (.pointer (some ⟨c, 0, none⟩)) (.agg L.toArray) rfl rfl HST.out ?_))
  exact bodyPost_ret (results_cell3 rfl rfl rfl rfl HSV.out) rfl ⟨L, rfl, HDB.out.no HFZ.out, HFZ.out⟩

set_option maxHeartbeats 16000000 in
theorem rbegin_room {w : World} {S : Nat → Prop} (hS : ∀ k, S k → k < w.heap.size) (s : Bs) (L : List Value) (V : s.p.Wf) (h : DB S s L w) (x : Tk) (tov : Value) (h32 : s.t.length < 32) (htA : ∀ Z, Fr S w Z → OutN x.told tov Z) : Calls Try.prog 28 #[.agg L.toArray, .agg (cellsX x tov).toArray] w fun e w' =>
    ∃ L', e = .returned (.tuple #[.agg L'.toArray, .int .i64 (s.t.length : Int), .int .i64 0]) ∧ DB S (s.add1 x) L' w' ∧ Fr No w w' := by
  obtain ⟨i0, hi0, hz0, hz1, hz2⟩ := info_parts Try.infoTask10
  have HL71 : Hid (L.length = 71) := Lib.hid (h.len V)
  have HL1 : Hid (∀ u ∈ L, u.oneCell' = true) := Lib.hid h.one
  have hto := htA w (Fr.refl _ _)
  have HTA := Lib.hid htA
  have HSS := Lib.hid hS
  obtain ⟨pa, pc, ta, tc, da, dc, ps, hkk⟩ := h
  have HKK := Lib.hid hkk
  have hk := hkk w (Fr.refl _ _)
  obtain ⟨n, hn⟩ : ∃ n, n = s.t.length := ⟨_, rfl⟩
  have HNN := Lib.hid hn
  have HW := Lib.hid V
  have HD := Lib.hid hk
  have HC65 : Hid (L[65]? = some (.slice ta n tc)) := Lib.hid (by rw [hn]; exact hk.cellT V)
  have HSET : Hid (∀ v, L.set 65 v = cellsK pa s.p.b.length pc s.p.h v s.hold (.slice da s.done.length dc)) := Lib.hid (hk.setT V)
  have HFL : Hid ((flatX ps).length = n * 12 ∧ ∀ u ∈ flatX ps, u.oneCell' = true) := Lib.hid ⟨by rw [flatX_len, hk.lenT, hn], hk.rowOne⟩
  have HX1 : Hid (∀ u ∈ cellsX x tov, u.oneCell' = true) := Lib.hid (by
    have := flatX_one [(x, tov)] (fun y hy => by
      obtain rfl : y = (x, tov) := by simpa using hy
      exact hto.one)
    simpa [flatX] using this)
  have HAL := Lib.hid (alloc_rk ((w.alloc (.cells L.toArray 37)).alloc (.cells (cellsX x tov).toArray 59)))
  obtain ⟨q, hq⟩ : ∃ q, q = w.heap.size := ⟨_, rfl⟩
  obtain ⟨c, hc⟩ : ∃ c, c = ((w.alloc (.cells L.toArray 37)).alloc (.cells (cellsX x tov).toArray 59)).heap.size := ⟨_, rfl⟩
  rw [← hc] at HAL
  have HR : Hid (RK w q c L zeroK (((w.alloc (.cells L.toArray 37)).alloc (.cells (cellsX x tov).toArray 59)).alloc (.cells zeroK.toArray 37)) ∧ Blk (((w.alloc (.cells L.toArray 37)).alloc (.cells (cellsX x tov).toArray 59)).alloc (.cells zeroK.toArray 37)) (q + 1) 59 (cellsX x tov)) := Lib.hid (by
    have h2 := Blk.new ((w.alloc (.cells L.toArray 37)).alloc (.cells (cellsX x tov).toArray 59)) 37 zeroK
    rw [← hc] at h2
    have e : c = w.heap.size + 2 := by rw [hc]; simp
    have h3 := (Blk.new (w.alloc (.cells L.toArray 37)) 59 (cellsX x tov)).alloc (.cells zeroK.toArray 37)
    rw [World.size_alloc, ← hq] at h3
    exact ⟨⟨(((Fr.refl No w).alloc _).alloc _).alloc _, by omega, by omega, by omega, by rw [hq]; exact ((Blk.new w 37 L).alloc _).alloc _, h2⟩, h3⟩)
  have HQ := Lib.hid hq
  have HN32 : Hid (n < 32) := Lib.hid (by omega)
  rw [← hn]
  have t0 : decide ((32 : Int) ≤ (n : Int)) = false := decide_eq_false (by omega)
  have t1 : decide (32 ≤ n) = false := decide_eq_false (by omega)
  clear hq hc hk hkk hn h32 hto V htA hS
  unfold cellsX at HAL HR ⊢
  go_enter Try.func28, Try.ntmps28
  go_wp2_with (first
    | (refine wpList_execG (.pointer (some ⟨c, 0, none⟩)) (exec_alloc 37 rfl _ HAL.out) rfl ?_
       rw [← HQ.out]
       refine wpList_world (fun W => RK w q c L zeroK W ∧ Blk W (q + 1) 59 (cellsX x tov)) HR.out ?_
       intro X hX
       have HX := Lib.hid hX.1
       have HXB := Lib.hid hX.2
       have c65 := hX.1.box.cell HC65.out
       clear hX))
  have FX : Hid (Fr No X X) := Lib.hid (Fr.refl No X)
  have HLT : Hid (∀ Y, Fr (· = q) X Y → (Instr.loadAt 59 (.pointer (some ⟨q + 1, 0, none⟩))).run Try.prog Y = .ok (.agg #[.int .i64 (x.f : Int), .int .i64 (x.t : Int), .int .u64 (x.n : Int), .bool (x.need 0), .bool (x.need 1), .bool (x.need 2), .bool (x.need 3), .bool x.lists, .bool x.acted, .bool x.over, .int .i64 x.e, tov]) Y) := Lib.hid (fun Y hY => load_task (HXB.out.fr hY (by omega)) rfl)
  clear c65
  refine wp_region_held_drew (S := (fun Y => Fr (· = q) X Y)) (by kernel_rfl) ((Fr.refl _ X).drew) (fun hHeld => ?_)
  refine takeD (i := 1) (d := some 13) (v := ?_) rfl (by kernel_rfl) (by kernel_rfl) (by kernel_rfl) (by kernel_rfl) (fun _ _ _ h => h) (Or.inl ⟨by kernel_rfl, fun X hX => Or.inl ?_⟩) (by assumption) ?_
  rotate_left
  · first | (go_simp; done) | (go_simp; with_reducible rfl)
  (try simp only [Act.put]); (try simp only [List.setIfInBounds_toArray]); (try simp only [List.set_cons_succ]); (try simp only [List.set_cons_zero])
  refine takeD (i := 4) (d := some 16) (v := .agg #[.int .i64 (x.f : Int), .int .i64 (x.t : Int), .int .u64 (x.n : Int), .bool (x.need 0), .bool (x.need 1), .bool (x.need 2), .bool (x.need 3), .bool x.lists, .bool x.acted, .bool x.over, .int .i64 x.e, tov]) rfl (by kernel_rfl) (by kernel_rfl) (by kernel_rfl) (by kernel_rfl) (fun _ _ _ h => h) (Or.inl ⟨by kernel_rfl, fun X hX => Or.inl (exec_load 59 (.tmp 3) rfl _ _ rfl (HLT.out X hX))⟩) (by assumption) ?_
  (try simp only [Act.put]); (try simp only [List.setIfInBounds_toArray]); (try simp only [List.set_cons_succ]); (try simp only [List.set_cons_zero])
  refine wpAnyH_ready (rs := [0, 2, 5]) (by kernel_rfl) (by simp) ?_
  refine (AllReadyH.cons rfl (fun K hK => ?_) (AllReadyH.cons rfl (fun K hK => ?_) (AllReadyH.cons rfl (fun K hK => ?_) AllReadyH.nil)))
  · rw [if_pos (by kernel_rfl)]
    go_simp
    obtain ⟨k0, hk0⟩ : ∃ k, k = X.heap.size := ⟨_, rfl⟩
    rw [← hk0]
    refine K_world (K := K) (fun Y => Fr No X Y ∧ Y.ownsRow X.heap.size 59 12 (.slice (some ⟨k0, 0, none⟩) 0 0) 0 []) ⟨by first | exact (Fr.refl No X).alloc _ | exact ((Fr.refl No X).alloc _).drew, by rw [hk0]; exact World.ownsRow_made X #[] 0 FX.out.size (Nat.zero_le _) rfl⟩ ?_
    rintro V1 ⟨hf, he⟩
    have FV1 := Lib.hid (FX.out.trans hf)
    have EV1 := Lib.hid he
    clear hf he hk0
    refine hK.out _ _ ((FV1.out.mono (fun _ _ e => e.elim))) (fun hHeld => ?_)
    clear hK K
    (try simp only [Act.put]); (try simp only [List.setIfInBounds_toArray]); (try simp only [List.set_cons_succ]); (try simp only [List.set_cons_zero])
    refine wpAnyH_ready (rs := [2, 5]) (by kernel_rfl) (by simp) ?_
    refine (AllReadyH.cons rfl (fun K hK => ?_) (AllReadyH.cons rfl (fun K hK => ?_) AllReadyH.nil))
    · rw [if_pos (by kernel_rfl)]
      have cA := (HX.out.box.fr FV1.out id).cell HC65.out
      have cB := (HX.out.box.fr FV1.out.drew id).cell HC65.out
      go_simp
      clear cA cB
      refine K_world (K := K) (fun Y => Fr No V1 Y) (by first | exact Fr.refl No V1 | exact (Fr.refl No V1).drew) ?_
      rintro V2 hf
      have FV2 := Lib.hid (FV1.out.trans hf)
      have EV2 := Lib.hid (owns_fr EV1.out hf (fun _ _ => id))
      clear hf
      refine hK.out _ _ ((FV2.out.mono (fun _ _ e => e.elim))) (fun hHeld => ?_)
      clear hK K
      (try simp only [Act.put]); (try simp only [List.setIfInBounds_toArray]); (try simp only [List.set_cons_succ]); (try simp only [List.set_cons_zero])
      refine wpAnyH_ready (rs := [3, 5]) (by kernel_rfl) (by simp) ?_
      refine (AllReadyH.cons rfl (fun K hK => ?_) (AllReadyH.cons rfl (fun K hK => ?_) AllReadyH.nil))
      · rw [if_pos (by kernel_rfl)]
        obtain ⟨v3, V3, ha, ho, hf⟩ := app_any 33 59 33 i0 _ 12 64 Try.underlying33 hi0 hz0 hz1 hz2 rfl (by decide) (by decide) EV2.out (HD.out.row.no (HX.out.fr.trans FV2.out)) HD.out.tz HFL.out.1 HFL.out.2 (by have := HN32.out; omega) FV2.out.size
        have ho2 : V3.ownsRow X.heap.size 59 12 v3 n (flatX ps) := by simpa using ho
        obtain ⟨a3, c3, rfl⟩ := own_slice ho2
        refine wp_append10 (.tmp 12) (.tmp 14) 33 rfl _ _ _ rfl rfl ha ?_
        have FV3 := Lib.hid (FV2.out.trans' hf (fun k hk e => by have := (EV2.out.lt k e).1; omega))
        have AV3 := Lib.hid ho2
        clear ha ho ho2 hf
        refine hK.out _ _ ((FV3.out.mono (fun _ _ e => e.elim))) (fun hHeld => ?_)
        clear hK K
        (try simp only [Act.put]); (try simp only [List.setIfInBounds_toArray]); (try simp only [List.set_cons_succ]); (try simp only [List.set_cons_zero])
        refine wpAnyH_ready (rs := [5]) (by kernel_rfl) (by simp) ?_
        refine AllReadyH.cons rfl (fun K hK => ?_) AllReadyH.nil
        rw [if_pos (by kernel_rfl)]
        go_simp
        obtain ⟨k5, hk5⟩ : ∃ k, k = V3.heap.size := ⟨_, rfl⟩
        rw [← hk5]
        refine K_world (K := K) (fun Y => Fr No V3 Y ∧ Blk Y k5 59 [.int .i64 (x.f : Int), .int .i64 (x.t : Int), .int .u64 (x.n : Int), .bool (x.need 0), .bool (x.need 1), .bool (x.need 2), .bool (x.need 3), .bool x.lists, .bool x.acted, .bool x.over, .int .i64 x.e, tov]) ⟨by first | exact (Fr.refl No V3).alloc _ | exact ((Fr.refl No V3).alloc _).drew, by rw [hk5]; exact Blk.new V3 59 _⟩ ?_
        rintro V4 ⟨hf, he⟩
        have FV4 := Lib.hid (FV3.out.trans hf)
        have AV4 := Lib.hid (owns_fr AV3.out hf (fun _ _ => id))
        have BV4 := Lib.hid he
        clear hf he hk5
        refine hK.out _ _ ((FV4.out.mono (fun _ _ e => e.elim))) (fun hHeld => ?_)
        clear hK K
        (try simp only [Act.put]); (try simp only [List.setIfInBounds_toArray]); (try simp only [List.set_cons_succ]); (try simp only [List.set_cons_zero])
        refine wpAnyH_ready (rs := [6]) (by kernel_rfl) (by simp) ?_
        refine AllReadyH.cons rfl (fun K hK => ?_) AllReadyH.nil
        rw [if_pos (by kernel_rfl)]
        obtain ⟨v6, V5, ha, ho, hf⟩ := app_any 33 59 33 i0 _ 12 64 Try.underlying33 hi0 hz0 hz1 hz2 rfl (by decide) (by decide) AV4.out (ao := some ⟨k5, 0, none⟩) (m := 1) (c := 1) (ys := cellsX x tov) (fun j u hu => ⟨k5, rfl, BV4.out.cell hu⟩) (fun e => by cases e) rfl HX1.out (by have := HN32.out; omega) FV4.out.size
        obtain ⟨a6, c6, rfl⟩ := own_slice ho
        refine wp_append10 (.tmp 15) (.tmp 17) 33 rfl _ _ _ rfl rfl ha ?_
        have FV5 := Lib.hid (FV4.out.trans' hf (fun k hk e => by have := (AV4.out.lt k e).1; omega))
        have HO6 := Lib.hid ho
        clear ha ho hf
        refine hK.out _ _ ((FV5.out.mono (fun _ _ e => e.elim))) (fun hHeld => ?_)
        clear hK K
        (try simp only [Act.put]); (try simp only [List.setIfInBounds_toArray]); (try simp only [List.set_cons_succ]); (try simp only [List.set_cons_zero])
        refine takeD (i := 7) (d := some 19) (v := ?_) rfl (by kernel_rfl) (by kernel_rfl) (by kernel_rfl) (by kernel_rfl) (fun _ _ _ h => h) (Or.inl ⟨by kernel_rfl, fun X hX => Or.inl ?_⟩) (by assumption) ?_
        rotate_left
        · first | (go_simp; done) | (go_simp; with_reducible rfl)
        (try simp only [Act.put]); (try simp only [List.setIfInBounds_toArray]); (try simp only [List.set_cons_succ]); (try simp only [List.set_cons_zero])
        refine wpAnyH_ready (rs := [8]) (by kernel_rfl) (by simp) ?_
        refine AllReadyH.cons rfl (fun K hK => ?_) AllReadyH.nil
        rw [if_pos (by kernel_rfl)]
        have c := (HX.out.box.fr FV5.out id).cell HC65.out
        have c2 := (HX.out.box.fr FV5.out id).frozen 65
        go_simp
        clear c c2
        refine hK.out _ _ (fr_cellq (FV5.out.mono (fun _ _ e => e.elim)) _) (fun hHeld => ?_)
        clear hK K
        (try simp only [Act.put]); (try simp only [List.setIfInBounds_toArray]); (try simp only [List.set_cons_succ]); (try simp only [List.set_cons_zero])
        refine wpAnyH_done (by kernel_rfl) ?_ _
        clear hHeld
        obtain ⟨n1, hn1⟩ : ∃ k, k = n + 1 := ⟨_, rfl⟩
        rw [← hn1] at HO6 ⊢
        have HN1 := Lib.hid hn1
        obtain ⟨hk2, hf2⟩ := (HX.out.on FV5.out).set 65 (.slice a6 n1 c6)
        rw [HSET.out] at hk2
        obtain ⟨L2, hL2⟩ : ∃ L2, L2 = cellsK pa s.p.b.length pc s.p.h (.slice a6 n1 c6) s.hold (.slice da s.done.length dc) := ⟨_, rfl⟩
        rw [← hL2] at hk2
        obtain ⟨X2, hX2⟩ : ∃ Y, Y = V5.setCell ⟨q, 65, none⟩ (.slice a6 n1 c6) := ⟨_, rfl⟩
        rw [← hX2] at hk2 hf2 ⊢
        have HL2 : Hid (L2.length = 71) := Lib.hid (by rw [hL2]; exact cellsK_len HW.out.hl)
        have HLD2 : Hid (∀ Y, Fr (· = c) X2 Y → (Instr.loadAt 37 (.pointer (some ⟨q, 0, none⟩))).run Try.prog Y = .ok (.agg L2.toArray) Y) := Lib.hid (fun Y hY => load_rk (hk2.box.fr hY hk2.qc) HL2.out)
        have HLT2 : Hid (∀ Y, Fr (· = c) X2 Y → (Instr.loadAt 33 (.pointer (some ⟨q, 65, none⟩))).run Try.prog Y = .ok (.slice a6 n1 c6) Y) := Lib.hid (fun Y hY => by
          have := (hk2.box.fr hY hk2.qc).cell (i := 65) (v := .slice a6 n1 c6) (by rw [hL2]; exact cellsK_hi HW.out.hl 0)
          simp [go_sem, this])
        obtain ⟨Z, hZ, hZv, hZF, hZc⟩ := (hk2.on (Fr.refl No X2).drew).put (by rfl) HL2.out (by rw [hL2]; exact cellsK_one rfl rfl)
        have HST := Lib.hid hZ
        have HSV := Lib.hid hZv
        have HFZ := Lib.hid hZF
        have HZC : Hid (Fr (· = c) X2 Z) := Lib.hid ((Fr.refl _ X2).drew.trans hZc)
        have HDB : Hid (DB S (s.add1 x) L2 Z) := Lib.hid (by
          obtain ⟨ao, cc, he, hrow, hz⟩ := RowA.own HO6.out
          injection he with e1 e2 e3
          subst e1
          subst e3
          have hlo : ∀ g, a6 = some ⟨g, 0, none⟩ → X.heap.size ≤ g := fun g e => (HO6.out.lt g (by rw [e]; rfl)).1
          have hq1 := HX.out.box.lt
          have hc1 := HX.out.res.lt
          have hxs := HX.out.fr.size
          refine ⟨pa, pc, a6, c6, da, dc, ps ++ [(x, tov)], fun Z2 fz => ?_⟩
          have fw : Fr S w Z2 := (HFZ.out.mono (fun _ _ e => e.elim)).trans fz
          have hkz := HKK.out Z2 fw
          refine ⟨?_, hkz.pur, by rw [List.map_append, hkz.tks]; rfl, ?_, ?_, hkz.done, hz, hkz.dz⟩
          · rw [hL2, hn1, HNN.out]
            show _ = cellsK _ _ _ _ (.slice a6 (s.t ++ [x]).length c6) _ _
            rw [List.length_append]
            rfl
          · rw [flatX_app]
            have h9 := ((hrow.fr hf2 (fun g e => by have := hlo g e; omega)).fr HZC.out (fun g e => by have := hlo g e; omega)).fr fz (fun g e hs => by have := hlo g e; have := HSS.out g hs; omega)
            simpa [flatX] using h9
          · intro y hy
            rcases List.mem_append.1 hy with hy | hy
            · exact hkz.told y hy
            · obtain rfl : y = (x, tov) := by simpa using hy
              exact HTA.out Z2 fw)
        have s1 : (n1 : Int) - 1 = (n : Int) := by omega
        have l1 : IntKind.i64.wrap (n : Int) = (n : Int) := IntWalk.i64_in _ (by have := HN32.out; omega)
        clear hk2 hf2 hX2 hL2 hZ hZv hZF hZc hn1
        go_wp2_with fail
        refine wp_region_held_drew (S := (fun Y => Fr (· = c) X2 Y)) (by kernel_rfl) ((Fr.refl _ X2).drew) (fun hHeld => ?_)
        refine takeD (i := 0) (d := some 20) (v := .agg L2.toArray) rfl (by kernel_rfl) (by kernel_rfl) (by kernel_rfl) (by kernel_rfl) (fun _ _ _ h => h) (Or.inl ⟨by kernel_rfl, fun X hX => Or.inl (exec_load 37 (.tmp 2) rfl _ _ rfl (HLD2.out X hX))⟩) (by assumption) ?_
        (try simp only [Act.put]); (try simp only [List.setIfInBounds_toArray]); (try simp only [List.set_cons_succ]); (try simp only [List.set_cons_zero])
        refine takeD (i := 1) (d := some 21) (v := ?_) rfl (by kernel_rfl) (by kernel_rfl) (by kernel_rfl) (by kernel_rfl) (fun _ _ _ h => h) (Or.inl ⟨by kernel_rfl, fun X hX => Or.inl ?_⟩) (by assumption) ?_
        rotate_left
        · first | (go_simp; done) | (go_simp; with_reducible rfl)
        (try simp only [Act.put]); (try simp only [List.setIfInBounds_toArray]); (try simp only [List.set_cons_succ]); (try simp only [List.set_cons_zero])
        refine takeD (i := 2) (d := some 22) (v := .slice a6 n1 c6) rfl (by kernel_rfl) (by kernel_rfl) (by kernel_rfl) (by kernel_rfl) (fun _ _ _ h => h) (Or.inl ⟨by kernel_rfl, fun X hX => Or.inl (exec_load 33 (.tmp 21) rfl _ _ rfl (HLT2.out X hX))⟩) (by assumption) ?_
        (try simp only [Act.put]); (try simp only [List.setIfInBounds_toArray]); (try simp only [List.set_cons_succ]); (try simp only [List.set_cons_zero])
        refine takeD (i := 3) (d := some 23) (v := ?_) rfl (by kernel_rfl) (by kernel_rfl) (by kernel_rfl) (by kernel_rfl) (fun _ _ _ h => h) (Or.inl ⟨by kernel_rfl, fun X hX => Or.inl ?_⟩) (by assumption) ?_
        rotate_left
        · first | (go_simp; done) | (go_simp; with_reducible rfl)
        (try simp only [Act.put]); (try simp only [List.setIfInBounds_toArray]); (try simp only [List.set_cons_succ]); (try simp only [List.set_cons_zero])
        refine takeD (i := 4) (d := some 24) (v := ?_) rfl (by kernel_rfl) (by kernel_rfl) (by kernel_rfl) (by kernel_rfl) (fun _ _ _ h => h) (Or.inl ⟨by kernel_rfl, fun X hX => Or.inl ?_⟩) (by assumption) ?_
        rotate_left
        · first | (go_simp; done) | (go_simp; with_reducible rfl)
        (try simp only [Act.put]); (try simp only [List.setIfInBounds_toArray]); (try simp only [List.set_cons_succ]); (try simp only [List.set_cons_zero])
        refine wpAnyH_ready (rs := [5]) (by kernel_rfl) (by simp) ?_
        refine AllReadyH.cons rfl (fun K hK => ?_) AllReadyH.nil
        rw [if_pos (by kernel_rfl)]
        refine wpO_store 37 (.tmp 4) (.tmp 20) rfl (.pointer (some ⟨c, 0, none⟩)) (.agg L2.toArray) rfl rfl HST.out ?_
        refine hK.out _ _ (HZC.out) (fun hHeld => ?_)
        clear hK K
        (try simp only [Act.put]); (try simp only [List.setIfInBounds_toArray]); (try simp only [List.set_cons_succ]); (try simp only [List.set_cons_zero])
        refine takeD (i := 6) (d := some 5) (v := ?_) rfl (by kernel_rfl) (by kernel_rfl) (by kernel_rfl) (by kernel_rfl) (fun _ _ _ h => h) (Or.inl ⟨by kernel_rfl, fun X hX => Or.inl ?_⟩) (by assumption) ?_
        rotate_left
        · first | (go_simp; done) | (go_simp; with_reducible rfl)
        (try simp only [Act.put]); (try simp only [List.setIfInBounds_toArray]); (try simp only [List.set_cons_succ]); (try simp only [List.set_cons_zero])
        refine takeD (i := 7) (d := some 6) (v := ?_) rfl (by kernel_rfl) (by kernel_rfl) (by kernel_rfl) (by kernel_rfl) (fun _ _ _ h => h) (Or.inl ⟨by kernel_rfl, fun X hX => Or.inl ?_⟩) (by assumption) ?_
        rotate_left
        · first | (go_simp; done) | (go_simp; with_reducible rfl)
        (try simp only [Act.put]); (try simp only [List.setIfInBounds_toArray]); (try simp only [List.set_cons_succ]); (try simp only [List.set_cons_zero])
        refine wpAnyH_done (by kernel_rfl) ?_ _
        clear hHeld
        go_wp2
        exact bodyPost_ret (results_cell3 rfl rfl rfl rfl HSV.out) rfl ⟨L2, rfl, HDB.out, HFZ.out⟩
      · rw [if_pos (by kernel_rfl)]
        go_simp
        obtain ⟨k5, hk5⟩ : ∃ k, k = V2.heap.size := ⟨_, rfl⟩
        rw [← hk5]
        refine K_world (K := K) (fun Y => Fr No V2 Y ∧ Blk Y k5 59 [.int .i64 (x.f : Int), .int .i64 (x.t : Int), .int .u64 (x.n : Int), .bool (x.need 0), .bool (x.need 1), .bool (x.need 2), .bool (x.need 3), .bool x.lists, .bool x.acted, .bool x.over, .int .i64 x.e, tov]) ⟨by first | exact (Fr.refl No V2).alloc _ | exact ((Fr.refl No V2).alloc _).drew, by rw [hk5]; exact Blk.new V2 59 _⟩ ?_
        rintro V6 ⟨hf, he⟩
        have FV6 := Lib.hid (FV2.out.trans hf)
        have EV6 := Lib.hid (owns_fr EV2.out hf (fun _ _ => id))
        have BV6 := Lib.hid he
        have HN05 : Hid (k0 ≠ k5) := Lib.hid (by have := (EV2.out.lt k0 rfl).2; omega)
        clear hf he hk5
        refine hK.out _ _ ((FV6.out.mono (fun _ _ e => e.elim))) (fun hHeld => ?_)
        clear hK K
        (try simp only [Act.put]); (try simp only [List.setIfInBounds_toArray]); (try simp only [List.set_cons_succ]); (try simp only [List.set_cons_zero])
        refine wpAnyH_ready (rs := [3]) (by kernel_rfl) (by simp) ?_
        refine AllReadyH.cons rfl (fun K hK => ?_) AllReadyH.nil
        rw [if_pos (by kernel_rfl)]
        obtain ⟨v3, V7, ha, ho, hf⟩ := app_any 33 59 33 i0 _ 12 64 Try.underlying33 hi0 hz0 hz1 hz2 rfl (by decide) (by decide) EV6.out (HD.out.row.no (HX.out.fr.trans FV6.out)) HD.out.tz HFL.out.1 HFL.out.2 (by have := HN32.out; omega) FV6.out.size
        have ho2 : V7.ownsRow X.heap.size 59 12 v3 n (flatX ps) := by simpa using ho
        obtain ⟨a3, c3, rfl⟩ := own_slice ho2
        refine wp_append10 (.tmp 12) (.tmp 14) 33 rfl _ _ _ rfl rfl ha ?_
        have FV7 := Lib.hid (FV6.out.trans' hf (fun k hk e => by have := (EV6.out.lt k e).1; omega))
        have AV7 := Lib.hid ho2
        have BV7 := Lib.hid (BV6.out.fr hf (fun e => HN05.out (by injection e)))
        clear ha ho ho2 hf
        refine hK.out _ _ ((FV7.out.mono (fun _ _ e => e.elim))) (fun hHeld => ?_)
        clear hK K
        (try simp only [Act.put]); (try simp only [List.setIfInBounds_toArray]); (try simp only [List.set_cons_succ]); (try simp only [List.set_cons_zero])
        refine wpAnyH_ready (rs := [6]) (by kernel_rfl) (by simp) ?_
        refine AllReadyH.cons rfl (fun K hK => ?_) AllReadyH.nil
        rw [if_pos (by kernel_rfl)]
        obtain ⟨v6, V8, ha, ho, hf⟩ := app_any 33 59 33 i0 _ 12 64 Try.underlying33 hi0 hz0 hz1 hz2 rfl (by decide) (by decide) AV7.out (ao := some ⟨k5, 0, none⟩) (m := 1) (c := 1) (ys := cellsX x tov) (fun j u hu => ⟨k5, rfl, BV7.out.cell hu⟩) (fun e => by cases e) rfl HX1.out (by have := HN32.out; omega) FV7.out.size
        obtain ⟨a6, c6, rfl⟩ := own_slice ho
        refine wp_append10 (.tmp 15) (.tmp 17) 33 rfl _ _ _ rfl rfl ha ?_
        have FV8 := Lib.hid (FV7.out.trans' hf (fun k hk e => by have := (AV7.out.lt k e).1; omega))
        have HO6 := Lib.hid ho
        clear ha ho hf
        refine hK.out _ _ ((FV8.out.mono (fun _ _ e => e.elim))) (fun hHeld => ?_)
        clear hK K
        (try simp only [Act.put]); (try simp only [List.setIfInBounds_toArray]); (try simp only [List.set_cons_succ]); (try simp only [List.set_cons_zero])
        refine takeD (i := 7) (d := some 19) (v := ?_) rfl (by kernel_rfl) (by kernel_rfl) (by kernel_rfl) (by kernel_rfl) (fun _ _ _ h => h) (Or.inl ⟨by kernel_rfl, fun X hX => Or.inl ?_⟩) (by assumption) ?_
        rotate_left
        · first | (go_simp; done) | (go_simp; with_reducible rfl)
        (try simp only [Act.put]); (try simp only [List.setIfInBounds_toArray]); (try simp only [List.set_cons_succ]); (try simp only [List.set_cons_zero])
        refine wpAnyH_ready (rs := [8]) (by kernel_rfl) (by simp) ?_
        refine AllReadyH.cons rfl (fun K hK => ?_) AllReadyH.nil
        rw [if_pos (by kernel_rfl)]
        have c := (HX.out.box.fr FV8.out id).cell HC65.out
        have c2 := (HX.out.box.fr FV8.out id).frozen 65
        go_simp
        clear c c2
        refine hK.out _ _ (fr_cellq (FV8.out.mono (fun _ _ e => e.elim)) _) (fun hHeld => ?_)
        clear hK K
        (try simp only [Act.put]); (try simp only [List.setIfInBounds_toArray]); (try simp only [List.set_cons_succ]); (try simp only [List.set_cons_zero])
        refine wpAnyH_done (by kernel_rfl) ?_ _
        clear hHeld
        obtain ⟨n1, hn1⟩ : ∃ k, k = n + 1 := ⟨_, rfl⟩
        rw [← hn1] at HO6 ⊢
        have HN1 := Lib.hid hn1
        obtain ⟨hk2, hf2⟩ := (HX.out.on FV8.out).set 65 (.slice a6 n1 c6)
        rw [HSET.out] at hk2
        obtain ⟨L2, hL2⟩ : ∃ L2, L2 = cellsK pa s.p.b.length pc s.p.h (.slice a6 n1 c6) s.hold (.slice da s.done.length dc) := ⟨_, rfl⟩
        rw [← hL2] at hk2
        obtain ⟨X2, hX2⟩ : ∃ Y, Y = V8.setCell ⟨q, 65, none⟩ (.slice a6 n1 c6) := ⟨_, rfl⟩
        rw [← hX2] at hk2 hf2 ⊢
        have HL2 : Hid (L2.length = 71) := Lib.hid (by rw [hL2]; exact cellsK_len HW.out.hl)
        have HLD2 : Hid (∀ Y, Fr (· = c) X2 Y → (Instr.loadAt 37 (.pointer (some ⟨q, 0, none⟩))).run Try.prog Y = .ok (.agg L2.toArray) Y) := Lib.hid (fun Y hY => load_rk (hk2.box.fr hY hk2.qc) HL2.out)
        have HLT2 : Hid (∀ Y, Fr (· = c) X2 Y → (Instr.loadAt 33 (.pointer (some ⟨q, 65, none⟩))).run Try.prog Y = .ok (.slice a6 n1 c6) Y) := Lib.hid (fun Y hY => by
          have := (hk2.box.fr hY hk2.qc).cell (i := 65) (v := .slice a6 n1 c6) (by rw [hL2]; exact cellsK_hi HW.out.hl 0)
          simp [go_sem, this])
        obtain ⟨Z, hZ, hZv, hZF, hZc⟩ := (hk2.on (Fr.refl No X2).drew).put (by rfl) HL2.out (by rw [hL2]; exact cellsK_one rfl rfl)
        have HST := Lib.hid hZ
        have HSV := Lib.hid hZv
        have HFZ := Lib.hid hZF
        have HZC : Hid (Fr (· = c) X2 Z) := Lib.hid ((Fr.refl _ X2).drew.trans hZc)
        have HDB : Hid (DB S (s.add1 x) L2 Z) := Lib.hid (by
          obtain ⟨ao, cc, he, hrow, hz⟩ := RowA.own HO6.out
          injection he with e1 e2 e3
          subst e1
          subst e3
          have hlo : ∀ g, a6 = some ⟨g, 0, none⟩ → X.heap.size ≤ g := fun g e => (HO6.out.lt g (by rw [e]; rfl)).1
          have hq1 := HX.out.box.lt
          have hc1 := HX.out.res.lt
          have hxs := HX.out.fr.size
          refine ⟨pa, pc, a6, c6, da, dc, ps ++ [(x, tov)], fun Z2 fz => ?_⟩
          have fw : Fr S w Z2 := (HFZ.out.mono (fun _ _ e => e.elim)).trans fz
          have hkz := HKK.out Z2 fw
          refine ⟨?_, hkz.pur, by rw [List.map_append, hkz.tks]; rfl, ?_, ?_, hkz.done, hz, hkz.dz⟩
          · rw [hL2, hn1, HNN.out]
            show _ = cellsK _ _ _ _ (.slice a6 (s.t ++ [x]).length c6) _ _
            rw [List.length_append]
            rfl
          · rw [flatX_app]
            have h9 := ((hrow.fr hf2 (fun g e => by have := hlo g e; omega)).fr HZC.out (fun g e => by have := hlo g e; omega)).fr fz (fun g e hs => by have := hlo g e; have := HSS.out g hs; omega)
            simpa [flatX] using h9
          · intro y hy
            rcases List.mem_append.1 hy with hy | hy
            · exact hkz.told y hy
            · obtain rfl : y = (x, tov) := by simpa using hy
              exact HTA.out Z2 fw)
        have s1 : (n1 : Int) - 1 = (n : Int) := by omega
        have l1 : IntKind.i64.wrap (n : Int) = (n : Int) := IntWalk.i64_in _ (by have := HN32.out; omega)
        clear hk2 hf2 hX2 hL2 hZ hZv hZF hZc hn1
        go_wp2_with fail
        refine wp_region_held_drew (S := (fun Y => Fr (· = c) X2 Y)) (by kernel_rfl) ((Fr.refl _ X2).drew) (fun hHeld => ?_)
        refine takeD (i := 0) (d := some 20) (v := .agg L2.toArray) rfl (by kernel_rfl) (by kernel_rfl) (by kernel_rfl) (by kernel_rfl) (fun _ _ _ h => h) (Or.inl ⟨by kernel_rfl, fun X hX => Or.inl (exec_load 37 (.tmp 2) rfl _ _ rfl (HLD2.out X hX))⟩) (by assumption) ?_
        (try simp only [Act.put]); (try simp only [List.setIfInBounds_toArray]); (try simp only [List.set_cons_succ]); (try simp only [List.set_cons_zero])
        refine takeD (i := 1) (d := some 21) (v := ?_) rfl (by kernel_rfl) (by kernel_rfl) (by kernel_rfl) (by kernel_rfl) (fun _ _ _ h => h) (Or.inl ⟨by kernel_rfl, fun X hX => Or.inl ?_⟩) (by assumption) ?_
        rotate_left
        · first | (go_simp; done) | (go_simp; with_reducible rfl)
        (try simp only [Act.put]); (try simp only [List.setIfInBounds_toArray]); (try simp only [List.set_cons_succ]); (try simp only [List.set_cons_zero])
        refine takeD (i := 2) (d := some 22) (v := .slice a6 n1 c6) rfl (by kernel_rfl) (by kernel_rfl) (by kernel_rfl) (by kernel_rfl) (fun _ _ _ h => h) (Or.inl ⟨by kernel_rfl, fun X hX => Or.inl (exec_load 33 (.tmp 21) rfl _ _ rfl (HLT2.out X hX))⟩) (by assumption) ?_
        (try simp only [Act.put]); (try simp only [List.setIfInBounds_toArray]); (try simp only [List.set_cons_succ]); (try simp only [List.set_cons_zero])
        refine takeD (i := 3) (d := some 23) (v := ?_) rfl (by kernel_rfl) (by kernel_rfl) (by kernel_rfl) (by kernel_rfl) (fun _ _ _ h => h) (Or.inl ⟨by kernel_rfl, fun X hX => Or.inl ?_⟩) (by assumption) ?_
        rotate_left
        · first | (go_simp; done) | (go_simp; with_reducible rfl)
        (try simp only [Act.put]); (try simp only [List.setIfInBounds_toArray]); (try simp only [List.set_cons_succ]); (try simp only [List.set_cons_zero])
        refine takeD (i := 4) (d := some 24) (v := ?_) rfl (by kernel_rfl) (by kernel_rfl) (by kernel_rfl) (by kernel_rfl) (fun _ _ _ h => h) (Or.inl ⟨by kernel_rfl, fun X hX => Or.inl ?_⟩) (by assumption) ?_
        rotate_left
        · first | (go_simp; done) | (go_simp; with_reducible rfl)
        (try simp only [Act.put]); (try simp only [List.setIfInBounds_toArray]); (try simp only [List.set_cons_succ]); (try simp only [List.set_cons_zero])
        refine wpAnyH_ready (rs := [5]) (by kernel_rfl) (by simp) ?_
        refine AllReadyH.cons rfl (fun K hK => ?_) AllReadyH.nil
        rw [if_pos (by kernel_rfl)]
        refine wpO_store 37 (.tmp 4) (.tmp 20) rfl (.pointer (some ⟨c, 0, none⟩)) (.agg L2.toArray) rfl rfl HST.out ?_
        refine hK.out _ _ (HZC.out) (fun hHeld => ?_)
        clear hK K
        (try simp only [Act.put]); (try simp only [List.setIfInBounds_toArray]); (try simp only [List.set_cons_succ]); (try simp only [List.set_cons_zero])
        refine takeD (i := 6) (d := some 5) (v := ?_) rfl (by kernel_rfl) (by kernel_rfl) (by kernel_rfl) (by kernel_rfl) (fun _ _ _ h => h) (Or.inl ⟨by kernel_rfl, fun X hX => Or.inl ?_⟩) (by assumption) ?_
        rotate_left
        · first | (go_simp; done) | (go_simp; with_reducible rfl)
        (try simp only [Act.put]); (try simp only [List.setIfInBounds_toArray]); (try simp only [List.set_cons_succ]); (try simp only [List.set_cons_zero])
        refine takeD (i := 7) (d := some 6) (v := ?_) rfl (by kernel_rfl) (by kernel_rfl) (by kernel_rfl) (by kernel_rfl) (fun _ _ _ h => h) (Or.inl ⟨by kernel_rfl, fun X hX => Or.inl ?_⟩) (by assumption) ?_
        rotate_left
        · first | (go_simp; done) | (go_simp; with_reducible rfl)
        (try simp only [Act.put]); (try simp only [List.setIfInBounds_toArray]); (try simp only [List.set_cons_succ]); (try simp only [List.set_cons_zero])
        refine wpAnyH_done (by kernel_rfl) ?_ _
        clear hHeld
        go_wp2
        exact bodyPost_ret (results_cell3 rfl rfl rfl rfl HSV.out) rfl ⟨L2, rfl, HDB.out, HFZ.out⟩
    · rw [if_pos (by kernel_rfl)]
      go_simp
      obtain ⟨k5, hk5⟩ : ∃ k, k = V1.heap.size := ⟨_, rfl⟩
      rw [← hk5]
      refine K_world (K := K) (fun Y => Fr No V1 Y ∧ Blk Y k5 59 [.int .i64 (x.f : Int), .int .i64 (x.t : Int), .int .u64 (x.n : Int), .bool (x.need 0), .bool (x.need 1), .bool (x.need 2), .bool (x.need 3), .bool x.lists, .bool x.acted, .bool x.over, .int .i64 x.e, tov]) ⟨by first | exact (Fr.refl No V1).alloc _ | exact ((Fr.refl No V1).alloc _).drew, by rw [hk5]; exact Blk.new V1 59 _⟩ ?_
      rintro V9 ⟨hf, he⟩
      have FV9 := Lib.hid (FV1.out.trans hf)
      have EV9 := Lib.hid (owns_fr EV1.out hf (fun _ _ => id))
      have BV9 := Lib.hid he
      have HN05 : Hid (k0 ≠ k5) := Lib.hid (by have := (EV1.out.lt k0 rfl).2; omega)
      clear hf he hk5
      refine hK.out _ _ ((FV9.out.mono (fun _ _ e => e.elim))) (fun hHeld => ?_)
      clear hK K
      (try simp only [Act.put]); (try simp only [List.setIfInBounds_toArray]); (try simp only [List.set_cons_succ]); (try simp only [List.set_cons_zero])
      refine wpAnyH_ready (rs := [2]) (by kernel_rfl) (by simp) ?_
      refine AllReadyH.cons rfl (fun K hK => ?_) AllReadyH.nil
      rw [if_pos (by kernel_rfl)]
      have cA := (HX.out.box.fr FV9.out id).cell HC65.out
      have cB := (HX.out.box.fr FV9.out.drew id).cell HC65.out
      go_simp
      clear cA cB
      refine K_world (K := K) (fun Y => Fr No V9 Y) (by first | exact Fr.refl No V9 | exact (Fr.refl No V9).drew) ?_
      rintro V10 hf
      have FV10 := Lib.hid (FV9.out.trans hf)
      have EV10 := Lib.hid (owns_fr EV9.out hf (fun _ _ => id))
      have BV10 := Lib.hid (BV9.out.fr hf id)
      clear hf
      refine hK.out _ _ ((FV10.out.mono (fun _ _ e => e.elim))) (fun hHeld => ?_)
      clear hK K
      (try simp only [Act.put]); (try simp only [List.setIfInBounds_toArray]); (try simp only [List.set_cons_succ]); (try simp only [List.set_cons_zero])
      refine wpAnyH_ready (rs := [3]) (by kernel_rfl) (by simp) ?_
      refine AllReadyH.cons rfl (fun K hK => ?_) AllReadyH.nil
      rw [if_pos (by kernel_rfl)]
      obtain ⟨v3, V11, ha, ho, hf⟩ := app_any 33 59 33 i0 _ 12 64 Try.underlying33 hi0 hz0 hz1 hz2 rfl (by decide) (by decide) EV10.out (HD.out.row.no (HX.out.fr.trans FV10.out)) HD.out.tz HFL.out.1 HFL.out.2 (by have := HN32.out; omega) FV10.out.size
      have ho2 : V11.ownsRow X.heap.size 59 12 v3 n (flatX ps) := by simpa using ho
      obtain ⟨a3, c3, rfl⟩ := own_slice ho2
      refine wp_append10 (.tmp 12) (.tmp 14) 33 rfl _ _ _ rfl rfl ha ?_
      have FV11 := Lib.hid (FV10.out.trans' hf (fun k hk e => by have := (EV10.out.lt k e).1; omega))
      have AV11 := Lib.hid ho2
      have BV11 := Lib.hid (BV10.out.fr hf (fun e => HN05.out (by injection e)))
      clear ha ho ho2 hf
      refine hK.out _ _ ((FV11.out.mono (fun _ _ e => e.elim))) (fun hHeld => ?_)
      clear hK K
      (try simp only [Act.put]); (try simp only [List.setIfInBounds_toArray]); (try simp only [List.set_cons_succ]); (try simp only [List.set_cons_zero])
      refine wpAnyH_ready (rs := [6]) (by kernel_rfl) (by simp) ?_
      refine AllReadyH.cons rfl (fun K hK => ?_) AllReadyH.nil
      rw [if_pos (by kernel_rfl)]
      obtain ⟨v6, V12, ha, ho, hf⟩ := app_any 33 59 33 i0 _ 12 64 Try.underlying33 hi0 hz0 hz1 hz2 rfl (by decide) (by decide) AV11.out (ao := some ⟨k5, 0, none⟩) (m := 1) (c := 1) (ys := cellsX x tov) (fun j u hu => ⟨k5, rfl, BV11.out.cell hu⟩) (fun e => by cases e) rfl HX1.out (by have := HN32.out; omega) FV11.out.size
      obtain ⟨a6, c6, rfl⟩ := own_slice ho
      refine wp_append10 (.tmp 15) (.tmp 17) 33 rfl _ _ _ rfl rfl ha ?_
      have FV12 := Lib.hid (FV11.out.trans' hf (fun k hk e => by have := (AV11.out.lt k e).1; omega))
      have HO6 := Lib.hid ho
      clear ha ho hf
      refine hK.out _ _ ((FV12.out.mono (fun _ _ e => e.elim))) (fun hHeld => ?_)
      clear hK K
      (try simp only [Act.put]); (try simp only [List.setIfInBounds_toArray]); (try simp only [List.set_cons_succ]); (try simp only [List.set_cons_zero])
      refine takeD (i := 7) (d := some 19) (v := ?_) rfl (by kernel_rfl) (by kernel_rfl) (by kernel_rfl) (by kernel_rfl) (fun _ _ _ h => h) (Or.inl ⟨by kernel_rfl, fun X hX => Or.inl ?_⟩) (by assumption) ?_
      rotate_left
      · first | (go_simp; done) | (go_simp; with_reducible rfl)
      (try simp only [Act.put]); (try simp only [List.setIfInBounds_toArray]); (try simp only [List.set_cons_succ]); (try simp only [List.set_cons_zero])
      refine wpAnyH_ready (rs := [8]) (by kernel_rfl) (by simp) ?_
      refine AllReadyH.cons rfl (fun K hK => ?_) AllReadyH.nil
      rw [if_pos (by kernel_rfl)]
      have c := (HX.out.box.fr FV12.out id).cell HC65.out
      have c2 := (HX.out.box.fr FV12.out id).frozen 65
      go_simp
      clear c c2
      refine hK.out _ _ (fr_cellq (FV12.out.mono (fun _ _ e => e.elim)) _) (fun hHeld => ?_)
      clear hK K
      (try simp only [Act.put]); (try simp only [List.setIfInBounds_toArray]); (try simp only [List.set_cons_succ]); (try simp only [List.set_cons_zero])
      refine wpAnyH_done (by kernel_rfl) ?_ _
      clear hHeld
      obtain ⟨n1, hn1⟩ : ∃ k, k = n + 1 := ⟨_, rfl⟩
      rw [← hn1] at HO6 ⊢
      have HN1 := Lib.hid hn1
      obtain ⟨hk2, hf2⟩ := (HX.out.on FV12.out).set 65 (.slice a6 n1 c6)
      rw [HSET.out] at hk2
      obtain ⟨L2, hL2⟩ : ∃ L2, L2 = cellsK pa s.p.b.length pc s.p.h (.slice a6 n1 c6) s.hold (.slice da s.done.length dc) := ⟨_, rfl⟩
      rw [← hL2] at hk2
      obtain ⟨X2, hX2⟩ : ∃ Y, Y = V12.setCell ⟨q, 65, none⟩ (.slice a6 n1 c6) := ⟨_, rfl⟩
      rw [← hX2] at hk2 hf2 ⊢
      have HL2 : Hid (L2.length = 71) := Lib.hid (by rw [hL2]; exact cellsK_len HW.out.hl)
      have HLD2 : Hid (∀ Y, Fr (· = c) X2 Y → (Instr.loadAt 37 (.pointer (some ⟨q, 0, none⟩))).run Try.prog Y = .ok (.agg L2.toArray) Y) := Lib.hid (fun Y hY => load_rk (hk2.box.fr hY hk2.qc) HL2.out)
      have HLT2 : Hid (∀ Y, Fr (· = c) X2 Y → (Instr.loadAt 33 (.pointer (some ⟨q, 65, none⟩))).run Try.prog Y = .ok (.slice a6 n1 c6) Y) := Lib.hid (fun Y hY => by
        have := (hk2.box.fr hY hk2.qc).cell (i := 65) (v := .slice a6 n1 c6) (by rw [hL2]; exact cellsK_hi HW.out.hl 0)
        simp [go_sem, this])
      obtain ⟨Z, hZ, hZv, hZF, hZc⟩ := (hk2.on (Fr.refl No X2).drew).put (by rfl) HL2.out (by rw [hL2]; exact cellsK_one rfl rfl)
      have HST := Lib.hid hZ
      have HSV := Lib.hid hZv
      have HFZ := Lib.hid hZF
      have HZC : Hid (Fr (· = c) X2 Z) := Lib.hid ((Fr.refl _ X2).drew.trans hZc)
      have HDB : Hid (DB S (s.add1 x) L2 Z) := Lib.hid (by
        obtain ⟨ao, cc, he, hrow, hz⟩ := RowA.own HO6.out
        injection he with e1 e2 e3
        subst e1
        subst e3
        have hlo : ∀ g, a6 = some ⟨g, 0, none⟩ → X.heap.size ≤ g := fun g e => (HO6.out.lt g (by rw [e]; rfl)).1
        have hq1 := HX.out.box.lt
        have hc1 := HX.out.res.lt
        have hxs := HX.out.fr.size
        refine ⟨pa, pc, a6, c6, da, dc, ps ++ [(x, tov)], fun Z2 fz => ?_⟩
        have fw : Fr S w Z2 := (HFZ.out.mono (fun _ _ e => e.elim)).trans fz
        have hkz := HKK.out Z2 fw
        refine ⟨?_, hkz.pur, by rw [List.map_append, hkz.tks]; rfl, ?_, ?_, hkz.done, hz, hkz.dz⟩
        · rw [hL2, hn1, HNN.out]
          show _ = cellsK _ _ _ _ (.slice a6 (s.t ++ [x]).length c6) _ _
          rw [List.length_append]
          rfl
        · rw [flatX_app]
          have h9 := ((hrow.fr hf2 (fun g e => by have := hlo g e; omega)).fr HZC.out (fun g e => by have := hlo g e; omega)).fr fz (fun g e hs => by have := hlo g e; have := HSS.out g hs; omega)
          simpa [flatX] using h9
        · intro y hy
          rcases List.mem_append.1 hy with hy | hy
          · exact hkz.told y hy
          · obtain rfl : y = (x, tov) := by simpa using hy
            exact HTA.out Z2 fw)
      have s1 : (n1 : Int) - 1 = (n : Int) := by omega
      have l1 : IntKind.i64.wrap (n : Int) = (n : Int) := IntWalk.i64_in _ (by have := HN32.out; omega)
      clear hk2 hf2 hX2 hL2 hZ hZv hZF hZc hn1
      go_wp2_with fail
      refine wp_region_held_drew (S := (fun Y => Fr (· = c) X2 Y)) (by kernel_rfl) ((Fr.refl _ X2).drew) (fun hHeld => ?_)
      refine takeD (i := 0) (d := some 20) (v := .agg L2.toArray) rfl (by kernel_rfl) (by kernel_rfl) (by kernel_rfl) (by kernel_rfl) (fun _ _ _ h => h) (Or.inl ⟨by kernel_rfl, fun X hX => Or.inl (exec_load 37 (.tmp 2) rfl _ _ rfl (HLD2.out X hX))⟩) (by assumption) ?_
      (try simp only [Act.put]); (try simp only [List.setIfInBounds_toArray]); (try simp only [List.set_cons_succ]); (try simp only [List.set_cons_zero])
      refine takeD (i := 1) (d := some 21) (v := ?_) rfl (by kernel_rfl) (by kernel_rfl) (by kernel_rfl) (by kernel_rfl) (fun _ _ _ h => h) (Or.inl ⟨by kernel_rfl, fun X hX => Or.inl ?_⟩) (by assumption) ?_
      rotate_left
      · first | (go_simp; done) | (go_simp; with_reducible rfl)
      (try simp only [Act.put]); (try simp only [List.setIfInBounds_toArray]); (try simp only [List.set_cons_succ]); (try simp only [List.set_cons_zero])
      refine takeD (i := 2) (d := some 22) (v := .slice a6 n1 c6) rfl (by kernel_rfl) (by kernel_rfl) (by kernel_rfl) (by kernel_rfl) (fun _ _ _ h => h) (Or.inl ⟨by kernel_rfl, fun X hX => Or.inl (exec_load 33 (.tmp 21) rfl _ _ rfl (HLT2.out X hX))⟩) (by assumption) ?_
      (try simp only [Act.put]); (try simp only [List.setIfInBounds_toArray]); (try simp only [List.set_cons_succ]); (try simp only [List.set_cons_zero])
      refine takeD (i := 3) (d := some 23) (v := ?_) rfl (by kernel_rfl) (by kernel_rfl) (by kernel_rfl) (by kernel_rfl) (fun _ _ _ h => h) (Or.inl ⟨by kernel_rfl, fun X hX => Or.inl ?_⟩) (by assumption) ?_
      rotate_left
      · first | (go_simp; done) | (go_simp; with_reducible rfl)
      (try simp only [Act.put]); (try simp only [List.setIfInBounds_toArray]); (try simp only [List.set_cons_succ]); (try simp only [List.set_cons_zero])
      refine takeD (i := 4) (d := some 24) (v := ?_) rfl (by kernel_rfl) (by kernel_rfl) (by kernel_rfl) (by kernel_rfl) (fun _ _ _ h => h) (Or.inl ⟨by kernel_rfl, fun X hX => Or.inl ?_⟩) (by assumption) ?_
      rotate_left
      · first | (go_simp; done) | (go_simp; with_reducible rfl)
      (try simp only [Act.put]); (try simp only [List.setIfInBounds_toArray]); (try simp only [List.set_cons_succ]); (try simp only [List.set_cons_zero])
      refine wpAnyH_ready (rs := [5]) (by kernel_rfl) (by simp) ?_
      refine AllReadyH.cons rfl (fun K hK => ?_) AllReadyH.nil
      rw [if_pos (by kernel_rfl)]
      refine wpO_store 37 (.tmp 4) (.tmp 20) rfl (.pointer (some ⟨c, 0, none⟩)) (.agg L2.toArray) rfl rfl HST.out ?_
      refine hK.out _ _ (HZC.out) (fun hHeld => ?_)
      clear hK K
      (try simp only [Act.put]); (try simp only [List.setIfInBounds_toArray]); (try simp only [List.set_cons_succ]); (try simp only [List.set_cons_zero])
      refine takeD (i := 6) (d := some 5) (v := ?_) rfl (by kernel_rfl) (by kernel_rfl) (by kernel_rfl) (by kernel_rfl) (fun _ _ _ h => h) (Or.inl ⟨by kernel_rfl, fun X hX => Or.inl ?_⟩) (by assumption) ?_
      rotate_left
      · first | (go_simp; done) | (go_simp; with_reducible rfl)
      (try simp only [Act.put]); (try simp only [List.setIfInBounds_toArray]); (try simp only [List.set_cons_succ]); (try simp only [List.set_cons_zero])
      refine takeD (i := 7) (d := some 6) (v := ?_) rfl (by kernel_rfl) (by kernel_rfl) (by kernel_rfl) (by kernel_rfl) (fun _ _ _ h => h) (Or.inl ⟨by kernel_rfl, fun X hX => Or.inl ?_⟩) (by assumption) ?_
      rotate_left
      · first | (go_simp; done) | (go_simp; with_reducible rfl)
      (try simp only [Act.put]); (try simp only [List.setIfInBounds_toArray]); (try simp only [List.set_cons_succ]); (try simp only [List.set_cons_zero])
      refine wpAnyH_done (by kernel_rfl) ?_ _
      clear hHeld
      go_wp2
      exact bodyPost_ret (results_cell3 rfl rfl rfl rfl HSV.out) rfl ⟨L2, rfl, HDB.out, HFZ.out⟩
  · rw [if_pos (by kernel_rfl)]
    have cA := (HX.out.box.fr FX.out id).cell HC65.out
    have cB := (HX.out.box.fr FX.out.drew id).cell HC65.out
    go_simp
    clear cA cB
    refine K_world (K := K) (fun Y => Fr No X Y) (by first | exact Fr.refl No X | exact (Fr.refl No X).drew) ?_
    rintro V13 hf
    have FV13 := Lib.hid (FX.out.trans hf)
    clear hf
    refine hK.out _ _ ((FV13.out.mono (fun _ _ e => e.elim))) (fun hHeld => ?_)
    clear hK K
    (try simp only [Act.put]); (try simp only [List.setIfInBounds_toArray]); (try simp only [List.set_cons_succ]); (try simp only [List.set_cons_zero])
    refine wpAnyH_ready (rs := [0, 5]) (by kernel_rfl) (by simp) ?_
    refine (AllReadyH.cons rfl (fun K hK => ?_) (AllReadyH.cons rfl (fun K hK => ?_) AllReadyH.nil))
    · rw [if_pos (by kernel_rfl)]
      go_simp
      obtain ⟨k0, hk0⟩ : ∃ k, k = V13.heap.size := ⟨_, rfl⟩
      rw [← hk0]
      refine K_world (K := K) (fun Y => Fr No V13 Y ∧ Y.ownsRow X.heap.size 59 12 (.slice (some ⟨k0, 0, none⟩) 0 0) 0 []) ⟨by first | exact (Fr.refl No V13).alloc _ | exact ((Fr.refl No V13).alloc _).drew, by rw [hk0]; exact World.ownsRow_made V13 #[] 0 FV13.out.size (Nat.zero_le _) rfl⟩ ?_
      rintro V14 ⟨hf, he⟩
      have FV14 := Lib.hid (FV13.out.trans hf)
      have EV14 := Lib.hid he
      clear hf he hk0
      refine hK.out _ _ ((FV14.out.mono (fun _ _ e => e.elim))) (fun hHeld => ?_)
      clear hK K
      (try simp only [Act.put]); (try simp only [List.setIfInBounds_toArray]); (try simp only [List.set_cons_succ]); (try simp only [List.set_cons_zero])
      refine wpAnyH_ready (rs := [3, 5]) (by kernel_rfl) (by simp) ?_
      refine (AllReadyH.cons rfl (fun K hK => ?_) (AllReadyH.cons rfl (fun K hK => ?_) AllReadyH.nil))
      · rw [if_pos (by kernel_rfl)]
        obtain ⟨v3, V15, ha, ho, hf⟩ := app_any 33 59 33 i0 _ 12 64 Try.underlying33 hi0 hz0 hz1 hz2 rfl (by decide) (by decide) EV14.out (HD.out.row.no (HX.out.fr.trans FV14.out)) HD.out.tz HFL.out.1 HFL.out.2 (by have := HN32.out; omega) FV14.out.size
        have ho2 : V15.ownsRow X.heap.size 59 12 v3 n (flatX ps) := by simpa using ho
        obtain ⟨a3, c3, rfl⟩ := own_slice ho2
        refine wp_append10 (.tmp 12) (.tmp 14) 33 rfl _ _ _ rfl rfl ha ?_
        have FV15 := Lib.hid (FV14.out.trans' hf (fun k hk e => by have := (EV14.out.lt k e).1; omega))
        have AV15 := Lib.hid ho2
        clear ha ho ho2 hf
        refine hK.out _ _ ((FV15.out.mono (fun _ _ e => e.elim))) (fun hHeld => ?_)
        clear hK K
        (try simp only [Act.put]); (try simp only [List.setIfInBounds_toArray]); (try simp only [List.set_cons_succ]); (try simp only [List.set_cons_zero])
        refine wpAnyH_ready (rs := [5]) (by kernel_rfl) (by simp) ?_
        refine AllReadyH.cons rfl (fun K hK => ?_) AllReadyH.nil
        rw [if_pos (by kernel_rfl)]
        go_simp
        obtain ⟨k5, hk5⟩ : ∃ k, k = V15.heap.size := ⟨_, rfl⟩
        rw [← hk5]
        refine K_world (K := K) (fun Y => Fr No V15 Y ∧ Blk Y k5 59 [.int .i64 (x.f : Int), .int .i64 (x.t : Int), .int .u64 (x.n : Int), .bool (x.need 0), .bool (x.need 1), .bool (x.need 2), .bool (x.need 3), .bool x.lists, .bool x.acted, .bool x.over, .int .i64 x.e, tov]) ⟨by first | exact (Fr.refl No V15).alloc _ | exact ((Fr.refl No V15).alloc _).drew, by rw [hk5]; exact Blk.new V15 59 _⟩ ?_
        rintro V16 ⟨hf, he⟩
        have FV16 := Lib.hid (FV15.out.trans hf)
        have AV16 := Lib.hid (owns_fr AV15.out hf (fun _ _ => id))
        have BV16 := Lib.hid he
        clear hf he hk5
        refine hK.out _ _ ((FV16.out.mono (fun _ _ e => e.elim))) (fun hHeld => ?_)
        clear hK K
        (try simp only [Act.put]); (try simp only [List.setIfInBounds_toArray]); (try simp only [List.set_cons_succ]); (try simp only [List.set_cons_zero])
        refine wpAnyH_ready (rs := [6]) (by kernel_rfl) (by simp) ?_
        refine AllReadyH.cons rfl (fun K hK => ?_) AllReadyH.nil
        rw [if_pos (by kernel_rfl)]
        obtain ⟨v6, V17, ha, ho, hf⟩ := app_any 33 59 33 i0 _ 12 64 Try.underlying33 hi0 hz0 hz1 hz2 rfl (by decide) (by decide) AV16.out (ao := some ⟨k5, 0, none⟩) (m := 1) (c := 1) (ys := cellsX x tov) (fun j u hu => ⟨k5, rfl, BV16.out.cell hu⟩) (fun e => by cases e) rfl HX1.out (by have := HN32.out; omega) FV16.out.size
        obtain ⟨a6, c6, rfl⟩ := own_slice ho
        refine wp_append10 (.tmp 15) (.tmp 17) 33 rfl _ _ _ rfl rfl ha ?_
        have FV17 := Lib.hid (FV16.out.trans' hf (fun k hk e => by have := (AV16.out.lt k e).1; omega))
        have HO6 := Lib.hid ho
        clear ha ho hf
        refine hK.out _ _ ((FV17.out.mono (fun _ _ e => e.elim))) (fun hHeld => ?_)
        clear hK K
        (try simp only [Act.put]); (try simp only [List.setIfInBounds_toArray]); (try simp only [List.set_cons_succ]); (try simp only [List.set_cons_zero])
        refine takeD (i := 7) (d := some 19) (v := ?_) rfl (by kernel_rfl) (by kernel_rfl) (by kernel_rfl) (by kernel_rfl) (fun _ _ _ h => h) (Or.inl ⟨by kernel_rfl, fun X hX => Or.inl ?_⟩) (by assumption) ?_
        rotate_left
        · first | (go_simp; done) | (go_simp; with_reducible rfl)
        (try simp only [Act.put]); (try simp only [List.setIfInBounds_toArray]); (try simp only [List.set_cons_succ]); (try simp only [List.set_cons_zero])
        refine wpAnyH_ready (rs := [8]) (by kernel_rfl) (by simp) ?_
        refine AllReadyH.cons rfl (fun K hK => ?_) AllReadyH.nil
        rw [if_pos (by kernel_rfl)]
        have c := (HX.out.box.fr FV17.out id).cell HC65.out
        have c2 := (HX.out.box.fr FV17.out id).frozen 65
        go_simp
        clear c c2
        refine hK.out _ _ (fr_cellq (FV17.out.mono (fun _ _ e => e.elim)) _) (fun hHeld => ?_)
        clear hK K
        (try simp only [Act.put]); (try simp only [List.setIfInBounds_toArray]); (try simp only [List.set_cons_succ]); (try simp only [List.set_cons_zero])
        refine wpAnyH_done (by kernel_rfl) ?_ _
        clear hHeld
        obtain ⟨n1, hn1⟩ : ∃ k, k = n + 1 := ⟨_, rfl⟩
        rw [← hn1] at HO6 ⊢
        have HN1 := Lib.hid hn1
        obtain ⟨hk2, hf2⟩ := (HX.out.on FV17.out).set 65 (.slice a6 n1 c6)
        rw [HSET.out] at hk2
        obtain ⟨L2, hL2⟩ : ∃ L2, L2 = cellsK pa s.p.b.length pc s.p.h (.slice a6 n1 c6) s.hold (.slice da s.done.length dc) := ⟨_, rfl⟩
        rw [← hL2] at hk2
        obtain ⟨X2, hX2⟩ : ∃ Y, Y = V17.setCell ⟨q, 65, none⟩ (.slice a6 n1 c6) := ⟨_, rfl⟩
        rw [← hX2] at hk2 hf2 ⊢
        have HL2 : Hid (L2.length = 71) := Lib.hid (by rw [hL2]; exact cellsK_len HW.out.hl)
        have HLD2 : Hid (∀ Y, Fr (· = c) X2 Y → (Instr.loadAt 37 (.pointer (some ⟨q, 0, none⟩))).run Try.prog Y = .ok (.agg L2.toArray) Y) := Lib.hid (fun Y hY => load_rk (hk2.box.fr hY hk2.qc) HL2.out)
        have HLT2 : Hid (∀ Y, Fr (· = c) X2 Y → (Instr.loadAt 33 (.pointer (some ⟨q, 65, none⟩))).run Try.prog Y = .ok (.slice a6 n1 c6) Y) := Lib.hid (fun Y hY => by
          have := (hk2.box.fr hY hk2.qc).cell (i := 65) (v := .slice a6 n1 c6) (by rw [hL2]; exact cellsK_hi HW.out.hl 0)
          simp [go_sem, this])
        obtain ⟨Z, hZ, hZv, hZF, hZc⟩ := (hk2.on (Fr.refl No X2).drew).put (by rfl) HL2.out (by rw [hL2]; exact cellsK_one rfl rfl)
        have HST := Lib.hid hZ
        have HSV := Lib.hid hZv
        have HFZ := Lib.hid hZF
        have HZC : Hid (Fr (· = c) X2 Z) := Lib.hid ((Fr.refl _ X2).drew.trans hZc)
        have HDB : Hid (DB S (s.add1 x) L2 Z) := Lib.hid (by
          obtain ⟨ao, cc, he, hrow, hz⟩ := RowA.own HO6.out
          injection he with e1 e2 e3
          subst e1
          subst e3
          have hlo : ∀ g, a6 = some ⟨g, 0, none⟩ → X.heap.size ≤ g := fun g e => (HO6.out.lt g (by rw [e]; rfl)).1
          have hq1 := HX.out.box.lt
          have hc1 := HX.out.res.lt
          have hxs := HX.out.fr.size
          refine ⟨pa, pc, a6, c6, da, dc, ps ++ [(x, tov)], fun Z2 fz => ?_⟩
          have fw : Fr S w Z2 := (HFZ.out.mono (fun _ _ e => e.elim)).trans fz
          have hkz := HKK.out Z2 fw
          refine ⟨?_, hkz.pur, by rw [List.map_append, hkz.tks]; rfl, ?_, ?_, hkz.done, hz, hkz.dz⟩
          · rw [hL2, hn1, HNN.out]
            show _ = cellsK _ _ _ _ (.slice a6 (s.t ++ [x]).length c6) _ _
            rw [List.length_append]
            rfl
          · rw [flatX_app]
            have h9 := ((hrow.fr hf2 (fun g e => by have := hlo g e; omega)).fr HZC.out (fun g e => by have := hlo g e; omega)).fr fz (fun g e hs => by have := hlo g e; have := HSS.out g hs; omega)
            simpa [flatX] using h9
          · intro y hy
            rcases List.mem_append.1 hy with hy | hy
            · exact hkz.told y hy
            · obtain rfl : y = (x, tov) := by simpa using hy
              exact HTA.out Z2 fw)
        have s1 : (n1 : Int) - 1 = (n : Int) := by omega
        have l1 : IntKind.i64.wrap (n : Int) = (n : Int) := IntWalk.i64_in _ (by have := HN32.out; omega)
        clear hk2 hf2 hX2 hL2 hZ hZv hZF hZc hn1
        go_wp2_with fail
        refine wp_region_held_drew (S := (fun Y => Fr (· = c) X2 Y)) (by kernel_rfl) ((Fr.refl _ X2).drew) (fun hHeld => ?_)
        refine takeD (i := 0) (d := some 20) (v := .agg L2.toArray) rfl (by kernel_rfl) (by kernel_rfl) (by kernel_rfl) (by kernel_rfl) (fun _ _ _ h => h) (Or.inl ⟨by kernel_rfl, fun X hX => Or.inl (exec_load 37 (.tmp 2) rfl _ _ rfl (HLD2.out X hX))⟩) (by assumption) ?_
        (try simp only [Act.put]); (try simp only [List.setIfInBounds_toArray]); (try simp only [List.set_cons_succ]); (try simp only [List.set_cons_zero])
        refine takeD (i := 1) (d := some 21) (v := ?_) rfl (by kernel_rfl) (by kernel_rfl) (by kernel_rfl) (by kernel_rfl) (fun _ _ _ h => h) (Or.inl ⟨by kernel_rfl, fun X hX => Or.inl ?_⟩) (by assumption) ?_
        rotate_left
        · first | (go_simp; done) | (go_simp; with_reducible rfl)
        (try simp only [Act.put]); (try simp only [List.setIfInBounds_toArray]); (try simp only [List.set_cons_succ]); (try simp only [List.set_cons_zero])
        refine takeD (i := 2) (d := some 22) (v := .slice a6 n1 c6) rfl (by kernel_rfl) (by kernel_rfl) (by kernel_rfl) (by kernel_rfl) (fun _ _ _ h => h) (Or.inl ⟨by kernel_rfl, fun X hX => Or.inl (exec_load 33 (.tmp 21) rfl _ _ rfl (HLT2.out X hX))⟩) (by assumption) ?_
        (try simp only [Act.put]); (try simp only [List.setIfInBounds_toArray]); (try simp only [List.set_cons_succ]); (try simp only [List.set_cons_zero])
        refine takeD (i := 3) (d := some 23) (v := ?_) rfl (by kernel_rfl) (by kernel_rfl) (by kernel_rfl) (by kernel_rfl) (fun _ _ _ h => h) (Or.inl ⟨by kernel_rfl, fun X hX => Or.inl ?_⟩) (by assumption) ?_
        rotate_left
        · first | (go_simp; done) | (go_simp; with_reducible rfl)
        (try simp only [Act.put]); (try simp only [List.setIfInBounds_toArray]); (try simp only [List.set_cons_succ]); (try simp only [List.set_cons_zero])
        refine takeD (i := 4) (d := some 24) (v := ?_) rfl (by kernel_rfl) (by kernel_rfl) (by kernel_rfl) (by kernel_rfl) (fun _ _ _ h => h) (Or.inl ⟨by kernel_rfl, fun X hX => Or.inl ?_⟩) (by assumption) ?_
        rotate_left
        · first | (go_simp; done) | (go_simp; with_reducible rfl)
        (try simp only [Act.put]); (try simp only [List.setIfInBounds_toArray]); (try simp only [List.set_cons_succ]); (try simp only [List.set_cons_zero])
        refine wpAnyH_ready (rs := [5]) (by kernel_rfl) (by simp) ?_
        refine AllReadyH.cons rfl (fun K hK => ?_) AllReadyH.nil
        rw [if_pos (by kernel_rfl)]
        refine wpO_store 37 (.tmp 4) (.tmp 20) rfl (.pointer (some ⟨c, 0, none⟩)) (.agg L2.toArray) rfl rfl HST.out ?_
        refine hK.out _ _ (HZC.out) (fun hHeld => ?_)
        clear hK K
        (try simp only [Act.put]); (try simp only [List.setIfInBounds_toArray]); (try simp only [List.set_cons_succ]); (try simp only [List.set_cons_zero])
        refine takeD (i := 6) (d := some 5) (v := ?_) rfl (by kernel_rfl) (by kernel_rfl) (by kernel_rfl) (by kernel_rfl) (fun _ _ _ h => h) (Or.inl ⟨by kernel_rfl, fun X hX => Or.inl ?_⟩) (by assumption) ?_
        rotate_left
        · first | (go_simp; done) | (go_simp; with_reducible rfl)
        (try simp only [Act.put]); (try simp only [List.setIfInBounds_toArray]); (try simp only [List.set_cons_succ]); (try simp only [List.set_cons_zero])
        refine takeD (i := 7) (d := some 6) (v := ?_) rfl (by kernel_rfl) (by kernel_rfl) (by kernel_rfl) (by kernel_rfl) (fun _ _ _ h => h) (Or.inl ⟨by kernel_rfl, fun X hX => Or.inl ?_⟩) (by assumption) ?_
        rotate_left
        · first | (go_simp; done) | (go_simp; with_reducible rfl)
        (try simp only [Act.put]); (try simp only [List.setIfInBounds_toArray]); (try simp only [List.set_cons_succ]); (try simp only [List.set_cons_zero])
        refine wpAnyH_done (by kernel_rfl) ?_ _
        clear hHeld
        go_wp2
        exact bodyPost_ret (results_cell3 rfl rfl rfl rfl HSV.out) rfl ⟨L2, rfl, HDB.out, HFZ.out⟩
      · rw [if_pos (by kernel_rfl)]
        go_simp
        obtain ⟨k5, hk5⟩ : ∃ k, k = V14.heap.size := ⟨_, rfl⟩
        rw [← hk5]
        refine K_world (K := K) (fun Y => Fr No V14 Y ∧ Blk Y k5 59 [.int .i64 (x.f : Int), .int .i64 (x.t : Int), .int .u64 (x.n : Int), .bool (x.need 0), .bool (x.need 1), .bool (x.need 2), .bool (x.need 3), .bool x.lists, .bool x.acted, .bool x.over, .int .i64 x.e, tov]) ⟨by first | exact (Fr.refl No V14).alloc _ | exact ((Fr.refl No V14).alloc _).drew, by rw [hk5]; exact Blk.new V14 59 _⟩ ?_
        rintro V18 ⟨hf, he⟩
        have FV18 := Lib.hid (FV14.out.trans hf)
        have EV18 := Lib.hid (owns_fr EV14.out hf (fun _ _ => id))
        have BV18 := Lib.hid he
        have HN05 : Hid (k0 ≠ k5) := Lib.hid (by have := (EV14.out.lt k0 rfl).2; omega)
        clear hf he hk5
        refine hK.out _ _ ((FV18.out.mono (fun _ _ e => e.elim))) (fun hHeld => ?_)
        clear hK K
        (try simp only [Act.put]); (try simp only [List.setIfInBounds_toArray]); (try simp only [List.set_cons_succ]); (try simp only [List.set_cons_zero])
        refine wpAnyH_ready (rs := [3]) (by kernel_rfl) (by simp) ?_
        refine AllReadyH.cons rfl (fun K hK => ?_) AllReadyH.nil
        rw [if_pos (by kernel_rfl)]
        obtain ⟨v3, V19, ha, ho, hf⟩ := app_any 33 59 33 i0 _ 12 64 Try.underlying33 hi0 hz0 hz1 hz2 rfl (by decide) (by decide) EV18.out (HD.out.row.no (HX.out.fr.trans FV18.out)) HD.out.tz HFL.out.1 HFL.out.2 (by have := HN32.out; omega) FV18.out.size
        have ho2 : V19.ownsRow X.heap.size 59 12 v3 n (flatX ps) := by simpa using ho
        obtain ⟨a3, c3, rfl⟩ := own_slice ho2
        refine wp_append10 (.tmp 12) (.tmp 14) 33 rfl _ _ _ rfl rfl ha ?_
        have FV19 := Lib.hid (FV18.out.trans' hf (fun k hk e => by have := (EV18.out.lt k e).1; omega))
        have AV19 := Lib.hid ho2
        have BV19 := Lib.hid (BV18.out.fr hf (fun e => HN05.out (by injection e)))
        clear ha ho ho2 hf
        refine hK.out _ _ ((FV19.out.mono (fun _ _ e => e.elim))) (fun hHeld => ?_)
        clear hK K
        (try simp only [Act.put]); (try simp only [List.setIfInBounds_toArray]); (try simp only [List.set_cons_succ]); (try simp only [List.set_cons_zero])
        refine wpAnyH_ready (rs := [6]) (by kernel_rfl) (by simp) ?_
        refine AllReadyH.cons rfl (fun K hK => ?_) AllReadyH.nil
        rw [if_pos (by kernel_rfl)]
        obtain ⟨v6, V20, ha, ho, hf⟩ := app_any 33 59 33 i0 _ 12 64 Try.underlying33 hi0 hz0 hz1 hz2 rfl (by decide) (by decide) AV19.out (ao := some ⟨k5, 0, none⟩) (m := 1) (c := 1) (ys := cellsX x tov) (fun j u hu => ⟨k5, rfl, BV19.out.cell hu⟩) (fun e => by cases e) rfl HX1.out (by have := HN32.out; omega) FV19.out.size
        obtain ⟨a6, c6, rfl⟩ := own_slice ho
        refine wp_append10 (.tmp 15) (.tmp 17) 33 rfl _ _ _ rfl rfl ha ?_
        have FV20 := Lib.hid (FV19.out.trans' hf (fun k hk e => by have := (AV19.out.lt k e).1; omega))
        have HO6 := Lib.hid ho
        clear ha ho hf
        refine hK.out _ _ ((FV20.out.mono (fun _ _ e => e.elim))) (fun hHeld => ?_)
        clear hK K
        (try simp only [Act.put]); (try simp only [List.setIfInBounds_toArray]); (try simp only [List.set_cons_succ]); (try simp only [List.set_cons_zero])
        refine takeD (i := 7) (d := some 19) (v := ?_) rfl (by kernel_rfl) (by kernel_rfl) (by kernel_rfl) (by kernel_rfl) (fun _ _ _ h => h) (Or.inl ⟨by kernel_rfl, fun X hX => Or.inl ?_⟩) (by assumption) ?_
        rotate_left
        · first | (go_simp; done) | (go_simp; with_reducible rfl)
        (try simp only [Act.put]); (try simp only [List.setIfInBounds_toArray]); (try simp only [List.set_cons_succ]); (try simp only [List.set_cons_zero])
        refine wpAnyH_ready (rs := [8]) (by kernel_rfl) (by simp) ?_
        refine AllReadyH.cons rfl (fun K hK => ?_) AllReadyH.nil
        rw [if_pos (by kernel_rfl)]
        have c := (HX.out.box.fr FV20.out id).cell HC65.out
        have c2 := (HX.out.box.fr FV20.out id).frozen 65
        go_simp
        clear c c2
        refine hK.out _ _ (fr_cellq (FV20.out.mono (fun _ _ e => e.elim)) _) (fun hHeld => ?_)
        clear hK K
        (try simp only [Act.put]); (try simp only [List.setIfInBounds_toArray]); (try simp only [List.set_cons_succ]); (try simp only [List.set_cons_zero])
        refine wpAnyH_done (by kernel_rfl) ?_ _
        clear hHeld
        obtain ⟨n1, hn1⟩ : ∃ k, k = n + 1 := ⟨_, rfl⟩
        rw [← hn1] at HO6 ⊢
        have HN1 := Lib.hid hn1
        obtain ⟨hk2, hf2⟩ := (HX.out.on FV20.out).set 65 (.slice a6 n1 c6)
        rw [HSET.out] at hk2
        obtain ⟨L2, hL2⟩ : ∃ L2, L2 = cellsK pa s.p.b.length pc s.p.h (.slice a6 n1 c6) s.hold (.slice da s.done.length dc) := ⟨_, rfl⟩
        rw [← hL2] at hk2
        obtain ⟨X2, hX2⟩ : ∃ Y, Y = V20.setCell ⟨q, 65, none⟩ (.slice a6 n1 c6) := ⟨_, rfl⟩
        rw [← hX2] at hk2 hf2 ⊢
        have HL2 : Hid (L2.length = 71) := Lib.hid (by rw [hL2]; exact cellsK_len HW.out.hl)
        have HLD2 : Hid (∀ Y, Fr (· = c) X2 Y → (Instr.loadAt 37 (.pointer (some ⟨q, 0, none⟩))).run Try.prog Y = .ok (.agg L2.toArray) Y) := Lib.hid (fun Y hY => load_rk (hk2.box.fr hY hk2.qc) HL2.out)
        have HLT2 : Hid (∀ Y, Fr (· = c) X2 Y → (Instr.loadAt 33 (.pointer (some ⟨q, 65, none⟩))).run Try.prog Y = .ok (.slice a6 n1 c6) Y) := Lib.hid (fun Y hY => by
          have := (hk2.box.fr hY hk2.qc).cell (i := 65) (v := .slice a6 n1 c6) (by rw [hL2]; exact cellsK_hi HW.out.hl 0)
          simp [go_sem, this])
        obtain ⟨Z, hZ, hZv, hZF, hZc⟩ := (hk2.on (Fr.refl No X2).drew).put (by rfl) HL2.out (by rw [hL2]; exact cellsK_one rfl rfl)
        have HST := Lib.hid hZ
        have HSV := Lib.hid hZv
        have HFZ := Lib.hid hZF
        have HZC : Hid (Fr (· = c) X2 Z) := Lib.hid ((Fr.refl _ X2).drew.trans hZc)
        have HDB : Hid (DB S (s.add1 x) L2 Z) := Lib.hid (by
          obtain ⟨ao, cc, he, hrow, hz⟩ := RowA.own HO6.out
          injection he with e1 e2 e3
          subst e1
          subst e3
          have hlo : ∀ g, a6 = some ⟨g, 0, none⟩ → X.heap.size ≤ g := fun g e => (HO6.out.lt g (by rw [e]; rfl)).1
          have hq1 := HX.out.box.lt
          have hc1 := HX.out.res.lt
          have hxs := HX.out.fr.size
          refine ⟨pa, pc, a6, c6, da, dc, ps ++ [(x, tov)], fun Z2 fz => ?_⟩
          have fw : Fr S w Z2 := (HFZ.out.mono (fun _ _ e => e.elim)).trans fz
          have hkz := HKK.out Z2 fw
          refine ⟨?_, hkz.pur, by rw [List.map_append, hkz.tks]; rfl, ?_, ?_, hkz.done, hz, hkz.dz⟩
          · rw [hL2, hn1, HNN.out]
            show _ = cellsK _ _ _ _ (.slice a6 (s.t ++ [x]).length c6) _ _
            rw [List.length_append]
            rfl
          · rw [flatX_app]
            have h9 := ((hrow.fr hf2 (fun g e => by have := hlo g e; omega)).fr HZC.out (fun g e => by have := hlo g e; omega)).fr fz (fun g e hs => by have := hlo g e; have := HSS.out g hs; omega)
            simpa [flatX] using h9
          · intro y hy
            rcases List.mem_append.1 hy with hy | hy
            · exact hkz.told y hy
            · obtain rfl : y = (x, tov) := by simpa using hy
              exact HTA.out Z2 fw)
        have s1 : (n1 : Int) - 1 = (n : Int) := by omega
        have l1 : IntKind.i64.wrap (n : Int) = (n : Int) := IntWalk.i64_in _ (by have := HN32.out; omega)
        clear hk2 hf2 hX2 hL2 hZ hZv hZF hZc hn1
        go_wp2_with fail
        refine wp_region_held_drew (S := (fun Y => Fr (· = c) X2 Y)) (by kernel_rfl) ((Fr.refl _ X2).drew) (fun hHeld => ?_)
        refine takeD (i := 0) (d := some 20) (v := .agg L2.toArray) rfl (by kernel_rfl) (by kernel_rfl) (by kernel_rfl) (by kernel_rfl) (fun _ _ _ h => h) (Or.inl ⟨by kernel_rfl, fun X hX => Or.inl (exec_load 37 (.tmp 2) rfl _ _ rfl (HLD2.out X hX))⟩) (by assumption) ?_
        (try simp only [Act.put]); (try simp only [List.setIfInBounds_toArray]); (try simp only [List.set_cons_succ]); (try simp only [List.set_cons_zero])
        refine takeD (i := 1) (d := some 21) (v := ?_) rfl (by kernel_rfl) (by kernel_rfl) (by kernel_rfl) (by kernel_rfl) (fun _ _ _ h => h) (Or.inl ⟨by kernel_rfl, fun X hX => Or.inl ?_⟩) (by assumption) ?_
        rotate_left
        · first | (go_simp; done) | (go_simp; with_reducible rfl)
        (try simp only [Act.put]); (try simp only [List.setIfInBounds_toArray]); (try simp only [List.set_cons_succ]); (try simp only [List.set_cons_zero])
        refine takeD (i := 2) (d := some 22) (v := .slice a6 n1 c6) rfl (by kernel_rfl) (by kernel_rfl) (by kernel_rfl) (by kernel_rfl) (fun _ _ _ h => h) (Or.inl ⟨by kernel_rfl, fun X hX => Or.inl (exec_load 33 (.tmp 21) rfl _ _ rfl (HLT2.out X hX))⟩) (by assumption) ?_
        (try simp only [Act.put]); (try simp only [List.setIfInBounds_toArray]); (try simp only [List.set_cons_succ]); (try simp only [List.set_cons_zero])
        refine takeD (i := 3) (d := some 23) (v := ?_) rfl (by kernel_rfl) (by kernel_rfl) (by kernel_rfl) (by kernel_rfl) (fun _ _ _ h => h) (Or.inl ⟨by kernel_rfl, fun X hX => Or.inl ?_⟩) (by assumption) ?_
        rotate_left
        · first | (go_simp; done) | (go_simp; with_reducible rfl)
        (try simp only [Act.put]); (try simp only [List.setIfInBounds_toArray]); (try simp only [List.set_cons_succ]); (try simp only [List.set_cons_zero])
        refine takeD (i := 4) (d := some 24) (v := ?_) rfl (by kernel_rfl) (by kernel_rfl) (by kernel_rfl) (by kernel_rfl) (fun _ _ _ h => h) (Or.inl ⟨by kernel_rfl, fun X hX => Or.inl ?_⟩) (by assumption) ?_
        rotate_left
        · first | (go_simp; done) | (go_simp; with_reducible rfl)
        (try simp only [Act.put]); (try simp only [List.setIfInBounds_toArray]); (try simp only [List.set_cons_succ]); (try simp only [List.set_cons_zero])
        refine wpAnyH_ready (rs := [5]) (by kernel_rfl) (by simp) ?_
        refine AllReadyH.cons rfl (fun K hK => ?_) AllReadyH.nil
        rw [if_pos (by kernel_rfl)]
        refine wpO_store 37 (.tmp 4) (.tmp 20) rfl (.pointer (some ⟨c, 0, none⟩)) (.agg L2.toArray) rfl rfl HST.out ?_
        refine hK.out _ _ (HZC.out) (fun hHeld => ?_)
        clear hK K
        (try simp only [Act.put]); (try simp only [List.setIfInBounds_toArray]); (try simp only [List.set_cons_succ]); (try simp only [List.set_cons_zero])
        refine takeD (i := 6) (d := some 5) (v := ?_) rfl (by kernel_rfl) (by kernel_rfl) (by kernel_rfl) (by kernel_rfl) (fun _ _ _ h => h) (Or.inl ⟨by kernel_rfl, fun X hX => Or.inl ?_⟩) (by assumption) ?_
        rotate_left
        · first | (go_simp; done) | (go_simp; with_reducible rfl)
        (try simp only [Act.put]); (try simp only [List.setIfInBounds_toArray]); (try simp only [List.set_cons_succ]); (try simp only [List.set_cons_zero])
        refine takeD (i := 7) (d := some 6) (v := ?_) rfl (by kernel_rfl) (by kernel_rfl) (by kernel_rfl) (by kernel_rfl) (fun _ _ _ h => h) (Or.inl ⟨by kernel_rfl, fun X hX => Or.inl ?_⟩) (by assumption) ?_
        rotate_left
        · first | (go_simp; done) | (go_simp; with_reducible rfl)
        (try simp only [Act.put]); (try simp only [List.setIfInBounds_toArray]); (try simp only [List.set_cons_succ]); (try simp only [List.set_cons_zero])
        refine wpAnyH_done (by kernel_rfl) ?_ _
        clear hHeld
        go_wp2
        exact bodyPost_ret (results_cell3 rfl rfl rfl rfl HSV.out) rfl ⟨L2, rfl, HDB.out, HFZ.out⟩
    · rw [if_pos (by kernel_rfl)]
      go_simp
      obtain ⟨k5, hk5⟩ : ∃ k, k = V13.heap.size := ⟨_, rfl⟩
      rw [← hk5]
      refine K_world (K := K) (fun Y => Fr No V13 Y ∧ Blk Y k5 59 [.int .i64 (x.f : Int), .int .i64 (x.t : Int), .int .u64 (x.n : Int), .bool (x.need 0), .bool (x.need 1), .bool (x.need 2), .bool (x.need 3), .bool x.lists, .bool x.acted, .bool x.over, .int .i64 x.e, tov]) ⟨by first | exact (Fr.refl No V13).alloc _ | exact ((Fr.refl No V13).alloc _).drew, by rw [hk5]; exact Blk.new V13 59 _⟩ ?_
      rintro V21 ⟨hf, he⟩
      have FV21 := Lib.hid (FV13.out.trans hf)
      have BV21 := Lib.hid he
      clear hf he hk5
      refine hK.out _ _ ((FV21.out.mono (fun _ _ e => e.elim))) (fun hHeld => ?_)
      clear hK K
      (try simp only [Act.put]); (try simp only [List.setIfInBounds_toArray]); (try simp only [List.set_cons_succ]); (try simp only [List.set_cons_zero])
      refine wpAnyH_ready (rs := [0]) (by kernel_rfl) (by simp) ?_
      refine AllReadyH.cons rfl (fun K hK => ?_) AllReadyH.nil
      rw [if_pos (by kernel_rfl)]
      go_simp
      obtain ⟨k0, hk0⟩ : ∃ k, k = V21.heap.size := ⟨_, rfl⟩
      rw [← hk0]
      refine K_world (K := K) (fun Y => Fr No V21 Y ∧ Y.ownsRow X.heap.size 59 12 (.slice (some ⟨k0, 0, none⟩) 0 0) 0 []) ⟨by first | exact (Fr.refl No V21).alloc _ | exact ((Fr.refl No V21).alloc _).drew, by rw [hk0]; exact World.ownsRow_made V21 #[] 0 FV21.out.size (Nat.zero_le _) rfl⟩ ?_
      rintro V22 ⟨hf, he⟩
      have FV22 := Lib.hid (FV21.out.trans hf)
      have BV22 := Lib.hid (BV21.out.fr hf id)
      have EV22 := Lib.hid he
      have HN05 : Hid (k0 ≠ k5) := Lib.hid (by have := BV21.out.lt; omega)
      clear hf he hk0
      refine hK.out _ _ ((FV22.out.mono (fun _ _ e => e.elim))) (fun hHeld => ?_)
      clear hK K
      (try simp only [Act.put]); (try simp only [List.setIfInBounds_toArray]); (try simp only [List.set_cons_succ]); (try simp only [List.set_cons_zero])
      refine wpAnyH_ready (rs := [3]) (by kernel_rfl) (by simp) ?_
      refine AllReadyH.cons rfl (fun K hK => ?_) AllReadyH.nil
      rw [if_pos (by kernel_rfl)]
      obtain ⟨v3, V23, ha, ho, hf⟩ := app_any 33 59 33 i0 _ 12 64 Try.underlying33 hi0 hz0 hz1 hz2 rfl (by decide) (by decide) EV22.out (HD.out.row.no (HX.out.fr.trans FV22.out)) HD.out.tz HFL.out.1 HFL.out.2 (by have := HN32.out; omega) FV22.out.size
      have ho2 : V23.ownsRow X.heap.size 59 12 v3 n (flatX ps) := by simpa using ho
      obtain ⟨a3, c3, rfl⟩ := own_slice ho2
      refine wp_append10 (.tmp 12) (.tmp 14) 33 rfl _ _ _ rfl rfl ha ?_
      have FV23 := Lib.hid (FV22.out.trans' hf (fun k hk e => by have := (EV22.out.lt k e).1; omega))
      have AV23 := Lib.hid ho2
      have BV23 := Lib.hid (BV22.out.fr hf (fun e => HN05.out (by injection e)))
      clear ha ho ho2 hf
      refine hK.out _ _ ((FV23.out.mono (fun _ _ e => e.elim))) (fun hHeld => ?_)
      clear hK K
      (try simp only [Act.put]); (try simp only [List.setIfInBounds_toArray]); (try simp only [List.set_cons_succ]); (try simp only [List.set_cons_zero])
      refine wpAnyH_ready (rs := [6]) (by kernel_rfl) (by simp) ?_
      refine AllReadyH.cons rfl (fun K hK => ?_) AllReadyH.nil
      rw [if_pos (by kernel_rfl)]
      obtain ⟨v6, V24, ha, ho, hf⟩ := app_any 33 59 33 i0 _ 12 64 Try.underlying33 hi0 hz0 hz1 hz2 rfl (by decide) (by decide) AV23.out (ao := some ⟨k5, 0, none⟩) (m := 1) (c := 1) (ys := cellsX x tov) (fun j u hu => ⟨k5, rfl, BV23.out.cell hu⟩) (fun e => by cases e) rfl HX1.out (by have := HN32.out; omega) FV23.out.size
      obtain ⟨a6, c6, rfl⟩ := own_slice ho
      refine wp_append10 (.tmp 15) (.tmp 17) 33 rfl _ _ _ rfl rfl ha ?_
      have FV24 := Lib.hid (FV23.out.trans' hf (fun k hk e => by have := (AV23.out.lt k e).1; omega))
      have HO6 := Lib.hid ho
      clear ha ho hf
      refine hK.out _ _ ((FV24.out.mono (fun _ _ e => e.elim))) (fun hHeld => ?_)
      clear hK K
      (try simp only [Act.put]); (try simp only [List.setIfInBounds_toArray]); (try simp only [List.set_cons_succ]); (try simp only [List.set_cons_zero])
      refine takeD (i := 7) (d := some 19) (v := ?_) rfl (by kernel_rfl) (by kernel_rfl) (by kernel_rfl) (by kernel_rfl) (fun _ _ _ h => h) (Or.inl ⟨by kernel_rfl, fun X hX => Or.inl ?_⟩) (by assumption) ?_
      rotate_left
      · first | (go_simp; done) | (go_simp; with_reducible rfl)
      (try simp only [Act.put]); (try simp only [List.setIfInBounds_toArray]); (try simp only [List.set_cons_succ]); (try simp only [List.set_cons_zero])
      refine wpAnyH_ready (rs := [8]) (by kernel_rfl) (by simp) ?_
      refine AllReadyH.cons rfl (fun K hK => ?_) AllReadyH.nil
      rw [if_pos (by kernel_rfl)]
      have c := (HX.out.box.fr FV24.out id).cell HC65.out
      have c2 := (HX.out.box.fr FV24.out id).frozen 65
      go_simp
      clear c c2
      refine hK.out _ _ (fr_cellq (FV24.out.mono (fun _ _ e => e.elim)) _) (fun hHeld => ?_)
      clear hK K
      (try simp only [Act.put]); (try simp only [List.setIfInBounds_toArray]); (try simp only [List.set_cons_succ]); (try simp only [List.set_cons_zero])
      refine wpAnyH_done (by kernel_rfl) ?_ _
      clear hHeld
      obtain ⟨n1, hn1⟩ : ∃ k, k = n + 1 := ⟨_, rfl⟩
      rw [← hn1] at HO6 ⊢
      have HN1 := Lib.hid hn1
      obtain ⟨hk2, hf2⟩ := (HX.out.on FV24.out).set 65 (.slice a6 n1 c6)
      rw [HSET.out] at hk2
      obtain ⟨L2, hL2⟩ : ∃ L2, L2 = cellsK pa s.p.b.length pc s.p.h (.slice a6 n1 c6) s.hold (.slice da s.done.length dc) := ⟨_, rfl⟩
      rw [← hL2] at hk2
      obtain ⟨X2, hX2⟩ : ∃ Y, Y = V24.setCell ⟨q, 65, none⟩ (.slice a6 n1 c6) := ⟨_, rfl⟩
      rw [← hX2] at hk2 hf2 ⊢
      have HL2 : Hid (L2.length = 71) := Lib.hid (by rw [hL2]; exact cellsK_len HW.out.hl)
      have HLD2 : Hid (∀ Y, Fr (· = c) X2 Y → (Instr.loadAt 37 (.pointer (some ⟨q, 0, none⟩))).run Try.prog Y = .ok (.agg L2.toArray) Y) := Lib.hid (fun Y hY => load_rk (hk2.box.fr hY hk2.qc) HL2.out)
      have HLT2 : Hid (∀ Y, Fr (· = c) X2 Y → (Instr.loadAt 33 (.pointer (some ⟨q, 65, none⟩))).run Try.prog Y = .ok (.slice a6 n1 c6) Y) := Lib.hid (fun Y hY => by
        have := (hk2.box.fr hY hk2.qc).cell (i := 65) (v := .slice a6 n1 c6) (by rw [hL2]; exact cellsK_hi HW.out.hl 0)
        simp [go_sem, this])
      obtain ⟨Z, hZ, hZv, hZF, hZc⟩ := (hk2.on (Fr.refl No X2).drew).put (by rfl) HL2.out (by rw [hL2]; exact cellsK_one rfl rfl)
      have HST := Lib.hid hZ
      have HSV := Lib.hid hZv
      have HFZ := Lib.hid hZF
      have HZC : Hid (Fr (· = c) X2 Z) := Lib.hid ((Fr.refl _ X2).drew.trans hZc)
      have HDB : Hid (DB S (s.add1 x) L2 Z) := Lib.hid (by
        obtain ⟨ao, cc, he, hrow, hz⟩ := RowA.own HO6.out
        injection he with e1 e2 e3
        subst e1
        subst e3
        have hlo : ∀ g, a6 = some ⟨g, 0, none⟩ → X.heap.size ≤ g := fun g e => (HO6.out.lt g (by rw [e]; rfl)).1
        have hq1 := HX.out.box.lt
        have hc1 := HX.out.res.lt
        have hxs := HX.out.fr.size
        refine ⟨pa, pc, a6, c6, da, dc, ps ++ [(x, tov)], fun Z2 fz => ?_⟩
        have fw : Fr S w Z2 := (HFZ.out.mono (fun _ _ e => e.elim)).trans fz
        have hkz := HKK.out Z2 fw
        refine ⟨?_, hkz.pur, by rw [List.map_append, hkz.tks]; rfl, ?_, ?_, hkz.done, hz, hkz.dz⟩
        · rw [hL2, hn1, HNN.out]
          show _ = cellsK _ _ _ _ (.slice a6 (s.t ++ [x]).length c6) _ _
          rw [List.length_append]
          rfl
        · rw [flatX_app]
          have h9 := ((hrow.fr hf2 (fun g e => by have := hlo g e; omega)).fr HZC.out (fun g e => by have := hlo g e; omega)).fr fz (fun g e hs => by have := hlo g e; have := HSS.out g hs; omega)
          simpa [flatX] using h9
        · intro y hy
          rcases List.mem_append.1 hy with hy | hy
          · exact hkz.told y hy
          · obtain rfl : y = (x, tov) := by simpa using hy
            exact HTA.out Z2 fw)
      have s1 : (n1 : Int) - 1 = (n : Int) := by omega
      have l1 : IntKind.i64.wrap (n : Int) = (n : Int) := IntWalk.i64_in _ (by have := HN32.out; omega)
      clear hk2 hf2 hX2 hL2 hZ hZv hZF hZc hn1
      go_wp2_with fail
      refine wp_region_held_drew (S := (fun Y => Fr (· = c) X2 Y)) (by kernel_rfl) ((Fr.refl _ X2).drew) (fun hHeld => ?_)
      refine takeD (i := 0) (d := some 20) (v := .agg L2.toArray) rfl (by kernel_rfl) (by kernel_rfl) (by kernel_rfl) (by kernel_rfl) (fun _ _ _ h => h) (Or.inl ⟨by kernel_rfl, fun X hX => Or.inl (exec_load 37 (.tmp 2) rfl _ _ rfl (HLD2.out X hX))⟩) (by assumption) ?_
      (try simp only [Act.put]); (try simp only [List.setIfInBounds_toArray]); (try simp only [List.set_cons_succ]); (try simp only [List.set_cons_zero])
      refine takeD (i := 1) (d := some 21) (v := ?_) rfl (by kernel_rfl) (by kernel_rfl) (by kernel_rfl) (by kernel_rfl) (fun _ _ _ h => h) (Or.inl ⟨by kernel_rfl, fun X hX => Or.inl ?_⟩) (by assumption) ?_
      rotate_left
      · first | (go_simp; done) | (go_simp; with_reducible rfl)
      (try simp only [Act.put]); (try simp only [List.setIfInBounds_toArray]); (try simp only [List.set_cons_succ]); (try simp only [List.set_cons_zero])
      refine takeD (i := 2) (d := some 22) (v := .slice a6 n1 c6) rfl (by kernel_rfl) (by kernel_rfl) (by kernel_rfl) (by kernel_rfl) (fun _ _ _ h => h) (Or.inl ⟨by kernel_rfl, fun X hX => Or.inl (exec_load 33 (.tmp 21) rfl _ _ rfl (HLT2.out X hX))⟩) (by assumption) ?_
      (try simp only [Act.put]); (try simp only [List.setIfInBounds_toArray]); (try simp only [List.set_cons_succ]); (try simp only [List.set_cons_zero])
      refine takeD (i := 3) (d := some 23) (v := ?_) rfl (by kernel_rfl) (by kernel_rfl) (by kernel_rfl) (by kernel_rfl) (fun _ _ _ h => h) (Or.inl ⟨by kernel_rfl, fun X hX => Or.inl ?_⟩) (by assumption) ?_
      rotate_left
      · first | (go_simp; done) | (go_simp; with_reducible rfl)
      (try simp only [Act.put]); (try simp only [List.setIfInBounds_toArray]); (try simp only [List.set_cons_succ]); (try simp only [List.set_cons_zero])
      refine takeD (i := 4) (d := some 24) (v := ?_) rfl (by kernel_rfl) (by kernel_rfl) (by kernel_rfl) (by kernel_rfl) (fun _ _ _ h => h) (Or.inl ⟨by kernel_rfl, fun X hX => Or.inl ?_⟩) (by assumption) ?_
      rotate_left
      · first | (go_simp; done) | (go_simp; with_reducible rfl)
      (try simp only [Act.put]); (try simp only [List.setIfInBounds_toArray]); (try simp only [List.set_cons_succ]); (try simp only [List.set_cons_zero])
      refine wpAnyH_ready (rs := [5]) (by kernel_rfl) (by simp) ?_
      refine AllReadyH.cons rfl (fun K hK => ?_) AllReadyH.nil
      rw [if_pos (by kernel_rfl)]
      refine wpO_store 37 (.tmp 4) (.tmp 20) rfl (.pointer (some ⟨c, 0, none⟩)) (.agg L2.toArray) rfl rfl HST.out ?_
      refine hK.out _ _ (HZC.out) (fun hHeld => ?_)
      clear hK K
      (try simp only [Act.put]); (try simp only [List.setIfInBounds_toArray]); (try simp only [List.set_cons_succ]); (try simp only [List.set_cons_zero])
      refine takeD (i := 6) (d := some 5) (v := ?_) rfl (by kernel_rfl) (by kernel_rfl) (by kernel_rfl) (by kernel_rfl) (fun _ _ _ h => h) (Or.inl ⟨by kernel_rfl, fun X hX => Or.inl ?_⟩) (by assumption) ?_
      rotate_left
      · first | (go_simp; done) | (go_simp; with_reducible rfl)
      (try simp only [Act.put]); (try simp only [List.setIfInBounds_toArray]); (try simp only [List.set_cons_succ]); (try simp only [List.set_cons_zero])
      refine takeD (i := 7) (d := some 6) (v := ?_) rfl (by kernel_rfl) (by kernel_rfl) (by kernel_rfl) (by kernel_rfl) (fun _ _ _ h => h) (Or.inl ⟨by kernel_rfl, fun X hX => Or.inl ?_⟩) (by assumption) ?_
      rotate_left
      · first | (go_simp; done) | (go_simp; with_reducible rfl)
      (try simp only [Act.put]); (try simp only [List.setIfInBounds_toArray]); (try simp only [List.set_cons_succ]); (try simp only [List.set_cons_zero])
      refine wpAnyH_done (by kernel_rfl) ?_ _
      clear hHeld
      go_wp2
      exact bodyPost_ret (results_cell3 rfl rfl rfl rfl HSV.out) rfl ⟨L2, rfl, HDB.out, HFZ.out⟩
  · rw [if_pos (by kernel_rfl)]
    go_simp
    obtain ⟨k5, hk5⟩ : ∃ k, k = X.heap.size := ⟨_, rfl⟩
    rw [← hk5]
    refine K_world (K := K) (fun Y => Fr No X Y ∧ Blk Y k5 59 [.int .i64 (x.f : Int), .int .i64 (x.t : Int), .int .u64 (x.n : Int), .bool (x.need 0), .bool (x.need 1), .bool (x.need 2), .bool (x.need 3), .bool x.lists, .bool x.acted, .bool x.over, .int .i64 x.e, tov]) ⟨by first | exact (Fr.refl No X).alloc _ | exact ((Fr.refl No X).alloc _).drew, by rw [hk5]; exact Blk.new X 59 _⟩ ?_
    rintro V25 ⟨hf, he⟩
    have FV25 := Lib.hid (FX.out.trans hf)
    have BV25 := Lib.hid he
    clear hf he hk5
    refine hK.out _ _ ((FV25.out.mono (fun _ _ e => e.elim))) (fun hHeld => ?_)
    clear hK K
    (try simp only [Act.put]); (try simp only [List.setIfInBounds_toArray]); (try simp only [List.set_cons_succ]); (try simp only [List.set_cons_zero])
    refine wpAnyH_ready (rs := [0, 2]) (by kernel_rfl) (by simp) ?_
    refine (AllReadyH.cons rfl (fun K hK => ?_) (AllReadyH.cons rfl (fun K hK => ?_) AllReadyH.nil))
    · rw [if_pos (by kernel_rfl)]
      go_simp
      obtain ⟨k0, hk0⟩ : ∃ k, k = V25.heap.size := ⟨_, rfl⟩
      rw [← hk0]
      refine K_world (K := K) (fun Y => Fr No V25 Y ∧ Y.ownsRow X.heap.size 59 12 (.slice (some ⟨k0, 0, none⟩) 0 0) 0 []) ⟨by first | exact (Fr.refl No V25).alloc _ | exact ((Fr.refl No V25).alloc _).drew, by rw [hk0]; exact World.ownsRow_made V25 #[] 0 FV25.out.size (Nat.zero_le _) rfl⟩ ?_
      rintro V26 ⟨hf, he⟩
      have FV26 := Lib.hid (FV25.out.trans hf)
      have BV26 := Lib.hid (BV25.out.fr hf id)
      have EV26 := Lib.hid he
      have HN05 : Hid (k0 ≠ k5) := Lib.hid (by have := BV25.out.lt; omega)
      clear hf he hk0
      refine hK.out _ _ ((FV26.out.mono (fun _ _ e => e.elim))) (fun hHeld => ?_)
      clear hK K
      (try simp only [Act.put]); (try simp only [List.setIfInBounds_toArray]); (try simp only [List.set_cons_succ]); (try simp only [List.set_cons_zero])
      refine wpAnyH_ready (rs := [2]) (by kernel_rfl) (by simp) ?_
      refine AllReadyH.cons rfl (fun K hK => ?_) AllReadyH.nil
      rw [if_pos (by kernel_rfl)]
      have cA := (HX.out.box.fr FV26.out id).cell HC65.out
      have cB := (HX.out.box.fr FV26.out.drew id).cell HC65.out
      go_simp
      clear cA cB
      refine K_world (K := K) (fun Y => Fr No V26 Y) (by first | exact Fr.refl No V26 | exact (Fr.refl No V26).drew) ?_
      rintro V27 hf
      have FV27 := Lib.hid (FV26.out.trans hf)
      have EV27 := Lib.hid (owns_fr EV26.out hf (fun _ _ => id))
      have BV27 := Lib.hid (BV26.out.fr hf id)
      clear hf
      refine hK.out _ _ ((FV27.out.mono (fun _ _ e => e.elim))) (fun hHeld => ?_)
      clear hK K
      (try simp only [Act.put]); (try simp only [List.setIfInBounds_toArray]); (try simp only [List.set_cons_succ]); (try simp only [List.set_cons_zero])
      refine wpAnyH_ready (rs := [3]) (by kernel_rfl) (by simp) ?_
      refine AllReadyH.cons rfl (fun K hK => ?_) AllReadyH.nil
      rw [if_pos (by kernel_rfl)]
      obtain ⟨v3, V28, ha, ho, hf⟩ := app_any 33 59 33 i0 _ 12 64 Try.underlying33 hi0 hz0 hz1 hz2 rfl (by decide) (by decide) EV27.out (HD.out.row.no (HX.out.fr.trans FV27.out)) HD.out.tz HFL.out.1 HFL.out.2 (by have := HN32.out; omega) FV27.out.size
      have ho2 : V28.ownsRow X.heap.size 59 12 v3 n (flatX ps) := by simpa using ho
      obtain ⟨a3, c3, rfl⟩ := own_slice ho2
      refine wp_append10 (.tmp 12) (.tmp 14) 33 rfl _ _ _ rfl rfl ha ?_
      have FV28 := Lib.hid (FV27.out.trans' hf (fun k hk e => by have := (EV27.out.lt k e).1; omega))
      have AV28 := Lib.hid ho2
      have BV28 := Lib.hid (BV27.out.fr hf (fun e => HN05.out (by injection e)))
      clear ha ho ho2 hf
      refine hK.out _ _ ((FV28.out.mono (fun _ _ e => e.elim))) (fun hHeld => ?_)
      clear hK K
      (try simp only [Act.put]); (try simp only [List.setIfInBounds_toArray]); (try simp only [List.set_cons_succ]); (try simp only [List.set_cons_zero])
      refine wpAnyH_ready (rs := [6]) (by kernel_rfl) (by simp) ?_
      refine AllReadyH.cons rfl (fun K hK => ?_) AllReadyH.nil
      rw [if_pos (by kernel_rfl)]
      obtain ⟨v6, V29, ha, ho, hf⟩ := app_any 33 59 33 i0 _ 12 64 Try.underlying33 hi0 hz0 hz1 hz2 rfl (by decide) (by decide) AV28.out (ao := some ⟨k5, 0, none⟩) (m := 1) (c := 1) (ys := cellsX x tov) (fun j u hu => ⟨k5, rfl, BV28.out.cell hu⟩) (fun e => by cases e) rfl HX1.out (by have := HN32.out; omega) FV28.out.size
      obtain ⟨a6, c6, rfl⟩ := own_slice ho
      refine wp_append10 (.tmp 15) (.tmp 17) 33 rfl _ _ _ rfl rfl ha ?_
      have FV29 := Lib.hid (FV28.out.trans' hf (fun k hk e => by have := (AV28.out.lt k e).1; omega))
      have HO6 := Lib.hid ho
      clear ha ho hf
      refine hK.out _ _ ((FV29.out.mono (fun _ _ e => e.elim))) (fun hHeld => ?_)
      clear hK K
      (try simp only [Act.put]); (try simp only [List.setIfInBounds_toArray]); (try simp only [List.set_cons_succ]); (try simp only [List.set_cons_zero])
      refine takeD (i := 7) (d := some 19) (v := ?_) rfl (by kernel_rfl) (by kernel_rfl) (by kernel_rfl) (by kernel_rfl) (fun _ _ _ h => h) (Or.inl ⟨by kernel_rfl, fun X hX => Or.inl ?_⟩) (by assumption) ?_
      rotate_left
      · first | (go_simp; done) | (go_simp; with_reducible rfl)
      (try simp only [Act.put]); (try simp only [List.setIfInBounds_toArray]); (try simp only [List.set_cons_succ]); (try simp only [List.set_cons_zero])
      refine wpAnyH_ready (rs := [8]) (by kernel_rfl) (by simp) ?_
      refine AllReadyH.cons rfl (fun K hK => ?_) AllReadyH.nil
      rw [if_pos (by kernel_rfl)]
      have c := (HX.out.box.fr FV29.out id).cell HC65.out
      have c2 := (HX.out.box.fr FV29.out id).frozen 65
      go_simp
      clear c c2
      refine hK.out _ _ (fr_cellq (FV29.out.mono (fun _ _ e => e.elim)) _) (fun hHeld => ?_)
      clear hK K
      (try simp only [Act.put]); (try simp only [List.setIfInBounds_toArray]); (try simp only [List.set_cons_succ]); (try simp only [List.set_cons_zero])
      refine wpAnyH_done (by kernel_rfl) ?_ _
      clear hHeld
      obtain ⟨n1, hn1⟩ : ∃ k, k = n + 1 := ⟨_, rfl⟩
      rw [← hn1] at HO6 ⊢
      have HN1 := Lib.hid hn1
      obtain ⟨hk2, hf2⟩ := (HX.out.on FV29.out).set 65 (.slice a6 n1 c6)
      rw [HSET.out] at hk2
      obtain ⟨L2, hL2⟩ : ∃ L2, L2 = cellsK pa s.p.b.length pc s.p.h (.slice a6 n1 c6) s.hold (.slice da s.done.length dc) := ⟨_, rfl⟩
      rw [← hL2] at hk2
      obtain ⟨X2, hX2⟩ : ∃ Y, Y = V29.setCell ⟨q, 65, none⟩ (.slice a6 n1 c6) := ⟨_, rfl⟩
      rw [← hX2] at hk2 hf2 ⊢
      have HL2 : Hid (L2.length = 71) := Lib.hid (by rw [hL2]; exact cellsK_len HW.out.hl)
      have HLD2 : Hid (∀ Y, Fr (· = c) X2 Y → (Instr.loadAt 37 (.pointer (some ⟨q, 0, none⟩))).run Try.prog Y = .ok (.agg L2.toArray) Y) := Lib.hid (fun Y hY => load_rk (hk2.box.fr hY hk2.qc) HL2.out)
      have HLT2 : Hid (∀ Y, Fr (· = c) X2 Y → (Instr.loadAt 33 (.pointer (some ⟨q, 65, none⟩))).run Try.prog Y = .ok (.slice a6 n1 c6) Y) := Lib.hid (fun Y hY => by
        have := (hk2.box.fr hY hk2.qc).cell (i := 65) (v := .slice a6 n1 c6) (by rw [hL2]; exact cellsK_hi HW.out.hl 0)
        simp [go_sem, this])
      obtain ⟨Z, hZ, hZv, hZF, hZc⟩ := (hk2.on (Fr.refl No X2).drew).put (by rfl) HL2.out (by rw [hL2]; exact cellsK_one rfl rfl)
      have HST := Lib.hid hZ
      have HSV := Lib.hid hZv
      have HFZ := Lib.hid hZF
      have HZC : Hid (Fr (· = c) X2 Z) := Lib.hid ((Fr.refl _ X2).drew.trans hZc)
      have HDB : Hid (DB S (s.add1 x) L2 Z) := Lib.hid (by
        obtain ⟨ao, cc, he, hrow, hz⟩ := RowA.own HO6.out
        injection he with e1 e2 e3
        subst e1
        subst e3
        have hlo : ∀ g, a6 = some ⟨g, 0, none⟩ → X.heap.size ≤ g := fun g e => (HO6.out.lt g (by rw [e]; rfl)).1
        have hq1 := HX.out.box.lt
        have hc1 := HX.out.res.lt
        have hxs := HX.out.fr.size
        refine ⟨pa, pc, a6, c6, da, dc, ps ++ [(x, tov)], fun Z2 fz => ?_⟩
        have fw : Fr S w Z2 := (HFZ.out.mono (fun _ _ e => e.elim)).trans fz
        have hkz := HKK.out Z2 fw
        refine ⟨?_, hkz.pur, by rw [List.map_append, hkz.tks]; rfl, ?_, ?_, hkz.done, hz, hkz.dz⟩
        · rw [hL2, hn1, HNN.out]
          show _ = cellsK _ _ _ _ (.slice a6 (s.t ++ [x]).length c6) _ _
          rw [List.length_append]
          rfl
        · rw [flatX_app]
          have h9 := ((hrow.fr hf2 (fun g e => by have := hlo g e; omega)).fr HZC.out (fun g e => by have := hlo g e; omega)).fr fz (fun g e hs => by have := hlo g e; have := HSS.out g hs; omega)
          simpa [flatX] using h9
        · intro y hy
          rcases List.mem_append.1 hy with hy | hy
          · exact hkz.told y hy
          · obtain rfl : y = (x, tov) := by simpa using hy
            exact HTA.out Z2 fw)
      have s1 : (n1 : Int) - 1 = (n : Int) := by omega
      have l1 : IntKind.i64.wrap (n : Int) = (n : Int) := IntWalk.i64_in _ (by have := HN32.out; omega)
      clear hk2 hf2 hX2 hL2 hZ hZv hZF hZc hn1
      go_wp2_with fail
      refine wp_region_held_drew (S := (fun Y => Fr (· = c) X2 Y)) (by kernel_rfl) ((Fr.refl _ X2).drew) (fun hHeld => ?_)
      refine takeD (i := 0) (d := some 20) (v := .agg L2.toArray) rfl (by kernel_rfl) (by kernel_rfl) (by kernel_rfl) (by kernel_rfl) (fun _ _ _ h => h) (Or.inl ⟨by kernel_rfl, fun X hX => Or.inl (exec_load 37 (.tmp 2) rfl _ _ rfl (HLD2.out X hX))⟩) (by assumption) ?_
      (try simp only [Act.put]); (try simp only [List.setIfInBounds_toArray]); (try simp only [List.set_cons_succ]); (try simp only [List.set_cons_zero])
      refine takeD (i := 1) (d := some 21) (v := ?_) rfl (by kernel_rfl) (by kernel_rfl) (by kernel_rfl) (by kernel_rfl) (fun _ _ _ h => h) (Or.inl ⟨by kernel_rfl, fun X hX => Or.inl ?_⟩) (by assumption) ?_
      rotate_left
      · first | (go_simp; done) | (go_simp; with_reducible rfl)
      (try simp only [Act.put]); (try simp only [List.setIfInBounds_toArray]); (try simp only [List.set_cons_succ]); (try simp only [List.set_cons_zero])
      refine takeD (i := 2) (d := some 22) (v := .slice a6 n1 c6) rfl (by kernel_rfl) (by kernel_rfl) (by kernel_rfl) (by kernel_rfl) (fun _ _ _ h => h) (Or.inl ⟨by kernel_rfl, fun X hX => Or.inl (exec_load 33 (.tmp 21) rfl _ _ rfl (HLT2.out X hX))⟩) (by assumption) ?_
      (try simp only [Act.put]); (try simp only [List.setIfInBounds_toArray]); (try simp only [List.set_cons_succ]); (try simp only [List.set_cons_zero])
      refine takeD (i := 3) (d := some 23) (v := ?_) rfl (by kernel_rfl) (by kernel_rfl) (by kernel_rfl) (by kernel_rfl) (fun _ _ _ h => h) (Or.inl ⟨by kernel_rfl, fun X hX => Or.inl ?_⟩) (by assumption) ?_
      rotate_left
      · first | (go_simp; done) | (go_simp; with_reducible rfl)
      (try simp only [Act.put]); (try simp only [List.setIfInBounds_toArray]); (try simp only [List.set_cons_succ]); (try simp only [List.set_cons_zero])
      refine takeD (i := 4) (d := some 24) (v := ?_) rfl (by kernel_rfl) (by kernel_rfl) (by kernel_rfl) (by kernel_rfl) (fun _ _ _ h => h) (Or.inl ⟨by kernel_rfl, fun X hX => Or.inl ?_⟩) (by assumption) ?_
      rotate_left
      · first | (go_simp; done) | (go_simp; with_reducible rfl)
      (try simp only [Act.put]); (try simp only [List.setIfInBounds_toArray]); (try simp only [List.set_cons_succ]); (try simp only [List.set_cons_zero])
      refine wpAnyH_ready (rs := [5]) (by kernel_rfl) (by simp) ?_
      refine AllReadyH.cons rfl (fun K hK => ?_) AllReadyH.nil
      rw [if_pos (by kernel_rfl)]
      refine wpO_store 37 (.tmp 4) (.tmp 20) rfl (.pointer (some ⟨c, 0, none⟩)) (.agg L2.toArray) rfl rfl HST.out ?_
      refine hK.out _ _ (HZC.out) (fun hHeld => ?_)
      clear hK K
      (try simp only [Act.put]); (try simp only [List.setIfInBounds_toArray]); (try simp only [List.set_cons_succ]); (try simp only [List.set_cons_zero])
      refine takeD (i := 6) (d := some 5) (v := ?_) rfl (by kernel_rfl) (by kernel_rfl) (by kernel_rfl) (by kernel_rfl) (fun _ _ _ h => h) (Or.inl ⟨by kernel_rfl, fun X hX => Or.inl ?_⟩) (by assumption) ?_
      rotate_left
      · first | (go_simp; done) | (go_simp; with_reducible rfl)
      (try simp only [Act.put]); (try simp only [List.setIfInBounds_toArray]); (try simp only [List.set_cons_succ]); (try simp only [List.set_cons_zero])
      refine takeD (i := 7) (d := some 6) (v := ?_) rfl (by kernel_rfl) (by kernel_rfl) (by kernel_rfl) (by kernel_rfl) (fun _ _ _ h => h) (Or.inl ⟨by kernel_rfl, fun X hX => Or.inl ?_⟩) (by assumption) ?_
      rotate_left
      · first | (go_simp; done) | (go_simp; with_reducible rfl)
      (try simp only [Act.put]); (try simp only [List.setIfInBounds_toArray]); (try simp only [List.set_cons_succ]); (try simp only [List.set_cons_zero])
      refine wpAnyH_done (by kernel_rfl) ?_ _
      clear hHeld
      go_wp2
      exact bodyPost_ret (results_cell3 rfl rfl rfl rfl HSV.out) rfl ⟨L2, rfl, HDB.out, HFZ.out⟩
    · rw [if_pos (by kernel_rfl)]
      have cA := (HX.out.box.fr FV25.out id).cell HC65.out
      have cB := (HX.out.box.fr FV25.out.drew id).cell HC65.out
      go_simp
      clear cA cB
      refine K_world (K := K) (fun Y => Fr No V25 Y) (by first | exact Fr.refl No V25 | exact (Fr.refl No V25).drew) ?_
      rintro V30 hf
      have FV30 := Lib.hid (FV25.out.trans hf)
      have BV30 := Lib.hid (BV25.out.fr hf id)
      clear hf
      refine hK.out _ _ ((FV30.out.mono (fun _ _ e => e.elim))) (fun hHeld => ?_)
      clear hK K
      (try simp only [Act.put]); (try simp only [List.setIfInBounds_toArray]); (try simp only [List.set_cons_succ]); (try simp only [List.set_cons_zero])
      refine wpAnyH_ready (rs := [0]) (by kernel_rfl) (by simp) ?_
      refine AllReadyH.cons rfl (fun K hK => ?_) AllReadyH.nil
      rw [if_pos (by kernel_rfl)]
      go_simp
      obtain ⟨k0, hk0⟩ : ∃ k, k = V30.heap.size := ⟨_, rfl⟩
      rw [← hk0]
      refine K_world (K := K) (fun Y => Fr No V30 Y ∧ Y.ownsRow X.heap.size 59 12 (.slice (some ⟨k0, 0, none⟩) 0 0) 0 []) ⟨by first | exact (Fr.refl No V30).alloc _ | exact ((Fr.refl No V30).alloc _).drew, by rw [hk0]; exact World.ownsRow_made V30 #[] 0 FV30.out.size (Nat.zero_le _) rfl⟩ ?_
      rintro V31 ⟨hf, he⟩
      have FV31 := Lib.hid (FV30.out.trans hf)
      have BV31 := Lib.hid (BV30.out.fr hf id)
      have EV31 := Lib.hid he
      have HN05 : Hid (k0 ≠ k5) := Lib.hid (by have := BV30.out.lt; omega)
      clear hf he hk0
      refine hK.out _ _ ((FV31.out.mono (fun _ _ e => e.elim))) (fun hHeld => ?_)
      clear hK K
      (try simp only [Act.put]); (try simp only [List.setIfInBounds_toArray]); (try simp only [List.set_cons_succ]); (try simp only [List.set_cons_zero])
      refine wpAnyH_ready (rs := [3]) (by kernel_rfl) (by simp) ?_
      refine AllReadyH.cons rfl (fun K hK => ?_) AllReadyH.nil
      rw [if_pos (by kernel_rfl)]
      obtain ⟨v3, V32, ha, ho, hf⟩ := app_any 33 59 33 i0 _ 12 64 Try.underlying33 hi0 hz0 hz1 hz2 rfl (by decide) (by decide) EV31.out (HD.out.row.no (HX.out.fr.trans FV31.out)) HD.out.tz HFL.out.1 HFL.out.2 (by have := HN32.out; omega) FV31.out.size
      have ho2 : V32.ownsRow X.heap.size 59 12 v3 n (flatX ps) := by simpa using ho
      obtain ⟨a3, c3, rfl⟩ := own_slice ho2
      refine wp_append10 (.tmp 12) (.tmp 14) 33 rfl _ _ _ rfl rfl ha ?_
      have FV32 := Lib.hid (FV31.out.trans' hf (fun k hk e => by have := (EV31.out.lt k e).1; omega))
      have AV32 := Lib.hid ho2
      have BV32 := Lib.hid (BV31.out.fr hf (fun e => HN05.out (by injection e)))
      clear ha ho ho2 hf
      refine hK.out _ _ ((FV32.out.mono (fun _ _ e => e.elim))) (fun hHeld => ?_)
      clear hK K
      (try simp only [Act.put]); (try simp only [List.setIfInBounds_toArray]); (try simp only [List.set_cons_succ]); (try simp only [List.set_cons_zero])
      refine wpAnyH_ready (rs := [6]) (by kernel_rfl) (by simp) ?_
      refine AllReadyH.cons rfl (fun K hK => ?_) AllReadyH.nil
      rw [if_pos (by kernel_rfl)]
      obtain ⟨v6, V33, ha, ho, hf⟩ := app_any 33 59 33 i0 _ 12 64 Try.underlying33 hi0 hz0 hz1 hz2 rfl (by decide) (by decide) AV32.out (ao := some ⟨k5, 0, none⟩) (m := 1) (c := 1) (ys := cellsX x tov) (fun j u hu => ⟨k5, rfl, BV32.out.cell hu⟩) (fun e => by cases e) rfl HX1.out (by have := HN32.out; omega) FV32.out.size
      obtain ⟨a6, c6, rfl⟩ := own_slice ho
      refine wp_append10 (.tmp 15) (.tmp 17) 33 rfl _ _ _ rfl rfl ha ?_
      have FV33 := Lib.hid (FV32.out.trans' hf (fun k hk e => by have := (AV32.out.lt k e).1; omega))
      have HO6 := Lib.hid ho
      clear ha ho hf
      refine hK.out _ _ ((FV33.out.mono (fun _ _ e => e.elim))) (fun hHeld => ?_)
      clear hK K
      (try simp only [Act.put]); (try simp only [List.setIfInBounds_toArray]); (try simp only [List.set_cons_succ]); (try simp only [List.set_cons_zero])
      refine takeD (i := 7) (d := some 19) (v := ?_) rfl (by kernel_rfl) (by kernel_rfl) (by kernel_rfl) (by kernel_rfl) (fun _ _ _ h => h) (Or.inl ⟨by kernel_rfl, fun X hX => Or.inl ?_⟩) (by assumption) ?_
      rotate_left
      · first | (go_simp; done) | (go_simp; with_reducible rfl)
      (try simp only [Act.put]); (try simp only [List.setIfInBounds_toArray]); (try simp only [List.set_cons_succ]); (try simp only [List.set_cons_zero])
      refine wpAnyH_ready (rs := [8]) (by kernel_rfl) (by simp) ?_
      refine AllReadyH.cons rfl (fun K hK => ?_) AllReadyH.nil
      rw [if_pos (by kernel_rfl)]
      have c := (HX.out.box.fr FV33.out id).cell HC65.out
      have c2 := (HX.out.box.fr FV33.out id).frozen 65
      go_simp
      clear c c2
      refine hK.out _ _ (fr_cellq (FV33.out.mono (fun _ _ e => e.elim)) _) (fun hHeld => ?_)
      clear hK K
      (try simp only [Act.put]); (try simp only [List.setIfInBounds_toArray]); (try simp only [List.set_cons_succ]); (try simp only [List.set_cons_zero])
      refine wpAnyH_done (by kernel_rfl) ?_ _
      clear hHeld
      obtain ⟨n1, hn1⟩ : ∃ k, k = n + 1 := ⟨_, rfl⟩
      rw [← hn1] at HO6 ⊢
      have HN1 := Lib.hid hn1
      obtain ⟨hk2, hf2⟩ := (HX.out.on FV33.out).set 65 (.slice a6 n1 c6)
      rw [HSET.out] at hk2
      obtain ⟨L2, hL2⟩ : ∃ L2, L2 = cellsK pa s.p.b.length pc s.p.h (.slice a6 n1 c6) s.hold (.slice da s.done.length dc) := ⟨_, rfl⟩
      rw [← hL2] at hk2
      obtain ⟨X2, hX2⟩ : ∃ Y, Y = V33.setCell ⟨q, 65, none⟩ (.slice a6 n1 c6) := ⟨_, rfl⟩
      rw [← hX2] at hk2 hf2 ⊢
      have HL2 : Hid (L2.length = 71) := Lib.hid (by rw [hL2]; exact cellsK_len HW.out.hl)
      have HLD2 : Hid (∀ Y, Fr (· = c) X2 Y → (Instr.loadAt 37 (.pointer (some ⟨q, 0, none⟩))).run Try.prog Y = .ok (.agg L2.toArray) Y) := Lib.hid (fun Y hY => load_rk (hk2.box.fr hY hk2.qc) HL2.out)
      have HLT2 : Hid (∀ Y, Fr (· = c) X2 Y → (Instr.loadAt 33 (.pointer (some ⟨q, 65, none⟩))).run Try.prog Y = .ok (.slice a6 n1 c6) Y) := Lib.hid (fun Y hY => by
        have := (hk2.box.fr hY hk2.qc).cell (i := 65) (v := .slice a6 n1 c6) (by rw [hL2]; exact cellsK_hi HW.out.hl 0)
        simp [go_sem, this])
      obtain ⟨Z, hZ, hZv, hZF, hZc⟩ := (hk2.on (Fr.refl No X2).drew).put (by rfl) HL2.out (by rw [hL2]; exact cellsK_one rfl rfl)
      have HST := Lib.hid hZ
      have HSV := Lib.hid hZv
      have HFZ := Lib.hid hZF
      have HZC : Hid (Fr (· = c) X2 Z) := Lib.hid ((Fr.refl _ X2).drew.trans hZc)
      have HDB : Hid (DB S (s.add1 x) L2 Z) := Lib.hid (by
        obtain ⟨ao, cc, he, hrow, hz⟩ := RowA.own HO6.out
        injection he with e1 e2 e3
        subst e1
        subst e3
        have hlo : ∀ g, a6 = some ⟨g, 0, none⟩ → X.heap.size ≤ g := fun g e => (HO6.out.lt g (by rw [e]; rfl)).1
        have hq1 := HX.out.box.lt
        have hc1 := HX.out.res.lt
        have hxs := HX.out.fr.size
        refine ⟨pa, pc, a6, c6, da, dc, ps ++ [(x, tov)], fun Z2 fz => ?_⟩
        have fw : Fr S w Z2 := (HFZ.out.mono (fun _ _ e => e.elim)).trans fz
        have hkz := HKK.out Z2 fw
        refine ⟨?_, hkz.pur, by rw [List.map_append, hkz.tks]; rfl, ?_, ?_, hkz.done, hz, hkz.dz⟩
        · rw [hL2, hn1, HNN.out]
          show _ = cellsK _ _ _ _ (.slice a6 (s.t ++ [x]).length c6) _ _
          rw [List.length_append]
          rfl
        · rw [flatX_app]
          have h9 := ((hrow.fr hf2 (fun g e => by have := hlo g e; omega)).fr HZC.out (fun g e => by have := hlo g e; omega)).fr fz (fun g e hs => by have := hlo g e; have := HSS.out g hs; omega)
          simpa [flatX] using h9
        · intro y hy
          rcases List.mem_append.1 hy with hy | hy
          · exact hkz.told y hy
          · obtain rfl : y = (x, tov) := by simpa using hy
            exact HTA.out Z2 fw)
      have s1 : (n1 : Int) - 1 = (n : Int) := by omega
      have l1 : IntKind.i64.wrap (n : Int) = (n : Int) := IntWalk.i64_in _ (by have := HN32.out; omega)
      clear hk2 hf2 hX2 hL2 hZ hZv hZF hZc hn1
      go_wp2_with fail
      refine wp_region_held_drew (S := (fun Y => Fr (· = c) X2 Y)) (by kernel_rfl) ((Fr.refl _ X2).drew) (fun hHeld => ?_)
      refine takeD (i := 0) (d := some 20) (v := .agg L2.toArray) rfl (by kernel_rfl) (by kernel_rfl) (by kernel_rfl) (by kernel_rfl) (fun _ _ _ h => h) (Or.inl ⟨by kernel_rfl, fun X hX => Or.inl (exec_load 37 (.tmp 2) rfl _ _ rfl (HLD2.out X hX))⟩) (by assumption) ?_
      (try simp only [Act.put]); (try simp only [List.setIfInBounds_toArray]); (try simp only [List.set_cons_succ]); (try simp only [List.set_cons_zero])
      refine takeD (i := 1) (d := some 21) (v := ?_) rfl (by kernel_rfl) (by kernel_rfl) (by kernel_rfl) (by kernel_rfl) (fun _ _ _ h => h) (Or.inl ⟨by kernel_rfl, fun X hX => Or.inl ?_⟩) (by assumption) ?_
      rotate_left
      · first | (go_simp; done) | (go_simp; with_reducible rfl)
      (try simp only [Act.put]); (try simp only [List.setIfInBounds_toArray]); (try simp only [List.set_cons_succ]); (try simp only [List.set_cons_zero])
      refine takeD (i := 2) (d := some 22) (v := .slice a6 n1 c6) rfl (by kernel_rfl) (by kernel_rfl) (by kernel_rfl) (by kernel_rfl) (fun _ _ _ h => h) (Or.inl ⟨by kernel_rfl, fun X hX => Or.inl (exec_load 33 (.tmp 21) rfl _ _ rfl (HLT2.out X hX))⟩) (by assumption) ?_
      (try simp only [Act.put]); (try simp only [List.setIfInBounds_toArray]); (try simp only [List.set_cons_succ]); (try simp only [List.set_cons_zero])
      refine takeD (i := 3) (d := some 23) (v := ?_) rfl (by kernel_rfl) (by kernel_rfl) (by kernel_rfl) (by kernel_rfl) (fun _ _ _ h => h) (Or.inl ⟨by kernel_rfl, fun X hX => Or.inl ?_⟩) (by assumption) ?_
      rotate_left
      · first | (go_simp; done) | (go_simp; with_reducible rfl)
      (try simp only [Act.put]); (try simp only [List.setIfInBounds_toArray]); (try simp only [List.set_cons_succ]); (try simp only [List.set_cons_zero])
      refine takeD (i := 4) (d := some 24) (v := ?_) rfl (by kernel_rfl) (by kernel_rfl) (by kernel_rfl) (by kernel_rfl) (fun _ _ _ h => h) (Or.inl ⟨by kernel_rfl, fun X hX => Or.inl ?_⟩) (by assumption) ?_
      rotate_left
      · first | (go_simp; done) | (go_simp; with_reducible rfl)
      (try simp only [Act.put]); (try simp only [List.setIfInBounds_toArray]); (try simp only [List.set_cons_succ]); (try simp only [List.set_cons_zero])
      refine wpAnyH_ready (rs := [5]) (by kernel_rfl) (by simp) ?_
      refine AllReadyH.cons rfl (fun K hK => ?_) AllReadyH.nil
      rw [if_pos (by kernel_rfl)]
      refine wpO_store 37 (.tmp 4) (.tmp 20) rfl (.pointer (some ⟨c, 0, none⟩)) (.agg L2.toArray) rfl rfl HST.out ?_
      refine hK.out _ _ (HZC.out) (fun hHeld => ?_)
      clear hK K
      (try simp only [Act.put]); (try simp only [List.setIfInBounds_toArray]); (try simp only [List.set_cons_succ]); (try simp only [List.set_cons_zero])
      refine takeD (i := 6) (d := some 5) (v := ?_) rfl (by kernel_rfl) (by kernel_rfl) (by kernel_rfl) (by kernel_rfl) (fun _ _ _ h => h) (Or.inl ⟨by kernel_rfl, fun X hX => Or.inl ?_⟩) (by assumption) ?_
      rotate_left
      · first | (go_simp; done) | (go_simp; with_reducible rfl)
      (try simp only [Act.put]); (try simp only [List.setIfInBounds_toArray]); (try simp only [List.set_cons_succ]); (try simp only [List.set_cons_zero])
      refine takeD (i := 7) (d := some 6) (v := ?_) rfl (by kernel_rfl) (by kernel_rfl) (by kernel_rfl) (by kernel_rfl) (fun _ _ _ h => h) (Or.inl ⟨by kernel_rfl, fun X hX => Or.inl ?_⟩) (by assumption) ?_
      rotate_left
      · first | (go_simp; done) | (go_simp; with_reducible rfl)
      (try simp only [Act.put]); (try simp only [List.setIfInBounds_toArray]); (try simp only [List.set_cons_succ]); (try simp only [List.set_cons_zero])
      refine wpAnyH_done (by kernel_rfl) ?_ _
      clear hHeld
      go_wp2
      exact bodyPost_ret (results_cell3 rfl rfl rfl rfl HSV.out) rfl ⟨L2, rfl, HDB.out, HFZ.out⟩
end Go.Proofs.Ytldcglmpnildiaa
