/- The program's Least. -/
import Derived.Test.YtnpgcgemifoddaaDoorShP
namespace Go.Proofs.YtnpgcgemifoddaaDoor
open Go.RowKit Go.Shelf
set_option linter.unusedVariables false
attribute [local go_sem] Oper.semAt_some

/-- The loop variable of a range over a shelf: a box of its own in each round. -/
theorem known_own {B : Nat} {x : Ent} {a' : Act} {f : Nat → Act} : OwnFrom B (fun (_ : Unit) W => ∃ q, B ≤ q ∧ Blk W q 29 x.cells ∧ a' = f q) := by
  rintro s A A' row ⟨q, h1, h2, h3⟩ hg hr
  exact ⟨q, h1, h2.grown hg (fun r e => (hr r e).2), h3⟩

theorem known_new (W : World) (x : Ent) : ∃ Y, (Instr.storeAt 29 (.pointer (some ⟨W.heap.size, 0, none⟩)) (.agg x.cells.toArray)).run Tryd.prog (W.alloc (.cells Ent.zero.cells.toArray 29)) = .ok () Y ∧
    Blk Y W.heap.size 29 x.cells ∧ Fr No W Y := by
  have hA := Blk.new W 29 Ent.zero.cells
  obtain ⟨Y, hY, hYB, hYF⟩ := hA.stored (P := Tryd.prog) (ty := 29) x.cells (by rw [x.size, Ent.size]) (by rw [x.size]; kernel_rfl) x.one
  exact ⟨Y, hY, hYB, ((Fr.refl No W).alloc _).trans' hYF (fun i hi h => by omega)⟩
theorem keeps_no {W W' : World} (h : Fr No W W') (B : Nat) : KeepsFrom B W W' := (Fr.keeps h (fun _ _ h => h.elim)).from B
theorem kps_no {W W' : World} (h : Fr No W W') (b : Nat) : KpS b W W' := fun o ho => (h.block b (Array.getElem?_eq_some_iff.1 ho).1 id).trans ho

set_option maxRecDepth 100000 in
set_option maxHeartbeats 2000000 in
theorem least_any (b : Nat) (L : List Ent) (w : World) (hB : Blk w b 32 (flat L)) (hL : L.length = 17) :
    Calls Tryd.prog 11 #[.pointer (some ⟨b, 0, none⟩)] w fun ex w' => ex = .returned (.tuple #[.int .i64 (leastI (leastN L)), .bool (leastB (leastN L))]) ∧ Fr No w w' := by
  obtain ⟨li, hli⟩ : ∃ li, li = leastI (leastN L) := ⟨_, rfl⟩
  obtain ⟨lb, hlb⟩ : ∃ lb, lb = leastB (leastN L) := ⟨_, rfl⟩
  rw [← hli, ← hlb]
  have HN : Hid (li = leastI (leastP (below L 17)) ∧ lb = leastB (leastP (below L 17))) := Lib.hid (by rw [below_all hL, leastP_filter]; exact ⟨hli, hlb⟩)
  clear hli hlb
  refine (callsIn_wide (n := 9)).1 ?_
  refine callsIn_of_wp_marks Tryd.func11 rfl trivial ?_ rfl
  simp only [Tryd.ntmps11, List.size_toArray, List.length_cons, List.length_nil, Nat.reduceAdd, Nat.reduceSub, Array.replicate_succ, Array.replicate_zero, List.push_toArray, List.append_toArray, List.nil_append, List.cons_append]
  gi_wp2_with (refine ⟨trivial, ?_⟩; gi_at_call 22; refine (callsIn_wide.2 (below_in _ _ _ b 17 rfl rfl)).mono ?_; rintro e w1 ⟨rfl, hF, hs, hci, hct⟩)
  have hpn := cell_new1 w (.int .i64 0) 3
  have hqn := cell_new1 (w.alloc (.cells #[.int .i64 0] 3)) (.bool false) 4
  rw [World.size_alloc] at hqn
  have hFa : Fr No (w.alloc (.cells #[.int .i64 0] 3)) ((w.alloc (.cells #[.int .i64 0] 3)).alloc (.cells #[.bool false] 4)) := (Fr.refl No _).alloc _
  have hF0 : Fr No w w1 := (((Fr.refl No w).alloc _).alloc _).trans hF
  have hp1 : w1.cell? ⟨w.heap.size, 0, none⟩ = some (.int .i64 0) := hF.cell id (hFa.cell id hpn.1)
  have hp2 : w1.frozen? ⟨w.heap.size, 0, none⟩ = false := (hF.frozen 0 (by simp; omega) id).trans ((hFa.frozen 0 (by simp) id).trans hpn.2)
  have hq1 : w1.cell? ⟨w.heap.size + 1, 0, none⟩ = some (.bool false) := hF.cell id hqn.1
  have hq2 : w1.frozen? ⟨w.heap.size + 1, 0, none⟩ = false := (hF.frozen 0 (by simp) id).trans hqn.2
  have hBw := hB.lt
  have hB1 := hB.fr hF0 id
  rw [World.size_alloc, World.size_alloc] at hci hct hs
  obtain ⟨p, hp⟩ : ∃ p, p = w.heap.size := ⟨_, rfl⟩
  rw [← hp] at hci hct hp1 hp2 hq1 hq2 hs hBw ⊢
  have HP := Lib.hid hp
  have HS : Hid (w.heap.size ≤ w1.heap.size) := Lib.hid (by omega)
  have HS2 := Lib.hid hs
  have HBP : Hid (b < p) := Lib.hid hBw
  clear hpn hqn hFa hF hp hB
  refine wpIn_rangeFunc_ownH rfl (by omega) (gf := 29) (lb := #[.pointer (some ⟨p + 1 + 1, 0, none⟩), .pointer (some ⟨p + 1 + 1 + 1, 0, none⟩)]) rfl trivial (enters_of Tryd.func29 (by kernel_rfl) rfl)
    (below_stops _ (by omega) b (p + 1 + 1) (p + 1 + 1 + 1) 17 L w1 (by omega) (by omega) (by omega) hci hct hB1 hL (Nat.le_refl _)) KpS.trans (KpS.book (by omega)) (Below.refl _ _) (fun _ => rfl)
    (fun pre W => ((W.cell? ⟨p, 0, none⟩ = some (.int .i64 (leastI (leastP pre))) ∧ W.frozen? ⟨p, 0, none⟩ = false) ∧ (W.cell? ⟨p + 1, 0, none⟩ = some (.bool (leastB (leastP pre))) ∧ W.frozen? ⟨p + 1, 0, none⟩ = false)) ∧ Fr No w W ∧ w1.heap.size ≤ W.heap.size)
    (fun _ _ _ => False)
    (fun s A B row hs hg hr => ⟨⟨⟨cell_kept hs.1.1.1 hg (fun r e => (hr r e).2), (frozen_kept hs.1.1.1 hg (fun r e => (hr r e).2)).trans hs.1.1.2⟩, ⟨cell_kept hs.1.2.1 hg (fun r e => (hr r e).2), (frozen_kept hs.1.2.1 hg (fun r e => (hr r e).2)).trans hs.1.2.2⟩⟩, fr_grown_far hs.2.1 hg HS.out hr, Nat.le_trans hs.2.2 hg.size⟩)
    (fun _ _ _ _ _ hs _ _ => hs)
    ⟨⟨⟨hp1, hp2⟩, ⟨hq1, hq2⟩⟩, hF0, Nat.le_refl _⟩
    (fun x a' W => ∃ q, w1.heap.size ≤ q ∧ Blk W q 29 x.cells ∧ a' = (fun q => ({ tmps := #[.pointer (some ⟨b, 0, none⟩), undef, .int .i64 0, .bool false, .pointer (some ⟨p, 0, none⟩), .pointer (some ⟨p + 1, 0, none⟩), .pointer (some ⟨q, 0, none⟩), .pointer (some ⟨b, 0, none⟩), .func (.func 29) #[] #[.pointer (some ⟨p + 1 + 1, 0, none⟩), .pointer (some ⟨p + 1 + 1 + 1, 0, none⟩)],
      .agg x.cells.toArray, undef, undef, undef, undef, undef, undef, undef, undef, undef, undef, undef, undef], defers := [] } : Act)) q) (fun x a' => known_own) ?assign ?body ?done ?stop
  case assign =>
    rintro l pre x W K ⟨⟨⟨h1, h2⟩, ⟨h3, h4⟩⟩, hFW, hsz⟩ hK
    obtain ⟨Y, hY, hYB, hYF⟩ := known_new W x
    have HY := Lib.hid hY
    clear hY
    gi_wp2_with (refine wpListIn_store_eq rfl 29 _ _ rfl (.pointer (some ⟨W.heap.size, 0, none⟩)) (.agg x.cells.toArray) rfl rfl HY.out ?_)
    exact hK _ _ (keeps_no hYF _) (kps_no hYF b) ⟨⟨⟨hYF.cell id h1, (hYF.frozen 0 (lt_cell h1) id).trans h2⟩, ⟨hYF.cell id h3, (hYF.frozen 0 (lt_cell h3) id).trans h4⟩⟩, hFW.trans hYF, Nat.le_trans hsz hYF.size⟩ ⟨_, hsz, hYB, rfl⟩
  case body =>
    rintro l pre x a' W hl - ⟨⟨⟨h1, h2⟩, ⟨h3, h4⟩⟩, hFW, hsz⟩ ⟨q, hq, hqB, rfl⟩ hlen
    have hx := x.hn
    have hm := leastP_le pre
    have hn := hqB.cell (i := 1) (v := .int .i64 (x.n : Int)) rfl
    have HE : Hid (leastP (pre ++ [x]) = lstP (leastP pre) x) := Lib.hid (leastP_snoc pre x)
    obtain ⟨m, hm0⟩ : ∃ m, m = leastP pre := ⟨_, rfl⟩
    obtain ⟨y, hy0⟩ : ∃ y, y = x.n := ⟨_, rfl⟩
    have HXN := Lib.hid hy0
    rw [← hm0] at h1 h3 HE hm
    rw [← hy0] at hn hx
    have HPQ : Hid (p + 1 < q) := Lib.hid (by have := HS2.out; omega)
    have HFW := Lib.hid hFW
    have HSZ := Lib.hid hsz
    have HFP : ∀ u v, KeepsFrom w1.heap.size W ((W.setCell ⟨p, 0, none⟩ u).setCell ⟨p + 1, 0, none⟩ v) := fun u v => ((KeepsOthers.setCell _ _ _).trans (KeepsOthers.setCell _ _ _)).from _
    have HKP : ∀ u v, KpS b W ((W.setCell ⟨p, 0, none⟩ u).setCell ⟨p + 1, 0, none⟩ v) := fun u v o ho => ((Below.heap_setCell _ _ _ _ (by show b ≠ p + 1; have := HBP.out; omega)).trans (Below.heap_setCell _ _ _ _ (by show b ≠ p; have := HBP.out; omega))).trans ho
    have HFR : ∀ u v, Fr No w ((W.setCell ⟨p, 0, none⟩ u).setCell ⟨p + 1, 0, none⟩ v) ∧ w1.heap.size ≤ ((W.setCell ⟨p, 0, none⟩ u).setCell ⟨p + 1, 0, none⟩ v).heap.size := fun u v =>
      ⟨(HFW.out.setCell (.inr (by show w.heap.size ≤ p; rw [← HP.out]; exact Nat.le_refl _)) _).setCell (.inr (by show w.heap.size ≤ p + 1; rw [← HP.out]; exact Nat.le_succ _)) _, by simpa [World.setCell] using HSZ.out⟩
    have HT : Hid ((y < m → lstP m x = y) ∧ (¬ y < m → lstP m x = m)) := Lib.hid ⟨fun h => by rw [lstP, ← hy0, if_pos h], fun h => by rw [lstP, ← hy0, if_neg h]⟩
    have HLY : Hid (leastI y = (y : Int) ∧ leastB y = true) := Lib.hid ⟨by rw [leastI, if_pos hx], by rw [leastB]; simpa using hx⟩
    clear hm0 hy0 hFW hsz hqB
    by_cases hmm : m < 65536
    · have hB0 : leastB m = true := by rw [leastB]; simpa using hmm
      have hI0 : leastI m = (m : Int) := by rw [leastI, if_pos hmm]
      rw [hB0] at h3
      rw [hI0] at h1
      by_cases hlt : y < m
      · have hd : (y : Int) < (m : Int) := by omega
        gi_wp2
        refine ⟨HFP _ _, HKP _ _, ⟨⟨?_, ?_⟩, ⟨?_, ?_⟩⟩, HFR _ _⟩
        · rw [HE.out, HT.out.1 hlt, HLY.out.1, World.cell?_of_block (w := W.setCell ⟨p, 0, none⟩ _) (a := ⟨p, 0, none⟩) (Below.heap_setCell _ _ _ _ (by show p ≠ p + 1; omega))]
          exact World.cell?_setCell_same' _ _ _ (by rw [h1]; rfl)
        · rw [World.frozen?_setCell, World.frozen?_setCell]; exact h2
        · rw [HE.out, HT.out.1 hlt, HLY.out.2]
          exact World.cell?_setCell_same' _ _ _ (by rw [World.cell?_of_block (w := W) (a := ⟨p + 1, 0, none⟩) (Below.heap_setCell _ _ _ _ (by show p + 1 ≠ p; omega)), h3]; rfl)
        · rw [World.frozen?_setCell, World.frozen?_setCell]; exact h4
      · have hd : decide (y < m) = false := by simpa using hlt
        gi_wp2
        exact ⟨KeepsFrom.refl _ _, fun o ho => ho, ⟨⟨by rw [HE.out, HT.out.2 hlt, hI0]; exact h1, h2⟩, ⟨by rw [HE.out, HT.out.2 hlt, hB0]; exact h3, h4⟩⟩, HFW.out, HSZ.out⟩
    · have hlt : y < m := by omega
      have hB0 : leastB m = false := by rw [leastB]; simpa using hmm
      rw [hB0] at h3
      gi_wp2
      refine ⟨HFP _ _, HKP _ _, ⟨⟨?_, ?_⟩, ⟨?_, ?_⟩⟩, HFR _ _⟩
      · rw [HE.out, HT.out.1 hlt, HLY.out.1, World.cell?_of_block (w := W.setCell ⟨p, 0, none⟩ _) (a := ⟨p, 0, none⟩) (Below.heap_setCell _ _ _ _ (by show p ≠ p + 1; omega))]
        exact World.cell?_setCell_same' _ _ _ (by rw [h1]; rfl)
      · rw [World.frozen?_setCell, World.frozen?_setCell]; exact h2
      · rw [HE.out, HT.out.1 hlt, HLY.out.2]
        exact World.cell?_setCell_same' _ _ _ (by rw [World.cell?_of_block (w := W) (a := ⟨p + 1, 0, none⟩) (Below.heap_setCell _ _ _ _ (by show p + 1 ≠ p; omega)), h3]; rfl)
      · rw [World.frozen?_setCell, World.frozen?_setCell]; exact h4
  case done =>
    rintro D ys W hD rfl ⟨⟨⟨h1, _⟩, ⟨h3, _⟩⟩, hFW, _⟩ hK
    rw [← HN.out.1] at h1
    rw [← HN.out.2] at h3
    gi_wp2
    gi_region
    gi_wp2
    refine ⟨by simp, .inl ⟨_, _, rfl, run_takeDeferred (w := W.drew) hK, ?_⟩⟩
    exact ⟨_, results_tmp2 rfl _ _ _, rfl, fr_grown_far hFW.drew (grownBy_putObj' W.drew D (.deferred none)) HS.out (fun r e => by cases e; exact ⟨hD, _, hK, rfl⟩)⟩
  case stop =>
    rintro D c pre W _ _ h _
    exact h.elim
end Go.Proofs.YtnpgcgemifoddaaDoor
