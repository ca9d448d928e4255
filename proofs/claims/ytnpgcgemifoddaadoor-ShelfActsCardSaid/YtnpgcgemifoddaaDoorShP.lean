/- The program's Len and Least. -/
import Derived.Test.YtnpgcgemifoddaaDoorShI
namespace Go.Proofs.YtnpgcgemifoddaaDoor
open Go.RowKit Go.Shelf
set_option linter.unusedVariables false
attribute [local go_sem] Oper.semAt_some

theorem below_all {L : List Ent} (hL : L.length = 17) : below L 17 = L.filter (·.has) := by
  unfold below
  rw [← hL, List.take_length]

set_option maxRecDepth 100000 in
set_option maxHeartbeats 2000000 in
theorem len_any (b : Nat) (L : List Ent) (w : World) (hB : Blk w b 32 (flat L)) (hL : L.length = 17) :
    Calls Tryd.prog 13 #[.pointer (some ⟨b, 0, none⟩)] w fun ex w' => ex = .returned (.int .i64 (lenN L : Int)) ∧ Fr No w w' := by
  have HN : Hid (lenN L = (below L 17).length) := Lib.hid (by rw [lenN_filter, below_all hL])
  have HN2 : Hid (lenN L ≤ 17) := Lib.hid (by rw [← hL]; exact lenN_le L)
  obtain ⟨N, hN⟩ : ∃ N, N = lenN L := ⟨_, rfl⟩
  rw [← hN] at HN HN2 ⊢
  clear hN
  refine (callsIn_wide (n := 9)).1 ?_
  refine callsIn_of_wp_marks Tryd.func13 rfl trivial ?_ rfl
  simp only [Tryd.ntmps13, List.size_toArray, List.length_cons, List.length_nil, Nat.reduceAdd, Nat.reduceSub, Array.replicate_succ, Array.replicate_zero, List.push_toArray, List.append_toArray, List.nil_append, List.cons_append]
  gi_wp2_with (refine ⟨trivial, ?_⟩; gi_at_call 22; refine (callsIn_wide.2 (below_in _ _ _ b 17 rfl rfl)).mono ?_; rintro e w1 ⟨rfl, hF, hs, hci, hct⟩)
  have hpn := cell_new1 w (.int .i64 0) 3
  have hF0 : Fr No w w1 := ((Fr.refl No w).alloc _).trans hF
  have hp1 : w1.cell? ⟨w.heap.size, 0, none⟩ = some (.int .i64 0) := hF.cell id hpn.1
  have hp2 : w1.frozen? ⟨w.heap.size, 0, none⟩ = false := (hF.frozen 0 (by simp) id).trans hpn.2
  have hBw := hB.lt
  have hB1 := hB.fr hF0 id
  rw [World.size_alloc] at hci hct hs
  obtain ⟨p, hp⟩ : ∃ p, p = w.heap.size := ⟨_, rfl⟩
  rw [← hp] at hci hct hp1 hp2 hs hBw ⊢
  have HP := Lib.hid hp
  have HS : Hid (w.heap.size ≤ w1.heap.size) := Lib.hid (by omega)
  have HBP : Hid (b < p) := Lib.hid hBw
  clear hpn hF hp hB
  refine wpIn_rangeFunc_ownF rfl (by omega) (gf := 29) (lb := #[.pointer (some ⟨p + 1, 0, none⟩), .pointer (some ⟨p + 1 + 1, 0, none⟩)]) rfl trivial (enters_of Tryd.func29 (by kernel_rfl) rfl)
    (below_stops _ (by omega) b (p + 1) (p + 1 + 1) 17 L w1 (by omega) (by omega) (by omega) hci hct hB1 hL (Nat.le_refl _)) KpS.trans (KpS.book (by omega)) (Below.refl _ _) (fun _ => rfl)
    (fun pre W => (W.cell? ⟨p, 0, none⟩ = some (.int .i64 (pre.length : Int)) ∧ W.frozen? ⟨p, 0, none⟩ = false) ∧ Fr No w W)
    (fun _ _ _ => False)
    (fun s A B row hs hg hr => ⟨⟨cell_kept hs.1.1 hg (fun r e => (hr r e).2), (frozen_kept hs.1.1 hg (fun r e => (hr r e).2)).trans hs.1.2⟩, fr_grown_far hs.2 hg HS.out hr⟩)
    (fun _ _ _ _ _ hs _ _ => hs)
    ⟨⟨hp1, hp2⟩, hF0⟩
    (fun x => { tmps := #[.pointer (some ⟨b, 0, none⟩), undef, .int .i64 0, .pointer (some ⟨p, 0, none⟩), .pointer (some ⟨b, 0, none⟩), .func (.func 29) #[] #[.pointer (some ⟨p + 1, 0, none⟩), .pointer (some ⟨p + 1 + 1, 0, none⟩)], .agg x.cells.toArray, undef, undef, undef], defers := [] }) ?assign ?body ?done ?stop
  case assign =>
    intro l x W K hK
    gi_wp2
    simp
    exact hK
  case body =>
    rintro l pre x W ⟨⟨hc, hf⟩, hFW⟩ hlen
    obtain ⟨c, hc0⟩ : ∃ c, c = pre.length := ⟨_, rfl⟩
    have e1 : IntKind.i64.wrap ((c : Int) + 1) = ((c + 1 : Nat) : Int) := IntWalk.i64_in _ (by omega)
    have HC : Hid ((pre ++ [x]).length = c + 1) := Lib.hid (by rw [hc0, List.length_append]; rfl)
    rw [← hc0] at hc hlen
    clear hc0
    gi_wp2
    refine ⟨KeepsOthers.setCell _ _ _, fun v hv => ?_, ⟨?_, ?_⟩, hFW.setCell (.inr (by rw [← HP.out]; exact Nat.le_refl _)) _⟩
    · exact (Below.heap_setCell _ _ _ _ (by show b ≠ p; have := HBP.out; omega)).trans hv
    · rw [HC.out]; exact World.cell?_setCell_same' _ _ _ (by rw [hc]; rfl)
    · rw [World.frozen?_setCell]; exact hf
  case done =>
    rintro D ys W hD rfl ⟨⟨hc, _⟩, hFW⟩ hK
    rw [← HN.out] at hc
    gi_wp2
    refine ⟨by simp, .inl ⟨_, _, rfl, run_takeDeferred hK, ?_⟩⟩
    exact ⟨_, results_tmp rfl _ _ _, rfl, fr_grown_far hFW (grownBy_putObj' W D (.deferred none)) HS.out (fun r e => by cases e; exact ⟨hD, _, hK, rfl⟩)⟩
  case stop =>
    rintro D c pre W _ _ h _
    exact h.elim
end Go.Proofs.YtnpgcgemifoddaaDoor
