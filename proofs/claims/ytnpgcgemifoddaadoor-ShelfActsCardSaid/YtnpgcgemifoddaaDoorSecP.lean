/- The program's place of a number. -/
import Derived.Test.YtnpgcgemifoddaaDoorSecI
namespace Go.Proofs.YtnpgcgemifoddaaDoor
open Go.RowKit Go.Shelf
set_option linter.unusedVariables false
attribute [local go_sem] Oper.semAt_some

theorem fr_grown_far {B : Nat} {w W W' : World} {row : Option Nat} (h : Fr No w W) (hg : W.grownBy W' row) (hB : w.heap.size ≤ B) (hr : ∀ r, row = some r → B ≤ r ∧ ∃ o : Obj, W.heap[r]? = some o ∧ o.isCells = false) : Fr No w W' :=
  h.trans' (Fr.of_grown (S := fun k => B ≤ k) hg (fun k e => (hr k e).1)) (fun i hi hb => by have : B ≤ i := hb; omega)

theorem keeps_of_fr {S : Nat → Prop} {W W' : World} (h : Fr S W W') (hS : ∀ k, S k → ∃ v, W.cell? ⟨k, 0, none⟩ = some v) : KeepsOthers W W' :=
  ⟨h.size, fun k o hk ho => (h.block k (Array.getElem?_eq_some_iff.1 hk).1 (fun hs => by
    obtain ⟨v, hv⟩ := hS k hs
    unfold World.cell? at hv
    rw [show (⟨k, 0, none⟩ : Addr).block = k from rfl, hk] at hv
    cases o <;> simp_all [Obj.isCells])).trans hk⟩

theorem cell_of_box1 {W : World} {B : Nat} {v : Value} {t : TypeId} (h : W.heap[B]? = some (.cells #[v] t (0, 0))) : W.cell? ⟨B, 0, none⟩ = some v ∧ W.frozen? ⟨B, 0, none⟩ = false := by
  constructor <;> simp [World.cell?, World.frozen?, h]
theorem cell_new1 (W : World) (v : Value) (t : TypeId) : (W.alloc (.cells #[v] t)).cell? ⟨W.heap.size, 0, none⟩ = some v ∧ (W.alloc (.cells #[v] t)).frozen? ⟨W.heap.size, 0, none⟩ = false :=
  cell_of_box1 (World.alloc_heap_new W _)

set_option maxRecDepth 100000 in
set_option maxHeartbeats 2000000 in
theorem place_no_any (i : Int) (w : World) (h : num i = false) : Calls Tryd.prog 24 #[.int .i64 i] w fun ex w' => ex = .returned (.int .i64 0) ∧ w' = w := by
  refine (callsIn_wide (n := 9)).1 ?_
  refine callsIn_of_wp_marks Tryd.func24 rfl trivial ?_ rfl
  simp only [Tryd.ntmps24, List.size_toArray, List.length_cons, List.length_nil, Nat.reduceAdd, Nat.reduceSub, Array.replicate_succ, Array.replicate_zero, List.push_toArray, List.append_toArray, List.nil_append, List.cons_append]
  gi_wp2_with (refine ⟨trivial, ?_⟩; gi_at_call 30; refine (callsIn_wide.2 (isNumber_any i _)).mono ?_; rw [h]; rintro e w' ⟨rfl, rfl⟩)
  exact ⟨_, results_tmp rfl _ _ _, rfl, rfl⟩

set_option maxRecDepth 100000 in
set_option maxHeartbeats 2000000 in
theorem place_ok_any (i : Nat) (w : World) (hi : i < 65536) : Calls Tryd.prog 24 #[.int .i64 (i : Int)] w fun ex w' => ex = .returned (.int .i64 (placeN i : Int)) ∧ Fr No w w' := by
  have h := num_of hi
  have HI := Lib.hid hi
  clear hi
  refine (callsIn_wide (n := 9)).1 ?_
  refine callsIn_of_wp_marks Tryd.func24 rfl trivial ?_ rfl
  simp only [Tryd.ntmps24, List.size_toArray, List.length_cons, List.length_nil, Nat.reduceAdd, Nat.reduceSub, Array.replicate_succ, Array.replicate_zero, List.push_toArray, List.append_toArray, List.nil_append, List.cons_append]
  gi_wp2_with (first
    | (refine ⟨trivial, ?_⟩; gi_at_call 30; refine (callsIn_wide.2 (isNumber_any i _)).mono ?_; rw [h]; rintro e w' ⟨rfl, rfl⟩)
    | (refine ⟨trivial, ?_⟩; gi_at_call 31; refine (callsIn_wide.2 (ones_in i 16 _)).mono ?_; rintro e w1 ⟨rfl, hF, hs, hci, hct⟩))
  have hsz : w'.heap.size + 3 = w1.heap.size := by rw [hs]; simp
  have hpn := cell_new1 w' (.int .i64 16) 3
  have hF0 : Fr No w' w1 := ((Fr.refl No w').alloc _).trans hF
  have hp1 : w1.cell? ⟨w'.heap.size, 0, none⟩ = some (.int .i64 16) := hF.cell id hpn.1
  have hp2 : w1.frozen? ⟨w'.heap.size, 0, none⟩ = false := (hF.frozen 0 (by simp) id).trans hpn.2
  rw [World.size_alloc] at hci hct
  have hnw : w'.heap.size ≠ w'.heap.size + 1 := by omega
  obtain ⟨p, hp⟩ : ∃ p, p = w'.heap.size := ⟨_, rfl⟩
  rw [← hp] at hci hct hp1 hp2 hsz hnw ⊢
  have HP := Lib.hid hp
  have HS : Hid (w'.heap.size ≤ w1.heap.size) := Lib.hid (by omega)
  clear hpn hs hF hp
  refine wpIn_rangeFunc_ownF rfl (by omega) (gf := 34) (lb := #[.pointer (some ⟨p + 1 + 1, 0, none⟩), .pointer (some ⟨p + 1, 0, none⟩)]) rfl trivial (enters_of Tryd.func34 (by kernel_rfl) rfl)
    (ones_stops Fence.wide _ trivial rfl (by omega) (p + 1 + 1) (p + 1) i 16 w1 (by omega) (by omega) hct hci HI.out (Nat.le_refl _)) KpC.trans (KpC.book (by omega)) (Below.refl _ _) (fun _ => rfl)
    (fun pre W => (W.cell? ⟨p, 0, none⟩ = some (.int .i64 ((pre.foldl (fun _ b => b.val) 16 : Nat) : Int)) ∧ W.frozen? ⟨p, 0, none⟩ = false) ∧ Fr No w' W)
    (fun _ _ _ => False)
    (fun s A B row hs hg hr => ⟨⟨cell_kept hs.1.1 hg (fun r e => (hr r e).2), (frozen_kept hs.1.1 hg (fun r e => (hr r e).2)).trans hs.1.2⟩, fr_grown_far hs.2 hg HS.out hr⟩)
    (fun _ _ _ _ _ hs _ _ => hs)
    ⟨⟨hp1, hp2⟩, hF0⟩
    (fun x => { tmps := #[.int .i64 (i : Int), undef, .int .i64 0, .pointer (some ⟨p, 0, none⟩), .int .i64 (x.val : Int), .int .i64 (i : Int), .bool true, .bool false, .int .i64 (i : Int), .func (.func 34) #[] #[.pointer (some ⟨p + 1 + 1, 0, none⟩), .pointer (some ⟨p + 1, 0, none⟩)], .int .i64 (x.val : Int), undef, undef], defers := [] }) ?assign ?body ?done ?stop
  case assign =>
    intro l x W K hK
    gi_wp2
    exact hK
  case body =>
    rintro l pre x W ⟨⟨hc, hf⟩, hFW⟩ _
    gi_wp2
    refine ⟨KeepsOthers.setCell _ _ _, fun v hv => ?_, ⟨?_, ?_⟩, hFW.setCell (.inr (by rw [← HP.out]; exact Nat.le_refl _)) _⟩
    · rw [World.cell?_of_block (w := W) (a := ⟨p + 1, 0, none⟩) (Below.heap_setCell _ _ _ _ (by show p + 1 ≠ p; omega))]; exact hv
    · rw [List.foldl_append]; exact World.cell?_setCell_same' _ _ _ (by rw [hc]; rfl)
    · rw [World.frozen?_setCell]; exact hf
  case done =>
    rintro D ys W hD rfl ⟨⟨hc, _⟩, hFW⟩ hK
    gi_wp2
    refine ⟨by simp, .inl ⟨_, _, rfl, run_takeDeferred hK, ?_⟩⟩
    exact ⟨_, results_tmp rfl _ _ _, rfl, fr_grown_far hFW (grownBy_putObj' W D (.deferred none)) HS.out (fun r e => by cases e; exact ⟨hD, _, hK, rfl⟩)⟩
  case stop =>
    rintro D c pre W _ _ h _
    exact h.elim

theorem place_any (i : Int) (w : World) : Calls Tryd.prog 24 #[.int .i64 i] w fun ex w' => ex = .returned (.int .i64 (place i : Int)) ∧ Fr No w w' := by
  by_cases h : num i = true
  · obtain ⟨n, rfl, hn⟩ := num_nat h
    rw [place_of hn]
    exact place_ok_any n w hn
  · have h' : num i = false := by simpa using h
    rw [place_no h']
    refine (place_no_any i w h').mono ?_
    rintro ex w' ⟨rfl, rfl⟩
    exact ⟨rfl, Fr.refl _ _⟩
end Go.Proofs.YtnpgcgemifoddaaDoor
