/- The fields of a message's kind are made. -/
import Derived.Test.YtpdnbjaamgfemaaWpF
namespace Go.Proofs.Ytpdnbjaamgfemaa
open Go.RowKit
set_option linter.unusedVariables false
set_option maxRecDepth 100000

/-- The fields of a kind, behind the kind's own. -/
def fieldsL (k : Int) : List Fd :=
  if k = 1 then [.chan, .amount] else if k = 3 then [.chan, .id, .amount, .hash, .expiry] else if k = 4 then [.chan, .id, .hash] else if k = 5 then [.chan, .id, .count] else if k = 6 ∨ k = 7 then [.chan, .count, .hash] else if k = 9 then [.chan, .count, .id] else [.chan]

theorem FdAt.fresh {w w' : World} {p q : Nat} {d : Fd} {b1 b2 : Nat} (h : FdAt w p q d b1 b2) (hF : Fr No w w') : FdAt w' p q d b1 b2 :=
  ⟨h.place.fr hF id, by rcases h.wide with e | ⟨hb, hn⟩; exact .inl e; exact .inr ⟨hb.fr hF id, hn⟩, h.away⟩

theorem kindof_any (p q : Nat) (w : World) (hq : q < w.heap.size) : Calls Try.prog 20 #[.pointer (some ⟨p, 0, none⟩)] w (Made p q .kind w) := by
  have H : Hid (∀ X, Fr No w X → Calls Try.prog 35 #[.pointer (some ⟨p, 0, none⟩), .int .i64 1] X (Made p q .kind X)) := Lib.hid (fun X hX => (newi_any p 0 1 X).mono (fun e w' h => made_num (d := .kind) (by decide) (by have := hX.size; omega) h.1 h.2))
  clear hq
  go_enter Try.func20, Try.ntmps20
  go_wp2_with fail
  refine (H.out _ (Fr.refl No w)).mono ?_
  rintro e w1 ⟨v, b1, b2, rfl, hv, hf, hF⟩
  have HR : Hid (v = Fd.kind.value b1 b2 ∧ FdAt w1 p q .kind b1 b2 ∧ Fr No w w1) := Lib.hid ⟨hv, hf, hF⟩
  clear hv hf hF H
  go_wp2
  go_ret
  exact ⟨v, b1, b2, rfl, HR.out.1, HR.out.2.1, HR.out.2.2⟩

/-- What the fields of a kind come to. -/
def Fields (p q : Nat) (k : Int) (w : World) (e : Ending) (w' : World) : Prop :=
  ∃ v, e = .returned v ∧ Fr No w w' ∧ ((1 ≤ k ∧ k ≤ 9 ∧ Listed w' p q (fieldsL k) v) ∨ (¬ (1 ≤ k ∧ k ≤ 9) ∧ v = .slice none 0 0))

/-- All closures of a message, as they stand. -/
structure AllAt (w : World) (p q : Nat) (bs : Fd → Nat × Nat) (vc vi va vh ve vn : Value) : Prop where
  c : vc = Fd.chan.value (bs .chan).1 (bs .chan).2 ∧ FdAt w p q .chan (bs .chan).1 (bs .chan).2
  i : vi = Fd.id.value (bs .id).1 (bs .id).2 ∧ FdAt w p q .id (bs .id).1 (bs .id).2
  a : va = Fd.amount.value (bs .amount).1 (bs .amount).2 ∧ FdAt w p q .amount (bs .amount).1 (bs .amount).2
  h : vh = Fd.hash.value (bs .hash).1 (bs .hash).2 ∧ FdAt w p q .hash (bs .hash).1 (bs .hash).2
  e : ve = Fd.expiry.value (bs .expiry).1 (bs .expiry).2 ∧ FdAt w p q .expiry (bs .expiry).1 (bs .expiry).2
  n : vn = Fd.count.value (bs .count).1 (bs .count).2 ∧ FdAt w p q .count (bs .count).1 (bs .count).2

theorem AllAt.listed {w : World} {p q : Nat} {bs : Fd → Nat × Nat} {vc vi va vh ve vn : Value} (h : AllAt w p q bs vc vi va vh ve vn) (hq : q < w.heap.size) (L : List Fd) (vs : List Value) (hL : ∀ d ∈ L, d ≠ .kind)
    (hvs : vs = L.map fun d => match d with | .kind => vc | .chan => vc | .id => vi | .amount => va | .hash => vh | .expiry => ve | .count => vn) :
    Listed (w.alloc (.cells vs.toArray 55)) p q L (.slice (some ⟨w.heap.size, 0, none⟩) L.length L.length) := by
  refine ⟨w.heap.size, bs, rfl, by omega, ?_, ?_⟩
  · have e : vs = L.map fun d => d.value (bs d).1 (bs d).2 := by
      rw [hvs]
      refine List.map_congr_left fun d hd => ?_
      have := hL d hd
      cases d
      · exact absurd rfl this
      · exact h.c.1
      · exact h.i.1
      · exact h.a.1
      · exact h.h.1
      · exact h.e.1
      · exact h.n.1
    rw [← e]
    exact Blk.new w _ _
  · intro d hd
    have hk := hL d hd
    refine FdAt.fresh (w := w) ?_ ((Fr.refl No w).alloc _)
    cases d
    · exact absurd rfl hk
    · exact h.c.2
    · exact h.i.2
    · exact h.a.2
    · exact h.h.2
    · exact h.e.2
    · exact h.n.2

set_option maxHeartbeats 8000000 in
theorem fieldsof_any (p q : Nat) (m : Msg) (w : World) (hm : Blk w p 27 (cellsM m)) (hq : q < w.heap.size) : Calls Try.prog 21 #[.pointer (some ⟨p, 0, none⟩)] w (Fields p q m.k w) := by
  have HC : Hid (∀ X, Fr No w X → Calls Try.prog 36 #[.pointer (some ⟨p, 1, none⟩), .int .i64 4] X (Made p q .chan X)) := Lib.hid (fun X hX => (neww_any p 1 4 X).mono (fun e w' h => made_num (d := .chan) (by decide) (by have := hX.size; omega) h.1 h.2))
  have HI : Hid (∀ X, Fr No w X → Calls Try.prog 37 #[.pointer (some ⟨p, 2, none⟩), .int .i64 8] X (Made p q .id X)) := Lib.hid (fun X hX => (newq_any p 2 8 X).mono (fun e w' h => made_num (d := .id) (by decide) (by have := hX.size; omega) h.1 h.2))
  have HA : Hid (∀ X, Fr No w X → Calls Try.prog 37 #[.pointer (some ⟨p, 3, none⟩), .int .i64 8] X (Made p q .amount X)) := Lib.hid (fun X hX => (newq_any p 3 8 X).mono (fun e w' h => made_num (d := .amount) (by decide) (by have := hX.size; omega) h.1 h.2))
  have HE : Hid (∀ X, Fr No w X → Calls Try.prog 35 #[.pointer (some ⟨p, 36, none⟩), .int .i64 4] X (Made p q .expiry X)) := Lib.hid (fun X hX => (newi_any p 36 4 X).mono (fun e w' h => made_num (d := .expiry) (by decide) (by have := hX.size; omega) h.1 h.2))
  have HN : Hid (∀ X, Fr No w X → Calls Try.prog 35 #[.pointer (some ⟨p, 37, none⟩), .int .i64 2] X (Made p q .count X)) := Lib.hid (fun X hX => (newi_any p 37 2 X).mono (fun e w' h => made_num (d := .count) (by decide) (by have := hX.size; omega) h.1 h.2))
  have HH : Hid (∀ X, Fr No w X → Calls Try.prog 38 #[.pointer (some ⟨p, 4, none⟩)] X (Made p q .hash X)) := Lib.hid (fun X hX => (newh_any p 4 X).mono (fun e w' h => made_hash (by have := hX.size; omega) h.1 h.2))
  have HM := Lib.hid hm
  have HQ := Lib.hid hq
  obtain ⟨k, hk⟩ : ∃ k, k = m.k := ⟨_, rfl⟩
  have HK := Lib.hid hk
  rw [← hk]
  clear hm hq hk
  go_enter Try.func21, Try.ntmps21
  go_wp2_with fail
  refine (HC.out _ (Fr.refl No w)).mono ?_
  rintro e w1 ⟨vc, c1, c2, rfl, hv, hf, hF⟩
  have RC : Hid (vc = Fd.chan.value c1 c2 ∧ FdAt w1 p q .chan c1 c2) := Lib.hid ⟨hv, hf⟩
  have F1 := Lib.hid hF
  clear hv hf hF HC
  go_wp2_with fail
  refine wp_region_held_drew (S := (fun _ : World => True)) (by kernel_rfl) (trivial) (fun hHeld => ?_)
  refine takeD (i := 0) (d := some 13) (v := ?_) rfl (by kernel_rfl) (by kernel_rfl) (by kernel_rfl) (by kernel_rfl) (fun _ _ _ h => h) (Or.inl ⟨by kernel_rfl, fun X hX => Or.inl ?_⟩) (by assumption) ?_
  rotate_left
  · first | (go_simp; done) | (go_simp; with_reducible rfl)
  (try simp only [Act.put]); (try simp only [List.setIfInBounds_toArray]); (try simp only [List.set_cons_succ]); (try simp only [List.set_cons_zero])
  refine takeD (i := 1) (d := some 14) (v := ?_) rfl (by kernel_rfl) (by kernel_rfl) (by kernel_rfl) (by kernel_rfl) (fun _ _ _ h => h) (Or.inl ⟨by kernel_rfl, fun X hX => Or.inl ?_⟩) (by assumption) ?_
  rotate_left
  · first | (go_simp; done) | (go_simp; with_reducible rfl)
  (try simp only [Act.put]); (try simp only [List.setIfInBounds_toArray]); (try simp only [List.set_cons_succ]); (try simp only [List.set_cons_zero])
  refine takeD (i := 2) (d := some 15) (v := ?_) rfl (by kernel_rfl) (by kernel_rfl) (by kernel_rfl) (by kernel_rfl) (fun _ _ _ h => h) (Or.inl ⟨by kernel_rfl, fun X hX => Or.inl ?_⟩) (by assumption) ?_
  rotate_left
  · first | (go_simp; done) | (go_simp; with_reducible rfl)
  (try simp only [Act.put]); (try simp only [List.setIfInBounds_toArray]); (try simp only [List.set_cons_succ]); (try simp only [List.set_cons_zero])
  refine takeD (i := 4) (d := some 17) (v := ?_) rfl (by kernel_rfl) (by kernel_rfl) (by kernel_rfl) (by kernel_rfl) (fun _ _ _ h => h) (Or.inl ⟨by kernel_rfl, fun X hX => Or.inl ?_⟩) (by assumption) ?_
  rotate_left
  · first | (go_simp; done) | (go_simp; with_reducible rfl)
  (try simp only [Act.put]); (try simp only [List.setIfInBounds_toArray]); (try simp only [List.set_cons_succ]); (try simp only [List.set_cons_zero])
  refine takeD (i := 5) (d := some 18) (v := ?_) rfl (by kernel_rfl) (by kernel_rfl) (by kernel_rfl) (by kernel_rfl) (fun _ _ _ h => h) (Or.inl ⟨by kernel_rfl, fun X hX => Or.inl ?_⟩) (by assumption) ?_
  rotate_left
  · first | (go_simp; done) | (go_simp; with_reducible rfl)
  (try simp only [Act.put]); (try simp only [List.setIfInBounds_toArray]); (try simp only [List.set_cons_succ]); (try simp only [List.set_cons_zero])
  refine takeD (i := 6) (d := some 19) (v := ?_) rfl (by kernel_rfl) (by kernel_rfl) (by kernel_rfl) (by kernel_rfl) (fun _ _ _ h => h) (Or.inl ⟨by kernel_rfl, fun X hX => Or.inl ?_⟩) (by assumption) ?_
  rotate_left
  · first | (go_simp; done) | (go_simp; with_reducible rfl)
  (try simp only [Act.put]); (try simp only [List.setIfInBounds_toArray]); (try simp only [List.set_cons_succ]); (try simp only [List.set_cons_zero])
  refine wpAnyH_ready (rs := [3]) (by kernel_rfl) (by simp) ?_
  refine AllReadyH.cons rfl (fun K hK => ?_) AllReadyH.nil
  rw [if_pos (by kernel_rfl)]
  go_simp
  refine (HI.out _ F1.out.drew).mono ?_
  rintro e w2 ⟨vi, i1, i2, rfl, hv, hf, hF⟩
  have RI : Hid (vi = Fd.id.value i1 i2 ∧ FdAt w2 p q .id i1 i2) := Lib.hid ⟨hv, hf⟩
  have F2 : Hid (Fr No w w2) := Lib.hid (F1.out.drew.trans hF)
  have G2 := Lib.hid hF
  clear hv hf hF HI
  refine hK.out _ _ (trivial) (fun hHeld => ?_)
  clear hK K
  (try simp only [Act.put]); (try simp only [List.setIfInBounds_toArray]); (try simp only [List.set_cons_succ]); (try simp only [List.set_cons_zero])
  refine wpAnyH_ready (rs := [7]) (by kernel_rfl) (by simp) ?_
  refine AllReadyH.cons rfl (fun K hK => ?_) AllReadyH.nil
  rw [if_pos (by kernel_rfl)]
  go_simp
  refine (HA.out _ F2.out).mono ?_
  rintro e w3 ⟨va, a1, a2, rfl, hv, hf, hF⟩
  have RA : Hid (va = Fd.amount.value a1 a2 ∧ FdAt w3 p q .amount a1 a2) := Lib.hid ⟨hv, hf⟩
  have F3 : Hid (Fr No w w3) := Lib.hid (F2.out.trans hF)
  have G3 := Lib.hid hF
  clear hv hf hF HA
  refine hK.out _ _ (trivial) (fun hHeld => ?_)
  clear hK K
  (try simp only [Act.put]); (try simp only [List.setIfInBounds_toArray]); (try simp only [List.set_cons_succ]); (try simp only [List.set_cons_zero])
  refine takeD (i := 8) (d := some 4) (v := ?_) rfl (by kernel_rfl) (by kernel_rfl) (by kernel_rfl) (by kernel_rfl) (fun _ _ _ h => h) (Or.inl ⟨by kernel_rfl, fun X hX => Or.inl ?_⟩) (by assumption) ?_
  rotate_left
  · first | (go_simp; done) | (go_simp; with_reducible rfl)
  (try simp only [Act.put]); (try simp only [List.setIfInBounds_toArray]); (try simp only [List.set_cons_succ]); (try simp only [List.set_cons_zero])
  refine takeD (i := 9) (d := some 5) (v := ?_) rfl (by kernel_rfl) (by kernel_rfl) (by kernel_rfl) (by kernel_rfl) (fun _ _ _ h => h) (Or.inl ⟨by kernel_rfl, fun X hX => Or.inl ?_⟩) (by assumption) ?_
  rotate_left
  · first | (go_simp; done) | (go_simp; with_reducible rfl)
  (try simp only [Act.put]); (try simp only [List.setIfInBounds_toArray]); (try simp only [List.set_cons_succ]); (try simp only [List.set_cons_zero])
  refine wpAnyH_done (by kernel_rfl) ?_ _

  go_wp2_with fail
  refine wp_region_held_drew (S := (fun _ : World => True)) (by kernel_rfl) (trivial) (fun hHeld => ?_)
  refine takeD (i := 0) (d := some 21) (v := ?_) rfl (by kernel_rfl) (by kernel_rfl) (by kernel_rfl) (by kernel_rfl) (fun _ _ _ h => h) (Or.inl ⟨by kernel_rfl, fun X hX => Or.inl ?_⟩) (by assumption) ?_
  rotate_left
  · first | (go_simp; done) | (go_simp; with_reducible rfl)
  (try simp only [Act.put]); (try simp only [List.setIfInBounds_toArray]); (try simp only [List.set_cons_succ]); (try simp only [List.set_cons_zero])
  refine takeD (i := 1) (d := some 22) (v := ?_) rfl (by kernel_rfl) (by kernel_rfl) (by kernel_rfl) (by kernel_rfl) (fun _ _ _ h => h) (Or.inl ⟨by kernel_rfl, fun X hX => Or.inl ?_⟩) (by assumption) ?_
  rotate_left
  · first | (go_simp; done) | (go_simp; with_reducible rfl)
  (try simp only [Act.put]); (try simp only [List.setIfInBounds_toArray]); (try simp only [List.set_cons_succ]); (try simp only [List.set_cons_zero])
  refine takeD (i := 2) (d := some 23) (v := ?_) rfl (by kernel_rfl) (by kernel_rfl) (by kernel_rfl) (by kernel_rfl) (fun _ _ _ h => h) (Or.inl ⟨by kernel_rfl, fun X hX => Or.inl ?_⟩) (by assumption) ?_
  rotate_left
  · first | (go_simp; done) | (go_simp; with_reducible rfl)
  (try simp only [Act.put]); (try simp only [List.setIfInBounds_toArray]); (try simp only [List.set_cons_succ]); (try simp only [List.set_cons_zero])
  refine takeD (i := 4) (d := some 25) (v := ?_) rfl (by kernel_rfl) (by kernel_rfl) (by kernel_rfl) (by kernel_rfl) (fun _ _ _ h => h) (Or.inl ⟨by kernel_rfl, fun X hX => Or.inl ?_⟩) (by assumption) ?_
  rotate_left
  · first | (go_simp; done) | (go_simp; with_reducible rfl)
  (try simp only [Act.put]); (try simp only [List.setIfInBounds_toArray]); (try simp only [List.set_cons_succ]); (try simp only [List.set_cons_zero])
  refine takeD (i := 5) (d := some 26) (v := ?_) rfl (by kernel_rfl) (by kernel_rfl) (by kernel_rfl) (by kernel_rfl) (fun _ _ _ h => h) (Or.inl ⟨by kernel_rfl, fun X hX => Or.inl ?_⟩) (by assumption) ?_
  rotate_left
  · first | (go_simp; done) | (go_simp; with_reducible rfl)
  (try simp only [Act.put]); (try simp only [List.setIfInBounds_toArray]); (try simp only [List.set_cons_succ]); (try simp only [List.set_cons_zero])
  refine takeD (i := 6) (d := some 27) (v := ?_) rfl (by kernel_rfl) (by kernel_rfl) (by kernel_rfl) (by kernel_rfl) (fun _ _ _ h => h) (Or.inl ⟨by kernel_rfl, fun X hX => Or.inl ?_⟩) (by assumption) ?_
  rotate_left
  · first | (go_simp; done) | (go_simp; with_reducible rfl)
  (try simp only [Act.put]); (try simp only [List.setIfInBounds_toArray]); (try simp only [List.set_cons_succ]); (try simp only [List.set_cons_zero])
  refine wpAnyH_ready (rs := [3]) (by kernel_rfl) (by simp) ?_
  refine AllReadyH.cons rfl (fun K hK => ?_) AllReadyH.nil
  rw [if_pos (by kernel_rfl)]
  go_simp
  refine (HE.out _ F3.out.drew).mono ?_
  rintro e w4 ⟨ve, e1, e2, rfl, hv, hf, hF⟩
  have RE : Hid (ve = Fd.expiry.value e1 e2 ∧ FdAt w4 p q .expiry e1 e2) := Lib.hid ⟨hv, hf⟩
  have F4 : Hid (Fr No w w4) := Lib.hid (F3.out.drew.trans hF)
  have G4 := Lib.hid hF
  clear hv hf hF HE
  refine hK.out _ _ (trivial) (fun hHeld => ?_)
  clear hK K
  (try simp only [Act.put]); (try simp only [List.setIfInBounds_toArray]); (try simp only [List.set_cons_succ]); (try simp only [List.set_cons_zero])
  refine wpAnyH_ready (rs := [7]) (by kernel_rfl) (by simp) ?_
  refine AllReadyH.cons rfl (fun K hK => ?_) AllReadyH.nil
  rw [if_pos (by kernel_rfl)]
  go_simp
  refine (HN.out _ F4.out).mono ?_
  rintro e w5 ⟨vn, n1, n2, rfl, hv, hf, hF⟩
  have RN : Hid (vn = Fd.count.value n1 n2 ∧ FdAt w5 p q .count n1 n2) := Lib.hid ⟨hv, hf⟩
  have F5 : Hid (Fr No w w5) := Lib.hid (F4.out.trans hF)
  have G5 := Lib.hid hF
  clear hv hf hF HN
  refine hK.out _ _ (trivial) (fun hHeld => ?_)
  clear hK K
  (try simp only [Act.put]); (try simp only [List.setIfInBounds_toArray]); (try simp only [List.set_cons_succ]); (try simp only [List.set_cons_zero])
  refine takeD (i := 8) (d := some 6) (v := ?_) rfl (by kernel_rfl) (by kernel_rfl) (by kernel_rfl) (by kernel_rfl) (fun _ _ _ h => h) (Or.inl ⟨by kernel_rfl, fun X hX => Or.inl ?_⟩) (by assumption) ?_
  rotate_left
  · first | (go_simp; done) | (go_simp; with_reducible rfl)
  (try simp only [Act.put]); (try simp only [List.setIfInBounds_toArray]); (try simp only [List.set_cons_succ]); (try simp only [List.set_cons_zero])
  refine takeD (i := 9) (d := some 7) (v := ?_) rfl (by kernel_rfl) (by kernel_rfl) (by kernel_rfl) (by kernel_rfl) (fun _ _ _ h => h) (Or.inl ⟨by kernel_rfl, fun X hX => Or.inl ?_⟩) (by assumption) ?_
  rotate_left
  · first | (go_simp; done) | (go_simp; with_reducible rfl)
  (try simp only [Act.put]); (try simp only [List.setIfInBounds_toArray]); (try simp only [List.set_cons_succ]); (try simp only [List.set_cons_zero])
  refine wpAnyH_done (by kernel_rfl) ?_ _

  go_wp2_with fail
  refine (HH.out _ F5.out).mono ?_
  rintro e w6 ⟨vh, h1, h2, rfl, hv, hf, hF⟩
  have F6 : Hid (Fr No w w6) := Lib.hid (F5.out.trans hF)
  have HALL : Hid (AllAt w6 p q (fun d => match d with | .kind => (0, 0) | .chan => (c1, c2) | .id => (i1, i2) | .amount => (a1, a2) | .hash => (h1, h2) | .expiry => (e1, e2) | .count => (n1, n2)) vc vi va vh ve vn) := Lib.hid (by
    have g5 : Fr No w5 w6 := hF
    have g4 : Fr No w4 w6 := G5.out.trans g5
    have g3 : Fr No w3 w6 := (drew_fr No w3).trans (G4.out.trans g4)
    have g2 : Fr No w2 w6 := G3.out.trans g3
    have g1 : Fr No w1 w6 := (drew_fr No w1).trans (G2.out.trans g2)
    exact ⟨⟨RC.out.1, RC.out.2.fresh g1⟩, ⟨RI.out.1, RI.out.2.fresh g2⟩, ⟨RA.out.1, RA.out.2.fresh g3⟩, ⟨hv, hf⟩, ⟨RE.out.1, RE.out.2.fresh g4⟩, ⟨RN.out.1, RN.out.2.fresh g5⟩⟩)
  have hc : w6.cell? ⟨p, 0, none⟩ = some (.int .i64 k) := by
    rw [HK.out]
    exact msg_k (HM.out.fr F6.out id)
  have HQ6 : Hid (q < w6.heap.size) := Lib.hid (by have := F6.out.size; have := HQ.out; omega)
  obtain ⟨xc, rfl⟩ : ∃ x, vc = .func (.func 41) #[] x := ⟨_, HALL.out.c.1⟩
  obtain ⟨xi, rfl⟩ : ∃ x, vi = .func (.func 42) #[] x := ⟨_, HALL.out.i.1⟩
  obtain ⟨xa, rfl⟩ : ∃ x, va = .func (.func 42) #[] x := ⟨_, HALL.out.a.1⟩
  obtain ⟨xh, rfl⟩ : ∃ x, vh = .func (.func 43) #[] x := ⟨_, HALL.out.h.1⟩
  obtain ⟨xe, rfl⟩ : ∃ x, ve = .func (.func 40) #[] x := ⟨_, HALL.out.e.1⟩
  obtain ⟨xn, rfl⟩ : ∃ x, vn = .func (.func 40) #[] x := ⟨_, HALL.out.n.1⟩
  clear hv hf hF RC RI RA RE RN F1 F2 F3 F4 F5 G2 G3 G4 G5 HM HQ HK HH
  by_cases z1 : k = 1
  · subst z1
    go_wp2
    go_ret
    exact ⟨_, rfl, F6.out.alloc _, .inl ⟨by decide, by decide, HALL.out.listed HQ6.out [Fd.chan, Fd.amount] [.func (.func 41) #[] xc, .func (.func 42) #[] xa] (by decide) rfl⟩⟩
  by_cases z2 : k = 2
  · subst z2
    go_wp2
    go_ret
    exact ⟨_, rfl, F6.out.alloc _, .inl ⟨by decide, by decide, HALL.out.listed HQ6.out [Fd.chan] [.func (.func 41) #[] xc] (by decide) rfl⟩⟩
  by_cases z3 : k = 3
  · subst z3
    go_wp2
    go_ret
    exact ⟨_, rfl, F6.out.alloc _, .inl ⟨by decide, by decide, HALL.out.listed HQ6.out [Fd.chan, Fd.id, Fd.amount, Fd.hash, Fd.expiry] [.func (.func 41) #[] xc, .func (.func 42) #[] xi, .func (.func 42) #[] xa, .func (.func 43) #[] xh, .func (.func 40) #[] xe] (by decide) rfl⟩⟩
  by_cases z4 : k = 4
  · subst z4
    go_wp2
    go_ret
    exact ⟨_, rfl, F6.out.alloc _, .inl ⟨by decide, by decide, HALL.out.listed HQ6.out [Fd.chan, Fd.id, Fd.hash] [.func (.func 41) #[] xc, .func (.func 42) #[] xi, .func (.func 43) #[] xh] (by decide) rfl⟩⟩
  by_cases z5 : k = 5
  · subst z5
    go_wp2
    go_ret
    exact ⟨_, rfl, F6.out.alloc _, .inl ⟨by decide, by decide, HALL.out.listed HQ6.out [Fd.chan, Fd.id, Fd.count] [.func (.func 41) #[] xc, .func (.func 42) #[] xi, .func (.func 40) #[] xn] (by decide) rfl⟩⟩
  by_cases z6 : k = 6
  · subst z6
    go_wp2
    go_ret
    exact ⟨_, rfl, F6.out.alloc _, .inl ⟨by decide, by decide, HALL.out.listed HQ6.out [Fd.chan, Fd.count, Fd.hash] [.func (.func 41) #[] xc, .func (.func 40) #[] xn, .func (.func 43) #[] xh] (by decide) rfl⟩⟩
  by_cases z7 : k = 7
  · subst z7
    go_wp2
    go_ret
    exact ⟨_, rfl, F6.out.alloc _, .inl ⟨by decide, by decide, HALL.out.listed HQ6.out [Fd.chan, Fd.count, Fd.hash] [.func (.func 41) #[] xc, .func (.func 40) #[] xn, .func (.func 43) #[] xh] (by decide) rfl⟩⟩
  by_cases z8 : k = 8
  · subst z8
    go_wp2
    go_ret
    exact ⟨_, rfl, F6.out.alloc _, .inl ⟨by decide, by decide, HALL.out.listed HQ6.out [Fd.chan] [.func (.func 41) #[] xc] (by decide) rfl⟩⟩
  by_cases z9 : k = 9
  · subst z9
    go_wp2
    go_ret
    exact ⟨_, rfl, F6.out.alloc _, .inl ⟨by decide, by decide, HALL.out.listed HQ6.out [Fd.chan, Fd.count, Fd.id] [.func (.func 41) #[] xc, .func (.func 40) #[] xn, .func (.func 42) #[] xi] (by decide) rfl⟩⟩
  go_wp2
  go_ret
  exact ⟨_, rfl, F6.out, .inr ⟨by omega, rfl⟩⟩
end Go.Proofs.Ytpdnbjaamgfemaa
