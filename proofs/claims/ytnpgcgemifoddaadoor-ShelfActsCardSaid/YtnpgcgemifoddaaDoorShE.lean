/- The document's Lookup. -/
import Derived.Test.YtnpgcgemifoddaaDoorShD
import Derived.Test.YtnpgcgemifoddaaDoorSecX
namespace Go.Proofs.YtnpgcgemifoddaaDoor
open Go.RowKit
set_option linter.unusedVariables false

theorem look_found {L : List Ent} {i : Int} {k : Nat} {e : Ent} (he : L[k]? = some e) (hn : (L.take k).find? (tells i) = none) (ht : tells i e = true) : L.find? (tells i) = some e := by
  have h1 : (L.take (k + 1)).find? (tells i) = some e := by
    rw [List.take_add_one, he, List.find?_append, hn]
    simp [ht]
  exact (List.take_prefix (k + 1) L).find?_eq_some h1
theorem look_next {L : List Ent} {i : Int} {k : Nat} {e : Ent} (he : L[k]? = some e) (hn : (L.take k).find? (tells i) = none) (ht : tells i e = false) : (L.take (k + 1)).find? (tells i) = none := by
  rw [List.take_add_one, he, List.find?_append, hn]
  simp [ht]
theorem look_some {L : List Ent} {i : Int} {e : Ent} (h : L.find? (tells i) = some e) : (look L i).1 = dSec e.s (e.n : Int) i ∧ (look L i).2 = 0 := by
  have h2 : look L i = (dSec e.s (e.n : Int) i, 0) := by simp only [look, h, lookO]
  have h3 := congrArg Prod.fst h2
  have h4 := congrArg Prod.snd h2
  dsimp only at h3 h4
  exact ⟨h3, h4⟩
theorem look_nothing {L : List Ent} {i : Int} (h : L.find? (tells i) = none) : (look L i).1 = List.replicate 32 0 ∧ (look L i).2 = 3 := by
  have h2 : look L i = (List.replicate 32 0, 3) := by simp only [look, h, lookO]
  have h3 := congrArg Prod.fst h2
  have h4 := congrArg Prod.snd h2
  dsimp only at h3 h4
  exact ⟨h3, h4⟩

set_option maxRecDepth 100000 in
set_option maxHeartbeats 2000000 in
theorem rlookup_any (L : List Ent) (i : Int) (w : World) (hL : L.length = 17) :
    Calls Tryd.prog 17 #[.agg (flat L).toArray, .int .i64 i] w fun ex w' => ex = .returned (.tuple #[.agg (arr .u8 (look L i).1), .int .i64 (look L i).2]) ∧ Fr No w w' := by
  obtain ⟨S, hS⟩ : ∃ S, S = (look L i).1 := ⟨_, rfl⟩
  obtain ⟨E, hE⟩ : ∃ E, E = (look L i).2 := ⟨_, rfl⟩
  rw [← hS, ← hE]
  have HSM : Hid (∀ e, L.find? (tells i) = some e → dSec e.s (e.n : Int) i = S ∧ (0 : Int) = E) := Lib.hid (fun e h => ⟨((hS.trans (look_some h).1)).symm, (hE.trans (look_some h).2).symm⟩)
  have HNO : Hid (L.find? (tells i) = none → List.replicate 32 0 = S ∧ (3 : Int) = E) := Lib.hid (fun h => ⟨((hS.trans (look_nothing h).1)).symm, (hE.trans (look_nothing h).2).symm⟩)
  clear hS hE
  go_enter Tryd.func17, Tryd.ntmps17
  have hB0 := (Blk.new w 37 (flat L)).alloc (.cells (arr .u8 (List.replicate 32 0)) 27)
  have hR0 := Row.new2 w (.cells (flat L).toArray 37) 27 .u8 (List.replicate 32 0)
  go_wp2_with fail
  refine wp_world (fun W => Fr No w W ∧ Blk W w.heap.size 37 (flat L) ∧ Row W (w.heap.size + 1) 27 .u8 (List.replicate 32 0)) ⟨((Fr.refl No w).alloc _).alloc _, hB0, hR0⟩ (fun W hW => ?_)
  have HF := Lib.hid hW.1
  have HB := Lib.hid hW.2.1
  have HR := Lib.hid hW.2.2
  clear hW hB0 hR0
  obtain ⟨p, hp⟩ : ∃ p, p = w.heap.size := ⟨_, rfl⟩
  rw [← hp] at HB HR ⊢
  have HP := Lib.hid hp
  clear hp
  go_loopw [6] (fun c wr => ∃ k : Nat, k ≤ 17 ∧ c = .int .i64 (k : Int) ∧ (L.take k).find? (tells i) = none ∧ wr = W) (fun c _ => 17 - (intOf c).toNat)
  case atStart => exact ⟨0, by omega, rfl, rfl, rfl⟩
  case round =>
    obtain ⟨k, hk, rfl, hf, rfl⟩ := hrel
    by_cases hlt : k < 17
    · have h1 : (k : Int) < 17 := by omega
      obtain ⟨e, he⟩ : ∃ e, L[k]? = some e := ⟨_, List.getElem?_eq_getElem (by omega)⟩
      have hc := place_has HB.out he
      have hn := place_num HB.out he
      have e2 : IntKind.i64.wrap ((k : Int) + 1) = ((k + 1 : Nat) : Int) := IntWalk.i64_in _ (by omega)
      have HFD : Hid (tells i e = true → L.find? (tells i) = some e) := Lib.hid (look_found he hf)
      have HNX : Hid (tells i e = false → (L.take (k + 1)).find? (tells i) = none) := Lib.hid (look_next he hf)
      have HTE : Hid (tells i e = (e.has && can (e.n : Int) i)) := Lib.hid rfl
      have HCA := fun X => rcan_any (e.n : Int) i X
      obtain ⟨c, hc0⟩ : ∃ c, c = e.has := ⟨_, rfl⟩
      rw [← hc0] at hc HTE
      clear hf hc0
      cases c with
      | true =>
        by_cases hcan : can (e.n : Int) i = true
        · rw [hcan] at HCA HTE
          have HFF : Hid (dSec e.s (e.n : Int) i = S ∧ (0 : Int) = E) := Lib.hid (HSM.out e (HFD.out HTE.out))
          have e0 : dErr (e.n : Int) i = 0 := by rw [dErr, if_pos hcan]
          have HDD : Hid (∀ X, Calls Tryd.prog 19 #[.agg (arr .u8 e.s), .int .i64 (e.n : Int), .int .i64 i] X fun ex w' => ex = .returned (.tuple #[.agg (arr .u8 S), .int .i64 0]) ∧ Fr No X w') := Lib.hid (fun X => by
            have := rderive_any e.s (e.n : Int) i X e.hs
            rwa [e0, HFF.out.1] at this)
          have HSL : Hid (S.length = 32) := Lib.hid (by rw [← HFF.out.1]; exact (dSec_h e.hs _ _).len)
          obtain rfl := HFF.out.2
          have HSC : Hid (∀ X, Fr (fun j => j = p + 1) wr X → (Instr.loadAt 27 (.pointer (some ⟨p, k * 34 + 2, none⟩))).run Tryd.prog X = .ok (.agg (arr .u8 e.s)) X) := Lib.hid (fun X hX => load_range _ (place_sec (HB.out.fr hX (by omega)) he) Tryd.underlying27 rfl (by rw [List.length_map, e.hs.len]; kernel_rfl) _ rfl)
          have HNC : Hid (∀ X, Fr (fun j => j = p + 1) wr X → (Instr.loadAt 3 (.pointer (some ⟨p, k * 34 + 1, none⟩))).run Tryd.prog X = .ok (.int .i64 (e.n : Int)) X) := Lib.hid (fun X hX => by
            have hn' := place_num (HB.out.fr hX (by omega)) he
            simp [go_sem, hn'])
          clear hcan e0 HFD HNX
          go_wp2_with fail
          refine (HCA _).mono ?_
          rintro ex w2 ⟨rfl, rfl⟩
          go_wp2_with fail
          refine wp_region_held_drew (S := (fun X => Fr (fun j => j = p + 1) w2 X)) (by kernel_rfl) ((Fr.refl _ w2).drew) (fun hHeld => ?_)
          refine takeD (i := 0) (d := some 25) (v := ?_) rfl (by kernel_rfl) (by kernel_rfl) (by kernel_rfl) (by kernel_rfl) (fun _ _ _ h => h) (Or.inl ⟨by kernel_rfl, fun X hX => Or.inl ?_⟩) (by assumption) ?_
          rotate_left
          · first | (go_simp; done) | (go_simp; with_reducible rfl)
          (try simp only [Act.put]); (try simp only [List.setIfInBounds_toArray]); (try simp only [List.set_cons_succ]); (try simp only [List.set_cons_zero])
          refine takeD (i := 1) (d := some 26) (v := ?_) rfl (by kernel_rfl) (by kernel_rfl) (by kernel_rfl) (by kernel_rfl) (fun _ _ _ h => h) (Or.inl ⟨by kernel_rfl, fun X hX => Or.inl ?_⟩) (by assumption) ?_
          rotate_left
          · first | (go_simp; done) | (go_simp; with_reducible rfl)
          (try simp only [Act.put]); (try simp only [List.setIfInBounds_toArray]); (try simp only [List.set_cons_succ]); (try simp only [List.set_cons_zero])
          refine takeD (i := 2) (d := some 27) (v := ?_) rfl (by kernel_rfl) (by kernel_rfl) (by kernel_rfl) (by kernel_rfl) (fun _ _ _ h => h) (Or.inl ⟨by kernel_rfl, fun X hX => Or.inl ?_⟩) (by assumption) ?_
          rotate_left
          · first | (go_simp; done) | (go_simp; with_reducible rfl)
          (try simp only [Act.put]); (try simp only [List.setIfInBounds_toArray]); (try simp only [List.set_cons_succ]); (try simp only [List.set_cons_zero])
          refine takeD (i := 3) (d := some 28) (v := ?_) rfl (by kernel_rfl) (by kernel_rfl) (by kernel_rfl) (by kernel_rfl) (fun _ _ _ h => h) (Or.inl ⟨by kernel_rfl, fun X hX => Or.inl ?_⟩) (by assumption) ?_
          rotate_left
          · first | (go_simp; done) | (go_simp; with_reducible rfl)
          (try simp only [Act.put]); (try simp only [List.setIfInBounds_toArray]); (try simp only [List.set_cons_succ]); (try simp only [List.set_cons_zero])
          refine takeD (i := 4) (d := some 29) (v := .agg (arr .u8 e.s)) rfl (by kernel_rfl) (by kernel_rfl) (by kernel_rfl) (by kernel_rfl) (fun _ _ _ h => h) (Or.inl ⟨by kernel_rfl, fun X hX => Or.inl (exec_load 27 (.tmp 28) rfl _ _ rfl (HSC.out X hX))⟩) (by assumption) ?_
          (try simp only [Act.put]); (try simp only [List.setIfInBounds_toArray]); (try simp only [List.set_cons_succ]); (try simp only [List.set_cons_zero])
          refine takeD (i := 5) (d := some 30) (v := ?_) rfl (by kernel_rfl) (by kernel_rfl) (by kernel_rfl) (by kernel_rfl) (fun _ _ _ h => h) (Or.inl ⟨by kernel_rfl, fun X hX => Or.inl ?_⟩) (by assumption) ?_
          rotate_left
          · first | (go_simp; done) | (go_simp; with_reducible rfl)
          (try simp only [Act.put]); (try simp only [List.setIfInBounds_toArray]); (try simp only [List.set_cons_succ]); (try simp only [List.set_cons_zero])
          refine takeD (i := 6) (d := some 31) (v := ?_) rfl (by kernel_rfl) (by kernel_rfl) (by kernel_rfl) (by kernel_rfl) (fun _ _ _ h => h) (Or.inl ⟨by kernel_rfl, fun X hX => Or.inl ?_⟩) (by assumption) ?_
          rotate_left
          · first | (go_simp; done) | (go_simp; with_reducible rfl)
          (try simp only [Act.put]); (try simp only [List.setIfInBounds_toArray]); (try simp only [List.set_cons_succ]); (try simp only [List.set_cons_zero])
          refine takeD (i := 7) (d := some 32) (v := ?_) rfl (by kernel_rfl) (by kernel_rfl) (by kernel_rfl) (by kernel_rfl) (fun _ _ _ h => h) (Or.inl ⟨by kernel_rfl, fun X hX => Or.inl ?_⟩) (by assumption) ?_
          rotate_left
          · first | (go_simp; done) | (go_simp; with_reducible rfl)
          (try simp only [Act.put]); (try simp only [List.setIfInBounds_toArray]); (try simp only [List.set_cons_succ]); (try simp only [List.set_cons_zero])
          refine takeD (i := 8) (d := some 33) (v := ?_) rfl (by kernel_rfl) (by kernel_rfl) (by kernel_rfl) (by kernel_rfl) (fun _ _ _ h => h) (Or.inl ⟨by kernel_rfl, fun X hX => Or.inl ?_⟩) (by assumption) ?_
          rotate_left
          · first | (go_simp; done) | (go_simp; with_reducible rfl)
          (try simp only [Act.put]); (try simp only [List.setIfInBounds_toArray]); (try simp only [List.set_cons_succ]); (try simp only [List.set_cons_zero])
          refine takeD (i := 9) (d := some 34) (v := .int .i64 (e.n : Int)) rfl (by kernel_rfl) (by kernel_rfl) (by kernel_rfl) (by kernel_rfl) (fun _ _ _ h => h) (Or.inl ⟨by kernel_rfl, fun X hX => Or.inl (exec_load 3 (.tmp 33) rfl _ _ rfl (HNC.out X hX))⟩) (by assumption) ?_
          (try simp only [Act.put]); (try simp only [List.setIfInBounds_toArray]); (try simp only [List.set_cons_succ]); (try simp only [List.set_cons_zero])
          refine takeD (i := 10) (d := some 35) (v := ?_) rfl (by kernel_rfl) (by kernel_rfl) (by kernel_rfl) (by kernel_rfl) (fun _ _ _ h => h) (Or.inl ⟨by kernel_rfl, fun X hX => Or.inl ?_⟩) (by assumption) ?_
          rotate_left
          · first | (go_simp; done) | (go_simp; with_reducible rfl)
          (try simp only [Act.put]); (try simp only [List.setIfInBounds_toArray]); (try simp only [List.set_cons_succ]); (try simp only [List.set_cons_zero])
          refine wpAnyH_ready (rs := [11]) (by kernel_rfl) (by simp) ?_
          refine AllReadyH.cons rfl (fun K hK => ?_) AllReadyH.nil
          rw [if_pos (by kernel_rfl)]
          go_simp
          refine (HDD.out _).mono ?_
          rintro ex w3 ⟨rfl, hF3⟩
          have F3 := Lib.hid (hHeld.trans (hF3.mono (fun _ _ h => h.elim)))
          have R3 := Lib.hid ((show Row w2.drew (p + 1) 27 .u8 (List.replicate 32 0) from HR.out).fr hF3 id)
          clear hF3
          refine hK.out _ _ (F3.out) (fun hHeld => ?_)
          clear hK K
          (try simp only [Act.put]); (try simp only [List.setIfInBounds_toArray]); (try simp only [List.set_cons_succ]); (try simp only [List.set_cons_zero])
          refine takeD (i := 12) (d := some 37) (v := ?_) rfl (by kernel_rfl) (by kernel_rfl) (by kernel_rfl) (by kernel_rfl) (fun _ _ _ h => h) (Or.inl ⟨by kernel_rfl, fun X hX => Or.inl ?_⟩) (by assumption) ?_
          rotate_left
          · first | (go_simp; done) | (go_simp; with_reducible rfl)
          (try simp only [Act.put]); (try simp only [List.setIfInBounds_toArray]); (try simp only [List.set_cons_succ]); (try simp only [List.set_cons_zero])
          refine takeD (i := 13) (d := some 38) (v := ?_) rfl (by kernel_rfl) (by kernel_rfl) (by kernel_rfl) (by kernel_rfl) (fun _ _ _ h => h) (Or.inl ⟨by kernel_rfl, fun X hX => Or.inl ?_⟩) (by assumption) ?_
          rotate_left
          · first | (go_simp; done) | (go_simp; with_reducible rfl)
          (try simp only [Act.put]); (try simp only [List.setIfInBounds_toArray]); (try simp only [List.set_cons_succ]); (try simp only [List.set_cons_zero])
          refine wpAnyH_ready (rs := [14]) (by kernel_rfl) (by simp) ?_
          refine AllReadyH.cons rfl (fun K hK => ?_) AllReadyH.nil
          rw [if_pos (by kernel_rfl)]
          refine wp_store_row 27 _ _ rfl (p + 1) rfl (arr .u8 S) rfl R3.out arHash (by rfl) (by rw [arr_size]; exact HSL.out) (arr_one _ _) ?_
          refine hK.out _ _ (fr_setRow (S := fun j => j = p + 1) hHeld (.inl rfl) _) (fun hHeld => ?_)
          clear hK K
          (try simp only [Act.put]); (try simp only [List.setIfInBounds_toArray]); (try simp only [List.set_cons_succ]); (try simp only [List.set_cons_zero])
          refine takeD (i := 15) (d := some 5) (v := ?_) rfl (by kernel_rfl) (by kernel_rfl) (by kernel_rfl) (by kernel_rfl) (fun _ _ _ h => h) (Or.inl ⟨by kernel_rfl, fun X hX => Or.inl ?_⟩) (by assumption) ?_
          rotate_left
          · first | (go_simp; done) | (go_simp; with_reducible rfl)
          (try simp only [Act.put]); (try simp only [List.setIfInBounds_toArray]); (try simp only [List.set_cons_succ]); (try simp only [List.set_cons_zero])
          refine wpAnyH_done (by kernel_rfl) ?_ _
          have HY := Lib.hid ((R3.out.setRow (l' := S)).loadVar arHash HSL.out)
          have HH : Hid (Fr No w (w3.setRow (p + 1) (arr .u8 S))) := Lib.hid (HF.out.trans' hHeld (fun j hj e => by have := HP.out; omega))
          generalize w3.setRow (p + 1) (arr .u8 S) = w8 at *
          clear hHeld
          go_wp2
          exact bodyPost_ret (results_cellT rfl rfl rfl HY.out) rfl ⟨rfl, HH.out⟩
        · have hcan' : can (e.n : Int) i = false := by simpa using hcan
          rw [hcan'] at HCA HTE
          have HNN : Hid ((L.take (k + 1)).find? (tells i) = none) := Lib.hid (HNX.out HTE.out)
          clear hcan hcan' HFD HNX
          go_wp2_with fail
          refine (HCA _).mono ?_
          rintro ex w2 ⟨rfl, rfl⟩
          go_wp2
          exact ⟨⟨k + 1, by omega, rfl, HNN.out, by simp⟩, by simp [intOf]; omega⟩
      | false =>
        have HNN : Hid ((L.take (k + 1)).find? (tells i) = none) := Lib.hid (HNX.out HTE.out)
        clear HFD HNX
        go_wp2
        exact ⟨⟨k + 1, by omega, rfl, HNN.out, by simp⟩, by simp [intOf]; omega⟩
    · obtain rfl : k = 17 := by omega
      rw [← hL, List.take_length] at hf
      obtain ⟨rfl, rfl⟩ := HNO.out hf
      obtain ⟨Y, hY, hYR, hYF⟩ := HR.out.stored (P := Tryd.prog) (l' := List.replicate 32 0) arHash (by rfl) (by rfl)
      have HY := Lib.hid hY
      have HYR := Lib.hid (hYR.loadVar arHash (by rfl))
      have HYF : Hid (Fr No w Y) := Lib.hid (HF.out.trans' hYF (fun j hj e => by have := HP.out; omega))
      clear hY hYR hYF hf
      go_wp2_with (refine wpList_store_eq rfl 27 _ _ rfl (.pointer (some ⟨p + 1, 0, none⟩)) (.agg (arr .u8 (List.replicate 32 0))) rfl rfl HY.out ?_)
      exact bodyPost_ret (results_cellT rfl rfl rfl HYR.out) rfl ⟨rfl, HYF.out⟩
end Go.Proofs.YtnpgcgemifoddaaDoor
