/- What comes into a stream, and its sum. -/
import Derived.Test.YthanfcmpaofggaaDoorDigH
namespace Go.Proofs.YthanfcmpaofggaaDoor
open Go.RowKit
set_option linter.unusedVariables false

theorem St.setRest {w : World} {b : Nat} {V : List Nat} {r r' : List UInt8} {n : Nat} (h : St w b V r n) : St (w.setCell ⟨b, 8, none⟩ (.string (str r'))) b V r' n := by
  refine ⟨fun j v hv => ?_, h.len8, World.cell?_setCell_same _ _ _ h.rest, ?_, fun j => by rw [World.frozen?_setCell]; exact h.fz j⟩
  · have hj : j < 8 := by have := (List.getElem?_eq_some_iff.1 hv).1; rw [List.length_map, h.len8] at this; exact this
    rw [World.cell?_setCell_other _ _ _ _ (by simp <;> omega)]
    exact h.words j v hv
  · rw [World.cell?_setCell_other _ _ _ _ (by simp)]
    exact h.len

theorem St.setLen {w : World} {b : Nat} {V : List Nat} {r : List UInt8} {n : Nat} (h : St w b V r n) (n' : Nat) : St (w.setCell ⟨b, 9, none⟩ (.int .u64 (n' : Int))) b V r n' := by
  refine ⟨fun j v hv => ?_, h.len8, ?_, World.cell?_setCell_same _ _ _ h.len, fun j => by rw [World.frozen?_setCell]; exact h.fz j⟩
  · have hj : j < 8 := by have := (List.getElem?_eq_some_iff.1 hv).1; rw [List.length_map, h.len8] at this; exact this
    rw [World.cell?_setCell_other _ _ _ _ (by simp <;> omega)]
    exact h.words j v hv
  · rw [World.cell?_setCell_other _ _ _ _ (by simp)]
    exact h.rest

/-- What came, and more of it: the words behind it, and what is left. -/
theorem more_words (A s O : List UInt8) (hO : O = A.drop (64 * (A.length / 64)) ++ s) :
    foldL (foldL H0 A (A.length / 64)) (O.take (64 * (O.length / 64))) (O.length / 64) = foldL H0 (A ++ s) ((A ++ s).length / 64) ∧
    O.drop (64 * (O.length / 64)) = (A ++ s).drop (64 * ((A ++ s).length / 64)) := by
  have hO2 : O = (A ++ s).drop (64 * (A.length / 64)) := by rw [hO, List.drop_append_of_le_length (by omega)]
  have hlen : O.length = (A ++ s).length - 64 * (A.length / 64) := by rw [hO2, List.length_drop]
  have hAs : (A ++ s).length = A.length + s.length := List.length_append
  have hq : (A ++ s).length / 64 = A.length / 64 + O.length / 64 := by omega
  constructor
  · rw [foldL_take _ _ _ _ (Nat.le_refl _) (by omega), hq, foldL_add, foldL_append H0 A s _ (by omega), hO2]
  · rw [hq, Nat.mul_add, ← List.drop_drop, ← hO2]

set_option maxHeartbeats 2000000 in
set_option maxRecDepth 100000 in
theorem write_any (b : Nat) (A s : List UInt8) (w : World) (h : SI w b A) (hg : Gl w) (hb : 2 ≤ b) (hs : A.length + s.length ≤ 7000) :
    Calls Tryd.prog 17 #[.pointer (some ⟨b, 0, none⟩), .string (str s)] w fun ex w' => ex = .returned (.tuple #[]) ∧ SI w' b (A ++ s) ∧ Fr (· = b) w w' := by
  have HSI := Lib.hid h
  obtain ⟨hl, V, hV, hVW, hS⟩ := h
  obtain ⟨F, hF⟩ : ∃ F, F = foldL H0 A (A.length / 64) := ⟨_, rfl⟩
  obtain ⟨R, hR⟩ : ∃ R, R = A.drop (64 * (A.length / 64)) := ⟨_, rfl⟩
  obtain ⟨O, hO⟩ : ∃ O, O = R ++ s := ⟨_, rfl⟩
  obtain ⟨n, hn⟩ : ∃ n, n = A.length := ⟨_, rfl⟩
  obtain ⟨o, ho⟩ : ∃ o, o = O.length := ⟨_, rfl⟩
  obtain ⟨m, hm⟩ : ∃ m, m = s.length := ⟨_, rfl⟩
  obtain ⟨n2, hn2⟩ : ∃ n2, n2 = n + m := ⟨_, rfl⟩
  obtain ⟨q, hq⟩ : ∃ q, q = O.length / 64 := ⟨_, rfl⟩
  obtain ⟨wh, hwh⟩ : ∃ wh, wh = q * 64 := ⟨_, rfl⟩
  obtain ⟨T, hT⟩ : ∃ T, T = O.take wh := ⟨_, rfl⟩
  obtain ⟨R2, hR2⟩ : ∃ R2, R2 = O.drop wh := ⟨_, rfl⟩
  obtain ⟨F2, hF2⟩ : ∃ F2, F2 = foldL F T (T.length / 64) := ⟨_, rfl⟩
  have hRl : R.length ≤ 64 := by rw [hR, List.length_drop]; omega
  have hol : o = R.length + m := by rw [ho, hO, List.length_append, hm]
  have hTl : T.length = wh := by rw [hT, List.length_take]; omega
  have hmw := more_words A s O (by rw [hO, hR])
  rw [← hF, show 64 * (O.length / 64) = wh by omega, ← hT, ← hR2, ← hq] at hmw
  have hF2' : F2 = foldL H0 (A ++ s) ((A ++ s).length / 64) := by rw [hF2, hTl, ← hmw.1]; congr 1; omega
  have hFL : F.length = 8 ∧ Ws F := by rw [hF]; exact ⟨(foldL_len _ _ _).trans rfl, foldL_ws _ H0_ws _⟩
  have hF2L : F2.length = 8 ∧ Ws F2 := by rw [hF2]; exact ⟨(foldL_len _ _ _).trans hFL.1, foldL_ws _ hFL.2 _⟩
  have hszR : (str R).size = R.length := str_size R
  have hszs : (str s).size = m := by rw [str_size, hm]
  have hszO : (str O).size = o := by rw [str_size, ho]
  have hRl2 : (R.length : Int) ≤ 64 := by omega
  have hm7 : (m : Int) ≤ 7000 := by omega
  have ho7 : (o : Int) ≤ 7064 := by omega
  have hcat : str R ++ str s = str O := by rw [str_append, hO]
  have e1 : IntKind.i64.wrap ((o : Int) / 64) = (q : Int) := by rw [IntKind.wrap_i64]; omega
  have hq2 : (q : Int) ≤ 200 := by omega
  have e2 : (q : Int) * 64 = (wh : Int) := by omega
  have hwo : (wh : Int) ≤ (o : Int) := by omega
  have hex1 : (str O).extract 0 wh = str T := by rw [str_extract, hT]; simp
  have hex2 : (str O).extract wh o = str R2 := by rw [str_extract, hR2, ho]; congr 1; rw [List.take_of_length_le (by rw [List.length_drop]; omega)]
  have en : (n : Int) + (m : Int) = (n2 : Int) := by omega
  have hn7 : (n2 : Int) ≤ 7000 := by omega
  rw [← hR, ← hn] at hS
  have crest := hS.rest
  have hfo := fun X hX hG => folds_any' b A X hX hG
  rw [← hF] at hfo
  have hfd := fun X hG => folded_any F T X hFL.1 hFL.2 hG (by omega)
  rw [← hF2] at hfd
  have hcl := fun X => clone_any (str R2) X (by rw [str_size, hR2, List.length_drop]; omega)
  have HFO := Lib.hid hfo
  have HFD := Lib.hid hfd
  have HCL := Lib.hid hcl
  have HST := Lib.hid hS
  have HG := Lib.hid hg
  have HB2 := Lib.hid hb
  have HFL := Lib.hid hFL
  have HF2L := Lib.hid hF2L
  have HFin : Hid (F2 = foldL H0 (A ++ s) ((A ++ s).length / 64) ∧ R2 = (A ++ s).drop (64 * ((A ++ s).length / 64)) ∧ n2 = (A ++ s).length ∧ (A ++ s).length ≤ 7000) :=
    Lib.hid ⟨hF2', hmw.2, by rw [List.length_append]; omega, by rw [List.length_append]; omega⟩
  clear hl hV hVW hS hF hR hO hn ho hm hn2 hq hwh hT hR2 hF2 hRl hol hTl hmw hF2' hFL hF2L hfo hfd hcl hg hb hs
  go_enter Tryd.func17, Tryd.ntmps17
  go_wp2_with fail
  refine wp_region_held_drew (S := (fun X => Fr (· = b) w X)) (by kernel_rfl) ((Fr.refl _ w).drew) (fun hHeld => ?_)
  refine takeD (i := 0) (d := some 18) (v := ?_) rfl (by kernel_rfl) (by kernel_rfl) (by kernel_rfl) (by kernel_rfl) (fun _ _ _ h => h) (Or.inl ⟨by kernel_rfl, fun X hX => Or.inl ?_⟩) (by assumption) ?_
  rotate_left
  · first | (go_simp; done) | (go_simp; with_reducible rfl)
  (try simp only [Act.put]); (try simp only [List.setIfInBounds_toArray]); (try simp only [List.set_cons_succ]); (try simp only [List.set_cons_zero])
  refine takeD (i := 1) (d := some 19) (v := ?_) rfl (by kernel_rfl) (by kernel_rfl) (by kernel_rfl) (by kernel_rfl) (fun _ _ _ h => h) (Or.inl ⟨by kernel_rfl, fun X hX => Or.inl ?_⟩) (by assumption) ?_
  rotate_left
  · first | (go_simp; done) | (go_simp; with_reducible rfl)
  (try simp only [Act.put]); (try simp only [List.setIfInBounds_toArray]); (try simp only [List.set_cons_succ]); (try simp only [List.set_cons_zero])
  refine takeD (i := 3) (d := some 21) (v := ?_) rfl (by kernel_rfl) (by kernel_rfl) (by kernel_rfl) (by kernel_rfl) (fun _ _ _ h => h) (Or.inl ⟨by kernel_rfl, fun X hX => Or.inl ?_⟩) (by assumption) ?_
  rotate_left
  · first | (go_simp; done) | (go_simp; with_reducible rfl)
  (try simp only [Act.put]); (try simp only [List.setIfInBounds_toArray]); (try simp only [List.set_cons_succ]); (try simp only [List.set_cons_zero])
  refine takeD (i := 4) (d := some 22) (v := ?_) rfl (by kernel_rfl) (by kernel_rfl) (by kernel_rfl) (by kernel_rfl) (fun _ _ _ h => h) (Or.inl ⟨by kernel_rfl, fun X hX => Or.inl ?_⟩) (by assumption) ?_
  rotate_left
  · first | (go_simp; done) | (go_simp; with_reducible rfl)
  (try simp only [Act.put]); (try simp only [List.setIfInBounds_toArray]); (try simp only [List.set_cons_succ]); (try simp only [List.set_cons_zero])
  refine takeD (i := 5) (d := some 23) (v := ?_) rfl (by kernel_rfl) (by kernel_rfl) (by kernel_rfl) (by kernel_rfl) (fun _ _ _ h => h) (Or.inl ⟨by kernel_rfl, fun X hX => Or.inl ?_⟩) (by assumption) ?_
  rotate_left
  · first | (go_simp; done) | (go_simp; with_reducible rfl)
  (try simp only [Act.put]); (try simp only [List.setIfInBounds_toArray]); (try simp only [List.set_cons_succ]); (try simp only [List.set_cons_zero])
  refine wpAnyH_ready (rs := [2]) (by kernel_rfl) (by simp) ?_
  refine AllReadyH.cons rfl (fun K hK => ?_) AllReadyH.nil
  rw [if_pos (by kernel_rfl)]
  go_simp
  refine (HFO.out _ (SI.fr (S := No) HSI.out ((Fr.refl No w).drew) id) (Gl.fr (S := No) HG.out ((Fr.refl No w).drew) (fun _ _ => id))).mono ?_
  rintro ex w2 ⟨rfl, hF2⟩
  have F2' := Lib.hid (((Fr.refl No w).drew).trans hF2)
  clear hF2
  refine hK.out _ _ (F2'.out.mono (fun _ _ h => h.elim)) (fun hHeld => ?_)
  clear hK K
  (try simp only [Act.put]); (try simp only [List.setIfInBounds_toArray]); (try simp only [List.set_cons_succ]); (try simp only [List.set_cons_zero])
  refine wpAnyH_ready (rs := [6]) (by kernel_rfl) (by simp) ?_
  refine AllReadyH.cons rfl (fun K hK => ?_) AllReadyH.nil
  rw [if_pos (by kernel_rfl)]
  go_simp
  refine (HFD.out w2 (HG.out.fr F2'.out (fun _ _ => id))).mono ?_
  rintro ex w3 ⟨rfl, hF3⟩
  have F3' := Lib.hid (F2'.out.trans hF3)
  clear hF3
  obtain ⟨Y, hY, hYS, hYF⟩ := (HST.out.fr F3'.out id).store (V' := F2) HF2L.out.1
  have HY := Lib.hid hY
  have HYS := Lib.hid hYS
  have HYF := Lib.hid ((F3'.out.mono (fun _ _ h => h.elim)).trans hYF)
  clear hY hYS hYF
  refine hK.out _ _ (F3'.out.mono (fun _ _ h => h.elim)) (fun hHeld => ?_)
  clear hK K
  (try simp only [Act.put]); (try simp only [List.setIfInBounds_toArray]); (try simp only [List.set_cons_succ]); (try simp only [List.set_cons_zero])
  refine takeD (i := 7) (d := some 25) (v := ?_) rfl (by kernel_rfl) (by kernel_rfl) (by kernel_rfl) (by kernel_rfl) (fun _ _ _ h => h) (Or.inl ⟨by kernel_rfl, fun X hX => Or.inl ?_⟩) (by assumption) ?_
  rotate_left
  · first | (go_simp; done) | (go_simp; with_reducible rfl)
  (try simp only [Act.put]); (try simp only [List.setIfInBounds_toArray]); (try simp only [List.set_cons_succ]); (try simp only [List.set_cons_zero])
  refine takeD (i := 8) (d := some 26) (v := ?_) rfl (by kernel_rfl) (by kernel_rfl) (by kernel_rfl) (by kernel_rfl) (fun _ _ _ h => h) (Or.inl ⟨by kernel_rfl, fun X hX => Or.inl ?_⟩) (by assumption) ?_
  rotate_left
  · first | (go_simp; done) | (go_simp; with_reducible rfl)
  (try simp only [Act.put]); (try simp only [List.setIfInBounds_toArray]); (try simp only [List.set_cons_succ]); (try simp only [List.set_cons_zero])
  refine wpAnyH_ready (rs := [9]) (by kernel_rfl) (by simp) ?_
  refine AllReadyH.cons rfl (fun K hK => ?_) AllReadyH.nil
  rw [if_pos (by kernel_rfl)]
  refine wp_store_eq 29 _ _ rfl (.pointer (some ⟨b, 0, none⟩)) (.agg (arr .u32 F2)) rfl rfl HY.out ?_
  refine hK.out _ _ (HYF.out) (fun hHeld => ?_)
  clear hK K
  (try simp only [Act.put]); (try simp only [List.setIfInBounds_toArray]); (try simp only [List.set_cons_succ]); (try simp only [List.set_cons_zero])
  refine wpAnyH_done (by kernel_rfl) ?_ _
  clear crest
  have crest := HYS.out.rest
  have clen := HYS.out.len
  have frest := HYS.out.fz 8
  have hX := Lib.hid hHeld
  clear hHeld
  go_wp2_with fail
  refine (HCL.out _).mono ?_
  rintro ex w5 ⟨rfl, hF5⟩
  have S5 := Lib.hid (HYS.out.fr (S := No) hF5 id)
  have F5 := Lib.hid (HYF.out.trans (hF5.mono (fun _ _ h => h.elim)))
  clear crest clen frest hF5
  have crest := S5.out.rest
  have clen := S5.out.len
  have frest := S5.out.fz 8
  have flen := S5.out.fz 9
  go_wp2
  go_end0
  have hfin := HFin.out
  have hS := (S5.out.setRest (r' := R2)).setLen n2
  refine ⟨rfl, ⟨hfin.2.2.2, F2, fun _ => hfin.1, HF2L.out.2, ?_⟩, (F5.out.setCell (.inl rfl) _).setCell (.inl rfl) _⟩
  rw [← hfin.2.1, ← hfin.2.2.1]
  exact hS
end Go.Proofs.YthanfcmpaofggaaDoor
