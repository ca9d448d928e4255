/- The document's Insert. -/
import Derived.Test.YtnpgcgemifoddaaDoorShE
namespace Go.Proofs.YtnpgcgemifoddaaDoor
open Go.RowKit
set_option linter.unusedVariables false

theorem alloc_rshelf (w : World) : (Instr.alloc 37 true (.tuple #[])).run Tryd.prog w = .ok (.pointer (some ⟨w.heap.size, 0, none⟩)) (w.alloc (.cells (flat zeroL).toArray 37)) := by kernel_rfl
theorem build_rshelf (w : World) : (Instr.build 37 #[]).run Tryd.prog w = .ok (.agg (flat zeroL).toArray) w := by kernel_rfl
theorem build_shelf (w : World) : (Instr.build 32 #[]).run Tryd.prog w = .ok (.agg (flat zeroL).toArray) w := by kernel_rfl
theorem alloc_rshelf2 (w : World) (L : List Ent) (h : List Nat) : (Instr.alloc 37 true (.tuple #[])).run Tryd.prog ((w.alloc (.cells (flat L).toArray 37)).alloc (.cells (arr .u8 h) 27)) =
    .ok (.pointer (some ⟨w.heap.size + 1 + 1, 0, none⟩)) (((w.alloc (.cells (flat L).toArray 37)).alloc (.cells (arr .u8 h) 27)).alloc (.cells (flat zeroL).toArray 37)) := by
  have := alloc_rshelf ((w.alloc (.cells (flat L).toArray 37)).alloc (.cells (arr .u8 h) 27))
  rwa [World.size_alloc, World.size_alloc] at this
theorem exec_alloc {P : Program} {o : Oper} {ev : Operand → Value} {w w' : World} (t : TypeId) (ho : o.op = .alloc t) (v : Value) (hr : (Instr.alloc t true (.tuple #[])).run P w = .ok v w') : (execOp ev o).run P w = .ok (.value v) w' := by
  unfold execOp
  simp only [ho, hr, Sem.run_bind, Sem.run_pure, Result.andThen_ok]

set_option maxRecDepth 100000 in
set_option maxHeartbeats 1000000 in
theorem build_entry (i : Int) (h : List Nat) (hh : h.length = 32) (w : World) :
    (Instr.build 34 #[(0, .bool true), (1, .int .i64 i), (2, .agg (arr .u8 h))]).run Tryd.prog w = .ok (.agg (Value.bool true :: .int .i64 i :: h.map (vi .u8)).toArray) w := by
  obtain ⟨x0, h1, rfl, k1⟩ := list_succ hh
  obtain ⟨x1, h2, rfl, k2⟩ := list_succ k1
  obtain ⟨x2, h3, rfl, k3⟩ := list_succ k2
  obtain ⟨x3, h4, rfl, k4⟩ := list_succ k3
  obtain ⟨x4, h5, rfl, k5⟩ := list_succ k4
  obtain ⟨x5, h6, rfl, k6⟩ := list_succ k5
  obtain ⟨x6, h7, rfl, k7⟩ := list_succ k6
  obtain ⟨x7, h8, rfl, k8⟩ := list_succ k7
  obtain ⟨x8, h9, rfl, k9⟩ := list_succ k8
  obtain ⟨x9, h10, rfl, k10⟩ := list_succ k9
  obtain ⟨x10, h11, rfl, k11⟩ := list_succ k10
  obtain ⟨x11, h12, rfl, k12⟩ := list_succ k11
  obtain ⟨x12, h13, rfl, k13⟩ := list_succ k12
  obtain ⟨x13, h14, rfl, k14⟩ := list_succ k13
  obtain ⟨x14, h15, rfl, k15⟩ := list_succ k14
  obtain ⟨x15, h16, rfl, k16⟩ := list_succ k15
  obtain ⟨x16, h17, rfl, k17⟩ := list_succ k16
  obtain ⟨x17, h18, rfl, k18⟩ := list_succ k17
  obtain ⟨x18, h19, rfl, k19⟩ := list_succ k18
  obtain ⟨x19, h20, rfl, k20⟩ := list_succ k19
  obtain ⟨x20, h21, rfl, k21⟩ := list_succ k20
  obtain ⟨x21, h22, rfl, k22⟩ := list_succ k21
  obtain ⟨x22, h23, rfl, k23⟩ := list_succ k22
  obtain ⟨x23, h24, rfl, k24⟩ := list_succ k23
  obtain ⟨x24, h25, rfl, k25⟩ := list_succ k24
  obtain ⟨x25, h26, rfl, k26⟩ := list_succ k25
  obtain ⟨x26, h27, rfl, k27⟩ := list_succ k26
  obtain ⟨x27, h28, rfl, k28⟩ := list_succ k27
  obtain ⟨x28, h29, rfl, k29⟩ := list_succ k28
  obtain ⟨x29, h30, rfl, k30⟩ := list_succ k29
  obtain ⟨x30, h31, rfl, k31⟩ := list_succ k30
  obtain ⟨x31, h32, rfl, k32⟩ := list_succ k31
  obtain rfl : h32 = [] := List.eq_nil_of_length_eq_zero k32
  kernel_rfl

theorem flat_var {w : World} {b : Nat} {t : TypeId} {L : List Ent} (h : Blk w b t (flat L)) (hL : L.length = 17) : (Go.loadVar 37 ⟨b, 0, none⟩).run Tryd.prog w = .ok (.agg (flat L).toArray) w :=
  run_loadVar_mid w b 0 37 (flat L) _ h.whole Tryd.underlying37 rfl (by rw [flat_len, hL]; kernel_rfl)
theorem flat_stored {w : World} {b : Nat} {t : TypeId} {L : List Ent} (h : Blk w b t (flat L)) (hL : L.length = 17) (L' : List Ent) (hL' : L'.length = 17) :
    ∃ V, (Instr.storeAt 37 (.pointer (some ⟨b, 0, none⟩)) (.agg (flat L').toArray)).run Tryd.prog w = .ok () V ∧ Blk V b t (flat L') ∧ Fr (· = b) w V :=
  h.stored (P := Tryd.prog) (ty := 37) (flat L') (by rw [flat_len, flat_len, hL, hL']) (by rw [flat_len, hL']; kernel_rfl) (flat_one L')
theorem entry_store {V : World} {b : Nat} {L : List Ent} (h : Blk V b 37 (flat L)) {i : Nat} (hi : i < L.length) (M : Ent) : ∃ Z, (Instr.storeAt 34 (.pointer (some ⟨b, i * 34, none⟩)) (.agg M.cells.toArray)).run Tryd.prog V = .ok () Z ∧
    Blk Z b 37 (flat (L.set i M)) ∧ Fr (· = b) V Z :=
  ⟨_, store_range (h.there (by rw [flat_len, M.size]; omega)) (by rw [M.size]; kernel_rfl) M.one _ rfl, place_put h hi M, fr_setCells _ _ _ _ _ (.inl rfl) (Fr.refl _ _)⟩

/-- A world in Insert: the shelf's box, the secret's, and the result's variable. -/
structure InsR (w : World) (L : List Ent) (h : List Nat) (W : World) : Prop where
  fr : Fr No w W
  blk : Blk W w.heap.size 37 (flat L)
  row : Row W (w.heap.size + 1) 27 .u8 h
  res : Blk W (w.heap.size + 1 + 1) 37 (flat zeroL)
theorem InsR.on {w W W' : World} {L : List Ent} {h : List Nat} (k : InsR w L h W) (f : Fr No W W') : InsR w L h W' := ⟨k.fr.trans f, k.blk.fr f id, k.row.fr f id, k.res.fr f id⟩
theorem InsR.new (w : World) (L : List Ent) (h : List Nat) : InsR w L h (((w.alloc (.cells (flat L).toArray 37)).alloc (.cells (arr .u8 h) 27)).alloc (.cells (flat zeroL).toArray 37)) := by
  have h3 := Blk.new ((w.alloc (.cells (flat L).toArray 37)).alloc (.cells (arr .u8 h) 27)) 37 (flat zeroL)
  rw [World.size_alloc, World.size_alloc] at h3
  exact ⟨(((Fr.refl No w).alloc _).alloc _).alloc _, ((Blk.new w 37 (flat L)).alloc _).alloc _, (Row.new2 w _ 27 .u8 h).alloc _, h3⟩
theorem InsR.put {w W : World} {L : List Ent} {h : List Nat} (k : InsR w L h W) (L' : List Ent) (hL' : L'.length = 17) : ∃ Y, (Instr.storeAt 37 (.pointer (some ⟨w.heap.size + 1 + 1, 0, none⟩)) (.agg (flat L').toArray)).run Tryd.prog W = .ok () Y ∧
    (Go.loadVar 37 ⟨w.heap.size + 1 + 1, 0, none⟩).run Tryd.prog Y = .ok (.agg (flat L').toArray) Y ∧ Fr No w Y := by
  obtain ⟨Y, h1, h2, h3⟩ := flat_stored k.res (by simp [zeroL]) L' hL'
  exact ⟨Y, h1, flat_var h2 hL', k.fr.trans' h3 (fun j hj e => by omega)⟩

set_option maxRecDepth 100000 in
set_option maxHeartbeats 2000000 in
theorem rinsert_no (L : List Ent) (i : Int) (h : List Nat) (w : World) (hL : L.length = 17) (hn : num i = false) :
    Calls Tryd.prog 9 #[.agg (flat L).toArray, .int .i64 i, .agg (arr .u8 h)] w fun ex w' => ex = .returned (.tuple #[.agg (flat L).toArray, .int .i64 1]) ∧ Fr No w w' := by
  have HI := Lib.hid (InsR.new w L h)
  have HAL := Lib.hid (alloc_rshelf2 w L h)
  have HLD := Lib.hid (flat_load HI.out.blk hL)
  obtain ⟨Y, hY, hYL, hYF⟩ := HI.out.put L hL
  have HY := Lib.hid hY
  have HYL := Lib.hid hYL
  have HYF := Lib.hid hYF
  have hor : i < 0 ∨ ¬ i < 0 ∧ 65535 < i := by
    simp only [num, Bool.and_eq_false_iff, decide_eq_false_iff_not] at hn
    omega
  clear hY hYL hYF hn
  rcases hor with h0 | ⟨h0, h1⟩
  · go_enter Tryd.func9, Tryd.ntmps9
    go_wp2_with (first
      | (refine wpList_execG (.pointer (some ⟨w.heap.size + 1 + 1, 0, none⟩)) (exec_alloc 37 rfl _ HAL.out) rfl ?_)
      | (refine wpList_load_eq rfl 37 _ rfl (.pointer (some ⟨w.heap.size, 0, none⟩)) (.agg (flat L).toArray) rfl HLD.out ?_)
      | (refine wpList_store_eq rfl 37 _ _ rfl (.pointer (some ⟨w.heap.size + 1 + 1, 0, none⟩)) (.agg (flat L).toArray) rfl rfl HY.out ?_))
    exact bodyPost_ret (results_cellT rfl rfl rfl HYL.out) rfl ⟨rfl, HYF.out⟩
  · go_enter Tryd.func9, Tryd.ntmps9
    go_wp2_with (first
      | (refine wpList_execG (.pointer (some ⟨w.heap.size + 1 + 1, 0, none⟩)) (exec_alloc 37 rfl _ HAL.out) rfl ?_)
      | (refine wpList_load_eq rfl 37 _ rfl (.pointer (some ⟨w.heap.size, 0, none⟩)) (.agg (flat L).toArray) rfl HLD.out ?_)
      | (refine wpList_store_eq rfl 37 _ _ rfl (.pointer (some ⟨w.heap.size + 1 + 1, 0, none⟩)) (.agg (flat L).toArray) rfl rfl HY.out ?_))
    exact bodyPost_ret (results_cellT rfl rfl rfl HYL.out) rfl ⟨rfl, HYF.out⟩

theorem InsR.set {w W : World} {L : List Ent} {h : List Nat} (k : InsR w L h W) {i : Nat} (hi : i < L.length) (M : Ent) : ∃ Z, (Instr.storeAt 34 (.pointer (some ⟨w.heap.size, i * 34, none⟩)) (.agg M.cells.toArray)).run Tryd.prog W = .ok () Z ∧ InsR w (L.set i M) h Z := by
  obtain ⟨Z, h1, h2, h3⟩ := entry_store k.blk hi M
  exact ⟨Z, h1, ⟨k.fr.trans' h3 (fun j hj e => by omega), h2, k.row.fr h3 (by omega), k.res.fr h3 (by omega)⟩⟩
theorem refused_part {L : List Ent} {i : Int} {h : List Nat} {P k : Nat} (hk : k ≤ P) (hx : (L.take k).any (badE i h) = true) : (L.take P).any (badE i h) = true := by
  obtain ⟨r, hr⟩ : L.take k <+: L.take P := List.take_prefix_take_left hk
  rw [← hr, List.any_append, hx]
  rfl
theorem any_next {L : List Ent} {k : Nat} {e : Ent} (f : Ent → Bool) (he : L[k]? = some e) (hn : (L.take k).any f = false) : (L.take (k + 1)).any f = f e := by
  rw [List.take_add_one, he, List.any_append, hn]
  simp

set_option maxRecDepth 100000 in
set_option maxHeartbeats 4000000 in
theorem rinsert_ok (L : List Ent) (i : Nat) (h : List Nat) (w : World) (hi : i < 65536) (hh : H32 h) (hL : L.length = 17) :
    Calls Tryd.prog 9 #[.agg (flat L).toArray, .int .i64 (i : Int), .agg (arr .u8 h)] w fun ex w' =>
      ex = .returned (.tuple #[.agg (flat (if refused L i h then L else L.set (placeN i) ⟨true, i, h, hh, hi⟩)).toArray, .int .i64 (if refused L i h then 50 else 0)]) ∧ Fr No w w' := by
  have HPL : Hid (∀ X, Calls Tryd.prog 20 #[.int .i64 (i : Int)] X fun ex w' => ex = .returned (.int .i64 (placeN i : Int)) ∧ w' = X) := Lib.hid (fun X => rplace_ok i X hi)
  have hrb : refused L (i : Int) h = (L.take (placeN i)).any (badE (i : Int) h) := by rw [refused, place_of hi]
  obtain ⟨P, hP⟩ : ∃ P, P = placeN i := ⟨_, rfl⟩
  have HP16 : Hid (P ≤ 16) := Lib.hid (by rw [hP]; exact (placeN_is i).le)
  rw [← hP] at HPL hrb ⊢
  obtain ⟨c, hc⟩ : ∃ c, c = refused L (i : Int) h := ⟨_, rfl⟩
  rw [← hc] at hrb ⊢
  have HR := Lib.hid hrb
  obtain ⟨M, hM⟩ : ∃ M : Ent, M = ⟨true, i, h, hh, hi⟩ := ⟨_, rfl⟩
  have HM : Hid (M.cells = .bool true :: .int .i64 (i : Int) :: h.map (vi .u8)) := Lib.hid (by rw [hM]; rfl)
  rw [← hM]
  have HH := Lib.hid hh
  have HLL := Lib.hid hL
  have HI := Lib.hid (InsR.new w L h)
  have HAL := Lib.hid (alloc_rshelf2 w L h)
  have n0 : ¬ ((i : Int) < 0) := by omega
  have n1 : (i : Int) ≤ 65535 := by omega
  clear hM hP hc hi hh hrb hL
  go_enter Tryd.func9, Tryd.ntmps9
  go_wp2_with (first
    | (refine wpList_execG (.pointer (some ⟨w.heap.size + 1 + 1, 0, none⟩)) (exec_alloc 37 rfl _ HAL.out) rfl ?_
       refine wpList_world (fun W => InsR w L h W) HI.out ?_
       intro W0 hI0
       have HI0 := Lib.hid hI0
       clear hI0))
  refine (HPL.out _).mono ?_
  rintro ex w1 ⟨rfl, rfl⟩
  go_wp2_with fail
  go_loopw [9] (fun cc wr => ∃ k : Nat, k ≤ P ∧ cc = .int .i64 (k : Int) ∧ (L.take k).any (badE (i : Int) h) = false ∧ InsR w L h wr) (fun cc _ => P - (intOf cc).toNat)
  case atStart => exact ⟨0, by omega, rfl, rfl, HI0.out⟩
  case round =>
    obtain ⟨k, hk, rfl, hf, hIW⟩ := hrel
    have HIW := Lib.hid hIW
    have HP17 : Hid (P < 17) := Lib.hid (by have := HP16.out; omega)
    by_cases hlt : k < P
    · have h1 : (k : Int) < (P : Int) := by omega
      have h17 : (k : Int) < 17 := by have := HP16.out; omega
      obtain ⟨e, he⟩ : ∃ e, L[k]? = some e := ⟨_, List.getElem?_eq_getElem (by have := HLL.out; have := HP16.out; omega)⟩
      have hc := place_has hIW.blk he
      have hn := place_num hIW.blk he
      have e2 : IntKind.i64.wrap ((k : Int) + 1) = ((k + 1 : Nat) : Int) := IntWalk.i64_in _ (by have := HP16.out; omega)
      have HNX : Hid ((L.take (k + 1)).any (badE (i : Int) h) = (e.has && (can (i : Int) (e.n : Int) && !(dSec h (i : Int) (e.n : Int) == e.s)))) := Lib.hid (any_next _ he hf)
      have HBT : Hid ((L.take (k + 1)).any (badE (i : Int) h) = true → c = true) := Lib.hid (fun hx => HR.out.trans (refused_part (by omega) hx))
      have HCA := fun X => rcan_any (i : Int) (e.n : Int) X
      obtain ⟨x, hx0⟩ : ∃ x, x = e.has := ⟨_, rfl⟩
      rw [← hx0] at hc HNX
      clear hf hx0
      cases x with
      | true =>
        by_cases hcan : can (i : Int) (e.n : Int) = true
        · rw [hcan] at HCA HNX
          have e0 : dErr (i : Int) (e.n : Int) = 0 := by rw [dErr, if_pos hcan]
          have HDD : Hid (∀ X, Calls Tryd.prog 19 #[.agg (arr .u8 h), .int .i64 (i : Int), .int .i64 (e.n : Int)] X fun ex w' => ex = .returned (.tuple #[.agg (arr .u8 (dSec h (i : Int) (e.n : Int))), .int .i64 0]) ∧ Fr No X w') := Lib.hid (fun X => by
            have := rderive_any h (i : Int) (e.n : Int) X HH.out
            rwa [e0] at this)
          obtain ⟨D, hD⟩ : ∃ D, D = dSec h (i : Int) (e.n : Int) := ⟨_, rfl⟩
          have HDL : Hid (D.length = 32) := Lib.hid (by rw [hD]; exact (dSec_h HH.out _ _).len)
          rw [← hD] at HDD HNX
          obtain ⟨z, hz⟩ : ∃ z, z = !(D == e.s) := ⟨_, rfl⟩
          rw [← hz, Bool.true_and, Bool.true_and] at HNX
          have HNE : Hid (∀ X, (binOp .neq 27 (.agg (arr .u8 D)) (.agg (arr .u8 e.s))).run Tryd.prog X = .ok (.bool z) X) := Lib.hid (fun X => by rw [hz]; exact neq_hash D e.s HDL.out e.hs.len X)
          have HHL : Hid (∀ X, Fr No wr X → (Instr.loadAt 27 (.pointer (some ⟨w.heap.size + 1, 0, none⟩))).run Tryd.prog X = .ok (.agg (arr .u8 h)) X) := Lib.hid (fun X hX => (HIW.out.on hX).row.load arHash HH.out.len)
          have HSC : Hid (∀ X, Fr No wr X → (Instr.loadAt 27 (.pointer (some ⟨w.heap.size, k * 34 + 2, none⟩))).run Tryd.prog X = .ok (.agg (arr .u8 e.s)) X) := Lib.hid (fun X hX => load_range _ (place_sec (HIW.out.on hX).blk he) Tryd.underlying27 rfl (by rw [List.length_map, e.hs.len]; kernel_rfl) _ rfl)
          have HNC : Hid (∀ X, Fr No wr X → (Instr.loadAt 3 (.pointer (some ⟨w.heap.size, k * 34 + 1, none⟩))).run Tryd.prog X = .ok (.int .i64 (e.n : Int)) X) := Lib.hid (fun X hX => by
            have hn' := place_num (HIW.out.on hX).blk he
            simp [go_sem, hn'])
          clear hcan e0 hIW hD hz
          cases z with
          | true =>
            obtain rfl := HBT.out HNX.out
            go_wp2_with fail
            refine (HCA _).mono ?_
            rintro ex w2 ⟨rfl, rfl⟩
            go_wp2_with fail
            refine wp_region_held_drew (S := (fun X => Fr No w2 X)) (by kernel_rfl) ((Fr.refl _ w2).drew) (fun hHeld => ?_)
            refine takeD (i := 0) (d := some 41) (v := .agg (arr .u8 h)) rfl (by kernel_rfl) (by kernel_rfl) (by kernel_rfl) (by kernel_rfl) (fun _ _ _ h => h) (Or.inl ⟨by kernel_rfl, fun X hX => Or.inl (exec_load 27 (.tmp 5) rfl _ _ rfl (HHL.out X hX))⟩) (by assumption) ?_
            (try simp only [Act.put]); (try simp only [List.setIfInBounds_toArray]); (try simp only [List.set_cons_succ]); (try simp only [List.set_cons_zero])
            refine takeD (i := 1) (d := some 42) (v := ?_) rfl (by kernel_rfl) (by kernel_rfl) (by kernel_rfl) (by kernel_rfl) (fun _ _ _ h => h) (Or.inl ⟨by kernel_rfl, fun X hX => Or.inl ?_⟩) (by assumption) ?_
            rotate_left
            · first | (go_simp; done) | (go_simp; with_reducible rfl)
            (try simp only [Act.put]); (try simp only [List.setIfInBounds_toArray]); (try simp only [List.set_cons_succ]); (try simp only [List.set_cons_zero])
            refine takeD (i := 2) (d := some 43) (v := ?_) rfl (by kernel_rfl) (by kernel_rfl) (by kernel_rfl) (by kernel_rfl) (fun _ _ _ h => h) (Or.inl ⟨by kernel_rfl, fun X hX => Or.inl ?_⟩) (by assumption) ?_
            rotate_left
            · first | (go_simp; done) | (go_simp; with_reducible rfl)
            (try simp only [Act.put]); (try simp only [List.setIfInBounds_toArray]); (try simp only [List.set_cons_succ]); (try simp only [List.set_cons_zero])
            refine takeD (i := 3) (d := some 44) (v := ?_) rfl (by kernel_rfl) (by kernel_rfl) (by kernel_rfl) (by kernel_rfl) (fun _ _ _ h => h) (Or.inl ⟨by kernel_rfl, fun X hX => Or.inl ?_⟩) (by assumption) ?_
            rotate_left
            · first | (go_simp; done) | (go_simp; with_reducible rfl)
            (try simp only [Act.put]); (try simp only [List.setIfInBounds_toArray]); (try simp only [List.set_cons_succ]); (try simp only [List.set_cons_zero])
            refine takeD (i := 4) (d := some 45) (v := ?_) rfl (by kernel_rfl) (by kernel_rfl) (by kernel_rfl) (by kernel_rfl) (fun _ _ _ h => h) (Or.inl ⟨by kernel_rfl, fun X hX => Or.inl ?_⟩) (by assumption) ?_
            rotate_left
            · first | (go_simp; done) | (go_simp; with_reducible rfl)
            (try simp only [Act.put]); (try simp only [List.setIfInBounds_toArray]); (try simp only [List.set_cons_succ]); (try simp only [List.set_cons_zero])
            refine takeD (i := 5) (d := some 46) (v := ?_) rfl (by kernel_rfl) (by kernel_rfl) (by kernel_rfl) (by kernel_rfl) (fun _ _ _ h => h) (Or.inl ⟨by kernel_rfl, fun X hX => Or.inl ?_⟩) (by assumption) ?_
            rotate_left
            · first | (go_simp; done) | (go_simp; with_reducible rfl)
            (try simp only [Act.put]); (try simp only [List.setIfInBounds_toArray]); (try simp only [List.set_cons_succ]); (try simp only [List.set_cons_zero])
            refine takeD (i := 6) (d := some 47) (v := .int .i64 (e.n : Int)) rfl (by kernel_rfl) (by kernel_rfl) (by kernel_rfl) (by kernel_rfl) (fun _ _ _ h => h) (Or.inl ⟨by kernel_rfl, fun X hX => Or.inl (exec_load 3 (.tmp 46) rfl _ _ rfl (HNC.out X hX))⟩) (by assumption) ?_
            (try simp only [Act.put]); (try simp only [List.setIfInBounds_toArray]); (try simp only [List.set_cons_succ]); (try simp only [List.set_cons_zero])
            refine wpAnyH_ready (rs := [7, 11]) (by kernel_rfl) (by simp) ?_
            refine (AllReadyH.cons rfl (fun K hK => ?_) (AllReadyH.cons rfl (fun K hK => ?_) AllReadyH.nil))
            · rw [if_pos (by kernel_rfl)]
              go_simp
              refine (HDD.out _).mono ?_
              rintro ex v3 ⟨rfl, hF3⟩
              have F3 := Lib.hid (hHeld.trans hF3)
              clear hF3
              refine hK.out _ _ (F3.out) (fun hHeld => ?_)
              clear hK K
              (try simp only [Act.put]); (try simp only [List.setIfInBounds_toArray]); (try simp only [List.set_cons_succ]); (try simp only [List.set_cons_zero])
              refine takeD (i := 8) (d := some 40) (v := ?_) rfl (by kernel_rfl) (by kernel_rfl) (by kernel_rfl) (by kernel_rfl) (fun _ _ _ h => h) (Or.inl ⟨by kernel_rfl, fun X hX => Or.inl ?_⟩) (by assumption) ?_
              rotate_left
              · first | (go_simp; done) | (go_simp; with_reducible rfl)
              (try simp only [Act.put]); (try simp only [List.setIfInBounds_toArray]); (try simp only [List.set_cons_succ]); (try simp only [List.set_cons_zero])
              refine takeD (i := 9) (d := some 49) (v := ?_) rfl (by kernel_rfl) (by kernel_rfl) (by kernel_rfl) (by kernel_rfl) (fun _ _ _ h => h) (Or.inl ⟨by kernel_rfl, fun X hX => Or.inl ?_⟩) (by assumption) ?_
              rotate_left
              · first | (go_simp; done) | (go_simp; with_reducible rfl)
              (try simp only [Act.put]); (try simp only [List.setIfInBounds_toArray]); (try simp only [List.set_cons_succ]); (try simp only [List.set_cons_zero])
              refine takeD (i := 10) (d := some 50) (v := ?_) rfl (by kernel_rfl) (by kernel_rfl) (by kernel_rfl) (by kernel_rfl) (fun _ _ _ h => h) (Or.inl ⟨by kernel_rfl, fun X hX => Or.inl ?_⟩) (by assumption) ?_
              rotate_left
              · first | (go_simp; done) | (go_simp; with_reducible rfl)
              (try simp only [Act.put]); (try simp only [List.setIfInBounds_toArray]); (try simp only [List.set_cons_succ]); (try simp only [List.set_cons_zero])
              refine wpAnyH_ready (rs := [11]) (by kernel_rfl) (by simp) ?_
              refine AllReadyH.cons rfl (fun K hK => ?_) AllReadyH.nil
              rw [if_pos (by kernel_rfl)]
              go_simp
              refine K_world (K := K) (fun W => Fr No v3 W ∧ Row W v3.heap.size 27 .u8 (List.replicate 32 0)) ⟨(Fr.refl No v3).alloc _, Row.new v3 27 .u8 (List.replicate 32 0)⟩ ?_
              rintro X3 ⟨hX, hRX⟩
              have RX3 := Lib.hid hRX
              have FX3 := Lib.hid (F3.out.trans hX)
              clear hX hRX
              refine hK.out _ _ (FX3.out) (fun hHeld => ?_)
              clear hK K
              (try simp only [Act.put]); (try simp only [List.setIfInBounds_toArray]); (try simp only [List.set_cons_succ]); (try simp only [List.set_cons_zero])
              refine wpAnyH_ready (rs := [12]) (by kernel_rfl) (by simp) ?_
              refine AllReadyH.cons rfl (fun K hK => ?_) AllReadyH.nil
              rw [if_pos (by kernel_rfl)]
              refine wp_store_row 27 _ _ rfl v3.heap.size rfl (arr .u8 D) rfl RX3.out arHash (by rfl) (by rw [arr_size]; exact HDL.out) (arr_one _ _) ?_
              refine hK.out _ _ (fr_setRow hHeld (.inr F3.out.size) _) (fun hHeld => ?_)
              clear hK K
              (try simp only [Act.put]); (try simp only [List.setIfInBounds_toArray]); (try simp only [List.set_cons_succ]); (try simp only [List.set_cons_zero])
              refine takeD (i := 13) (d := some 11) (v := ?_) rfl (by kernel_rfl) (by kernel_rfl) (by kernel_rfl) (by kernel_rfl) (fun _ _ _ h => h) (Or.inl ⟨by kernel_rfl, fun X hX => Or.inl ?_⟩) (by assumption) ?_
              rotate_left
              · first | (go_simp; done) | (go_simp; with_reducible rfl)
              (try simp only [Act.put]); (try simp only [List.setIfInBounds_toArray]); (try simp only [List.set_cons_succ]); (try simp only [List.set_cons_zero])
              refine wpAnyH_done (by kernel_rfl) ?_ _
              have HH8 := Lib.hid hHeld
              have HRW := Lib.hid (Row.setRow (l' := D) RX3.out)
              generalize X3.setRow v3.heap.size (arr .u8 D) = W8 at *
              clear hHeld
              have HI8 := Lib.hid (HIW.out.on HH8.out)
              go_wp2_with fail
              refine wp_region_held_drew (S := (fun X => Fr No W8 X)) (by kernel_rfl) ((Fr.refl _ W8).drew) (fun hHeld => ?_)
              refine takeD (i := 0) (d := some 51) (v := .agg (arr .u8 D)) rfl (by kernel_rfl) (by kernel_rfl) (by kernel_rfl) (by kernel_rfl) (fun _ _ _ h => h) (Or.inl ⟨by kernel_rfl, fun X hX => Or.inl (exec_load 27 (.tmp 10) rfl _ _ rfl ((HRW.out.fr hX id).load arHash HDL.out))⟩) (by assumption) ?_
              (try simp only [Act.put]); (try simp only [List.setIfInBounds_toArray]); (try simp only [List.set_cons_succ]); (try simp only [List.set_cons_zero])
              refine takeD (i := 1) (d := some 52) (v := ?_) rfl (by kernel_rfl) (by kernel_rfl) (by kernel_rfl) (by kernel_rfl) (fun _ _ _ h => h) (Or.inl ⟨by kernel_rfl, fun X hX => Or.inl ?_⟩) (by assumption) ?_
              rotate_left
              · first | (go_simp; done) | (go_simp; with_reducible rfl)
              (try simp only [Act.put]); (try simp only [List.setIfInBounds_toArray]); (try simp only [List.set_cons_succ]); (try simp only [List.set_cons_zero])
              refine takeD (i := 2) (d := some 53) (v := ?_) rfl (by kernel_rfl) (by kernel_rfl) (by kernel_rfl) (by kernel_rfl) (fun _ _ _ h => h) (Or.inl ⟨by kernel_rfl, fun X hX => Or.inl ?_⟩) (by assumption) ?_
              rotate_left
              · first | (go_simp; done) | (go_simp; with_reducible rfl)
              (try simp only [Act.put]); (try simp only [List.setIfInBounds_toArray]); (try simp only [List.set_cons_succ]); (try simp only [List.set_cons_zero])
              refine takeD (i := 3) (d := some 54) (v := ?_) rfl (by kernel_rfl) (by kernel_rfl) (by kernel_rfl) (by kernel_rfl) (fun _ _ _ h => h) (Or.inl ⟨by kernel_rfl, fun X hX => Or.inl ?_⟩) (by assumption) ?_
              rotate_left
              · first | (go_simp; done) | (go_simp; with_reducible rfl)
              (try simp only [Act.put]); (try simp only [List.setIfInBounds_toArray]); (try simp only [List.set_cons_succ]); (try simp only [List.set_cons_zero])
              refine takeD (i := 4) (d := some 55) (v := ?_) rfl (by kernel_rfl) (by kernel_rfl) (by kernel_rfl) (by kernel_rfl) (fun _ _ _ h => h) (Or.inl ⟨by kernel_rfl, fun X hX => Or.inl ?_⟩) (by assumption) ?_
              rotate_left
              · first | (go_simp; done) | (go_simp; with_reducible rfl)
              (try simp only [Act.put]); (try simp only [List.setIfInBounds_toArray]); (try simp only [List.set_cons_succ]); (try simp only [List.set_cons_zero])
              refine takeD (i := 5) (d := some 56) (v := .agg (arr .u8 e.s)) rfl (by kernel_rfl) (by kernel_rfl) (by kernel_rfl) (by kernel_rfl) (fun _ _ _ h => h) (Or.inl ⟨by kernel_rfl, fun X hX => Or.inl (exec_load 27 (.tmp 55) rfl _ _ rfl (HSC.out X (HH8.out.trans hX)))⟩) (by assumption) ?_
              (try simp only [Act.put]); (try simp only [List.setIfInBounds_toArray]); (try simp only [List.set_cons_succ]); (try simp only [List.set_cons_zero])
              refine takeD (i := 6) (d := some 57) (v := .bool true) rfl (by kernel_rfl) (by kernel_rfl) (by kernel_rfl) (by kernel_rfl) (fun _ _ _ h => h) (Or.inl ⟨by kernel_rfl, fun X hX => Or.inl (exec_bin .neq 27 (.tmp 51) (.tmp 56) 27 rfl _ _ _ rfl rfl (by kernel_rfl) (HNE.out X))⟩) (by assumption) ?_
              (try simp only [Act.put]); (try simp only [List.setIfInBounds_toArray]); (try simp only [List.set_cons_succ]); (try simp only [List.set_cons_zero])
              refine wpAnyH_done (by kernel_rfl) ?_ _
              have HI9 := Lib.hid (HI8.out.on hHeld)
              clear hHeld
              have HLD9 := Lib.hid (flat_load HI9.out.blk HLL.out)
              obtain ⟨Y, hY, hYL, hYF⟩ := HI9.out.put L HLL.out
              have HY := Lib.hid hY
              have HYL := Lib.hid hYL
              have HYF := Lib.hid hYF
              clear hY hYL hYF
              go_wp2_with (first
                | (refine wpList_load_eq rfl 37 _ rfl (.pointer (some ⟨w.heap.size, 0, none⟩)) (.agg (flat L).toArray) rfl HLD9.out ?_)
                | (refine wpList_store_eq rfl 37 _ _ rfl (.pointer (some ⟨w.heap.size + 1 + 1, 0, none⟩)) (.agg (flat L).toArray) rfl rfl HY.out ?_))
              exact bodyPost_ret (results_cellT rfl rfl rfl HYL.out) rfl ⟨rfl, HYF.out⟩
            · rw [if_pos (by kernel_rfl)]
              go_simp
              refine hK.out _ _ (hHeld.alloc _) (fun hHeld => ?_)
              clear hK K
              (try simp only [Act.put]); (try simp only [List.setIfInBounds_toArray]); (try simp only [List.set_cons_succ]); (try simp only [List.set_cons_zero])
              refine wpAnyH_ready (rs := [7]) (by kernel_rfl) (by simp) ?_
              refine AllReadyH.cons rfl (fun K hK => ?_) AllReadyH.nil
              rw [if_pos (by kernel_rfl)]
              go_simp
              refine (HDD.out _).mono ?_
              rintro ex v3 ⟨rfl, hF3⟩
              have RN3 : Hid (Row v3 w2.heap.size 27 .u8 (List.replicate 32 0)) := Lib.hid (Row.fr (w := w2.drew.alloc (.cells (arr .u8 (List.replicate 32 0)) 27)) (Row.new w2.drew 27 .u8 (List.replicate 32 0)) hF3 id)
              have F3 := Lib.hid (hHeld.trans hF3)
              clear hF3
              refine hK.out _ _ (F3.out) (fun hHeld => ?_)
              clear hK K
              (try simp only [Act.put]); (try simp only [List.setIfInBounds_toArray]); (try simp only [List.set_cons_succ]); (try simp only [List.set_cons_zero])
              refine takeD (i := 8) (d := some 40) (v := ?_) rfl (by kernel_rfl) (by kernel_rfl) (by kernel_rfl) (by kernel_rfl) (fun _ _ _ h => h) (Or.inl ⟨by kernel_rfl, fun X hX => Or.inl ?_⟩) (by assumption) ?_
              rotate_left
              · first | (go_simp; done) | (go_simp; with_reducible rfl)
              (try simp only [Act.put]); (try simp only [List.setIfInBounds_toArray]); (try simp only [List.set_cons_succ]); (try simp only [List.set_cons_zero])
              refine takeD (i := 9) (d := some 49) (v := ?_) rfl (by kernel_rfl) (by kernel_rfl) (by kernel_rfl) (by kernel_rfl) (fun _ _ _ h => h) (Or.inl ⟨by kernel_rfl, fun X hX => Or.inl ?_⟩) (by assumption) ?_
              rotate_left
              · first | (go_simp; done) | (go_simp; with_reducible rfl)
              (try simp only [Act.put]); (try simp only [List.setIfInBounds_toArray]); (try simp only [List.set_cons_succ]); (try simp only [List.set_cons_zero])
              refine takeD (i := 10) (d := some 50) (v := ?_) rfl (by kernel_rfl) (by kernel_rfl) (by kernel_rfl) (by kernel_rfl) (fun _ _ _ h => h) (Or.inl ⟨by kernel_rfl, fun X hX => Or.inl ?_⟩) (by assumption) ?_
              rotate_left
              · first | (go_simp; done) | (go_simp; with_reducible rfl)
              (try simp only [Act.put]); (try simp only [List.setIfInBounds_toArray]); (try simp only [List.set_cons_succ]); (try simp only [List.set_cons_zero])
              refine wpAnyH_ready (rs := [12]) (by kernel_rfl) (by simp) ?_
              refine AllReadyH.cons rfl (fun K hK => ?_) AllReadyH.nil
              rw [if_pos (by kernel_rfl)]
              refine wp_store_row 27 _ _ rfl w2.heap.size rfl (arr .u8 D) rfl RN3.out arHash (by rfl) (by rw [arr_size]; exact HDL.out) (arr_one _ _) ?_
              refine hK.out _ _ (fr_setRow hHeld (.inr (Nat.le_refl _)) _) (fun hHeld => ?_)
              clear hK K
              (try simp only [Act.put]); (try simp only [List.setIfInBounds_toArray]); (try simp only [List.set_cons_succ]); (try simp only [List.set_cons_zero])
              refine takeD (i := 13) (d := some 11) (v := ?_) rfl (by kernel_rfl) (by kernel_rfl) (by kernel_rfl) (by kernel_rfl) (fun _ _ _ h => h) (Or.inl ⟨by kernel_rfl, fun X hX => Or.inl ?_⟩) (by assumption) ?_
              rotate_left
              · first | (go_simp; done) | (go_simp; with_reducible rfl)
              (try simp only [Act.put]); (try simp only [List.setIfInBounds_toArray]); (try simp only [List.set_cons_succ]); (try simp only [List.set_cons_zero])
              refine wpAnyH_done (by kernel_rfl) ?_ _
              have HH8 := Lib.hid hHeld
              have HRW := Lib.hid (Row.setRow (l' := D) RN3.out)
              generalize v3.setRow w2.heap.size (arr .u8 D) = W8 at *
              clear hHeld
              have HI8 := Lib.hid (HIW.out.on HH8.out)
              go_wp2_with fail
              refine wp_region_held_drew (S := (fun X => Fr No W8 X)) (by kernel_rfl) ((Fr.refl _ W8).drew) (fun hHeld => ?_)
              refine takeD (i := 0) (d := some 51) (v := .agg (arr .u8 D)) rfl (by kernel_rfl) (by kernel_rfl) (by kernel_rfl) (by kernel_rfl) (fun _ _ _ h => h) (Or.inl ⟨by kernel_rfl, fun X hX => Or.inl (exec_load 27 (.tmp 10) rfl _ _ rfl ((HRW.out.fr hX id).load arHash HDL.out))⟩) (by assumption) ?_
              (try simp only [Act.put]); (try simp only [List.setIfInBounds_toArray]); (try simp only [List.set_cons_succ]); (try simp only [List.set_cons_zero])
              refine takeD (i := 1) (d := some 52) (v := ?_) rfl (by kernel_rfl) (by kernel_rfl) (by kernel_rfl) (by kernel_rfl) (fun _ _ _ h => h) (Or.inl ⟨by kernel_rfl, fun X hX => Or.inl ?_⟩) (by assumption) ?_
              rotate_left
              · first | (go_simp; done) | (go_simp; with_reducible rfl)
              (try simp only [Act.put]); (try simp only [List.setIfInBounds_toArray]); (try simp only [List.set_cons_succ]); (try simp only [List.set_cons_zero])
              refine takeD (i := 2) (d := some 53) (v := ?_) rfl (by kernel_rfl) (by kernel_rfl) (by kernel_rfl) (by kernel_rfl) (fun _ _ _ h => h) (Or.inl ⟨by kernel_rfl, fun X hX => Or.inl ?_⟩) (by assumption) ?_
              rotate_left
              · first | (go_simp; done) | (go_simp; with_reducible rfl)
              (try simp only [Act.put]); (try simp only [List.setIfInBounds_toArray]); (try simp only [List.set_cons_succ]); (try simp only [List.set_cons_zero])
              refine takeD (i := 3) (d := some 54) (v := ?_) rfl (by kernel_rfl) (by kernel_rfl) (by kernel_rfl) (by kernel_rfl) (fun _ _ _ h => h) (Or.inl ⟨by kernel_rfl, fun X hX => Or.inl ?_⟩) (by assumption) ?_
              rotate_left
              · first | (go_simp; done) | (go_simp; with_reducible rfl)
              (try simp only [Act.put]); (try simp only [List.setIfInBounds_toArray]); (try simp only [List.set_cons_succ]); (try simp only [List.set_cons_zero])
              refine takeD (i := 4) (d := some 55) (v := ?_) rfl (by kernel_rfl) (by kernel_rfl) (by kernel_rfl) (by kernel_rfl) (fun _ _ _ h => h) (Or.inl ⟨by kernel_rfl, fun X hX => Or.inl ?_⟩) (by assumption) ?_
              rotate_left
              · first | (go_simp; done) | (go_simp; with_reducible rfl)
              (try simp only [Act.put]); (try simp only [List.setIfInBounds_toArray]); (try simp only [List.set_cons_succ]); (try simp only [List.set_cons_zero])
              refine takeD (i := 5) (d := some 56) (v := .agg (arr .u8 e.s)) rfl (by kernel_rfl) (by kernel_rfl) (by kernel_rfl) (by kernel_rfl) (fun _ _ _ h => h) (Or.inl ⟨by kernel_rfl, fun X hX => Or.inl (exec_load 27 (.tmp 55) rfl _ _ rfl (HSC.out X (HH8.out.trans hX)))⟩) (by assumption) ?_
              (try simp only [Act.put]); (try simp only [List.setIfInBounds_toArray]); (try simp only [List.set_cons_succ]); (try simp only [List.set_cons_zero])
              refine takeD (i := 6) (d := some 57) (v := .bool true) rfl (by kernel_rfl) (by kernel_rfl) (by kernel_rfl) (by kernel_rfl) (fun _ _ _ h => h) (Or.inl ⟨by kernel_rfl, fun X hX => Or.inl (exec_bin .neq 27 (.tmp 51) (.tmp 56) 27 rfl _ _ _ rfl rfl (by kernel_rfl) (HNE.out X))⟩) (by assumption) ?_
              (try simp only [Act.put]); (try simp only [List.setIfInBounds_toArray]); (try simp only [List.set_cons_succ]); (try simp only [List.set_cons_zero])
              refine wpAnyH_done (by kernel_rfl) ?_ _
              have HI9 := Lib.hid (HI8.out.on hHeld)
              clear hHeld
              have HLD9 := Lib.hid (flat_load HI9.out.blk HLL.out)
              obtain ⟨Y, hY, hYL, hYF⟩ := HI9.out.put L HLL.out
              have HY := Lib.hid hY
              have HYL := Lib.hid hYL
              have HYF := Lib.hid hYF
              clear hY hYL hYF
              go_wp2_with (first
                | (refine wpList_load_eq rfl 37 _ rfl (.pointer (some ⟨w.heap.size, 0, none⟩)) (.agg (flat L).toArray) rfl HLD9.out ?_)
                | (refine wpList_store_eq rfl 37 _ _ rfl (.pointer (some ⟨w.heap.size + 1 + 1, 0, none⟩)) (.agg (flat L).toArray) rfl rfl HY.out ?_))
              exact bodyPost_ret (results_cellT rfl rfl rfl HYL.out) rfl ⟨rfl, HYF.out⟩
          | false =>
            go_wp2_with fail
            refine (HCA _).mono ?_
            rintro ex w2 ⟨rfl, rfl⟩
            go_wp2_with fail
            refine wp_region_held_drew (S := (fun X => Fr No w2 X)) (by kernel_rfl) ((Fr.refl _ w2).drew) (fun hHeld => ?_)
            refine takeD (i := 0) (d := some 41) (v := .agg (arr .u8 h)) rfl (by kernel_rfl) (by kernel_rfl) (by kernel_rfl) (by kernel_rfl) (fun _ _ _ h => h) (Or.inl ⟨by kernel_rfl, fun X hX => Or.inl (exec_load 27 (.tmp 5) rfl _ _ rfl (HHL.out X hX))⟩) (by assumption) ?_
            (try simp only [Act.put]); (try simp only [List.setIfInBounds_toArray]); (try simp only [List.set_cons_succ]); (try simp only [List.set_cons_zero])
            refine takeD (i := 1) (d := some 42) (v := ?_) rfl (by kernel_rfl) (by kernel_rfl) (by kernel_rfl) (by kernel_rfl) (fun _ _ _ h => h) (Or.inl ⟨by kernel_rfl, fun X hX => Or.inl ?_⟩) (by assumption) ?_
            rotate_left
            · first | (go_simp; done) | (go_simp; with_reducible rfl)
            (try simp only [Act.put]); (try simp only [List.setIfInBounds_toArray]); (try simp only [List.set_cons_succ]); (try simp only [List.set_cons_zero])
            refine takeD (i := 2) (d := some 43) (v := ?_) rfl (by kernel_rfl) (by kernel_rfl) (by kernel_rfl) (by kernel_rfl) (fun _ _ _ h => h) (Or.inl ⟨by kernel_rfl, fun X hX => Or.inl ?_⟩) (by assumption) ?_
            rotate_left
            · first | (go_simp; done) | (go_simp; with_reducible rfl)
            (try simp only [Act.put]); (try simp only [List.setIfInBounds_toArray]); (try simp only [List.set_cons_succ]); (try simp only [List.set_cons_zero])
            refine takeD (i := 3) (d := some 44) (v := ?_) rfl (by kernel_rfl) (by kernel_rfl) (by kernel_rfl) (by kernel_rfl) (fun _ _ _ h => h) (Or.inl ⟨by kernel_rfl, fun X hX => Or.inl ?_⟩) (by assumption) ?_
            rotate_left
            · first | (go_simp; done) | (go_simp; with_reducible rfl)
            (try simp only [Act.put]); (try simp only [List.setIfInBounds_toArray]); (try simp only [List.set_cons_succ]); (try simp only [List.set_cons_zero])
            refine takeD (i := 4) (d := some 45) (v := ?_) rfl (by kernel_rfl) (by kernel_rfl) (by kernel_rfl) (by kernel_rfl) (fun _ _ _ h => h) (Or.inl ⟨by kernel_rfl, fun X hX => Or.inl ?_⟩) (by assumption) ?_
            rotate_left
            · first | (go_simp; done) | (go_simp; with_reducible rfl)
            (try simp only [Act.put]); (try simp only [List.setIfInBounds_toArray]); (try simp only [List.set_cons_succ]); (try simp only [List.set_cons_zero])
            refine takeD (i := 5) (d := some 46) (v := ?_) rfl (by kernel_rfl) (by kernel_rfl) (by kernel_rfl) (by kernel_rfl) (fun _ _ _ h => h) (Or.inl ⟨by kernel_rfl, fun X hX => Or.inl ?_⟩) (by assumption) ?_
            rotate_left
            · first | (go_simp; done) | (go_simp; with_reducible rfl)
            (try simp only [Act.put]); (try simp only [List.setIfInBounds_toArray]); (try simp only [List.set_cons_succ]); (try simp only [List.set_cons_zero])
            refine takeD (i := 6) (d := some 47) (v := .int .i64 (e.n : Int)) rfl (by kernel_rfl) (by kernel_rfl) (by kernel_rfl) (by kernel_rfl) (fun _ _ _ h => h) (Or.inl ⟨by kernel_rfl, fun X hX => Or.inl (exec_load 3 (.tmp 46) rfl _ _ rfl (HNC.out X hX))⟩) (by assumption) ?_
            (try simp only [Act.put]); (try simp only [List.setIfInBounds_toArray]); (try simp only [List.set_cons_succ]); (try simp only [List.set_cons_zero])
            refine wpAnyH_ready (rs := [7, 11]) (by kernel_rfl) (by simp) ?_
            refine (AllReadyH.cons rfl (fun K hK => ?_) (AllReadyH.cons rfl (fun K hK => ?_) AllReadyH.nil))
            · rw [if_pos (by kernel_rfl)]
              go_simp
              refine (HDD.out _).mono ?_
              rintro ex v3 ⟨rfl, hF3⟩
              have F3 := Lib.hid (hHeld.trans hF3)
              clear hF3
              refine hK.out _ _ (F3.out) (fun hHeld => ?_)
              clear hK K
              (try simp only [Act.put]); (try simp only [List.setIfInBounds_toArray]); (try simp only [List.set_cons_succ]); (try simp only [List.set_cons_zero])
              refine takeD (i := 8) (d := some 40) (v := ?_) rfl (by kernel_rfl) (by kernel_rfl) (by kernel_rfl) (by kernel_rfl) (fun _ _ _ h => h) (Or.inl ⟨by kernel_rfl, fun X hX => Or.inl ?_⟩) (by assumption) ?_
              rotate_left
              · first | (go_simp; done) | (go_simp; with_reducible rfl)
              (try simp only [Act.put]); (try simp only [List.setIfInBounds_toArray]); (try simp only [List.set_cons_succ]); (try simp only [List.set_cons_zero])
              refine takeD (i := 9) (d := some 49) (v := ?_) rfl (by kernel_rfl) (by kernel_rfl) (by kernel_rfl) (by kernel_rfl) (fun _ _ _ h => h) (Or.inl ⟨by kernel_rfl, fun X hX => Or.inl ?_⟩) (by assumption) ?_
              rotate_left
              · first | (go_simp; done) | (go_simp; with_reducible rfl)
              (try simp only [Act.put]); (try simp only [List.setIfInBounds_toArray]); (try simp only [List.set_cons_succ]); (try simp only [List.set_cons_zero])
              refine takeD (i := 10) (d := some 50) (v := ?_) rfl (by kernel_rfl) (by kernel_rfl) (by kernel_rfl) (by kernel_rfl) (fun _ _ _ h => h) (Or.inl ⟨by kernel_rfl, fun X hX => Or.inl ?_⟩) (by assumption) ?_
              rotate_left
              · first | (go_simp; done) | (go_simp; with_reducible rfl)
              (try simp only [Act.put]); (try simp only [List.setIfInBounds_toArray]); (try simp only [List.set_cons_succ]); (try simp only [List.set_cons_zero])
              refine wpAnyH_ready (rs := [11]) (by kernel_rfl) (by simp) ?_
              refine AllReadyH.cons rfl (fun K hK => ?_) AllReadyH.nil
              rw [if_pos (by kernel_rfl)]
              go_simp
              refine K_world (K := K) (fun W => Fr No v3 W ∧ Row W v3.heap.size 27 .u8 (List.replicate 32 0)) ⟨(Fr.refl No v3).alloc _, Row.new v3 27 .u8 (List.replicate 32 0)⟩ ?_
              rintro X3 ⟨hX, hRX⟩
              have RX3 := Lib.hid hRX
              have FX3 := Lib.hid (F3.out.trans hX)
              clear hX hRX
              refine hK.out _ _ (FX3.out) (fun hHeld => ?_)
              clear hK K
              (try simp only [Act.put]); (try simp only [List.setIfInBounds_toArray]); (try simp only [List.set_cons_succ]); (try simp only [List.set_cons_zero])
              refine wpAnyH_ready (rs := [12]) (by kernel_rfl) (by simp) ?_
              refine AllReadyH.cons rfl (fun K hK => ?_) AllReadyH.nil
              rw [if_pos (by kernel_rfl)]
              refine wp_store_row 27 _ _ rfl v3.heap.size rfl (arr .u8 D) rfl RX3.out arHash (by rfl) (by rw [arr_size]; exact HDL.out) (arr_one _ _) ?_
              refine hK.out _ _ (fr_setRow hHeld (.inr F3.out.size) _) (fun hHeld => ?_)
              clear hK K
              (try simp only [Act.put]); (try simp only [List.setIfInBounds_toArray]); (try simp only [List.set_cons_succ]); (try simp only [List.set_cons_zero])
              refine takeD (i := 13) (d := some 11) (v := ?_) rfl (by kernel_rfl) (by kernel_rfl) (by kernel_rfl) (by kernel_rfl) (fun _ _ _ h => h) (Or.inl ⟨by kernel_rfl, fun X hX => Or.inl ?_⟩) (by assumption) ?_
              rotate_left
              · first | (go_simp; done) | (go_simp; with_reducible rfl)
              (try simp only [Act.put]); (try simp only [List.setIfInBounds_toArray]); (try simp only [List.set_cons_succ]); (try simp only [List.set_cons_zero])
              refine wpAnyH_done (by kernel_rfl) ?_ _
              have HH8 := Lib.hid hHeld
              have HRW := Lib.hid (Row.setRow (l' := D) RX3.out)
              generalize X3.setRow v3.heap.size (arr .u8 D) = W8 at *
              clear hHeld
              have HI8 := Lib.hid (HIW.out.on HH8.out)
              go_wp2_with fail
              refine wp_region_held_drew (S := (fun X => Fr No W8 X)) (by kernel_rfl) ((Fr.refl _ W8).drew) (fun hHeld => ?_)
              refine takeD (i := 0) (d := some 51) (v := .agg (arr .u8 D)) rfl (by kernel_rfl) (by kernel_rfl) (by kernel_rfl) (by kernel_rfl) (fun _ _ _ h => h) (Or.inl ⟨by kernel_rfl, fun X hX => Or.inl (exec_load 27 (.tmp 10) rfl _ _ rfl ((HRW.out.fr hX id).load arHash HDL.out))⟩) (by assumption) ?_
              (try simp only [Act.put]); (try simp only [List.setIfInBounds_toArray]); (try simp only [List.set_cons_succ]); (try simp only [List.set_cons_zero])
              refine takeD (i := 1) (d := some 52) (v := ?_) rfl (by kernel_rfl) (by kernel_rfl) (by kernel_rfl) (by kernel_rfl) (fun _ _ _ h => h) (Or.inl ⟨by kernel_rfl, fun X hX => Or.inl ?_⟩) (by assumption) ?_
              rotate_left
              · first | (go_simp; done) | (go_simp; with_reducible rfl)
              (try simp only [Act.put]); (try simp only [List.setIfInBounds_toArray]); (try simp only [List.set_cons_succ]); (try simp only [List.set_cons_zero])
              refine takeD (i := 2) (d := some 53) (v := ?_) rfl (by kernel_rfl) (by kernel_rfl) (by kernel_rfl) (by kernel_rfl) (fun _ _ _ h => h) (Or.inl ⟨by kernel_rfl, fun X hX => Or.inl ?_⟩) (by assumption) ?_
              rotate_left
              · first | (go_simp; done) | (go_simp; with_reducible rfl)
              (try simp only [Act.put]); (try simp only [List.setIfInBounds_toArray]); (try simp only [List.set_cons_succ]); (try simp only [List.set_cons_zero])
              refine takeD (i := 3) (d := some 54) (v := ?_) rfl (by kernel_rfl) (by kernel_rfl) (by kernel_rfl) (by kernel_rfl) (fun _ _ _ h => h) (Or.inl ⟨by kernel_rfl, fun X hX => Or.inl ?_⟩) (by assumption) ?_
              rotate_left
              · first | (go_simp; done) | (go_simp; with_reducible rfl)
              (try simp only [Act.put]); (try simp only [List.setIfInBounds_toArray]); (try simp only [List.set_cons_succ]); (try simp only [List.set_cons_zero])
              refine takeD (i := 4) (d := some 55) (v := ?_) rfl (by kernel_rfl) (by kernel_rfl) (by kernel_rfl) (by kernel_rfl) (fun _ _ _ h => h) (Or.inl ⟨by kernel_rfl, fun X hX => Or.inl ?_⟩) (by assumption) ?_
              rotate_left
              · first | (go_simp; done) | (go_simp; with_reducible rfl)
              (try simp only [Act.put]); (try simp only [List.setIfInBounds_toArray]); (try simp only [List.set_cons_succ]); (try simp only [List.set_cons_zero])
              refine takeD (i := 5) (d := some 56) (v := .agg (arr .u8 e.s)) rfl (by kernel_rfl) (by kernel_rfl) (by kernel_rfl) (by kernel_rfl) (fun _ _ _ h => h) (Or.inl ⟨by kernel_rfl, fun X hX => Or.inl (exec_load 27 (.tmp 55) rfl _ _ rfl (HSC.out X (HH8.out.trans hX)))⟩) (by assumption) ?_
              (try simp only [Act.put]); (try simp only [List.setIfInBounds_toArray]); (try simp only [List.set_cons_succ]); (try simp only [List.set_cons_zero])
              refine takeD (i := 6) (d := some 57) (v := .bool false) rfl (by kernel_rfl) (by kernel_rfl) (by kernel_rfl) (by kernel_rfl) (fun _ _ _ h => h) (Or.inl ⟨by kernel_rfl, fun X hX => Or.inl (exec_bin .neq 27 (.tmp 51) (.tmp 56) 27 rfl _ _ _ rfl rfl (by kernel_rfl) (HNE.out X))⟩) (by assumption) ?_
              (try simp only [Act.put]); (try simp only [List.setIfInBounds_toArray]); (try simp only [List.set_cons_succ]); (try simp only [List.set_cons_zero])
              refine wpAnyH_done (by kernel_rfl) ?_ _
              have HI9 := Lib.hid (HI8.out.on hHeld)
              clear hHeld
              go_wp2
              exact ⟨⟨k + 1, by omega, rfl, HNX.out, HI9.out⟩, by simp [intOf]; omega⟩
            · rw [if_pos (by kernel_rfl)]
              go_simp
              refine hK.out _ _ (hHeld.alloc _) (fun hHeld => ?_)
              clear hK K
              (try simp only [Act.put]); (try simp only [List.setIfInBounds_toArray]); (try simp only [List.set_cons_succ]); (try simp only [List.set_cons_zero])
              refine wpAnyH_ready (rs := [7]) (by kernel_rfl) (by simp) ?_
              refine AllReadyH.cons rfl (fun K hK => ?_) AllReadyH.nil
              rw [if_pos (by kernel_rfl)]
              go_simp
              refine (HDD.out _).mono ?_
              rintro ex v3 ⟨rfl, hF3⟩
              have RN3 : Hid (Row v3 w2.heap.size 27 .u8 (List.replicate 32 0)) := Lib.hid (Row.fr (w := w2.drew.alloc (.cells (arr .u8 (List.replicate 32 0)) 27)) (Row.new w2.drew 27 .u8 (List.replicate 32 0)) hF3 id)
              have F3 := Lib.hid (hHeld.trans hF3)
              clear hF3
              refine hK.out _ _ (F3.out) (fun hHeld => ?_)
              clear hK K
              (try simp only [Act.put]); (try simp only [List.setIfInBounds_toArray]); (try simp only [List.set_cons_succ]); (try simp only [List.set_cons_zero])
              refine takeD (i := 8) (d := some 40) (v := ?_) rfl (by kernel_rfl) (by kernel_rfl) (by kernel_rfl) (by kernel_rfl) (fun _ _ _ h => h) (Or.inl ⟨by kernel_rfl, fun X hX => Or.inl ?_⟩) (by assumption) ?_
              rotate_left
              · first | (go_simp; done) | (go_simp; with_reducible rfl)
              (try simp only [Act.put]); (try simp only [List.setIfInBounds_toArray]); (try simp only [List.set_cons_succ]); (try simp only [List.set_cons_zero])
              refine takeD (i := 9) (d := some 49) (v := ?_) rfl (by kernel_rfl) (by kernel_rfl) (by kernel_rfl) (by kernel_rfl) (fun _ _ _ h => h) (Or.inl ⟨by kernel_rfl, fun X hX => Or.inl ?_⟩) (by assumption) ?_
              rotate_left
              · first | (go_simp; done) | (go_simp; with_reducible rfl)
              (try simp only [Act.put]); (try simp only [List.setIfInBounds_toArray]); (try simp only [List.set_cons_succ]); (try simp only [List.set_cons_zero])
              refine takeD (i := 10) (d := some 50) (v := ?_) rfl (by kernel_rfl) (by kernel_rfl) (by kernel_rfl) (by kernel_rfl) (fun _ _ _ h => h) (Or.inl ⟨by kernel_rfl, fun X hX => Or.inl ?_⟩) (by assumption) ?_
              rotate_left
              · first | (go_simp; done) | (go_simp; with_reducible rfl)
              (try simp only [Act.put]); (try simp only [List.setIfInBounds_toArray]); (try simp only [List.set_cons_succ]); (try simp only [List.set_cons_zero])
              refine wpAnyH_ready (rs := [12]) (by kernel_rfl) (by simp) ?_
              refine AllReadyH.cons rfl (fun K hK => ?_) AllReadyH.nil
              rw [if_pos (by kernel_rfl)]
              refine wp_store_row 27 _ _ rfl w2.heap.size rfl (arr .u8 D) rfl RN3.out arHash (by rfl) (by rw [arr_size]; exact HDL.out) (arr_one _ _) ?_
              refine hK.out _ _ (fr_setRow hHeld (.inr (Nat.le_refl _)) _) (fun hHeld => ?_)
              clear hK K
              (try simp only [Act.put]); (try simp only [List.setIfInBounds_toArray]); (try simp only [List.set_cons_succ]); (try simp only [List.set_cons_zero])
              refine takeD (i := 13) (d := some 11) (v := ?_) rfl (by kernel_rfl) (by kernel_rfl) (by kernel_rfl) (by kernel_rfl) (fun _ _ _ h => h) (Or.inl ⟨by kernel_rfl, fun X hX => Or.inl ?_⟩) (by assumption) ?_
              rotate_left
              · first | (go_simp; done) | (go_simp; with_reducible rfl)
              (try simp only [Act.put]); (try simp only [List.setIfInBounds_toArray]); (try simp only [List.set_cons_succ]); (try simp only [List.set_cons_zero])
              refine wpAnyH_done (by kernel_rfl) ?_ _
              have HH8 := Lib.hid hHeld
              have HRW := Lib.hid (Row.setRow (l' := D) RN3.out)
              generalize v3.setRow w2.heap.size (arr .u8 D) = W8 at *
              clear hHeld
              have HI8 := Lib.hid (HIW.out.on HH8.out)
              go_wp2_with fail
              refine wp_region_held_drew (S := (fun X => Fr No W8 X)) (by kernel_rfl) ((Fr.refl _ W8).drew) (fun hHeld => ?_)
              refine takeD (i := 0) (d := some 51) (v := .agg (arr .u8 D)) rfl (by kernel_rfl) (by kernel_rfl) (by kernel_rfl) (by kernel_rfl) (fun _ _ _ h => h) (Or.inl ⟨by kernel_rfl, fun X hX => Or.inl (exec_load 27 (.tmp 10) rfl _ _ rfl ((HRW.out.fr hX id).load arHash HDL.out))⟩) (by assumption) ?_
              (try simp only [Act.put]); (try simp only [List.setIfInBounds_toArray]); (try simp only [List.set_cons_succ]); (try simp only [List.set_cons_zero])
              refine takeD (i := 1) (d := some 52) (v := ?_) rfl (by kernel_rfl) (by kernel_rfl) (by kernel_rfl) (by kernel_rfl) (fun _ _ _ h => h) (Or.inl ⟨by kernel_rfl, fun X hX => Or.inl ?_⟩) (by assumption) ?_
              rotate_left
              · first | (go_simp; done) | (go_simp; with_reducible rfl)
              (try simp only [Act.put]); (try simp only [List.setIfInBounds_toArray]); (try simp only [List.set_cons_succ]); (try simp only [List.set_cons_zero])
              refine takeD (i := 2) (d := some 53) (v := ?_) rfl (by kernel_rfl) (by kernel_rfl) (by kernel_rfl) (by kernel_rfl) (fun _ _ _ h => h) (Or.inl ⟨by kernel_rfl, fun X hX => Or.inl ?_⟩) (by assumption) ?_
              rotate_left
              · first | (go_simp; done) | (go_simp; with_reducible rfl)
              (try simp only [Act.put]); (try simp only [List.setIfInBounds_toArray]); (try simp only [List.set_cons_succ]); (try simp only [List.set_cons_zero])
              refine takeD (i := 3) (d := some 54) (v := ?_) rfl (by kernel_rfl) (by kernel_rfl) (by kernel_rfl) (by kernel_rfl) (fun _ _ _ h => h) (Or.inl ⟨by kernel_rfl, fun X hX => Or.inl ?_⟩) (by assumption) ?_
              rotate_left
              · first | (go_simp; done) | (go_simp; with_reducible rfl)
              (try simp only [Act.put]); (try simp only [List.setIfInBounds_toArray]); (try simp only [List.set_cons_succ]); (try simp only [List.set_cons_zero])
              refine takeD (i := 4) (d := some 55) (v := ?_) rfl (by kernel_rfl) (by kernel_rfl) (by kernel_rfl) (by kernel_rfl) (fun _ _ _ h => h) (Or.inl ⟨by kernel_rfl, fun X hX => Or.inl ?_⟩) (by assumption) ?_
              rotate_left
              · first | (go_simp; done) | (go_simp; with_reducible rfl)
              (try simp only [Act.put]); (try simp only [List.setIfInBounds_toArray]); (try simp only [List.set_cons_succ]); (try simp only [List.set_cons_zero])
              refine takeD (i := 5) (d := some 56) (v := .agg (arr .u8 e.s)) rfl (by kernel_rfl) (by kernel_rfl) (by kernel_rfl) (by kernel_rfl) (fun _ _ _ h => h) (Or.inl ⟨by kernel_rfl, fun X hX => Or.inl (exec_load 27 (.tmp 55) rfl _ _ rfl (HSC.out X (HH8.out.trans hX)))⟩) (by assumption) ?_
              (try simp only [Act.put]); (try simp only [List.setIfInBounds_toArray]); (try simp only [List.set_cons_succ]); (try simp only [List.set_cons_zero])
              refine takeD (i := 6) (d := some 57) (v := .bool false) rfl (by kernel_rfl) (by kernel_rfl) (by kernel_rfl) (by kernel_rfl) (fun _ _ _ h => h) (Or.inl ⟨by kernel_rfl, fun X hX => Or.inl (exec_bin .neq 27 (.tmp 51) (.tmp 56) 27 rfl _ _ _ rfl rfl (by kernel_rfl) (HNE.out X))⟩) (by assumption) ?_
              (try simp only [Act.put]); (try simp only [List.setIfInBounds_toArray]); (try simp only [List.set_cons_succ]); (try simp only [List.set_cons_zero])
              refine wpAnyH_done (by kernel_rfl) ?_ _
              have HI9 := Lib.hid (HI8.out.on hHeld)
              clear hHeld
              go_wp2
              exact ⟨⟨k + 1, by omega, rfl, HNX.out, HI9.out⟩, by simp [intOf]; omega⟩
        · have hcan' : can (i : Int) (e.n : Int) = false := by simpa using hcan
          rw [hcan'] at HCA HNX
          clear hcan hcan' hIW
          go_wp2_with fail
          refine (HCA _).mono ?_
          rintro ex w2 ⟨rfl, rfl⟩
          go_wp2
          exact ⟨⟨k + 1, by omega, rfl, HNX.out, HIW.out⟩, by simp [intOf]; omega⟩
      | false =>
        clear hIW
        go_wp2
        exact ⟨⟨k + 1, by omega, rfl, HNX.out, HIW.out⟩, by simp [intOf]; omega⟩
    · obtain rfl : k = P := by omega
      have hc0 : c = false := HR.out.trans hf
      subst hc0
      have hpi : (k : Int) < 17 := by have := HP17.out; omega
      have HRL := Lib.hid (hIW.row.load arHash HH.out.len)
      obtain ⟨Z, hZ, hZI⟩ := hIW.set (i := k) (by rw [HLL.out]; exact HP17.out) M
      have hZL : (L.set k M).length = 17 := by rw [List.length_set]; exact HLL.out
      have HZ := Lib.hid hZ
      have HZL := Lib.hid (flat_load hZI.blk hZL)
      obtain ⟨Y, hY, hYL, hYF⟩ := hZI.put (L.set k M) hZL
      have HY := Lib.hid hY
      have HYL := Lib.hid hYL
      have HYF := Lib.hid hYF
      clear hf hIW hZ hZI hZL hY hYL hYF
      go_wp2_with (first
        | (refine wpList_load_eq rfl 27 _ rfl (.pointer (some ⟨w.heap.size + 1, 0, none⟩)) (.agg (arr .u8 h)) rfl HRL.out ?_)
        | (refine wpList_execG (.agg M.cells.toArray) (exec_build 34 _ rfl #[(0, .bool true), (1, .int .i64 (i : Int)), (2, .agg (arr .u8 h))] (by simp [go_sem]) _ (by rw [HM.out]; exact build_entry _ _ HH.out.len _)) rfl ?_)
        | (refine wpList_store_eq rfl 34 _ _ rfl (.pointer (some ⟨w.heap.size, k * 34, none⟩)) (.agg M.cells.toArray) rfl rfl HZ.out ?_)
        | (refine wpList_load_eq rfl 37 _ rfl (.pointer (some ⟨w.heap.size, 0, none⟩)) (.agg (flat (L.set k M)).toArray) rfl HZL.out ?_)
        | (refine wpList_store_eq rfl 37 _ _ rfl (.pointer (some ⟨w.heap.size + 1 + 1, 0, none⟩)) (.agg (flat (L.set k M)).toArray) rfl rfl HY.out ?_))
      exact bodyPost_ret (results_cellT rfl rfl rfl HYL.out) rfl ⟨rfl, HYF.out⟩
end Go.Proofs.YtnpgcgemifoddaaDoor
