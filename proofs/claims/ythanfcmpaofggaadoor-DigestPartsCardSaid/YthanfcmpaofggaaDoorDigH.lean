/- A stream: what it holds, and its calls. -/
import Derived.Test.YthanfcmpaofggaaDoorDigG
import Derived.Lib.UnsafeStr
import Derived.Lib.BufferWrite
import Derived.Laws.MakeOwn
namespace Go.Proofs.YthanfcmpaofggaaDoor
open Go.RowKit
set_option linter.unusedVariables false

theorem Tryd.infoU8' : (Tryd.prog.info? 5).map (·.size) = some 1 := by kernel_rfl
theorem Tryd.cellsU8 : Tryd.prog.cellsOf 5 = 1 := by kernel_rfl

set_option maxHeartbeats 1000000 in
set_option maxRecDepth 100000 in
/-- internal/stringslite.Clone: the same bytes; of what was there nothing has turned. -/
theorem clone2_any (s : ByteArray) (w : World) (hlim : s.size ≤ 281474976710656) :
    Calls Tryd.prog 30 #[.string s] w fun e w' => e = .returned (.string s) ∧ Below w.heap.size w w' := by
  by_cases h0 : s.size = 0
  · have hs : s = ⟨#[]⟩ := ByteArray.ext (Array.eq_empty_of_size_eq_zero h0)
    subst hs
    go_enter Tryd.func30, Tryd.ntmps30
    go_wp2
    go_ret
    exact ⟨rfl, Below.refl _ _⟩
  · obtain ⟨i0, hi, hz0, hz1, hz2⟩ := info_parts Tryd.infoU8
    obtain ⟨M, hM⟩ : ∃ M, M = madeCells (Value.int .u8 0).cells (((s.size : Nat) : Int).toNat * i0.size) := ⟨_, rfl⟩
    have hMs : M.size = s.size := by rw [hM, size_madeCells, hz1]; simp
    have hmk : ∀ W : World, (Instr.makeSlice 50 (.int .i64 (s.size : Int)) (.int .i64 (s.size : Int))).run Tryd.prog W = .ok (.slice (some ⟨W.heap.size, 0, none⟩) s.size s.size) (W.alloc (.cells M 5)) := fun W => by
      have h := run_make (P := Tryd.prog) W 50 5 i0 (.int .u8 0) Tryd.underlying50 hi hz0 .i64 .i64 (s.size : Int) (s.size : Int) (by omega) (by omega) (by rw [hz2]; omega) (by omega)
      rw [← hM] at h
      simpa using h
    clear hM
    have hcp := Lib.run_copy_row_string (P := Tryd.prog) (w.alloc (.cells M 5)) 50 9 3 5 w.heap.size 0 s.size s.size s M 5 Tryd.underlying50 Tryd.infoU8' (heap_alloc_new w _) (Nat.le_refl _) (by omega)
    obtain ⟨Y, hY⟩ : ∃ Y, Y = (M.toList.take 0 ++ Lib.byteCells s.data.toList ++ M.toList.drop (0 + s.size)).toArray := ⟨_, rfl⟩
    rw [← hY] at hcp
    have hYl : Y.toList = Lib.byteCells s.data.toList := by
      rw [hY, List.toList_toArray, List.take_zero, List.nil_append, List.drop_of_length_le (by rw [Array.length_toList]; omega), List.append_nil]
    have hYs : Y.size = s.size := by rw [← Array.length_toList, hYl, Lib.byteCells_length, ← Lib.size_eq]
    have hgY : ((w.alloc (.cells M 5)).setRow w.heap.size Y).heap[w.heap.size]? = some (.cells Y 5 (0, 0)) := setRow_heap _ _ M _ 5 (0, 0) (heap_alloc_new w _)
    have hne : s.data.toList ≠ [] := fun e => h0 (by rw [Lib.size_eq, e]; rfl)
    have hUS := Lib.run_unsafeString_row (P := Tryd.prog) ((w.alloc (.cells M 5)).setRow w.heap.size Y) 61 3 9 5 Tryd.underlying61 Tryd.cellsU8 w.heap.size Y.size (by unfold World.shape?; rw [hgY]) s.data.toList hne (by rw [← Lib.size_eq]; omega) (by rw [← Lib.size_eq]; omega)
      (fun j x hx => Lib.cells_of_row hgY Y.size j _ (by rw [List.take_of_length_le (by rw [Array.length_toList]; exact Nat.le_refl _), hYl]; simp [Lib.byteCells, hx]))
    rw [← Lib.size_eq] at hUS
    clear hY
    go_enter Tryd.func30, Tryd.ntmps30
    go_wp2
    go_ret
    have hb1 : Below w.heap.size w (w.alloc (.cells M 5)) := (Below.refl _ w).alloc (Nat.le_refl _) _
    have hb2 : Below w.heap.size (w.alloc (.cells M 5)) ((w.alloc (.cells M 5)).setRow w.heap.size Y) := ⟨rfl, rfl, rfl, by simp, fun k hk => setRow_other _ _ _ _ (by omega)⟩
    exact ⟨rfl, Lib.below_freeze (hb1.trans hb2) (p := ⟨w.heap.size, 0, none⟩) (Nat.le_refl _) _⟩

theorem fr_of_below {w w' : World} (h : Below w.heap.size w w') : Fr No w w' := ⟨h.os, h.tape, h.output, h.size, fun k hk _ => h.block k hk⟩

set_option maxHeartbeats 400000 in
theorem clone_any (s : ByteArray) (w : World) (hlim : s.size ≤ 281474976710656) :
    Calls Tryd.prog 28 #[.string s] w fun e w' => e = .returned (.string s) ∧ Fr No w w' := by
  go_enter Tryd.func28, Tryd.ntmps28
  go_wp2_with fail
  refine (clone2_any s _ hlim).mono ?_
  rintro e w1 ⟨rfl, hb⟩
  have HB := Lib.hid (fr_of_below hb)
  clear hb
  go_wp2
  go_ret
  exact ⟨rfl, HB.out⟩

theorem wp_store_eq {P : Program} {o : Oper} {a : Act} {w w' : World} {K : Act → World → Prop} {Q : Exit → Act → World → Prop} (ty : TypeId) (x y : Operand) (ho : o.op = .store ty x y)
    (p v : Value) (hx : a.eval x = p) (hy : a.eval y = v) (hr : (Instr.storeAt ty p v).run P w = .ok () w') (h : K (a.put o.dst undef) w') : o.wp P a w K Q := by
  unfold Oper.wp execOp
  simp only [ho, hx, hy, hr, Sem.run_bind, Sem.run_pure, Result.andThen_ok]
  exact h

theorem foldL_succ (h : List Nat) (P : List UInt8) (n : Nat) : foldL h P (n + 1) = comp (foldL h P n) ((P.drop (64 * n)).take 64) := by
  unfold foldL
  rw [itn]

theorem foldL_add (h : List Nat) (P : List UInt8) (a : Nat) : ∀ b, foldL h P (a + b) = foldL (foldL h P a) (P.drop (64 * a)) b
  | 0 => by unfold foldL; rw [itn, Nat.add_zero]
  | b + 1 => by rw [← Nat.add_assoc, foldL_succ, foldL_add h P a b, foldL_succ, List.drop_drop, Nat.mul_add]

theorem foldL_append (h : List Nat) (P R : List UInt8) : ∀ n, 64 * n ≤ P.length → foldL h (P ++ R) n = foldL h P n
  | 0, _ => by unfold foldL; rw [itn, itn]
  | n + 1, hn => by
    rw [foldL_succ, foldL_append h P R n (by omega), foldL_succ, List.drop_append_of_le_length (by omega), List.take_append_of_le_length (by rw [List.length_drop]; omega)]

theorem foldL_take (h : List Nat) (P : List UInt8) (n m : Nat) (h1 : 64 * n ≤ m) (h2 : m ≤ P.length) : foldL h (P.take m) n = foldL h P n := by
  have e := foldL_append h (P.take m) (P.drop m) n (by rw [List.length_take]; omega)
  rwa [List.take_append_drop, eq_comm] at e

/-- What a stream's block holds. -/
structure St (w : World) (b : Nat) (V : List Nat) (rest : List UInt8) (n : Nat) : Prop where
  words : w.rangeAt b 0 (V.map (vi .u32))
  len8 : V.length = 8
  rest : w.cell? ⟨b, 8, none⟩ = some (.string (str rest))
  len : w.cell? ⟨b, 9, none⟩ = some (.int .u64 (n : Int))
  fz : ∀ j, w.frozen? ⟨b, j, none⟩ = false

theorem St.lt {w : World} {b : Nat} {V : List Nat} {r : List UInt8} {n : Nat} (h : St w b V r n) : b < w.heap.size := lt_cell h.len
theorem St.fr {S : Nat → Prop} {w w' : World} {b : Nat} {V : List Nat} {r : List UInt8} {n : Nat} (h : St w b V r n) (f : Fr S w w') (hn : ¬ S b) : St w' b V r n :=
  ⟨rangeAt_fr h.words f hn, h.len8, f.cell hn h.rest, f.cell hn h.len, fun j => (f.frozen j h.lt hn).trans (h.fz j)⟩

theorem fr_setCells {S : Nat → Prop} {a : World} {b : Nat} (hb : S b ∨ a.heap.size ≤ b) : ∀ (vs : List Value) (o : Nat) (w : World), Fr S a w → Fr S a (w.setCells b o vs)
  | [], _, _, h => h
  | v :: vs, o, w, h => fr_setCells hb vs (o + 1) _ (h.setCell hb v)

theorem St.load {w : World} {b : Nat} {V : List Nat} {r : List UInt8} {n : Nat} (h : St w b V r n) : (Instr.loadAt 29 (.pointer (some ⟨b, 0, none⟩))).run Tryd.prog w = .ok (.agg (arr .u32 V)) w :=
  run_loadAt_mid w b 0 29 (V.map (vi .u32)) _ h.words Tryd.underlying29 rfl (by rw [List.length_map, h.len8]; exact arW8.info)

theorem St.store {w : World} {b : Nat} {V V' : List Nat} {r : List UInt8} {n : Nat} (h : St w b V r n) (hV : V'.length = 8) :
    ∃ W, (Instr.storeAt 29 (.pointer (some ⟨b, 0, none⟩)) (.agg (arr .u32 V'))).run Tryd.prog w = .ok () W ∧ St W b V' r n ∧ Fr (· = b) w W := by
  have ht : w.there b 0 8 := fun j hj => ⟨by
    have := h.words j (vi .u32 (V.getD j 0)) (by rw [List.getElem?_map, List.getD_eq_getElem?_getD, List.getElem?_eq_getElem (by rw [h.len8]; exact hj)]; rfl)
    rw [this]; rfl, h.fz _⟩
  have hs := run_storeAt_mid (P := Tryd.prog) w b 0 29 (arr .u32 V') (by rw [arr_size, hV]; exact ht) (by rw [arr_size, hV]; exact arW8.info) (arr_one _ _)
  have hl : (V'.map (vi .u32)).length = 8 := by rw [List.length_map, hV]
  refine ⟨_, hs, ⟨?_, hV, ?_, ?_, fun j => ?_⟩, fr_setCells (S := fun k => k = b) (.inl rfl) _ _ _ (Fr.refl _ w)⟩
  · exact World.rangeAt_setCells_same w b 0 (V'.map (vi .u32)) (by rw [hl]; exact ht)
  · rw [World.cell?_setCells_out b _ 0 w ⟨b, 8, none⟩ (fun _ _ => .inr (by simp [hV]))]
    exact h.rest
  · rw [World.cell?_setCells_out b _ 0 w ⟨b, 9, none⟩ (fun _ _ => .inr (by simp [hV]))]
    exact h.len
  · rw [World.frozen?_setCells]
    exact h.fz j

/-- The stream at b has had the bytes A. -/
def SI (w : World) (b : Nat) (A : List UInt8) : Prop :=
  A.length ≤ 7000 ∧ ∃ V, (A ≠ [] → V = foldL H0 A (A.length / 64)) ∧ Ws V ∧ St w b V (A.drop (64 * (A.length / 64))) A.length

theorem SI.fr {S : Nat → Prop} {w w' : World} {b : Nat} {A : List UInt8} (h : SI w b A) (f : Fr S w w') (hn : ¬ S b) : SI w' b A := by
  obtain ⟨h1, V, h2, h3, h4⟩ := h
  exact ⟨h1, V, h2, h3, h4.fr f hn⟩

set_option maxHeartbeats 1000000 in
set_option maxRecDepth 100000 in
theorem folds_any' (b : Nat) (A : List UInt8) (w : World) (h : SI w b A) (hg : Gl w) :
    Calls Tryd.prog 27 #[.pointer (some ⟨b, 0, none⟩)] w fun ex w' => ex = .returned (.agg (arr .u32 (foldL H0 A (A.length / 64)))) ∧ Fr No w w' := by
  obtain ⟨hl, V, hV, hVW, hS⟩ := h
  obtain ⟨F, hF⟩ : ∃ F, F = foldL H0 A (A.length / 64) := ⟨_, rfl⟩
  obtain ⟨n, hn⟩ : ∃ n, n = A.length := ⟨_, rfl⟩
  have hFl : F.length = 8 := by rw [hF, foldL_len]; rfl
  rw [← hF]
  have hF1 : Fr No w (w.alloc (.cells (arr .u32 (List.replicate 8 0)) 29)) := (Fr.refl No w).alloc _
  have hR1 : Row (w.alloc (.cells (arr .u32 (List.replicate 8 0)) 29)) w.heap.size 29 .u32 (List.replicate 8 0) := Row.new w _ _ _
  obtain ⟨Y, hY, hYR, hYF⟩ := hR1.stored (l' := F) arW8 rfl hFl
  have hS1 := hS.fr hF1 id
  have cl := hS1.len
  rw [← hn] at cl
  have hlen : (Instr.loadAt 32 (.pointer (some ⟨b, 9, none⟩))).run Tryd.prog (w.alloc (.cells (arr .u32 (List.replicate 8 0)) 29)) = .ok (.int .u64 (n : Int)) (w.alloc (.cells (arr .u32 (List.replicate 8 0)) 29)) := by
    generalize (w.alloc (.cells (arr .u32 (List.replicate 8 0)) 29)) = W1 at cl
    simp [Instr.loadAt, Instr.sureAddr, go_sem, cl]
  have HLEN := Lib.hid hlen
  clear cl hlen
  have HY := Lib.hid hY
  have HYR := Lib.hid (hYR.loadVar arW8 hFl)
  have HYF : Hid (Fr No w Y) := Lib.hid (hF1.trans' hYF (fun k hk e => by omega))
  by_cases h0 : A = []
  · have hn0 : n = 0 := by rw [hn, h0]; rfl
    rw [hn0] at HLEN
    have hld := (hg.fr hF1 (fun _ _ => id)).load
    rw [show H0 = F by rw [hF, h0]; rfl] at hld
    have HLD := Lib.hid hld
    clear hld hY hYR hYF hS1 hS hR1 hF1 hF hFl hV hVW hn hg
    go_enter Tryd.func27, Tryd.ntmps27
    go_wp2_with (first | (refine wpList_load_eq rfl 32 _ rfl (.pointer (some ⟨b, 9, none⟩)) (.int .u64 ((0 : Nat) : Int)) rfl HLEN.out ?_) | (refine wpList_load_eq rfl 29 _ rfl (.pointer (some ⟨0, 0, none⟩)) (.agg (arr .u32 F)) rfl HLD.out ?_) | (refine wpList_store_eq rfl 29 _ _ rfl (.pointer (some ⟨w.heap.size, 0, none⟩)) (.agg (arr .u32 F)) rfl rfl HY.out ?_))
    exact bodyPost_ret (results_cell1 rfl rfl HYR.out) rfl ⟨rfl, HYF.out⟩
  · have hne : ((n : Int) == 0) = false := by
      have : A.length ≠ 0 := fun e => h0 (List.eq_nil_of_length_eq_zero e)
      simp; omega
    have hld := hS1.load
    rw [show V = F by rw [hF]; exact hV h0] at hld
    have HLD := Lib.hid hld
    clear hld hY hYR hYF hS1 hS hR1 hF1 hF hFl hV hVW hn hg
    go_enter Tryd.func27, Tryd.ntmps27
    go_wp2_with (first | (refine wpList_load_eq rfl 32 _ rfl (.pointer (some ⟨b, 9, none⟩)) (.int .u64 (n : Int)) rfl HLEN.out ?_) | (refine wpList_load_eq rfl 29 _ rfl (.pointer (some ⟨b, 0, none⟩)) (.agg (arr .u32 F)) rfl HLD.out ?_) | (refine wpList_store_eq rfl 29 _ _ rfl (.pointer (some ⟨w.heap.size, 0, none⟩)) (.agg (arr .u32 F)) rfl rfl HY.out ?_))
    exact bodyPost_ret (results_cell1 rfl rfl HYR.out) rfl ⟨rfl, HYF.out⟩
end Go.Proofs.YthanfcmpaofggaaDoor
