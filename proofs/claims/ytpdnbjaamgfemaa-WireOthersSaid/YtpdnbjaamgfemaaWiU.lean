/- The state of the document's Decode: its result's variable, its reader, and the message that it fills. -/
import Derived.Test.YtpdnbjaamgfemaaWiD
namespace Go.Proofs.Ytpdnbjaamgfemaa
open Go.RowKit
set_option linter.unusedVariables false
set_option maxRecDepth 100000

structure Dst (w : World) (p pr pm : Nat) (m : Msg) (rest : List UInt8) (X : World) : Prop where
  fr : Fr No w X
  res : Blk X p 32 (cellsM zeroM)
  msg : Blk X pm 32 (cellsM m)
  rd : X.cell? ⟨pr, 0, none⟩ = some (.string (str rest))
  fz : X.frozen? ⟨pr, 0, none⟩ = false
  n1 : w.heap.size ≤ p
  n2 : w.heap.size ≤ pr
  n3 : w.heap.size ≤ pm
  d1 : p ≠ pr
  d2 : p ≠ pm
  d3 : pm ≠ pr
theorem Dst.on {w X X' : World} {p pr pm : Nat} {m : Msg} {rest : List UInt8} (h : Dst w p pr pm m rest X) (f : Fr No X X') : Dst w p pr pm m rest X' :=
  { h with fr := h.fr.trans f, res := h.res.fr f id, msg := h.msg.fr f id, rd := f.cell id h.rd, fz := (f.frozen 0 (World.block_lt_of_cell? X _ h.rd) id).trans h.fz }
theorem Dst.read {w X X' : World} {p pr pm : Nat} {m : Msg} {rest r2 : List UInt8} (h : Dst w p pr pm m rest X) (r : Rd pr (str r2) X X') : Dst w p pr pm m r2 X' :=
  { h with fr := h.fr.trans' r.2.2 (fun i hi e => by have := h.n2; omega), res := h.res.fr r.2.2 h.d1, msg := h.msg.fr r.2.2 h.d3, rd := r.1, fz := r.2.1 }
theorem Dst.fill {w X X' : World} {p pr pm : Nat} {m m2 : Msg} {rest : List UInt8} (h : Dst w p pr pm m rest X) (f : Fr (· = pm) X X') (hm : Blk X' pm 32 (cellsM m2)) : Dst w p pr pm m2 rest X' :=
  { h with fr := h.fr.trans' f (fun i hi e => by have := h.n3; omega), res := h.res.fr f h.d2, msg := hm, rd := f.cell (fun e => h.d3 e.symm) h.rd, fz := (f.frozen 0 (World.block_lt_of_cell? X _ h.rd) (fun e => h.d3 e.symm)).trans h.fz }
theorem Dst.setI {w X : World} {p pr pm : Nat} {m : Msg} {rest : List UInt8} (h : Dst w p pr pm m rest X) (x : Nat) : Dst w p pr pm { m with i := x } rest (X.setCell ⟨pm, 2, none⟩ (.int .u64 (x : Int))) :=
  h.fill (Fr.setCell (S := fun k => k = pm) (p := ⟨pm, 2, none⟩) (Fr.refl _ X) (.inl rfl) _) (h.msg.set 2 _)
theorem Dst.setA {w X : World} {p pr pm : Nat} {m : Msg} {rest : List UInt8} (h : Dst w p pr pm m rest X) (x : Nat) : Dst w p pr pm { m with a := x } rest (X.setCell ⟨pm, 3, none⟩ (.int .u64 (x : Int))) :=
  h.fill (Fr.setCell (S := fun k => k = pm) (p := ⟨pm, 3, none⟩) (Fr.refl _ X) (.inl rfl) _) (h.msg.set 3 _)
theorem cells_set36 (m : Msg) (hl : m.h.length = 32) (x : Int) : (cellsM m).set 36 (.int .i64 x) = cellsM { m with e := x } := by
  have e : (m.h.map u8v).length = 32 := by rw [List.length_map]; exact hl
  simp [cellsM, e]
theorem cells_set37 (m : Msg) (hl : m.h.length = 32) (x : Int) : (cellsM m).set 37 (.int .i64 x) = cellsM { m with n := x } := by
  have e : (m.h.map u8v).length = 32 := by rw [List.length_map]; exact hl
  simp [cellsM, e]
theorem Dst.setE {w X : World} {p pr pm : Nat} {m : Msg} {rest : List UInt8} (h : Dst w p pr pm m rest X) (hl : m.h.length = 32) (x : Int) : Dst w p pr pm { m with e := x } rest (X.setCell ⟨pm, 36, none⟩ (.int .i64 x)) :=
  h.fill (Fr.setCell (S := fun k => k = pm) (p := ⟨pm, 36, none⟩) (Fr.refl _ X) (.inl rfl) _) (by rw [← cells_set36 m hl x]; exact h.msg.set 36 _)
theorem Dst.setN {w X : World} {p pr pm : Nat} {m : Msg} {rest : List UInt8} (h : Dst w p pr pm m rest X) (hl : m.h.length = 32) (x : Int) : Dst w p pr pm { m with n := x } rest (X.setCell ⟨pm, 37, none⟩ (.int .i64 x)) :=
  h.fill (Fr.setCell (S := fun k => k = pm) (p := ⟨pm, 37, none⟩) (Fr.refl _ X) (.inl rfl) _) (by rw [← cells_set37 m hl x]; exact h.msg.set 37 _)
theorem Dst.setH {w X : World} {p pr pm : Nat} {m : Msg} {rest : List UInt8} (h : Dst w p pr pm m rest X) (hl : m.h.length = 32) (hs : List UInt8) (h2 : hs.length = 32) :
    ∃ V, (Instr.storeAt 25 (.pointer (some ⟨pm, 4, none⟩)) (.agg (hs.map u8v).toArray)).run Try.prog X = .ok () V ∧ Dst w p pr pm { m with h := hs } rest V := by
  have e1 : (m.h.map u8v).length = 32 := by rw [List.length_map]; exact hl
  have e2 : (hs.map u8v).length = 32 := by rw [List.length_map]; exact h2
  refine ⟨_, store_range (h.msg.there (by rw [cellsM_len m hl, e2]; decide)) (by rw [e2]; kernel_rfl) (all_oneCell_toArray fun v hv => by
    obtain ⟨b, _, rfl⟩ := List.mem_map.1 hv
    rfl) _ rfl, h.fill (fr_setCells _ _ _ _ _ (.inl rfl) (Fr.refl _ X)) ?_⟩
  have hb := h.msg.setCells (hs.map u8v) 4 X (cellsM m)
  have hp : putL (cellsM m) 4 (hs.map u8v) = cellsM { m with h := hs } := putL_mid (hs.map u8v) [.int .i64 m.k, .int .u32 (m.c : Int), .int .u64 (m.i : Int), .int .u64 (m.a : Int)] (m.h.map u8v) [.int .i64 m.e, .int .i64 m.n] (by rw [e1, e2])
  rw [hp] at hb
  exact hb
theorem build_two (K : Int) (C : Nat) (w : World) : (Instr.build 32 #[(0, .int .i64 K), (1, .int .u32 (C : Int))]).run Try.prog w = .ok (vM ⟨K, C, 0, 0, zeroH, 0, 0⟩) w := by kernel_rfl
theorem numR_in (l : List UInt8) (k : Nat) (h1 : 1 ≤ k) (h2 : k ≤ 8) (h : k ≤ l.length) : numR l (k : Int) = (beNat (l.take k), 0, l.drop k) := by
  unfold numR
  rw [if_pos ⟨by omega, by omega⟩, if_neg (by omega), Int.toNat_natCast]
theorem hashR_in (l : List UInt8) (h : 32 ≤ l.length) : hashR l = (l.take 32, 0, l.drop 32) := by
  unfold hashR
  rw [if_neg (by omega)]
theorem frozen_new (w : World) (cs : Array Value) (t : TypeId) : (w.alloc (.cells cs t)).frozen? ⟨w.heap.size, 0, none⟩ = false := by
  unfold World.frozen?
  rw [show (w.alloc (.cells cs t)).heap[(⟨w.heap.size, 0, none⟩ : Addr).block]? = some (.cells cs t) from heap_alloc_new w _]
  simp
theorem cell_new0 (w : World) (t : TypeId) (v : Value) : (w.alloc (.cells #[v] t)).cell? ⟨w.heap.size, 0, none⟩ = some v := by
  rw [cell_of_row _ _ _ _ t (0, 0) (heap_alloc_new w _)]
  rfl
theorem str_rest (b : UInt8) (s : List UInt8) (n : Nat) (hn : n = s.length + 1) : (str (b :: s)).extract 1 n = str s := by
  have h := str_drop (b :: s) 1 (by simp)
  rw [str_size, List.length_cons, ← hn] at h
  exact h
end Go.Proofs.Ytpdnbjaamgfemaa
