/- A law's world: a shelf, and variables that hold hashes. -/
import Derived.Test.YtnpgcgemifoddaaDoorShL
namespace Go.Proofs.YtnpgcgemifoddaaDoor
open Go.RowKit
set_option linter.unusedVariables false

structure St (w : World) (b : Nat) (L : List Ent) (R : List (Nat × List Nat)) (X : World) : Prop where
  fr : Fr No w X
  new : w.heap.size ≤ b
  blk : Blk X b 32 (flat L)
  rows : ∀ r, r ∈ R → Row X r.1 27 .u8 r.2 ∧ r.2.length = 32 ∧ r.1 ≠ b
section
variable {w X X' : World} {b : Nat} {L L' : List Ent} {R : List (Nat × List Nat)}
theorem St.on (s : St w b L R X) (f : Fr No X X') : St w b L R X' := ⟨s.fr.trans f, s.new, s.blk.fr f id, fun r hr => ⟨(s.rows r hr).1.fr f id, (s.rows r hr).2⟩⟩
theorem St.ins (s : St w b L R X) (f : Fr (· = b) X X') (hB : Blk X' b 32 (flat L')) : St w b L' R X' :=
  ⟨s.fr.trans' f (fun i hi e => by have := s.new; omega), s.new, hB, fun r hr => ⟨(s.rows r hr).1.fr f (s.rows r hr).2.2, (s.rows r hr).2⟩⟩
theorem St.add (s : St w b L R X) (D : List Nat) (hD : D.length = 32) : ∃ Y, (Instr.storeAt 27 (.pointer (some ⟨X.heap.size, 0, none⟩)) (.agg (arr .u8 D))).run Tryd.prog (X.alloc (.cells (arr .u8 (List.replicate 32 0)) 27)) = .ok () Y ∧
    St w b L ((X.heap.size, D) :: R) Y := by
  obtain ⟨Y, hY, hYR, hYF⟩ := hash_new X D hD
  have s' := s.on hYF
  refine ⟨Y, hY, s'.fr, s'.new, s'.blk, fun r hr => ?_⟩
  rcases List.mem_cons.1 hr with rfl | hr
  · exact ⟨hYR, hD, by have := s.blk.lt; show X.heap.size ≠ b; omega⟩
  · exact s'.rows r hr
theorem St.load (s : St w b L R X) {g : Nat} {D : List Nat} (h : (g, D) ∈ R) : (Instr.loadAt 27 (.pointer (some ⟨g, 0, none⟩))).run Tryd.prog X = .ok (.agg (arr .u8 D)) X := (s.rows _ h).1.load arHash (s.rows _ h).2.1
theorem St.cons (s : St w b L R X) {g : Nat} {D : List Nat} (h : Row X g 27 .u8 D) (hD : D.length = 32) (hg : g ≠ b) : St w b L ((g, D) :: R) X :=
  ⟨s.fr, s.new, s.blk, fun r hr => by
    rcases List.mem_cons.1 hr with rfl | hr
    · exact ⟨h, hD, hg⟩
    · exact s.rows r hr⟩
theorem St.gl (s : St w b L R X) (h : Gl w) : Gl X := h.fr s.fr (fun _ _ => id)
theorem St.drew (s : St w b L R X) : St w b L R X.drew := s.on (Fr.refl No X).drew
end
theorem St.new1 (w : World) (h : List Nat) (hh : h.length = 32) : St w (w.heap.size + 1) zeroL [(w.heap.size, h)] ((w.alloc (.cells (arr .u8 h) 27)).alloc (.cells (flat zeroL).toArray 32)) := by
  have h1 := Blk.new (w.alloc (.cells (arr .u8 h) 27)) 32 (flat zeroL)
  rw [World.size_alloc] at h1
  refine ⟨((Fr.refl No w).alloc _).alloc _, by omega, h1, fun r hr => ?_⟩
  obtain rfl : r = (w.heap.size, h) := by simpa using hr
  exact ⟨(Row.new w 27 .u8 h).alloc _, hh, by show w.heap.size ≠ w.heap.size + 1; omega⟩
theorem St.new2 (w : World) (h o : List Nat) (hh : h.length = 32) (ho : o.length = 32) : St w (w.heap.size + 1 + 1) zeroL [(w.heap.size + 1, o), (w.heap.size, h)] (((w.alloc (.cells (arr .u8 h) 27)).alloc (.cells (arr .u8 o) 27)).alloc (.cells (flat zeroL).toArray 32)) := by
  have h1 := Blk.new ((w.alloc (.cells (arr .u8 h) 27)).alloc (.cells (arr .u8 o) 27)) 32 (flat zeroL)
  rw [World.size_alloc, World.size_alloc] at h1
  refine ⟨(((Fr.refl No w).alloc _).alloc _).alloc _, by omega, h1, fun r hr => ?_⟩
  rcases List.mem_cons.1 hr with rfl | hr
  · exact ⟨(Row.new2 w _ 27 .u8 o).alloc _, ho, by show w.heap.size + 1 ≠ w.heap.size + 1 + 1; omega⟩
  · obtain rfl : r = (w.heap.size, h) := by simpa using hr
    exact ⟨((Row.new w 27 .u8 h).alloc _).alloc _, hh, by show w.heap.size ≠ w.heap.size + 1 + 1; omega⟩

/-! ### The calls of the laws, their answers as letters -/
theorem look_any (b : Nat) (L : List Ent) (i : Int) (X : World) (D : List Nat) (e : Int) (hB : Blk X b 32 (flat L)) (hL : L.length = 17) (hg : Gl X) (h : look L i = (D, e)) :
    Calls Tryd.prog 16 #[.pointer (some ⟨b, 0, none⟩), .int .i64 i] X fun ex w' => ex = .returned (.tuple #[.agg (arr .u8 D), .int .i64 e]) ∧ Fr No X w' := by
  have h1 := congrArg Prod.fst h
  have h2 := congrArg Prod.snd h
  dsimp only at h1 h2
  have := lookup_any b L i X hB hL hg
  rwa [h1, h2] at this
theorem exec_shelf {o : Oper} {ev : Operand → Value} {w : World} (ho : o.op = .build 32 #[]) : (execOp ev o).run Tryd.prog w = .ok (.value (.agg (flat zeroL).toArray)) w := exec_build 32 _ ho #[] (by simp) _ (build_shelf _)
theorem zeros_len : (List.replicate 32 0 : List Nat).length = 32 := by rfl
theorem Fr.cellB {S : Nat → Prop} {w w' : World} (h : Fr S w w') {a : Addr} {v : Value} (hn : ¬ S a.block) (hc : w.cell? a = some v) : w'.cell? a = some v :=
  (World.cell?_of_block (h.block a.block (World.block_lt_of_cell? w a hc) hn)).trans hc
theorem build_hash0 (w : World) : (Instr.build 27 #[]).run Tryd.prog w = .ok (.agg (arr .u8 (List.replicate 32 0))) w := by kernel_rfl
end Go.Proofs.YtnpgcgemifoddaaDoor
