/- An entry built of its parts; '==' and '!=' of hashes; single operations of a region that draws, inside a fence. -/
import Derived.Test.YtnpgcgemifoddaaDoorShR
import Derived.OrdersIn
import Derived.BigRegionIn
namespace Go.Proofs.YtnpgcgemifoddaaDoor
open Go.RowKit Go.Shelf
set_option linter.unusedVariables false

theorem list_succ {α : Type} {l : List α} {n : Nat} (h : l.length = n + 1) : ∃ a r, l = a :: r ∧ r.length = n := by
  cases l with
  | nil => cases h
  | cons a r => exact ⟨a, r, rfl, by simpa using h⟩

set_option maxRecDepth 100000 in
set_option maxHeartbeats 1000000 in
theorem build_place (i : Int) (h : List Nat) (hh : h.length = 32) (w : World) :
    (Instr.build 29 #[(0, .bool true), (1, .int .i64 i), (2, .agg (arr .u8 h))]).run Tryd.prog w = .ok (.agg (Value.bool true :: .int .i64 i :: h.map (vi .u8)).toArray) w := by
  obtain ⟨x0, h1, rfl, k1⟩ := list_succ hh
  obtain ⟨x1, h2, rfl, k2⟩ := list_succ k1
  obtain ⟨x2, h3, rfl, k3⟩ := list_succ k2
  obtain ⟨x3, h4, rfl, k4⟩ := list_succ k3
  obtain ⟨x4, h5, rfl, k5⟩ := list_succ k4
  obtain ⟨x5, h6, rfl, k6⟩ := list_succ k5
  obtain ⟨x6, h7, rfl, k7⟩ := list_succ k6
  obtain ⟨x7, h8, rfl, k8⟩ := list_succ k7
  obtain ⟨x8, h9, rfl, k9⟩ := list_succ k8
  obtain ⟨x9, h10, rfl, k10⟩ := list_succ k9
  obtain ⟨x10, h11, rfl, k11⟩ := list_succ k10
  obtain ⟨x11, h12, rfl, k12⟩ := list_succ k11
  obtain ⟨x12, h13, rfl, k13⟩ := list_succ k12
  obtain ⟨x13, h14, rfl, k14⟩ := list_succ k13
  obtain ⟨x14, h15, rfl, k15⟩ := list_succ k14
  obtain ⟨x15, h16, rfl, k16⟩ := list_succ k15
  obtain ⟨x16, h17, rfl, k17⟩ := list_succ k16
  obtain ⟨x17, h18, rfl, k18⟩ := list_succ k17
  obtain ⟨x18, h19, rfl, k19⟩ := list_succ k18
  obtain ⟨x19, h20, rfl, k20⟩ := list_succ k19
  obtain ⟨x20, h21, rfl, k21⟩ := list_succ k20
  obtain ⟨x21, h22, rfl, k22⟩ := list_succ k21
  obtain ⟨x22, h23, rfl, k23⟩ := list_succ k22
  obtain ⟨x23, h24, rfl, k24⟩ := list_succ k23
  obtain ⟨x24, h25, rfl, k25⟩ := list_succ k24
  obtain ⟨x25, h26, rfl, k26⟩ := list_succ k25
  obtain ⟨x26, h27, rfl, k27⟩ := list_succ k26
  obtain ⟨x27, h28, rfl, k28⟩ := list_succ k27
  obtain ⟨x28, h29, rfl, k29⟩ := list_succ k28
  obtain ⟨x29, h30, rfl, k30⟩ := list_succ k29
  obtain ⟨x30, h31, rfl, k31⟩ := list_succ k30
  obtain ⟨x31, h32, rfl, k32⟩ := list_succ k31
  obtain rfl : h32 = [] := List.eq_nil_of_length_eq_zero k32
  kernel_rfl

theorem neq_hash (xs ys : List Nat) (hx : xs.length = 32) (hy : ys.length = 32) (w : World) : (binOp .neq 27 (.agg (arr .u8 xs)) (.agg (arr .u8 ys))).run Tryd.prog w = .ok (.bool (!(xs == ys))) w :=
  run_neq_arr w 27 5 32 .u8 Tryd.underlying27 Tryd.underlying5 (size_one (by kernel_rfl)) xs ys hx hy

theorem exec_build {P : Program} {o : Oper} {ev : Operand → Value} {w : World} (t : TypeId) (parts : Array (Nat × Operand)) (ho : o.op = .build t parts) (q : Array (Nat × Value)) (hq : parts.map (fun (x : Nat × Operand) => (x.1, ev x.2)) = q) (v : Value) (hr : (Instr.build t q).run P w = .ok v w) :
    (execOp ev o).run P w = .ok (.value v) w := by
  unfold execOp
  simp only [ho, hq, hr, Sem.run_bind, Sem.run_pure, Result.andThen_ok]

section
variable {F : Fence} {n : Nat} {P : Program} {ops : Array Oper} {o : Oper} {a : Act} {w w' : World} {K : Act → World → Prop} {Q : Exit → Act → World → Prop}
theorem wpIn_exec (v : Value) (hc : ∀ c, o.op ≠ .defer c) (ha : o.about P w a.eval = none) (hr : (execOp a.eval o).run P w = .ok (.value v) w') (h : K (a.put o.dst v) w') : o.wpIn F n P a w K Q := by
  unfold Oper.wpIn
  refine ⟨fun f hf => (by rw [ha] at hf; cases hf), ?_⟩
  rw [Oper.semAt_plain F _ _ hc]
  simp only [hr]
  exact h
theorem wpIn_store (ty : TypeId) (x y : Operand) (ho : o.op = .store ty x y) (p v : Value) (hx : a.eval x = p) (hy : a.eval y = v) (hr : (Instr.storeAt ty p v).run P w = .ok () w') (h : K (a.put o.dst undef) w') : o.wpIn F n P a w K Q := by
  unfold Oper.wpIn
  refine ⟨fun f hf => ?_, ?_⟩
  · simp [Oper.about, ho] at hf
  · rw [Oper.semAt_plain F _ _ (by rw [ho]; intro c hc'; cases hc')]
    simp only [execOp, ho, hx, hy, hr, Sem.run_bind, Sem.run_pure, Result.andThen_ok]
    exact h
theorem wpListIn_execG {rest : List Oper} (v : Value) (hc : ∀ c, o.op ≠ .defer c) (ha : o.about P w a.eval = none) (hr : (execOp a.eval o).run P w = .ok (.value v) w') (hw : Region.wanted o (yielded ops a.tmps) = true) (h : wpListIn F n P ops Q rest (a.put o.dst v) w') : wpListIn F n P ops Q (o :: rest) a w := by
  refine wpListIn_step fun K hK => ?_
  rw [if_pos hw]
  exact wpIn_exec v hc ha hr (hK _ _ h)
/-- One operation of a drawn region taken first. -/
theorem takeIn {md : Region.Mode} {i : Nat} {oi : Oper} {fuel : Nat} {listed : Array Bool} (d : Option Tmp) (v : Value) (hro : F.round = none) (hi : ops[i]? = some oi) (hd : oi.dst = d)
    (hs : Region.noSelect ops = true) (hf : Region.free md ops listed i = true) (hr : (Region.ready md ops listed).contains i = true)
    (hQ : ∀ c a w, Q (.panic c) (a.put d v) w → Q (.panic c) a w) (hw : Region.wanted oi (yielded ops a.tmps) = true) (ha : ∀ w, oi.about P w a.eval = none) (hy : ∀ w, (execOp a.eval oi).run P w = .ok (.value v) w)
    (h : wpAnyIn F n P md ops Q fuel (listed.setIfInBounds i true) (a.put d v) w) : wpAnyIn F n P md ops Q (fuel + 1) listed a w := by
  subst hd
  exact wpAnyIn_take hro hi hs hf hr hQ ⟨.inl ⟨hw, hy⟩, ha⟩ h
/-- Left at its end, and by no panic. -/
def Nrm (Q : Act → World → Prop) : Exit → Act → World → Prop
  | .normal, a, w => Q a w
  | _, _, _ => False
theorem wpIn_region_V {id : Nat} (S : World → Prop) (h0 : S w.drew) (hm : P.follows .mixedOrders = true) (h : ∀ V, S V → wpAnyIn F n P .any ops (Nrm (Q .normal)) ops.size (Array.replicate ops.size false) a V) : (Code.region id ops true).wpIn F n P Q a w :=
  Code.wpIn_mono (Q := Nrm (Q .normal)) (fun e a w h => by cases e <;> first | exact h | exact h.elim) (wpIn_region_any hm (h _ h0))
end
/-- An entry stored at its place. -/
theorem place_store {V : World} {b : Nat} {L : List Ent} (h : Blk V b 32 (flat L)) {i : Nat} (hi : i < L.length) (M : Ent) : ∃ Z, (Instr.storeAt 29 (.pointer (some ⟨b, i * 34, none⟩)) (.agg M.cells.toArray)).run Tryd.prog V = .ok () Z ∧
    Blk Z b 32 (flat (L.set i M)) ∧ Fr (· = b) V Z :=
  ⟨_, store_range (h.there (by rw [flat_len, M.size]; omega)) (by rw [M.size]; kernel_rfl) M.one _ rfl, place_put h hi M, fr_setCells _ _ _ _ _ (.inl rfl) (Fr.refl _ _)⟩
end Go.Proofs.YtnpgcgemifoddaaDoor
