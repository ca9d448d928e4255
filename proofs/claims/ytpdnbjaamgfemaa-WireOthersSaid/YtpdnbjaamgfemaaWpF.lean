/- A list of fields goes by a carrier; the closures of fields are made. -/
import Derived.Test.YtpdnbjaamgfemaaWpE
namespace Go.Proofs.Ytpdnbjaamgfemaa
open Go.RowKit
set_option linter.unusedVariables false
set_option maxRecDepth 100000

/-- A list of fields of p's message, as it lies. -/
def Listed (w : World) (p q : Nat) (L : List Fd) (v : Value) : Prop :=
  ∃ (g : Nat) (bs : Fd → Nat × Nat), v = .slice (some ⟨g, 0, none⟩) L.length L.length ∧ g ≠ q ∧ Blk w g 55 (L.map fun d => d.value (bs d).1 (bs d).2) ∧ ∀ d ∈ L, FdAt w p q d (bs d).1 (bs d).2

theorem call_fn (d : Fd) (as' : Array Value) (W : World) : (callFunc d.fn as').run Try.prog W = .ok (.enter d.fn as') W := by
  cases d <;> kernel_rfl

section
variable {t : TypeId} {c0 : Value} {B p q : Nat} {τ : Type} {I : Nat → τ → World → Prop} {j : Nat} {num : Nat → Int → τ → Except Int (Nat × τ)} {hsh : List UInt8 → τ → Except Int (List UInt8 × τ)} {fnum fhash : FuncId}

theorem stepsF_snoc : ∀ (L : List Fd) (d : Fd) (x : Msg × τ), stepsF num hsh (L ++ [d]) x = (match stepsF num hsh L x with | .ok y => stepF num hsh d y | .error c => .error c)
  | [], d, x => by
    simp only [List.nil_append, stepsF]
    cases stepF num hsh d x <;> rfl
  | b :: L, d, x => by
    simp only [List.cons_append, stepsF]
    cases stepF num hsh b x with
    | ok y => exact stepsF_snoc L d y
    | error c => rfl
theorem stepsF_err : ∀ (L : List Fd) (i : Nat) (d : Fd) (x y : Msg × τ) (c : Int), L[i]? = some d → stepsF num hsh (L.take i) x = .ok y → stepF num hsh d y = .error c → stepsF num hsh L x = .error c
  | [], i, d, x, y, c, hd, _, _ => by simp at hd
  | b :: L, 0, d, x, y, c, hd, h1, h2 => by
    simp only [List.getElem?_cons_zero, Option.some.injEq] at hd
    subst hd
    simp only [List.take_zero, stepsF, Except.ok.injEq] at h1
    subst h1
    simp only [stepsF, h2]
  | b :: L, i + 1, d, x, y, c, hd, h1, h2 => by
    simp only [List.getElem?_cons_succ] at hd
    simp only [List.take_succ_cons, stepsF] at h1 ⊢
    cases hb : stepF num hsh b x with
    | ok z =>
      rw [hb] at h1
      exact stepsF_err L i d z y c hd h1 h2
    | error e =>
      rw [hb] at h1
      cases h1

theorem carry_any (C : Car t c0 B p q τ I num hsh fnum fhash) {w : World} {m : Msg} {s : τ} {L : List Fd} {v : Value} (hL : Listed w p q L v) (hn : L.length ≤ 1000) (ok : m.Ok) (hm : Blk w p 27 (cellsM m)) (hi : I (L.length + j) s w) :
    Calls Try.prog 19 #[.iface t c0, v] w (After B p q (I j) (stepsF num hsh L (m, s)) w) := by
  obtain ⟨g, bs, rfl, hgq, hg, hf⟩ := hL
  have hgp : g ≠ p := blk_ne hg hm (by decide)
  refine (carry_abs (.iface t c0) g L.length w (fun i W => ∃ x : Msg × τ, stepsF num hsh (L.take i) (m, s) = .ok x ∧ x.1.Ok ∧ I (L.length - i + j) x.2 W ∧ Keeps B p q w W ∧ Blk W p 27 (cellsM x.1))
    (fun c W => ∃ e, stepsF num hsh L (m, s) = .error e ∧ Ending.panicked c = wrong e ∧ Keeps B p q w W) hn ⟨(m, s), by rw [List.take_zero]; rfl, ok, hi, Keeps.refl _ _ _ _, hm⟩ ?_).mono ?_
  · rintro i W hlt ⟨⟨m1, s1⟩, h1, h2, h3, h4, h5⟩
    obtain ⟨d, hd⟩ : ∃ d, L[i]? = some d := ⟨L[i], List.getElem?_eq_getElem hlt⟩
    have hmem : d ∈ L := List.mem_of_getElem? hd
    have hgW := h4.blk _ _ _ hgq hgp (by decide) hg
    refine ⟨d.fn, d.caps (bs d).1 (bs d).2, hgW.cell (by rw [List.getElem?_map, hd]; rfl), call_fn d, ?_⟩
    have e3 : L.length - i + j = (L.length - (i + 1) + j) + 1 := by omega
    rw [e3] at h3
    refine (fstep_any C h2 ((hf d hmem).keeps hm h4) h5 h3).mono ?_
    intro e w' h
    unfold After at h
    cases hr : stepF num hsh d (m1, s1) with
    | ok y =>
      rw [hr] at h
      obtain ⟨rfl, a1, a2, a3, a4⟩ := h
      refine .inl ⟨rfl, y, ?_, a1, a2, h4.trans a3, a4⟩
      rw [List.take_add_one, hd, Option.toList_some, stepsF_snoc, h1]
      exact hr
    | error c =>
      rw [hr] at h
      obtain ⟨rfl, a3⟩ := h
      exact .inr ⟨_, rfl, c, stepsF_err L i d _ _ c hd h1 hr, rfl, h4.trans a3⟩
  · rintro e w' (⟨rfl, ⟨m1, s1⟩, h1, h2, h3, h4, h5⟩ | ⟨c, rfl, e, h1, h2, h3⟩)
    · rw [List.take_length] at h1
      rw [h1]
      rw [Nat.sub_self, Nat.zero_add] at h3
      exact ⟨rfl, h2, h3, h4, h5⟩
    · rw [h1]
      exact ⟨h2, h3⟩
end

/-! ### The closures are made -/
theorem newi_any (p o : Nat) (k : Int) (w : World) : Calls Try.prog 35 #[.pointer (some ⟨p, o, none⟩), .int .i64 k] w fun e w' =>
    e = .returned (.func (.func 40) #[] #[.pointer (some ⟨w.heap.size, 0, none⟩), .pointer (some ⟨w.heap.size + 1, 0, none⟩)]) ∧ w' = (w.alloc (.cells #[.pointer (some ⟨p, o, none⟩)] 81)).alloc (.cells #[.int .i64 k] 3) := by
  have hmf : ∀ (fn : Fn) (first cap : Array Value) (w : World), (Instr.makeFunc fn first cap).run Try.prog w = .ok (.func fn first cap) w := fun _ _ _ _ => rfl
  go_enter Try.func35, Try.ntmps35
  go_wp2
  go_ret
  exact ⟨rfl, rfl⟩
theorem neww_any (p o : Nat) (k : Int) (w : World) : Calls Try.prog 36 #[.pointer (some ⟨p, o, none⟩), .int .i64 k] w fun e w' =>
    e = .returned (.func (.func 41) #[] #[.pointer (some ⟨w.heap.size, 0, none⟩), .pointer (some ⟨w.heap.size + 1, 0, none⟩)]) ∧ w' = (w.alloc (.cells #[.pointer (some ⟨p, o, none⟩)] 83)).alloc (.cells #[.int .i64 k] 3) := by
  have hmf : ∀ (fn : Fn) (first cap : Array Value) (w : World), (Instr.makeFunc fn first cap).run Try.prog w = .ok (.func fn first cap) w := fun _ _ _ _ => rfl
  go_enter Try.func36, Try.ntmps36
  go_wp2
  go_ret
  exact ⟨rfl, rfl⟩
theorem newq_any (p o : Nat) (k : Int) (w : World) : Calls Try.prog 37 #[.pointer (some ⟨p, o, none⟩), .int .i64 k] w fun e w' =>
    e = .returned (.func (.func 42) #[] #[.pointer (some ⟨w.heap.size, 0, none⟩), .pointer (some ⟨w.heap.size + 1, 0, none⟩)]) ∧ w' = (w.alloc (.cells #[.pointer (some ⟨p, o, none⟩)] 85)).alloc (.cells #[.int .i64 k] 3) := by
  have hmf : ∀ (fn : Fn) (first cap : Array Value) (w : World), (Instr.makeFunc fn first cap).run Try.prog w = .ok (.func fn first cap) w := fun _ _ _ _ => rfl
  go_enter Try.func37, Try.ntmps37
  go_wp2
  go_ret
  exact ⟨rfl, rfl⟩
theorem newh_any (p o : Nat) (w : World) : Calls Try.prog 38 #[.pointer (some ⟨p, o, none⟩)] w fun e w' =>
    e = .returned (.func (.func 43) #[] #[.pointer (some ⟨w.heap.size, 0, none⟩)]) ∧ w' = w.alloc (.cells #[.pointer (some ⟨p, o, none⟩)] 87) := by
  have hmf : ∀ (fn : Fn) (first cap : Array Value) (w : World), (Instr.makeFunc fn first cap).run Try.prog w = .ok (.func fn first cap) w := fun _ _ _ _ => rfl
  go_enter Try.func38, Try.ntmps38
  go_wp2
  go_ret
  exact ⟨rfl, rfl⟩

/-- The same, as a field's closure that stands. -/
def Made (p q : Nat) (d : Fd) (w : World) (e : Ending) (w' : World) : Prop := ∃ v b1 b2, e = .returned v ∧ v = d.value b1 b2 ∧ FdAt w' p q d b1 b2 ∧ Fr No w w'
theorem made_num {p q : Nat} {d : Fd} {w : World} (hd : d ≠ .hash) (hq : q < w.heap.size) {e : Ending} {w' : World} (he : e = .returned (.func (.func d.fn) #[] #[.pointer (some ⟨w.heap.size, 0, none⟩), .pointer (some ⟨w.heap.size + 1, 0, none⟩)]))
    (hw : w' = (w.alloc (.cells #[.pointer (some ⟨p, d.off, none⟩)] d.tp)).alloc (.cells #[.int .i64 d.width] 3)) : Made p q d w e w' := by
  have h1 := Blk.new w d.tp [.pointer (some ⟨p, d.off, none⟩)]
  have h2 := Blk.new (w.alloc (.cells #[.pointer (some ⟨p, d.off, none⟩)] d.tp)) 3 [.int .i64 d.width]
  have e1 : (w.alloc (.cells #[.pointer (some ⟨p, d.off, none⟩)] d.tp)).heap.size = w.heap.size + 1 := by simp
  rw [e1] at h2
  subst hw
  refine ⟨_, w.heap.size, w.heap.size + 1, he, ?_, ⟨h1.alloc _, .inr ⟨h2, by omega⟩, by omega⟩, ((Fr.refl No w).alloc _).alloc _⟩
  cases d <;> first | rfl | exact absurd rfl hd
theorem made_hash {p q : Nat} {w : World} (hq : q < w.heap.size) {e : Ending} {w' : World} (he : e = .returned (.func (.func (Fd.hash).fn) #[] #[.pointer (some ⟨w.heap.size, 0, none⟩)]))
    (hw : w' = w.alloc (.cells #[.pointer (some ⟨p, Fd.hash.off, none⟩)] Fd.hash.tp)) : Made p q .hash w e w' := by
  have h1 := Blk.new w Fd.hash.tp [.pointer (some ⟨p, Fd.hash.off, none⟩)]
  subst hw
  exact ⟨_, w.heap.size, 0, he, rfl, ⟨h1, .inl rfl, by omega⟩, (Fr.refl No w).alloc _⟩
end Go.Proofs.Ytpdnbjaamgfemaa
