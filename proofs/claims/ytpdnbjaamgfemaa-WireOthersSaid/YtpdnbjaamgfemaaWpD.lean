/- Fields, as they lie in memory, and what becomes of a message when they go by a carrier. -/
import Derived.Test.YtpdnbjaamgfemaaWpC
namespace Go.Proofs.Ytpdnbjaamgfemaa
open Go.RowKit
set_option linter.unusedVariables false
set_option maxRecDepth 100000

inductive Fd | kind | chan | id | amount | hash | expiry | count
  deriving DecidableEq

namespace Fd
def off : Fd → Nat | kind => 0 | chan => 1 | id => 2 | amount => 3 | hash => 4 | expiry => 36 | count => 37
def width : Fd → Int | kind => 1 | chan => 4 | id => 8 | amount => 8 | hash => 1 | expiry => 4 | count => 2
def fn : Fd → FuncId | kind | expiry | count => 40 | chan => 41 | id | amount => 42 | hash => 43
def tp : Fd → TypeId | kind | expiry | count => 81 | chan => 83 | id | amount => 85 | hash => 87
/-- The number that a carrier is given. -/
def raw (m : Msg) : Fd → Nat
  | kind => (IntKind.u64.wrap m.k).toNat | chan => m.c | id => m.i | amount => m.a | hash => 0 | expiry => (IntKind.u64.wrap m.e).toNat | count => (IntKind.u64.wrap m.n).toNat
/-- What is laid for the number that a carrier tells. -/
def put (m : Msg) (v : Nat) : Fd → Msg
  | kind => { m with k := IntKind.i64.wrap (v : Int) } | chan => { m with c := (IntKind.u32.wrap (v : Int)).toNat } | id => { m with i := v } | amount => { m with a := v } | hash => m
  | expiry => { m with e := IntKind.i64.wrap (v : Int) } | count => { m with n := IntKind.i64.wrap (v : Int) }
def caps (b1 b2 : Nat) : Fd → Array Value
  | hash => #[.pointer (some ⟨b1, 0, none⟩)]
  | _ => #[.pointer (some ⟨b1, 0, none⟩), .pointer (some ⟨b2, 0, none⟩)]
def value (b1 b2 : Nat) (d : Fd) : Value := .func (.func d.fn) #[] (d.caps b1 b2)
theorem tp_ne (d : Fd) : d.tp ≠ 5 ∧ d.tp ≠ 27 := by cases d <;> decide
end Fd

theorem wrap_u64_range (x : Int) : 0 ≤ IntKind.u64.wrap x ∧ IntKind.u64.wrap x < 18446744073709551616 := by
  have h1 : IntKind.u64.wrap x = x % 18446744073709551616 := by simp [IntKind.wrap, IntKind.signed, IntKind.bits]
  omega
theorem wrap_u32_range (x : Int) : 0 ≤ IntKind.u32.wrap x ∧ IntKind.u32.wrap x < 4294967296 := by
  have h1 : IntKind.u32.wrap x = x % 4294967296 := by simp [IntKind.wrap, IntKind.signed, IntKind.bits]
  omega
theorem wrap_i64_range (x : Int) : -9223372036854775808 ≤ IntKind.i64.wrap x ∧ IntKind.i64.wrap x ≤ 9223372036854775807 := by
  have h1 : IntKind.i64.wrap x = if 9223372036854775808 ≤ x % 18446744073709551616 then x % 18446744073709551616 - 18446744073709551616 else x % 18446744073709551616 := by simp [IntKind.wrap, IntKind.signed, IntKind.bits]
  rw [h1]
  split <;> omega

theorem Fd.put_ok {m : Msg} (ok : m.Ok) {v : Nat} (hv : v < 18446744073709551616) (d : Fd) : (d.put m v).Ok := by
  obtain ⟨h1, h2, h3, h4, h5, h6, h7⟩ := ok
  have a := wrap_i64_range (v : Int)
  have b := wrap_u32_range (v : Int)
  cases d
  · exact ⟨h1, h2, h3, h4, a, h6, h7⟩
  · exact ⟨by show (IntKind.u32.wrap (v : Int)).toNat < _; omega, h2, h3, h4, h5, h6, h7⟩
  · exact ⟨h1, hv, h3, h4, h5, h6, h7⟩
  · exact ⟨h1, h2, hv, h4, h5, h6, h7⟩
  · exact ⟨h1, h2, h3, h4, h5, h6, h7⟩
  · exact ⟨h1, h2, h3, h4, h5, a, h7⟩
  · exact ⟨h1, h2, h3, h4, h5, h6, a⟩
theorem Fd.raw_lt {m : Msg} (ok : m.Ok) (d : Fd) : d.raw m < 18446744073709551616 := by
  obtain ⟨h1, h2, h3, h4, h5, h6, h7⟩ := ok
  have a := wrap_u64_range m.k
  have b := wrap_u64_range m.e
  have c := wrap_u64_range m.n
  cases d <;> simp only [raw] <;> omega

/-- A field's closure, that stands at p's message; q: a block that it does not use. -/
structure FdAt (w : World) (p q : Nat) (d : Fd) (b1 b2 : Nat) : Prop where
  place : Blk w b1 d.tp [.pointer (some ⟨p, d.off, none⟩)]
  wide : d = .hash ∨ (Blk w b2 3 [.int .i64 d.width] ∧ b2 ≠ q)
  away : b1 ≠ q

/-- What stays as it lay. -/
structure Keeps (B p q : Nat) (w w' : World) : Prop where
  fr : Fr (fun k => B ≤ k) w w'
  blk : ∀ b t cs, b ≠ q → b ≠ p → t ≠ 5 → Blk w b t cs → Blk w' b t cs
theorem Keeps.trans {B p q : Nat} {u v w : World} (h : Keeps B p q u v) (k : Keeps B p q v w) : Keeps B p q u w :=
  ⟨h.fr.trans k.fr, fun b t cs n1 n2 n3 hb => k.blk b t cs n1 n2 n3 (h.blk b t cs n1 n2 n3 hb)⟩
theorem Keeps.refl (B p q : Nat) (w : World) : Keeps B p q w w := ⟨Fr.refl _ _, fun _ _ _ _ _ _ h => h⟩
theorem Keeps.of_fr {B p q : Nat} {w w' : World} {S : Nat → Prop} (h : Fr S w w') (hS : ∀ k, S k → k = p ∨ k = q) (hp : B ≤ p) (hq : B ≤ q) : Keeps B p q w w' :=
  ⟨h.mono (fun k _ hk => by rcases hS k hk with rfl | rfl <;> assumption), fun b t cs n1 n2 _ hb => hb.fr h (fun hs => by rcases hS b hs with rfl | rfl; exact n2 rfl; exact n1 rfl)⟩
theorem FdAt.keeps {B p q : Nat} {w w' : World} {d : Fd} {b1 b2 : Nat} {m : Msg} (h : FdAt w p q d b1 b2) (hm : Blk w p 27 (cellsM m)) (k : Keeps B p q w w') : FdAt w' p q d b1 b2 := by
  have n1 : b1 ≠ p := by
    rintro rfl
    have := h.place
    unfold Blk at this hm
    rw [this] at hm
    injection hm with hm
    injection hm with _ h2 _
    exact d.tp_ne.2 h2
  refine ⟨k.blk _ _ _ h.away n1 d.tp_ne.1 h.place, ?_, h.away⟩
  rcases h.wide with e | ⟨hb, hn⟩
  · exact .inl e
  · refine .inr ⟨k.blk _ _ _ hn ?_ (by decide) hb, hn⟩
    rintro rfl
    unfold Blk at hb hm
    rw [hb] at hm
    injection hm with hm
    injection hm with _ h2 _
    exact absurd h2 (by decide)

/-- A carrier: its state, and what its two methods come to. -/
structure Car (t : TypeId) (c0 : Value) (B p q : Nat) (τ : Type) (I : Nat → τ → World → Prop) (num : Nat → Int → τ → Except Int (Nat × τ)) (hsh : List UInt8 → τ → Except Int (List UInt8 × τ)) (fnum fhash : FuncId) : Prop where
  low : B ≤ p ∧ B ≤ q
  mnum : Meth t c0 "remitter/wire.number" fnum
  mhash : Meth t c0 "remitter/wire.hash" fhash
  frame : ∀ j s w w' m, I j s w → Blk w p 27 (cellsM m) → Fr (· = p) w w' → I j s w'
  number : ∀ j s w (n : Nat) (k : Int) m, I (j + 1) s w → n < 18446744073709551616 → Blk w p 27 (cellsM m) → Calls Try.prog fnum #[c0, .int .u64 (n : Int), .int .i64 k] w fun e w' =>
    match num n k s with
    | .ok (v, s') => e = .returned (.int .u64 (v : Int)) ∧ v < 18446744073709551616 ∧ I j s' w' ∧ Keeps B p q w w' ∧ Blk w' p 27 (cellsM m)
    | .error c => e = wrong c ∧ Keeps B p q w w'
  hash : ∀ j s w (h : List UInt8) m, I (j + 1) s w → h.length = 32 → Blk w p 27 (cellsM m) → Calls Try.prog fhash #[c0, arrH h] w fun e w' =>
    match hsh h s with
    | .ok (g, s') => e = .returned (arrH g) ∧ g.length = 32 ∧ I j s' w' ∧ Keeps B p q w w' ∧ Blk w' p 27 (cellsM m)
    | .error c => e = wrong c ∧ Keeps B p q w w'

section
variable {τ : Type} (num : Nat → Int → τ → Except Int (Nat × τ)) (hsh : List UInt8 → τ → Except Int (List UInt8 × τ))
def stepF (d : Fd) (x : Msg × τ) : Except Int (Msg × τ) :=
  if d = .hash then (match hsh x.1.h x.2 with | .ok (g, s) => .ok ({ x.1 with h := g }, s) | .error c => .error c)
  else (match num (d.raw x.1) d.width x.2 with | .ok (v, s) => .ok (d.put x.1 v, s) | .error c => .error c)
def stepsF : List Fd → Msg × τ → Except Int (Msg × τ)
  | [], x => .ok x
  | d :: l, x => match stepF num hsh d x with | .ok y => stepsF l y | .error c => .error c
end

theorem cellsM_k (m : Msg) (v : Int) : (cellsM m).set 0 (.int .i64 v) = cellsM { m with k := v } := rfl
theorem cellsM_c (m : Msg) (v : Nat) : (cellsM m).set 1 (.int .u32 (v : Int)) = cellsM { m with c := v } := rfl
theorem cellsM_i (m : Msg) (v : Nat) : (cellsM m).set 2 (.int .u64 (v : Int)) = cellsM { m with i := v } := rfl
theorem cellsM_a (m : Msg) (v : Nat) : (cellsM m).set 3 (.int .u64 (v : Int)) = cellsM { m with a := v } := rfl
theorem cellsM_e (m : Msg) (hl : m.h.length = 32) (v : Int) : (cellsM m).set 36 (.int .i64 v) = cellsM { m with e := v } := by
  have e1 : (m.h.map u8v).length = 32 := by rw [List.length_map]; exact hl
  unfold cellsM
  rw [List.set_append_right _ _ (by simp), List.set_append_right _ _ (by simp [e1])]
  simp [e1]
theorem cellsM_n (m : Msg) (hl : m.h.length = 32) (v : Int) : (cellsM m).set 37 (.int .i64 v) = cellsM { m with n := v } := by
  have e1 : (m.h.map u8v).length = 32 := by rw [List.length_map]; exact hl
  unfold cellsM
  rw [List.set_append_right _ _ (by simp), List.set_append_right _ _ (by simp [e1])]
  simp [e1]
theorem cellsM_h (m : Msg) (hl : m.h.length = 32) (g : List UInt8) (hg : g.length = 32) : putL (cellsM m) 4 (g.map u8v) = cellsM { m with h := g } := by
  unfold cellsM
  exact putL_mid (g.map u8v) [.int .i64 m.k, .int .u32 (m.c : Int), .int .u64 (m.i : Int), .int .u64 (m.a : Int)] (m.h.map u8v) [.int .i64 m.e, .int .i64 m.n] (by rw [List.length_map, List.length_map, hl, hg])
end Go.Proofs.Ytpdnbjaamgfemaa
