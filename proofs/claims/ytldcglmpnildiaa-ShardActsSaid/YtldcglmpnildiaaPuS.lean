/- What a purse is in memory (Pu). -/
import Derived.Test.YtldcglmpnildiaaPuR
import Derived.Test.YtldcglmpnildiaaAmA
namespace Go.Proofs.Ytldcglmpnildiaa
open Go.RowKit Go.Maps
set_option linter.unusedVariables false
set_option maxRecDepth 100000

/-- A row of numbers, which may be written. -/
def Rw (w : World) (g : Nat) (b : List Nat) : Prop := ∀ i, i < b.length → w.cell? ⟨g, i, none⟩ = some (.int .u64 (b.getD i 0 : Int)) ∧ w.frozen? ⟨g, i, none⟩ = false
theorem Rw.fr {S : Nat → Prop} {w w' : World} {g : Nat} {b : List Nat} (h : Rw w g b) (f : Fr S w w') (hn : ¬ S g) : Rw w' g b := fun i hi => by
  have h1 := h i hi
  exact ⟨f.cell hn h1.1, (f.frozen i (lt_cell h1.1) hn).trans h1.2⟩
theorem Rw.set {w : World} {g : Nat} {b : List Nat} (h : Rw w g b) {i : Nat} (hi : i < b.length) (v : Nat) : Rw (w.setCell ⟨g, i, none⟩ (.int .u64 (v : Int))) g (b.set i v) := fun j hj => by
  rw [List.length_set] at hj
  have h1 := h j hj
  have h2 := h i hi
  refine ⟨?_, (World.frozen?_setCell w _ _ _).trans h1.2⟩
  rw [Ps.getD_set b i j v 0 hi]
  by_cases e : j = i
  · subst e
    rw [if_pos rfl]
    exact World.cell?_setCell_same (h := h1.1) ..
  · rw [if_neg e]
    have hne : (⟨g, i, none⟩ : Addr) ≠ ⟨g, j, none⟩ := fun e2 => e (by injection e2 with _ e2; exact e2.symm)
    exact (World.cell?_setCell_other (h := hne) ..).trans h1.1
theorem Rw.set_other {w : World} {g c i : Nat} {b : List Nat} (h : Rw w g b) (hc : c ≠ g) (v : Value) : Rw (w.setCell ⟨c, i, none⟩ v) g b :=
  h.fr ((Fr.refl (· = c) w).setCell (p := ⟨c, i, none⟩) (.inl rfl) v) (fun e => hc e.symm)

/-- The purse at p: its balances lie in g, its reservations in m. -/
structure PuAt (p g m cap : Nat) (s : Ps) (w : World) : Prop where
  pg : p ≠ g
  pm : p ≠ m
  gm : g ≠ m
  blk : Blk w p 99 [.slice (some ⟨g, 0, none⟩) s.b.length cap, .map (some m)]
  row : Rw w g s.b
  map : PM w m s.hold

/-- What a purse's functions may turn. -/
def PS (g m : Nat) (k : Nat) : Prop := k = g ∨ k = m

theorem PuAt.fr {S : Nat → Prop} {p g m cap : Nat} {s : Ps} {w w' : World} (h : PuAt p g m cap s w) (f : Fr S w w') (h1 : ¬ S p) (h2 : ¬ S g) (h3 : ¬ S m) : PuAt p g m cap s w' :=
  ⟨h.pg, h.pm, h.gm, h.blk.fr f h1, h.row.fr f h2, h.map.fr f h3⟩
theorem PuAt.no {p g m cap : Nat} {s : Ps} {w w' : World} (h : PuAt p g m cap s w) (f : Fr No w w') : PuAt p g m cap s w' := h.fr f id id id
theorem PuAt.setB {p g m cap : Nat} {s : Ps} {w : World} (h : PuAt p g m cap s w) {i : Nat} (hi : i < s.b.length) (v : Nat) : PuAt p g m cap ⟨s.b.set i v, s.h⟩ (w.setCell ⟨g, i, none⟩ (.int .u64 (v : Int))) := by
  refine ⟨h.pg, h.pm, h.gm, ?_, h.row.set hi v, h.map.fr ((Fr.refl (· = g) w).setCell (p := ⟨g, i, none⟩) (.inl rfl) _) (fun e => h.gm e.symm)⟩
  have := h.blk.set_other (c := g) (i := i) (fun e => h.pg e.symm) (.int .u64 (v : Int))
  simpa using this
theorem PuAt.cell0 {p g m cap : Nat} {s : Ps} {w : World} (h : PuAt p g m cap s w) : w.cell? ⟨p, 0, none⟩ = some (.slice (some ⟨g, 0, none⟩) s.b.length cap) := h.blk.cell rfl
theorem PuAt.cell1 {p g m cap : Nat} {s : Ps} {w : World} (h : PuAt p g m cap s w) : w.cell? ⟨p, 1, none⟩ = some (.map (some m)) := h.blk.cell rfl

/-- A purse at p, which lies between B and T. -/
def Pu (B T p : Nat) (s : Ps) (w : World) : Prop := s.Wf ∧ ∃ g m cap, (B ≤ p ∧ p < T) ∧ (B ≤ g ∧ g < T) ∧ (B ≤ m ∧ m < T) ∧ PuAt p g m cap s w
def Btw (B T k : Nat) : Prop := B ≤ k ∧ k < T
theorem Pu.wf {B T p : Nat} {s : Ps} {w : World} (h : Pu B T p s w) : s.Wf := h.1
theorem Pu.fr {S : Nat → Prop} {B T p : Nat} {s : Ps} {w w' : World} (h : Pu B T p s w) (f : Fr S w w') (hn : ∀ k, Btw B T k → ¬ S k) : Pu B T p s w' := by
  obtain ⟨W, g, m, cap, h1, h2, h3, h4⟩ := h
  exact ⟨W, g, m, cap, h1, h2, h3, h4.fr f (hn p h1) (hn g h2) (hn m h3)⟩
theorem Pu.no {B T p : Nat} {s : Ps} {w w' : World} (h : Pu B T p s w) (f : Fr No w w') : Pu B T p s w' := h.fr f (fun _ _ e => e)
theorem Fr.btw {g m B T : Nat} {w w' : World} (f : Fr (PS g m) w w') (h2 : B ≤ g ∧ g < T) (h3 : B ≤ m ∧ m < T) : Fr (Btw B T) w w' :=
  f.mono fun k _ e => by rcases e with rfl | rfl; exact h2; exact h3

/-! ### The small ones -/
theorem var_res {w : World} {b : Nat} {x : Nat × Nat} (h : Blk w b 128 [.int .i64 (x.1 : Int), .int .u64 (x.2 : Int)]) : (Go.loadVar 128 ⟨b, 0, none⟩).run Try.prog w = .ok (vR x) w :=
  run_loadVar_mid w b 0 128 _ _ h.whole Try.underlying128 rfl (by kernel_rfl)

set_option maxHeartbeats 1000000 in
theorem has_any {p g m cap : Nat} {s : Ps} {w : World} (h : PuAt p g m cap s w) (hb : s.b.length ≤ 32) (a : Int) : Calls Try.prog 37 #[.pointer (some ⟨p, 0, none⟩), .int .i64 a] w fun e w' => e = .returned (.bool (s.has a)) ∧ w = w' := by
  have c0 := h.cell0
  obtain ⟨n, hn⟩ : ∃ n, n = s.b.length := ⟨_, rfl⟩
  obtain ⟨y, hy⟩ : ∃ y, y = s.has a := ⟨_, rfl⟩
  have HY : Hid (y = decide (0 ≤ a ∧ a < n)) := Lib.hid (by rw [hy, hn]; rfl)
  rw [← hn] at c0
  rw [← hy]
  clear h hb hn hy
  by_cases h0 : 0 ≤ a
  · have t0 : decide (0 ≤ a) = true := decide_eq_true h0
    by_cases h1 : a < (n : Int)
    · have t1 : decide (a < (n : Int)) = true := decide_eq_true h1
      have HZ : Hid (y = true) := Lib.hid (by rw [HY.out]; exact decide_eq_true ⟨h0, h1⟩)
      clear HY
      go_enter Try.func37, Try.ntmps37
      go_wp2
      go_ret
      exact ⟨by rw [HZ.out]; rfl, rfl⟩
    · have t1 : decide (a < (n : Int)) = false := decide_eq_false h1
      have HZ : Hid (y = false) := Lib.hid (by rw [HY.out]; exact decide_eq_false (fun e => h1 e.2))
      clear HY
      go_enter Try.func37, Try.ntmps37
      go_wp2
      go_ret
      exact ⟨by rw [HZ.out]; rfl, rfl⟩
  · have t0 : decide (0 ≤ a) = false := decide_eq_false h0
    have HZ : Hid (y = false) := Lib.hid (by rw [HY.out]; exact decide_eq_false (fun e => h0 e.1))
    clear HY
    go_enter Try.func37, Try.ntmps37
    go_wp2
    go_ret
    exact ⟨by rw [HZ.out]; rfl, rfl⟩

/-- What stands at a number. -/
def Ps.look (s : Ps) (i : Int) : Nat × Nat := if s.there i then s.hold i.toNat else (0, 0)

end Go.Proofs.Ytldcglmpnildiaa
