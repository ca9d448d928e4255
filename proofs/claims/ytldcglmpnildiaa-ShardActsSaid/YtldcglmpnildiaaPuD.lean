/- The document's purse, as a value: what is in it, what is there, what is held. -/
import Derived.Test.YtldcglmpnildiaaPuP
import Derived.Test.YtldcglmpnildiaaOwn64
import Derived.Test.YtldcglmpnildiaaTake
namespace Go.Proofs.Ytldcglmpnildiaa
open Go.RowKit
set_option linter.unusedVariables false
set_option maxRecDepth 100000

def cellsH : List (Nat × Nat) → List Value
  | [] => []
  | x :: r => .int .i64 (x.1 : Int) :: .int .u64 (x.2 : Int) :: cellsH r
theorem cellsH_len : ∀ h, (cellsH h).length = 2 * h.length
  | [] => rfl
  | x :: r => by simp only [cellsH, List.length_cons, cellsH_len r]; omega
theorem cellsH_fst : ∀ (h : List (Nat × Nat)) (i : Nat), i < h.length → (cellsH h)[2 * i]? = some (.int .i64 ((h.getD i (0, 0)).1 : Int))
  | [], i, hi => by simp at hi
  | x :: r, 0, _ => rfl
  | x :: r, i + 1, hi => by
    have := cellsH_fst r i (by simpa using hi)
    rw [show 2 * (i + 1) = 2 * i + 1 + 1 by omega]
    simpa [cellsH] using this
theorem cellsH_snd : ∀ (h : List (Nat × Nat)) (i : Nat), i < h.length → (cellsH h)[2 * i + 1]? = some (.int .u64 ((h.getD i (0, 0)).2 : Int))
  | [], i, hi => by simp at hi
  | x :: r, 0, _ => rfl
  | x :: r, i + 1, hi => by
    have := cellsH_snd r i (by simpa using hi)
    rw [show 2 * (i + 1) + 1 = 2 * i + 1 + 1 + 1 by omega]
    simpa [cellsH] using this
theorem cellsH_set : ∀ (h : List (Nat × Nat)) (i : Nat) (x : Nat × Nat), ((cellsH h).set (2 * i) (.int .i64 (x.1 : Int))).set (2 * i + 1) (.int .u64 (x.2 : Int)) = cellsH (h.set i x)
  | [], i, x => by simp [cellsH]
  | y :: r, 0, x => rfl
  | y :: r, i + 1, x => by
    rw [show 2 * (i + 1) = 2 * i + 1 + 1 by omega]
    simp only [cellsH, List.set_cons_succ]
    rw [cellsH_set r i x]
theorem cellsH_one : ∀ h, ∀ u ∈ cellsH h, u.oneCell' = true
  | [], u, hu => by cases hu
  | x :: r, u, hu => by
    simp only [cellsH, List.mem_cons] at hu
    rcases hu with rfl | rfl | hu
    · rfl
    · rfl
    · exact cellsH_one r u hu
/-- The cells of a purse by value: its balances' slice, its holds. -/
def cellsP (ao : Option Addr) (n cap : Nat) (h : List (Nat × Nat)) : List Value := .slice ao n cap :: cellsH h
abbrev vP (ao : Option Addr) (n cap : Nat) (h : List (Nat × Nat)) : Value := .agg (cellsP ao n cap h).toArray
theorem cellsP_len {ao : Option Addr} {n cap : Nat} {h : List (Nat × Nat)} (hl : h.length = 32) : (cellsP ao n cap h).length = 65 := by simp only [cellsP, List.length_cons, cellsH_len, hl]
theorem cellsP_zero {ao : Option Addr} {n cap : Nat} {h : List (Nat × Nat)} : (cellsP ao n cap h)[0]? = some (.slice ao n cap) := rfl
theorem cellsP_fst {ao : Option Addr} {n cap : Nat} (s : Ps) (hl : s.h.length = 32) {i : Nat} (hi : i < 32) : (cellsP ao n cap s.h)[1 + i * 2]? = some (.int .i64 ((s.hold i).1 : Int)) := by
  have := cellsH_fst s.h i (by omega)
  rw [show 1 + i * 2 = 2 * i + 1 by omega]
  exact this
theorem cellsP_snd {ao : Option Addr} {n cap : Nat} (s : Ps) (hl : s.h.length = 32) {i : Nat} (hi : i < 32) : (cellsP ao n cap s.h)[1 + i * 2 + 1]? = some (.int .u64 ((s.hold i).2 : Int)) := by
  have := cellsH_snd s.h i (by omega)
  rw [show 1 + i * 2 + 1 = 2 * i + 1 + 1 by omega]
  exact this
theorem cellsP_one {ao : Option Addr} {n cap : Nat} {h : List (Nat × Nat)} : ∀ u ∈ cellsP ao n cap h, u.oneCell' = true := by
  intro u hu
  rcases List.mem_cons.1 hu with rfl | hu
  · rfl
  · exact cellsH_one h u hu

/-- The document's purse: where its balances lie. -/
structure DAt (ao : Option Addr) (cap : Nat) (s : Ps) (w : World) : Prop where
  row : ∀ i, i < s.b.length → ∃ r, ao = some ⟨r, 0, none⟩ ∧ w.cell? ⟨r, i, none⟩ = some (.int .u64 (s.bal i : Int))
theorem DAt.fr {S : Nat → Prop} {w w' : World} {ao : Option Addr} {cap : Nat} {s : Ps} (h : DAt ao cap s w) (f : Fr S w w') (hn : ∀ a, ao = some a → ¬ S a.block) : DAt ao cap s w' :=
  ⟨fun i hi => by
    obtain ⟨r, hr, hc⟩ := h.row i hi
    exact ⟨r, hr, f.cell (hn _ hr) hc⟩⟩

/-- The box that a call by value begins with. -/
theorem box_new (w : World) (L : List Value) : Blk (w.alloc (.cells L.toArray 32)) w.heap.size 32 L := Blk.new w _ _

set_option maxHeartbeats 1000000 in
theorem rin_any (s : Ps) (ao : Option Addr) (cap : Nat) (a : Int) (w : World) (hb : s.b.length ≤ 32) : Calls Try.prog 27 #[vP ao s.b.length cap s.h, .int .i64 a] w fun e w' => e = .returned (.bool (s.has a)) ∧ Fr No w w' := by
  obtain ⟨n, hn⟩ : ∃ n, n = s.b.length := ⟨_, rfl⟩
  obtain ⟨y, hy⟩ : ∃ y, y = s.has a := ⟨_, rfl⟩
  have HY : Hid (y = decide (0 ≤ a ∧ a < n)) := Lib.hid (by rw [hy, hn]; rfl)
  obtain ⟨L, hL⟩ : ∃ L, L = cellsP ao s.b.length cap s.h := ⟨_, rfl⟩
  have c0 : (w.alloc (.cells L.toArray 32)).cell? ⟨w.heap.size, 0, none⟩ = some (.slice ao n cap) := (box_new w L).cell (by rw [hL, hn]; rfl)
  rw [vP, ← hL, ← hy]
  clear hb hn hy hL
  by_cases h0 : 0 ≤ a
  · have t0 : decide (0 ≤ a) = true := decide_eq_true h0
    by_cases h1 : a < (n : Int)
    · have t1 : decide (a < (n : Int)) = true := decide_eq_true h1
      have HZ : Hid (y = true) := Lib.hid (by rw [HY.out]; exact decide_eq_true ⟨h0, h1⟩)
      clear HY
      go_enter Try.func27, Try.ntmps27
      go_wp2
      go_ret
      exact ⟨by rw [HZ.out]; rfl, (Fr.refl _ _).alloc _⟩
    · have t1 : decide (a < (n : Int)) = false := decide_eq_false h1
      have HZ : Hid (y = false) := Lib.hid (by rw [HY.out]; exact decide_eq_false (fun e => h1 e.2))
      clear HY
      go_enter Try.func27, Try.ntmps27
      go_wp2
      go_ret
      exact ⟨by rw [HZ.out]; rfl, (Fr.refl _ _).alloc _⟩
  · have t0 : decide (0 ≤ a) = false := decide_eq_false h0
    have HZ : Hid (y = false) := Lib.hid (by rw [HY.out]; exact decide_eq_false (fun e => h0 e.1))
    clear HY
    go_enter Try.func27, Try.ntmps27
    go_wp2
    go_ret
    exact ⟨by rw [HZ.out]; rfl, (Fr.refl _ _).alloc _⟩

end Go.Proofs.Ytldcglmpnildiaa
