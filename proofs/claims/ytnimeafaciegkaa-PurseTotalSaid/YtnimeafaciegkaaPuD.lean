/- The document's purse, as a value: what is in it, what is there, what is held. -/
import Derived.Test.YtnimeafaciegkaaPuP
import Derived.Test.YtnimeafaciegkaaOwn64
import Derived.Test.YtnimeafaciegkaaTake
namespace Go.Proofs.Ytnimeafaciegkaa
open Go.RowKit
set_option linter.unusedVariables false
set_option maxRecDepth 100000

def cellsH : List (Nat × Nat) → List Value
  | [] => []
  | x :: r => .int .i64 (x.1 : Int) :: .int .u64 (x.2 : Int) :: cellsH r
theorem cellsH_len : ∀ h, (cellsH h).length = 2 * h.length
  | [] => rfl
  | x :: r => by simp only [cellsH, List.length_cons, cellsH_len r]; omega
theorem cellsH_fst : ∀ (h : List (Nat × Nat)) (i : Nat), i < h.length → (cellsH h)[2 * i]? = some (.int .i64 ((h.getD i (0, 0)).1 : Int))
  | [], i, hi => by simp at hi
  | x :: r, 0, _ => rfl
  | x :: r, i + 1, hi => by
    have := cellsH_fst r i (by simpa using hi)
    rw [show 2 * (i + 1) = 2 * i + 1 + 1 by omega]
    simpa [cellsH] using this
theorem cellsH_snd : ∀ (h : List (Nat × Nat)) (i : Nat), i < h.length → (cellsH h)[2 * i + 1]? = some (.int .u64 ((h.getD i (0, 0)).2 : Int))
  | [], i, hi => by simp at hi
  | x :: r, 0, _ => rfl
  | x :: r, i + 1, hi => by
    have := cellsH_snd r i (by simpa using hi)
    rw [show 2 * (i + 1) + 1 = 2 * i + 1 + 1 + 1 by omega]
    simpa [cellsH] using this
theorem cellsH_set : ∀ (h : List (Nat × Nat)) (i : Nat) (x : Nat × Nat), ((cellsH h).set (2 * i) (.int .i64 (x.1 : Int))).set (2 * i + 1) (.int .u64 (x.2 : Int)) = cellsH (h.set i x)
  | [], i, x => by simp [cellsH]
  | y :: r, 0, x => rfl
  | y :: r, i + 1, x => by
    rw [show 2 * (i + 1) = 2 * i + 1 + 1 by omega]
    simp only [cellsH, List.set_cons_succ]
    rw [cellsH_set r i x]
theorem cellsH_one : ∀ h, ∀ u ∈ cellsH h, u.oneCell' = true
  | [], u, hu => by cases hu
  | x :: r, u, hu => by
    simp only [cellsH, List.mem_cons] at hu
    rcases hu with rfl | rfl | hu
    · rfl
    · rfl
    · exact cellsH_one r u hu
/-- The cells of a purse by value: its balances' slice, its holds. -/
def cellsP (ao : Option Addr) (n cap : Nat) (h : List (Nat × Nat)) : List Value := .slice ao n cap :: cellsH h
abbrev vP (ao : Option Addr) (n cap : Nat) (h : List (Nat × Nat)) : Value := .agg (cellsP ao n cap h).toArray
theorem cellsP_len {ao : Option Addr} {n cap : Nat} {h : List (Nat × Nat)} (hl : h.length = 32) : (cellsP ao n cap h).length = 65 := by simp only [cellsP, List.length_cons, cellsH_len, hl]
theorem cellsP_zero {ao : Option Addr} {n cap : Nat} {h : List (Nat × Nat)} : (cellsP ao n cap h)[0]? = some (.slice ao n cap) := rfl
theorem cellsP_fst {ao : Option Addr} {n cap : Nat} (s : Ps) (hl : s.h.length = 32) {i : Nat} (hi : i < 32) : (cellsP ao n cap s.h)[1 + i * 2]? = some (.int .i64 ((s.hold i).1 : Int)) := by
  have := cellsH_fst s.h i (by omega)
  rw [show 1 + i * 2 = 2 * i + 1 by omega]
  exact this
theorem cellsP_snd {ao : Option Addr} {n cap : Nat} (s : Ps) (hl : s.h.length = 32) {i : Nat} (hi : i < 32) : (cellsP ao n cap s.h)[1 + i * 2 + 1]? = some (.int .u64 ((s.hold i).2 : Int)) := by
  have := cellsH_snd s.h i (by omega)
  rw [show 1 + i * 2 + 1 = 2 * i + 1 + 1 by omega]
  exact this
theorem cellsP_one {ao : Option Addr} {n cap : Nat} {h : List (Nat × Nat)} : ∀ u ∈ cellsP ao n cap h, u.oneCell' = true := by
  intro u hu
  rcases List.mem_cons.1 hu with rfl | hu
  · rfl
  · exact cellsH_one h u hu

/-- The document's purse: where its balances lie. -/
structure DAt (ao : Option Addr) (cap : Nat) (s : Ps) (w : World) : Prop where
  row : ∀ i, i < s.b.length → ∃ r, ao = some ⟨r, 0, none⟩ ∧ w.cell? ⟨r, i, none⟩ = some (.int .u64 (s.bal i : Int))
theorem DAt.fr {S : Nat → Prop} {w w' : World} {ao : Option Addr} {cap : Nat} {s : Ps} (h : DAt ao cap s w) (f : Fr S w w') (hn : ∀ a, ao = some a → ¬ S a.block) : DAt ao cap s w' :=
  ⟨fun i hi => by
    obtain ⟨r, hr, hc⟩ := h.row i hi
    exact ⟨r, hr, f.cell (hn _ hr) hc⟩⟩

/-- The box that a call by value begins with. -/
theorem box_new (w : World) (L : List Value) : Blk (w.alloc (.cells L.toArray 32)) w.heap.size 32 L := Blk.new w _ _

set_option maxHeartbeats 1000000 in
theorem rin_any (s : Ps) (ao : Option Addr) (cap : Nat) (a : Int) (w : World) (hb : s.b.length ≤ 32) : Calls Try.prog 22 #[vP ao s.b.length cap s.h, .int .i64 a] w fun e w' => e = .returned (.bool (s.has a)) ∧ Fr No w w' := by
  obtain ⟨n, hn⟩ : ∃ n, n = s.b.length := ⟨_, rfl⟩
  obtain ⟨y, hy⟩ : ∃ y, y = s.has a := ⟨_, rfl⟩
  have HY : Hid (y = decide (0 ≤ a ∧ a < n)) := Lib.hid (by rw [hy, hn]; rfl)
  obtain ⟨L, hL⟩ : ∃ L, L = cellsP ao s.b.length cap s.h := ⟨_, rfl⟩
  have c0 : (w.alloc (.cells L.toArray 32)).cell? ⟨w.heap.size, 0, none⟩ = some (.slice ao n cap) := (box_new w L).cell (by rw [hL, hn]; rfl)
  rw [vP, ← hL, ← hy]
  clear hb hn hy hL
  by_cases h0 : 0 ≤ a
  · have t0 : decide (0 ≤ a) = true := decide_eq_true h0
    by_cases h1 : a < (n : Int)
    · have t1 : decide (a < (n : Int)) = true := decide_eq_true h1
      have HZ : Hid (y = true) := Lib.hid (by rw [HY.out]; exact decide_eq_true ⟨h0, h1⟩)
      clear HY
      go_enter Try.func22, Try.ntmps22
      go_wp2
      go_ret
      exact ⟨by rw [HZ.out]; rfl, (Fr.refl _ _).alloc _⟩
    · have t1 : decide (a < (n : Int)) = false := decide_eq_false h1
      have HZ : Hid (y = false) := Lib.hid (by rw [HY.out]; exact decide_eq_false (fun e => h1 e.2))
      clear HY
      go_enter Try.func22, Try.ntmps22
      go_wp2
      go_ret
      exact ⟨by rw [HZ.out]; rfl, (Fr.refl _ _).alloc _⟩
  · have t0 : decide (0 ≤ a) = false := decide_eq_false h0
    have HZ : Hid (y = false) := Lib.hid (by rw [HY.out]; exact decide_eq_false (fun e => h0 e.1))
    clear HY
    go_enter Try.func22, Try.ntmps22
    go_wp2
    go_ret
    exact ⟨by rw [HZ.out]; rfl, (Fr.refl _ _).alloc _⟩

set_option maxHeartbeats 1000000 in
theorem rthere_any (s : Ps) (ao : Option Addr) (n cap : Nat) (i : Int) (w : World) (W : s.Wf) : Calls Try.prog 32 #[vP ao n cap s.h, .int .i64 i] w fun e w' => e = .returned (.bool (s.there i)) ∧ Fr No w w' := by
  obtain ⟨y, hy⟩ : ∃ y, y = s.there i := ⟨_, rfl⟩
  obtain ⟨L, hL⟩ : ∃ L, L = cellsP ao n cap s.h := ⟨_, rfl⟩
  rw [vP, ← hL, ← hy]
  by_cases h0 : 0 ≤ i
  · have t0 : decide (0 ≤ i) = true := decide_eq_true h0
    by_cases h1 : i < 32
    · obtain ⟨k, rfl⟩ : ∃ k : Nat, i = (k : Int) := ⟨i.toNat, by omega⟩
      have hk : k < 32 := by omega
      have t1 : decide ((k : Int) < 32) = true := decide_eq_true h1
      obtain ⟨v, hv⟩ : ∃ v, v = (s.hold k).2 := ⟨_, rfl⟩
      have c0 : (w.alloc (.cells L.toArray 32)).cell? ⟨w.heap.size, 1 + k * 2 + 1, none⟩ = some (.int .u64 (v : Int)) := (box_new w L).cell (by rw [hL, hv]; exact cellsP_snd s W.hl hk)
      have e := (look_nat W hk).1
      rw [← hv, ← hy] at e
      have HZ : Hid (y = decide (0 < v)) := Lib.hid e
      clear e hy hv hL W
      go_enter Try.func32, Try.ntmps32
      go_wp2
      go_ret
      exact ⟨by rw [HZ.out]; rfl, (Fr.refl _ _).alloc _⟩
    · have t1 : decide (i < 32) = false := decide_eq_false h1
      have HZ : Hid (y = false) := Lib.hid (by rw [hy]; unfold Ps.there; exact decide_eq_false (fun e => h1 e.2.1))
      clear hy hL W
      go_enter Try.func32, Try.ntmps32
      go_wp2
      go_ret
      exact ⟨by rw [HZ.out]; rfl, (Fr.refl _ _).alloc _⟩
  · have t0 : decide (0 ≤ i) = false := decide_eq_false h0
    have HZ : Hid (y = false) := Lib.hid (by rw [hy]; unfold Ps.there; exact decide_eq_false (fun e => h0 e.1))
    clear hy hL W
    go_enter Try.func32, Try.ntmps32
    go_wp2
    go_ret
    exact ⟨by rw [HZ.out]; rfl, (Fr.refl _ _).alloc _⟩

set_option maxHeartbeats 1000000 in
theorem rheld_any (s : Ps) (ao : Option Addr) (n cap : Nat) (a : Int) (w : World) (W : s.Wf) : Calls Try.prog 23 #[vP ao n cap s.h, .int .i64 a] w fun e w' => e = .returned (.int .u64 (s.held a : Int)) ∧ Fr No w w' := by
  obtain ⟨T, hT⟩ : ∃ T, T = s.held a := ⟨_, rfl⟩
  have HTT : Hid (T = sumN (fun i => Ps.heldF a (s.hold i)) 32) := Lib.hid hT
  have HT : Hid (T ≤ 1125899906842624) := Lib.hid (by rw [hT]; exact Nat.le_trans (Ps.held_le s a) W.top)
  obtain ⟨L, hL⟩ : ∃ L, L = cellsP ao n cap s.h := ⟨_, rfl⟩
  obtain ⟨q, hq⟩ : ∃ q, q = w.heap.size := ⟨_, rfl⟩
  have HQ := Lib.hid hq
  have HB : Hid (Blk (w.alloc (.cells L.toArray 32)) q 32 L) := Lib.hid (by rw [hq]; exact box_new w L)
  have HW := Lib.hid W
  have HL := Lib.hid hL
  rw [vP, ← hL, ← hT]
  clear hT hL W hq
  go_enter Try.func23, Try.ntmps23
  go_wp2
  rw [← HQ.out]
  refine wp_world (fun X => Blk X q 32 L ∧ Fr No w X) ⟨HB.out, (Fr.refl _ _).alloc _⟩ ?_
  rintro X ⟨hB, hF⟩
  have HB := Lib.hid hB
  have HF := Lib.hid hF
  clear hB hF
  go_loop [5, 6] (fun v c => ∃ (k V : Nat), k ≤ 32 ∧ c = .int .i64 k ∧ v = .int .u64 V ∧ V = sumN (fun i => Ps.heldF a (s.hold i)) k) (fun _ c => 32 - (intOf c).toNat)
  case atStart => exact ⟨0, 0, by omega, rfl, rfl, rfl⟩
  case round =>
    obtain ⟨k, V, hk, rfl, rfl, hV⟩ := hrel
    have HV := Lib.hid hV
    by_cases hlt : k < 32
    · have t1 : (k : Int) < 32 := by omega
      obtain ⟨k1, hk1⟩ : ∃ k1, k1 = k + 1 := ⟨_, rfl⟩
      have HK1 : Hid (k1 = k + 1 ∧ k1 ≤ 32) := Lib.hid ⟨hk1, by omega⟩
      have s1 : (k : Int) + 1 = (k1 : Int) := by omega
      have l1 : IntKind.i64.wrap (k1 : Int) = (k1 : Int) := IntWalk.i64_in _ (by omega)
      obtain ⟨x, hx⟩ : ∃ x, x = s.hold k := ⟨_, rfl⟩
      obtain ⟨x1, x2⟩ := x
      have c1 : X.cell? ⟨q, 1 + k * 2, none⟩ = some (.int .i64 (x1 : Int)) := HB.out.cell (by rw [HL.out, cellsP_fst s HW.out.hl hlt, ← hx])
      have c2 : X.cell? ⟨q, 1 + k * 2 + 1, none⟩ = some (.int .u64 (x2 : Int)) := HB.out.cell (by rw [HL.out, cellsP_snd s HW.out.hl hlt, ← hx])
      have hst : sumN (fun i => Ps.heldF a (s.hold i)) k1 = V + Ps.heldF a (x1, x2) := by rw [hk1, hx, hV]; rfl
      have hle : sumN (fun i => Ps.heldF a (s.hold i)) k1 ≤ T := by rw [HTT.out]; exact sumN_mono _ (by omega)
      clear hlt hk hk1 hV hx
      by_cases h0 : 0 < x2
      · have t2 : decide (0 < x2) = true := decide_eq_true h0
        by_cases ha : (x1 : Int) = a
        · have t3 : ((x1 : Int) == a) = true := by rw [ha]; simp
          rw [show Ps.heldF a (x1, x2) = x2 from if_pos ha] at hst
          obtain ⟨V', hV'⟩ : ∃ v, v = sumN (fun i => Ps.heldF a (s.hold i)) k1 := ⟨_, rfl⟩
          rw [← hV'] at hst hle
          have HV' := Lib.hid hV'
          have s2 : (V : Int) + (x2 : Int) = (V' : Int) := by omega
          have l2 := wrapU V' (by have := HT.out; omega)
          clear ha hst hle hV' h0
          go_wp2
          exact ⟨⟨k1, V', HK1.out.2, rfl, rfl, HV'.out⟩, by have := HK1.out; simp [intOf]; omega⟩
        · have t3 : ((x1 : Int) == a) = false := by rw [beq_eq_false_iff_ne]; exact ha
          rw [show Ps.heldF a (x1, x2) = 0 from if_neg ha] at hst
          have HV' := Lib.hid hst.symm
          clear ha hst hle h0
          go_wp2
          exact ⟨⟨k1, V, HK1.out.2, rfl, rfl, HV'.out⟩, by have := HK1.out; simp [intOf]; omega⟩
      · have t2 : decide (0 < x2) = false := decide_eq_false h0
        rw [show Ps.heldF a (x1, x2) = 0 by unfold Ps.heldF; split <;> simp only <;> omega] at hst
        have HV' := Lib.hid hst.symm
        clear hst hle h0
        go_wp2
        exact ⟨⟨k1, V, HK1.out.2, rfl, rfl, HV'.out⟩, by have := HK1.out; simp [intOf]; omega⟩
    · have t1 : ¬ (k : Int) < 32 := by omega
      have HE : Hid (V = T) := Lib.hid (by rw [HV.out, HTT.out, show k = 32 by omega])
      clear hlt hk hV
      go_wp2
      go_ret
      exact ⟨by rw [HE.out]; rfl, HF.out⟩
end Go.Proofs.Ytnimeafaciegkaa
