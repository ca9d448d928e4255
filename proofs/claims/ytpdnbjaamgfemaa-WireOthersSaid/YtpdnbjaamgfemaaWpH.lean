/- The three carriers. -/
import Derived.Test.YtpdnbjaamgfemaaWpG
namespace Go.Proofs.Ytpdnbjaamgfemaa
open Go.RowKit
set_option linter.unusedVariables false
set_option maxRecDepth 100000

theorem meth_wn (x : Value) : Meth 53 (.agg #[x]) "remitter/wire.number" 61 := ⟨fun _ _ => by kernel_rfl, fun _ => by kernel_rfl⟩
theorem meth_wh (x : Value) : Meth 53 (.agg #[x]) "remitter/wire.hash" 60 := ⟨fun _ _ => by kernel_rfl, fun _ => by kernel_rfl⟩
theorem meth_vn (x : Value) : Meth 67 (.agg #[x]) "remitter/wire.number" 67 := ⟨fun _ _ => by kernel_rfl, fun _ => by kernel_rfl⟩
theorem meth_vh (x : Value) : Meth 67 (.agg #[x]) "remitter/wire.hash" 66 := ⟨fun _ _ => by kernel_rfl, fun _ => by kernel_rfl⟩
theorem meth_en : Meth 89 (.agg #[]) "remitter/wire.number" 75 := ⟨fun _ _ => by kernel_rfl, fun _ => by kernel_rfl⟩
theorem meth_eh : Meth 89 (.agg #[]) "remitter/wire.hash" 74 := ⟨fun _ _ => by kernel_rfl, fun _ => by kernel_rfl⟩

/-! ### The eraser -/
def numE (_ : Nat) (_ : Int) (s : Unit) : Except Int (Nat × Unit) := .ok (0, s)
def hshE (_ : List UInt8) (s : Unit) : Except Int (List UInt8 × Unit) := .ok (zeroH, s)
theorem car_e (B p : Nat) (hB : B ≤ p) : Car 89 (.agg #[]) B p p Unit (fun _ _ _ => True) numE hshE 75 74 where
  low := ⟨hB, hB⟩
  mnum := meth_en
  mhash := meth_eh
  frame := fun _ _ _ _ _ _ _ _ => trivial
  number := fun j s w n k m _ hn hm => (enum_any (n : Int) k w).mono fun e w' h => ⟨h.1, by decide, trivial, Keeps.of_fr h.2 (fun _ h => h.elim) hB hB, hm.fr h.2 id⟩
  hash := fun j s w h m _ hl hm => (ehash_any h w).mono fun e w' h => ⟨h.1, by rfl, trivial, Keeps.of_fr h.2 (fun _ h => h.elim) hB hB, hm.fr h.2 id⟩

/-! ### The reader -/
def numV (n : Nat) (k : Int) (s : List UInt8) : Except Int (Nat × List UInt8) := if (numR s k).2.1 = 0 then .ok ((numR s k).1, (numR s k).2.2) else .error (numR s k).2.1
def hshV (h : List UInt8) (s : List UInt8) : Except Int (List UInt8 × List UInt8) := if (hashR s).2.1 = 0 then .ok ((hashR s).1, (hashR s).2.2) else .error (hashR s).2.1
def AtV (q : Nat) (_ : Nat) (s : List UInt8) (w : World) : Prop := w.cell? ⟨q, 0, none⟩ = some (.string (str s)) ∧ w.frozen? ⟨q, 0, none⟩ = false ∧ s.length ≤ maxLen
theorem numR_lt64 (s : List UInt8) (k : Int) : (numR s k).1 < 18446744073709551616 := by
  unfold numR
  repeat' split
  all_goals try simp
  rename_i h _
  have h1 := beNat_lt (s.take k.toNat)
  have h2 : (s.take k.toNat).length ≤ 8 := by simp; omega
  exact Nat.lt_of_lt_of_le h1 (by
    have := Nat.pow_le_pow_right (n := 256) (by omega) h2
    simpa using this)
theorem car_v (B p q : Nat) (hp : B ≤ p) (hq : B ≤ q) (hpq : p ≠ q) : Car 67 (.agg #[.pointer (some ⟨q, 0, none⟩)]) B p q (List UInt8) (AtV q) numV hshV 67 66 where
  low := ⟨hp, hq⟩
  mnum := meth_vn _
  mhash := meth_vh _
  frame := fun j s w w' m hi hm hF => ⟨hF.cell (fun e => hpq e.symm) hi.1, by rw [hF.frozen _ (lt_cell hi.1) (fun e => hpq e.symm)]; exact hi.2.1, hi.2.2⟩
  number := fun j s w n k m hi hn hm => by
    unfold numV
    by_cases he : (numR s k).2.1 = 0
    · rw [if_pos he]
      refine (vnum_ok q (n : Int) k s w hi.1 hi.2.1 hi.2.2 he).mono fun e w' h => ?_
      exact ⟨h.1, numR_lt64 s k, ⟨h.2.1, h.2.2.1, Nat.le_trans (numR_len s k) hi.2.2⟩, Keeps.of_fr h.2.2.2 (fun k hk => .inr hk) hp hq, hm.fr h.2.2.2 hpq⟩
    · rw [if_neg he]
      refine (vnum_err q (n : Int) k s w hi.1 hi.2.1 hi.2.2 he).mono fun e w' h => ?_
      exact ⟨h.1, Keeps.of_fr h.2 (fun k hk => .inr hk) hp hq⟩
  hash := fun j s w g m hi hl hm => by
    unfold hshV
    by_cases he : (hashR s).2.1 = 0
    · rw [if_pos he]
      refine (vhash_ok q g s w hi.1 hi.2.1 hi.2.2 he).mono fun e w' h => ?_
      exact ⟨h.1, hashR_32 s, ⟨h.2.1, h.2.2.1, Nat.le_trans (hashR_len s) hi.2.2⟩, Keeps.of_fr h.2.2.2 (fun k hk => .inr hk) hp hq, hm.fr h.2.2.2 hpq⟩
    · rw [if_neg he]
      refine (vhash_err q g s w hi.1 hi.2.1 hi.2.2 he).mono fun e w' h => ?_
      exact ⟨h.1, Keeps.of_fr h.2 (fun k hk => .inr hk) hp hq⟩

/-! ### The writer -/
def numW (n : Nat) (k : Int) (s : List UInt8) : Except Int (Nat × List UInt8) := if (numOf n k).2 = 0 then .ok (n, s ++ (numOf n k).1) else .error (numOf n k).2
def hshW (h : List UInt8) (s : List UInt8) : Except Int (List UInt8 × List UInt8) := .ok (h, s ++ h)
def AtW (B q : Nat) (j : Nat) (s : List UInt8) (w : World) : Prop := (∃ v, Wr B q v s w) ∧ B ≤ w.heap.size ∧ s.length + 65 * j ≤ 1048000
theorem keeps_w {B p q : Nat} {v : Value} {s : List UInt8} {w w' : World} (hw : Wr B q v s w) (hp : B ≤ p) (hq : B ≤ q) (hF : Fr (WS q v) w w') : Keeps B p q w w' := by
  refine ⟨hF.mono (fun k _ hk => ?_), fun b t cs n1 n2 n3 hb => hb.fr hF ?_⟩
  · rcases hk with rfl | hk
    · exact hq
    · exact hw.own_le hk
  · rintro (rfl | hk)
    · exact n1 rfl
    · exact hw.own_ne hk hb n3 rfl
theorem car_w (B p q : Nat) (hp : B ≤ p) (hq : B ≤ q) (hpq : p ≠ q) : Car 53 (.agg #[.pointer (some ⟨q, 0, none⟩)]) B p q (List UInt8) (AtW B q) numW hshW 61 60 where
  low := ⟨hp, hq⟩
  mnum := meth_wn _
  mhash := meth_wh _
  frame := fun j s w w' m hi hm hF => by
    obtain ⟨⟨v, hw⟩, hB, hn⟩ := hi
    exact ⟨⟨v, hw.fr hF (fun e => hpq e.symm) (fun k hk e => hw.own_ne hk hm (by decide) e)⟩, Nat.le_trans hB hF.size, hn⟩
  number := fun j s w n k m hi hn hm => by
    obtain ⟨⟨v, hw⟩, hB, hlen⟩ := hi
    unfold numW
    have h65 := numOf_le n k
    by_cases he : (numOf n k).2 = 0
    · rw [if_pos he]
      refine (wwnum_ok B q v s n k w hw hB (by omega) (by simpa using hn) he).mono fun e w' h => ?_
      obtain ⟨h1, v', h2, h3⟩ := h
      have hk := keeps_w hw hp hq h3
      exact ⟨h1, hn, ⟨⟨v', h2⟩, Nat.le_trans hB h3.size, by rw [List.length_append]; omega⟩, hk, hm.fr h3 (by
        rintro (e | e)
        · exact hpq e
        · exact hw.own_ne e hm (by decide) rfl)⟩
    · rw [if_neg he]
      refine (wwnum_err B q v s n k w hw hB (by omega) (by simpa using hn) he).mono fun e w' h => ?_
      exact ⟨h.1, keeps_w hw hp hq h.2⟩
  hash := fun j s w g m hi hl hm => by
    obtain ⟨⟨v, hw⟩, hB, hlen⟩ := hi
    unfold hshW
    refine (wwhash_any B q v s g w hw hB (by omega) hl).mono fun e w' h => ?_
    obtain ⟨h1, v', h2, h3⟩ := h
    have hk := keeps_w hw hp hq h3
    exact ⟨h1, hl, ⟨⟨v', h2⟩, Nat.le_trans hB h3.size, by rw [List.length_append]; omega⟩, hk, hm.fr h3 (by
      rintro (e | e)
      · exact hpq e
      · exact hw.own_ne e hm (by decide) rfl)⟩
end Go.Proofs.Ytpdnbjaamgfemaa
