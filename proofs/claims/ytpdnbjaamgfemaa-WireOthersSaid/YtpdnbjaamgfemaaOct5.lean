import Derived.Test.YtpdnbjaamgfemaaTy8
import Derived.Test.YtpdnbjaamgfemaaOct4
namespace Go.Proofs.Ytpdnbjaamgfemaa
open Go.RowKit
set_option linter.unusedVariables false
set_option maxRecDepth 100000


/-- The writer at p has written bs; the slice in it is v, and lies in a block from B on. -/
def Wr (B p : Nat) (v : Value) (bs : List UInt8) (w : World) : Prop :=
  w.heap[p]? = some (.cells #[v] 50 (0, 0)) ∧ w.ownsRow B 5 1 v bs.length (bs.map u8v)

theorem Wr.cell {B p : Nat} {v : Value} {bs : List UInt8} {w : World} (h : Wr B p v bs w) : w.cell? ⟨p, 0, none⟩ = some v := by
  simp [World.cell?, h.1]
theorem Wr.frozen {B p : Nat} {v : Value} {bs : List UInt8} {w : World} (h : Wr B p v bs w) : w.frozen? ⟨p, 0, none⟩ = false := by
  simp [World.frozen?, h.1]
theorem Wr.lt {B p : Nat} {v : Value} {bs : List UInt8} {w : World} (h : Wr B p v bs w) : p < w.heap.size := lt_cell h.cell

/-- What a writer may touch: its own cell, and the block of its slice. -/
def WS (p : Nat) (v : Value) (k : Nat) : Prop := k = p ∨ v.ownBlock = some k

theorem oneCell_u8 (bs : List UInt8) : ∀ u ∈ bs.map u8v, u.oneCell' = true := by
  intro u hu
  simp only [List.mem_map] at hu
  obtain ⟨b, _, rfl⟩ := hu
  rfl

/-- A block of another element type is none of the slice's. -/
theorem own_ne {w : World} {B : Nat} {e t p : Nat} {v : Value} {n : Nat} {xs : List Value} {cs : Array Value} {f : Nat × Nat} (h : w.ownsRow B e 1 v n xs) (hp : w.heap[p]? = some (.cells cs t f)) (hne : e ≠ t) : v.ownBlock ≠ some p := by
  rcases h.2 with ⟨rfl, _⟩ | ⟨g, cap, cur, rfl, _, hg, _⟩
  · simp [Value.ownBlock]
  · intro hb
    simp only [Value.ownBlock, Option.some.injEq] at hb
    subst hb
    rw [hg] at hp
    simp only [Option.some.injEq, Obj.cells.injEq] at hp
    exact hne hp.2.1

/-- A row stays owned while nothing of its block turns. -/
theorem own_of {w w' : World} {B : Nat} {e : TypeId} {v : Value} {n : Nat} {xs : List Value} (h : w.ownsRow B e 1 v n xs) (hk : ∀ k, v.ownBlock = some k → w'.heap[k]? = w.heap[k]?) : w'.ownsRow B e 1 v n xs := by
  refine ⟨h.1, ?_⟩
  rcases h.2 with hn | ⟨g, cap, cur, rfl, hb, hg, r⟩
  · exact .inl hn
  · exact .inr ⟨g, cap, cur, rfl, hb, by rw [hk g rfl]; exact hg, r⟩

theorem slice_form {w : World} {B : Nat} {e : TypeId} {v : Value} {n : Nat} {xs : List Value} (h : w.ownsRow B e 1 v n xs) : ∃ a n' c, v = .slice a n' c := by
  rcases h.2 with ⟨rfl, _⟩ | ⟨g, cap, cur, rfl, _⟩
  · exact ⟨_, _, _, rfl⟩
  · exact ⟨_, _, _, rfl⟩

theorem heap_setCell_self {w : World} {p : Nat} {u v : Value} {t : TypeId} (h : w.heap[p]? = some (.cells #[u] t (0, 0))) : (w.setCell ⟨p, 0, none⟩ v).heap[p]? = some (.cells #[v] t (0, 0)) := by
  simp only [World.setCell, Array.getElem?_modify, h]
  simp

theorem Wr.stored {B p : Nat} {u v : Value} {bs : List UInt8} {w : World} (hp : w.heap[p]? = some (.cells #[u] 50 (0, 0))) (ho : w.ownsRow B 5 1 v bs.length (bs.map u8v)) : Wr B p v bs (w.setCell ⟨p, 0, none⟩ v) := by
  refine ⟨heap_setCell_self hp, own_of ho fun k hk => Below.heap_setCell _ _ _ _ ?_⟩
  intro e
  subst e
  exact own_ne ho hp (by decide) hk

theorem Wr.fr {B p : Nat} {v : Value} {bs : List UInt8} {S : Nat → Prop} {w w' : World} (h : Wr B p v bs w) (hF : Fr S w w') (h1 : ¬ S p) (h2 : ∀ k, v.ownBlock = some k → ¬ S k) : Wr B p v bs w' :=
  ⟨(hF.block p h.lt h1).trans h.1, own_of h.2 fun k hk => hF.block k (h.2.lt k hk).2 (h2 k hk)⟩

set_option maxHeartbeats 400000 in
theorem put_any (B p : Nat) (v : Value) (bs news : List UInt8) (ad : Addr) (c : Nat) (w : World) (hw : Wr B p v bs w) (hB : B ≤ w.heap.size) (hn : bs.length + news.length ≤ 1048576)
    (hnews : ∀ j u, (news.map u8v)[j]? = some u → w.cell? (ad.add j) = some u) :
    Calls Try.prog 64 #[.pointer (some ⟨p, 0, none⟩), .slice (some ad) news.length c] w fun e w' => e = .returned (.int .i64 0) ∧ ∃ v', Wr B p v' (bs ++ news) w' ∧ Fr (WS p v) w w' := by
  obtain ⟨i0, hi, hz0, hz1, hz2⟩ := info_parts Try.infoU8
  have hc := hw.cell
  have hf := hw.frozen
  have hown := Lib.hid hw.2
  have hN := Lib.hid hnews
  clear hnews
  go_enter Try.func64, Try.ntmps64
  go_wp2_with (at_builtin; refine wpList_append_own _ rfl _ _ 48 rfl B 5 i0 (.int .u8 0) 1 1 Try.underlying48 hi hz0 hz1 hz2 rfl (by decide) _ _ _ rfl hown.out ad news.length c (news.map u8v) rfl (by simp) hN.out (oneCell_u8 _) ?c1 ?c2 ?c3 ?c4)
  case c1 => unfold maxLen; omega
  case c2 => omega
  case c3 => exact hB
  case c4 =>
    intro v' w1 hown' hgrow _
    have hp1 : w1.heap[p]? = some (.cells #[v] 50 (0, 0)) := (hgrow.block p hw.lt (fun e => own_ne hown.out hw.1 (by decide) e.symm)).trans hw.1
    have hc1 : w1.cell? ⟨p, 0, none⟩ = some v := by simp [World.cell?, hp1]
    have hf1 : w1.frozen? ⟨p, 0, none⟩ = false := by simp [World.frozen?, hp1]
    obtain ⟨a', n', c', hv'⟩ := slice_form hown'
    have HO := Lib.hid hown'
    have HG := Lib.hid hgrow
    clear hown' hgrow hc hf
    subst hv'
    go_wp2
    go_ret
    refine ⟨rfl, _, Wr.stored hp1 (by simpa using HO.out), ?_⟩
    exact (Fr.of_grown (S := WS p v) HG.out (fun k hk => Or.inr hk)).setCell (.inl (Or.inl rfl)) _
end Go.Proofs.Ytpdnbjaamgfemaa
