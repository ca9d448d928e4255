import Derived.Test.YtpdnbjaamgfemaaClo
import Derived.Test.YtpdnbjaamgfemaaOctB
import Derived.Deep.RegionWith
import Derived.Deep.RegionHeld
namespace Go.Proofs.Ytpdnbjaamgfemaa
open Go.RowKit
set_option linter.unusedVariables false
set_option maxRecDepth 100000

/-- What backOnError has laid: three variables, from block h on. -/
structure Door (b eb h : Nat) (s : ByteArray) (w : World) : Prop where
  c0 : w.cell? ⟨h, 0, none⟩ = some (.pointer (some ⟨b, 0, none⟩))
  c1 : w.cell? ⟨h + 1, 0, none⟩ = some (.pointer (some ⟨eb, 0, none⟩))
  c2 : w.cell? ⟨h + 2, 0, none⟩ = some (.string s)

theorem Door.fr {b eb h : Nat} {s : ByteArray} {S : Nat → Prop} {w w' : World} (d : Door b eb h s w) (hF : Fr S w w') (hS : ∀ k, h ≤ k → ¬ S k) : Door b eb h s w' :=
  ⟨hF.cell (hS _ (by omega)) d.c0, hF.cell (hS _ (by omega)) d.c1, hF.cell (hS _ (by omega)) d.c2⟩

theorem back_R (b eb : Nat) (s : ByteArray) (w : World) (hc : w.cell? ⟨b, 0, none⟩ = some (.string s)) :
    Calls Try.prog 70 #[.pointer (some ⟨b, 0, none⟩), .pointer (some ⟨eb, 0, none⟩)] w fun e w' =>
      e = .returned (.func (.func 72) #[] #[.pointer (some ⟨w.heap.size + 1, 0, none⟩), .pointer (some ⟨w.heap.size, 0, none⟩), .pointer (some ⟨w.heap.size + 2, 0, none⟩)]) ∧
      Door b eb w.heap.size s w' ∧ Fr No w w' := by
  refine (back_any b eb s w hc).mono ?_
  rintro e w' ⟨rfl, rfl⟩
  exact ⟨rfl, ⟨by simp [go_sem], by simp [go_sem], by simp [go_sem]⟩, (((Fr.refl No w).alloc _).alloc _).alloc _⟩

/-- The function ends with an error: the reader is put back. -/
theorem door_err {fn : Func} {tmps : Array Value} {R : Ending → World → Prop} {b eb h : Nat} {k : Int} {s t : ByteArray} {v : Value} {w : World} (d : Door b eb h s w) (hk : (k != 0) = true)
    (ce : w.cell? ⟨eb, 0, none⟩ = some (.int .i64 k)) (cb : w.cell? ⟨b, 0, none⟩ = some (.string t)) (fb : w.frozen? ⟨b, 0, none⟩ = false)
    (hres : (results fn tmps).run Try.prog (w.setCell ⟨b, 0, none⟩ (.string s)) = .ok v (w.setCell ⟨b, 0, none⟩ (.string s))) (hR : R (.returned v) (w.setCell ⟨b, 0, none⟩ (.string s))) :
    Leaves Try.prog fn tmps R [{ target := .fn (.func 72) #[.pointer (some ⟨h + 1, 0, none⟩), .pointer (some ⟨h, 0, none⟩), .pointer (some ⟨h + 2, 0, none⟩)], args := #[] }] .returning w := by
  refine leaves_cons (f := 72) (args := #[.pointer (some ⟨h + 1, 0, none⟩), .pointer (some ⟨h, 0, none⟩), .pointer (some ⟨h + 2, 0, none⟩)]) (by simp) (by simp [go_sem]) ?_
  refine (backon_err b eb h k s t .returning w hk d.c1 d.c0 d.c2 ce cb fb).mono ?_
  rintro e u' w'' ⟨rfl, rfl, rfl⟩
  exact ⟨v, hres, hR⟩

/-- The function ends without an error. -/
theorem door_ok {fn : Func} {tmps : Array Value} {R : Ending → World → Prop} {b eb h : Nat} {s : ByteArray} {v : Value} {w : World} (d : Door b eb h s w)
    (ce : w.cell? ⟨eb, 0, none⟩ = some (.int .i64 0)) (hres : (results fn tmps).run Try.prog w = .ok v w) (hR : R (.returned v) w) :
    Leaves Try.prog fn tmps R [{ target := .fn (.func 72) #[.pointer (some ⟨h + 1, 0, none⟩), .pointer (some ⟨h, 0, none⟩), .pointer (some ⟨h + 2, 0, none⟩)], args := #[] }] .returning w := by
  refine leaves_cons (f := 72) (args := #[.pointer (some ⟨h + 1, 0, none⟩), .pointer (some ⟨h, 0, none⟩), .pointer (some ⟨h + 2, 0, none⟩)]) (by simp) (by simp [go_sem]) ?_
  refine (backon_ok b eb h .returning w d.c1 d.c0 ce).mono ?_
  rintro e u' w'' ⟨rfl, rfl, rfl⟩
  exact ⟨v, hres, hR⟩

theorem Fr.new {S : Nat → Prop} {E : Nat} {a w w' : World} (h : Fr S a w) (k : Fr (· = E) w w') (hE : a.heap.size ≤ E) : Fr S a w' :=
  h.trans' k (fun i hi e => absurd hi (by have : i = E := e; omega))

/-- A variable of this call's, stored to twice, behind a draw. -/
theorem twice {w : World} {E : Nat} {u v x : Value} (h : w.cell? ⟨E, 0, none⟩ = some u) :
    ∃ W, W = ((w.setCell ⟨E, 0, none⟩ v).setCell ⟨E, 0, none⟩ x).drew ∧ W.cell? ⟨E, 0, none⟩ = some x ∧ Fr (· = E) w W :=
  ⟨_, rfl, by rw [World.cell?_drew]; exact World.cell?_setCell_same _ _ _ (World.cell?_setCell_same _ _ _ h), (((Fr.refl (fun k => k = E) w).setCell (.inl rfl) _).setCell (.inl rfl) _).drew⟩

theorem two {w : World} {E : Nat} {u v x : Value} (h : w.cell? ⟨E, 0, none⟩ = some u) :
    ∃ W, W = (w.setCell ⟨E, 0, none⟩ v).setCell ⟨E, 0, none⟩ x ∧ W.cell? ⟨E, 0, none⟩ = some x ∧ Fr (· = E) w W :=
  ⟨_, rfl, World.cell?_setCell_same _ _ _ (World.cell?_setCell_same _ _ _ h), ((Fr.refl (fun k => k = E) w).setCell (.inl rfl) _).setCell (.inl rfl) _⟩

theorem once {w : World} {E : Nat} {u x : Value} (h : w.cell? ⟨E, 0, none⟩ = some u) (hf : w.frozen? ⟨E, 0, none⟩ = false) :
    ∃ W, W = w.setCell ⟨E, 0, none⟩ x ∧ W.cell? ⟨E, 0, none⟩ = some x ∧ Fr (· = E) w W ∧ W.frozen? ⟨E, 0, none⟩ = false :=
  ⟨_, rfl, World.cell?_setCell_same _ _ _ h, (Fr.refl (fun k => k = E) w).setCell (.inl rfl) _, by rw [World.frozen?_setCell]; exact hf⟩

/-- The reader's state behind an error: as it was. -/
theorem rd_back {b E : Nat} {s t : ByteArray} {u : Value} {w w1 w2 : World} (he : w2.cell? ⟨E, 0, none⟩ = some u) (hb : b < w.heap.size) (hE : w.heap.size ≤ E) (h1 : Fr (· = b) w w1) (h2 : Fr (· = E) w1 w2) (cb : w1.cell? ⟨b, 0, none⟩ = some (.string t)) (fb : w1.frozen? ⟨b, 0, none⟩ = false) :
    w2.cell? ⟨b, 0, none⟩ = some (.string t) ∧ w2.frozen? ⟨b, 0, none⟩ = false ∧ (w2.setCell ⟨b, 0, none⟩ (.string s)).cell? ⟨E, 0, none⟩ = some u ∧ Rd b s w (w2.setCell ⟨b, 0, none⟩ (.string s)) := by
  have n : ¬ b = E := by omega
  have c2 := h2.cell n cb
  have f2 := (h2.frozen 0 (lt_cell cb) n).trans fb
  exact ⟨c2, f2, by rw [World.cell?_setCell_far _ _ _ _ n]; exact he, Rd.set (h1.new h2 hE) c2 f2⟩

theorem str_extract0 (l1 l2 : List UInt8) : (str (l1 ++ l2)).extract 0 l1.length = str l1 := by
  apply ByteArray.ext
  simp [str]

theorem str_extract1 (l1 l2 : List UInt8) : (str (l1 ++ l2)).extract l1.length (str (l1 ++ l2)).size = str l2 := by
  apply ByteArray.ext
  apply Array.ext'
  simp [str, ByteArray.size]

/-- 'take' of the first bytes. -/
theorem take_L (b : Nat) (l1 l2 : List UInt8) (w : World) (hc : w.cell? ⟨b, 0, none⟩ = some (.string (str (l1 ++ l2)))) (hf : w.frozen? ⟨b, 0, none⟩ = false) (hm : (l1 ++ l2).length ≤ maxLen) :
    Calls Try.prog 71 #[.pointer (some ⟨b, 0, none⟩), .int .i64 l1.length] w fun e w' => e = .returned (.tuple #[.string (str l1), .int .i64 0]) ∧ Rd b (str l2) w w' := by
  have h := take_okR b (str (l1 ++ l2)) l1.length w hc hf (by rw [str_size]; simp) (by rw [str_size]; exact hm)
  rwa [str_extract0, str_extract1] at h

theorem str_one (c : UInt8) : ∀ h, (str [c])[0]'h = c := fun _ => rfl

end Go.Proofs.Ytpdnbjaamgfemaa
