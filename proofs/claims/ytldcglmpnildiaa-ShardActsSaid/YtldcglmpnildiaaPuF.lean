/- The document's purse: Reserve, Commit, Release, Move. -/
import Derived.Test.YtldcglmpnildiaaPuE
namespace Go.Proofs.Ytldcglmpnildiaa
open Go.RowKit
set_option linter.unusedVariables false
set_option maxRecDepth 100000

theorem alloc_box (w : World) (L : List Value) : (Instr.alloc 32 true (.tuple #[])).run Try.prog (w.alloc (.cells L.toArray 32)) = .ok (.pointer (some ⟨w.heap.size + 1, 0, none⟩)) ((w.alloc (.cells L.toArray 32)).alloc (.cells zeroP.toArray 32)) := by
  have := alloc_rp (w.alloc (.cells L.toArray 32))
  rw [World.size_alloc] at this
  exact this
theorem results_cell3 {P : Program} {fn : Func} {p q r : Tmp} {t : TypeId} (h : fn.results = #[.cell p t, .tmp q, .tmp r]) {tmps : Array Value} {w : World} {a : Addr} {x y z : Value}
    (hp : tmps.getD p undef = .pointer (some a)) (hq : tmps.getD q undef = y) (hr : tmps.getD r undef = z) (hx : (Go.loadVar t a).run P w = .ok x w) : (results fn tmps).run P w = .ok (.tuple #[x, y, z]) w := by
  have hp' : tmps[p]?.getD undef = .pointer (some a) := by simpa using hp
  have hq' : tmps[q]?.getD undef = y := by simpa using hq
  have hr' : tmps[r]?.getD undef = z := by simpa using hr
  simp [results, h, hp', hq', hr', asAddr, hx]
/-- Where the balances lie: as before, or anew. -/
def DNext (w : World) (ao ao' : Option Addr) : Prop := ao' = ao ∨ ∃ r, w.heap.size ≤ r ∧ ao' = some ⟨r, 0, none⟩
theorem DAt.congr {ao : Option Addr} {cap : Nat} {s t : Ps} {w : World} (h : DAt ao cap s w) (e : t.b = s.b) : DAt ao cap t w := ⟨fun i hi => by
  obtain ⟨r, hr, hc⟩ := h.row i (by rw [← e]; exact hi)
  refine ⟨r, hr, ?_⟩
  unfold Ps.bal at hc ⊢
  rw [e]
  exact hc⟩
theorem DAt.no {ao : Option Addr} {cap : Nat} {s : Ps} {w w' : World} (h : DAt ao cap s w) (f : Fr No w w') : DAt ao cap s w' := h.fr f (fun _ _ => id)
/-- Into the box q, what is handed back. -/
theorem RB.fill {w X : World} {q c : Nat} {L M N : List Value} (k : RB w q c L M X) (hl : L.length = 65) (hn : N.length = 65) (h1 : ∀ u ∈ N, u.oneCell' = true) :
    ∃ Y, (Instr.storeAt 32 (.pointer (some ⟨q, 0, none⟩)) (.agg N.toArray)).run Try.prog X = .ok () Y ∧ RB w q c N M Y ∧ Fr (· = q) X Y := by
  obtain ⟨Y, hY, hB, hF⟩ := store_rp k.box hl hn h1
  exact ⟨Y, hY, ⟨k.fr.trans' hF (fun i hi e => by have := k.q0; omega), k.q0, k.qc, k.c0, hB, k.res.fr hF (fun e => k.qc e.symm)⟩, hF⟩
theorem hold_info : (Try.prog.info? 29).map (·.size) = some 2 := by kernel_rfl
/-- A hold is stored into the box. -/
theorem RB.hold {w X : World} {q c : Nat} {M : List Value} {ao : Option Addr} {n cap : Nat} {h : List (Nat × Nat)} (k : RB w q c (cellsP ao n cap h) M X) (hl : h.length = 32) {i : Nat} (hi : i < 32) (x : Nat × Nat) :
    ∃ Y, (Instr.storeAt 29 (.pointer (some ⟨q, 1 + i * 2, none⟩)) (vR x)).run Try.prog X = .ok () Y ∧ RB w q c (cellsP ao n cap (h.set i x)) M Y ∧ Fr (· = q) X Y := by
  have hlen := cellsP_len (ao := ao) (n := n) (cap := cap) hl
  have h1 := store_range (P := Try.prog) (w := X) (b := q) (o := 1 + i * 2) (ty := 29) (cs := [.int .i64 (x.1 : Int), .int .u64 (x.2 : Int)]) (k.box.there (by rw [hlen]; simp; omega)) hold_info (by simp [Value.oneCell']) _ rfl
  have hF : Fr (· = q) X (X.setCells q (1 + i * 2) [.int .i64 (x.1 : Int), .int .u64 (x.2 : Int)]) := fr_setCells _ _ _ _ _ (.inl rfl) (Fr.refl _ _)
  have hB := k.box.setCells [.int .i64 (x.1 : Int), .int .u64 (x.2 : Int)] (1 + i * 2)
  have e : putL (cellsP ao n cap h) (1 + i * 2) [.int .i64 (x.1 : Int), .int .u64 (x.2 : Int)] = cellsP ao n cap (h.set i x) := by
    have := cellsH_set h i x
    show ((Value.slice ao n cap :: cellsH h).set (1 + i * 2) _).set (1 + i * 2 + 1) _ = _
    rw [show 1 + i * 2 = 2 * i + 1 by omega]
    simp only [List.set_cons_succ]
    rw [this]
    rfl
  rw [e] at hB
  exact ⟨_, h1, ⟨k.fr.trans' hF (fun i hi e => by have := k.q0; omega), k.q0, k.qc, k.c0, hB, k.res.fr hF (fun e => k.qc e.symm)⟩, hF⟩
end Go.Proofs.Ytldcglmpnildiaa
