/- How the row of a law that reads the two package variables is closed: what the row's condition gives the walks ('Gl'), and that the heap which the door's own run leaves meets it. -/
import Derived.Test.YtnpgcgemifoddaaDoorLaw
import Derived.Test.YtnpgcgemifoddaaDoorDigR
import Derived.Test.YtnpgcgemifoddaaDoorTie
import Derived.Test.YtnpgcgemifoddaaDoorCards
import Derived.ProofKit
import Derived.LaidMore
import Derived.OpenShut
import Derived.Stop.Joined
import Derived.SevenTiedAt
namespace Go.Proofs.YtnpgcgemifoddaaDoor
open Go.ChangeShapes Go.WideShapes Go.ChangeAt Go.RowKit
set_option linter.unusedVariables false

abbrev laid2 : List (String × DataW Unit) := [("remitter/digest.roundWords", Rows.laid_remitter_digest_roundWords), ("remitter/digest.startWords", Rows.laid_remitter_digest_startWords)]
theorem gRound_at : Tryd.prog.globalNamed "remitter/digest.roundWords" = some 1 := by kernel_rfl
theorem gStart_at : Tryd.prog.globalNamed "remitter/digest.startWords" = some 0 := by kernel_rfl
theorem gRound_type : (Tryd.prog.globals[1]?).map (·.type) = some 92 := by kernel_rfl
theorem gStart_type : (Tryd.prog.globals[0]?).map (·.type) = some 85 := by kernel_rfl

theorem door_met (os : Os) (args : Array Value) : laidMetH Tryd.prog laid2 ((World.doorLaid Tryd.prog 400 os).forCall (fun _ _ => 0) ⟨#[], args, []⟩).memory :=
  laidMetH_of_parts3 (fuel := 8) (laidMet_of_run' 8 (by kernel_rfl) (by kernel_rfl)) (by kernel_rfl) (by kernel_rfl)

/-- The cells of an array of words, by what it reads as. -/
theorem words_of {H : Type} {enc : TypeId × Value → H} {P : Program} {W : World} {base : Nat} {sp : Nat → Bool} {held : Bool} {fuel : Nat} {t e : TypeId} {n : Nat} {cs : List Value} {ps : List MemPlace} {L : List Nat}
    (ht : P.underlying t = some (.array n e)) (he : P.underlying e = some (.int .u32)) (hce : P.cellsOf e = 1) (hct : P.cellsOf t = n)
    (h : DataW.trod enc P W base sp held fuel t cs = some (.agg (L.map fun (x : Nat) => .lit (.int .u32 (x : Int))), ps)) : cs = L.map (vi .u32) := by
  obtain ⟨xs, m, _, hx, hlen, hxl, hall⟩ := DataW.trod_array ht h
  have hx1 := DataW.agg.inj (Prod.mk.inj hx).1
  have hLl : L.length = n := by have := congrArg List.length hx1; simp only [List.length_map] at this; omega
  apply List.ext_getElem?
  intro i
  by_cases hi : i < n
  · have h1 := hall i hi
    rw [List.getElem?_eq_getElem (by omega)] at h1
    obtain ⟨q, hq, hd, _⟩ := DataW.trod_int he h1
    rw [hce] at hq
    have h2 : cs[i]? = some (.int .u32 q) := by
      have h3 := congrArg (fun l : List Value => l[0]?) hq
      simpa using h3
    have h4 : (xs.map (·.1))[i]? = some (.lit (.int .u32 q)) := by
      rw [List.getElem?_map, List.getElem?_eq_getElem (by omega), hd]
      rfl
    rw [← hx1, List.getElem?_map, List.getElem?_eq_getElem (by omega)] at h4
    simp only [Option.map_some, Option.some.injEq, DataW.lit.injEq, Lit.int.injEq, true_and] at h4
    rw [h2, List.getElem?_map, List.getElem?_eq_getElem (by omega), ← h4]
    rfl
  · rw [List.getElem?_eq_none (by omega), List.getElem?_eq_none (by rw [List.length_map]; omega)]

/-- An array of words, by value. -/
theorem open_words {H : Type} {enc : TypeId × Value → H} {P : Program} {w : World} {base : Nat} {sp : Nat → Bool} {held : Bool} {r : Reach} {b0 : Nat} {t e : TypeId} {n : Nat} {v : Value} {d : DataW H} {p : List MemPlace}
    (ht : P.underlying t = some (.array n e)) (he : P.underlying e = some (.int .u32)) (hce : P.cellsOf e = 1) (hct : P.cellsOf t = n)
    (hv : Value.okWide P w r b0 t v) (h : DataW.Trod enc P w base sp held t v d p) : ∃ l : List Nat, v = .agg (arr .u32 l) ∧ l.length = n ∧ Ws l := by
  simp only [Value.okWide, ht] at hv
  obtain ⟨cs, rfl, hsz, _⟩ := hv
  obtain ⟨fuel, hf⟩ := h
  obtain ⟨xs, m, _, _, hlen, hxl, hall⟩ := DataW.trod_array ht hf
  rw [hct] at hsz
  have key : ∀ i (hi : i < n), ∃ x : Nat, cs[i]? = some (.int .u32 (x : Int)) ∧ x < W32 := by
    intro i hi
    have h1 := hall i hi
    rw [List.getElem?_eq_getElem (by omega)] at h1
    obtain ⟨q, hq, _, hw⟩ := DataW.trod_int he h1
    rw [hce] at hq
    have h2 : (Value.agg cs).cells.toList[i]? = some (.int .u32 q) := by
      have h3 := congrArg (fun l : List Value => l[0]?) hq
      simpa using h3
    have hb : 0 ≤ q ∧ q ≤ 4294967295 := by simpa [Lit.wf, IntKind.min, IntKind.max, IntKind.signed, IntKind.bits] using hw
    refine ⟨q.toNat, ?_, by unfold W32; omega⟩
    have h4 : cs[i]? = some (.int .u32 q) := by simpa [Value.cells] using h2
    rw [h4, show ((q.toNat : Nat) : Int) = q by omega]
  let f : Value → Nat := fun v => match v with | .int _ x => x.toNat | _ => 0
  have kf : ∀ i (hi : i < cs.toList.length), vi .u32 (f cs.toList[i]) = cs.toList[i] ∧ f cs.toList[i] < W32 := by
    intro i hi
    obtain ⟨x, hx, hlt⟩ := key i (by simp at hi; omega)
    have hx' : cs.toList[i]? = some (.int .u32 (x : Int)) := by simpa using hx
    rw [List.getElem?_eq_getElem hi] at hx'
    rw [Option.some.inj hx']
    exact ⟨by simp [f], by simpa [f] using hlt⟩
  refine ⟨cs.toList.map f, ?_, by simpa using hsz, ?_⟩
  · congr 1
    apply Array.ext'
    show cs.toList = (cs.toList.map f).map (vi .u32)
    rw [List.map_map]
    apply List.ext_getElem (by simp)
    intro i h1 h2
    simp only [List.getElem_map, Function.comp]
    exact (kf i h1).1.symm
  · intro x hx
    obtain ⟨v, hv, rfl⟩ := List.mem_map.1 hx
    obtain ⟨i, hi, rfl⟩ := List.getElem_of_mem hv
    exact (kf i hi).2

theorem laidK : (Rows.laid_remitter_digest_roundWords : DataW Unit) = .agg (KL.map fun (x : Nat) => .lit (.int .u32 (x : Int))) := by rfl
theorem laidS : (Rows.laid_remitter_digest_startWords : DataW Unit) = .agg (H0.map fun (x : Nat) => .lit (.int .u32 (x : Int))) := by rfl

/-- What the row's condition gives the walks. -/
theorem of_laid {W : World} (h : laidMetH Tryd.prog laid2 W) : Gl W := by
  rw [MakeChecks.laidMetH_plain _ _ _ (by kernel_rfl)] at h
  obtain ⟨ps, ⟨g0, t0, cs0, f0, p0, q0, hg0, ht0, hv0, hd0, ⟨g1, t1, cs1, f1, p1, q1, hg1, ht1, hv1, hd1, _, _⟩, _⟩, _, _⟩ := h
  obtain rfl := Option.some.inj (gRound_at.symm.trans hg0)
  obtain rfl := Option.some.inj (gStart_at.symm.trans hg1)
  obtain rfl := Option.some.inj (gRound_type.symm.trans ht0)
  obtain rfl := Option.some.inj (gStart_type.symm.trans ht1)
  rw [laidK] at hd0
  rw [laidS] at hd1
  have e0 := words_of Tryd.underlying92 Tryd.underlying84 (by kernel_rfl) (by kernel_rfl) hd0
  have e1 := words_of Tryd.underlying85 Tryd.underlying84 (by kernel_rfl) (by kernel_rfl) hd1
  refine ⟨fun j v hv => ?_, fun j v hv => ?_⟩
  · rw [Nat.zero_add, World.var?_cell hg1 hv1 j, ← hv, ← e1]
    simp
  · rw [Nat.zero_add, World.var?_cell hg0 hv0 j, ← hv, ← e0]
    simp

end Go.Proofs.YtnpgcgemifoddaaDoor
