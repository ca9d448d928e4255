/- That a frame comes out: the laws' own look. -/
import Derived.Test.YtejobioddkhinaaFrS
namespace Go.Proofs.Ytejobioddkhinaa
open Go.RowKit
set_option linter.unusedVariables false
set_option maxRecDepth 100000

/-- From a world of this call's: what was there at its beginning stays. -/
theorem KSp.no {B : Nat} {w w1 w2 : World} (h : Fr No w w1) (k : KSp B w1 w2) (hB : w.heap.size ≤ B) : Fr No w w2 := h.trans' k.fr (fun i hi hk => absurd hi (by have : B ≤ i := hk; omega))

set_option maxHeartbeats 1000000 in
theorem shown8_any (w : World) : Calls Try.prog 8 #[] w fun e w' => e = .returned (.bool true) ∧ Fr No w w' := by
  obtain ⟨W1, hW1⟩ : ∃ W, W = w.alloc (.cells zeroSp.toArray 29) := ⟨_, rfl⟩
  have hs1 : Sp w.heap.size w.heap.size [] W1 := by rw [hW1]; exact Sp.new _ w (Nat.le_refl _)
  have hF1 : Fr No w W1 := by rw [hW1]; exact (Fr.refl No w).alloc _
  have h1 : Calls Try.prog 12 #[.pointer (some ⟨w.heap.size, 0, none⟩), .string ⟨#[0, 1, 97, 0]⟩] W1 fun e w' => e = .returned (.int .i64 0) ∧ Sp w.heap.size w.heap.size [0, 1, 97, 0] w' ∧ KSp w.heap.size W1 w' :=
    fpush_any _ _ [] [0, 1, 97, 0] W1 hs1 (by decide) (by decide)
  have H1 := Lib.hid h1
  have F1 := Lib.hid hF1
  have HW := Lib.hid hW1
  clear hs1 hF1 h1 hW1
  go_enter Try.func8, Try.ntmps8
  go_wp2_with (refine wpList_execG (.agg zeroSp.toArray) (exec_build 29 #[] rfl #[] (by rfl) _ (sp_build _)) rfl ?_)
  change Calls _ _ _ (w.alloc (.cells zeroSp.toArray 29)) _
  rw [← HW.out]
  refine H1.out.mono ?_
  rintro e w2 ⟨rfl, hs, hk⟩
  have h2 : Calls Try.prog 13 #[.pointer (some ⟨w.heap.size, 0, none⟩)] w2 fun e w' => e = .returned (.tuple #[.string ⟨#[97]⟩, .bool true]) ∧ Sp w.heap.size w.heap.size [0] w' ∧ KSp w.heap.size w2 w' :=
    fnext_any _ _ [0, 1, 97, 0] w2 hs (by decide)
  have H2 := Lib.hid h2
  have F2 := Lib.hid (KSp.no F1.out hk (Nat.le_refl _))
  clear hs hk h2 H1 F1 HW
  go_wp2_with fail
  refine H2.out.mono ?_
  rintro e w3 ⟨rfl, hs, hk⟩
  have h3 : Calls Try.prog 15 #[.pointer (some ⟨w.heap.size, 0, none⟩)] w3 fun e w' => e = .returned (.int .i64 1) ∧ Sp w.heap.size w.heap.size [0] w' ∧ KSp w.heap.size w3 w' :=
    fleft_any _ _ [0] w3 hs (by decide)
  have H3 := Lib.hid h3
  have F3 := Lib.hid (KSp.no F2.out hk (Nat.le_refl _))
  clear hs hk h3 H2 F2
  go_wp2_with fail
  refine H3.out.mono ?_
  rintro e w4 ⟨rfl, hs, hk⟩
  have F4 := Lib.hid (KSp.no F3.out hk (Nat.le_refl _))
  clear hs hk H3 F3
  go_wp2
  go_ret
  exact ⟨rfl, F4.out⟩
end Go.Proofs.Ytejobioddkhinaa
