/- A bank as the laws see it: shown, and played. -/
import Derived.Test.YtldcglmpnildiaaSdVX
import Derived.Test.YtldcglmpnildiaaOpnB
import Derived.Test.YtldcglmpnildiaaPuP
namespace Go.Proofs.Ytldcglmpnildiaa
open Go.RowKit
set_option linter.unusedVariables false
set_option maxRecDepth 100000

theorem Acts.no {w w' : World} {ao : Option Addr} {n : Nat} {xs : Nat → A9} (h : Acts w ao n xs) (f : Fr No w w') : Acts w' ao n xs := fun i hi => by
  obtain ⟨a, h1, h2, h3⟩ := h i hi
  exact ⟨a, h1, h2, h3.no f⟩
/-- A bank behind a call, seen from the law's start. -/
structure Kp (w0 : World) (O : Nat → Prop) (p : Nat) (s : Bs) (w : World) : Prop where
  bk : Bk O p s w
  new : ∀ k, O k → w0.heap.size ≤ k
  fr : Fr No w0 w
section
variable {w0 w w' : World} {O : Nat → Prop} {p : Nat} {s s' : Bs}
theorem Kp.up {v : World} (h : Kp w0 O p s w) (f : Fr No v w0) : Kp v O p s w := ⟨h.bk, fun k hk => by have := h.new k hk; have := f.size; omega, f.trans h.fr⟩
theorem Kp.no (h : Kp w0 O p s w) (f : Fr No w w') : Kp w0 O p s w' := ⟨h.bk.fr f (fun _ _ => id), h.new, h.fr.trans f⟩
/-- What the law laid, and does not belong to the bank, may turn. -/
theorem Kp.own (h : Kp w0 O p s w) {S : Nat → Prop} (f : Fr S w w') (hS : ∀ k, O k → ¬ S k) (h0 : ∀ k, S k → w0.heap.size ≤ k) : Kp w0 O p s w' :=
  ⟨h.bk.fr f hS, h.new, h.fr.trans' f (fun i hi e => by have := h0 i e; omega)⟩
theorem Kp.to (h : Kp w0 O p s w) (k : BkTo O p s' w w') : ∃ O' : Nat → Prop, Kp w0 O' p s' w' ∧ (∀ j, O' j → O j ∨ w.heap.size ≤ j) ∧ Fr O w w' := by
  obtain ⟨O', h1, h2, h3⟩ := k
  refine ⟨O', ⟨h1, fun j hj => ?_, h.fr.trans' h3 (fun i hi e => by have := h.new i e; omega)⟩, h2, h3⟩
  rcases h2 j hj with e | e
  · exact h.new j e
  · have := h.fr.size; omega
end

set_option maxHeartbeats 2000000 in
theorem shown10_any (w : World) : Calls Try.prog 5 #[] w fun e w' => e = .returned (.bool true) ∧ Fr No w w' := by
  obtain ⟨w0, hw0⟩ : ∃ X, X = w.alloc (.cells #[.int .u64 ((5 : Nat) : Int), .int .u64 ((0 : Nat) : Int)] 27) := ⟨_, rfl⟩
  have HF0 : Hid (Fr No w w0) := Lib.hid (by rw [hw0]; exact (Fr.refl _ _).alloc _)
  have HN := Lib.hid (sd_new (some ⟨w.heap.size, 0, none⟩) 2 2 [5, 0] w0 rfl (by unfold maxLen; omega) (by rw [hw0]; exact nums_two w 5 0 (by omega) (by omega)) true (by decide))
  have hw0' : w.alloc (.cells #[.int .u64 5, .int .u64 0] 27) = w0 := hw0.symm
  clear hw0
  go_enter Try.func5, Try.ntmps5
  go_wp2_with fail
  refine HN.out.mono ?_
  rintro e w1 ⟨hF1, p, O, rfl, hO, hB⟩
  have HK1 : Hid (Kp w O p (Bs.newB [5, 0]) w1) := Lib.hid ⟨hB, fun k hk => by have := hO k hk; have := HF0.out.size; omega, HF0.out.trans hF1⟩
  obtain ⟨s0, hs0⟩ : ∃ s, s = Bs.newB [5, 0] := ⟨_, rfl⟩
  obtain ⟨s1, hs1⟩ : ∃ s, s = s0.startS 0 1 3 := ⟨_, rfl⟩
  obtain ⟨s2, hs2⟩ : ∃ s, s = s1.startS 0 1 1 := ⟨_, rfl⟩
  obtain ⟨s3, hs3⟩ : ∃ s, s = s2.stepS 0 := ⟨_, rfl⟩
  obtain ⟨s4, hs4⟩ : ∃ s, s = s3.stepS 1 := ⟨_, rfl⟩
  have H1 := Lib.hid (fun O X (hX : Bk O p s0 X) => sd_start hX 0 1 3)
  rw [show s0.startI 0 1 = 0 by rw [hs0]; decide, show s0.startE 0 1 = 0 by rw [hs0]; decide, ← hs1] at H1
  have H2 := Lib.hid (fun O X (hX : Bk O p s1 X) => sd_start hX 0 1 1)
  rw [show s1.startI 0 1 = 1 by rw [hs1, hs0]; decide, show s1.startE 0 1 = 0 by rw [hs1, hs0]; decide, ← hs2] at H2
  have H3 := Lib.hid (fun O X (hX : Bk O p s2 X) => sd_step hX 0 (by decide))
  rw [show s2.stepE 0 = 0 by rw [hs2, hs1, hs0]; decide, ← hs3] at H3
  have H4 := Lib.hid (fun O X (hX : Bk O p s3 X) => sd_step hX 1 (by decide))
  rw [show s3.stepE 1 = 100 by rw [hs3, hs2, hs1, hs0]; decide, ← hs4] at H4
  have H5 := Lib.hid (fun O X (hX : Bk O p s4 X) => sd_holder hX 0 (by decide))
  rw [show s4.holdV 0 = 0 by rw [hs4, hs3, hs2, hs1, hs0]; decide] at H5
  have H6 := Lib.hid (fun O X (hX : Bk O p s4 X) => sd_holder hX 1 (by decide))
  rw [show s4.holdV 1 = -1 by rw [hs4, hs3, hs2, hs1, hs0]; decide] at H6
  rw [← hs0] at HK1
  clear hs0 hs1 hs2 hs3 hs4 hF1 hO hB HN HF0
  go_wp2_with fail
  refine (H1.out _ _ HK1.out.bk).mono ?_
  rintro e w2 ⟨rfl, hT⟩
  obtain ⟨O2, hK, _⟩ := HK1.out.to hT
  have HK2 := Lib.hid hK
  clear hT hK
  go_wp2_with fail
  refine (H2.out _ _ HK2.out.bk).mono ?_
  rintro e w3 ⟨rfl, hT⟩
  obtain ⟨O3, hK, _⟩ := HK2.out.to hT
  have HK3 := Lib.hid hK
  clear hT hK
  go_wp2_with fail
  refine (H3.out _ _ HK3.out.bk).mono ?_
  rintro e w4 ⟨rfl, hT⟩
  obtain ⟨O4, hK, _⟩ := HK3.out.to hT
  have HK4 := Lib.hid hK
  clear hT hK
  go_wp2_with fail
  refine (H4.out _ _ HK4.out.bk).mono ?_
  rintro e w5 ⟨rfl, hT⟩
  obtain ⟨O5, hK, _⟩ := HK4.out.to hT
  have HK5 := Lib.hid hK
  clear hT hK
  go_wp2_with fail
  refine (H5.out _ _ HK5.out.bk).mono ?_
  rintro e w6 ⟨rfl, hF⟩
  have HK6 := Lib.hid (HK5.out.no hF)
  clear hF
  go_wp2_with fail
  refine (H6.out _ _ HK6.out.bk).mono ?_
  rintro e w7 ⟨rfl, hF⟩
  have HK7 := Lib.hid (HK6.out.no hF)
  clear hF
  go_wp2
  go_ret
  exact ⟨rfl, HK7.out.fr⟩

/-- The amounts of the tasks are numbers of 64 bits. -/
def Bs.Small (s : Bs) : Prop := ∀ i, (s.tk i).n < 18446744073709551616
theorem Bs.Small.of {s s' : Bs} (h : s.Small) (e : ∀ i, (s'.tk i).n = (s.tk i).n ∨ (s'.tk i).n < 18446744073709551616) : s'.Small := fun i => by
  rcases e i with h1 | h1
  · rw [h1]; exact h i
  · exact h1
theorem Bs.Small.start {s : Bs} (h : s.Small) (a b : Int) {n : Nat} (hn : n < 18446744073709551616) : (s.startS a b n).Small := by
  unfold Bs.startS
  split
  · refine h.of fun i => ?_
    rw [Bs.tk_add]
    split
    · exact .inr hn
    · exact .inl rfl
  · exact h
theorem Bs.Small.lists {s : Bs} (h : s.Small) : s.listS.Small := by
  unfold Bs.listS
  split
  · refine h.of fun i => ?_
    rw [Bs.tk_add]
    split
    · exact .inr (by decide)
    · exact .inl rfl
  · exact h
end Go.Proofs.Ytldcglmpnildiaa
