import Derived.Test.YthmpadhhbkielaaOct7
namespace Go.Proofs.Ythmpadhhbkielaa
open Go.RowKit
set_option linter.unusedVariables false

/-- A new writer. -/
theorem Wr.new (B : Nat) (w : World) : Wr B w.heap.size (.slice none 0 0) [] (w.alloc (.cells #[.slice none 0 0] 27)) :=
  ⟨heap_alloc_new w _, World.ownsRow_nil _ _ _ _⟩

theorem WS_new {w w' : World} {B p : Nat} {v : Value} {bs : List UInt8} {S : Nat → Prop} (h : Wr B p v bs w') (hp : w.heap.size ≤ p) (hB : w.heap.size ≤ B) : ∀ k, k < w.heap.size → WS p v k → S k := by
  intro k hk hs
  rcases hs with rfl | hs
  · omega
  · have := (h.2.lt k hs).1; omega

set_option maxHeartbeats 400000 in
theorem shown1_any (w : World) :
    Calls Try.prog 9 #[] w fun e w' => e = .returned (.bool true) ∧ Fr No w w' := by
  have hs : ((str [1, 2]).toList == [1, 2]) = true := by decide +kernel
  go_enter Try.func9, Try.ntmps9
  go_wp2_with fail
  refine (wnum_ok w.heap.size w.heap.size _ [] 258 2 _ (Wr.new _ w) (by simp) (by simp) (by omega) (by omega) (by omega)).mono ?_
  rintro e w1 ⟨rfl, v1, hq, hF⟩
  rw [show [] ++ beBytes 258 2 = [1, 2] from by decide] at hq
  have HQ := Lib.hid hq
  have HF := Lib.hid (((Fr.refl No w).alloc (.cells #[.slice none 0 0] 27)).trans' hF (WS_new (Wr.new w.heap.size w) (Nat.le_refl _) (Nat.le_refl _)))
  clear hq hF
  go_wp2_with fail
  refine (bytes_any _ _ _ _ _ HQ.out).mono ?_
  rintro e w2 ⟨rfl, rfl⟩
  go_wp2_with fail
  refine (new_any _ _).mono ?_
  rintro e w2 ⟨rfl, rfl⟩
  go_wp2_with fail
  refine (rnum_ok w1.heap.size (str [1, 2]) 2 _ (by simp [go_sem]) (by simp [go_sem]) (by omega) (by omega) (by decide) (by decide)).mono ?_
  rintro e w2 ⟨rfl, hr⟩
  have HR := Lib.hid ((HF.out.alloc (.cells #[.string (str [1, 2])] 64)).trans' hr.2.2 (fun k hk (e : k = w1.heap.size) => absurd hk (by have := HF.out.size; omega)))
  have HW := Lib.hid ((HQ.out.fr (S := No) ((Fr.refl No w1).alloc (.cells #[.string (str [1, 2])] 64)) id (fun _ _ => id)).fr hr.2.2 (Nat.ne_of_lt HQ.out.lt) (fun k hk => Nat.ne_of_lt (HQ.out.2.lt k hk).2))
  clear hr
  rw [show ((beNat (List.take 2 (str [1, 2]).data.toList) : Nat) : Int) = 258 from by decide]
  go_wp2_with fail
  refine (bytes_any _ _ _ _ _ HW.out).mono ?_
  rintro e w3 ⟨rfl, rfl⟩
  go_wp2_with fail
  go_ret
  exact ⟨rfl, HR.out⟩
end Go.Proofs.Ythmpadhhbkielaa
