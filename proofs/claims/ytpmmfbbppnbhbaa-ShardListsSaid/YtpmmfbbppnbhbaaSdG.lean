/- What a task's steps do: the closure that moves, and whatever deed. -/
import Derived.Test.YtpmmfbbppnbhbaaSdF
import Derived.Deep.RegionHeld
import Derived.KernelRfl
namespace Go.Proofs.Ytpmmfbbppnbhbaa
open Go.RowKit
set_option linter.unusedVariables false
set_option maxRecDepth 100000

section
variable {O I : Nat → Prop} {w : World} {p : Nat} {s : Bs} {td : Nat → List Sp} {B T r : Nat} {q : Nat → Nat} {tv dv : Value}
set_option maxHeartbeats 2000000 in
theorem moveF_any (h : BkAt O p s td w B T r q tv dv I) {b f t n : Nat} {xf xt : Int} {xn : Nat} (ib : T ≤ b) (jf : T ≤ f) (jt : T ≤ t) (jn : T ≤ n) (cb : w.cell? ⟨b, 0, none⟩ = some (.pointer (some ⟨p, 0, none⟩)))
    (cf : w.cell? ⟨f, 0, none⟩ = some (.int .i64 xf)) (ct : w.cell? ⟨t, 0, none⟩ = some (.int .i64 xt)) (cn : w.cell? ⟨n, 0, none⟩ = some (.int .u64 (xn : Int))) :
    Calls Try.prog 31 #[.pointer (some ⟨b, 0, none⟩), .pointer (some ⟨f, 0, none⟩), .pointer (some ⟨t, 0, none⟩), .pointer (some ⟨n, 0, none⟩)] w fun e w' =>
      e = .returned (.tuple #[.int .i64 (s.p.movE xf xt xn), .slice none 0 0]) ∧ Pu B T r (s.p.movS xf xt xn) w' ∧ Fr (Btw B T) w w' := by
  have c0 := h.blk.cell (i := 0) (v := at_ r 0) rfl
  simp only [at_] at c0
  have far : ∀ k, T ≤ k → ¬ Btw B T k := fun k hk e => by have := e.2; omega
  have CB : Hid (¬ Btw B T b ∧ w.cell? ⟨b, 0, none⟩ = some (.pointer (some ⟨p, 0, none⟩))) := Lib.hid ⟨far _ ib, cb⟩
  have CF : Hid (¬ Btw B T f ∧ w.cell? ⟨f, 0, none⟩ = some (.int .i64 xf)) := Lib.hid ⟨far _ jf, cf⟩
  have CT : Hid (¬ Btw B T t ∧ w.cell? ⟨t, 0, none⟩ = some (.int .i64 xt)) := Lib.hid ⟨far _ jt, ct⟩
  have CN : Hid (¬ Btw B T n ∧ w.cell? ⟨n, 0, none⟩ = some (.int .u64 (xn : Int))) := Lib.hid ⟨far _ jn, cn⟩
  have CP : Hid (¬ Btw B T p ∧ w.cell? ⟨p, 0, none⟩ = some (.pointer (some ⟨r, 0, none⟩))) := Lib.hid ⟨far _ h.loP, c0⟩
  have HM := Lib.hid (fun X (f : Fr No w X) => pu_move (h.pu.no f) xf xt xn)
  obtain ⟨E, hE⟩ : ∃ E, E = s.p.movE xf xt xn := ⟨_, rfl⟩
  obtain ⟨S', hS⟩ : ∃ E, E = s.p.movS xf xt xn := ⟨_, rfl⟩
  rw [← hE, ← hS] at HM ⊢
  clear h hE hS ib jf jt jn cb cf ct cn c0 far
  go_enter Try.func31, Try.ntmps31
  go_wp2_with fail
  refine wp_region_held_drew (S := (fun X => Fr (Btw B T) w X)) (by kernel_rfl) ((Fr.refl _ w).drew) (fun hHeld => ?_)
  refine takeD (i := 0) (d := some 6) (v := ?_) rfl (by kernel_rfl) (by kernel_rfl) (by kernel_rfl) (by kernel_rfl) (fun _ _ _ h => h) (Or.inl ⟨by kernel_rfl, fun X hX => Or.inl ?_⟩) (by assumption) ?_
  rotate_left
  · have c := hX.cell CB.out.1 CB.out.2; first | (go_simp; done) | (go_simp; with_reducible rfl)
  (try simp only [Act.put]); (try simp only [List.setIfInBounds_toArray]); (try simp only [List.set_cons_succ]); (try simp only [List.set_cons_zero])
  refine takeD (i := 1) (d := some 7) (v := ?_) rfl (by kernel_rfl) (by kernel_rfl) (by kernel_rfl) (by kernel_rfl) (fun _ _ _ h => h) (Or.inl ⟨by kernel_rfl, fun X hX => Or.inl ?_⟩) (by assumption) ?_
  rotate_left
  · first | (go_simp; done) | (go_simp; with_reducible rfl)
  (try simp only [Act.put]); (try simp only [List.setIfInBounds_toArray]); (try simp only [List.set_cons_succ]); (try simp only [List.set_cons_zero])
  refine takeD (i := 2) (d := some 8) (v := ?_) rfl (by kernel_rfl) (by kernel_rfl) (by kernel_rfl) (by kernel_rfl) (fun _ _ _ h => h) (Or.inl ⟨by kernel_rfl, fun X hX => Or.inl ?_⟩) (by assumption) ?_
  rotate_left
  · first | (go_simp; done) | (go_simp; with_reducible rfl)
  (try simp only [Act.put]); (try simp only [List.setIfInBounds_toArray]); (try simp only [List.set_cons_succ]); (try simp only [List.set_cons_zero])
  refine takeD (i := 3) (d := some 9) (v := ?_) rfl (by kernel_rfl) (by kernel_rfl) (by kernel_rfl) (by kernel_rfl) (fun _ _ _ h => h) (Or.inl ⟨by kernel_rfl, fun X hX => Or.inl ?_⟩) (by assumption) ?_
  rotate_left
  · have c := hX.cell CP.out.1 CP.out.2; first | (go_simp; done) | (go_simp; with_reducible rfl)
  (try simp only [Act.put]); (try simp only [List.setIfInBounds_toArray]); (try simp only [List.set_cons_succ]); (try simp only [List.set_cons_zero])
  refine takeD (i := 4) (d := some 10) (v := ?_) rfl (by kernel_rfl) (by kernel_rfl) (by kernel_rfl) (by kernel_rfl) (fun _ _ _ h => h) (Or.inl ⟨by kernel_rfl, fun X hX => Or.inl ?_⟩) (by assumption) ?_
  rotate_left
  · have c := hX.cell CF.out.1 CF.out.2; first | (go_simp; done) | (go_simp; with_reducible rfl)
  (try simp only [Act.put]); (try simp only [List.setIfInBounds_toArray]); (try simp only [List.set_cons_succ]); (try simp only [List.set_cons_zero])
  refine takeD (i := 5) (d := some 11) (v := ?_) rfl (by kernel_rfl) (by kernel_rfl) (by kernel_rfl) (by kernel_rfl) (fun _ _ _ h => h) (Or.inl ⟨by kernel_rfl, fun X hX => Or.inl ?_⟩) (by assumption) ?_
  rotate_left
  · have c := hX.cell CT.out.1 CT.out.2; first | (go_simp; done) | (go_simp; with_reducible rfl)
  (try simp only [Act.put]); (try simp only [List.setIfInBounds_toArray]); (try simp only [List.set_cons_succ]); (try simp only [List.set_cons_zero])
  refine takeD (i := 6) (d := some 12) (v := ?_) rfl (by kernel_rfl) (by kernel_rfl) (by kernel_rfl) (by kernel_rfl) (fun _ _ _ h => h) (Or.inl ⟨by kernel_rfl, fun X hX => Or.inl ?_⟩) (by assumption) ?_
  rotate_left
  · have c := hX.cell CN.out.1 CN.out.2; first | (go_simp; done) | (go_simp; with_reducible rfl)
  (try simp only [Act.put]); (try simp only [List.setIfInBounds_toArray]); (try simp only [List.set_cons_succ]); (try simp only [List.set_cons_zero])
  refine wpAnyH_ready (rs := [7]) (by kernel_rfl) (by simp) ?_
  refine AllReadyH.cons rfl (fun K hK => ?_) AllReadyH.nil
  rw [if_pos (by kernel_rfl)]
  go_simp
  refine (HM.out _ (Fr.refl No w).drew).mono ?_
  rintro e w1 ⟨rfl, hP, hF⟩
  have HP := Lib.hid hP
  have HF := Lib.hid ((Fr.refl (Btw B T) w).drew.trans hF)
  clear hP hF
  refine hK.out _ _ (HF.out) (fun hHeld => ?_)
  clear hK K
  (try simp only [Act.put]); (try simp only [List.setIfInBounds_toArray]); (try simp only [List.set_cons_succ]); (try simp only [List.set_cons_zero])
  refine takeD (i := 8) (d := some 4) (v := ?_) rfl (by kernel_rfl) (by kernel_rfl) (by kernel_rfl) (by kernel_rfl) (fun _ _ _ h => h) (Or.inl ⟨by kernel_rfl, fun X hX => Or.inl ?_⟩) (by assumption) ?_
  rotate_left
  · first | (go_simp; done) | (go_simp; with_reducible rfl)
  (try simp only [Act.put]); (try simp only [List.setIfInBounds_toArray]); (try simp only [List.set_cons_succ]); (try simp only [List.set_cons_zero])
  refine takeD (i := 9) (d := some 5) (v := ?_) rfl (by kernel_rfl) (by kernel_rfl) (by kernel_rfl) (by kernel_rfl) (fun _ _ _ h => h) (Or.inl ⟨by kernel_rfl, fun X hX => Or.inl ?_⟩) (by assumption) ?_
  rotate_left
  · first | (go_simp; done) | (go_simp; with_reducible rfl)
  (try simp only [Act.put]); (try simp only [List.setIfInBounds_toArray]); (try simp only [List.set_cons_succ]); (try simp only [List.set_cons_zero])
  refine wpAnyH_done (by kernel_rfl) ?_ _
  clear hHeld
  go_wp2
  go_ret2
  exact ⟨rfl, HP.out, HF.out⟩
end
end Go.Proofs.Ytpmmfbbppnbhbaa
