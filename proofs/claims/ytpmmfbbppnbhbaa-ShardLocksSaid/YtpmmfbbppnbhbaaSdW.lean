/- A bank's New, Start and List. -/
import Derived.Test.YtpmmfbbppnbhbaaSdV
namespace Go.Proofs.Ytpmmfbbppnbhbaa
open Go.RowKit
set_option linter.unusedVariables false
set_option maxRecDepth 100000

section
variable {O I : Nat → Prop} {w w' W : World} {p : Nat} {s s' : Bs} {B T r : Nat} {q : Nat → Nat} {tv dv : Value}
theorem begun (hlt : ∀ k, O k → k < w.heap.size) (f1 : Fr No w W) (hi : s'.Inv) (h : ∃ tv' q' I', BkAt (Grow (Grow O w W) W w') p s' s'.todo w' B T r q' tv' dv I' ∧ Fr (Grow O w W) W w') : BkTo O p s' w w' := by
  obtain ⟨tv', q', I', h1, h2⟩ := h
  have hs1 := f1.size
  have hs2 := h2.size
  refine BkTo.of hi hlt ((f1.mono (fun _ _ e => e.elim)).trans' h2 (fun k hk e => e.elim id (fun e => by have := e.1; omega))) ⟨B, T, r, q', tv', dv, I', h1.mono (fun k hk => ?_)⟩
  rcases hk with (e | e) | e
  · exact .inl e
  · exact .inr ⟨e.1, by have := e.2; omega⟩
  · exact .inr ⟨by have := e.1; omega, e.2⟩
theorem grow_lt (hlt : ∀ k, O k → k < w.heap.size) (f1 : Fr No w W) : ∀ k, Grow O w W k → k < W.heap.size := fun k hk => hk.elim (fun e => by have := hlt k e; have := f1.size; omega) (·.2)
theorem need_mover (a b n k : Nat) : (Bs.mover a b n).need k = true ↔ (k : Int) ∈ [((a % 4 : Nat) : Int), ((b % 4 : Nat) : Int)] := by
  simp [Bs.mover, Tk.need]
  omega
theorem need_lister (k : Nat) (hk : k < 4) : Bs.lister.need k = true ↔ (k : Int) ∈ [(0 : Int), 1, 2, 3] := by
  simp [Bs.lister, Tk.need]
  omega

set_option maxHeartbeats 4000000 in
theorem list10_any (h : Bk O p s w) : Calls Try.prog 15 #[.pointer (some ⟨p, 0, none⟩)] w fun e w' => e = .returned (.tuple #[.int .i64 (s.listI : Int), .int .i64 s.listE]) ∧ BkTo O p s.listS w w' := by
  obtain ⟨V, hlt, B, T, r, q, tv, dv, I, hb⟩ := h
  obtain ⟨w1, hw1⟩ : ∃ x, x = w.alloc (.cells #[.pointer (some ⟨p, 0, none⟩)] 25) := ⟨_, rfl⟩
  have c1 : w1.cell? ⟨w.heap.size, 0, none⟩ = some (.pointer (some ⟨p, 0, none⟩)) := by rw [hw1]; exact (Blk.new w 25 [.pointer (some ⟨p, 0, none⟩)]).cell rfl
  obtain ⟨w2, hw2⟩ : ∃ x, x = w1.alloc (.cells #[.int .i64 0, .int .i64 1, .int .i64 2, .int .i64 3] 3) := ⟨_, rfl⟩
  have f1 : Fr No w w2 := by rw [hw2, hw1]; exact ((Fr.refl No w).alloc _).alloc _
  have f2 : Fr No w1 w2 := by rw [hw2]; exact (Fr.refl No w1).alloc _
  have hb4 : Blk w2 w1.heap.size 3 [.int .i64 0, .int .i64 1, .int .i64 2, .int .i64 3] := by rw [hw2]; exact Blk.new w1 3 _
  have hm := hb.more hlt f1
  have hs1 : w1.heap.size = w.heap.size + 1 := by rw [hw1]; simp
  have hs2 : w2.heap.size = w.heap.size + 2 := by rw [hw2, hw1]; simp
  have HEND : Hid (Calls Try.prog 33 #[.pointer (some ⟨p, 0, none⟩), .func (.func 36) #[] #[.pointer (some ⟨w.heap.size, 0, none⟩)], .slice (some ⟨w1.heap.size, 0, none⟩) 4 4] w2 fun e w' => e = .returned (.tuple #[.int .i64 (s.listI : Int), .int .i64 s.listE]) ∧ BkTo O p s.listS w w') := Lib.hid (by
    by_cases h32 : 32 ≤ s.t.length
    · have e1 : s.listE = 2 := by unfold Bs.listE; rw [if_pos h32]
      have e2 : s.listI = 0 := by unfold Bs.listI; rw [e1]; rfl
      have e3 : s.listS = s := by unfold Bs.listS; rw [e1]; rfl
      rw [e1, e2, e3]
      refine (begin_full hm h32 _ _).mono ?_
      rintro e w' ⟨rfl, hF⟩
      exact ⟨rfl, begun hlt f1 V ⟨tv, q, _, (hm.no hF).mono (fun _ => .inl), hF.mono (fun _ _ e => e.elim)⟩⟩
    · have e1 : s.listE = 0 := by unfold Bs.listE; rw [if_neg h32]
      have e2 : s.listI = s.t.length := by unfold Bs.listI; rw [e1]; rfl
      have e3 : s.listS = s.add1 Bs.lister := by unfold Bs.listS; rw [e1]; rfl
      have V' := V.list
      rw [e3] at V'
      rw [e1, e2, e3]
      refine (begin_any (x := Bs.lister) (g := w1.heap.size) (m := 4) (xs := [0, 1, 2, 3]) V hm (grow_lt hlt f1) (by omega) rfl rfl rfl rfl ?_ rfl (by omega) (fun k hk => need_lister k hk) (fun j hj => ?_)).mono ?_
      · unfold Deed
        rw [if_pos (by rfl)]
        exact ⟨w.heap.size, rfl, .inr ⟨Nat.le_refl _, by omega⟩, f2.cell id c1⟩
      · have hc : j = 0 ∨ j = 1 ∨ j = 2 ∨ j = 3 := by omega
        rcases hc with rfl | rfl | rfl | rfl <;> exact hb4.cell rfl
      · rintro e w' ⟨rfl, h9⟩
        exact ⟨rfl, begun hlt f1 V' h9⟩)
  have hw1' : w.alloc (.cells #[.pointer (some ⟨p, 0, none⟩)] 25) = w1 := hw1.symm
  have hw2' : w1.alloc (.cells #[.int .i64 0, .int .i64 1, .int .i64 2, .int .i64 3] 3) = w2 := hw2.symm
  clear hw1 hw2 hb hm f1 f2 hb4 hlt V hs2 hs1
  go_enter Try.func15, Try.ntmps15
  go_wp2_with fail
  refine HEND.out.mono ?_
  rintro e w3 ⟨rfl, hT⟩
  have HT := Lib.hid hT
  clear hT
  go_wp2
  go_ret2
  exact ⟨rfl, HT.out⟩

set_option maxHeartbeats 4000000 in
theorem start10_any (h : Bk O p s w) (a b : Int) (n : Nat) : Calls Try.prog 13 #[.pointer (some ⟨p, 0, none⟩), .int .i64 a, .int .i64 b, .int .u64 (n : Int)] w fun e w' => e = .returned (.tuple #[.int .i64 (s.startI a b : Int), .int .i64 (s.startE a b)]) ∧ BkTo O p (s.startS a b n) w w' := by
  obtain ⟨V, hlt, B, T, r, q, tv, dv, I, hb⟩ := h
  obtain ⟨w1, hw1⟩ : ∃ x, x = (((w.alloc (.cells #[.pointer (some ⟨p, 0, none⟩)] 25)).alloc (.cells #[.int .i64 a] 3)).alloc (.cells #[.int .i64 b] 3)).alloc (.cells #[.int .u64 (n : Int)] 27) := ⟨_, rfl⟩
  have f1 : Fr No w w1 := by rw [hw1]; exact ((((Fr.refl No w).alloc _).alloc _).alloc _).alloc _
  have c1 : w1.cell? ⟨w.heap.size, 0, none⟩ = some (.pointer (some ⟨p, 0, none⟩)) := by rw [hw1]; exact ((((Blk.new w 25 [.pointer (some ⟨p, 0, none⟩)]).alloc _).alloc _).alloc _).cell rfl
  have c2 : w1.cell? ⟨w.heap.size + 1, 0, none⟩ = some (.int .i64 a) := by
    rw [hw1]
    have h1 := (((Blk.new (w.alloc (.cells #[.pointer (some ⟨p, 0, none⟩)] 25)) 3 [.int .i64 a]).alloc (.cells #[.int .i64 b] 3)).alloc (.cells #[.int .u64 (n : Int)] 27)).cell (i := 0) (v := .int .i64 a) rfl
    simpa using h1
  have c3 : w1.cell? ⟨w.heap.size + 1 + 1, 0, none⟩ = some (.int .i64 b) := by
    rw [hw1]
    have h1 := ((Blk.new ((w.alloc (.cells #[.pointer (some ⟨p, 0, none⟩)] 25)).alloc (.cells #[.int .i64 a] 3)) 3 [.int .i64 b]).alloc (.cells #[.int .u64 (n : Int)] 27)).cell (i := 0) (v := .int .i64 b) rfl
    simpa using h1
  have c4 : w1.cell? ⟨w.heap.size + 1 + 1 + 1, 0, none⟩ = some (.int .u64 (n : Int)) := by
    rw [hw1]
    have h1 := (Blk.new (((w.alloc (.cells #[.pointer (some ⟨p, 0, none⟩)] 25)).alloc (.cells #[.int .i64 a] 3)).alloc (.cells #[.int .i64 b] 3)) 27 [.int .u64 (n : Int)]).cell (i := 0) (v := .int .u64 (n : Int)) rfl
    simpa using h1
  have hs1 : w1.heap.size = w.heap.size + 4 := by rw [hw1]; simp
  have HHA := Lib.hid (fun X (f : Fr No w1 X) => has10_any (hb.no (f1.trans f)) a)
  have HHB := Lib.hid (fun X (f : Fr No w1 X) => has10_any (hb.no (f1.trans f)) b)
  have HSAME : Hid (s.startE a b ≠ 0 → ∀ w', Fr No w1 w' → BkTo O p (s.startS a b n) w w' ∧ s.startI a b = 0) := Lib.hid (fun hne w' hF => by
    have e3 : s.startS a b n = s := by unfold Bs.startS; rw [if_neg hne]
    have e2 : s.startI a b = 0 := by unfold Bs.startI; rw [if_neg hne]
    rw [e3]
    exact ⟨begun hlt (f1.trans hF) V ⟨tv, q, _, ((hb.more hlt (f1.trans hF))).mono (fun _ => .inl), Fr.refl _ _⟩, e2⟩)
  have HEND : Hid (∀ ka kb : Nat, a = (ka : Int) → b = (kb : Int) → s.p.has a = true → s.p.has b = true → ∀ w2, Fr No w1 w2 → ∀ w3, w3 = w2.alloc (.cells #[.int .i64 ((ka % 4 : Nat) : Int), .int .i64 ((kb % 4 : Nat) : Int)] 3) →
      Calls Try.prog 33 #[.pointer (some ⟨p, 0, none⟩), .func (.func 31) #[] #[.pointer (some ⟨w.heap.size, 0, none⟩), .pointer (some ⟨w.heap.size + 1, 0, none⟩), .pointer (some ⟨w.heap.size + 1 + 1, 0, none⟩), .pointer (some ⟨w.heap.size + 1 + 1 + 1, 0, none⟩)], .slice (some ⟨w2.heap.size, 0, none⟩) 2 2] w3 fun e w' =>
        e = .returned (.tuple #[.int .i64 (s.startI a b : Int), .int .i64 (s.startE a b)]) ∧ BkTo O p (s.startS a b n) w w') := Lib.hid (fun ka kb hka hkb ha hb' w2 f2 w3 hw3 => by
    have f3 : Fr No w1 w3 := by rw [hw3]; exact f2.alloc _
    have hm := hb.more hlt (f1.trans f3)
    have hs3 := f3.size
    by_cases h32 : 32 ≤ s.t.length
    · have e1 : s.startE a b = 2 := by unfold Bs.startE; rw [ha, hb']; simp [h32]
      refine (begin_full hm h32 _ _).mono ?_
      rintro e w' ⟨rfl, hF⟩
      obtain ⟨h8, h9⟩ := HSAME.out (by rw [e1]; decide) w' (f3.trans hF)
      rw [e1, h9]
      exact ⟨rfl, h8⟩
    · have e1 : s.startE a b = 0 := Bs.startE_zero.2 ⟨ha, hb', by omega⟩
      have e2 : s.startI a b = s.t.length := by unfold Bs.startI; rw [e1]; rfl
      have e3 : s.startS a b n = s.add1 (Bs.mover ka kb n) := by unfold Bs.startS; rw [e1, hka, hkb]; rfl
      have V' := V.start a b n
      rw [e3] at V'
      rw [e1, e2, e3]
      have hb4 : Blk w3 w2.heap.size 3 [.int .i64 ((ka % 4 : Nat) : Int), .int .i64 ((kb % 4 : Nat) : Int)] := by rw [hw3]; exact Blk.new w2 3 _
      refine (begin_any (x := Bs.mover ka kb n) (g := w2.heap.size) (m := 2) (xs := [((ka % 4 : Nat) : Int), ((kb % 4 : Nat) : Int)]) V hm (grow_lt hlt (f1.trans f3)) (by omega) rfl rfl rfl rfl ?_ rfl (by omega) (fun k hk => need_mover ka kb n k) (fun j hj => ?_)).mono ?_
      · unfold Deed
        rw [if_neg (by simp [Bs.mover])]
        have hL : ∀ k, w.heap.size ≤ k → k < w.heap.size + 4 → (I k ∨ Laid w w3 k) := fun k h1 h2 => .inr ⟨h1, by omega⟩
        refine ⟨w.heap.size, w.heap.size + 1, w.heap.size + 1 + 1, w.heap.size + 1 + 1 + 1, rfl, hL _ (by omega) (by omega), hL _ (by omega) (by omega), hL _ (by omega) (by omega), hL _ (by omega) (by omega), f3.cell id c1, ?_, ?_, f3.cell id c4⟩
        · rw [← show a = ((Bs.mover ka kb n).f : Int) from hka]; exact f3.cell id c2
        · rw [← show b = ((Bs.mover ka kb n).t : Int) from hkb]; exact f3.cell id c3
      · have hc : j = 0 ∨ j = 1 := by omega
        rcases hc with rfl | rfl <;> exact hb4.cell rfl
      · rintro e w' ⟨rfl, h9⟩
        exact ⟨rfl, begun hlt (f1.trans f3) V' h9⟩)
  have hw1' : (((w.alloc (.cells #[.pointer (some ⟨p, 0, none⟩)] 25)).alloc (.cells #[.int .i64 a] 3)).alloc (.cells #[.int .i64 b] 3)).alloc (.cells #[.int .u64 (n : Int)] 27) = w1 := hw1.symm
  have HNA : Hid (s.p.has a = false → s.startE a b = 3) := Lib.hid (fun e => by unfold Bs.startE; rw [if_pos (.inl e)])
  have HNB : Hid (s.p.has b = false → s.startE a b = 3) := Lib.hid (fun e => by unfold Bs.startE; rw [if_pos (.inr e)])
  have C1 := Lib.hid c1
  have C2 := Lib.hid c2
  have C3 := Lib.hid c3
  have hax : s.p.has a = true → ∃ k : Nat, a = (k : Int) ∧ k < s.p.b.length := fun e => Ps.has_nat e
  have hbx : s.p.has b = true → ∃ k : Nat, b = (k : Int) ∧ k < s.p.b.length := fun e => Ps.has_nat e
  have HAX := Lib.hid hax
  have HBX := Lib.hid hbx
  have HB2 : Hid (s.p.b.length ≤ 32) := Lib.hid V.wf.b2
  obtain ⟨ya, hya⟩ : ∃ y, y = s.p.has a := ⟨_, rfl⟩
  obtain ⟨yb, hyb⟩ : ∃ y, y = s.p.has b := ⟨_, rfl⟩
  rw [← hya] at HHA HNA HAX HEND
  rw [← hyb] at HHB HNB HBX HEND
  obtain ⟨E, hE⟩ : ∃ E, E = s.startE a b := ⟨_, rfl⟩
  obtain ⟨J, hJ⟩ : ∃ J, J = s.startI a b := ⟨_, rfl⟩
  rw [← hE] at HSAME HNA HNB HEND ⊢
  rw [← hJ] at HSAME HEND ⊢
  clear hw1 hb f1 hlt V hs1 hya hyb hE hJ c4 hax hbx
  go_enter Try.func13, Try.ntmps13
  go_wp2_with fail
  refine (HHA.out _ (Fr.refl _ _)).mono ?_
  rintro e w2 ⟨rfl, hF2⟩
  have F2 := Lib.hid hF2
  have c1 := hF2.cell id C1.out
  have c2 := hF2.cell id C2.out
  have c3 := hF2.cell id C3.out
  clear hF2
  cases ya with
  | false =>
    obtain rfl : E = 3 := HNA.out rfl
    go_wp2
    go_ret2
    obtain ⟨h8, h9⟩ := HSAME.out (by decide) w2 F2.out
    exact ⟨by rw [h9]; rfl, h8⟩
  | true =>
    go_wp2_with fail
    refine (HHB.out _ F2.out).mono ?_
    rintro e w3 ⟨rfl, hF3⟩
    have F3 := Lib.hid (F2.out.trans hF3)
    have c1 := F3.out.cell id C1.out
    have c2 := F3.out.cell id C2.out
    have c3 := F3.out.cell id C3.out
    clear hF3
    cases yb with
    | false =>
      obtain rfl : E = 3 := HNB.out rfl
      go_wp2
      go_ret2
      obtain ⟨h8, h9⟩ := HSAME.out (by decide) w3 F3.out
      exact ⟨by rw [h9]; rfl, h8⟩
    | true =>
      obtain ⟨ka, rfl, hka⟩ := HAX.out (by simp)
      obtain ⟨kb, rfl, hkb⟩ := HBX.out (by simp)
      have HX := Lib.hid (HEND.out ka kb rfl rfl (by simp) (by simp) w3 F3.out _ rfl)
      obtain ⟨fa, hfa⟩ : ∃ x, x = ka % 4 := ⟨_, rfl⟩
      obtain ⟨fb, hfb⟩ : ∃ x, x = kb % 4 := ⟨_, rfl⟩
      have m1 : (ka : Int) % 4 = (fa : Int) := by omega
      have m2 : (kb : Int) % 4 = (fb : Int) := by omega
      have m3 : Int.tmod (ka : Int) 4 = (fa : Int) := by rw [Int.tmod_eq_emod_of_nonneg (by omega)]; exact m1
      have m4 : Int.tmod (kb : Int) 4 = (fb : Int) := by rw [Int.tmod_eq_emod_of_nonneg (by omega)]; exact m2
      have l1 : IntKind.i64.wrap (fa : Int) = (fa : Int) := IntWalk.i64_in _ (by omega)
      have l2 : IntKind.i64.wrap (fb : Int) = (fb : Int) := IntWalk.i64_in _ (by omega)
      rw [← hfa, ← hfb] at HX
      clear hka hkb hfa hfb
      go_wp2_with fail
      refine HX.out.mono ?_
      rintro e w4 ⟨rfl, hT⟩
      have HT := Lib.hid hT
      clear hT
      go_wp2
      go_ret2
      exact ⟨rfl, HT.out⟩
end
end Go.Proofs.Ytpmmfbbppnbhbaa
