/- A bank as the laws see it. -/
import Derived.Test.YtpmmfbbppnbhbaaSdW
namespace Go.Proofs.Ytpmmfbbppnbhbaa
open Go.RowKit
set_option linter.unusedVariables false
set_option maxRecDepth 100000

set_option maxHeartbeats 2000000 in
theorem sd_new (ao : Option Addr) (n cap : Nat) (b : List Nat) (w : World) (hn : n = b.length) (hm : n ≤ maxLen) (hx : Nums w ao n (fun i => b.getD i 0)) (y : Bool) (hy : y = Ps.newOk b) : Calls Try.prog 11 #[.slice ao n cap] w fun e w' =>
    Fr No w w' ∧ if y then ∃ p O, e = .returned (.pointer (some ⟨p, 0, none⟩)) ∧ (∀ k, O k → w.heap.size ≤ k) ∧ Bk O p (Bs.newB b) w' else e = .returned (.pointer none) := by
  have HN := Lib.hid (pu_new ao n cap b w hn hm hx y hy)
  have HMADE : Hid (y = true → ∀ (r : Nat) (w1 : World), Pu w.heap.size w1.heap.size r (Ps.newS b) w1 → Fr No w w1 → ∃ O, (∀ k, O k → w.heap.size ≤ k) ∧ Bk O w1.heap.size (Bs.newB b) (w1.alloc (.cells #[.pointer (some ⟨r, 0, none⟩), .pointer none, .pointer none, .pointer none, .pointer none, .slice none 0 0, .slice none 0 0] 82))) := Lib.hid (fun hyt r w1 hp hF => by
    have hs := hF.size
    refine ⟨fun k => w.heap.size ≤ k ∧ k < w1.heap.size + 1, fun k hk => hk.1, Bs.Inv.new (by rw [← hy]; exact hyt), fun k hk => by rw [World.size_alloc]; exact hk.2, w.heap.size, w1.heap.size, r, fun _ => 0, .slice none 0 0, .slice none 0 0, No, ?_⟩
    exact
    { pu := hp.no ((Fr.refl No w1).alloc _)
      blk := Blk.new w1 82 [.pointer (some ⟨r, 0, none⟩), .pointer none, .pointer none, .pointer none, .pointer none, .slice none 0 0, .slice none 0 0]
      new := fun i _ => ⟨rfl, rfl⟩
      tasks := World.ownsRow_nil _ _ _ _
      done := World.ownsRow_nil _ _ _ _
      task := fun i hi => by simp [Bs.newB] at hi
      loP := Nat.le_refl _
      loQ := fun i hi => by simp [Bs.newB] at hi
      oR := fun k hk => ⟨hk.1, by have := hk.2; omega⟩
      oP := ⟨hs, by omega⟩
      oQ := fun i hi => by simp [Bs.newB] at hi
      oT := fun k hk => by cases hk
      oD := fun k hk => by cases hk
      oI := fun k hk => hk.elim
      iLo := fun k hk => hk.elim
      iP := id
      iQ := fun _ _ => id
      iT := fun _ _ => id
      iD := fun _ _ => id })
  clear hn hm hx hy
  go_enter Try.func11, Try.ntmps11
  go_wp2_with fail
  refine HN.out.mono ?_
  rintro e w1 ⟨hF, hp⟩
  cases y with
  | false =>
    rw [if_neg (by simp)] at hp
    obtain rfl := hp
    have HF := Lib.hid hF
    clear hF
    go_wp2
    go_ret
    exact ⟨HF.out, rfl⟩
  | true =>
    rw [if_pos rfl] at hp
    obtain ⟨r, rfl, hp⟩ := hp
    obtain ⟨O, h1, h2⟩ := HMADE.out (by simp) r w1 hp hF
    have HF := Lib.hid hF
    have H1 := Lib.hid h1
    have H2 := Lib.hid h2
    clear hF hp h1 h2
    go_wp2
    go_ret
    exact ⟨HF.out.alloc _, _, rfl, O, H1.out, H2.out⟩

section
variable {O : Nat → Prop} {p : Nat} {s : Bs} {w : World}
theorem sd_start (h : Bk O p s w) (a b : Int) (n : Nat) : Calls Try.prog 13 #[.pointer (some ⟨p, 0, none⟩), .int .i64 a, .int .i64 b, .int .u64 (n : Int)] w fun e w' => e = .returned (.tuple #[.int .i64 (s.startI a b : Int), .int .i64 (s.startE a b)]) ∧ BkTo O p (s.startS a b n) w w' := start10_any h a b n
theorem sd_list (h : Bk O p s w) : Calls Try.prog 15 #[.pointer (some ⟨p, 0, none⟩)] w fun e w' => e = .returned (.tuple #[.int .i64 (s.listI : Int), .int .i64 s.listE]) ∧ BkTo O p s.listS w w' := list10_any h
theorem sd_step (h : Bk O p s w) (i : Int) (hi : (Lit.int .i64 i).wf = true) : Calls Try.prog 17 #[.pointer (some ⟨p, 0, none⟩), .int .i64 i] w fun e w' => e = .returned (.int .i64 (s.stepE i)) ∧ BkTo O p (s.stepS i) w w' := by
  obtain ⟨V, hlt, B, T, r, q, tv, dv, I, hb⟩ := h
  refine (step10_any V hb hlt i hi).mono ?_
  rintro e w' ⟨rfl, dv', I', h1, h2⟩
  exact ⟨rfl, BkTo.of (V.step i) hlt h2 ⟨B, T, r, q, tv, dv', I', h1⟩⟩
theorem sd_result (h : Bk O p s w) (hf : ∀ i, (s.tk i).acted = false → (s.tk i).e = 0) (i : Int) (hi : (Lit.int .i64 i).wf = true) : Calls Try.prog 22 #[.pointer (some ⟨p, 0, none⟩), .int .i64 i] w fun e w' => e = .returned (.tuple #[.int .i64 (s.resV i), .bool (s.actV i)]) ∧ Fr No w w' := by
  obtain ⟨V, hlt, B, T, r, q, tv, dv, I, hb⟩ := h
  exact result10_any hb hf i
theorem sd_told (h : Bk O p s w) (hf : ∀ i, (s.tk i).acted = false → (s.tk i).told = []) (i : Int) (hi : (Lit.int .i64 i).wf = true) : Calls Try.prog 24 #[.pointer (some ⟨p, 0, none⟩), .int .i64 i] w fun e w' => ∃ v, e = .returned v ∧ OutN (s.toldV i) v w' ∧ Fr No w w' := by
  obtain ⟨V, hlt, B, T, r, q, tv, dv, I, hb⟩ := h
  exact told10_any hb i
theorem sd_holder (h : Bk O p s w) (k : Int) (hi : (Lit.int .i64 k).wf = true) : Calls Try.prog 21 #[.pointer (some ⟨p, 0, none⟩), .int .i64 k] w fun e w' => e = .returned (.int .i64 (s.holdV k)) ∧ Fr No w w' := by
  obtain ⟨V, hlt, B, T, r, q, tv, dv, I, hb⟩ := h
  exact (holder10_any V hb k).mono fun e w' h => ⟨h.1, h.2 ▸ Fr.refl _ _⟩
theorem sd_done (h : Bk O p s w) : Calls Try.prog 20 #[.pointer (some ⟨p, 0, none⟩)] w fun e w' => ∃ v, e = .returned v ∧ OutI s.done v w' ∧ Fr No w w' := by
  obtain ⟨V, hlt, B, T, r, q, tv, dv, I, hb⟩ := h
  exact (done10_any V hb).mono fun e w' ⟨v, h1, h2, h3, _⟩ => ⟨v, h1, h2, h3⟩
/-- The same, with where it lies. -/
theorem sd_done2 (h : Bk O p s w) : Calls Try.prog 20 #[.pointer (some ⟨p, 0, none⟩)] w fun e w' => ∃ v, e = .returned v ∧ OutI s.done v w' ∧ Fr No w w' ∧ ∀ g n c, v = .slice (some g) n c → O g.block ∨ w.heap.size ≤ g.block := by
  obtain ⟨V, hlt, B, T, r, q, tv, dv, I, hb⟩ := h
  exact (done10_any V hb).mono fun e w' ⟨v, h1, h2, h3, h4⟩ => ⟨v, h1, h2, h3, fun g n c e => .inr (h4 g n c e)⟩
theorem sd_balances (h : Bk O p s w) : Calls Try.prog 25 #[.pointer (some ⟨p, 0, none⟩)] w fun e w' => ∃ v, e = .returned v ∧ OutN s.p.b v w' ∧ Fr No w w' := by
  obtain ⟨V, hlt, B, T, r, q, tv, dv, I, hb⟩ := h
  refine (balances10_any hb).mono ?_
  rintro e w' ⟨g, c, rfl, h1, h2, h3, h4⟩
  refine ⟨_, rfl, ⟨_, _, rfl, fun i hi => ⟨_, rfl, by rw [Addr.add_lit, Nat.zero_add]; exact (h3 i hi).1, ?_⟩⟩, h4⟩
  have h5 := Ps.bal_le hi
  have h6 := V.wf.top
  show s.p.bal i < _
  omega
end
end Go.Proofs.Ytpmmfbbppnbhbaa
