/- What a task's steps do: a lock, the deed. What a task's steps do: the closure that moves, and whatever deed. A task acts. A task gives its locks back. -/
import Derived.Test.YtldcglmpnildiaaSdX
import Derived.Test.YtldcglmpnildiaaTake
import Derived.Deep.RegionHeld
import Derived.KernelRfl
import Derived.LaidEqlPtr
namespace Go.Proofs.Ytldcglmpnildiaa
open Go.RowKit
set_option linter.unusedVariables false
set_option maxRecDepth 100000

theorem wp_append10 {P : Program} {o : Oper} {a : Act} {w w' : World} {K : Act → World → Prop} {Q : Exit → Act → World → Prop} (s x : Operand) (t : TypeId) (ho : o.op = .call { callee := .builtin .append, args := #[s, x], argTypes := #[t, t] }) (vs vx v : Value) (hs : a.eval s = vs) (hx : a.eval x = vx)
    (hr : (Builtin.append_ #[t, t] o.type #[vs, vx]).run P w = .ok v w') (h : K (a.put o.dst v) w') : o.wp P a w K Q := by
  unfold Oper.wp execOp
  simp only [ho, resolve, invoke, builtin, Sem.run_bind, Sem.run_pure, Result.andThen_ok, List.map_toArray, List.map_cons, List.map_nil, hs, hx, hr]
  exact h

set_option maxHeartbeats 1000000 in
theorem lock_held {p k q x : Nat} {w : World} (hc : w.cell? ⟨p, 1 + k, none⟩ = some (.pointer (some ⟨x, 0, none⟩))) :
    Calls Try.prog 40 #[.agg #[.pointer (some ⟨p, 1 + k, none⟩), .pointer (some ⟨q, 0, none⟩)]] w fun e w' => e = .returned (.int .i64 100) ∧ Fr No w w' := by
  obtain ⟨o, ho⟩ : ∃ o, o = 1 + k := ⟨_, rfl⟩
  rw [← ho] at hc ⊢
  clear ho
  have hlt := lt_cell hc
  go_enter Try.func40, Try.ntmps40
  go_wp2
  go_ret
  exact ⟨rfl, (Fr.refl No w).alloc _⟩
set_option maxHeartbeats 1000000 in
theorem lock_free {p k q : Nat} {w : World} (hc : w.cell? ⟨p, 1 + k, none⟩ = some (.pointer none)) (hf : w.frozen? ⟨p, 1 + k, none⟩ = false) :
    Calls Try.prog 40 #[.agg #[.pointer (some ⟨p, 1 + k, none⟩), .pointer (some ⟨q, 0, none⟩)]] w fun e w' => e = .returned (.int .i64 0) ∧ ∃ o, w' = (w.setCell ⟨p, 1 + k, none⟩ (.pointer (some ⟨q, 0, none⟩))).alloc o := by
  obtain ⟨o, ho⟩ : ∃ o, o = 1 + k := ⟨_, rfl⟩
  rw [← ho] at hc hf ⊢
  clear ho
  have hlt := lt_cell hc
  go_enter Try.func40, Try.ntmps40
  go_wp2
  go_ret
  exact ⟨rfl, _, rfl⟩

section
variable {O I : Nat → Prop} {w : World} {p : Nat} {s : Bs} {td : Nat → List Sp} {B T r : Nat} {q : Nat → Nat} {tv dv : Value}
set_option maxHeartbeats 1000000 in
theorem listF_any (h : BkAt O p s td w B T r q tv dv I) {b : Nat} (hb : w.cell? ⟨b, 0, none⟩ = some (.pointer (some ⟨p, 0, none⟩))) :
    Calls Try.prog 29 #[.pointer (some ⟨b, 0, none⟩)] w fun e w' => ∃ g c, e = .returned (.tuple #[.int .i64 0, .slice (some ⟨g, 0, none⟩) s.p.b.length c]) ∧ w.heap.size ≤ g ∧ g < w'.heap.size ∧ Rw w' g s.p.b ∧ Fr No w w' := by
  have HB := Lib.hid (balances10_any h)
  obtain ⟨n, hn⟩ : ∃ n, n = s.p.b.length := ⟨_, rfl⟩
  obtain ⟨l, hl⟩ : ∃ l, l = s.p.b := ⟨_, rfl⟩
  rw [← hn, ← hl] at HB
  rw [← hn, ← hl]
  clear h hn hl
  go_enter Try.func29, Try.ntmps29
  go_wp2_with fail
  refine HB.out.mono ?_
  rintro x w1 ⟨g, c, rfl, h1, h2, h3, h4⟩
  have H1 := Lib.hid h1
  have H2 := Lib.hid h2
  have H3 := Lib.hid h3
  have H4 := Lib.hid h4
  clear h1 h2 h3 h4
  go_wp2
  go_ret2
  exact ⟨g, c, rfl, H1.out, H2.out, H3.out, H4.out⟩
end
end Go.Proofs.Ytldcglmpnildiaa

namespace Go.Proofs.Ytldcglmpnildiaa
open Go.RowKit
set_option linter.unusedVariables false
set_option maxRecDepth 100000

section
variable {O I : Nat → Prop} {w : World} {p : Nat} {s : Bs} {td : Nat → List Sp} {B T r : Nat} {q : Nat → Nat} {tv dv : Value}
set_option maxHeartbeats 2000000 in
theorem moveF_any (h : BkAt O p s td w B T r q tv dv I) {b f t n : Nat} {xf xt : Int} {xn : Nat} (ib : T ≤ b) (jf : T ≤ f) (jt : T ≤ t) (jn : T ≤ n) (cb : w.cell? ⟨b, 0, none⟩ = some (.pointer (some ⟨p, 0, none⟩)))
    (cf : w.cell? ⟨f, 0, none⟩ = some (.int .i64 xf)) (ct : w.cell? ⟨t, 0, none⟩ = some (.int .i64 xt)) (cn : w.cell? ⟨n, 0, none⟩ = some (.int .u64 (xn : Int))) :
    Calls Try.prog 24 #[.pointer (some ⟨b, 0, none⟩), .pointer (some ⟨f, 0, none⟩), .pointer (some ⟨t, 0, none⟩), .pointer (some ⟨n, 0, none⟩)] w fun e w' =>
      e = .returned (.tuple #[.int .i64 (s.p.movE xf xt xn), .slice none 0 0]) ∧ Pu B T r (s.p.movS xf xt xn) w' ∧ Fr (Btw B T) w w' := by
  have c0 := h.blk.cell (i := 0) (v := at_ r 0) rfl
  simp only [at_] at c0
  have far : ∀ k, T ≤ k → ¬ Btw B T k := fun k hk e => by have := e.2; omega
  have CB : Hid (¬ Btw B T b ∧ w.cell? ⟨b, 0, none⟩ = some (.pointer (some ⟨p, 0, none⟩))) := Lib.hid ⟨far _ ib, cb⟩
  have CF : Hid (¬ Btw B T f ∧ w.cell? ⟨f, 0, none⟩ = some (.int .i64 xf)) := Lib.hid ⟨far _ jf, cf⟩
  have CT : Hid (¬ Btw B T t ∧ w.cell? ⟨t, 0, none⟩ = some (.int .i64 xt)) := Lib.hid ⟨far _ jt, ct⟩
  have CN : Hid (¬ Btw B T n ∧ w.cell? ⟨n, 0, none⟩ = some (.int .u64 (xn : Int))) := Lib.hid ⟨far _ jn, cn⟩
  have CP : Hid (¬ Btw B T p ∧ w.cell? ⟨p, 0, none⟩ = some (.pointer (some ⟨r, 0, none⟩))) := Lib.hid ⟨far _ h.loP, c0⟩
  have HM := Lib.hid (fun X (f : Fr No w X) => pu_move (h.pu.no f) xf xt xn)
  obtain ⟨E, hE⟩ : ∃ E, E = s.p.movE xf xt xn := ⟨_, rfl⟩
  obtain ⟨S', hS⟩ : ∃ E, E = s.p.movS xf xt xn := ⟨_, rfl⟩
  rw [← hE, ← hS] at HM ⊢
  clear h hE hS ib jf jt jn cb cf ct cn c0 far
  go_enter Try.func24, Try.ntmps24
  go_wp2_with fail
  refine wp_region_held_drew (S := (fun X => Fr (Btw B T) w X)) (by kernel_rfl) ((Fr.refl _ w).drew) (fun hHeld => ?_)
  refine takeD (i := 0) (d := some 6) (v := ?_) rfl (by kernel_rfl) (by kernel_rfl) (by kernel_rfl) (by kernel_rfl) (fun _ _ _ h => h) (Or.inl ⟨by kernel_rfl, fun X hX => Or.inl ?_⟩) (by assumption) ?_
  rotate_left
  · have c := hX.cell CB.out.1 CB.out.2; first | (go_simp; done) | (go_simp; with_reducible rfl)
  (try simp only [Act.put]); (try simp only [List.setIfInBounds_toArray]); (try simp only [List.set_cons_succ]); (try simp only [List.set_cons_zero])
  refine takeD (i := 1) (d := some 7) (v := ?_) rfl (by kernel_rfl) (by kernel_rfl) (by kernel_rfl) (by kernel_rfl) (fun _ _ _ h => h) (Or.inl ⟨by kernel_rfl, fun X hX => Or.inl ?_⟩) (by assumption) ?_
  rotate_left
  · first | (go_simp; done) | (go_simp; with_reducible rfl)
  (try simp only [Act.put]); (try simp only [List.setIfInBounds_toArray]); (try simp only [List.set_cons_succ]); (try simp only [List.set_cons_zero])
  refine takeD (i := 2) (d := some 8) (v := ?_) rfl (by kernel_rfl) (by kernel_rfl) (by kernel_rfl) (by kernel_rfl) (fun _ _ _ h => h) (Or.inl ⟨by kernel_rfl, fun X hX => Or.inl ?_⟩) (by assumption) ?_
  rotate_left
  · first | (go_simp; done) | (go_simp; with_reducible rfl)
  (try simp only [Act.put]); (try simp only [List.setIfInBounds_toArray]); (try simp only [List.set_cons_succ]); (try simp only [List.set_cons_zero])
  refine takeD (i := 3) (d := some 9) (v := ?_) rfl (by kernel_rfl) (by kernel_rfl) (by kernel_rfl) (by kernel_rfl) (fun _ _ _ h => h) (Or.inl ⟨by kernel_rfl, fun X hX => Or.inl ?_⟩) (by assumption) ?_
  rotate_left
  · have c := hX.cell CP.out.1 CP.out.2; first | (go_simp; done) | (go_simp; with_reducible rfl)
  (try simp only [Act.put]); (try simp only [List.setIfInBounds_toArray]); (try simp only [List.set_cons_succ]); (try simp only [List.set_cons_zero])
  refine takeD (i := 4) (d := some 10) (v := ?_) rfl (by kernel_rfl) (by kernel_rfl) (by kernel_rfl) (by kernel_rfl) (fun _ _ _ h => h) (Or.inl ⟨by kernel_rfl, fun X hX => Or.inl ?_⟩) (by assumption) ?_
  rotate_left
  · have c := hX.cell CF.out.1 CF.out.2; first | (go_simp; done) | (go_simp; with_reducible rfl)
  (try simp only [Act.put]); (try simp only [List.setIfInBounds_toArray]); (try simp only [List.set_cons_succ]); (try simp only [List.set_cons_zero])
  refine takeD (i := 5) (d := some 11) (v := ?_) rfl (by kernel_rfl) (by kernel_rfl) (by kernel_rfl) (by kernel_rfl) (fun _ _ _ h => h) (Or.inl ⟨by kernel_rfl, fun X hX => Or.inl ?_⟩) (by assumption) ?_
  rotate_left
  · have c := hX.cell CT.out.1 CT.out.2; first | (go_simp; done) | (go_simp; with_reducible rfl)
  (try simp only [Act.put]); (try simp only [List.setIfInBounds_toArray]); (try simp only [List.set_cons_succ]); (try simp only [List.set_cons_zero])
  refine takeD (i := 6) (d := some 12) (v := ?_) rfl (by kernel_rfl) (by kernel_rfl) (by kernel_rfl) (by kernel_rfl) (fun _ _ _ h => h) (Or.inl ⟨by kernel_rfl, fun X hX => Or.inl ?_⟩) (by assumption) ?_
  rotate_left
  · have c := hX.cell CN.out.1 CN.out.2; first | (go_simp; done) | (go_simp; with_reducible rfl)
  (try simp only [Act.put]); (try simp only [List.setIfInBounds_toArray]); (try simp only [List.set_cons_succ]); (try simp only [List.set_cons_zero])
  refine wpAnyH_ready (rs := [7]) (by kernel_rfl) (by simp) ?_
  refine AllReadyH.cons rfl (fun K hK => ?_) AllReadyH.nil
  rw [if_pos (by kernel_rfl)]
  go_simp
  refine (HM.out _ (Fr.refl No w).drew).mono ?_
  rintro e w1 ⟨rfl, hP, hF⟩
  have HP := Lib.hid hP
  have HF := Lib.hid ((Fr.refl (Btw B T) w).drew.trans hF)
  clear hP hF
  refine hK.out _ _ (HF.out) (fun hHeld => ?_)
  clear hK K
  (try simp only [Act.put]); (try simp only [List.setIfInBounds_toArray]); (try simp only [List.set_cons_succ]); (try simp only [List.set_cons_zero])
  refine takeD (i := 8) (d := some 4) (v := ?_) rfl (by kernel_rfl) (by kernel_rfl) (by kernel_rfl) (by kernel_rfl) (fun _ _ _ h => h) (Or.inl ⟨by kernel_rfl, fun X hX => Or.inl ?_⟩) (by assumption) ?_
  rotate_left
  · first | (go_simp; done) | (go_simp; with_reducible rfl)
  (try simp only [Act.put]); (try simp only [List.setIfInBounds_toArray]); (try simp only [List.set_cons_succ]); (try simp only [List.set_cons_zero])
  refine takeD (i := 9) (d := some 5) (v := ?_) rfl (by kernel_rfl) (by kernel_rfl) (by kernel_rfl) (by kernel_rfl) (fun _ _ _ h => h) (Or.inl ⟨by kernel_rfl, fun X hX => Or.inl ?_⟩) (by assumption) ?_
  rotate_left
  · first | (go_simp; done) | (go_simp; with_reducible rfl)
  (try simp only [Act.put]); (try simp only [List.setIfInBounds_toArray]); (try simp only [List.set_cons_succ]); (try simp only [List.set_cons_zero])
  refine wpAnyH_done (by kernel_rfl) ?_ _
  clear hHeld
  go_wp2
  go_ret2
  exact ⟨rfl, HP.out, HF.out⟩
end
end Go.Proofs.Ytldcglmpnildiaa

namespace Go.Proofs.Ytldcglmpnildiaa
open Go.RowKit
set_option linter.unusedVariables false
set_option maxRecDepth 100000

namespace Bs
theorem act_lists {s : Bs} {i : Nat} (hi : i < s.t.length) (h : (s.tk i).lists = true) : (s.act1 i).p = s.p ∧ (s.act1 i).tk i = { s.tk i with acted := true, told := s.p.b } := by
  unfold act1
  rw [if_pos h]
  exact ⟨rfl, by rw [tk_set _ _ _ _ hi, if_pos rfl]⟩
theorem act_moves {s : Bs} {i : Nat} (hi : i < s.t.length) (h : (s.tk i).lists = false) : (s.act1 i).p = s.p.movS ((s.tk i).f : Int) ((s.tk i).t : Int) (s.tk i).n ∧
    (s.act1 i).tk i = { s.tk i with acted := true, e := s.p.movE ((s.tk i).f : Int) ((s.tk i).t : Int) (s.tk i).n } := by
  unfold act1
  rw [h]
  exact ⟨rfl, by
    show tk ⟨_, s.t.set i _, _, _⟩ i = _
    rw [tk_set _ _ _ _ hi, if_pos rfl]⟩
end Bs
section
variable {O I : Nat → Prop} {w : World} {p : Nat} {s : Bs} {td : Nat → List Sp} {B T r : Nat} {q : Nat → Nat} {tv dv : Value}
/-- What was laid between two worlds. -/
def Laid (w w' : World) (k : Nat) : Prop := w.heap.size ≤ k ∧ k < w'.heap.size
theorem deed_call (V : s.Inv) (h : BkAt O p s td w B T r q tv dv I) {i : Nat} (hi : i < s.t.length) (ha : (s.tk i).acted = false) {d : Value} (hd : Deed I w p (s.tk i) d) :
    ∃ (f : FuncId) (caps : Array Value), d = .func (.func f) #[] caps ∧ (∀ (as' : Array Value) (W : World), (callFunc f as').run Try.prog W = .ok (.enter f as') W) ∧ Calls Try.prog f caps w fun e w' =>
      ∃ to, e = .returned (.tuple #[.int .i64 ((s.act1 i).tk i).e, to]) ∧ Told (Laid w w') w' ((s.act1 i).tk i).told to ∧ Pu B T r (s.act1 i).p w' ∧ Fr (Btw B T) w w' := by
  obtain ⟨hn1, hn2⟩ := h.new i ha
  unfold Deed at hd
  cases hl : (s.tk i).lists with
  | true =>
    rw [hl, if_pos rfl] at hd
    obtain ⟨b, rfl, hb, hc⟩ := hd
    obtain ⟨e1, e2⟩ := Bs.act_lists hi hl
    refine ⟨_, _, rfl, fun as' W => rfl, (listF_any h hc).mono ?_⟩
    rintro e w' ⟨g, c, rfl, h1, h2, h3, h4⟩
    rw [e1, e2]
    refine ⟨_, by rw [show ({ s.tk i with acted := true, told := s.p.b } : Tk).e = 0 from hn1], .inr ⟨g, c, rfl, ⟨h1, h2⟩, h.pu.wf.b1, h.pu.wf.b2, fun j hj => ⟨_, rfl, by rw [Addr.add_lit, Nat.zero_add]; exact (h3 j hj).1, ?_⟩⟩, h.pu.no h4, h4.mono (fun _ _ e => e.elim)⟩
    have h1 := Ps.bal_le hj
    have h2 := V.wf.top
    show s.p.bal j < _
    omega
  | false =>
    rw [hl, if_neg (by simp)] at hd
    obtain ⟨b, f, t, n, rfl, i1, i2, i3, i4, c1, c2, c3, c4⟩ := hd
    obtain ⟨e1, e2⟩ := Bs.act_moves hi hl
    refine ⟨_, _, rfl, fun as' W => rfl, (moveF_any h (h.iLo _ i1) (h.iLo _ i2) (h.iLo _ i3) (h.iLo _ i4) c1 c2 c3 c4).mono ?_⟩
    rintro e w' ⟨rfl, h1, h2⟩
    rw [e1, e2]
    exact ⟨_, rfl, .inl ⟨hn2, rfl⟩, h1, h2⟩

theorem cellsD_snoc (l : List Nat) (i : Nat) : cellsD (l ++ [i]) = cellsD l ++ [.int .i64 (i : Int)] := by simp [cellsD]

/-- What act leaves. -/
theorem act_made (V : s.Inv) (h : BkAt O p s s.todo w B T r q tv dv I) (hlt : ∀ k, O k → k < w.heap.size) {i : Nat} (hi : i < s.t.length) (ha : (s.tk i).acted = false) {w1 w' : World} {dv' d st to : Value}
    (hpu : Pu B T r (s.act1 i).p w1) (hto : Told (Laid w w1) w1 ((s.act1 i).tk i).told to) (hd : Deed I w p (s.tk i) d) (hst : Steps I w ((s.todo i).map (Sp.val p (q i))) st)
    (hf1 : Fr (Btw B T) w w1) (hf2 : Fr (fun k => k = q i ∨ dv.ownBlock = some k ∨ k = p) w1 w') (hb : Blk w' p 75 (cellsB r q s.hold tv dv')) (hq : Blk w' (q i) 86 (cellsT p i ((s.act1 i).tk i) d st to))
    (hdn : w'.ownsRow T 3 1 dv' (s.done.length + 1) (cellsD (s.done ++ [i]))) (hdv : dv'.ownBlock = dv.ownBlock ∨ ∃ g, dv'.ownBlock = some g ∧ w1.heap.size ≤ g) :
    ∃ dv' I', BkAt (Grow O w w') p (s.act1 i) s.todo w' B T r q tv dv' I' ∧ Fr O w w' := by
  obtain ⟨x, hx, x1, x2, x3, x4, x5, x6, x7, x8⟩ := Bs.act_t s i
  have htk : (s.act1 i).tk i = x := by
    unfold Bs.tk
    rw [hx, Ps.getD_set _ _ _ _ _ hi, if_pos rfl]
  have hln : (s.act1 i).t.length = s.t.length := by rw [hx, List.length_set]
  have hho : (s.act1 i).hold = s.hold := by funext k; exact Bs.act_hold k
  have hlo : ∀ k, T ≤ k → ¬ Btw B T k := fun k hk e => by have := e.2; omega
  have hs1 : w.heap.size ≤ w1.heap.size := hf1.size
  have hs2 : w1.heap.size ≤ w'.heap.size := hf2.size
  have hS2 : ∀ k, I k → ¬ (k = q i ∨ dv.ownBlock = some k ∨ k = p) := fun k hk e => by
    rcases e with e | e | e
    · exact h.iQ i hi (e ▸ hk)
    · exact h.iD k e hk
    · exact h.iP (e ▸ hk)
  have hF : Fr O w w' := (hf1.mono (fun k _ hk => h.oR k hk)).trans' hf2 (fun k hk e => by
    rcases e with e | e | e
    · exact e ▸ h.oQ i hi
    · exact h.oD k e
    · exact e ▸ h.oP)
  have hfI : ∀ k, I k → ¬ Btw B T k := fun k hk => hlo k (h.iLo k hk)
  have hdo : ∀ k, dv'.ownBlock = some k → dv.ownBlock = some k ∨ (w1.heap.size ≤ k ∧ k < w'.heap.size) := fun k hk => by
    rcases hdv with e | ⟨g, e, hg⟩
    · exact .inl (e ▸ hk)
    · rw [e] at hk
      injection hk with hk
      subst hk
      exact .inr ⟨hg, (hdn.lt g e).2⟩
  refine ⟨dv', fun k => I k ∨ Laid w w1 k, ?_, hF⟩
  have hIsub : ∀ k, I k ∨ Laid w w1 k → k < w1.heap.size := fun k hk => by
    rcases hk with hk | hk
    · have := hlt k (h.oI k hk); omega
    · exact hk.2
  exact
  { pu := hpu.fr hf2 (fun k hk e => by
      rcases e with e | e | e
      · exact hlo _ (h.loQ i hi) (e ▸ hk)
      · exact hlo _ (h.dlo e) hk
      · exact hlo _ h.loP (e ▸ hk))
    blk := by rw [hho]; exact hb
    new := fun j hj => by
      rw [Bs.act_tk hi] at hj ⊢
      by_cases hji : j = i
      · rw [if_pos hji, htk, x5] at hj; cases hj
      · rw [if_neg hji] at hj ⊢
        exact h.new j hj
    tasks := by
      rw [hln]
      exact owns_fr (owns_fr h.tasks hf1 (fun k hk => hlo k (h.tlo hk))) hf2 (fun k hk e => by
        rcases e with e | e | e
        · exact h.tq hi (e ▸ hk)
        · exact own_own_ne h.tasks h.done (by decide) hk e
        · exact h.tp (e ▸ hk))
    done := by
      rw [x8, List.length_append, List.length_singleton]
      exact hdn
    task := fun j hj => by
      rw [hln] at hj
      by_cases hji : j = i
      · subst hji
        refine ⟨d, st, to, hq, ?_, ?_, ?_⟩
        · exact (((hd.fr hf1 hfI (fun _ => id)).fr hf2 hS2 (fun k hk => .inl hk))).same (by rw [htk, x4]) (by rw [htk, x1]) (by rw [htk, x2]) (by rw [htk, x3])
        · exact (hst.fr hf1 hfI (fun _ => id)).fr hf2 hS2 (fun k hk => .inl hk)
        · exact hto.fr hf2 (fun k hk e => by
            rcases e with e | e | e
            · have := hlt _ (h.oQ j hi); rw [← e] at this; have := hk.1; omega
            · have := hlt _ (h.oD k e); have := hk.1; omega
            · have := hlt _ h.oP; rw [← e] at this; have := hk.1; omega) (fun k hk => .inr hk)
      · rw [Bs.act_tk hi, if_neg hji]
        exact ((h.task j hj).fr hf1 (hlo _ (h.loQ j hj)) hfI (fun _ => id)).fr hf2 (fun e => by
          rcases e with e | e | e
          · exact hji (h.qq hj hi e)
          · exact h.dq hj e
          · exact h.pq hj e.symm) hS2 (fun k hk => .inl hk)
    loP := h.loP
    loQ := fun j hj => h.loQ j (hln ▸ hj)
    oR := fun k hk => .inl (h.oR k hk)
    oP := .inl h.oP
    oQ := fun j hj => .inl (h.oQ j (hln ▸ hj))
    oT := fun k hk => .inl (h.oT k hk)
    oD := fun k hk => (hdo k hk).elim (fun e => .inl (h.oD k e)) (fun e => .inr ⟨by omega, e.2⟩)
    oI := fun k hk => hk.elim (fun e => .inl (h.oI k e)) (fun e => .inr ⟨e.1, by have := e.2; omega⟩)
    iLo := fun k hk => hk.elim (fun e => h.iLo k e) (fun e => by
      have := hlt _ h.oP
      have := h.loP
      have := e.1
      omega)
    iP := fun e => e.elim (fun e => h.iP e) (fun e => by have := hlt _ h.oP; have := e.1; omega)
    iQ := fun j hj e => e.elim (fun e => h.iQ j (hln ▸ hj) e) (fun e => by have := hlt _ (h.oQ j (hln ▸ hj)); have := e.1; omega)
    iT := fun k hk e => e.elim (fun e => h.iT k hk e) (fun e => by have := hlt _ (h.oT k hk); have := e.1; omega)
    iD := fun k hk e => (hdo k hk).elim (fun c => e.elim (fun e => h.iD k c e) (fun e => by have := hlt _ (h.oD k c); have := e.1; omega)) (fun c => by have := hIsub k e; omega) }
end

section
variable {O I : Nat → Prop} {w : World} {p : Nat} {s : Bs} {td : Nat → List Sp} {B T r : Nat} {q : Nat → Nat} {tv dv : Value}
theorem Told.slice {J : Nat → Prop} {l : List Nat} {v : Value} (h : Told J w l v) : ∃ a n c, v = .slice a n c := by
  rcases h with ⟨_, rfl⟩ | ⟨g, c, rfl, _⟩
  · exact ⟨_, _, _, rfl⟩
  · exact ⟨_, _, _, rfl⟩
theorem own_snocD {w0 : World} {T : Nat} {dv : Value} {l : List Nat} (h : w0.ownsRow T 3 1 dv l.length (cellsD l)) (hT : T ≤ w0.heap.size) (hl : l.length ≤ 32) (i : Nat) (ad : Addr) (hc : w0.cell? ad = some (.int .i64 (i : Int))) (c : Nat) (ty : TypeId) :
    ∃ v' w', (Builtin.append_ #[35, 35] ty #[dv, .slice (some ad) 1 c]).run Try.prog w0 = .ok v' w' ∧ w'.ownsRow T 3 1 v' (l.length + 1) (cellsD (l ++ [i])) ∧ Fr (fun k => dv.ownBlock = some k) w0 w' ∧ (v'.ownBlock = dv.ownBlock ∨ ∃ g, v'.ownBlock = some g ∧ w0.heap.size ≤ g) := by
  obtain ⟨i0, hi, hz0, hz1, hz2⟩ := info_parts Try.infoInt10
  have hadd0 : ∀ j u, [Value.int .i64 (i : Int)][j]? = some u → w0.cell? (ad.add j) = some u := by
    intro j u hu
    cases j with
    | zero =>
      have e : ad.add 0 = ad := by cases ad; unfold Addr.add; split <;> simp_all
      rw [e, hc]
      simpa using hu
    | succ j => simp at hu
  obtain ⟨v', w', h1, h2, h3, _, h5⟩ := run_append_own_at w0 T 35 ty 3 i0 (.int .i64 0) 1 8 Try.underlying35 hi hz0 hz1 hz2 rfl (by decide) dv l.length (cellsD l) h ad 1 c [.int .i64 (i : Int)] rfl hadd0 (by intro u hu; simp at hu; subst hu; rfl) (by unfold maxLen; omega) (by omega) hT
  exact ⟨v', w', h1, by rw [cellsD_snoc]; exact h2, Fr.of_grown h3 (fun k hk => hk), h5.elim .inl (fun e => .inr ⟨_, e, Nat.le_refl _⟩)⟩

set_option maxHeartbeats 4000000 in
theorem act_any (V : s.Inv) (h : BkAt O p s s.todo w B T r q tv dv I) (hlt : ∀ k, O k → k < w.heap.size) {i : Nat} (hi : i < s.t.length) (ha : (s.tk i).acted = false) :
    Calls Try.prog 41 #[.pointer (some ⟨q i, 0, none⟩)] w fun e w' => e = .returned (.int .i64 0) ∧ ∃ dv' I', BkAt (Grow O w w') p (s.act1 i) s.todo w' B T r q tv dv' I' ∧ Fr O w w' := by
  obtain ⟨d, st, to0, hb, hd, hst, hto⟩ := h.task i hi
  obtain ⟨f, caps, hdf, hcf, hcall⟩ := deed_call V h hi ha hd
  have HFIN := Lib.hid (fun (w1 w' : World) (dv' to : Value) (a1 : Pu B T r (s.act1 i).p w1) (a2 : Told (Laid w w1) w1 ((s.act1 i).tk i).told to) => act_made (w' := w') (dv' := dv') V h hlt hi ha a1 a2 hd hst)
  have hlo : ∀ k, T ≤ k → ¬ Btw B T k := fun k hk e => by have := e.2; omega
  have HBQ : Hid (¬ Btw B T (q i) ∧ ¬ Btw B T p ∧ (∀ k, dv.ownBlock = some k → ¬ Btw B T k) ∧ p ≠ q i ∧ dv.ownBlock ≠ some (q i) ∧ dv.ownBlock ≠ some p) := Lib.hid ⟨hlo _ (h.loQ i hi), hlo _ h.loP, fun k hk => hlo k (h.dlo hk), h.pq hi, h.dq hi, h.dp⟩
  have HB := Lib.hid hb
  have HP := Lib.hid h.blk
  have HD := Lib.hid h.done
  have HT : Hid (T ≤ w.heap.size) := Lib.hid (by have := h.loP; have := hlt p h.oP; omega)
  have HL : Hid (s.done.length ≤ 32) := Lib.hid (Bs.done_le V)
  have HC := Lib.hid hcall
  have HX : Hid (((s.act1 i).tk i).acted = true) := Lib.hid (by
    obtain ⟨x, hx, x1, x2, x3, x4, x5, _⟩ := Bs.act_t s i
    unfold Bs.tk
    rw [hx, Ps.getD_set _ _ _ _ _ hi, if_pos rfl]
    exact x5)
  have c2 := hb.cell (i := 2) (v := d) rfl
  obtain ⟨qi, hqi⟩ : ∃ x, x = q i := ⟨_, rfl⟩
  obtain ⟨x0, hx0⟩ : ∃ x, x = s.tk i := ⟨_, rfl⟩
  obtain ⟨x1, hx1⟩ : ∃ x, x = (s.act1 i).tk i := ⟨_, rfl⟩
  obtain ⟨l, hl⟩ : ∃ x, x = s.done := ⟨_, rfl⟩
  rw [← hqi] at HBQ HB c2 HFIN ⊢
  rw [← hx0] at HB
  rw [← hx1] at HFIN HC HX
  rw [← hl] at HD HL HFIN
  clear hb hd hst hto hcall h hlt V hi ha hlo hqi hx0 hx1 hl
  subst hdf
  go_enter Try.func41, Try.ntmps41
  go_wp2_with fail
  refine HC.out.mono ?_
  rintro e w1 ⟨to, rfl, h1, h2, h3⟩
  obtain ⟨ta, tn, tc, rfl⟩ := h1.slice
  have HTO := Lib.hid h1
  have HPU := Lib.hid h2
  have HF1 := Lib.hid h3
  have HB1 := Lib.hid (HB.out.fr h3 HBQ.out.1)
  have HP1 := Lib.hid (HP.out.fr h3 HBQ.out.2.1)
  have HD1 := Lib.hid (owns_fr HD.out h3 HBQ.out.2.2.1)
  have c4 := HB1.out.cell (i := 4) (v := .bool x0.acted) rfl
  have c5 := HB1.out.cell (i := 5) (v := .int .i64 x0.e) rfl
  have c6 := HB1.out.cell (i := 6) (v := to0) rfl
  have f4 := HB1.out.frozen 4
  have f5 := HB1.out.frozen 5
  have f6 := HB1.out.frozen 6
  clear h1 h2 h3
  go_wp2_with fail
  refine wp_world (fun W => Blk W qi 86 (cellsT p i x1 (.func (.func f) #[] caps) st (.slice ta tn tc)) ∧ Fr (· = qi) w1 W) ⟨?_, ?_⟩ ?_
  · have h3 := ((HB1.out.set 5 (.int .i64 x1.e)).set 6 (.slice ta tn tc)).set 4 (.bool true)
    simp only [cellsT, List.set_cons_succ, List.set_cons_zero] at h3
    unfold cellsT
    rw [HX.out]
    exact h3
  · exact (((Fr.refl (· = qi) w1).setCell (p := ⟨qi, 5, none⟩) (.inl rfl) _).setCell (p := ⟨qi, 6, none⟩) (.inl rfl) _).setCell (p := ⟨qi, 4, none⟩) (.inl rfl) _
  rintro w2 ⟨hb2, hf2⟩
  have HB2 := Lib.hid hb2
  have HF2 := Lib.hid hf2
  have HP2 := Lib.hid (HP1.out.fr hf2 HBQ.out.2.2.2.1)
  have HD2 := Lib.hid (owns_fr HD1.out hf2 (fun k hk e => HBQ.out.2.2.2.2.1 (e ▸ hk)))
  have HLN : Hid (¬ (dv.ownBlock = some qi ∨ qi = p)) := Lib.hid (fun e => e.elim HBQ.out.2.2.2.2.1 (fun e => HBQ.out.2.2.2.1 e.symm))
  have CB0 : Hid (w2.cell? ⟨qi, 0, none⟩ = some (.pointer (some ⟨p, 0, none⟩))) := Lib.hid (hb2.cell rfl)
  have CB1 : Hid (w2.cell? ⟨qi, 1, none⟩ = some (.int .i64 (i : Int))) := Lib.hid (hb2.cell rfl)
  clear hb2 hf2 c2 c4 c5 c6 f4 f5 f6
  refine wp_region_held_drew (S := (fun X => Fr (fun k => dv.ownBlock = some k ∨ k = p) w2 X)) (by kernel_rfl) ((Fr.refl _ w2).drew) (fun hHeld => ?_)
  refine takeD (i := 0) (d := some 20) (v := ?_) rfl (by kernel_rfl) (by kernel_rfl) (by kernel_rfl) (by kernel_rfl) (fun _ _ _ h => h) (Or.inl ⟨by kernel_rfl, fun X hX => Or.inl ?_⟩) (by assumption) ?_
  rotate_left
  · first | (go_simp; done) | (go_simp; with_reducible rfl)
  (try simp only [Act.put]); (try simp only [List.setIfInBounds_toArray]); (try simp only [List.set_cons_succ]); (try simp only [List.set_cons_zero])
  refine takeD (i := 1) (d := some 21) (v := ?_) rfl (by kernel_rfl) (by kernel_rfl) (by kernel_rfl) (by kernel_rfl) (fun _ _ _ h => h) (Or.inl ⟨by kernel_rfl, fun X hX => Or.inl ?_⟩) (by assumption) ?_
  rotate_left
  · first | (go_simp; done) | (go_simp; with_reducible rfl)
  (try simp only [Act.put]); (try simp only [List.setIfInBounds_toArray]); (try simp only [List.set_cons_succ]); (try simp only [List.set_cons_zero])
  refine takeD (i := 2) (d := some 22) (v := ?_) rfl (by kernel_rfl) (by kernel_rfl) (by kernel_rfl) (by kernel_rfl) (fun _ _ _ h => h) (Or.inl ⟨by kernel_rfl, fun X hX => Or.inl ?_⟩) (by assumption) ?_
  rotate_left
  · first | (go_simp; done) | (go_simp; with_reducible rfl)
  (try simp only [Act.put]); (try simp only [List.setIfInBounds_toArray]); (try simp only [List.set_cons_succ]); (try simp only [List.set_cons_zero])
  refine takeD (i := 3) (d := some 23) (v := ?_) rfl (by kernel_rfl) (by kernel_rfl) (by kernel_rfl) (by kernel_rfl) (fun _ _ _ h => h) (Or.inl ⟨by kernel_rfl, fun X hX => Or.inl ?_⟩) (by assumption) ?_
  rotate_left
  · have c := hX.cell HLN.out CB0.out; first | (go_simp; done) | (go_simp; with_reducible rfl)
  (try simp only [Act.put]); (try simp only [List.setIfInBounds_toArray]); (try simp only [List.set_cons_succ]); (try simp only [List.set_cons_zero])
  refine takeD (i := 4) (d := some 24) (v := ?_) rfl (by kernel_rfl) (by kernel_rfl) (by kernel_rfl) (by kernel_rfl) (fun _ _ _ h => h) (Or.inl ⟨by kernel_rfl, fun X hX => Or.inl ?_⟩) (by assumption) ?_
  rotate_left
  · first | (go_simp; done) | (go_simp; with_reducible rfl)
  (try simp only [Act.put]); (try simp only [List.setIfInBounds_toArray]); (try simp only [List.set_cons_succ]); (try simp only [List.set_cons_zero])
  refine takeD (i := 5) (d := some 25) (v := ?_) rfl (by kernel_rfl) (by kernel_rfl) (by kernel_rfl) (by kernel_rfl) (fun _ _ _ h => h) (Or.inl ⟨by kernel_rfl, fun X hX => Or.inl ?_⟩) (by assumption) ?_
  rotate_left
  · first | (go_simp; done) | (go_simp; with_reducible rfl)
  (try simp only [Act.put]); (try simp only [List.setIfInBounds_toArray]); (try simp only [List.set_cons_succ]); (try simp only [List.set_cons_zero])
  refine takeD (i := 6) (d := some 26) (v := ?_) rfl (by kernel_rfl) (by kernel_rfl) (by kernel_rfl) (by kernel_rfl) (fun _ _ _ h => h) (Or.inl ⟨by kernel_rfl, fun X hX => Or.inl ?_⟩) (by assumption) ?_
  rotate_left
  · first | (go_simp; done) | (go_simp; with_reducible rfl)
  (try simp only [Act.put]); (try simp only [List.setIfInBounds_toArray]); (try simp only [List.set_cons_succ]); (try simp only [List.set_cons_zero])
  refine takeD (i := 7) (d := some 27) (v := ?_) rfl (by kernel_rfl) (by kernel_rfl) (by kernel_rfl) (by kernel_rfl) (fun _ _ _ h => h) (Or.inl ⟨by kernel_rfl, fun X hX => Or.inl ?_⟩) (by assumption) ?_
  rotate_left
  · have c := hX.cell HLN.out CB0.out; first | (go_simp; done) | (go_simp; with_reducible rfl)
  (try simp only [Act.put]); (try simp only [List.setIfInBounds_toArray]); (try simp only [List.set_cons_succ]); (try simp only [List.set_cons_zero])
  refine takeD (i := 8) (d := some 28) (v := ?_) rfl (by kernel_rfl) (by kernel_rfl) (by kernel_rfl) (by kernel_rfl) (fun _ _ _ h => h) (Or.inl ⟨by kernel_rfl, fun X hX => Or.inl ?_⟩) (by assumption) ?_
  rotate_left
  · first | (go_simp; done) | (go_simp; with_reducible rfl)
  (try simp only [Act.put]); (try simp only [List.setIfInBounds_toArray]); (try simp only [List.set_cons_succ]); (try simp only [List.set_cons_zero])
  refine takeD (i := 9) (d := some 29) (v := ?_) rfl (by kernel_rfl) (by kernel_rfl) (by kernel_rfl) (by kernel_rfl) (fun _ _ _ h => h) (Or.inl ⟨by kernel_rfl, fun X hX => Or.inl ?_⟩) (by assumption) ?_
  rotate_left
  · first | (go_simp; done) | (go_simp; with_reducible rfl)
  (try simp only [Act.put]); (try simp only [List.setIfInBounds_toArray]); (try simp only [List.set_cons_succ]); (try simp only [List.set_cons_zero])
  refine takeD (i := 11) (d := some 31) (v := ?_) rfl (by kernel_rfl) (by kernel_rfl) (by kernel_rfl) (by kernel_rfl) (fun _ _ _ h => h) (Or.inl ⟨by kernel_rfl, fun X hX => Or.inl ?_⟩) (by assumption) ?_
  rotate_left
  · first | (go_simp; done) | (go_simp; with_reducible rfl)
  (try simp only [Act.put]); (try simp only [List.setIfInBounds_toArray]); (try simp only [List.set_cons_succ]); (try simp only [List.set_cons_zero])
  refine takeD (i := 12) (d := some 32) (v := ?_) rfl (by kernel_rfl) (by kernel_rfl) (by kernel_rfl) (by kernel_rfl) (fun _ _ _ h => h) (Or.inl ⟨by kernel_rfl, fun X hX => Or.inl ?_⟩) (by assumption) ?_
  rotate_left
  · first | (go_simp; done) | (go_simp; with_reducible rfl)
  (try simp only [Act.put]); (try simp only [List.setIfInBounds_toArray]); (try simp only [List.set_cons_succ]); (try simp only [List.set_cons_zero])
  refine takeD (i := 13) (d := some 33) (v := ?_) rfl (by kernel_rfl) (by kernel_rfl) (by kernel_rfl) (by kernel_rfl) (fun _ _ _ h => h) (Or.inl ⟨by kernel_rfl, fun X hX => Or.inl ?_⟩) (by assumption) ?_
  rotate_left
  · first | (go_simp; done) | (go_simp; with_reducible rfl)
  (try simp only [Act.put]); (try simp only [List.setIfInBounds_toArray]); (try simp only [List.set_cons_succ]); (try simp only [List.set_cons_zero])
  refine takeD (i := 14) (d := some 34) (v := ?_) rfl (by kernel_rfl) (by kernel_rfl) (by kernel_rfl) (by kernel_rfl) (fun _ _ _ h => h) (Or.inl ⟨by kernel_rfl, fun X hX => Or.inl ?_⟩) (by assumption) ?_
  rotate_left
  · have c := hX.cell HLN.out CB1.out; first | (go_simp; done) | (go_simp; with_reducible rfl)
  (try simp only [Act.put]); (try simp only [List.setIfInBounds_toArray]); (try simp only [List.set_cons_succ]); (try simp only [List.set_cons_zero])
  refine wpAnyH_ready (rs := [10, 15]) (by kernel_rfl) (by simp) ?_
  refine (AllReadyH.cons rfl (fun K hK => ?_) (AllReadyH.cons rfl (fun K hK => ?_) AllReadyH.nil))
  · rw [if_pos (by kernel_rfl)]
    have c := (HP2.out.fr (Fr.refl No w2).drew id).cell (i := 6) (v := dv) rfl
    go_simp
    refine hK.out _ _ (hHeld) (fun hHeld => ?_)
    clear hK K
    (try simp only [Act.put]); (try simp only [List.setIfInBounds_toArray]); (try simp only [List.set_cons_succ]); (try simp only [List.set_cons_zero])
    refine wpAnyH_ready (rs := [15]) (by kernel_rfl) (by simp) ?_
    refine AllReadyH.cons rfl (fun K hK => ?_) AllReadyH.nil
    rw [if_pos (by kernel_rfl)]
    go_simp
    refine hK.out _ _ (hHeld.alloc _) (fun hHeld => ?_)
    clear hK K
    (try simp only [Act.put]); (try simp only [List.setIfInBounds_toArray]); (try simp only [List.set_cons_succ]); (try simp only [List.set_cons_zero])
    refine wpAnyH_ready (rs := [16]) (by kernel_rfl) (by simp) ?_
    refine AllReadyH.cons rfl (fun K hK => ?_) AllReadyH.nil
    rw [if_pos (by kernel_rfl)]
    have FA : Fr No w2 (((w2.alloc (.cells #[.int .i64 (i : Int)] 3)).drew)) := ((Fr.refl No w2).alloc _).drew
    have DA := owns_fr HD2.out FA (fun _ _ => id)
    obtain ⟨v', w4, ha, hO4, hF4, hloc⟩ := own_snocD DA (by have := HT.out; have := HF1.out.size; have := HF2.out.size; have := FA.size; omega) HL.out i ⟨w2.heap.size, 0, none⟩ ((Blk.new w2 3 [.int .i64 (i : Int)]).cell rfl) 1 35
    refine wp_append10 (.tmp 30) (.tmp 35) 35 rfl _ _ _ rfl rfl ha ?_
    obtain ⟨va, vc, rfl⟩ := own_slice hO4
    have HO4 := Lib.hid hO4
    have F4 : Hid (Fr (fun k => dv.ownBlock = some k) w2 w4) := Lib.hid ((FA.mono (fun _ _ e => e.elim)).trans hF4)
    have HLOC := Lib.hid hloc
    have HS2 : Hid (w2.heap.size ≤ (((w2.alloc (.cells #[.int .i64 (i : Int)] 3)).drew)).heap.size) := Lib.hid FA.size
    clear ha hO4 hF4 hloc DA FA
    refine hK.out _ _ (F4.out.mono (fun k _ e => .inl e)) (fun hHeld => ?_)
    clear hK K
    (try simp only [Act.put]); (try simp only [List.setIfInBounds_toArray]); (try simp only [List.set_cons_succ]); (try simp only [List.set_cons_zero])
    refine takeD (i := 17) (d := some 37) (v := ?_) rfl (by kernel_rfl) (by kernel_rfl) (by kernel_rfl) (by kernel_rfl) (fun _ _ _ h => h) (Or.inl ⟨by kernel_rfl, fun X hX => Or.inl ?_⟩) (by assumption) ?_
    rotate_left
    · first | (go_simp; done) | (go_simp; with_reducible rfl)
    (try simp only [Act.put]); (try simp only [List.setIfInBounds_toArray]); (try simp only [List.set_cons_succ]); (try simp only [List.set_cons_zero])
    refine takeD (i := 18) (d := some 38) (v := ?_) rfl (by kernel_rfl) (by kernel_rfl) (by kernel_rfl) (by kernel_rfl) (fun _ _ _ h => h) (Or.inl ⟨by kernel_rfl, fun X hX => Or.inl ?_⟩) (by assumption) ?_
    rotate_left
    · first | (go_simp; done) | (go_simp; with_reducible rfl)
    (try simp only [Act.put]); (try simp only [List.setIfInBounds_toArray]); (try simp only [List.set_cons_succ]); (try simp only [List.set_cons_zero])
    refine wpAnyH_ready (rs := [19]) (by kernel_rfl) (by simp) ?_
    refine AllReadyH.cons rfl (fun K hK => ?_) AllReadyH.nil
    rw [if_pos (by kernel_rfl)]
    have HP4 := Lib.hid (HP2.out.fr F4.out HBQ.out.2.2.2.2.2)
    have c := HP4.out.cell (i := 6) (v := dv) rfl
    have c2 := HP4.out.frozen 6
    go_simp
    clear c c2
    refine hK.out _ _ (hHeld.setCell (p := ⟨p, 6, none⟩) (.inl (.inr rfl)) _) (fun hHeld => ?_)
    clear hK K
    (try simp only [Act.put]); (try simp only [List.setIfInBounds_toArray]); (try simp only [List.set_cons_succ]); (try simp only [List.set_cons_zero])
    refine wpAnyH_done (by kernel_rfl) ?_ _
    have HH := Lib.hid hHeld
    clear hHeld
    go_wp2
    go_ret
    have FP : Fr (· = p) w4 (w4.setCell ⟨p, 6, none⟩ (.slice va (l.length + 1) vc)) := (Fr.refl (· = p) w4).setCell (p := ⟨p, 6, none⟩) (.inl rfl) _
    refine ⟨rfl, HFIN.out w1 _ _ _ HPU.out HTO.out HF1.out ((HF2.out.mono (fun k _ e => .inl e)).trans (HH.out.mono (fun k _ e => .inr e))) (HP4.out.set 6 _) ((HB2.out.fr F4.out HBQ.out.2.2.2.2.1).fr FP (fun e => HBQ.out.2.2.2.1 e.symm)) (owns_fr HO4.out FP (fun k hk e => ?_)) (HLOC.out.elim .inl (fun ⟨g, h1, h2⟩ => .inr ⟨g, h1, by have := HF2.out.size; have := HS2.out; omega⟩))⟩
    subst e
    rcases HLOC.out with h1 | ⟨g, h1, h2⟩
    · exact HBQ.out.2.2.2.2.2 (h1 ▸ hk)
    · rw [hk] at h1; injection h1 with h1; have := HP2.out.lt; have := HS2.out; omega
  · rw [if_pos (by kernel_rfl)]
    go_simp
    refine hK.out _ _ (hHeld.alloc _) (fun hHeld => ?_)
    clear hK K
    (try simp only [Act.put]); (try simp only [List.setIfInBounds_toArray]); (try simp only [List.set_cons_succ]); (try simp only [List.set_cons_zero])
    refine wpAnyH_ready (rs := [10]) (by kernel_rfl) (by simp) ?_
    refine AllReadyH.cons rfl (fun K hK => ?_) AllReadyH.nil
    rw [if_pos (by kernel_rfl)]
    have c := (HP2.out.fr ((Fr.refl No w2).alloc (.cells #[.int .i64 (i : Int)] 3)).drew id).cell (i := 6) (v := dv) rfl
    go_simp
    refine hK.out _ _ (hHeld) (fun hHeld => ?_)
    clear hK K
    (try simp only [Act.put]); (try simp only [List.setIfInBounds_toArray]); (try simp only [List.set_cons_succ]); (try simp only [List.set_cons_zero])
    refine wpAnyH_ready (rs := [16]) (by kernel_rfl) (by simp) ?_
    refine AllReadyH.cons rfl (fun K hK => ?_) AllReadyH.nil
    rw [if_pos (by kernel_rfl)]
    have FA : Fr No w2 (((w2.alloc (.cells #[.int .i64 (i : Int)] 3)).drew)) := ((Fr.refl No w2).alloc _).drew
    have DA := owns_fr HD2.out FA (fun _ _ => id)
    obtain ⟨v', w4, ha, hO4, hF4, hloc⟩ := own_snocD DA (by have := HT.out; have := HF1.out.size; have := HF2.out.size; have := FA.size; omega) HL.out i ⟨w2.heap.size, 0, none⟩ ((Blk.new w2 3 [.int .i64 (i : Int)]).cell rfl) 1 35
    refine wp_append10 (.tmp 30) (.tmp 35) 35 rfl _ _ _ rfl rfl ha ?_
    obtain ⟨va, vc, rfl⟩ := own_slice hO4
    have HO4 := Lib.hid hO4
    have F4 : Hid (Fr (fun k => dv.ownBlock = some k) w2 w4) := Lib.hid ((FA.mono (fun _ _ e => e.elim)).trans hF4)
    have HLOC := Lib.hid hloc
    have HS2 : Hid (w2.heap.size ≤ (((w2.alloc (.cells #[.int .i64 (i : Int)] 3)).drew)).heap.size) := Lib.hid FA.size
    clear ha hO4 hF4 hloc DA FA
    refine hK.out _ _ (F4.out.mono (fun k _ e => .inl e)) (fun hHeld => ?_)
    clear hK K
    (try simp only [Act.put]); (try simp only [List.setIfInBounds_toArray]); (try simp only [List.set_cons_succ]); (try simp only [List.set_cons_zero])
    refine takeD (i := 17) (d := some 37) (v := ?_) rfl (by kernel_rfl) (by kernel_rfl) (by kernel_rfl) (by kernel_rfl) (fun _ _ _ h => h) (Or.inl ⟨by kernel_rfl, fun X hX => Or.inl ?_⟩) (by assumption) ?_
    rotate_left
    · first | (go_simp; done) | (go_simp; with_reducible rfl)
    (try simp only [Act.put]); (try simp only [List.setIfInBounds_toArray]); (try simp only [List.set_cons_succ]); (try simp only [List.set_cons_zero])
    refine takeD (i := 18) (d := some 38) (v := ?_) rfl (by kernel_rfl) (by kernel_rfl) (by kernel_rfl) (by kernel_rfl) (fun _ _ _ h => h) (Or.inl ⟨by kernel_rfl, fun X hX => Or.inl ?_⟩) (by assumption) ?_
    rotate_left
    · first | (go_simp; done) | (go_simp; with_reducible rfl)
    (try simp only [Act.put]); (try simp only [List.setIfInBounds_toArray]); (try simp only [List.set_cons_succ]); (try simp only [List.set_cons_zero])
    refine wpAnyH_ready (rs := [19]) (by kernel_rfl) (by simp) ?_
    refine AllReadyH.cons rfl (fun K hK => ?_) AllReadyH.nil
    rw [if_pos (by kernel_rfl)]
    have HP4 := Lib.hid (HP2.out.fr F4.out HBQ.out.2.2.2.2.2)
    have c := HP4.out.cell (i := 6) (v := dv) rfl
    have c2 := HP4.out.frozen 6
    go_simp
    clear c c2
    refine hK.out _ _ (hHeld.setCell (p := ⟨p, 6, none⟩) (.inl (.inr rfl)) _) (fun hHeld => ?_)
    clear hK K
    (try simp only [Act.put]); (try simp only [List.setIfInBounds_toArray]); (try simp only [List.set_cons_succ]); (try simp only [List.set_cons_zero])
    refine wpAnyH_done (by kernel_rfl) ?_ _
    have HH := Lib.hid hHeld
    clear hHeld
    go_wp2
    go_ret
    have FP : Fr (· = p) w4 (w4.setCell ⟨p, 6, none⟩ (.slice va (l.length + 1) vc)) := (Fr.refl (· = p) w4).setCell (p := ⟨p, 6, none⟩) (.inl rfl) _
    refine ⟨rfl, HFIN.out w1 _ _ _ HPU.out HTO.out HF1.out ((HF2.out.mono (fun k _ e => .inl e)).trans (HH.out.mono (fun k _ e => .inr e))) (HP4.out.set 6 _) ((HB2.out.fr F4.out HBQ.out.2.2.2.2.1).fr FP (fun e => HBQ.out.2.2.2.1 e.symm)) (owns_fr HO4.out FP (fun k hk e => ?_)) (HLOC.out.elim .inl (fun ⟨g, h1, h2⟩ => .inr ⟨g, h1, by have := HF2.out.size; have := HS2.out; omega⟩))⟩
    subst e
    rcases HLOC.out with h1 | ⟨g, h1, h2⟩
    · exact HBQ.out.2.2.2.2.2 (h1 ▸ hk)
    · rw [hk] at h1; injection h1 with h1; have := HP2.out.lt; have := HS2.out; omega
end
end Go.Proofs.Ytldcglmpnildiaa

namespace Go.Proofs.Ytldcglmpnildiaa
open Go.RowKit
set_option linter.unusedVariables false
set_option maxRecDepth 100000

/-- Those below k that i held are free. -/
def freeTo (f : Nat → Int) (i : Int) (k : Nat) (j : Nat) : Int := if j < k ∧ f j = i then -1 else f j
theorem freeTo_next {f : Nat → Int} {i : Int} {k : Nat} (j : Nat) : freeTo f i (k + 1) j = if j = k ∧ f k = i then -1 else freeTo f i k j := by
  unfold freeTo
  by_cases h1 : j = k
  · subst h1
    by_cases h2 : f j = i
    · rw [if_pos ⟨by omega, h2⟩, if_pos ⟨rfl, h2⟩]
    · rw [if_neg (fun e => h2 e.2), if_neg (fun e => h2 e.2), if_neg (fun e => h2 e.2)]
  · by_cases h2 : j < k ∧ f j = i
    · rw [if_pos ⟨by omega, h2.2⟩, if_neg (fun e => h1 e.1), if_pos h2]
    · rw [if_neg (fun e => h2 ⟨by omega, e.2⟩), if_neg (fun e => h1 e.1), if_neg h2]
theorem cellsB_set {r : Nat} {q : Nat → Nat} {f g : Nat → Int} {tv dv : Value} {k : Nat} (hk : k < 4) (h : ∀ j, j < 4 → g j = if j = k then g k else f j) : (cellsB r q f tv dv).set (1 + k) (hp q (g k)) = cellsB r q g tv dv := by
  unfold cellsB
  have hc : k = 0 ∨ k = 1 ∨ k = 2 ∨ k = 3 := by omega
  rcases hc with rfl | rfl | rfl | rfl
  · rw [h 1 (by omega), h 2 (by omega), h 3 (by omega)]; rfl
  · rw [h 0 (by omega), h 2 (by omega), h 3 (by omega)]; rfl
  · rw [h 0 (by omega), h 1 (by omega), h 3 (by omega)]; rfl
  · rw [h 0 (by omega), h 1 (by omega), h 2 (by omega)]; rfl
theorem cellsB_at (r : Nat) (q : Nat → Nat) (f : Nat → Int) (tv dv : Value) {k : Nat} (hk : k < 4) : (cellsB r q f tv dv)[1 + k]? = some (hp q (f k)) := by
  have hc : k = 0 ∨ k = 1 ∨ k = 2 ∨ k = 3 := by omega
  rcases hc with rfl | rfl | rfl | rfl <;> rfl

theorem Try.infoTask : (Try.prog.info? 86).map (·.size) = some 7 := by kernel_rfl
theorem eq_same10 (a : Nat) (w : World) : (binOp .eql 69 (.pointer (some ⟨a, 0, none⟩)) (.pointer (some ⟨a, 0, none⟩))).run Try.prog w = .ok (.bool true) w := by
  obtain ⟨j, hj, _⟩ := Option.map_eq_some_iff.1 Try.infoTask
  exact run_eql_ptr_same w _ Try.underlying69 hj
theorem eq_other10 {a b : Nat} {w : World} {ta tb : TypeId} {ca cb : List Value} (h : a ≠ b) (ha : Blk w a ta ca) (hb : Blk w b tb cb) : (binOp .eql 69 (.pointer (some ⟨a, 0, none⟩)) (.pointer (some ⟨b, 0, none⟩))).run Try.prog w = .ok (.bool false) w := by
  obtain ⟨j, hj, hs⟩ := Option.map_eq_some_iff.1 Try.infoTask
  exact run_eql_ptr_other w Try.underlying69 hj (by rw [hs]; decide) (fun e => h (by injection e)) ha hb
theorem eq_nil10 (b : Nat) (w : World) : (binOp .eql 69 (.pointer none) (.pointer (some ⟨b, 0, none⟩))).run Try.prog w = .ok (.bool false) w := by
  have h : ∀ d : Nat, (Op.equalIn (d + 1) 69 (.pointer none) (.pointer (some ⟨b, 0, none⟩))).run Try.prog w = .ok false w := fun d => by
    simp [Op.equalIn, run_underlying Try.underlying69]
  simp only [binOp]
  simp [Op.equal, Op.maxDepth, h 9999]
set_option maxHeartbeats 4000000 in
theorem end_any {r p qi : Nat} {q : Nat → Nat} {f : Nat → Int} {tv dv : Value} {i : Nat} {w : World} (hb : Blk w p 75 (cellsB r q f tv dv)) (c0 : w.cell? ⟨qi, 0, none⟩ = some (.pointer (some ⟨p, 0, none⟩))) (hpq : p ≠ qi)
    (hqi : ∃ cs, Blk w qi 86 cs) (hq : ∀ k, k < 4 → 0 ≤ f k → (q (f k).toNat = qi ↔ f k = (i : Int)) ∧ q (f k).toNat ≠ p ∧ ∃ cs, Blk w (q (f k).toNat) 86 cs) :
    Calls Try.prog 42 #[.pointer (some ⟨qi, 0, none⟩)] w fun e w' => e = .returned (.int .i64 0) ∧ Blk w' p 75 (cellsB r q (freeTo f i 4) tv dv) ∧ Fr (· = p) w w' := by
  have HB := Lib.hid hb
  have HC := Lib.hid c0
  have HQ := Lib.hid hq
  have HQI := Lib.hid hqi
  have HN : Hid (qi ≠ p) := Lib.hid (fun e => hpq e.symm)
  clear hb c0 hq hpq hqi
  go_enter Try.func42, Try.ntmps42
  go_wp2_with fail
  go_loopw [3, 4] (fun x c wr => ∃ k : Nat, k ≤ 4 ∧ c = .int .i64 k ∧ Hid (Blk wr p 75 (cellsB r q (freeTo f i k) tv dv)) ∧ Hid (Fr (· = p) w wr)) (fun _ c _ => 4 - (intOf c).toNat)
  case atStart => exact ⟨0, by omega, rfl, Lib.hid (by have e : freeTo f i 0 = f := by { funext j; unfold freeTo; rw [if_neg (by omega)] }; rw [e]; exact HB.out), Lib.hid (Fr.refl _ _)⟩
  case round =>
    obtain ⟨k, hk, rfl, HBk, HF⟩ := hrel
    by_cases hlt : k < 4
    · have t1 : k < 4 := hlt
      have c1 := HF.out.cell HN.out HC.out
      have ck := HBk.out.cell (cellsB_at r q (freeTo f i k) tv dv hlt)
      have fk := HBk.out.frozen (1 + k)
      have e0 : freeTo f i k k = f k := by unfold freeTo; rw [if_neg (by omega)]
      rw [e0] at ck
      obtain ⟨k1, hk1⟩ : ∃ x, x = k + 1 := ⟨_, rfl⟩
      have HK1 : Hid (k1 = k + 1 ∧ k1 ≤ 4) := Lib.hid ⟨hk1, by omega⟩
      have s1 : (k : Int) + 1 = (k1 : Int) := by omega
      have l1 : IntKind.i64.wrap (k1 : Int) = (k1 : Int) := IntWalk.i64_in _ (by omega)
      have HSAME : Hid (f k ≠ (i : Int) → freeTo f i k1 = freeTo f i k) := Lib.hid (fun hne => by
        funext j
        rw [hk1, freeTo_next, if_neg (fun e => hne e.2)])
      have HLT := Lib.hid hlt
      obtain ⟨o, ho⟩ : ∃ o, o = 1 + k := ⟨_, rfl⟩
      by_cases h0 : 0 ≤ f k
      · rw [hp, if_pos h0] at ck
        simp only [at_] at ck
        by_cases hi : f k = (i : Int)
        · have e1 := (HQ.out k hlt h0).1.2 hi
          rw [e1] at ck
          have HNEW : Hid (Blk (wr.setCell ⟨p, 1 + k, none⟩ (.pointer none)) p 75 (cellsB r q (freeTo f i k1) tv dv)) := Lib.hid (by
            have e2 : freeTo f i k1 k = -1 := by rw [hk1, freeTo_next, if_pos ⟨rfl, hi⟩]
            have h3 := HBk.out.set (1 + k) (hp q (freeTo f i k1 k))
            rw [cellsB_set hlt (fun j hj => by
              rw [hk1, freeTo_next j, freeTo_next k, if_pos (c := k = k ∧ f k = (i : Int)) ⟨rfl, hi⟩]
              by_cases hjk : j = k
              · rw [if_pos ⟨hjk, hi⟩, if_pos hjk]
              · rw [if_neg (fun e => hjk e.1), if_neg hjk])] at h3
            rw [e2] at h3
            exact h3)
          have HF2 : Hid (Fr (· = p) w (wr.setCell ⟨p, 1 + k, none⟩ (.pointer none))) := Lib.hid (HF.out.setCell (p := ⟨p, 1 + k, none⟩) (.inl rfl) _)
          have e9 := eq_same10 qi wr
          clear hlt hk hk1 e0 h0 hi e1 ho
          go_wp2
          exact ⟨⟨k1, HK1.out.2, rfl, HNEW, HF2⟩, by have := HK1.out; simp [intOf]; omega⟩
        · have hne : ¬ q (f k).toNat = qi := fun e => hi ((HQ.out k hlt h0).1.1 e)
          have e9 : (binOp .eql 69 (.pointer (some ⟨q (f k).toNat, 0, none⟩)) (.pointer (some ⟨qi, 0, none⟩))).run Try.prog wr = .ok (.bool false) wr := by
            obtain ⟨_, h2, cs, h3⟩ := HQ.out k hlt h0
            obtain ⟨ds, h4⟩ := HQI.out
            exact eq_other10 hne (h3.fr HF.out h2) (h4.fr HF.out HN.out)
          obtain ⟨a, ha⟩ : ∃ a, a = q (f k).toNat := ⟨_, rfl⟩
          rw [← ha] at ck hne e9
          have HNEW : Hid (Blk wr p 75 (cellsB r q (freeTo f i k1) tv dv)) := Lib.hid (by rw [HSAME.out hi]; exact HBk.out)
          clear hlt hk hk1 e0 h0 hi ho ha
          go_wp2
          exact ⟨⟨k1, HK1.out.2, rfl, HNEW, HF⟩, by have := HK1.out; simp [intOf]; omega⟩
      · rw [hp, if_neg h0] at ck
        have HNEW : Hid (Blk wr p 75 (cellsB r q (freeTo f i k1) tv dv)) := Lib.hid (by rw [HSAME.out (by omega)]; exact HBk.out)
        have e9 := eq_nil10 qi wr
        clear hlt hk hk1 e0 h0 ho
        go_wp2
        exact ⟨⟨k1, HK1.out.2, rfl, HNEW, HF⟩, by have := HK1.out; simp [intOf]; omega⟩
    · have t1 : ¬ k < 4 := hlt
      obtain rfl : k = 4 := by omega
      clear hlt hk
      go_wp2
      go_ret
      exact ⟨rfl, HBk.out, HF.out⟩
end Go.Proofs.Ytldcglmpnildiaa
