/- A bank as the laws see it: shown, and played. -/
import Derived.Test.YtpmmfbbppnbhbaaSdB
import Derived.Test.YtpmmfbbppnbhbaaOpnB
import Derived.Test.YtpmmfbbppnbhbaaPuP
namespace Go.Proofs.Ytpmmfbbppnbhbaa
open Go.RowKit
set_option linter.unusedVariables false
set_option maxRecDepth 100000

theorem Acts.no {w w' : World} {ao : Option Addr} {n : Nat} {xs : Nat → A9} (h : Acts w ao n xs) (f : Fr No w w') : Acts w' ao n xs := fun i hi => by
  obtain ⟨a, h1, h2, h3⟩ := h i hi
  exact ⟨a, h1, h2, h3.no f⟩
/-- A bank behind a call, seen from the law's start. -/
structure Kp (w0 : World) (O : Nat → Prop) (p : Nat) (s : Bs) (w : World) : Prop where
  bk : Bk O p s w
  new : ∀ k, O k → w0.heap.size ≤ k
  fr : Fr No w0 w
section
variable {w0 w w' : World} {O : Nat → Prop} {p : Nat} {s s' : Bs}
theorem Kp.up {v : World} (h : Kp w0 O p s w) (f : Fr No v w0) : Kp v O p s w := ⟨h.bk, fun k hk => by have := h.new k hk; have := f.size; omega, f.trans h.fr⟩
theorem Kp.no (h : Kp w0 O p s w) (f : Fr No w w') : Kp w0 O p s w' := ⟨h.bk.fr f (fun _ _ => id), h.new, h.fr.trans f⟩
/-- What the law laid, and does not belong to the bank, may turn. -/
theorem Kp.own (h : Kp w0 O p s w) {S : Nat → Prop} (f : Fr S w w') (hS : ∀ k, O k → ¬ S k) (h0 : ∀ k, S k → w0.heap.size ≤ k) : Kp w0 O p s w' :=
  ⟨h.bk.fr f hS, h.new, h.fr.trans' f (fun i hi e => by have := h0 i e; omega)⟩
theorem Kp.to (h : Kp w0 O p s w) (k : BkTo O p s' w w') : ∃ O' : Nat → Prop, Kp w0 O' p s' w' ∧ (∀ j, O' j → O j ∨ w.heap.size ≤ j) ∧ Fr O w w' := by
  obtain ⟨O', h1, h2, h3⟩ := k
  refine ⟨O', ⟨h1, fun j hj => ?_, h.fr.trans' h3 (fun i hi e => by have := h.new i e; omega)⟩, h2, h3⟩
  rcases h2 j hj with e | e
  · exact h.new j e
  · have := h.fr.size; omega
end

set_option maxHeartbeats 2000000 in
theorem shown10_any (w : World) : Calls Try.prog 10 #[] w fun e w' => e = .returned (.bool true) ∧ Fr No w w' := by
  obtain ⟨w0, hw0⟩ : ∃ X, X = w.alloc (.cells #[.int .u64 ((5 : Nat) : Int), .int .u64 ((0 : Nat) : Int)] 27) := ⟨_, rfl⟩
  have HF0 : Hid (Fr No w w0) := Lib.hid (by rw [hw0]; exact (Fr.refl _ _).alloc _)
  have HN := Lib.hid (sd_new (some ⟨w.heap.size, 0, none⟩) 2 2 [5, 0] w0 rfl (by unfold maxLen; omega) (by rw [hw0]; exact nums_two w 5 0 (by omega) (by omega)) true (by decide))
  have hw0' : w.alloc (.cells #[.int .u64 5, .int .u64 0] 27) = w0 := hw0.symm
  clear hw0
  go_enter Try.func10, Try.ntmps10
  go_wp2_with fail
  refine HN.out.mono ?_
  rintro e w1 ⟨hF1, p, O, rfl, hO, hB⟩
  have HK1 : Hid (Kp w O p (Bs.newB [5, 0]) w1) := Lib.hid ⟨hB, fun k hk => by have := hO k hk; have := HF0.out.size; omega, HF0.out.trans hF1⟩
  obtain ⟨s0, hs0⟩ : ∃ s, s = Bs.newB [5, 0] := ⟨_, rfl⟩
  obtain ⟨s1, hs1⟩ : ∃ s, s = s0.startS 0 1 3 := ⟨_, rfl⟩
  obtain ⟨s2, hs2⟩ : ∃ s, s = s1.startS 0 1 1 := ⟨_, rfl⟩
  obtain ⟨s3, hs3⟩ : ∃ s, s = s2.stepS 0 := ⟨_, rfl⟩
  obtain ⟨s4, hs4⟩ : ∃ s, s = s3.stepS 1 := ⟨_, rfl⟩
  have H1 := Lib.hid (fun O X (hX : Bk O p s0 X) => sd_start hX 0 1 3)
  rw [show s0.startI 0 1 = 0 by rw [hs0]; decide, show s0.startE 0 1 = 0 by rw [hs0]; decide, ← hs1] at H1
  have H2 := Lib.hid (fun O X (hX : Bk O p s1 X) => sd_start hX 0 1 1)
  rw [show s1.startI 0 1 = 1 by rw [hs1, hs0]; decide, show s1.startE 0 1 = 0 by rw [hs1, hs0]; decide, ← hs2] at H2
  have H3 := Lib.hid (fun O X (hX : Bk O p s2 X) => sd_step hX 0 (by decide))
  rw [show s2.stepE 0 = 0 by rw [hs2, hs1, hs0]; decide, ← hs3] at H3
  have H4 := Lib.hid (fun O X (hX : Bk O p s3 X) => sd_step hX 1 (by decide))
  rw [show s3.stepE 1 = 100 by rw [hs3, hs2, hs1, hs0]; decide, ← hs4] at H4
  have H5 := Lib.hid (fun O X (hX : Bk O p s4 X) => sd_holder hX 0 (by decide))
  rw [show s4.holdV 0 = 0 by rw [hs4, hs3, hs2, hs1, hs0]; decide] at H5
  have H6 := Lib.hid (fun O X (hX : Bk O p s4 X) => sd_holder hX 1 (by decide))
  rw [show s4.holdV 1 = -1 by rw [hs4, hs3, hs2, hs1, hs0]; decide] at H6
  rw [← hs0] at HK1
  clear hs0 hs1 hs2 hs3 hs4 hF1 hO hB HN HF0
  go_wp2_with fail
  refine (H1.out _ _ HK1.out.bk).mono ?_
  rintro e w2 ⟨rfl, hT⟩
  obtain ⟨O2, hK, _⟩ := HK1.out.to hT
  have HK2 := Lib.hid hK
  clear hT hK
  go_wp2_with fail
  refine (H2.out _ _ HK2.out.bk).mono ?_
  rintro e w3 ⟨rfl, hT⟩
  obtain ⟨O3, hK, _⟩ := HK2.out.to hT
  have HK3 := Lib.hid hK
  clear hT hK
  go_wp2_with fail
  refine (H3.out _ _ HK3.out.bk).mono ?_
  rintro e w4 ⟨rfl, hT⟩
  obtain ⟨O4, hK, _⟩ := HK3.out.to hT
  have HK4 := Lib.hid hK
  clear hT hK
  go_wp2_with fail
  refine (H4.out _ _ HK4.out.bk).mono ?_
  rintro e w5 ⟨rfl, hT⟩
  obtain ⟨O5, hK, _⟩ := HK4.out.to hT
  have HK5 := Lib.hid hK
  clear hT hK
  go_wp2_with fail
  refine (H5.out _ _ HK5.out.bk).mono ?_
  rintro e w6 ⟨rfl, hF⟩
  have HK6 := Lib.hid (HK5.out.no hF)
  clear hF
  go_wp2_with fail
  refine (H6.out _ _ HK6.out.bk).mono ?_
  rintro e w7 ⟨rfl, hF⟩
  have HK7 := Lib.hid (HK6.out.no hF)
  clear hF
  go_wp2
  go_ret
  exact ⟨rfl, HK7.out.fr⟩

/-- The amounts of the tasks are numbers of 64 bits. -/
def Bs.Small (s : Bs) : Prop := ∀ i, (s.tk i).n < 18446744073709551616
theorem Bs.Small.of {s s' : Bs} (h : s.Small) (e : ∀ i, (s'.tk i).n = (s.tk i).n ∨ (s'.tk i).n < 18446744073709551616) : s'.Small := fun i => by
  rcases e i with h1 | h1
  · rw [h1]; exact h i
  · exact h1
theorem Bs.Small.start {s : Bs} (h : s.Small) (a b : Int) {n : Nat} (hn : n < 18446744073709551616) : (s.startS a b n).Small := by
  unfold Bs.startS
  split
  · refine h.of fun i => ?_
    rw [Bs.tk_add]
    split
    · exact .inr hn
    · exact .inl rfl
  · exact h
theorem Bs.Small.lists {s : Bs} (h : s.Small) : s.listS.Small := by
  unfold Bs.listS
  split
  · refine h.of fun i => ?_
    rw [Bs.tk_add]
    split
    · exact .inr (by decide)
    · exact .inl rfl
  · exact h
theorem Bs.Small.step {s : Bs} (h : s.Small) (a : Int) : (s.stepS a).Small := by
  refine h.of fun i => .inl ?_
  have e := congrArg (fun l : List St => (l.getD i ⟨0, 0, 0, false⟩).n) (Bs.sts_step (s := s) a)
  have g : ∀ u : Bs, (u.sts.getD i ⟨0, 0, 0, false⟩).n = (u.tk i).n := fun u => by
    unfold Bs.sts Bs.tk
    rw [List.getD_eq_getElem?_getD, List.getD_eq_getElem?_getD, List.getElem?_map]
    cases u.t[i]? <;> rfl
  simp only [g] at e
  exact e
/-- What played hands back. -/
def Played (b : List Nat) (w : World) (e : Ending) (w' : World) : Prop :=
  if Ps.newOk b then ∃ p O s tv, e = .returned (.tuple #[.pointer (some ⟨p, 0, none⟩), tv]) ∧ Kp w O p s w' ∧ Bs.Hist (Ps.newS b) s ∧ Tks w.heap.size tv s.sts w' ∧ (∀ k, tv.ownBlock = some k → ¬ O k) ∧ s.Small
  else e = .returned (.tuple #[.pointer none, .slice none 0 0]) ∧ Fr No w w'

set_option maxHeartbeats 16000000 in
theorem played_ok (ao bo : Option Addr) (n cap m cap2 : Nat) (b : List Nat) (xs : Nat → A9) (w : World) (hb : n = b.length) (hn : n ≤ 40) (hm : m ≤ 200) (hx : Nums w ao n (fun i => b.getD i 0)) (ha : Acts w bo m xs) (hy : true = Ps.newOk b) :
    Calls Try.prog 26 #[.slice ao n cap, .slice bo m cap2] w fun e w' => Played b w e w' := by
  obtain ⟨i0, hi, hz0, hz1, hz2⟩ := info_parts Try.infoAct10
  have HNEW := Lib.hid (sd_new ao n cap b w hb (by unfold maxLen; omega) hx true hy)
  have HFIN : Hid (∀ p O s tv w', Kp w O p s w' → Bs.Hist (Ps.newS b) s → Tks w.heap.size tv s.sts w' → (∀ k, tv.ownBlock = some k → ¬ O k) → s.Small → Played b w (.returned (.tuple #[.pointer (some ⟨p, 0, none⟩), tv])) w') := Lib.hid (fun p O s tv w' h1 h2 h3 h4 h5 => by
    unfold Played
    rw [← hy, if_pos rfl]
    exact ⟨p, O, s, tv, rfl, h1, h2, h3, h4, h5⟩)
  have HA := Lib.hid ha
  have HM := Lib.hid hm
  clear hb hn hm hx ha
  go_enter Try.func26, Try.ntmps26
  go_wp2_with fail
  refine HNEW.out.mono ?_
  rintro e w1 ⟨hF1, p, O, rfl, hO, hB⟩
  have HK1 : Hid (Kp w O p (Bs.newB b) w1) := Lib.hid ⟨hB, hO, hF1⟩
  have HI1 := Lib.hid (Bs.Hist.new b)
  clear hF1 hO hB HNEW hy
  go_wp2_with fail
  have HK2 := Lib.hid (HK1.out.no ((Fr.refl No w1).alloc (.cells #[] 41)))
  have HT2 : Hid (Tks w.heap.size (.slice (some ⟨w1.heap.size, 0, none⟩) 0 0) [] (w1.alloc (.cells #[] 41))) := Lib.hid (World.ownsRow_made w1 #[] 0 HK1.out.fr.size (Nat.zero_le _) rfl)
  have HD2 : Hid (∀ k, (Value.slice (some ⟨w1.heap.size, 0, none⟩) 0 0).ownBlock = some k → ¬ O k) := Lib.hid (fun k hk e => by
    have := HK1.out.bk.lt k e
    simp only [Value.ownBlock, Option.some.injEq] at hk
    omega)
  go_loopw [7, 8] (fun tv c wr => ∃ (i : Nat) (s : Bs) (O : Nat → Prop), i ≤ m ∧ c = .int .i64 i ∧ Kp w O p s wr ∧ Bs.Hist (Ps.newS b) s ∧ Tks w.heap.size tv s.sts wr ∧ (∀ k, tv.ownBlock = some k → ¬ O k) ∧ s.Small) (fun _ c _ => m - (intOf c).toNat)
  case atStart => exact ⟨0, Bs.newB b, O, by omega, rfl, HK2.out, HI1.out, HT2.out, HD2.out, fun i => by show (([] : List Tk).getD i Tk.zero).n < _; simp [Tk.zero]⟩
  clear HK2 HT2 HD2 HI1 HK1
  case round =>
    obtain ⟨i, s, O, hi, rfl, hK, hI, hT, hD, hSm⟩ := hrel
    have HSM := Lib.hid hSm
    clear hSm
    have HK := Lib.hid hK
    have HI := Lib.hid hI
    have HT := Lib.hid hT
    have HD := Lib.hid hD
    obtain ⟨ta, tc, htv, _⟩ := hT.slice
    clear hK hI hT hD
    by_cases hlt : i < m
    · have t3 : (i : Int) < (m : Int) := by omega
      obtain ⟨a, hbo, hok, hat⟩ := HA.out i hlt
      obtain ⟨q, hq⟩ : ∃ q, a.add (i * 4) = q := ⟨_, rfl⟩
      rw [hq] at hat
      obtain ⟨⟨k, xa, xb, xn⟩, hx⟩ : ∃ x, x = xs i := ⟨_, rfl⟩
      rw [← hx] at hok hat
      have hat2 := hat.no HK.out.fr
      have c0 := hat2.c0
      have c1 := hat2.c1
      have c2 := hat2.c2
      have c3 := hat2.c3
      simp only at c0 c1 c2 c3
      have HWA : Hid ((Lit.int .i64 xa).wf = true) := Lib.hid hok.a
      have HWN : Hid (xn < 18446744073709551616) := Lib.hid hok.n
      obtain ⟨k1, hk1⟩ : ∃ k, k = i + 1 := ⟨_, rfl⟩
      have HK1 : Hid (k1 = i + 1 ∧ k1 ≤ m) := Lib.hid ⟨hk1, by omega⟩
      have s1 : (i : Int) + 1 = (k1 : Int) := by omega
      have l1 : IntKind.i64.wrap (k1 : Int) = (k1 : Int) := IntWalk.i64_in _ (by have := HM.out; omega)
      have hsl : i * 4 < 9223372036854775807 := by have := HM.out; omega
      have HL32 : Hid (s.sts.length ≤ 32) := Lib.hid (by rw [Bs.sts_len]; exact HK.out.bk.inv.len)
      obtain ⟨xq, hxq⟩ : ∃ z, z = wr.heap.size := ⟨_, rfl⟩
      rw [hbo]
      have HKa := Lib.hid (HK.out.no ((Fr.refl No wr).alloc (.cells #[.int .i64 k, .int .i64 xa, .int .i64 xb, .int .u64 (xn : Int)] 41)))
      have HTa := Lib.hid (HT.out.no ((Fr.refl No wr).alloc (.cells #[.int .i64 k, .int .i64 xa, .int .i64 xb, .int .u64 (xn : Int)] 41)))
      have HXB := Lib.hid (Blk.new wr 41 [.int .i64 k, .int .i64 xa, .int .i64 xb, .int .u64 (xn : Int)])
      have HXQ := Lib.hid hxq
      have HXO : Hid (¬ O xq) := Lib.hid (fun e => by have := HK.out.bk.lt xq e; omega)
      subst htv
      clear hlt hi hok hat hat2 hx hk1 hbo hxq
      by_cases hk0 : k = 0
      · have j0 : (k == 0) = true := by rw [hk0]; rfl
        have H1 := Lib.hid (fun X (hX : Bk O p s X) => sd_start hX xa xb xn)
        obtain ⟨I, hI⟩ : ∃ I, I = s.startI xa xb := ⟨_, rfl⟩
        obtain ⟨E, hE⟩ : ∃ E, E = s.startE xa xb := ⟨_, rfl⟩
        obtain ⟨s', hs'⟩ : ∃ t, t = s.startS xa xb xn := ⟨_, rfl⟩
        rw [← hI, ← hE, ← hs'] at H1
        have HSM' : Hid s'.Small := Lib.hid (by rw [hs']; exact HSM.out.start _ _ HWN.out)
        have HH' : Hid (Bs.Hist (Ps.newS b) s') := Lib.hid (by rw [hs']; exact HI.out.start HK.out.bk.inv _ _ _)
        have HS' : Hid (s'.sts = if E = 0 then s.sts ++ [⟨xa.toNat, xb.toNat, xn, false⟩] else s.sts) := Lib.hid (by rw [hs', hE]; exact Bs.sts_start _ _ _)
        have HAB : Hid (E = 0 → xa = (xa.toNat : Int) ∧ xb = (xb.toNat : Int)) := Lib.hid (fun e => by
          rw [hE] at e
          obtain ⟨h1, h2, _⟩ := Bs.startE_zero.1 e
          obtain ⟨y, rfl, _⟩ := Ps.has_nat h1
          obtain ⟨z, rfl, _⟩ := Ps.has_nat h2
          simp)
        have HK0 : Hid (k = 0) := Lib.hid hk0
        clear hI hE hs' hk0
        go_wp2_with fail
        refine (H1.out _ HKa.out.bk).mono ?_
        rintro e y1 ⟨rfl, hTo⟩
        obtain ⟨O', hK, hO', hF⟩ := HKa.out.to hTo
        have HK1' := Lib.hid hK
        have HT1 := Lib.hid (HTa.out.fr hF (fun k hk => HD.out k hk))
        have HD1 : Hid (∀ k, (Value.slice ta s.sts.length tc).ownBlock = some k → ¬ O' k) := Lib.hid (fun k hk e => by
          rcases hO' k e with h | h
          · exact HD.out k hk h
          · have := (HTa.out.lt k hk).2; omega)
        have hb1 := (HXB.out.fr hF (by rw [← HXQ.out]; exact HXO.out))
        rw [← HXQ.out] at hb1
        clear hTo hK hO' hF
        have d0 := hb1.cell (i := 0) (v := .int .i64 k) rfl
        have d1 := hb1.cell (i := 1) (v := .int .i64 xa) rfl
        have d2 := hb1.cell (i := 2) (v := .int .i64 xb) rfl
        have d3 := hb1.cell (i := 3) (v := .int .u64 (xn : Int)) rfl
        rw [← HXQ.out]
        clear hb1
        by_cases hE0 : E = 0
        · have je : (E == 0) = true := by rw [hE0]; rfl
          have HS2 : Hid (s'.sts = s.sts ++ [⟨xa.toNat, xb.toNat, xn, false⟩]) := Lib.hid (by rw [HS'.out, if_pos hE0])
          have HC : Hid ((⟨xa.toNat, xb.toNat, xn, false⟩ : St).cells = [.int .i64 k, .int .i64 xa, .int .i64 xb, .int .u64 (xn : Int)]) := Lib.hid (by
            have h := HAB.out hE0
            unfold St.cells
            rw [← h.1, ← h.2, HK0.out]
            rfl)
          clear hE0
          have HTb := Lib.hid (HT1.out.no ((Fr.refl No y1).alloc (.cells #[.int .i64 k, .int .i64 xa, .int .i64 xb, .int .u64 (xn : Int)] 41)))
          have HKb := Lib.hid (HK1'.out.no ((Fr.refl No y1).alloc (.cells #[.int .i64 k, .int .i64 xa, .int .i64 xb, .int .u64 (xn : Int)] 41)))
          go_wp2_with (at_builtin; refine wpList_append_own_at _ rfl _ _ 23 rfl w.heap.size 41 i0 (.agg #[.int .i64 0, .int .i64 0, .int .i64 0, .int .u64 0]) 4 32 Try.underlying23 hi hz0 hz1 hz2 rfl (by decide) _ _ _ rfl HTb.out ⟨y1.heap.size, 0, none⟩ 1 1 [.int .i64 k, .int .i64 xa, .int .i64 xb, .int .u64 (xn : Int)] rfl rfl ?c1 ?c2 ?c3 ?c4 ?c5 ?c6)
          case c1 => exact fun j u hu => by rw [Addr.add_lit, Nat.zero_add]; exact (Blk.new y1 41 [.int .i64 k, .int .i64 xa, .int .i64 xb, .int .u64 (xn : Int)]).cell hu
          case c2 => intro u hu; simp at hu; rcases hu with rfl | rfl | rfl | rfl <;> rfl
          case c3 => have := HL32.out; unfold maxLen; omega
          case c4 => have := HL32.out; omega
          case c5 => have := HKb.out.fr.size; omega
          case c6 =>
            intro v2 w2 hown hgrow _ hloc
            have HT2 : Hid (Tks w.heap.size v2 s'.sts w2) := Lib.hid (by
              unfold Tks
              rw [HS2.out, cellsS_app, List.length_append, List.length_singleton]
              rw [HC.out]
              exact hown)
            have hF2 : Fr (fun k => (Value.slice ta s.sts.length tc).ownBlock = some k) (y1.alloc (.cells #[.int .i64 k, .int .i64 xa, .int .i64 xb, .int .u64 (xn : Int)] 41)) w2 := Fr.of_grown hgrow (fun k e => e)
            have HK2 := Lib.hid (HKb.out.own hF2 (fun k hk e => HD1.out k e hk) (fun k e => (HTb.out.lt k e).1))
            have HD2 : Hid (∀ k, v2.ownBlock = some k → ¬ O' k) := Lib.hid (fun k hk e => by
              rcases hloc with h | h
              · exact HD1.out k (by rw [← h]; exact hk) e
              · have h9 := Option.some.inj (h.symm.trans hk)
                have h8 := HKb.out.bk.lt k e
                rw [World.size_alloc] at h8; omega)
            obtain ⟨va, vn, vc, rfl⟩ := slice_form10 hown
            clear hown hgrow hloc hF2
            go_wp2
            exact ⟨⟨k1, s', O', HK1.out.2, rfl, HK2.out, HH'.out, HT2.out, HD2.out, HSM'.out⟩, by have := HK1.out; simp [intOf]; omega⟩
        · have je : (E == 0) = false := by rw [beq_eq_false_iff_ne]; exact hE0
          have HT2 : Hid (Tks w.heap.size (.slice ta s.sts.length tc) s'.sts y1) := Lib.hid (by rw [HS'.out, if_neg hE0]; exact HT1.out)
          clear hE0
          go_wp2
          exact ⟨⟨k1, s', O', HK1.out.2, rfl, HK1'.out, HH'.out, HT2.out, HD1.out, HSM'.out⟩, by have := HK1.out; simp [intOf]; omega⟩
      · have j0 : (k == 0) = false := by rw [beq_eq_false_iff_ne]; exact hk0
        by_cases hk1 : k = 1
        · have j1 : (k == 1) = true := by rw [hk1]; rfl
          have H1 := Lib.hid (fun X (hX : Bk O p s X) => sd_list hX)
          obtain ⟨I, hI⟩ : ∃ I, I = s.listI := ⟨_, rfl⟩
          obtain ⟨E, hE⟩ : ∃ E, E = s.listE := ⟨_, rfl⟩
          obtain ⟨s', hs'⟩ : ∃ t, t = s.listS := ⟨_, rfl⟩
          rw [← hI, ← hE, ← hs'] at H1
          have HSM' : Hid s'.Small := Lib.hid (by rw [hs']; exact HSM.out.lists)
          have HH' : Hid (Bs.Hist (Ps.newS b) s') := Lib.hid (by rw [hs']; exact HI.out.lists HK.out.bk.inv)
          have HS' : Hid (s'.sts = if E = 0 then s.sts ++ [⟨0, 0, 0, true⟩] else s.sts) := Lib.hid (by rw [hs', hE]; exact Bs.sts_list)
          clear hI hE hs' hk0 hk1
          go_wp2_with fail
          refine (H1.out _ HKa.out.bk).mono ?_
          rintro e y1 ⟨rfl, hTo⟩
          obtain ⟨O', hK, hO', hF⟩ := HKa.out.to hTo
          have HK1' := Lib.hid hK
          have HT1 := Lib.hid (HTa.out.fr hF (fun k hk => HD.out k hk))
          have HD1 : Hid (∀ k, (Value.slice ta s.sts.length tc).ownBlock = some k → ¬ O' k) := Lib.hid (fun k hk e => by
            rcases hO' k e with h | h
            · exact HD.out k hk h
            · have := (HTa.out.lt k hk).2; omega)
          clear hTo hK hO' hF
          by_cases hE0 : E = 0
          · have je : (E == 0) = true := by rw [hE0]; rfl
            have HS2 : Hid (s'.sts = s.sts ++ [⟨0, 0, 0, true⟩]) := Lib.hid (by rw [HS'.out, if_pos hE0])
            clear hE0
            have HTb := Lib.hid (HT1.out.no ((Fr.refl No y1).alloc (.cells #[.int .i64 0, .int .i64 (-1), .int .i64 0, .int .u64 0] 41)))
            have HKb := Lib.hid (HK1'.out.no ((Fr.refl No y1).alloc (.cells #[.int .i64 0, .int .i64 (-1), .int .i64 0, .int .u64 0] 41)))
            go_wp2_with (at_builtin; refine wpList_append_own_at _ rfl _ _ 23 rfl w.heap.size 41 i0 (.agg #[.int .i64 0, .int .i64 0, .int .i64 0, .int .u64 0]) 4 32 Try.underlying23 hi hz0 hz1 hz2 rfl (by decide) _ _ _ rfl HTb.out ⟨y1.heap.size, 0, none⟩ 1 1 [.int .i64 0, .int .i64 (-1), .int .i64 0, .int .u64 0] rfl rfl ?c1 ?c2 ?c3 ?c4 ?c5 ?c6)
            case c1 => exact fun j u hu => by rw [Addr.add_lit, Nat.zero_add]; exact (Blk.new y1 41 [.int .i64 0, .int .i64 (-1), .int .i64 0, .int .u64 0]).cell hu
            case c2 => intro u hu; simp at hu; rcases hu with rfl | rfl | rfl | rfl <;> rfl
            case c3 => have := HL32.out; unfold maxLen; omega
            case c4 => have := HL32.out; omega
            case c5 => have := HKb.out.fr.size; omega
            case c6 =>
              intro v2 w2 hown hgrow _ hloc
              have HT2 : Hid (Tks w.heap.size v2 s'.sts w2) := Lib.hid (by
                unfold Tks
                rw [HS2.out, cellsS_app, List.length_append, List.length_singleton]
                skip
                exact hown)
              have hF2 : Fr (fun k => (Value.slice ta s.sts.length tc).ownBlock = some k) (y1.alloc (.cells #[.int .i64 0, .int .i64 (-1), .int .i64 0, .int .u64 0] 41)) w2 := Fr.of_grown hgrow (fun k e => e)
              have HK2 := Lib.hid (HKb.out.own hF2 (fun k hk e => HD1.out k e hk) (fun k e => (HTb.out.lt k e).1))
              have HD2 : Hid (∀ k, v2.ownBlock = some k → ¬ O' k) := Lib.hid (fun k hk e => by
                rcases hloc with h | h
                · exact HD1.out k (by rw [← h]; exact hk) e
                · have h9 := Option.some.inj (h.symm.trans hk)
                  have h8 := HKb.out.bk.lt k e
                  rw [World.size_alloc] at h8; omega)
              obtain ⟨va, vn, vc, rfl⟩ := slice_form10 hown
              clear hown hgrow hloc hF2
              go_wp2
              exact ⟨⟨k1, s', O', HK1.out.2, rfl, HK2.out, HH'.out, HT2.out, HD2.out, HSM'.out⟩, by have := HK1.out; simp [intOf]; omega⟩
          · have je : (E == 0) = false := by rw [beq_eq_false_iff_ne]; exact hE0
            have HT2 : Hid (Tks w.heap.size (.slice ta s.sts.length tc) s'.sts y1) := Lib.hid (by rw [HS'.out, if_neg hE0]; exact HT1.out)
            clear hE0
            go_wp2
            exact ⟨⟨k1, s', O', HK1.out.2, rfl, HK1'.out, HH'.out, HT2.out, HD1.out, HSM'.out⟩, by have := HK1.out; simp [intOf]; omega⟩
        · have j1 : (k == 1) = false := by rw [beq_eq_false_iff_ne]; exact hk1
          have H1 := Lib.hid (fun X (hX : Bk O p s X) => sd_step hX xa HWA.out)
          obtain ⟨E, hE⟩ : ∃ E, E = s.stepE xa := ⟨_, rfl⟩
          obtain ⟨s', hs'⟩ : ∃ t, t = s.stepS xa := ⟨_, rfl⟩
          rw [← hE, ← hs'] at H1
          have HSM' : Hid s'.Small := Lib.hid (by rw [hs']; exact HSM.out.step _)
          have HH' : Hid (Bs.Hist (Ps.newS b) s') := Lib.hid (by rw [hs']; exact HI.out.step HK.out.bk.inv _)
          have HS' : Hid (s'.sts = s.sts) := Lib.hid (by rw [hs']; exact Bs.sts_step _)
          clear hE hs' hk0 hk1
          go_wp2_with fail
          refine (H1.out _ HKa.out.bk).mono ?_
          rintro e y1 ⟨rfl, hTo⟩
          obtain ⟨O', hK, hO', hF⟩ := HKa.out.to hTo
          have HK1' := Lib.hid hK
          have HT1 : Hid (Tks w.heap.size (.slice ta s.sts.length tc) s'.sts y1) := Lib.hid (by rw [HS'.out]; exact HTa.out.fr hF (fun k hk => HD.out k hk))
          have HD1 : Hid (∀ k, (Value.slice ta s.sts.length tc).ownBlock = some k → ¬ O' k) := Lib.hid (fun k hk e => by
            rcases hO' k e with h | h
            · exact HD.out k hk h
            · have := (HTa.out.lt k hk).2; omega)
          clear hTo hK hO' hF
          go_wp2
          exact ⟨⟨k1, s', O', HK1.out.2, rfl, HK1'.out, HH'.out, HT1.out, HD1.out, HSM'.out⟩, by have := HK1.out; simp [intOf]; omega⟩
    · have t3 : ¬ (i : Int) < (m : Int) := by omega
      clear hlt hi
      subst htv
      go_wp2
      go_ret2
      exact HFIN.out p O s _ _ HK.out HI.out HT.out HD.out HSM.out

set_option maxHeartbeats 2000000 in
theorem played_bad (ao : Option Addr) (n cap : Nat) (v : Value) (b : List Nat) (w : World) (hb : n = b.length) (hn : n ≤ 40) (hx : Nums w ao n (fun i => b.getD i 0)) (hy : false = Ps.newOk b) :
    Calls Try.prog 26 #[.slice ao n cap, v] w fun e w' => Played b w e w' := by
  have HNEW := Lib.hid (sd_new ao n cap b w hb (by unfold maxLen; omega) hx false hy)
  have HFIN : Hid (∀ w', Fr No w w' → Played b w (.returned (.tuple #[.pointer none, .slice none 0 0])) w') := Lib.hid (fun w' h => by
    unfold Played
    rw [← hy]
    exact ⟨rfl, h⟩)
  clear hb hn hx hy
  go_enter Try.func26, Try.ntmps26
  go_wp2_with fail
  refine HNEW.out.mono ?_
  rintro e w1 ⟨hF, he⟩
  obtain rfl : e = .returned (.pointer none) := he
  have HF := Lib.hid hF
  clear hF
  go_wp2
  go_ret2
  exact HFIN.out _ HF.out
end Go.Proofs.Ytpmmfbbppnbhbaa
