/- The walk of 'PurseBack'. -/
import Derived.Test.YtnimeafaciegkaaPuL
namespace Go.Proofs.Ytnimeafaciegkaa
open Go.RowKit
set_option linter.unusedVariables false
set_option maxRecDepth 100000

theorem new_free (l : List Nat) : (Ps.newS l).free = 0 := by
  unfold Ps.free Ps.newS
  rfl
/-- What is reserved of a new purse, and goes back, or on. -/
structure Back (l : List Nat) (x y N : Nat) (s1 s4 t : Ps) : Prop where
  id : (Ps.newS l).resI (x : Int) N = 0
  s1e : s1 = (Ps.newS l).resS (x : Int) N
  held : s1.heldV (x : Int) = N
  bal : s1.balV (x : Int) = (Ps.newS l).bal x - N
  le : N ≤ (Ps.newS l).bal x
  rel : s1.relE 0 = 0
  rels : s1.relS 0 = Ps.newS l
  none : (Ps.newS l).relE 0 = 1
  com : s1.comE 0 (y : Int) = 0
  s4e : s4 = s1.comS 0 (y : Int)
  te : t = (Ps.newS l).movS (x : Int) (y : Int) N
  same : ∀ i, s4.bal i = t.bal i
  len1 : s1.b.length = l.length
  len4 : s4.b.length = l.length
  lent : t.b.length = l.length
theorem same_err (l : List Nat) {x y : Nat} (N : Nat) (hx : x < l.length) (hy : y < l.length) : (Ps.newS l).resE (x : Int) N = (Ps.newS l).movE (x : Int) (y : Int) N := by
  unfold Ps.resE Ps.movE
  rw [Ps.has_of (s := Ps.newS l) hx, Ps.has_of (s := Ps.newS l) hy, new_free]
  simp
theorem Back.new (l : List Nat) {x y N : Nat} (hx : x < l.length) (hy : y < l.length) (hE : (Ps.newS l).resE (x : Int) N = 0) : ∃ s1 s4 t, Back l x y N s1 s4 t := by
  have hM : (Ps.newS l).movE (x : Int) (y : Int) N = 0 := by rw [← same_err l N hx hy]; exact hE
  obtain ⟨h1, h2, h3, h4⟩ := (Ps.resE_cases _ _).1 hE
  rw [Int.toNat_natCast] at h4
  have e1 : (Ps.newS l).resS (x : Int) N = ⟨l.set x ((Ps.newS l).bal x - N), (List.replicate 32 (0, 0)).set 0 (x, N)⟩ := by
    unfold Ps.resS Ps.res1
    rw [if_pos hE, new_free, Int.toNat_natCast]
    rfl
  obtain ⟨s1, hs1⟩ : ∃ s, s = (Ps.newS l).resS (x : Int) N := ⟨_, rfl⟩
  rw [← hs1] at e1
  have hb : s1.b = l.set x ((Ps.newS l).bal x - N) := by rw [e1]
  have hh : s1.h = (List.replicate 32 (0, 0)).set 0 (x, N) := by rw [e1]
  have hold0 : s1.hold 0 = (x, N) := by unfold Ps.hold; rw [hh]; rfl
  have hold1 : ∀ i, i ≠ 0 → s1.hold i = (0, 0) := fun i hi => by
    unfold Ps.hold
    rw [hh, Ps.getD_set _ _ _ _ _ (by simp), if_neg hi]
    rw [List.getD_eq_getElem?_getD, List.getElem?_replicate]
    split <;> rfl
  have hbx : s1.bal x = (Ps.newS l).bal x - N := by
    unfold Ps.bal
    rw [hb, Ps.getD_set _ _ _ _ _ hx, if_pos rfl]
    rfl
  have hl1 : s1.b.length = l.length := by rw [hb, List.length_set]
  have ht : s1.there 0 = true := Ps.there_of (s := s1) (k := 0) (by omega) (by rw [hold0]; show 0 < N; omega)
  have hhx : s1.has (x : Int) = true := Ps.has_of (by omega)
  have hhy : s1.has (y : Int) = true := Ps.has_of (by omega)
  have hc : s1.comE 0 (y : Int) = 0 := (Ps.comE_cases _ _).2 ⟨ht, hhy⟩
  have hr : s1.relE 0 = 0 := (Ps.relE_cases _).2 ht
  have e4 : s1.comS 0 (y : Int) = ⟨s1.b.set y (s1.bal y + N), s1.h.set 0 (0, 0)⟩ := by
    unfold Ps.comS Ps.com1
    rw [if_pos hc, Int.toNat_natCast, show Int.toNat 0 = 0 from rfl, hold0]
  have et : (Ps.newS l).movS (x : Int) (y : Int) N = ⟨s1.b.set y (s1.bal y + N), List.replicate 32 (0, 0)⟩ := by
    unfold Ps.movS Ps.less Ps.more
    rw [if_pos hM, Int.toNat_natCast, Int.toNat_natCast]
    have : (⟨(Ps.newS l).b.set x ((Ps.newS l).bal x - N), (Ps.newS l).h⟩ : Ps).bal y = s1.bal y := by
      unfold Ps.bal
      rw [hb]
      rfl
    rw [this, hb]
    rfl
  refine ⟨s1, s1.comS 0 (y : Int), (Ps.newS l).movS (x : Int) (y : Int) N, ⟨?_, hs1, ?_, ?_, h4, hr, ?_, ?_, hc, rfl, rfl, fun i => ?_, hl1, ?_, ?_⟩⟩
  · unfold Ps.resI
    rw [if_pos hE, new_free]
  · rw [Ps.heldV_nat s1 (by omega)]
    unfold Ps.held
    have := sumN_at (xs := fun i => Ps.heldF (x : Int) (s1.hold i)) (ys := fun _ => 0) (k := 0) (n := 32) (by omega) (fun i _ hi => by rw [hold1 i hi]; unfold Ps.heldF; split <;> rfl)
    rw [sumN_zero (xs := fun _ => 0) (fun _ _ => rfl)] at this
    have e : Ps.heldF (x : Int) (s1.hold 0) = N := by rw [hold0]; exact if_pos rfl
    simp only [e] at this
    omega
  · rw [(Ps.balV_nat s1 (by omega)).1, hbx]
  · unfold Ps.relS Ps.com1
    rw [if_pos hr, show Int.toNat 0 = 0 from rfl, hold0]
    simp only
    rw [hbx, show (Ps.newS l).bal x - N + N = (Ps.newS l).bal x by omega, hb, hh, List.set_set]
    have e1 : l.set x ((Ps.newS l).bal x) = l := by
      apply List.ext_getElem?
      intro i
      rw [List.getElem?_set]
      by_cases hi : x = i
      · subst hi
        rw [if_pos rfl, if_pos hx]
        show some (l.getD x 0) = _
        rw [List.getD_eq_getElem?_getD, List.getElem?_eq_getElem hx]
        rfl
      · rw [if_neg hi]
    rw [e1, List.set_set]
    rfl
  · unfold Ps.relE Ps.there
    rw [if_pos]
    rw [decide_eq_false]
    intro h
    rw [Ps.new_hold] at h
    exact Nat.lt_irrefl 0 h.2.2
  · rw [e4, et]
    rfl
  · rw [e4]
    simp [hl1]
  · rw [et]
    simp [hl1]

theorem pu_other {B T p : Nat} {s : Ps} {w w' : World} {B' T' : Nat} (h : Pu B T p s w) (f : Fr (Btw B' T') w w') (hd : T ≤ B' ∨ T' ≤ B) : Pu B T p s w' := h.fr f (fun k hk e => by have := hk.1; have := hk.2; have := e.1; have := e.2; omega)

set_option maxHeartbeats 4000000 in
theorem back9_bad (ao : Option Addr) (n cap : Nat) (b : List Nat) (va vb vn : Value) (w : World) (hb : n = b.length) (hm : n ≤ maxLen) (hx : Nums w ao n (fun i => b.getD i 0)) (hy : false = Ps.newOk b) : Calls Try.prog 5 #[.slice ao n cap, va, vb, vn] w fun e w' => e = .returned (.bool true) ∧ Fr No w w' := by
  have HX := Lib.hid hx
  have HNEW := Lib.hid (fun X (hX : Nums X ao n (fun i => b.getD i 0)) => pu_new ao n cap b X hb hm hX false hy)
  clear hx hb hm hy
  go_enter Try.func5, Try.ntmps5
  go_wp2_with fail
  refine (HNEW.out _ HX.out).mono ?_
  rintro e w1 ⟨hF, he⟩
  obtain rfl : e = .returned (.pointer none) := he
  have HF := Lib.hid hF
  clear hF
  go_wp2_with fail
  refine (HNEW.out _ (HX.out.fr HF.out (fun _ _ => id))).mono ?_
  rintro e w2 ⟨hF, he⟩
  obtain rfl : e = .returned (.pointer none) := he
  have HF2 := Lib.hid (HF.out.trans hF)
  clear hF
  go_wp2_with fail
  refine (shown9_any _).mono ?_
  rintro e w3 ⟨rfl, hF⟩
  have HF3 := Lib.hid (HF2.out.trans hF)
  clear hF
  go_wp2
  go_ret
  exact ⟨rfl, HF3.out⟩

set_option maxHeartbeats 16000000 in
theorem back9_ok (ao : Option Addr) (n cap : Nat) (b : List Nat) (a c N : Nat) (w : World) (hb : n = b.length) (hm : n ≤ maxLen) (hx : Nums w ao n (fun i => b.getD i 0)) (ha : a < 256) (hc : c < 256) (hy : true = Ps.newOk b) (hN : N < 18446744073709551616) :
    Calls Try.prog 5 #[.slice ao n cap, .int .u8 (a : Int), .int .u8 (c : Int), .int .u64 (N : Int)] w fun e w' => e = .returned (.bool true) ∧ Fr No w w' := by
  have HX := Lib.hid hx
  have HNEW := Lib.hid (fun X (hX : Nums X ao n (fun i => b.getD i 0)) => pu_new ao n cap b X hb hm hX true hy)
  have hok : 1 ≤ n ∧ n ≤ 32 := by
    have h := hy.symm
    unfold Ps.newOk at h
    rw [decide_eq_true_eq] at h
    omega
  obtain ⟨x, hxx⟩ : ∃ x, x = a % n := ⟨_, rfl⟩
  obtain ⟨y, hyy⟩ : ∃ y, y = c % n := ⟨_, rfl⟩
  have hxn : x < n := by rw [hxx]; exact Nat.mod_lt _ (by omega)
  have hyn : y < n := by rw [hyy]; exact Nat.mod_lt _ (by omega)
  have wa : IntKind.i64.wrap (a : Int) = (a : Int) := IntWalk.i64_in _ (by omega)
  have wc : IntKind.i64.wrap (c : Int) = (c : Int) := IntWalk.i64_in _ (by omega)
  have wx : IntKind.i64.wrap (x : Int) = (x : Int) := IntWalk.i64_in _ (by omega)
  have wy : IntKind.i64.wrap (y : Int) = (y : Int) := IntWalk.i64_in _ (by omega)
  have ra : (a : Int) % (n : Int) = (x : Int) := by rw [hxx]; rfl
  have rc : (c : Int) % (n : Int) = (y : Int) := by rw [hyy]; rfl
  have ta : (a : Int).tmod (n : Int) = (x : Int) := by rw [Int.tmod_eq_emod_of_nonneg (by omega)]; exact ra
  have tc : (c : Int).tmod (n : Int) = (y : Int) := by rw [Int.tmod_eq_emod_of_nonneg (by omega)]; exact rc
  have tn : ((n : Int) == 0) = false := by rw [beq_eq_false_iff_ne]; omega
  have tn2 : ¬ (n : Int) = 0 := by omega
  have HXN : Hid (x < b.length ∧ y < b.length ∧ x < n ∧ y < n ∧ n = b.length) := Lib.hid ⟨by omega, by omega, hxn, hyn, hb⟩
  have HNB := Lib.hid hN
  have hxn' : (x : Int) < (n : Int) := by omega
  clear hx hb hm hy ha hc hxx hyy hN hok hxn hyn
  go_enter Try.func5, Try.ntmps5
  go_wp2_with fail
  refine (HNEW.out _ HX.out).mono ?_
  rintro e w1 ⟨hF, p, rfl, hP⟩
  have HF1 := Lib.hid hF
  have HP1 := Lib.hid hP
  clear hF hP
  go_wp2_with fail
  refine (HNEW.out _ (HX.out.fr HF1.out (fun _ _ => id))).mono ?_
  rintro e w2 ⟨hF, q, rfl, hQ⟩
  have HF2 := Lib.hid (HF1.out.trans hF)
  have HP2 := Lib.hid (HP1.out.no hF)
  have HQ2 := Lib.hid hQ
  have HB1 : Hid (w.heap.size ≤ w.heap.size) := Lib.hid (Nat.le_refl _)
  have HB2 : Hid (w.heap.size ≤ w1.heap.size) := Lib.hid HF1.out.size
  obtain ⟨B1, hB1⟩ : ∃ B, B = w.heap.size := ⟨_, rfl⟩
  obtain ⟨B2, hB2⟩ : ∃ B, B = w1.heap.size := ⟨_, rfl⟩
  obtain ⟨T2, hT2⟩ : ∃ B, B = w2.heap.size := ⟨_, rfl⟩
  have HBB : Hid (w.heap.size ≤ B1 ∧ w.heap.size ≤ B2) := Lib.hid ⟨by omega, by have := HB2.out; omega⟩
  rw [← hB1, ← hB2] at HP2
  rw [← hB2, ← hT2] at HQ2
  clear hF hQ HNEW HP1 HF1 HB1 HB2 hB1 hB2 hT2
  go_wp2_with fail
  refine (shown9_any _).mono ?_
  rintro e w3 ⟨rfl, hF⟩
  have HF3 := Lib.hid (HF2.out.trans hF)
  have HP3 := Lib.hid (HP2.out.no hF)
  have HQ3 := Lib.hid (HQ2.out.no hF)
  clear hF HF2 HP2 HQ2
  have HR := Lib.hid (fun X (hX : Pu B1 B2 p (Ps.newS b) X) => pu_reserve hX (x : Int) N)
  have HM := Lib.hid (fun X (hX : Pu B2 T2 q (Ps.newS b) X) => pu_move hX (x : Int) (y : Int) N)
  rw [← same_err b N HXN.out.1 HXN.out.2.1] at HM
  obtain ⟨E, hE⟩ : ∃ E, E = (Ps.newS b).resE (x : Int) N := ⟨_, rfl⟩
  rw [← hE] at HR HM
  obtain ⟨lx, hlx⟩ : ∃ v, v = (Ps.newS b).bal x := ⟨_, rfl⟩
  obtain ⟨a0, hao, hc0, hcb⟩ := HX.out x HXN.out.2.2.1
  simp only at hc0 hcb
  rw [show b.getD x 0 = lx from hlx.symm] at hc0 hcb
  obtain ⟨q0, hq0⟩ : ∃ z, a0.add x = z := ⟨_, rfl⟩
  rw [hq0] at hc0
  have HC0 := Lib.hid hc0
  have HCB := Lib.hid hcb
  have hq0' := hq0
  by_cases h0 : E = 0
  · subst h0
    obtain ⟨s1, s4, t, K⟩ := Back.new b HXN.out.1 HXN.out.2.1 hE.symm
    have HK := Lib.hid K
    rw [K.id, ← K.s1e] at HR
    rw [← K.te] at HM
    have HHL := Lib.hid (fun X (hX : Pu B1 B2 p s1 X) => pu_held hX (x : Int))
    have hn1 : s1.noneE (x : Int) = 0 := (Ps.balV_nat s1 (by rw [K.len1]; exact HXN.out.1)).2
    rw [K.held, hn1] at HHL
    have HBL := Lib.hid (fun X (hX : Pu B1 B2 p s1 X) => pu_balance hX (x : Int))
    rw [K.bal, hn1, ← hlx] at HBL
    obtain ⟨D, hD⟩ : ∃ D, D = lx - N := ⟨_, rfl⟩
    rw [← hD] at HBL
    have hle := K.le
    rw [← hlx] at hle
    have sD : (lx : Int) - (N : Int) = (D : Int) := by omega
    have lD := wrapU D (by omega)
    have HRL := Lib.hid (fun X (hX : Pu B1 B2 p s1 X) => pu_release hX 0 (by decide))
    rw [K.rel, K.rels] at HRL
    have HRN := Lib.hid (fun X (hX : Pu B1 B2 p (Ps.newS b) X) => pu_release hX 0 (by decide))
    have e9 : (Ps.newS b).relS 0 = Ps.newS b := if_neg (by rw [K.none]; omega)
    rw [K.none, e9] at HRN
    have HB0 := Lib.hid (fun X (hX : Pu B1 B2 p (Ps.newS b) X) => pu_balance hX (x : Int))
    have e8 := Ps.balV_nat (Ps.newS b) (k := x) HXN.out.1
    rw [e8.1, e8.2, ← hlx] at HB0
    have HCM := Lib.hid (fun X (hX : Pu B1 B2 p s1 X) => pu_commit hX 0 (y : Int) (by decide))
    rw [K.com, ← K.s4e] at HCM
    rw [hao]
    clear K hn1 hE hlx hD hle e9 e8 hc0 hcb hq0 hao
    go_wp2_with fail
    refine (HR.out _ HP3.out).mono ?_
    rintro e w4 ⟨rfl, hP, hF⟩
    have HP4 := Lib.hid hP
    have HQ4 := Lib.hid (pu_other HQ3.out hF (.inr (Nat.le_refl _)))
    have HF4 := Lib.hid (btw_no HF3.out hF HBB.out.1)
    clear hP hF
    go_wp2_with fail
    refine (HM.out _ HQ4.out).mono ?_
    rintro e w5 ⟨rfl, hQ, hF⟩
    have HQ5 := Lib.hid hQ
    have HP5 := Lib.hid (pu_other HP4.out hF (.inl (Nat.le_refl _)))
    have HF5 := Lib.hid (btw_no HF4.out hF HBB.out.2)
    clear hQ hF
    go_wp2_with fail
    refine (HHL.out _ HP5.out).mono ?_
    rintro e w6 ⟨rfl, hF⟩
    have HP6 := Lib.hid (HP5.out.no hF)
    have HQ6 := Lib.hid (HQ5.out.no hF)
    have HF6 := Lib.hid (HF5.out.trans hF)
    clear hF
    go_wp2_with fail
    refine (HBL.out _ HP6.out).mono ?_
    rintro e w7 ⟨rfl, hF⟩
    have HP7 := Lib.hid (HP6.out.no hF)
    have HQ7 := Lib.hid (HQ6.out.no hF)
    have HF7 := Lib.hid (HF6.out.trans hF)
    have c7 := HF7.out.cellA id HC0.out
    clear hF
    go_wp2_with fail
    refine (HRL.out _ HP7.out).mono ?_
    rintro e w8 ⟨rfl, hP, hF⟩
    have HP8 := Lib.hid hP
    have HQ8 := Lib.hid (pu_other HQ7.out hF (.inr (Nat.le_refl _)))
    have HF8 := Lib.hid (btw_no HF7.out hF HBB.out.1)
    clear hP hF c7
    go_wp2_with fail
    refine (HRN.out _ HP8.out).mono ?_
    rintro e w9 ⟨rfl, hP, hF⟩
    have HP9 := Lib.hid hP
    have HQ9 := Lib.hid (pu_other HQ8.out hF (.inr (Nat.le_refl _)))
    have HF9 := Lib.hid (btw_no HF8.out hF HBB.out.1)
    clear hP hF
    go_wp2_with fail
    refine (HB0.out _ HP9.out).mono ?_
    rintro e wa ⟨rfl, hF⟩
    have HPa := Lib.hid (HP9.out.no hF)
    have HQa := Lib.hid (HQ9.out.no hF)
    have HFa := Lib.hid (HF9.out.trans hF)
    clear hF
    go_wp2_with fail
    refine (HR.out _ HPa.out).mono ?_
    rintro e wb ⟨rfl, hP, hF⟩
    have HPb := Lib.hid hP
    have HQb := Lib.hid (pu_other HQa.out hF (.inr (Nat.le_refl _)))
    have HFb := Lib.hid (btw_no HFa.out hF HBB.out.1)
    have cb := HFb.out.cellA id HC0.out
    clear hP hF
    go_wp2_with fail
    refine (HCM.out _ HPb.out).mono ?_
    rintro e wc ⟨rfl, hP, hF⟩
    have HPc := Lib.hid hP
    have HQc := Lib.hid (pu_other HQb.out hF (.inr (Nat.le_refl _)))
    have HFc := Lib.hid (btw_no HFb.out hF HBB.out.1)
    clear hP hF cb
    go_wp2_with fail
    go_loopw [24] (fun v wr => ∃ i : Nat, i ≤ n ∧ v = .int .i64 i ∧ Pu B1 B2 p s4 wr ∧ Pu B2 T2 q t wr ∧ Fr No w wr) (fun v _ => n - (intOf v).toNat)
    case atStart => exact ⟨0, by omega, rfl, HPc.out, HQc.out, HFc.out⟩
    case round =>
      obtain ⟨i, hi, rfl, hP, hQ, hF⟩ := hrel
      have HP := Lib.hid hP
      have HQ := Lib.hid hQ
      have HF := Lib.hid hF
      clear hP hQ hF
      by_cases hlt : i < n
      · have t1 : (i : Int) < (n : Int) := by omega
        obtain ⟨k1, hk1⟩ : ∃ k, k = i + 1 := ⟨_, rfl⟩
        have HK1 : Hid (k1 = i + 1 ∧ k1 ≤ n) := Lib.hid ⟨hk1, by omega⟩
        have s1 : (i : Int) + 1 = (k1 : Int) := by omega
        have l1 : IntKind.i64.wrap (k1 : Int) = (k1 : Int) := IntWalk.i64_in _ (by have := HXN.out; have := HP.out.wf.b2; rw [HK.out.len4] at this; omega)
        have HL1 := Lib.hid (fun X (hX : Pu B1 B2 p s4 X) => pu_balance hX (i : Int))
        have HL2 := Lib.hid (fun X (hX : Pu B2 T2 q t X) => pu_balance hX (i : Int))
        have e1 := Ps.balV_nat s4 (k := i) (by rw [HK.out.len4]; have := HXN.out; omega)
        have e2 := Ps.balV_nat t (k := i) (by rw [HK.out.lent]; have := HXN.out; omega)
        rw [e1.1, e1.2, HK.out.same i] at HL1
        rw [e2.1, e2.2] at HL2
        obtain ⟨v, hv⟩ : ∃ v, v = t.bal i := ⟨_, rfl⟩
        rw [← hv] at HL1 HL2
        clear hlt hi hk1 e1 e2 hv
        go_wp2_with fail
        refine (HL1.out _ HP.out).mono ?_
        rintro e y1 ⟨rfl, hF⟩
        have HPy := Lib.hid (HP.out.no hF)
        have HQy := Lib.hid (HQ.out.no hF)
        have HFy := Lib.hid (HF.out.trans hF)
        clear hF
        go_wp2_with fail
        refine (HL2.out _ HQy.out).mono ?_
        rintro e y2 ⟨rfl, hF⟩
        have HPz := Lib.hid (HPy.out.no hF)
        have HQz := Lib.hid (HQy.out.no hF)
        have HFz := Lib.hid (HFy.out.trans hF)
        clear hF
        go_wp2
        exact ⟨⟨k1, HK1.out.2, rfl, HPz.out, HQz.out, HFz.out⟩, by have := HK1.out; simp [intOf]; omega⟩
      · have t1 : ¬ (i : Int) < (n : Int) := by omega
        clear hlt hi
        go_wp2
        go_ret
        exact ⟨rfl, HF.out⟩
  · have e3 : (Ps.newS b).resS (x : Int) N = Ps.newS b := if_neg (by rw [← hE]; exact h0)
    rw [e3] at HR
    obtain ⟨I, hI⟩ : ∃ I, I = (Ps.newS b).resI (x : Int) N := ⟨_, rfl⟩
    rw [← hI] at HR
    have HB0 := Lib.hid (fun X (hX : Pu B1 B2 p (Ps.newS b) X) => pu_balance hX (x : Int))
    have e8 := Ps.balV_nat (Ps.newS b) (k := x) HXN.out.1
    rw [e8.1, e8.2, ← hlx] at HB0
    obtain ⟨t, ht⟩ : ∃ t, t = (Ps.newS b).movS (x : Int) (y : Int) N := ⟨_, rfl⟩
    rw [← ht] at HM
    have tE : (E == 0) = false := by rw [beq_eq_false_iff_ne]; exact h0
    rw [hao]
    clear hE hlx e3 hI e8 ht h0 hc0 hcb hq0 hao
    go_wp2_with fail
    refine (HR.out _ HP3.out).mono ?_
    rintro e w4 ⟨rfl, hP, hF⟩
    have HP4 := Lib.hid hP
    have HQ4 := Lib.hid (pu_other HQ3.out hF (.inr (Nat.le_refl _)))
    have HF4 := Lib.hid (btw_no HF3.out hF HBB.out.1)
    clear hP hF
    go_wp2_with fail
    refine (HM.out _ HQ4.out).mono ?_
    rintro e w5 ⟨rfl, hQ, hF⟩
    have HP5 := Lib.hid (pu_other HP4.out hF (.inl (Nat.le_refl _)))
    have HF5 := Lib.hid (btw_no HF4.out hF HBB.out.2)
    clear hQ hF
    go_wp2_with fail
    refine (HB0.out _ HP5.out).mono ?_
    rintro e w6 ⟨rfl, hF⟩
    have HF6 := Lib.hid (HF5.out.trans hF)
    have c6 := HF6.out.cellA id HC0.out
    clear hF
    go_wp2
    go_ret
    exact ⟨rfl, HF6.out⟩
end Go.Proofs.Ytnimeafaciegkaa
