/- Encode: what the program's comes to (whether a message may be: WpJ). -/
import Derived.Test.YtpdnbjaamgfemaaWpL
import Derived.Test.YtpdnbjaamgfemaaOct8
namespace Go.Proofs.Ytpdnbjaamgfemaa
open Go.RowKit
set_option linter.unusedVariables false
set_option maxRecDepth 100000

theorem listed_one {w : World} {p q : Nat} {d : Fd} {b1 b2 : Nat} {f : FuncId} {xs : Array Value} (hv : Value.func (.func f) #[] xs = d.value b1 b2) (hq : q < w.heap.size) (h : FdAt w p q d b1 b2) :
    Listed (w.alloc (.cells #[.func (.func f) #[] xs] 55)) p q [d] (.slice (some ⟨w.heap.size, 0, none⟩) 1 1) := by
  refine ⟨w.heap.size, fun _ => (b1, b2), rfl, by omega, ?_, ?_⟩
  · rw [hv]
    exact Blk.new w _ _
  · intro e he
    obtain rfl : e = d := by simpa using he
    exact h.fresh ((Fr.refl No w).alloc _)

/-- What the steps of Encode leave as it lay. -/
def Rests (p sb : Nat) (w w' : World) : Prop := ∀ b t cs, b ≠ p → b ≠ sb → t ≠ 5 → Blk w b t cs → Blk w' b t cs

set_option maxHeartbeats 1000000 in
theorem enc1_bad (m : Msg) (ok : m.Ok) (hmay : may m = false) (p sb : Nat) (w : World) (hm : Blk w p 27 (cellsM m)) :
    Calls Try.prog 17 #[.pointer (some ⟨p, 0, none⟩), .pointer (some ⟨sb, 0, none⟩)] w fun e w' => e = wrong 1 ∧ Fr No w w' := by
  have HL := Lib.hid (msg_load hm ok.h mt_msg)
  have HM := Lib.hid (fun X => wmay_any m ok X)
  rw [hmay] at HM
  clear hmay hm ok
  go_enter Try.func17, Try.ntmps17
  go_wp2_with (refine wpList_load_eq rfl 27 _ rfl (.pointer (some ⟨p, 0, none⟩)) (vM m) rfl HL.out ?_)
  refine (HM.out _).mono ?_
  rintro ex w1 ⟨rfl, hF⟩
  have HF := Lib.hid hF
  clear hF HM
  go_wp2_with fail
  refine (ask_err 1 (by decide) _).mono ?_
  rintro ex w2 ⟨rfl, rfl⟩
  exact ⟨rfl, rfl, HF.out⟩

set_option maxHeartbeats 4000000 in
theorem enc1_ok (m : Msg) (ok : m.Ok) (hmay : may m = true) (B p sb : Nat) (w : World) (hm : Blk w p 27 (cellsM m)) (hs : Blk w sb 9 [.string (str [])]) (hp : B ≤ p) (hsb : B ≤ sb) (hB : B ≤ w.heap.size) :
    Calls Try.prog 17 #[.pointer (some ⟨p, 0, none⟩), .pointer (some ⟨sb, 0, none⟩)] w fun e w' => e = .returned (.tuple #[]) ∧ Blk w' sb 9 [.string (str (bytesM m))] ∧ Fr (fun k => B ≤ k) w w' ∧ Rests p sb w w' := by
  have hf := fits_of hmay
  have hps : sb ≠ p := blk_ne hs hm (by decide)
  have HL := Lib.hid (msg_load hm ok.h mt_msg)
  have HM := Lib.hid (fun X => wmay_any m ok X)
  rw [hmay] at HM
  have HBM := Lib.hid hm
  have HBS := Lib.hid hs
  have HPS := Lib.hid hps
  have OK := Lib.hid ok
  have HFI := Lib.hid hf
  have HBB := Lib.hid (And.intro hp (And.intro hsb hB))
  obtain ⟨bs, hbs⟩ : ∃ b, b = bytesM m := ⟨_, rfl⟩
  obtain ⟨S, hS⟩ : ∃ S, S = str bs := ⟨_, rfl⟩
  rw [← hbs, ← hS]
  have HBSB := Lib.hid hbs
  have HSS := Lib.hid hS
  clear hmay hm ok hs hps hf hp hsb hB hbs hS
  go_enter Try.func17, Try.ntmps17
  go_wp2_with (refine wpList_load_eq rfl 27 _ rfl (.pointer (some ⟨p, 0, none⟩)) (vM m) rfl HL.out ?_)
  refine (HM.out _).mono ?_
  rintro ex w1 ⟨rfl, hF⟩
  have F1 := Lib.hid hF
  clear hF HM
  go_wp2_with fail
  refine (ask_ok 1 _).mono ?_
  rintro ex w2 ⟨rfl, rfl⟩
  obtain ⟨q, hq⟩ : ∃ q, q = w1.heap.size := ⟨_, rfl⟩
  obtain ⟨W2, hW2⟩ : ∃ W, W = w1.alloc (.cells #[.slice none 0 0] 50) := ⟨_, rfl⟩
  have hwr : Wr B q (.slice none 0 0) [] W2 := by rw [hq, hW2]; exact Wr.new B w1
  have hF2 : Fr No w W2 := by rw [hW2]; exact F1.out.alloc _
  have hqw : w.heap.size ≤ q := by rw [hq]; exact F1.out.size
  have HKO := Lib.hid (kindof_any p q W2 hwr.lt)
  have HQ := Lib.hid hq
  have HW2 := Lib.hid hW2
  have HWR := Lib.hid hwr
  have F2 := Lib.hid hF2
  have HQW := Lib.hid hqw
  clear hq hW2 hwr hF2 hqw HL F1
  go_wp2_with fail
  rw [← HW2.out, ← HQ.out]
  refine HKO.out.mono ?_
  rintro ex w3 ⟨v1, b1, b2, rfl, hv1, hf1, hF3⟩
  obtain ⟨x1, rfl⟩ : ∃ x, v1 = .func (.func 40) #[] x := ⟨_, hv1⟩
  obtain ⟨W4, hW4⟩ : ∃ W, W = w3.alloc (.cells #[.func (.func 40) #[] x1] 55) := ⟨_, rfl⟩
  have hL4 := listed_one hv1 (by have := HWR.out.lt; have := hF3.size; omega) hf1
  rw [← hW4] at hL4
  have hF24 : Fr No W2 W4 := by rw [hW4]; exact hF3.alloc _
  have hwr4 := HWR.out.fresh hF24
  have hF4 : Fr No w W4 := F2.out.trans hF24
  have hpq : p ≠ q := by have := HQW.out; have := HBM.out.lt; omega
  have hBq : B ≤ q := by have := HQW.out; have := HBB.out.2.2; omega
  have hC := car_w B p q HBB.out.1 hBq hpq
  have hcar := carry_any hC (w := W4) (m := m) (s := []) (j := 10) hL4 (by decide) OK.out (HBM.out.fr hF4 id) ⟨⟨_, hwr4⟩, by have := hF4.size; have := HBB.out.2.2; omega, by decide⟩
  rw [stepsW m OK.out HFI.out [.kind] []] at hcar
  have e1 : [] ++ [Fd.kind].flatMap (bytesD m) = bytesD m .kind := by simp
  rw [e1] at hcar
  have HC4 := Lib.hid hcar
  have HC := Lib.hid hC
  have HW4 := Lib.hid hW4
  have F4 := Lib.hid hF4
  have HPQ := Lib.hid hpq
  clear hv1 hf1 hF3 hL4 hF24 hwr4 hF4 hpq hBq hC hcar e1 HKO HWR hW4 F2
  go_wp2_with fail
  rw [← HW4.out]
  refine HC4.out.mono ?_
  rintro ex w5 ⟨rfl, -, hA5, hk5, hb5⟩
  have hql : q < w5.heap.size := by
    obtain ⟨⟨v, hw⟩, _⟩ := hA5
    exact hw.lt
  have HFO := Lib.hid (fieldsof_any p q m w5 hb5 hql)
  have HA5 := Lib.hid hA5
  have HK5 := Lib.hid hk5
  have HB5 := Lib.hid hb5
  clear hA5 hk5 hb5 hql HC4
  go_wp2_with fail
  refine HFO.out.mono ?_
  rintro ex w6 ⟨v, rfl, hF6, (⟨h1, h2, hL⟩ | ⟨hn, rfl⟩)⟩
  case inr => exact absurd HFI.out.k hn
  have hcar := carry_any HC.out (w := w6) (m := m) (s := bytesD m .kind) (j := 0) hL (by have := fieldsL_len m.k; omega) OK.out (HB5.out.fr hF6 id) (by
    obtain ⟨⟨v', hw'⟩, h3, h4⟩ := HA5.out
    exact ⟨⟨v', hw'.fresh hF6⟩, Nat.le_trans h3 hF6.size, by have := fieldsL_len m.k; omega⟩)
  rw [stepsW m OK.out HFI.out (fieldsL m.k) (bytesD m .kind), bytes_math m HFI.out, ← HBSB.out] at hcar
  have HC6 := Lib.hid hcar
  have F6 := Lib.hid hF6
  clear hL hF6 hcar HFO h1 h2 HB5
  go_wp2_with fail
  refine HC6.out.mono ?_
  rintro ex w7 ⟨rfl, -, ⟨⟨v7, hw7⟩, -, -⟩, hk7, hb7⟩
  have hkeep : ∀ b t cs, b ≠ p → b < w.heap.size → t ≠ 5 → Blk w b t cs → Blk w7 b t cs := fun b t cs n1 n2 n3 hb => by
    have nq : b ≠ q := by have := HQW.out; omega
    exact hk7.blk _ _ _ nq n1 n3 ((HK5.out.blk _ _ _ nq n1 n3 (hb.fr F4.out id)).fr F6.out id)
  have hs7 := hkeep sb 9 _ HPS.out HBS.out.lt (by decide) HBS.out
  have HBY := Lib.hid (bytes_any B q v7 bs w7 hw7)
  have k1 : w7.cell? ⟨sb, 0, none⟩ = some (.string (str [])) := hs7.cell rfl
  have k2 : w7.frozen? ⟨sb, 0, none⟩ = false := hs7.frozen _
  have HE : Hid (Blk (w7.setCell ⟨sb, 0, none⟩ (.string (str bs))) sb 9 [.string (str bs)] ∧ Fr (fun k => B ≤ k) w (w7.setCell ⟨sb, 0, none⟩ (.string (str bs))) ∧ Rests p sb w (w7.setCell ⟨sb, 0, none⟩ (.string (str bs)))) := Lib.hid (by
    refine ⟨hs7.set 0 _, ?_, fun b t cs n1 n2 n3 hb => (hkeep b t cs n1 hb.lt n3 hb).set_other (Ne.symm n2) _⟩
    have f1 : Fr (fun k => B ≤ k) w w5 := (F4.out.mono (fun _ _ h => h.elim)).trans HK5.out.fr
    have f2 : Fr (fun k => B ≤ k) w w7 := (f1.trans (F6.out.mono (fun _ _ h => h.elim))).trans hk7.fr
    exact f2.setCell (p := ⟨sb, 0, none⟩) (.inl HBB.out.2.1) _)
  rw [← HSS.out] at HBY HE
  clear hk7 hb7 hw7 hkeep hs7 HC6 HC HA5 HK5 F4 F6
  go_wp2_with fail
  refine HBY.out.mono ?_
  rintro ex w8 ⟨rfl, rfl⟩
  go_wp2
  first | go_end0 | skip
  exact ⟨rfl, HE.out.1, HE.out.2.1, HE.out.2.2⟩

theorem callable_enc : callable 17 := fun _ _ => by kernel_rfl

theorem enc_tries (m : Msg) (ok : m.Ok) (w W2 : World) (p sb : Nat) (hW : Fr No w W2) (hp : w.heap.size ≤ p) (hsb : w.heap.size ≤ sb) (hm : Blk W2 p 27 (cellsM m)) (hs : Blk W2 sb 9 [.string (str [])]) :
    Calls Try.prog 16 #[.func (.func 17) #[] #[.pointer (some ⟨p, 0, none⟩), .pointer (some ⟨sb, 0, none⟩)]] W2 fun e w' => e = .returned (.int .i64 (encE m)) ∧ Blk w' sb 9 [.string (str (encV m))] ∧ Fr No w w' := by
  have hsx : ¬ sb = W2.heap.size := by have := hs.lt; omega
  have hF3 : Fr No W2 (W2.alloc (.cells #[.int .i64 0] 28)) := (Fr.refl No W2).alloc _
  have hx : Blk (W2.alloc (.cells #[.int .i64 0] 28)) W2.heap.size 28 [.int .i64 0] := Blk.new W2 _ _
  have hm3 := hm.fr hF3 id
  have hs3 := hs.fr hF3 id
  have hnx : ∀ (w1 w' : World), Fr (fun k => w.heap.size ≤ k) (W2.alloc (.cells #[.int .i64 0] 28)) w1 → Fr (· = W2.heap.size) w1 w' → Fr No w w' := fun w1 w' h1 h2 =>
    ((hW.trans hF3).trans' h1 (fun i hi hk => absurd hi (by have : w.heap.size ≤ i := hk; omega))).trans' h2 (fun i hi hk => absurd hi (by have : i = W2.heap.size := hk; have := hW.size; omega))
  by_cases hmay : may m = true
  · have he := enc1_ok m ok hmay w.heap.size p sb _ hm3 hs3 hp hsb (by have := hW.size; simp; omega)
    refine (attempt_any 17 _ W2 (fun w1 => Blk w1 sb 9 [.string (str (bytesM m))] ∧ Fr (fun k => w.heap.size ≤ k) (W2.alloc (.cells #[.int .i64 0] 28)) w1) (fun _ _ => False) callable_enc (he.mono ?_)).mono ?_
    · rintro e w' ⟨rfl, h1, h2, h3⟩
      exact ⟨h3 _ _ _ (by have := hm.lt; omega) (fun e => hsx e.symm) (by decide) hx, .inl ⟨rfl, h1, h2⟩⟩
    · rintro e w' ⟨w1, hF, (⟨rfl, h1, h2⟩ | ⟨c, _, hc⟩)⟩
      · refine ⟨by rw [encE, if_pos hmay], ?_, hnx _ _ h2 hF⟩
        rw [encV, if_pos hmay]
        exact h1.fr hF hsx
      · exact hc.elim
  · have hno : may m = false := by simpa using hmay
    have he := enc1_bad m ok hno p sb _ hm3
    refine (attempt_any 17 _ W2 (fun _ => False) (fun c w1 => c = 1 ∧ Fr No (W2.alloc (.cells #[.int .i64 0] 28)) w1) callable_enc (he.mono ?_)).mono ?_
    · rintro e w' ⟨rfl, h1⟩
      exact ⟨hx.fr h1 id, .inr ⟨1, rfl, rfl, h1⟩⟩
    · rintro e w' ⟨w1, hF, (⟨_, h1⟩ | ⟨c, rfl, rfl, h1⟩)⟩
      · exact h1.elim
      · refine ⟨by rw [encE, if_neg hmay], ?_, hnx _ _ (h1.mono (fun _ _ h => h.elim)) hF⟩
        rw [encV, if_neg hmay]
        exact (hs3.fr h1 id).fr hF hsx

set_option maxHeartbeats 1000000 in
theorem wencode_any (m : Msg) (ok : m.Ok) (w : World) : Calls Try.prog 8 #[vM m] w fun ex w' => ex = .returned (.tuple #[.string (str (encV m)), .int .i64 (encE m)]) ∧ Fr No w w' := by
  have hmf : ∀ (fn : Fn) (first cap : Array Value) (w : World), (Instr.makeFunc fn first cap).run Try.prog w = .ok (.func fn first cap) w := fun _ _ _ _ => rfl
  obtain ⟨W2, hW2⟩ : ∃ W, W = (w.alloc (.cells (cellsM m).toArray 27)).alloc (.cells #[.string ⟨#[]⟩] 9) := ⟨_, rfl⟩
  have hm : Blk W2 w.heap.size 27 (cellsM m) := by rw [hW2]; exact (Blk.new w _ _).alloc _
  have e1 : (w.alloc (.cells (cellsM m).toArray 27)).heap.size = w.heap.size + 1 := by simp
  have hs : Blk W2 (w.heap.size + 1) 9 [.string (str [])] := by
    have := Blk.new (w.alloc (.cells (cellsM m).toArray 27)) 9 [.string (str [])]
    rw [e1] at this
    rw [hW2]
    exact this
  have hF : Fr No w W2 := by rw [hW2]; exact ((Fr.refl No w).alloc _).alloc _
  have HA := Lib.hid (enc_tries m ok w W2 w.heap.size (w.heap.size + 1) hF (Nat.le_refl _) (Nat.le_succ _) hm hs)
  obtain ⟨S, hS⟩ : ∃ S, S = str (encV m) := ⟨_, rfl⟩
  obtain ⟨E, hE⟩ : ∃ E, E = encE m := ⟨_, rfl⟩
  rw [← hS, ← hE] at HA ⊢
  have HW := Lib.hid hW2
  clear hS hE hm e1 hs hF hW2 ok
  go_enter Try.func8, Try.ntmps8
  go_wp2_with fail
  rw [← HW.out]
  refine HA.out.mono ?_
  rintro ex w3 ⟨rfl, hb, hF⟩
  have k1 : w3.cell? ⟨w.heap.size + 1, 0, none⟩ = some (.string S) := hb.cell rfl
  have k2 : w3.frozen? ⟨w.heap.size + 1, 0, none⟩ = false := hb.frozen _
  have HF := Lib.hid hF
  clear hb hF HA
  go_wp2
  have hl := World.cell?_setCell_same w3 ⟨w.heap.size + 1, 0, none⟩ (.string S) k1
  refine bodyPost_ret (v := .tuple #[.string S, .int .i64 E]) (by simp [results, Try.results8, go_sem, hl]) rfl ⟨rfl, HF.out.setCell (p := ⟨w.heap.size + 1, 0, none⟩) (.inr (Nat.le_succ _)) _⟩
end Go.Proofs.Ytpdnbjaamgfemaa
