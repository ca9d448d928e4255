/- The document's bank: List, Start, New. The document's bank: New; the comparison of numbers. The document's bank: what a step needs. The document's bank: a step that takes a lock, or can't. -/
import Derived.Test.YtldcglmpnildiaaSkB
import Derived.Test.YtldcglmpnildiaaPuT
import Derived.Test.YtldcglmpnildiaaSdX
import Derived.Test.YtldcglmpnildiaaSdZ
namespace Go.Proofs.Ytldcglmpnildiaa
open Go.RowKit
set_option linter.unusedVariables false
set_option maxRecDepth 100000

/-- What begin answers. -/
theorem rbegin_any {w : World} {S : Nat → Prop} (hS : ∀ k, S k → k < w.heap.size) (s : Bs) (L : List Value) (V : s.p.Wf) (h : DB S s L w) (x : Tk) (tov : Value) (hto : ∀ Z, Fr S w Z → OutN x.told tov Z) (I : Nat) (E : Int) (s' : Bs)
    (e1 : E = if 32 ≤ s.t.length then 2 else 0) (e2 : I = if E = 0 then s.t.length else 0) (e3 : s' = if E = 0 then s.add1 x else s) :
    Calls Try.prog 28 #[.agg L.toArray, .agg (cellsX x tov).toArray] w fun e w' => ∃ L', e = .returned (.tuple #[.agg L'.toArray, .int .i64 (I : Int), .int .i64 E]) ∧ DB S s' L' w' ∧ Fr No w w' := by
  by_cases h32 : 32 ≤ s.t.length
  · rw [if_pos h32] at e1
    rw [e1, if_neg (by decide)] at e2 e3
    rw [e1, e2, e3]
    exact rbegin_full s L w V h x tov h32
  · rw [if_neg h32] at e1
    rw [e1, if_pos rfl] at e2 e3
    rw [e1, e2, e3]
    exact rbegin_room hS s L V h x tov (by omega) hto

set_option maxHeartbeats 8000000 in
theorem rlist_any {w : World} {S : Nat → Prop} (hS : ∀ k, S k → k < w.heap.size) (s : Bs) (L : List Value) (V : s.p.Wf) (h : DB S s L w) : Calls Try.prog 11 #[.agg L.toArray] w fun e w' =>
    ∃ L', e = .returned (.tuple #[.agg L'.toArray, .int .i64 (s.listI : Int), .int .i64 s.listE]) ∧ DB S s.listS L' w' ∧ Fr No w w' := by
  obtain ⟨I, hI⟩ : ∃ I, I = s.listI := ⟨_, rfl⟩
  obtain ⟨E, hE⟩ : ∃ E, E = s.listE := ⟨_, rfl⟩
  obtain ⟨s', hs'⟩ : ∃ t, t = s.listS := ⟨_, rfl⟩
  have HBG := Lib.hid (fun X (f : Fr No w X) => rbegin_any (up_lt hS f) s L V (h.up f) Bs.lister (.slice none 0 0) (fun _ _ => ⟨none, 0, rfl, fun i hi => by simp [Bs.lister] at hi⟩) I E s' hE (by rw [hI, hE]; rfl) (by rw [hs', hE]; rfl))
  have HW' : Hid (s'.p.Wf) := Lib.hid (by rw [hs']; unfold Bs.listS; split <;> exact V)
  have HL71 : Hid (L.length = 71) := Lib.hid (h.len V)
  have HAL := Lib.hid (alloc_boxk w L)
  have HR := Lib.hid (RK.new w L)
  obtain ⟨q, hq⟩ : ∃ q, q = w.heap.size := ⟨_, rfl⟩
  obtain ⟨c, hc⟩ : ∃ c, c = w.heap.size + 1 := ⟨_, rfl⟩
  have HQ := Lib.hid hq
  rw [← hc] at HAL HR
  rw [← hq] at HR
  rw [← hI, ← hE, ← hs']
  clear hq hc h V hI hE hs'
  go_enter Try.func11, Try.ntmps11
  go_wp2_with (first
    | (refine wpList_execG (.pointer (some ⟨c, 0, none⟩)) (exec_alloc 37 rfl _ HAL.out) rfl ?_
       rw [← HQ.out]
       refine wpList_world (fun W => RK w q c L zeroK W) HR.out ?_
       intro X hX
       have HX := Lib.hid hX
       have HLD := Lib.hid (load_rk hX.box HL71.out)
       clear hX)
    | (refine wpList_load_eq rfl 37 _ rfl (.pointer (some ⟨q, 0, none⟩)) (.agg L.toArray) rfl HLD.out ?_))
  refine (HBG.out _ HX.out.fr).mono ?_
  rintro e X1 ⟨L', rfl, hDB, hF⟩
  have HX1 := Lib.hid (HX.out.on hF)
  have HD1 := Lib.hid hDB
  obtain ⟨Z, hZ, hZv, hZF, hZc⟩ := (HX.out.on hF).put (by rfl) (hDB.len HW'.out) hDB.one
  have HST := Lib.hid hZ
  have HSV := Lib.hid hZv
  have HFZ := Lib.hid hZF
  have HDZ : Hid (DB S s' L' Z) := Lib.hid ((hDB.fr (hZc.mono (fun k _ e => .inr (by have := HX.out.c0; have := HX.out.res.lt; omega)))).down (fun _ => .inl))
  clear hDB hF hZ hZv hZF hZc
  go_wp2_with (refine wpList_store_eq rfl 37 _ _ rfl (.pointer (some ⟨c, 0, none⟩)) (.agg L'.toArray) rfl rfl HST.out ?_)
  exact bodyPost_ret (results_cell3 rfl rfl rfl rfl HSV.out) rfl ⟨L', rfl, HDZ.out, HFZ.out⟩

/-! ### Start -/
theorem load_pk {X : World} {q : Nat} {L : List Value} {pa : Option Addr} {pn pc : Nat} {h : List (Nat × Nat)} {tv dv : Value} {f : Nat → Int} (hb : Blk X q 37 L) (hL : L = cellsK pa pn pc h tv f dv) (hl : h.length = 32) :
    (Instr.loadAt 32 (.pointer (some ⟨q, 0, none⟩))).run Try.prog X = .ok (vP pa pn pc h) X :=
  load_range _ (hb.range (o := 0) (l := cellsP pa pn pc h) (fun j v hv => by
    have hj : j < 65 := by have := (List.getElem?_eq_some_iff.1 hv).1; rw [cellsP_len hl] at this; exact this
    rw [Nat.zero_add, hL, cellsK_lo hl hj]
    exact hv)) Try.underlying32 rfl (by rw [cellsP_len hl]; kernel_rfl) _ rfl
def zeroX : List Value := [.int .i64 0, .int .i64 0, .int .u64 0, .bool false, .bool false, .bool false, .bool false, .bool false, .bool false, .bool false, .int .i64 0, .slice none 0 0]
theorem alloc_tk (w : World) : (Instr.alloc 59 true (.tuple #[])).run Try.prog w = .ok (.pointer (some ⟨w.heap.size, 0, none⟩)) (w.alloc (.cells zeroX.toArray 59)) := by kernel_rfl
theorem store_tk {X : World} {b : Nat} {cs vs : List Value} (h : Blk X b 59 cs) (hc : cs.length = 12) (hv : vs.length = 12) (h1 : ∀ u ∈ vs, u.oneCell' = true) :
    ∃ Y, (Instr.storeAt 59 (.pointer (some ⟨b, 0, none⟩)) (.agg vs.toArray)).run Try.prog X = .ok () Y ∧ Blk Y b 59 vs ∧ Fr (· = b) X Y :=
  h.stored vs (by omega) (by rw [hv]; kernel_rfl) (by simpa using h1)
theorem store_bool {X : World} {b i : Nat} {t : TypeId} {cs : List Value} {u : Value} (h : Blk X b t cs) (hu : cs[i]? = some u) (y : Bool) :
    (Instr.storeAt 4 (.pointer (some ⟨b, i, none⟩)) (.bool y)).run Try.prog X = .ok () (X.setCell ⟨b, i, none⟩ (.bool y)) := by
  have c := h.cell hu
  have f := h.frozen i
  simp [go_sem, c, f]
def moved (a b : Int) (n : Nat) : List Value := [.int .i64 a, .int .i64 b, .int .u64 (n : Int), .bool false, .bool false, .bool false, .bool false, .bool false, .bool false, .bool false, .int .i64 0, .slice none 0 0]
theorem moved_sets (a b n : Nat) : ((moved (a : Int) (b : Int) n).set (3 + a % 4) (.bool true)).set (3 + b % 4) (.bool true) = cellsX (Bs.mover a b n) (.slice none 0 0) := by
  have ha : a % 4 = 0 ∨ a % 4 = 1 ∨ a % 4 = 2 ∨ a % 4 = 3 := by omega
  have hb : b % 4 = 0 ∨ b % 4 = 1 ∨ b % 4 = 2 ∨ b % 4 = 3 := by omega
  have e : ∀ k, (Bs.mover a b n).need k = (k == a % 4 || k == b % 4) := fun k => by simp [Bs.mover, Tk.need]
  unfold cellsX
  rw [e 0, e 1, e 2, e 3]
  rcases ha with ha | ha | ha | ha <;> rcases hb with hb | hb | hb | hb <;> rw [ha, hb] <;> rfl

set_option maxHeartbeats 16000000 in
theorem rstart_any {w : World} {S : Nat → Prop} (hS : ∀ k, S k → k < w.heap.size) (s : Bs) (L : List Value) (V : s.p.Wf) (h : DB S s L w) (a b : Int) (n : Nat) (hn : n < 18446744073709551616) : Calls Try.prog 9 #[.agg L.toArray, .int .i64 a, .int .i64 b, .int .u64 (n : Int)] w fun e w' =>
    ∃ L', e = .returned (.tuple #[.agg L'.toArray, .int .i64 (s.startI a b : Int), .int .i64 (s.startE a b)]) ∧ DB S (s.startS a b n) L' w' ∧ Fr No w w' := by
  obtain ⟨I, hI⟩ : ∃ I, I = s.startI a b := ⟨_, rfl⟩
  obtain ⟨E, hE⟩ : ∃ E, E = s.startE a b := ⟨_, rfl⟩
  obtain ⟨s', hs'⟩ : ∃ t, t = s.startS a b n := ⟨_, rfl⟩
  have HBG := Lib.hid (fun (ka kb : Nat) (ea : a = (ka : Int)) (eb : b = (kb : Int)) (h1 : s.p.has a = true) (h2 : s.p.has b = true) X (f : Fr No w X) => rbegin_any (up_lt hS f) s L V (h.up f) (Bs.mover ka kb n) (.slice none 0 0) (fun _ _ => ⟨none, 0, rfl, fun i hi => by simp [Bs.mover] at hi⟩) I E s'
    (by rw [hE]; unfold Bs.startE; rw [h1, h2]; simp) (by rw [hI, hE]; rfl) (by rw [hs', hE]; unfold Bs.startS; rw [ea, eb]; rfl))
  have HNO : Hid (E = 3 → I = 0 ∧ s' = s) := Lib.hid (fun e => by
    rw [hE] at e
    exact ⟨by rw [hI]; unfold Bs.startI; rw [if_neg (by rw [e]; decide)], by rw [hs']; unfold Bs.startS; rw [if_neg (by rw [e]; decide)]⟩)
  have HNA : Hid (s.p.has a = false → E = 3) := Lib.hid (fun e => by rw [hE]; unfold Bs.startE; rw [if_pos (.inl e)])
  have HNB : Hid (s.p.has b = false → E = 3) := Lib.hid (fun e => by rw [hE]; unfold Bs.startE; rw [if_pos (.inr e)])
  have HW' : Hid (s'.p.Wf) := Lib.hid (by rw [hs']; unfold Bs.startS; split <;> exact V)
  have HL71 : Hid (L.length = 71) := Lib.hid (h.len V)
  have HL1 : Hid (∀ u ∈ L, u.oneCell' = true) := Lib.hid h.one
  have HDB := Lib.hid h
  have HAL := Lib.hid (alloc_boxk w L)
  have HR := Lib.hid (RK.new w L)
  obtain ⟨pa, pc, ta, tc, da, dc, ps, hkk⟩ := h
  have hcells := (hkk w (Fr.refl _ _)).cells
  have HLP : Hid (∀ (X : World) (q : Nat), Blk X q 37 L → (Instr.loadAt 32 (.pointer (some ⟨q, 0, none⟩))).run Try.prog X = .ok (vP pa s.p.b.length pc s.p.h) X) := Lib.hid (fun X q hb => load_pk hb hcells V.hl)
  have HIA := Lib.hid (fun X => rin_any s.p pa pc a X V.b2)
  have HIB := Lib.hid (fun X => rin_any s.p pa pc b X V.b2)
  have HAX : Hid (s.p.has a = true → ∃ k : Nat, a = (k : Int) ∧ k < s.p.b.length) := Lib.hid (fun e => Ps.has_nat e)
  have HBX : Hid (s.p.has b = true → ∃ k : Nat, b = (k : Int) ∧ k < s.p.b.length) := Lib.hid (fun e => Ps.has_nat e)
  obtain ⟨P, hP⟩ : ∃ P, P = cellsP pa s.p.b.length pc s.p.h := ⟨_, rfl⟩
  rw [vP, ← hP] at HIA HIB
  have HLP2 : Hid (∀ (X : World) (q : Nat), Blk X q 37 L → (Instr.loadAt 32 (.pointer (some ⟨q, 0, none⟩))).run Try.prog X = .ok (.agg P.toArray) X) := Lib.hid (by rw [hP]; exact HLP.out)
  obtain ⟨q, hq⟩ : ∃ q, q = w.heap.size := ⟨_, rfl⟩
  obtain ⟨c, hc⟩ : ∃ c, c = w.heap.size + 1 := ⟨_, rfl⟩
  have HQ := Lib.hid hq
  rw [← hc] at HAL HR
  rw [← hq] at HR
  rw [← hI, ← hE, ← hs']
  obtain ⟨ya, hya⟩ : ∃ y, y = s.p.has a := ⟨_, rfl⟩
  obtain ⟨yb, hyb⟩ : ∃ y, y = s.p.has b := ⟨_, rfl⟩
  rw [← hya] at HIA HNA HAX HBG
  rw [← hyb] at HIB HNB HBX HBG
  clear hq hc V hI hE hs' hkk hcells hP HLP hya hyb
  go_enter Try.func9, Try.ntmps9
  go_wp2_with (first
    | (refine wpList_execG (.pointer (some ⟨c, 0, none⟩)) (exec_alloc 37 rfl _ HAL.out) rfl ?_
       rw [← HQ.out]
       refine wpList_world (fun W => RK w q c L zeroK W) HR.out ?_
       intro X hX
       have HX := Lib.hid hX
       have HLD := Lib.hid (HLP2.out X q hX.box)
       clear hX)
    | (refine wpList_load_eq rfl 32 _ rfl (.pointer (some ⟨q, 0, none⟩)) (.agg P.toArray) rfl HLD.out ?_))
  refine (HIA.out _).mono ?_
  rintro e X1 ⟨rfl, hF⟩
  have HX1 := Lib.hid (HX.out.on hF)
  clear hF
  have HLD := Lib.hid (HLP2.out X1 q HX1.out.box)
  have HLB := Lib.hid (load_rk HX1.out.box HL71.out)
  cases ya with
  | false =>
    obtain rfl : E = 3 := HNA.out rfl
    obtain ⟨rfl, rfl⟩ := HNO.out rfl
    obtain ⟨Z, hZ, hZv, hZF, hZc⟩ := HX1.out.put (by rfl) HL71.out HL1.out
    have HST := Lib.hid hZ
    have HSV := Lib.hid hZv
    have HFZ := Lib.hid hZF
    clear hZ hZv hZF hZc
    go_wp2_with (first
      | (refine wpList_load_eq rfl 37 _ rfl (.pointer (some ⟨q, 0, none⟩)) (.agg L.toArray) rfl HLB.out ?_)
      | (refine wpList_store_eq rfl 37 _ _ rfl (.pointer (some ⟨c, 0, none⟩)) (.agg L.toArray) rfl rfl HST.out ?_))
    exact bodyPost_ret (results_cell3 rfl rfl rfl rfl HSV.out) rfl ⟨L, rfl, HDB.out.no HFZ.out, HFZ.out⟩
  | true =>
    go_wp2_with (refine wpList_load_eqG 32 _ rfl (.pointer (some ⟨q, 0, none⟩)) (.agg P.toArray) rfl HLD.out (by kernel_rfl) ?_)
    refine (HIB.out _).mono ?_
    rintro e X2 ⟨rfl, hF⟩
    have HX2 := Lib.hid (HX1.out.on hF)
    clear hF
    have HLB := Lib.hid (load_rk HX2.out.box HL71.out)
    cases yb with
    | false =>
      obtain rfl : E = 3 := HNB.out rfl
      obtain ⟨rfl, rfl⟩ := HNO.out rfl
      obtain ⟨Z, hZ, hZv, hZF, hZc⟩ := HX2.out.put (by rfl) HL71.out HL1.out
      have HST := Lib.hid hZ
      have HSV := Lib.hid hZv
      have HFZ := Lib.hid hZF
      clear hZ hZv hZF hZc
      go_wp2_with (first
        | (refine wpList_load_eq rfl 37 _ rfl (.pointer (some ⟨q, 0, none⟩)) (.agg L.toArray) rfl HLB.out ?_)
        | (refine wpList_store_eq rfl 37 _ _ rfl (.pointer (some ⟨c, 0, none⟩)) (.agg L.toArray) rfl rfl HST.out ?_))
      exact bodyPost_ret (results_cell3 rfl rfl rfl rfl HSV.out) rfl ⟨L, rfl, HDB.out.no HFZ.out, HFZ.out⟩
    | true =>
      obtain ⟨ka, rfl, hka⟩ := HAX.out (by simp)
      obtain ⟨kb, rfl, hkb⟩ := HBX.out (by simp)
      obtain ⟨fa, hfa⟩ : ∃ x, x = ka % 4 := ⟨_, rfl⟩
      obtain ⟨fb, hfb⟩ : ∃ x, x = kb % 4 := ⟨_, rfl⟩
      obtain ⟨b1, hb1⟩ : ∃ x, x = X2.heap.size := ⟨_, rfl⟩
      have HA2 := Lib.hid (alloc_tk X2)
      rw [← hb1] at HA2
      have hB0 : Blk (X2.alloc (.cells zeroX.toArray 59)) b1 59 zeroX := by rw [hb1]; exact Blk.new X2 _ _
      obtain ⟨Y0, hY0⟩ : ∃ x, x = X2.alloc (.cells zeroX.toArray 59) := ⟨_, rfl⟩
      rw [← hY0] at HA2 hB0
      have hf0 : Fr No X2 Y0 := by rw [hY0]; exact (Fr.refl No X2).alloc _
      obtain ⟨Y1, hY1, hB1, hf1⟩ := store_tk hB0 rfl (vs := moved (ka : Int) (kb : Int) n) rfl (by intro u hu; simp [moved] at hu; rcases hu with rfl | rfl | rfl | rfl | rfl | rfl <;> rfl)
      have hu1 : (moved (ka : Int) (kb : Int) n)[3 + fa]? = some (.bool false) := by
        have hc : fa = 0 ∨ fa = 1 ∨ fa = 2 ∨ fa = 3 := by omega
        rcases hc with rfl | rfl | rfl | rfl <;> rfl
      have hst2 := store_bool hB1 hu1 true
      have hB2 := hB1.set (3 + fa) (.bool true)
      obtain ⟨u2, hu2⟩ : ∃ u, ((moved (ka : Int) (kb : Int) n).set (3 + fa) (.bool true))[3 + fb]? = some u := ⟨_, List.getElem?_eq_getElem (by rw [List.length_set]; show 3 + fb < 12; omega)⟩
      have hst3 := store_bool hB2 hu2 true
      have hB3 := hB2.set (3 + fb) (.bool true)
      rw [hfa, hfb, moved_sets ka kb n, ← hfa, ← hfb] at hB3
      have hf2 : Fr (· = b1) Y1 (Y1.setCell ⟨b1, 3 + fa, none⟩ (.bool true)) := (Fr.refl (· = b1) Y1).setCell (p := ⟨b1, 3 + fa, none⟩) (.inl rfl) _
      have hf3 : Fr (· = b1) Y1 ((Y1.setCell ⟨b1, 3 + fa, none⟩ (.bool true)).setCell ⟨b1, 3 + fb, none⟩ (.bool true)) := hf2.setCell (p := ⟨b1, 3 + fb, none⟩) (.inl rfl) _
      obtain ⟨Y2, hY2⟩ : ∃ x, x = Y1.setCell ⟨b1, 3 + fa, none⟩ (.bool true) := ⟨_, rfl⟩
      rw [← hY2] at hst2 hst3 hB3 hf3
      obtain ⟨Y3, hY3⟩ : ∃ x, x = Y2.setCell ⟨b1, 3 + fb, none⟩ (.bool true) := ⟨_, rfl⟩
      rw [← hY3] at hst3 hB3 hf3
      have hfw : Fr No X2 Y3 := (hf0.trans' hf1 (fun k hk e => by omega)).trans' hf3 (fun k hk e => by omega)
      have HX3 := Lib.hid (HX2.out.on hfw)
      have HLB3 := Lib.hid (load_rk HX3.out.box HL71.out)
      have HLT3 := Lib.hid (load_task hB3 rfl)
      have HS1 := Lib.hid hY1
      have HS2 := Lib.hid hst2
      have HS3 := Lib.hid hst3
      have m1 : (ka : Int) % 4 = (fa : Int) := by omega
      have m2 : (kb : Int) % 4 = (fb : Int) := by omega
      have m3 : Int.tmod (ka : Int) 4 = (fa : Int) := by rw [Int.tmod_eq_emod_of_nonneg (by omega)]; exact m1
      have m4 : Int.tmod (kb : Int) 4 = (fb : Int) := by rw [Int.tmod_eq_emod_of_nonneg (by omega)]; exact m2
      have l1 : IntKind.i64.wrap (fa : Int) = (fa : Int) := IntWalk.i64_in _ (by omega)
      have l2 : IntKind.i64.wrap (fb : Int) = (fb : Int) := IntWalk.i64_in _ (by omega)
      have v1 : fa < 4 := by omega
      have v2 : fb < 4 := by omega
      have HCALL := Lib.hid (HBG.out ka kb rfl rfl (by simp) (by simp) Y3 HX3.out.fr)
      have HMV : Hid ((.agg #[.int .i64 (ka : Int), .int .i64 (kb : Int), .int .u64 (n : Int), .bool false, .bool false, .bool false, .bool false, .bool false, .bool false, .bool false, .int .i64 0, .slice none 0 0] : Value) = .agg (moved (ka : Int) (kb : Int) n).toArray) := Lib.hid rfl
      clear hka hkb hfa hfb hb1 hB0 hY0 hf0 hY1 hB1 hf1 hu1 hst2 hB2 hu2 hst3 hB3 hf2 hf3 hY2 hY3 hfw
      go_wp2_with (first
        | (refine wpList_execG (.pointer (some ⟨b1, 0, none⟩)) (exec_alloc 59 rfl _ HA2.out) rfl ?_)
        | (refine wpList_store_eq rfl 59 _ _ rfl (.pointer (some ⟨b1, 0, none⟩)) (.agg (moved (ka : Int) (kb : Int) n).toArray) rfl (by first | rfl | exact HMV.out) HS1.out ?_)
        | (refine wpList_store_eq rfl 4 _ _ rfl (.pointer (some ⟨b1, 3 + fa, none⟩)) (.bool true) rfl rfl HS2.out ?_)
        | (refine wpList_store_eq rfl 4 _ _ rfl (.pointer (some ⟨b1, 3 + fb, none⟩)) (.bool true) rfl rfl HS3.out ?_)
        | (refine wpList_load_eq rfl 37 _ rfl (.pointer (some ⟨q, 0, none⟩)) (.agg L.toArray) rfl HLB3.out ?_)
        | (refine wpList_load_eq rfl 59 _ rfl (.pointer (some ⟨b1, 0, none⟩)) (.agg (cellsX (Bs.mover ka kb n) (.slice none 0 0)).toArray) rfl HLT3.out ?_))
      refine HCALL.out.mono ?_
      rintro e X4 ⟨L', rfl, hDB, hF⟩
      obtain ⟨Z, hZ, hZv, hZF, hZc⟩ := (HX3.out.on hF).put (by rfl) (hDB.len HW'.out) hDB.one
      have HST := Lib.hid hZ
      have HSV := Lib.hid hZv
      have HFZ := Lib.hid hZF
      have HDZ : Hid (DB S s' L' Z) := Lib.hid ((hDB.fr (hZc.mono (fun k _ e => .inr (by have := HX3.out.c0; have := HX3.out.res.lt; omega)))).down (fun _ => .inl))
      clear hDB hF hZ hZv hZF hZc
      go_wp2_with (refine wpList_store_eq rfl 37 _ _ rfl (.pointer (some ⟨c, 0, none⟩)) (.agg L'.toArray) rfl rfl HST.out ?_)
      exact bodyPost_ret (results_cell3 rfl rfl rfl rfl HSV.out) rfl ⟨L', rfl, HDZ.out, HFZ.out⟩
end Go.Proofs.Ytldcglmpnildiaa

namespace Go.Proofs.Ytldcglmpnildiaa
open Go.RowKit
set_option linter.unusedVariables false
set_option maxRecDepth 100000

theorem list_succ10 {α : Type} {l : List α} {n : Nat} (h : l.length = n + 1) : ∃ x t, l = x :: t ∧ t.length = n := by
  cases l with
  | nil => simp at h
  | cons x t => exact ⟨x, t, rfl, by simpa using h⟩
theorem build_k (ao : Option Addr) (n c : Nat) (h : List (Nat × Nat)) (hh : h.length = 32) (w : World) :
    (Instr.build 37 #[(0, .agg (cellsP ao n c h).toArray), (2, .agg #[.int .i64 (-1), .int .i64 (-1), .int .i64 (-1), .int .i64 (-1)])]).run Try.prog w = .ok (.agg (cellsK ao n c h (.slice none 0 0) (fun _ => -1) (.slice none 0 0)).toArray) w := by
  obtain ⟨⟨a0, b0⟩, h1, rfl, k1⟩ := list_succ10 hh
  obtain ⟨⟨a1, b1⟩, h2, rfl, k2⟩ := list_succ10 k1
  obtain ⟨⟨a2, b2⟩, h3, rfl, k3⟩ := list_succ10 k2
  obtain ⟨⟨a3, b3⟩, h4, rfl, k4⟩ := list_succ10 k3
  obtain ⟨⟨a4, b4⟩, h5, rfl, k5⟩ := list_succ10 k4
  obtain ⟨⟨a5, b5⟩, h6, rfl, k6⟩ := list_succ10 k5
  obtain ⟨⟨a6, b6⟩, h7, rfl, k7⟩ := list_succ10 k6
  obtain ⟨⟨a7, b7⟩, h8, rfl, k8⟩ := list_succ10 k7
  obtain ⟨⟨a8, b8⟩, h9, rfl, k9⟩ := list_succ10 k8
  obtain ⟨⟨a9, b9⟩, h10, rfl, k10⟩ := list_succ10 k9
  obtain ⟨⟨a10, b10⟩, h11, rfl, k11⟩ := list_succ10 k10
  obtain ⟨⟨a11, b11⟩, h12, rfl, k12⟩ := list_succ10 k11
  obtain ⟨⟨a12, b12⟩, h13, rfl, k13⟩ := list_succ10 k12
  obtain ⟨⟨a13, b13⟩, h14, rfl, k14⟩ := list_succ10 k13
  obtain ⟨⟨a14, b14⟩, h15, rfl, k15⟩ := list_succ10 k14
  obtain ⟨⟨a15, b15⟩, h16, rfl, k16⟩ := list_succ10 k15
  obtain ⟨⟨a16, b16⟩, h17, rfl, k17⟩ := list_succ10 k16
  obtain ⟨⟨a17, b17⟩, h18, rfl, k18⟩ := list_succ10 k17
  obtain ⟨⟨a18, b18⟩, h19, rfl, k19⟩ := list_succ10 k18
  obtain ⟨⟨a19, b19⟩, h20, rfl, k20⟩ := list_succ10 k19
  obtain ⟨⟨a20, b20⟩, h21, rfl, k21⟩ := list_succ10 k20
  obtain ⟨⟨a21, b21⟩, h22, rfl, k22⟩ := list_succ10 k21
  obtain ⟨⟨a22, b22⟩, h23, rfl, k23⟩ := list_succ10 k22
  obtain ⟨⟨a23, b23⟩, h24, rfl, k24⟩ := list_succ10 k23
  obtain ⟨⟨a24, b24⟩, h25, rfl, k25⟩ := list_succ10 k24
  obtain ⟨⟨a25, b25⟩, h26, rfl, k26⟩ := list_succ10 k25
  obtain ⟨⟨a26, b26⟩, h27, rfl, k27⟩ := list_succ10 k26
  obtain ⟨⟨a27, b27⟩, h28, rfl, k28⟩ := list_succ10 k27
  obtain ⟨⟨a28, b28⟩, h29, rfl, k29⟩ := list_succ10 k28
  obtain ⟨⟨a29, b29⟩, h30, rfl, k30⟩ := list_succ10 k29
  obtain ⟨⟨a30, b30⟩, h31, rfl, k31⟩ := list_succ10 k30
  obtain ⟨⟨a31, b31⟩, h32, rfl, k32⟩ := list_succ10 k31
  obtain rfl : h32 = [] := List.eq_nil_of_length_eq_zero k32
  kernel_rfl

theorem build_m (w : World) : (Instr.build 34 #[(0, .int .i64 (-1)), (1, .int .i64 (-1)), (2, .int .i64 (-1)), (3, .int .i64 (-1))]).run Try.prog w = .ok (.agg #[.int .i64 (-1), .int .i64 (-1), .int .i64 (-1), .int .i64 (-1)]) w := by kernel_rfl
set_option maxHeartbeats 8000000 in
theorem rnew10_any (ao : Option Addr) (n cap : Nat) (b : List Nat) (w : World) (hn : n = b.length) (hm : n ≤ 1000) (hx : Nums w ao n (fun i => b.getD i 0)) : Calls Try.prog 7 #[.slice ao n cap] w fun e w' =>
    ∃ L, e = .returned (.tuple #[.agg L.toArray, .bool (Ps.newOk b)]) ∧ L.length = 71 ∧ (∀ u ∈ L, u.oneCell' = true) ∧ (Ps.newOk b = true → DB (fun k => k < w.heap.size) (Bs.newB b) L w') ∧ Fr No w w' := by
  have HNW := Lib.hid (fun X (hX : Nums X ao n (fun i => b.getD i 0)) => rnew_any ao n cap b X hn hm hX)
  have HX := Lib.hid hx
  obtain ⟨c, hc⟩ : ∃ c, c = w.heap.size := ⟨_, rfl⟩
  have HAL := Lib.hid (alloc_rk w)
  rw [← hc] at HAL
  obtain ⟨X0, hX0⟩ : ∃ x, x = w.alloc (.cells zeroK.toArray 37) := ⟨_, rfl⟩
  have HB0 : Hid (Blk X0 c 37 zeroK) := Lib.hid (by rw [hX0, hc]; exact Blk.new w _ _)
  have HF0 : Hid (Fr No w X0) := Lib.hid (by rw [hX0]; exact (Fr.refl No w).alloc _)
  rw [← hX0] at HAL
  have HC := Lib.hid hc
  clear hn hm hx hc hX0
  go_enter Try.func7, Try.ntmps7
  go_wp2_with (refine wpList_execG (.pointer (some ⟨c, 0, none⟩)) (exec_alloc 37 rfl _ HAL.out) rfl ?_)
  refine (HNW.out _ (HX.out.fr HF0.out (fun _ _ => id))).mono ?_
  intro e X1 hD
  obtain ⟨pa, pn, pc, h, he, hh, hok, hF⟩ : ∃ (pa : Option Addr) (pn pc : Nat) (h : List (Nat × Nat)), e = .returned (.tuple #[vP pa pn pc h, .bool (Ps.newOk b)]) ∧ h.length = 32 ∧ (Ps.newOk b = true → pn = b.length ∧ h = (Ps.newS b).h ∧ ∃ r, pa = some ⟨r, 0, none⟩ ∧ X0.heap.size ≤ r ∧ r < X1.heap.size ∧ DAt (some ⟨r, 0, none⟩) pc (Ps.newS b) X1) ∧ Fr No X0 X1 := by
    unfold DNew at hD
    cases hy : Ps.newOk b with
    | true =>
      rw [hy, if_pos rfl] at hD
      obtain ⟨r, cc, he, h1, h2, h3, h4⟩ := hD
      exact ⟨_, _, _, _, he, (Ps.Wf.new hy).hl, fun _ => ⟨rfl, rfl, r, rfl, h1, h2, h3⟩, h4⟩
    | false =>
      rw [hy, if_neg (by simp)] at hD
      exact ⟨_, _, _, _, hD.1, rfl, fun h => by simp at h, hD.2⟩
  subst he
  obtain ⟨y, hy⟩ : ∃ y, y = Ps.newOk b := ⟨_, rfl⟩
  have HY := Lib.hid hy
  rw [← hy] at hok
  obtain ⟨b4, hb4⟩ : ∃ x, x = X1.heap.size := ⟨_, rfl⟩
  have HA2 : Hid ((Instr.alloc 32 true (.tuple #[])).run Try.prog X1 = .ok (.pointer (some ⟨b4, 0, none⟩)) (X1.alloc (.cells zeroP.toArray 32))) := Lib.hid (by rw [hb4]; exact alloc_rp X1)
  obtain ⟨X2, hX2⟩ : ∃ x, x = X1.alloc (.cells zeroP.toArray 32) := ⟨_, rfl⟩
  have hb2 : Blk X2 b4 32 zeroP := by rw [hX2, hb4]; exact Blk.new X1 _ _
  have hf2 : Fr No X1 X2 := by rw [hX2]; exact (Fr.refl No X1).alloc _
  rw [← hX2] at HA2
  obtain ⟨X3, hs3, hb3, hf3⟩ := store_rp hb2 (L := cellsP pa pn pc h) (cellsP_len rfl) (cellsP_len hh) cellsP_one
  have hcl : c < X1.heap.size := by have := HB0.out.lt; have := hF.size; omega
  have hc3 : Blk X3 c 37 zeroK := ((HB0.out.fr hF id).fr hf2 id).fr hf3 (by omega)
  have HS3 := Lib.hid hs3
  have HL3 := Lib.hid (load_rp hb3 (cellsP_len hh))
  have HBK := Lib.hid (fun X => build_k pa pn pc h hh X)
  obtain ⟨L, hL⟩ : ∃ L, L = cellsK pa pn pc h (.slice none 0 0) (fun _ => -1) (.slice none 0 0) := ⟨_, rfl⟩
  have HL71 : Hid (L.length = 71) := Lib.hid (by rw [hL]; exact cellsK_len hh)
  have HL1 : Hid (∀ u ∈ L, u.oneCell' = true) := Lib.hid (by rw [hL]; exact cellsK_one rfl rfl)
  obtain ⟨Z, hZ, hBZ, hFZ⟩ := store_rk hc3 (by rfl) HL71.out HL1.out
  have HST := Lib.hid hZ
  have HSV := Lib.hid (var_rk hBZ HL71.out)
  have HFW : Hid (Fr No w Z) := Lib.hid ((((HF0.out.trans hF).trans hf2).trans' hf3 (fun k hk e => by have := HF0.out.size; have := hF.size; omega)).trans' hFZ (fun k hk e => by have := HC.out; omega))
  have HDZ : Hid (y = true → DB (fun k => k < w.heap.size) (Bs.newB b) L Z) := Lib.hid (fun hyt => by
    obtain ⟨rfl, rfl, r, rfl, h1, h2, h3⟩ := hok hyt
    refine ⟨some ⟨r, 0, none⟩, pc, none, 0, none, 0, [], fun Z2 fz => ⟨?_, ?_, rfl, fun j u hu => by simp [flatX] at hu, fun x hx => by simp at hx, fun j u hu => by simp [Bs.newB, cellsD] at hu, fun _ => rfl, fun _ => rfl⟩⟩
    · rw [hL]
      unfold cellsK
      rfl
    · refine (((h3.no hf2).fr hf3 (fun a ha e => ?_)).fr hFZ (fun a ha e => ?_)).fr fz (fun a ha e => ?_)
      all_goals
        injection ha with ha
        subst ha
        have := HB0.out.lt
        have := HF0.out.size
        have e9 : r = _ := rfl
        simp only at e
        omega)
  rw [vP]
  obtain ⟨P, hP⟩ : ∃ P, P = cellsP pa pn pc h := ⟨_, rfl⟩
  rw [← hP] at HS3 HL3 HBK ⊢
  rw [← hL] at HBK
  clear hD hok hF hh hb4 hX2 hb2 hf2 hs3 hb3 hf3 hcl hc3 hL hZ hBZ hFZ hP hy
  go_wp2_with (first
    | (refine wpList_execG (.pointer (some ⟨b4, 0, none⟩)) (exec_alloc 32 rfl _ HA2.out) rfl ?_)
    | (refine wpList_store_eq rfl 32 _ _ rfl (.pointer (some ⟨b4, 0, none⟩)) (.agg P.toArray) rfl rfl HS3.out ?_)
    | (refine wpList_load_eq rfl 32 _ rfl (.pointer (some ⟨b4, 0, none⟩)) (.agg P.toArray) rfl HL3.out ?_
       refine wpList_execG (.agg #[.int .i64 (-1), .int .i64 (-1), .int .i64 (-1), .int .i64 (-1)]) (exec_build 34 _ rfl #[(0, .int .i64 (-1)), (1, .int .i64 (-1)), (2, .int .i64 (-1)), (3, .int .i64 (-1))] (by simp [go_sem]) _ (build_m _)) rfl ?_
       refine wpList_execG (.agg L.toArray) (exec_build 37 _ rfl #[(0, .agg P.toArray), (2, .agg #[.int .i64 (-1), .int .i64 (-1), .int .i64 (-1), .int .i64 (-1)])] (by simp [go_sem, Act.put]) _ (HBK.out _)) rfl ?_)
    | (refine wpList_store_eq rfl 37 _ _ rfl (.pointer (some ⟨c, 0, none⟩)) (.agg L.toArray) rfl rfl HST.out ?_))
  exact bodyPost_ret (results_cellT rfl rfl rfl HSV.out) rfl ⟨L, by rw [← HY.out]; rfl, HL71.out, HL1.out, fun e => HDZ.out (HY.out.trans e), HFW.out⟩

set_option maxHeartbeats 4000000 in
theorem rsameI_any (ao bo : Option Addr) (n c1 c2 : Nat) (xs : Nat → Int) (w : World) (hn : n ≤ 1000) (h1 : ∀ i, i < n → ∃ a, ao = some a ∧ w.cell? (a.add i) = some (.int .i64 (xs i))) (h2 : ∀ i, i < n → ∃ a, bo = some a ∧ w.cell? (a.add i) = some (.int .i64 (xs i))) : Calls Try.prog 14 #[.slice ao n c1, .slice bo n c2] w fun e w' => e = .returned (.bool true) ∧ Fr No w w' := by
  have HX := Lib.hid h1
  have HY := Lib.hid h2
  have HN := Lib.hid hn
  clear h1 h2 hn
  go_enter Try.func14, Try.ntmps14
  go_wp2_with fail
  go_loopw [5] (fun c wr => ∃ (i : Nat), i ≤ n ∧ c = .int .i64 i ∧ Fr No w wr) (fun c _ => n - (intOf c).toNat)
  case atStart => exact ⟨0, by omega, rfl, Fr.refl _ _⟩
  case round =>
    obtain ⟨i, hi, rfl, hF⟩ := hrel
    have HF := Lib.hid hF
    clear hF
    by_cases hlt : i < n
    · have t3 : (i : Int) < (n : Int) := by omega
      obtain ⟨a, hao, hca⟩ := HX.out i hlt
      obtain ⟨b, hbo, hcb⟩ := HY.out i hlt
      obtain ⟨x, hx⟩ : ∃ x, x = xs i := ⟨_, rfl⟩
      rw [← hx] at hca hcb
      have ca := HF.out.cellA id hca
      have cb := HF.out.cellA id hcb
      obtain ⟨qa, hqa⟩ : ∃ q, a.add i = q := ⟨_, rfl⟩
      obtain ⟨qb, hqb⟩ : ∃ q, b.add i = q := ⟨_, rfl⟩
      rw [hqa] at ca
      rw [hqb] at cb
      obtain ⟨k1, hk1⟩ : ∃ k, k = i + 1 := ⟨_, rfl⟩
      have HK1 : Hid (k1 = i + 1 ∧ k1 ≤ n) := Lib.hid ⟨hk1, by omega⟩
      have s1 : (i : Int) + 1 = (k1 : Int) := by omega
      have l1 : IntKind.i64.wrap (k1 : Int) = (k1 : Int) := IntWalk.i64_in _ (by have := HN.out; omega)
      have HFd := Lib.hid HF.out.drew
      rw [hao, hbo]
      clear hlt hi hk1 hao hbo hca hcb hx
      go_wp2_with fail
      go_region
      all_goals
        go_wp2
        exact ⟨⟨k1, HK1.out.2, rfl, HFd.out⟩, by have := HK1.out; simp [intOf]; omega⟩
    · have t3 : ¬ (i : Int) < (n : Int) := by omega
      clear hlt hi
      go_wp2
      go_ret
      exact ⟨rfl, HF.out⟩
end Go.Proofs.Ytldcglmpnildiaa

namespace Go.Proofs.Ytldcglmpnildiaa
open Go.RowKit
set_option linter.unusedVariables false
set_option maxRecDepth 100000

theorem exec_append10 {P : Program} {o : Oper} {ev : Operand → Value} {w w' : World} (s x : Operand) (t : TypeId) (ho : o.op = .call { callee := .builtin .append, args := #[s, x], argTypes := #[t, t] }) (vs vx v : Value) (hs : ev s = vs) (hx : ev x = vx) (hr : (Builtin.append_ #[t, t] o.type #[vs, vx]).run P w = .ok v w') : (execOp ev o).run P w = .ok (.value v) w' := by
  unfold execOp
  rw [ho]
  subst hs hx
  simp [resolve, invoke, builtin, hr]
/-- The tasks' copy, which a call owns. -/
def TR (B g c : Nat) (ps : List (Tk × Value)) (w : World) : Prop := w.ownsRow B 59 12 (.slice (some ⟨g, 0, none⟩) ps.length c) ps.length (flatX ps)
section
variable {B g c : Nat} {ps : List (Tk × Value)} {w w' : World}
theorem TR.lt (h : TR B g c ps w) : B ≤ g ∧ g < w.heap.size := World.ownsRow.lt h g rfl
theorem TR.fr {S : Nat → Prop} (h : TR B g c ps w) (f : Fr S w w') (hn : ¬ S g) : TR B g c ps w' := owns_fr h f (fun k hk e => by injection hk with hk; subst hk; exact hn e)
theorem TR.cell (h : TR B g c ps w) {i j : Nat} {x : Tk × Value} {u : Value} (hx : ps[i]? = some x) (hj : j < 12) (hu : (cellsX x.1 x.2)[j]? = some u) : w.cell? ⟨g, i * 12 + j, none⟩ = some u := by
  have h1 := h.cells (g := g) rfl (i * 12 + j) u (by rw [flatX_at ps i j x hx hj]; exact hu)
  rw [Addr.add_lit, Nat.zero_add] at h1
  exact h1
theorem TR.frozen (h : TR B g c ps w) (j : Nat) : w.frozen? ⟨g, j, none⟩ = false := h.frozenAt j
theorem TR.set (h : TR B g c ps w) {i j : Nat} {x y : Tk × Value} {u : Value} (hx : ps[i]? = some x) (hj : j < 12) (hy : (cellsX x.1 x.2).set j u = cellsX y.1 y.2) : TR B g c (ps.set i y) (w.setCell ⟨g, i * 12 + j, none⟩ u) ∧ Fr (· = g) w (w.setCell ⟨g, i * 12 + j, none⟩ u) := by
  obtain ⟨h1, h2⟩ := h.stored (i * 12 + j) u
  rw [flatX_set ps i j x y u hx hj hy] at h1
  refine ⟨?_, fr_cellq (Fr.refl _ _) u⟩
  unfold TR
  rw [List.length_set]
  exact h1
theorem TR.row (h : TR B g c ps w) : RowA w (some ⟨g, 0, none⟩) (flatX ps) := by
  obtain ⟨ao, cc, he, hr, _⟩ := RowA.own h
  injection he with e1 _ _
  rw [e1]
  exact hr
end
theorem tr_of {w : World} {B n : Nat} {v : Value} {ps : List (Tk × Value)} (h : w.ownsRow B 59 12 v n (flatX ps)) (hn : n = ps.length) (h1 : 1 ≤ n) : ∃ g c, v = .slice (some ⟨g, 0, none⟩) n c ∧ TR B g c ps w := by
  subst hn
  rcases h.2 with ⟨rfl, h0⟩ | ⟨g, cap, cur, rfl, r⟩
  · omega
  · exact ⟨g, cap, rfl, h⟩
section
variable {S : Nat → Prop} {s : Bs} {L : List Value} {w : World} {pa ta da : Option Addr} {pc tc dc : Nat} {ps : List (Tk × Value)}
theorem map_set_fst (ps : List (Tk × Value)) (k : Nat) (x : Tk) (v : Value) : (ps.set k (x, v)).map Prod.fst = (ps.map Prod.fst).set k x := by rw [List.map_set]
theorem DBk.hcell (h : DBk s L w pa pc ta tc da dc ps) (V : s.p.Wf) {j : Nat} (hj : j < 4) : L[66 + j]? = some (.int .i64 (s.hold j)) := by
  rw [h.cells]
  exact cellsK_at V.hl hj
end

/-! ### No task, or over -/
set_option maxHeartbeats 8000000 in
theorem rstep_none {w : World} {S : Nat → Prop} (s : Bs) (L : List Value) (V : s.Inv) (h : DB S s L w) (i : Int) (hg : s.goes i = false) : Calls Try.prog 13 #[.agg L.toArray, .int .i64 i] w fun e w' =>
    ∃ L', e = .returned (.tuple #[.agg L'.toArray, .int .i64 3]) ∧ DB S s L' w' ∧ Fr No w w' := by
  have HDB := Lib.hid h
  have HL71 : Hid (L.length = 71) := Lib.hid (h.len V.wf)
  have HL1 : Hid (∀ u ∈ L, u.oneCell' = true) := Lib.hid h.one
  have HAL := Lib.hid (alloc_boxk w L)
  have HR := Lib.hid (RK.new w L)
  obtain ⟨pa, pc, ta, tc, da, dc, ps, hkk⟩ := h
  obtain ⟨n, hn⟩ : ∃ n, n = s.t.length := ⟨_, rfl⟩
  have HC65 : Hid (L[65]? = some (.slice ta n tc)) := Lib.hid (by rw [hn]; exact (hkk w (Fr.refl _ _)).cellT V.wf)
  have HTK := Lib.hid (fun k (hk : k < s.t.length) X (f : Fr No w X) => ((hkk w (Fr.refl _ _)).no f).cell hk)
  obtain ⟨q, hq⟩ : ∃ q, q = w.heap.size := ⟨_, rfl⟩
  obtain ⟨c, hc⟩ : ∃ c, c = w.heap.size + 1 := ⟨_, rfl⟩
  have HQ := Lib.hid hq
  rw [← hc] at HAL HR
  rw [← hq] at HR
  have HN32 : Hid (n ≤ 32) := Lib.hid (by rw [hn]; exact V.len)
  have HGO : Hid (¬ (0 ≤ i ∧ i < (n : Int)) ∨ ∃ k : Nat, i = (k : Int) ∧ k < n ∧ (s.tk k).over = true) := Lib.hid (by
    unfold Bs.goes at hg
    by_cases h1 : 0 ≤ i ∧ i < (s.t.length : Int)
    · right
      rw [decide_eq_true h1, Bool.true_and] at hg
      exact ⟨i.toNat, by omega, by omega, by simpa using hg⟩
    · left
      rw [hn]
      exact h1)
  rw [← hn] at HTK
  clear hq hc V hkk hg hn
  by_cases h0 : i < 0
  · have t0 : decide (i < 0) = true := decide_eq_true h0
    clear HGO h0
    go_enter Try.func13, Try.ntmps13
    go_wp2_with (first
      | (refine wpList_execG (.pointer (some ⟨c, 0, none⟩)) (exec_alloc 37 rfl _ HAL.out) rfl ?_
         rw [← HQ.out]
         refine wpList_world (fun W => RK w q c L zeroK W) HR.out ?_
         intro X hX
         have HLB := Lib.hid (load_rk hX.box HL71.out)
         obtain ⟨Z, hZ, hZv, hZF, hZc⟩ := hX.put (by rfl) HL71.out HL1.out
         have HST := Lib.hid hZ
         have HSV := Lib.hid hZv
         have HFZ := Lib.hid hZF
         clear hX hZ hZv hZF hZc)
      | (refine wpList_load_eq rfl 37 _ rfl (.pointer (some ⟨q, 0, none⟩)) (.agg L.toArray) rfl HLB.out ?_)
      | (refine wpList_store_eq rfl 37 _ _ rfl (.pointer (some ⟨c, 0, none⟩)) (.agg L.toArray) rfl rfl HST.out ?_))
    exact bodyPost_ret (results_cellT rfl rfl rfl HSV.out) rfl ⟨L, rfl, HDB.out.no HFZ.out, HFZ.out⟩
  · have t0 : decide (i < 0) = false := decide_eq_false h0
    obtain ⟨k, rfl⟩ : ∃ k : Nat, i = (k : Int) := ⟨i.toNat, by omega⟩
    by_cases h1 : n ≤ k
    · have t1 : decide (n ≤ k) = true := decide_eq_true h1
      have t2 : decide ((n : Int) ≤ (k : Int)) = true := decide_eq_true (by omega)
      clear HGO h0 h1
      go_enter Try.func13, Try.ntmps13
      go_wp2_with (first
        | (refine wpList_execG (.pointer (some ⟨c, 0, none⟩)) (exec_alloc 37 rfl _ HAL.out) rfl ?_
           rw [← HQ.out]
           refine wpList_world (fun W => RK w q c L zeroK W) HR.out ?_
           intro X hX
           have HLB := Lib.hid (load_rk hX.box HL71.out)
           have c65 := hX.box.cell HC65.out
           obtain ⟨Z, hZ, hZv, hZF, hZc⟩ := hX.put (by rfl) HL71.out HL1.out
           have HST := Lib.hid hZ
           have HSV := Lib.hid hZv
           have HFZ := Lib.hid hZF
           clear hX hZ hZv hZF hZc)
        | (refine wpList_load_eq rfl 37 _ rfl (.pointer (some ⟨q, 0, none⟩)) (.agg L.toArray) rfl HLB.out ?_)
        | (refine wpList_store_eq rfl 37 _ _ rfl (.pointer (some ⟨c, 0, none⟩)) (.agg L.toArray) rfl rfl HST.out ?_))
      exact bodyPost_ret (results_cellT rfl rfl rfl HSV.out) rfl ⟨L, rfl, HDB.out.no HFZ.out, HFZ.out⟩
    · have t1 : decide (n ≤ k) = false := decide_eq_false h1
      have t2 : decide ((n : Int) ≤ (k : Int)) = false := decide_eq_false (by omega)
      have t3 : k < n := by omega
      have hov : (s.tk k).over = true := by
        rcases HGO.out with h2 | ⟨k2, h2, h3, h4⟩
        · omega
        · obtain rfl : k2 = k := by omega
          exact h4
      have HTK1 := Lib.hid (HTK.out k t3)
      have HOV := Lib.hid hov
      have hsl : k * 12 < 9223372036854775807 := by have := HN32.out; omega
      obtain ⟨g, tov, hgt, _, _⟩ := HTK.out k t3 w (Fr.refl _ _)
      subst hgt
      clear HGO h0 h1 hov
      go_enter Try.func13, Try.ntmps13
      go_wp2_with (first
        | (refine wpList_execG (.pointer (some ⟨c, 0, none⟩)) (exec_alloc 37 rfl _ HAL.out) rfl ?_
           rw [← HQ.out]
           refine wpList_world (fun W => RK w q c L zeroK W) HR.out ?_
           intro X hX
           have HLB := Lib.hid (load_rk hX.box HL71.out)
           have c65 := hX.box.cell HC65.out
           have c9 : X.cell? ⟨g, k * 12 + 9, none⟩ = some (.bool true) := by
             obtain ⟨g2, tov2, hg2, _, hc2⟩ := HTK1.out X hX.fr
             injection hg2 with hg2
             injection hg2 with hg2
             subst hg2
             exact hc2 9 (.bool true) (by omega) (by rw [← HOV.out]; rfl)
           obtain ⟨Z, hZ, hZv, hZF, hZc⟩ := hX.put (by rfl) HL71.out HL1.out
           have HST := Lib.hid hZ
           have HSV := Lib.hid hZv
           have HFZ := Lib.hid hZF
           clear hX hZ hZv hZF hZc)
        | (refine wpList_load_eq rfl 37 _ rfl (.pointer (some ⟨q, 0, none⟩)) (.agg L.toArray) rfl HLB.out ?_)
        | (refine wpList_store_eq rfl 37 _ _ rfl (.pointer (some ⟨c, 0, none⟩)) (.agg L.toArray) rfl rfl HST.out ?_))
      exact bodyPost_ret (results_cellT rfl rfl rfl HSV.out) rfl ⟨L, rfl, HDB.out.no HFZ.out, HFZ.out⟩
end Go.Proofs.Ytldcglmpnildiaa

namespace Go.Proofs.Ytldcglmpnildiaa
open Go.RowKit
set_option linter.unusedVariables false
set_option maxRecDepth 100000

set_option maxHeartbeats 16000000 in
theorem rstep_lock {w : World} {S : Nat → Prop} (hS : ∀ k, S k → k < w.heap.size) (s : Bs) (L : List Value) (V : s.Inv) (h : DB S s L w) (k : Nat) (hk : k < s.t.length) (ho : (s.tk k).over = false) (hw : s.wants k < 4) : Calls Try.prog 13 #[.agg L.toArray, .int .i64 (k : Int)] w fun e w' =>
    ∃ L', e = .returned (.tuple #[.agg L'.toArray, .int .i64 (s.stepE (k : Int))]) ∧ DB S (s.stepS (k : Int)) L' w' ∧ Fr No w w' := by
  have HDB := Lib.hid h
  have HL71 : Hid (L.length = 71) := Lib.hid (h.len V.wf)
  have HL1 : Hid (∀ u ∈ L, u.oneCell' = true) := Lib.hid h.one
  have HAL := Lib.hid (alloc_boxk w L)
  have HR := Lib.hid (RK.new w L)
  have hg := Bs.goes_of hk ho
  have he : s.stepE (k : Int) = if 0 ≤ s.hold (s.wants k) then 100 else 0 := by
    rcases Bs.step_case V hk ho with ⟨_, _, _, he⟩ | ⟨h4, _⟩ | ⟨h4, _⟩
    · exact he
    · omega
    · omega
  obtain ⟨pa, pc, ta, tc, da, dc, ps, hkk⟩ := h
  obtain ⟨n, hn⟩ : ∃ n, n = s.t.length := ⟨_, rfl⟩
  have hD := hkk w (Fr.refl _ _)
  have HC65 : Hid (L[65]? = some (.slice ta n tc)) := Lib.hid (by rw [hn]; exact hD.cellT V.wf)
  have HHC : Hid (∀ j, j < 4 → L[66 + j]? = some (.int .i64 (s.hold j))) := Lib.hid (fun j hj => hD.hcell V.wf hj)
  have HTK := Lib.hid (fun X (f : Fr No w X) => (hD.no f).cell hk)
  obtain ⟨v, hv⟩ : ∃ v, v = s.wants k := ⟨_, rfl⟩
  have HV : Hid (v = s.wants k ∧ v < 4) := Lib.hid ⟨hv, by rw [hv]; exact hw⟩
  have HBEL : Hid (∀ j, j < v → ((s.tk k).need j = true → s.hold j = (k : Int))) := Lib.hid (fun j hj => Bs.lacks_not.1 (Bs.wants_below (by rw [← hv]; exact hj)))
  have HLK : Hid ((s.tk k).need v = true ∧ s.hold v ≠ (k : Int)) := Lib.hid (by rw [hv]; exact Bs.lacks_iff.1 (Bs.wants_lacks hw))
  have HLOCK : Hid (s.hold v < 0 → DB S (s.stepS (k : Int)) (L.set (66 + v) (.int .i64 (k : Int))) w) := Lib.hid (fun hf => by
    have hz : s.stepE (k : Int) = 0 := by rw [he, if_neg (by rw [← hv]; omega)]
    rw [Bs.stepS_lock hz hw, ← hv]
    refine ⟨pa, pc, ta, tc, da, dc, ps, fun Z f => ?_⟩
    have hZ := hkk Z f
    refine ⟨?_, hZ.pur, hZ.tks, hZ.row, hZ.told, hZ.done, hZ.tz, hZ.dz⟩
    rw [hZ.cells, cellsK_setH V.wf.hl (by rw [hv]; exact hw)]
    have e1 : (s.lock1 k v).hold = fun j => if j = v then (k : Int) else s.hold j := by
      funext j
      exact Bs.hold_set _ _ _ _ (by rw [V.hl, hv]; exact hw) j
    rw [e1]
    rfl)
  have HSAME : Hid (0 ≤ s.hold v → DB S (s.stepS (k : Int)) L w ∧ s.stepE (k : Int) = 100) := Lib.hid (fun hf => by
    have hz : s.stepE (k : Int) = 100 := by rw [he, ← hv, if_pos hf]
    refine ⟨?_, hz⟩
    have e : s.stepS (k : Int) = s := by unfold Bs.stepS; rw [if_neg (by rw [hz]; decide)]
    rw [e]
    exact HDB.out)
  have HZE : Hid (s.hold v < 0 → s.stepE (k : Int) = 0) := Lib.hid (fun hf => by rw [he, if_neg (by rw [← hv]; omega)])
  obtain ⟨q, hq⟩ : ∃ q, q = w.heap.size := ⟨_, rfl⟩
  obtain ⟨c, hc⟩ : ∃ c, c = w.heap.size + 1 := ⟨_, rfl⟩
  have HQ := Lib.hid hq
  rw [← hc] at HAL HR
  rw [← hq] at HR
  have HN32 : Hid (n ≤ 32 ∧ k < n) := Lib.hid (by rw [hn]; exact ⟨V.len, hk⟩)
  have HOV := Lib.hid ho
  obtain ⟨g, tov, hgt, hps, _⟩ := hD.cell hk
  have hc9 : ∀ X, Fr No w X → ∀ j u, j < 12 → (cellsX (s.tk k) tov)[j]? = some u → X.cell? ⟨g, k * 12 + j, none⟩ = some u := fun X f j u hj hu => by
    obtain ⟨g3, hg3, hc3⟩ := (hD.no f).row (k * 12 + j) u (by rw [flatX_at ps k j _ hps hj]; exact hu)
    rw [hgt] at hg3
    injection hg3 with hg3
    injection hg3 with hg3
    subst hg3
    exact hc3
  have HC9 := Lib.hid hc9
  have t0 : decide ((k : Int) < 0) = false := decide_eq_false (by omega)
  have t1 : decide (n ≤ k) = false := decide_eq_false (by omega)
  have t2 : decide ((n : Int) ≤ (k : Int)) = false := decide_eq_false (by omega)
  have t3 : k < n := by omega
  have hsl : k * 12 < 9223372036854775807 := by have := HN32.out; omega
  obtain ⟨E, hE⟩ : ∃ E, E = s.stepE (k : Int) := ⟨_, rfl⟩
  obtain ⟨s', hs'⟩ : ∃ t, t = s.stepS (k : Int) := ⟨_, rfl⟩
  rw [← hE] at HSAME HZE ⊢
  rw [← hs'] at HLOCK HSAME ⊢
  subst hgt
  clear hq hc hkk hn hD hg he hw ho hv hE hs' hc9 HTK hk V
  go_enter Try.func13, Try.ntmps13
  go_wp2_with (first
    | (refine wpList_execG (.pointer (some ⟨c, 0, none⟩)) (exec_alloc 37 rfl _ HAL.out) rfl ?_
       rw [← HQ.out]
       refine wpList_world (fun W => RK w q c L zeroK W) HR.out ?_
       intro X hX
       have HX := Lib.hid hX
       have c65 := hX.box.cell HC65.out
       have c9 : X.cell? ⟨g, k * 12 + 9, none⟩ = some (.bool false) := HC9.out X hX.fr 9 (.bool false) (by omega) (by rw [← HOV.out]; rfl)
       clear hX))
  clear c65 c9
  go_loopw [6] (fun jv wr => ∃ j : Nat, j ≤ v ∧ jv = .int .i64 j ∧ Hid (RK w q c L zeroK wr)) (fun jv _ => 4 - (intOf jv).toNat)
  case atStart => exact ⟨0, by omega, rfl, HX⟩
  case round =>
    obtain ⟨j, hj, rfl, HK⟩ := hrel
    have hj4 : j < 4 := by have := HV.out.2; omega
    have t4 : (j : Int) < 4 := by omega
    have c65 := HK.out.box.cell HC65.out
    have cH := HK.out.box.cell (HHC.out j hj4)
    have cN : wr.cell? ⟨g, k * 12 + 3 + j, none⟩ = some (.bool ((s.tk k).need j)) := by
      have hcc : j = 0 ∨ j = 1 ∨ j = 2 ∨ j = 3 := by omega
      have h1 := HC9.out wr HK.out.fr (3 + j) (.bool ((s.tk k).need j)) (by omega) (by rcases hcc with rfl | rfl | rfl | rfl <;> rfl)
      rw [show k * 12 + 3 + j = k * 12 + (3 + j) by omega]
      exact h1
    obtain ⟨k1, hk1⟩ : ∃ x, x = j + 1 := ⟨_, rfl⟩
    have s1 : (j : Int) + 1 = (k1 : Int) := by omega
    have l1 : IntKind.i64.wrap (k1 : Int) = (k1 : Int) := IntWalk.i64_in _ (by omega)
    have HJ1 : Hid (k1 = j + 1) := Lib.hid hk1
    obtain ⟨hv', hhv⟩ : ∃ x, x = s.hold j := ⟨_, rfl⟩
    obtain ⟨nd, hnd⟩ : ∃ x, x = (s.tk k).need j := ⟨_, rfl⟩
    rw [← hhv] at cH
    rw [← hnd] at cN
    by_cases hjv : j < v
    · have HK1 : Hid (k1 ≤ v) := Lib.hid (by omega)
      have HB := HBEL.out j hjv
      rw [← hnd, ← hhv] at HB
      cases nd with
      | false =>
        clear hj hjv hk1 hhv hnd HB hj4
        go_wp2
        exact ⟨⟨k1, HK1.out, rfl, HK⟩, by have := HJ1.out; simp [intOf]; omega⟩
      | true =>
        have t5 : (hv' != (k : Int)) = false := by rw [HB rfl]; simp
        clear hj hjv hk1 hhv hnd HB hj4
        go_wp2
        exact ⟨⟨k1, HK1.out, rfl, HK⟩, by have := HJ1.out; simp [intOf]; omega⟩
    · obtain rfl : j = v := by omega
      have hlk := HLK.out
      rw [← hnd, ← hhv] at hlk
      obtain rfl : nd = true := hlk.1
      have t5 : (hv' != (k : Int)) = true := by rw [bne_iff_ne]; exact hlk.2
      rw [← hhv] at HLOCK HSAME HZE
      by_cases h0 : 0 ≤ hv'
      · have t6 : decide (0 ≤ hv') = true := decide_eq_true h0
        obtain ⟨hdb, rfl⟩ := HSAME.out h0
        have HDZ := Lib.hid hdb
        have HLB := Lib.hid (load_rk HK.out.box HL71.out)
        obtain ⟨Z, hZ, hZv, hZF, hZc⟩ := HK.out.put (by rfl) HL71.out HL1.out
        have HST := Lib.hid hZ
        have HSV := Lib.hid hZv
        have HFZ := Lib.hid hZF
        clear hj hjv hk1 hhv hnd hj4 hlk h0 hdb hZ hZv hZF hZc
        go_wp2_with (first
          | (refine wpList_load_eq rfl 37 _ rfl (.pointer (some ⟨q, 0, none⟩)) (.agg L.toArray) rfl HLB.out ?_)
          | (refine wpList_store_eq rfl 37 _ _ rfl (.pointer (some ⟨c, 0, none⟩)) (.agg L.toArray) rfl rfl HST.out ?_))
        exact bodyPost_ret (results_cellT rfl rfl rfl HSV.out) rfl ⟨L, rfl, HDZ.out.no HFZ.out, HFZ.out⟩
      · have t6 : decide (0 ≤ hv') = false := decide_eq_false h0
        have HDZ := Lib.hid (HLOCK.out (by omega))
        obtain rfl : E = 0 := HZE.out (by omega)
        obtain ⟨hk2, hf2⟩ := HK.out.set (66 + j) (.int .i64 (k : Int))
        obtain ⟨L2, hL2⟩ : ∃ x, x = L.set (66 + j) (.int .i64 (k : Int)) := ⟨_, rfl⟩
        obtain ⟨X2, hX2⟩ : ∃ x, x = wr.setCell ⟨q, 66 + j, none⟩ (.int .i64 (k : Int)) := ⟨_, rfl⟩
        rw [← hL2] at hk2 HDZ
        rw [← hX2] at hk2
        have f66 := HK.out.box.frozen (66 + j)
        have hx2' : wr.setCell ⟨q, 66 + j, none⟩ (.int .i64 (k : Int)) = X2 := hX2.symm
        have hl2 : L2.length = 71 := by rw [hL2, List.length_set]; exact HL71.out
        have ho2 : ∀ u ∈ L2, u.oneCell' = true := HDZ.out.one
        have HLB := Lib.hid (load_rk hk2.box hl2)
        obtain ⟨Z, hZ, hZv, hZF, hZc⟩ := hk2.put (by rfl) hl2 ho2
        have HST := Lib.hid hZ
        have HSV := Lib.hid hZv
        have HFZ := Lib.hid hZF
        clear hj hjv hk1 hhv hnd hj4 hlk h0 hZ hZv hZF hZc hk2 hf2 hL2 hX2 hl2 ho2
        go_wp2_with (first
          | (refine wpList_load_eq rfl 37 _ rfl (.pointer (some ⟨q, 0, none⟩)) (.agg L2.toArray) rfl HLB.out ?_)
          | (refine wpList_store_eq rfl 37 _ _ rfl (.pointer (some ⟨c, 0, none⟩)) (.agg L2.toArray) rfl rfl HST.out ?_))
        exact bodyPost_ret (results_cellT rfl rfl rfl HSV.out) rfl ⟨L2, rfl, HDZ.out.no HFZ.out, HFZ.out⟩
end Go.Proofs.Ytldcglmpnildiaa
