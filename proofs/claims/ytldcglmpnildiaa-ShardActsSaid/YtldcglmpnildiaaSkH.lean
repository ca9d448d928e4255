/- The document's bank: a step that gives the locks back. -/
import Derived.Test.YtldcglmpnildiaaSkX
import Derived.Test.YtldcglmpnildiaaSdY
namespace Go.Proofs.Ytldcglmpnildiaa
open Go.RowKit
set_option linter.unusedVariables false
set_option maxRecDepth 100000

theorem RK.far {w X Y : World} {q c g : Nat} {L M : List Value} (k : RK w q c L M X) (f : Fr (· = g) X Y) (hg : w.heap.size ≤ g) (h1 : q ≠ g) (h2 : c ≠ g) : RK w q c L M Y :=
  ⟨k.fr.trans' f (fun i hi e => by omega), k.q0, k.qc, k.c0, k.box.fr f h1, k.res.fr f h2⟩
theorem cellsK_ext {pa : Option Addr} {pn pc : Nat} {h : List (Nat × Nat)} {tv dv : Value} {f g : Nat → Int} (e : ∀ k, k < 4 → f k = g k) : cellsK pa pn pc h tv f dv = cellsK pa pn pc h tv g dv := by
  unfold cellsK
  rw [e 0 (by omega), e 1 (by omega), e 2 (by omega), e 3 (by omega)]
/-- A bank of the document's, out of its parts. -/
theorem DB.mk' {S : Nat → Prop} {w Z : World} {s' : Bs} {L' : List Value} {pa da : Option Addr} {pc dc b0 g2 c2 : Nat} {ps : List (Tk × Value)} (hS : ∀ k, S k → k < w.heap.size) (hb : w.heap.size ≤ b0)
    (cells : L' = cellsK pa s'.p.b.length pc s'.p.h (.slice (some ⟨g2, 0, none⟩) s'.t.length c2) s'.hold (.slice da s'.done.length dc)) (pur : ∀ Z2, Fr S Z Z2 → DAt pa pc s'.p Z2) (tks : ps.map Prod.fst = s'.t) (tr : TR b0 g2 c2 ps Z)
    (told : ∀ Z2, Fr S Z Z2 → ∀ x ∈ ps, OutN x.1.told x.2 Z2) (done : ∀ Z2, Fr S Z Z2 → RowA Z2 da (cellsD s'.done)) (dz : da = none → dc = 0) : DB S s' L' Z :=
  ⟨pa, pc, some ⟨g2, 0, none⟩, c2, da, dc, ps, fun Z2 f => ⟨cells, pur Z2 f, tks, (tr.fr f (fun e => by have := hS g2 e; have := tr.lt; omega)).row, told Z2 f, done Z2 f, (fun e => by cases e), dz⟩⟩

set_option maxHeartbeats 16000000 in
theorem rstep_free {w : World} {S : Nat → Prop} (hS : ∀ k, S k → k < w.heap.size) (s : Bs) (L : List Value) (V : s.Inv) (h : DB S s L w) (k : Nat) (hk : k < s.t.length) (ho : (s.tk k).over = false) (hw : s.wants k = 4) (ha : (s.tk k).acted = true) : Calls Try.prog 13 #[.agg L.toArray, .int .i64 (k : Int)] w fun e w' =>
    ∃ L', e = .returned (.tuple #[.agg L'.toArray, .int .i64 0]) ∧ DB S (s.free1 k) L' w' ∧ Fr No w w' := by
  obtain ⟨j0, hj0, hy0, hy1, hy2⟩ := info_parts Try.infoTask10
  have HL71 : Hid (L.length = 71) := Lib.hid (h.len V.wf)
  have HAL := Lib.hid (alloc_boxk w L)
  have HR := Lib.hid (RK.new w L)
  obtain ⟨pa, pc, ta, tc, da, dc, ps, hkk⟩ := h
  have HKK := Lib.hid hkk
  have HSS := Lib.hid hS
  have HVV := Lib.hid V
  have HKS := Lib.hid hk
  obtain ⟨n, hn⟩ : ∃ n, n = s.t.length := ⟨_, rfl⟩
  have hD := hkk w (Fr.refl _ _)
  have HCE := Lib.hid hD.cells
  have HC65 : Hid (L[65]? = some (.slice ta n tc)) := Lib.hid (by rw [hn]; exact hD.cellT V.wf)
  have HHC : Hid (∀ j, j < 4 → L[66 + j]? = some (.int .i64 (s.hold j))) := Lib.hid (fun j hj => hD.hcell V.wf hj)
  have HBEL : Hid (∀ j, j < 4 → ((s.tk k).need j = true → s.hold j = (k : Int))) := Lib.hid (Bs.wants_four.1 hw)
  obtain ⟨q, hq⟩ : ∃ q, q = w.heap.size := ⟨_, rfl⟩
  obtain ⟨c, hc⟩ : ∃ c, c = w.heap.size + 1 := ⟨_, rfl⟩
  have HQ := Lib.hid hq
  have HCC := Lib.hid hc
  rw [← hc] at HAL HR
  rw [← hq] at HR
  have HN32 : Hid (n ≤ 32 ∧ k < n ∧ n = ps.length ∧ n = s.t.length) := Lib.hid ⟨by rw [hn]; exact V.len, by rw [hn]; exact hk, by rw [hn]; exact hD.lenT.symm, hn⟩
  obtain ⟨g, tov, hgt, hps, _⟩ := hD.cell hk
  have HPS := Lib.hid hps
  have hc9 : ∀ X, Fr No w X → ∀ j u, j < 12 → (cellsX (s.tk k) tov)[j]? = some u → X.cell? ⟨g, k * 12 + j, none⟩ = some u := fun X f j u hj hu => by
    obtain ⟨g3, hg3, hc3⟩ := (hD.no f).row (k * 12 + j) u (by rw [flatX_at ps k j _ hps hj]; exact hu)
    rw [hgt] at hg3
    injection hg3 with hg3
    injection hg3 with hg3
    subst hg3
    exact hc3
  have HC9 := Lib.hid hc9
  have HFL : Hid ((flatX ps).length = n * 12 ∧ ∀ u ∈ flatX ps, u.oneCell' = true) := Lib.hid ⟨by rw [flatX_len, hD.lenT, hn], hD.rowOne⟩
  have HOV := Lib.hid ho
  have HACT := Lib.hid ha
  have t0 : decide ((k : Int) < 0) = false := decide_eq_false (by omega)
  have t1 : decide (n ≤ k) = false := decide_eq_false (by omega)
  have t2 : decide ((n : Int) ≤ (k : Int)) = false := decide_eq_false (by omega)
  have t3 : k < n := by omega
  have hsl : k * 12 < 9223372036854775807 := by have := HN32.out; omega
  subst hgt
  clear hq hc hkk hn hD ho hw hc9 hk V hps hS ha
  go_enter Try.func13, Try.ntmps13
  go_wp2_with (first
    | (refine wpList_execG (.pointer (some ⟨c, 0, none⟩)) (exec_alloc 37 rfl _ HAL.out) rfl ?_
       rw [← HQ.out]
       refine wpList_world (fun W => RK w q c L zeroK W) HR.out ?_
       intro X hX
       have HX := Lib.hid hX
       have c65 := hX.box.cell HC65.out
       have c9 : X.cell? ⟨g, k * 12 + 9, none⟩ = some (.bool false) := HC9.out X hX.fr 9 (.bool false) (by omega) (by rw [← HOV.out]; rfl)
       clear hX))
  clear c65 c9
  go_loopw [6] (fun jv wr => ∃ j : Nat, j ≤ 4 ∧ jv = .int .i64 j ∧ Hid (RK w q c L zeroK wr)) (fun jv _ => 4 - (intOf jv).toNat)
  case atStart => exact ⟨0, by omega, rfl, HX⟩
  case round =>
    obtain ⟨j, hj, rfl, HK⟩ := hrel
    by_cases hj4 : j < 4
    · have t4 : (j : Int) < 4 := by omega
      have c65 := HK.out.box.cell HC65.out
      have cH := HK.out.box.cell (HHC.out j hj4)
      have cN : wr.cell? ⟨g, k * 12 + 3 + j, none⟩ = some (.bool ((s.tk k).need j)) := by
        have hcc : j = 0 ∨ j = 1 ∨ j = 2 ∨ j = 3 := by omega
        have h1 := HC9.out wr HK.out.fr (3 + j) (.bool ((s.tk k).need j)) (by omega) (by rcases hcc with rfl | rfl | rfl | rfl <;> rfl)
        rw [show k * 12 + 3 + j = k * 12 + (3 + j) by omega]
        exact h1
      obtain ⟨k1, hk1⟩ : ∃ x, x = j + 1 := ⟨_, rfl⟩
      have s1 : (j : Int) + 1 = (k1 : Int) := by omega
      have l1 : IntKind.i64.wrap (k1 : Int) = (k1 : Int) := IntWalk.i64_in _ (by omega)
      have HJ1 : Hid (k1 = j + 1 ∧ k1 ≤ 4) := Lib.hid ⟨hk1, by omega⟩
      obtain ⟨hv', hhv⟩ : ∃ x, x = s.hold j := ⟨_, rfl⟩
      obtain ⟨nd, hnd⟩ : ∃ x, x = (s.tk k).need j := ⟨_, rfl⟩
      rw [← hhv] at cH
      rw [← hnd] at cN
      have HB := HBEL.out j hj4
      rw [← hnd, ← hhv] at HB
      cases nd with
      | false =>
        clear hj hk1 hhv hnd HB hj4
        go_wp2
        exact ⟨⟨k1, HJ1.out.2, rfl, HK⟩, by have := HJ1.out; simp [intOf]; omega⟩
      | true =>
        have t5 : (hv' != (k : Int)) = false := by rw [HB rfl]; simp
        clear hj hk1 hhv hnd HB hj4
        go_wp2
        exact ⟨⟨k1, HJ1.out.2, rfl, HK⟩, by have := HJ1.out; simp [intOf]; omega⟩
    · have t4 : ¬ (j : Int) < 4 := by omega
      have t4' : ¬ j < 4 := hj4
      have c65 := HK.out.box.cell HC65.out
      obtain ⟨W1, hW1⟩ : ∃ x, x = wr.alloc (.cells #[] 59) := ⟨_, rfl⟩
      have hf1 : Fr No wr W1 := by rw [hW1]; exact (Fr.refl No wr).alloc _
      have c65w := (HK.out.on hf1).box.cell HC65.out
      have hE : W1.ownsRow wr.heap.size 59 12 (.slice (some ⟨wr.heap.size, 0, none⟩) 0 0) 0 [] := by rw [hW1]; exact World.ownsRow_made wr #[] 0 (Nat.le_refl _) (Nat.zero_le _) rfl
      obtain ⟨v2, W2, ha, ho2, hf2⟩ := app_any 33 59 33 j0 _ 12 64 Try.underlying33 hj0 hy0 hy1 hy2 rfl (by decide) (by decide) hE ((HKK.out w (Fr.refl _ _)).row.no (HK.out.fr.trans hf1)) (HKK.out w (Fr.refl _ _)).tz HFL.out.1 HFL.out.2 (by have := HN32.out; omega) hf1.size
      obtain ⟨g2, c2, rfl, hT2⟩ := tr_of (by simpa using ho2) HN32.out.2.2.1 (by have := HN32.out; omega)
      have hfw : Fr No wr W2 := hf1.trans' hf2 (fun i hi e => by have e2 : wr.heap.size = i := Option.some.inj e; omega)
      have hb2 := HK.out.on hfw
      have c65' := hb2.box.cell HC65.out
      have f65' := hb2.box.frozen 65
      obtain ⟨hk3, hfq⟩ := hb2.set 65 (.slice (some ⟨g2, 0, none⟩) n c2)
      obtain ⟨W3, hW3⟩ : ∃ x, x = W2.setCell ⟨q, 65, none⟩ (.slice (some ⟨g2, 0, none⟩) n c2) := ⟨_, rfl⟩
      obtain ⟨L3, hL3⟩ : ∃ x, x = L.set 65 (.slice (some ⟨g2, 0, none⟩) n c2) := ⟨_, rfl⟩
      rw [← hW3, ← hL3] at hk3
      rw [← hW3] at hfq
      obtain ⟨b0, hb0⟩ : ∃ x, x = wr.heap.size := ⟨_, rfl⟩
      rw [← hb0] at hT2
      have HG2 : Hid (b0 ≤ g2 ∧ q < b0 ∧ c < b0 ∧ w.heap.size ≤ b0) := Lib.hid ⟨hT2.lt.1, by rw [hb0]; exact HK.out.box.lt, by rw [hb0]; exact HK.out.res.lt, by rw [hb0]; exact HK.out.fr.size⟩
      have HT3 := Lib.hid (hT2.fr hfq (by have := HG2.out; omega))
      have HK3 := Lib.hid hk3
      have HL3 : Hid (L3 = cellsK pa s.p.b.length pc s.p.h (.slice (some ⟨g2, 0, none⟩) n c2) s.hold (.slice da s.done.length dc)) := Lib.hid (by rw [hL3]; exact (HKK.out w (Fr.refl _ _)).setT HVV.out.wf _)
      have HA := Lib.hid ha
      have c65 := HK3.out.box.cell (i := 65) (v := .slice (some ⟨g2, 0, none⟩) n c2) (by rw [HL3.out]; exact cellsK_hi HVV.out.wf.hl 0)
      have c8 := HT3.out.cell HPS.out (j := 8) (u := .bool (s.tk k).acted) (by omega) rfl
      rw [HACT.out] at c8
      have hW1' : wr.alloc (.cells #[] 59) = W1 := hW1.symm
      have hW3' : W2.setCell ⟨q, 65, none⟩ (.slice (some ⟨g2, 0, none⟩) n c2) = W3 := hW3.symm
      clear hj hj4 hW1 hf1 hE ha ho2 hf2 hT2 hfw hb2 hk3 hfq hW3 hL3 hb0
      go_wp2_with (at_builtin; refine wpList_execG (.slice (some ⟨g2, 0, none⟩) n c2) (exec_append10 (.tmp 59) (.tmp 61) 33 rfl _ _ _ rfl rfl HA.out) rfl ?_)
      obtain ⟨Lf, hLf⟩ : ∃ Lf : Nat → List Value, Lf = fun j => cellsK pa s.p.b.length pc s.p.h (.slice (some ⟨g2, 0, none⟩) n c2) (freeTo s.hold (k : Int) j) (.slice da s.done.length dc) := ⟨_, rfl⟩
      have HF0 : Hid (L3 = Lf 0) := Lib.hid (by
        rw [HL3.out, hLf]
        exact cellsK_ext (fun m _ => by unfold freeTo; rw [if_neg (by omega)]))
      have HFH : Hid (∀ j, j < 4 → (Lf j)[66 + j]? = some (.int .i64 (s.hold j))) := Lib.hid (fun j hj => by
        rw [hLf]
        have e : freeTo s.hold (k : Int) j j = s.hold j := by unfold freeTo; rw [if_neg (by omega)]
        rw [← e]
        exact cellsK_at HVV.out.wf.hl hj)
      have HFN : Hid (∀ j, j < 4 → Lf (j + 1) = if s.hold j = (k : Int) then (Lf j).set (66 + j) (.int .i64 (-1)) else Lf j) := Lib.hid (fun j hj => by
        rw [hLf]
        simp only
        by_cases e : s.hold j = (k : Int)
        · rw [if_pos e, cellsK_setH HVV.out.wf.hl hj]
          refine cellsK_ext (fun m _ => ?_)
          rw [freeTo_next]
          by_cases hm : m = j
          · rw [if_pos ⟨hm, e⟩, if_pos hm]
          · rw [if_neg (fun h => hm h.1), if_neg hm]
        · rw [if_neg e]
          refine cellsK_ext (fun m _ => ?_)
          rw [freeTo_next, if_neg (fun h => e h.2)])
      have HF4 : Hid (Lf 4 = cellsK pa (s.free1 k).p.b.length pc (s.free1 k).p.h (.slice (some ⟨g2, 0, none⟩) (s.free1 k).t.length c2) (s.free1 k).hold (.slice da (s.free1 k).done.length dc) ∧ (Lf 4).length = 71) := Lib.hid (by
        refine ⟨?_, by rw [hLf]; exact cellsK_len HVV.out.wf.hl⟩
        rw [hLf, show (s.free1 k).t.length = n by rw [HN32.out.2.2.2]; simp [Bs.free1]]
        refine cellsK_ext (fun m hm => ?_)
        have e6 : (s.free1 k).hold m = if s.hold m = (k : Int) then -1 else s.hold m := Bs.hold_free k _ _ _ m
        rw [e6]
        unfold freeTo
        by_cases h7 : s.hold m = (k : Int)
        · rw [if_pos ⟨hm, h7⟩, if_pos h7]
        · rw [if_neg (fun e => h7 e.2), if_neg h7])
      have HF65 : Hid ((Lf 4)[65]? = some (.slice (some ⟨g2, 0, none⟩) n c2)) := Lib.hid (by rw [hLf]; exact cellsK_hi HVV.out.wf.hl 0)
      have HK4 : Hid (RK w q c (Lf 0) zeroK W3) := Lib.hid (by rw [← HF0.out]; exact HK3.out)
      clear hLf c65 c65' f65' c8 c65w
      go_loopw [7] (fun jv wr2 => ∃ m : Nat, m ≤ 4 ∧ jv = .int .i64 m ∧ Hid (RK w q c (Lf m) zeroK wr2) ∧ Hid (TR b0 g2 c2 ps wr2)) (fun jv _ => 4 - (intOf jv).toNat)
      case atStart => exact ⟨0, by omega, rfl, HK4, HT3⟩
      clear HK4 HT3 HK3
      case round =>
        obtain ⟨m, hm, rfl, HM, HTM⟩ := hrel
        by_cases hm4 : m < 4
        · have t6 : (m : Int) < 4 := by omega
          have t6' : m < 4 := hm4
          have cH := HM.out.box.cell (HFH.out m hm4)
          have fH := HM.out.box.frozen (66 + m)
          obtain ⟨k1, hk1⟩ : ∃ x, x = m + 1 := ⟨_, rfl⟩
          have s1 : (m : Int) + 1 = (k1 : Int) := by omega
          have l1 : IntKind.i64.wrap (k1 : Int) = (k1 : Int) := IntWalk.i64_in _ (by omega)
          have HJ1 : Hid (k1 = m + 1 ∧ k1 ≤ 4) := Lib.hid ⟨hk1, by omega⟩
          have hnx := HFN.out m hm4
          obtain ⟨hv', hhv⟩ : ∃ x, x = s.hold m := ⟨_, rfl⟩
          rw [← hhv] at cH hnx
          rw [← hk1] at hnx
          by_cases he : hv' = (k : Int)
          · have t7 : (hv' == (k : Int)) = true := by rw [beq_iff_eq]; exact he
            rw [if_pos he] at hnx
            obtain ⟨hk2, hfq⟩ := HM.out.set (66 + m) (.int .i64 (-1))
            rw [← hnx] at hk2
            have HM2 := Lib.hid hk2
            have HT2 := Lib.hid (HTM.out.fr hfq (by have := HG2.out; omega))
            clear hm hm4 hk1 hhv he hnx hk2 hfq
            go_wp2
            exact ⟨⟨k1, HJ1.out.2, rfl, HM2, HT2⟩, by have := HJ1.out; simp [intOf]; omega⟩
          · have t7 : (hv' == (k : Int)) = false := by rw [beq_eq_false_iff_ne]; exact he
            rw [if_neg he] at hnx
            have HM2 : Hid (RK w q c (Lf k1) zeroK wr) := Lib.hid (by rw [hnx]; exact HM.out)
            clear hm hm4 hk1 hhv he hnx
            go_wp2
            exact ⟨⟨k1, HJ1.out.2, rfl, HM2, HTM⟩, by have := HJ1.out; simp [intOf]; omega⟩
        · have t6 : ¬ (m : Int) < 4 := by omega
          obtain rfl : m = 4 := by omega
          have c65 := HM.out.box.cell HF65.out
          have c9 := HTM.out.cell HPS.out (j := 9) (u := .bool (s.tk k).over) (by omega) rfl
          have f9 := HTM.out.frozen (k * 12 + 9)
          obtain ⟨hT5, hf5⟩ := HTM.out.set (y := ({ s.tk k with over := true }, tov)) (u := .bool true) HPS.out (show 9 < 12 by omega) rfl
          obtain ⟨W5, hW5⟩ : ∃ x, x = wr.setCell ⟨g2, k * 12 + 9, none⟩ (.bool true) := ⟨_, rfl⟩
          rw [← hW5] at hT5 hf5
          have hk5 := HM.out.far hf5 (by have := HG2.out; omega) (by have := HG2.out; omega) (by have := HG2.out; omega)
          obtain ⟨L5, hL5⟩ : ∃ x, x = Lf 4 := ⟨_, rfl⟩
          rw [← hL5] at hk5 HF4
          have HLB := Lib.hid (load_rk hk5.box HF4.out.2)
          obtain ⟨Z, hZ, hZv, hZF, hZc⟩ := hk5.put (by rfl) HF4.out.2 (by rw [HF4.out.1]; exact cellsK_one rfl rfl)
          have HST := Lib.hid hZ
          have HSV := Lib.hid hZv
          have HFZ := Lib.hid hZF
          have HDZ : Hid (DB S (s.free1 k) L5 Z) := Lib.hid (by
            have hfz : ∀ Z2, Fr S Z Z2 → Fr S w Z2 := fun Z2 f => (hZF.mono (fun _ _ e => e.elim)).trans f
            refine DB.mk' HSS.out HG2.out.2.2.2 HF4.out.1 (fun Z2 f => (HKK.out Z2 (hfz Z2 f)).pur) ?_ (hT5.fr hZc (by have := HG2.out; omega)) (fun Z2 f x hx => ?_) (fun Z2 f => (HKK.out Z2 (hfz Z2 f)).done) (HKK.out w (Fr.refl _ _)).dz
            · rw [map_set_fst, (HKK.out w (Fr.refl _ _)).tks]
              rfl
            · rcases List.mem_or_eq_of_mem_set hx with hx | rfl
              · exact (HKK.out Z2 (hfz Z2 f)).told x hx
              · exact (HKK.out Z2 (hfz Z2 f)).told (s.tk k, tov) (List.mem_of_getElem? HPS.out))
          have hW5' : wr.setCell ⟨g2, k * 12 + 9, none⟩ (.bool true) = W5 := hW5.symm
          clear hm hm4 hT5 hf5 hW5 hk5 hL5 hZ hZv hZF hZc
          go_wp2_with (first
            | (refine wpList_load_eq rfl 37 _ rfl (.pointer (some ⟨q, 0, none⟩)) (.agg L5.toArray) rfl HLB.out ?_)
            | (refine wpList_store_eq rfl 37 _ _ rfl (.pointer (some ⟨c, 0, none⟩)) (.agg L5.toArray) rfl rfl HST.out ?_))
          exact bodyPost_ret (results_cellT rfl rfl rfl HSV.out) rfl ⟨L5, rfl, HDZ.out, HFZ.out⟩
end Go.Proofs.Ytldcglmpnildiaa
