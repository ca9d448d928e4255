/- The document's bank: a step that moves. -/
import Derived.Test.YtldcglmpnildiaaSkI
namespace Go.Proofs.Ytldcglmpnildiaa
open Go.RowKit
set_option linter.unusedVariables false
set_option maxRecDepth 100000

theorem DAt.same {ao : Option Addr} {c1 c2 : Nat} {s1 s2 : Ps} {X Z : World} (h1 : DAt ao c1 s1 X) (h2 : DAt ao c2 s2 X) (hl : s1.b.length = s2.b.length) (h3 : DAt ao c2 s2 Z) : DAt ao c1 s1 Z := ⟨fun i hi => by
  obtain ⟨r, hr, hc⟩ := h1.row i hi
  obtain ⟨r2, hr2, hc2⟩ := h2.row i (by omega)
  obtain ⟨r3, hr3, hc3⟩ := h3.row i (by omega)
  rw [hr] at hr2 hr3
  injection hr2 with hr2
  injection hr2 with hr2
  injection hr3 with hr3
  injection hr3 with hr3
  subst hr2
  subst hr3
  rw [hc] at hc2
  exact ⟨r, hr, by rw [hc3, ← hc2]⟩⟩

set_option maxHeartbeats 16000000 in
theorem rstep_move {w : World} {S : Nat → Prop} (hS : ∀ k, S k → k < w.heap.size) (s : Bs) (L : List Value) (V : s.Inv) (h : DB S s L w) (k : Nat) (hk : k < s.t.length) (ho : (s.tk k).over = false) (hw : s.wants k = 4) (ha : (s.tk k).acted = false) (hls : (s.tk k).lists = false) (hnm : (s.tk k).n < 18446744073709551616) : Calls Try.prog 13 #[.agg L.toArray, .int .i64 (k : Int)] w fun e w' =>
    ∃ L', e = .returned (.tuple #[.agg L'.toArray, .int .i64 0]) ∧ DB S (s.act1 k) L' w' ∧ Fr No w w' := by
  obtain ⟨j0, hj0, hy0, hy1, hy2⟩ := info_parts Try.infoTask10
  have HL71 : Hid (L.length = 71) := Lib.hid (h.len V.wf)
  have HAL := Lib.hid (alloc_boxk w L)
  have HR := Lib.hid (RK.new w L)
  obtain ⟨pa, pc, ta, tc, da, dc, ps, hkk⟩ := h
  have HKK := Lib.hid hkk
  have HSS := Lib.hid hS
  have HVV := Lib.hid V
  have HKS := Lib.hid hk
  obtain ⟨n, hn⟩ : ∃ n, n = s.t.length := ⟨_, rfl⟩
  have hD := hkk w (Fr.refl _ _)
  have HCE := Lib.hid hD.cells
  have HC65 : Hid (L[65]? = some (.slice ta n tc)) := Lib.hid (by rw [hn]; exact hD.cellT V.wf)
  have HHC : Hid (∀ j, j < 4 → L[66 + j]? = some (.int .i64 (s.hold j))) := Lib.hid (fun j hj => hD.hcell V.wf hj)
  have HBEL : Hid (∀ j, j < 4 → ((s.tk k).need j = true → s.hold j = (k : Int))) := Lib.hid (Bs.wants_four.1 hw)
  obtain ⟨q, hq⟩ : ∃ q, q = w.heap.size := ⟨_, rfl⟩
  obtain ⟨c, hc⟩ : ∃ c, c = w.heap.size + 1 := ⟨_, rfl⟩
  have HQ := Lib.hid hq
  have HCC := Lib.hid hc
  rw [← hc] at HAL HR
  rw [← hq] at HR
  have HN32 : Hid (n ≤ 32 ∧ k < n ∧ n = ps.length ∧ n = s.t.length) := Lib.hid ⟨by rw [hn]; exact V.len, by rw [hn]; exact hk, by rw [hn]; exact hD.lenT.symm, hn⟩
  obtain ⟨g, tov, hgt, hps, _⟩ := hD.cell hk
  have HPS := Lib.hid hps
  have hc9 : ∀ X, Fr No w X → ∀ j u, j < 12 → (cellsX (s.tk k) tov)[j]? = some u → X.cell? ⟨g, k * 12 + j, none⟩ = some u := fun X f j u hj hu => by
    obtain ⟨g3, hg3, hc3⟩ := (hD.no f).row (k * 12 + j) u (by rw [flatX_at ps k j _ hps hj]; exact hu)
    rw [hgt] at hg3
    injection hg3 with hg3
    injection hg3 with hg3
    subst hg3
    exact hc3
  have HC9 := Lib.hid hc9
  have HFL : Hid ((flatX ps).length = n * 12 ∧ ∀ u ∈ flatX ps, u.oneCell' = true) := Lib.hid ⟨by rw [flatX_len, hD.lenT, hn], hD.rowOne⟩
  have HOV := Lib.hid ho
  have HACT := Lib.hid ha
  have HLS := Lib.hid hls
  have HNM := Lib.hid hnm
  have t0 : decide ((k : Int) < 0) = false := decide_eq_false (by omega)
  have t1 : decide (n ≤ k) = false := decide_eq_false (by omega)
  have t2 : decide ((n : Int) ≤ (k : Int)) = false := decide_eq_false (by omega)
  have t3 : k < n := by omega
  have hsl : k * 12 < 9223372036854775807 := by have := HN32.out; omega
  subst hgt
  clear hq hc hkk hn hD ho hw hc9 hk V hps hS ha hls hnm
  go_enter Try.func13, Try.ntmps13
  go_wp2_with (first
    | (refine wpList_execG (.pointer (some ⟨c, 0, none⟩)) (exec_alloc 37 rfl _ HAL.out) rfl ?_
       rw [← HQ.out]
       refine wpList_world (fun W => RK w q c L zeroK W) HR.out ?_
       intro X hX
       have HX := Lib.hid hX
       have c65 := hX.box.cell HC65.out
       have c9 : X.cell? ⟨g, k * 12 + 9, none⟩ = some (.bool false) := HC9.out X hX.fr 9 (.bool false) (by omega) (by rw [← HOV.out]; rfl)
       clear hX))
  clear c65 c9
  go_loopw [6] (fun jv wr => ∃ j : Nat, j ≤ 4 ∧ jv = .int .i64 j ∧ Hid (RK w q c L zeroK wr)) (fun jv _ => 4 - (intOf jv).toNat)
  case atStart => exact ⟨0, by omega, rfl, HX⟩
  case round =>
    obtain ⟨j, hj, rfl, HK⟩ := hrel
    by_cases hj4 : j < 4
    · have t4 : (j : Int) < 4 := by omega
      have c65 := HK.out.box.cell HC65.out
      have cH := HK.out.box.cell (HHC.out j hj4)
      have cN : wr.cell? ⟨g, k * 12 + 3 + j, none⟩ = some (.bool ((s.tk k).need j)) := by
        have hcc : j = 0 ∨ j = 1 ∨ j = 2 ∨ j = 3 := by omega
        have h1 := HC9.out wr HK.out.fr (3 + j) (.bool ((s.tk k).need j)) (by omega) (by rcases hcc with rfl | rfl | rfl | rfl <;> rfl)
        rw [show k * 12 + 3 + j = k * 12 + (3 + j) by omega]
        exact h1
      obtain ⟨k1, hk1⟩ : ∃ x, x = j + 1 := ⟨_, rfl⟩
      have s1 : (j : Int) + 1 = (k1 : Int) := by omega
      have l1 : IntKind.i64.wrap (k1 : Int) = (k1 : Int) := IntWalk.i64_in _ (by omega)
      have HJ1 : Hid (k1 = j + 1 ∧ k1 ≤ 4) := Lib.hid ⟨hk1, by omega⟩
      obtain ⟨hv', hhv⟩ : ∃ x, x = s.hold j := ⟨_, rfl⟩
      obtain ⟨nd, hnd⟩ : ∃ x, x = (s.tk k).need j := ⟨_, rfl⟩
      rw [← hhv] at cH
      rw [← hnd] at cN
      have HB := HBEL.out j hj4
      rw [← hnd, ← hhv] at HB
      cases nd with
      | false =>
        clear hj hk1 hhv hnd HB hj4
        go_wp2
        exact ⟨⟨k1, HJ1.out.2, rfl, HK⟩, by have := HJ1.out; simp [intOf]; omega⟩
      | true =>
        have t5 : (hv' != (k : Int)) = false := by rw [HB rfl]; simp
        clear hj hk1 hhv hnd HB hj4
        go_wp2
        exact ⟨⟨k1, HJ1.out.2, rfl, HK⟩, by have := HJ1.out; simp [intOf]; omega⟩
    · have t4 : ¬ (j : Int) < 4 := by omega
      have t4' : ¬ j < 4 := hj4
      have c65 := HK.out.box.cell HC65.out
      obtain ⟨W1, hW1⟩ : ∃ x, x = wr.alloc (.cells #[] 59) := ⟨_, rfl⟩
      have hf1 : Fr No wr W1 := by rw [hW1]; exact (Fr.refl No wr).alloc _
      have c65w := (HK.out.on hf1).box.cell HC65.out
      have hE : W1.ownsRow wr.heap.size 59 12 (.slice (some ⟨wr.heap.size, 0, none⟩) 0 0) 0 [] := by rw [hW1]; exact World.ownsRow_made wr #[] 0 (Nat.le_refl _) (Nat.zero_le _) rfl
      obtain ⟨v2, W2, ha, ho2, hf2⟩ := app_any 33 59 33 j0 _ 12 64 Try.underlying33 hj0 hy0 hy1 hy2 rfl (by decide) (by decide) hE ((HKK.out w (Fr.refl _ _)).row.no (HK.out.fr.trans hf1)) (HKK.out w (Fr.refl _ _)).tz HFL.out.1 HFL.out.2 (by have := HN32.out; omega) hf1.size
      obtain ⟨g2, c2, rfl, hT2⟩ := tr_of (by simpa using ho2) HN32.out.2.2.1 (by have := HN32.out; omega)
      have hfw : Fr No wr W2 := hf1.trans' hf2 (fun i hi e => by have e2 : wr.heap.size = i := Option.some.inj e; omega)
      have hb2 := HK.out.on hfw
      have c65' := hb2.box.cell HC65.out
      have f65' := hb2.box.frozen 65
      obtain ⟨hk3, hfq⟩ := hb2.set 65 (.slice (some ⟨g2, 0, none⟩) n c2)
      obtain ⟨W3, hW3⟩ : ∃ x, x = W2.setCell ⟨q, 65, none⟩ (.slice (some ⟨g2, 0, none⟩) n c2) := ⟨_, rfl⟩
      obtain ⟨L3, hL3⟩ : ∃ x, x = L.set 65 (.slice (some ⟨g2, 0, none⟩) n c2) := ⟨_, rfl⟩
      rw [← hW3, ← hL3] at hk3
      rw [← hW3] at hfq
      obtain ⟨b0, hb0⟩ : ∃ x, x = wr.heap.size := ⟨_, rfl⟩
      rw [← hb0] at hT2
      have HG2 : Hid (b0 ≤ g2 ∧ q < b0 ∧ c < b0 ∧ w.heap.size ≤ b0) := Lib.hid ⟨hT2.lt.1, by rw [hb0]; exact HK.out.box.lt, by rw [hb0]; exact HK.out.res.lt, by rw [hb0]; exact HK.out.fr.size⟩
      have HT3 := Lib.hid (hT2.fr hfq (by have := HG2.out; omega))
      have HK3 := Lib.hid hk3
      have HL3 : Hid (L3 = cellsK pa s.p.b.length pc s.p.h (.slice (some ⟨g2, 0, none⟩) n c2) s.hold (.slice da s.done.length dc)) := Lib.hid (by rw [hL3]; exact (HKK.out w (Fr.refl _ _)).setT HVV.out.wf _)
      have HA := Lib.hid ha
      have c65 := HK3.out.box.cell (i := 65) (v := .slice (some ⟨g2, 0, none⟩) n c2) (by rw [HL3.out]; exact cellsK_hi HVV.out.wf.hl 0)
      have c8 := HT3.out.cell HPS.out (j := 8) (u := .bool (s.tk k).acted) (by omega) rfl
      rw [HACT.out] at c8
      have hW1' : wr.alloc (.cells #[] 59) = W1 := hW1.symm
      have hW3' : W2.setCell ⟨q, 65, none⟩ (.slice (some ⟨g2, 0, none⟩) n c2) = W3 := hW3.symm
      clear hj hj4 hW1 hf1 hE ha ho2 hf2 hT2 hfw hb2 hk3 hfq hW3 hL3 hb0
      obtain ⟨i0, hi0, hz0, hz1, hz2⟩ := info_parts Try.infoInt10
      have f8 := HT3.out.frozen (k * 12 + 8)
      obtain ⟨x1, hx1⟩ : ∃ x : Tk, x = { s.tk k with acted := true } := ⟨_, rfl⟩
      obtain ⟨hT5, hf5⟩ := HT3.out.set (y := (x1, tov)) (u := .bool true) HPS.out (show 8 < 12 by omega) (by rw [hx1]; rfl)
      obtain ⟨W5, hW5⟩ : ∃ x, x = W3.setCell ⟨g2, k * 12 + 8, none⟩ (.bool true) := ⟨_, rfl⟩
      rw [← hW5] at hT5 hf5
      have hk5 := HK3.out.far hf5 (by have := HG2.out; omega) (by have := HG2.out; omega) (by have := HG2.out; omega)
      obtain ⟨md, hmd⟩ : ∃ m, m = s.done.length := ⟨_, rfl⟩
      have hmd32 : md ≤ 32 := by rw [hmd]; exact Bs.done_le HVV.out
      obtain ⟨W6, hW6⟩ : ∃ x, x = W5.alloc (.cells #[] 3) := ⟨_, rfl⟩
      have hf6 : Fr No W5 W6 := by rw [hW6]; exact (Fr.refl No W5).alloc _
      have hE6 : W6.ownsRow W5.heap.size 3 1 (.slice (some ⟨W5.heap.size, 0, none⟩) 0 0) 0 [] := by rw [hW6]; exact World.ownsRow_made W5 #[] 0 (Nat.le_refl _) (Nat.zero_le _) rfl
      obtain ⟨v7, W7, ha7, ho7, hf7⟩ := app_any 35 3 35 i0 _ 1 8 Try.underlying35 hi0 hz0 hz1 hz2 rfl (by decide) (by decide) (m := md) hE6 ((HKK.out w (Fr.refl _ _)).done.no (hk5.fr.trans hf6)) (HKK.out w (Fr.refl _ _)).dz (by rw [hmd]; simp [cellsD]) (cellsD_one _) (by omega) hf6.size
      have ho7' : W7.ownsRow W5.heap.size 3 1 v7 md (cellsD s.done) := by simpa using ho7
      obtain ⟨a7, c7, rfl⟩ := own_slice ho7'
      have hf57 : Fr No W5 W7 := hf6.trans' hf7 (fun i hi e => by have e2 : W5.heap.size = i := Option.some.inj e; omega)
      obtain ⟨W8, hW8⟩ : ∃ x, x = W7.alloc (.cells #[.int .i64 (k : Int)] 3) := ⟨_, rfl⟩
      have hf8 : Fr No W7 W8 := by rw [hW8]; exact (Fr.refl No W7).alloc _
      have hb8 : Blk W8 W7.heap.size 3 [.int .i64 (k : Int)] := by rw [hW8]; exact Blk.new W7 _ _
      have ho8 := owns_fr ho7' hf8 (fun _ _ => id)
      obtain ⟨v9, W9, ha9, ho9, hf9⟩ := app_any 35 3 35 i0 _ 1 8 Try.underlying35 hi0 hz0 hz1 hz2 rfl (by decide) (by decide) (ao := some ⟨W7.heap.size, 0, none⟩) (m := 1) (c := 1) (ys := [.int .i64 (k : Int)]) ho8 (fun j u hu => ⟨_, rfl, hb8.cell hu⟩) (fun e => by cases e) rfl (by intro u hu; simp at hu; subst hu; rfl) (by omega) (by have := hf57.size; have := hf8.size; omega)
      obtain ⟨m1, hm1⟩ : ∃ x, x = md + 1 := ⟨_, rfl⟩
      rw [← hm1, ← cellsD_snoc] at ho9
      obtain ⟨a9, c9, rfl⟩ := own_slice ho9
      have hf59 : Fr No W5 W9 := (hf57.trans hf8).trans' hf9 (fun i hi e => by have := (ho8.lt i e).1; omega)
      have hk9 := hk5.on hf59
      have hT9 := hT5.fr hf59 id
      have e70 : L3[70]? = some (.slice da md dc) := by rw [HL3.out, hmd]; exact cellsK_hi HVV.out.wf.hl 5
      have c70 := (hk5.on hf6).box.cell e70
      have c70' := hk9.box.cell e70
      have f70' := hk9.box.frozen 70
      obtain ⟨hk10, hf10⟩ := hk9.set 70 (.slice a9 m1 c9)
      obtain ⟨W10, hW10⟩ : ∃ x, x = W9.setCell ⟨q, 70, none⟩ (.slice a9 m1 c9) := ⟨_, rfl⟩
      have hset10 : L3.set 70 (.slice a9 m1 c9) = cellsK pa s.p.b.length pc s.p.h (.slice (some ⟨g2, 0, none⟩) n c2) s.hold (.slice a9 m1 c9) := by rw [HL3.out]; exact cellsK_setD HVV.out.wf.hl _
      rw [hset10, ← hW10] at hk10
      rw [← hW10] at hf10
      have HK10 := Lib.hid hk10
      have HT10 := Lib.hid (hT9.fr hf10 (by have := HG2.out; omega))
      have HSZ : Hid (W5.heap.size ≤ W10.heap.size) := Lib.hid (by have := hf59.size; have := hf10.size; omega)
      have HGW : Hid (g2 < W5.heap.size ∧ q < W5.heap.size ∧ c < W5.heap.size ∧ w.heap.size ≤ W5.heap.size) := Lib.hid ⟨hT5.lt.2, hk5.box.lt, hk5.res.lt, hk5.fr.size⟩
      have HO10 : Hid (∃ cc, a9 = none → cc = 0) := Lib.hid ⟨0, fun _ => rfl⟩
      have HROW9 : Hid (RowA W10 a9 (cellsD (s.done ++ [k])) ∧ (a9 = none → c9 = 0) ∧ ∀ g, a9 = some ⟨g, 0, none⟩ → W5.heap.size ≤ g) := Lib.hid (by
        obtain ⟨ao, cc, he, hr, hz⟩ := RowA.own ho9
        injection he with e1 e2 e3
        subst e1
        subst e3
        have hlo : ∀ g, a9 = some ⟨g, 0, none⟩ → W5.heap.size ≤ g := fun g e => (ho9.lt g (by rw [e]; rfl)).1
        exact ⟨hr.fr hf10 (fun g e e2 => by have := hlo g e; have := hk5.box.lt; omega), hz, hlo⟩)
      have HMD : Hid (m1 = (s.done ++ [k]).length) := Lib.hid (by rw [hm1, hmd]; simp)
      have HA7 := Lib.hid ha7
      have HA9 := Lib.hid ha9
      have HX1 : Hid (x1 = { s.tk k with acted := true } ∧ (ps.set k (x1, tov))[k]? = some (x1, tov)) := Lib.hid ⟨hx1, by
        have hlt : k < ps.length := (List.getElem?_eq_some_iff.1 HPS.out).1
        simp [hlt]⟩
      have c65x := HK10.out.box.cell (i := 65) (v := .slice (some ⟨g2, 0, none⟩) n c2) (cellsK_hi HVV.out.wf.hl 0)
      have c7x := HT10.out.cell HX1.out.2 (j := 7) (u := .bool (s.tk k).lists) (by omega) (by rw [HX1.out.1]; rfl)
      rw [HLS.out] at c7x
      have hW5' : W3.setCell ⟨g2, k * 12 + 8, none⟩ (.bool true) = W5 := hW5.symm
      have hW6' : W5.alloc (.cells #[] 3) = W6 := hW6.symm
      have hW8' : W7.alloc (.cells #[.int .i64 (k : Int)] 3) = W8 := hW8.symm
      have hW10' : W9.setCell ⟨q, 70, none⟩ (.slice a9 m1 c9) = W10 := hW10.symm
      clear hx1 hT5 hf5 hW5 hk5 hmd hmd32 hW6 hf6 hE6 ha7 ho7 hf7 ho7' hf57 hW8 hf8 hb8 ho8 ha9 ho9 hf9 hf59 hk9 hT9 e70 hk10 hf10 hW10 hset10
      clear hm1
      go_wp2_with (first
        | (at_builtin; refine wpList_execG (.slice (some ⟨g2, 0, none⟩) n c2) (exec_append10 (.tmp 59) (.tmp 61) 33 rfl _ _ _ rfl rfl HA.out) rfl ?_)
        | (at_builtin; refine wpList_execG (.slice a7 md c7) (exec_append10 (.tmp 94) (.tmp 96) 35 rfl _ _ _ rfl rfl HA7.out) rfl ?_)
        | (at_builtin; refine wpList_execG (.slice a9 m1 c9) (exec_append10 (.tmp 97) (.tmp 99) 35 rfl _ _ _ rfl rfl HA9.out) rfl ?_))
      obtain ⟨L10, hL10⟩ : ∃ x, x = cellsK pa s.p.b.length pc s.p.h (.slice (some ⟨g2, 0, none⟩) n c2) s.hold (.slice a9 m1 c9) := ⟨_, rfl⟩
      have HL10 := Lib.hid hL10
      have HK10c := HK10
      rw [← hL10] at HK10
      have HLT : Hid (∀ X, Fr No W10 X → (Instr.loadAt 33 (.pointer (some ⟨q, 65, none⟩))).run Try.prog X = .ok (.slice (some ⟨g2, 0, none⟩) n c2) X) := Lib.hid (fun X hX => by
        have := (HK10.out.box.fr hX id).cell (i := 65) (v := .slice (some ⟨g2, 0, none⟩) n c2) (by rw [hL10]; exact cellsK_hi HVV.out.wf.hl 0)
        simp [go_sem, this])
      have hd10 : DAt pa pc s.p W10 := (HKK.out w (Fr.refl _ _)).pur.no HK10.out.fr
      have HMV := Lib.hid (fun X (f : Fr No W10 X) => rmove_any s.p pa pc ((s.tk k).f : Int) ((s.tk k).t : Int) (s.tk k).n X (hd10.no f) HVV.out.wf HNM.out)
      have HLB0 : Hid (∀ X, Fr No W10 X → (Instr.loadAt 32 (.pointer (some ⟨q, 0, none⟩))).run Try.prog X = .ok (vP pa s.p.b.length pc s.p.h) X) := Lib.hid (fun X hX => load_pk (HK10.out.box.fr hX id) hL10 HVV.out.wf.hl)
      obtain ⟨P, hP⟩ : ∃ P, P = cellsP pa s.p.b.length pc s.p.h := ⟨_, rfl⟩
      rw [vP, ← hP] at HMV HLB0
      have HCF : Hid (∀ X, Fr No W10 X → X.cell? ⟨g2, k * 12, none⟩ = some (.int .i64 ((s.tk k).f : Int)) ∧ X.cell? ⟨g2, k * 12 + 1, none⟩ = some (.int .i64 ((s.tk k).t : Int)) ∧ X.cell? ⟨g2, k * 12 + 2, none⟩ = some (.int .u64 ((s.tk k).n : Int))) := Lib.hid (fun X hX => by
        have hT := HT10.out.fr hX id
        exact ⟨hT.cell HX1.out.2 (j := 0) (by omega) (by rw [HX1.out.1]; rfl), hT.cell HX1.out.2 (j := 1) (by omega) (by rw [HX1.out.1]; rfl), hT.cell HX1.out.2 (j := 2) (by omega) (by rw [HX1.out.1]; rfl)⟩)
      obtain ⟨E, hE⟩ : ∃ E, E = s.p.movE ((s.tk k).f : Int) ((s.tk k).t : Int) (s.tk k).n := ⟨_, rfl⟩
      obtain ⟨sp, hsp⟩ : ∃ t, t = s.p.movS ((s.tk k).f : Int) ((s.tk k).t : Int) (s.tk k).n := ⟨_, rfl⟩
      rw [← hE, ← hsp] at HMV
      have HSP : Hid (sp.Wf ∧ sp.b.length = s.p.b.length) := Lib.hid ⟨by rw [hsp]; exact (Ps.Wf.movS HVV.out.wf _ _ _).1, by rw [hsp]; exact Ps.len_mov _ _ _⟩
      have HACT2 : Hid (s.act1 k = ⟨sp, s.t.set k { x1 with e := E }, s.h, s.done ++ [k]⟩) := Lib.hid (by
        rw [hsp, hE]
        unfold Bs.act1
        rw [if_neg (by rw [HLS.out]; simp), HX1.out.1])
      obtain ⟨tf, htf⟩ : ∃ x, x = (s.tk k).f := ⟨_, rfl⟩
      obtain ⟨tt, htt⟩ : ∃ x, x = (s.tk k).t := ⟨_, rfl⟩
      obtain ⟨tn, htn⟩ : ∃ x, x = (s.tk k).n := ⟨_, rfl⟩
      rw [← htf, ← htt, ← htn] at HMV HCF
      have HD10 := Lib.hid hd10
      clear hL10 hP hE hsp htf htt htn hd10 c65 c65w c65' f65' c70 c70' f70' c8 f8 c65x c7x
      refine wp_region_held_drew (S := (fun X => Fr No W10 X)) (by kernel_rfl) ((Fr.refl No W10).drew) (fun hHeld => ?_)
      refine takeD (i := 0) (d := some 120) (v := ?_) rfl (by kernel_rfl) (by kernel_rfl) (by kernel_rfl) (by kernel_rfl) (fun _ _ _ h => h) (Or.inl ⟨by kernel_rfl, fun X hX => Or.inl ?_⟩) (by assumption) ?_
      rotate_left
      · first | (go_simp; done) | (go_simp; with_reducible rfl)
      (try simp only [Act.put]); (try simp only [List.setIfInBounds_toArray]); (try simp only [List.set_cons_succ]); (try simp only [List.set_cons_zero])
      refine takeD (i := 1) (d := some 121) (v := .agg P.toArray) rfl (by kernel_rfl) (by kernel_rfl) (by kernel_rfl) (by kernel_rfl) (fun _ _ _ h => h) (Or.inl ⟨by kernel_rfl, fun X hX => Or.inl (exec_load 32 (.tmp 120) rfl _ _ rfl (HLB0.out X hX))⟩) (by assumption) ?_
      (try simp only [Act.put]); (try simp only [List.setIfInBounds_toArray]); (try simp only [List.set_cons_succ]); (try simp only [List.set_cons_zero])
      refine takeD (i := 2) (d := some 122) (v := ?_) rfl (by kernel_rfl) (by kernel_rfl) (by kernel_rfl) (by kernel_rfl) (fun _ _ _ h => h) (Or.inl ⟨by kernel_rfl, fun X hX => Or.inl ?_⟩) (by assumption) ?_
      rotate_left
      · first | (go_simp; done) | (go_simp; with_reducible rfl)
      (try simp only [Act.put]); (try simp only [List.setIfInBounds_toArray]); (try simp only [List.set_cons_succ]); (try simp only [List.set_cons_zero])
      refine takeD (i := 3) (d := some 123) (v := .slice (some ⟨g2, 0, none⟩) n c2) rfl (by kernel_rfl) (by kernel_rfl) (by kernel_rfl) (by kernel_rfl) (fun _ _ _ h => h) (Or.inl ⟨by kernel_rfl, fun X hX => Or.inl (exec_load 33 (.tmp 122) rfl _ _ rfl (HLT.out X hX))⟩) (by assumption) ?_
      (try simp only [Act.put]); (try simp only [List.setIfInBounds_toArray]); (try simp only [List.set_cons_succ]); (try simp only [List.set_cons_zero])
      refine takeD (i := 4) (d := some 124) (v := ?_) rfl (by kernel_rfl) (by kernel_rfl) (by kernel_rfl) (by kernel_rfl) (fun _ _ _ h => h) (Or.inl ⟨by kernel_rfl, fun X hX => Or.inl ?_⟩) (by assumption) ?_
      rotate_left
      · first | (go_simp; done) | (go_simp; with_reducible rfl)
      (try simp only [Act.put]); (try simp only [List.setIfInBounds_toArray]); (try simp only [List.set_cons_succ]); (try simp only [List.set_cons_zero])
      refine takeD (i := 5) (d := some 125) (v := ?_) rfl (by kernel_rfl) (by kernel_rfl) (by kernel_rfl) (by kernel_rfl) (fun _ _ _ h => h) (Or.inl ⟨by kernel_rfl, fun X hX => Or.inl ?_⟩) (by assumption) ?_
      rotate_left
      · first | (go_simp; done) | (go_simp; with_reducible rfl)
      (try simp only [Act.put]); (try simp only [List.setIfInBounds_toArray]); (try simp only [List.set_cons_succ]); (try simp only [List.set_cons_zero])
      refine takeD (i := 6) (d := some 126) (v := ?_) rfl (by kernel_rfl) (by kernel_rfl) (by kernel_rfl) (by kernel_rfl) (fun _ _ _ h => h) (Or.inl ⟨by kernel_rfl, fun X hX => Or.inl ?_⟩) (by assumption) ?_
      rotate_left
      · first | (go_simp; done) | (go_simp; with_reducible rfl)
      (try simp only [Act.put]); (try simp only [List.setIfInBounds_toArray]); (try simp only [List.set_cons_succ]); (try simp only [List.set_cons_zero])
      refine takeD (i := 7) (d := some 127) (v := ?_) rfl (by kernel_rfl) (by kernel_rfl) (by kernel_rfl) (by kernel_rfl) (fun _ _ _ h => h) (Or.inl ⟨by kernel_rfl, fun X hX => Or.inl ?_⟩) (by assumption) ?_
      rotate_left
      · have cc := HCF.out X hX; have cc1 := cc.1; have cc2 := cc.2.1; have cc3 := cc.2.2; first | (go_simp; done) | (go_simp; with_reducible rfl)
      (try simp only [Act.put]); (try simp only [List.setIfInBounds_toArray]); (try simp only [List.set_cons_succ]); (try simp only [List.set_cons_zero])
      refine takeD (i := 8) (d := some 128) (v := ?_) rfl (by kernel_rfl) (by kernel_rfl) (by kernel_rfl) (by kernel_rfl) (fun _ _ _ h => h) (Or.inl ⟨by kernel_rfl, fun X hX => Or.inl ?_⟩) (by assumption) ?_
      rotate_left
      · first | (go_simp; done) | (go_simp; with_reducible rfl)
      (try simp only [Act.put]); (try simp only [List.setIfInBounds_toArray]); (try simp only [List.set_cons_succ]); (try simp only [List.set_cons_zero])
      refine takeD (i := 9) (d := some 129) (v := .slice (some ⟨g2, 0, none⟩) n c2) rfl (by kernel_rfl) (by kernel_rfl) (by kernel_rfl) (by kernel_rfl) (fun _ _ _ h => h) (Or.inl ⟨by kernel_rfl, fun X hX => Or.inl (exec_load 33 (.tmp 128) rfl _ _ rfl (HLT.out X hX))⟩) (by assumption) ?_
      (try simp only [Act.put]); (try simp only [List.setIfInBounds_toArray]); (try simp only [List.set_cons_succ]); (try simp only [List.set_cons_zero])
      refine takeD (i := 10) (d := some 130) (v := ?_) rfl (by kernel_rfl) (by kernel_rfl) (by kernel_rfl) (by kernel_rfl) (fun _ _ _ h => h) (Or.inl ⟨by kernel_rfl, fun X hX => Or.inl ?_⟩) (by assumption) ?_
      rotate_left
      · first | (go_simp; done) | (go_simp; with_reducible rfl)
      (try simp only [Act.put]); (try simp only [List.setIfInBounds_toArray]); (try simp only [List.set_cons_succ]); (try simp only [List.set_cons_zero])
      refine takeD (i := 11) (d := some 131) (v := ?_) rfl (by kernel_rfl) (by kernel_rfl) (by kernel_rfl) (by kernel_rfl) (fun _ _ _ h => h) (Or.inl ⟨by kernel_rfl, fun X hX => Or.inl ?_⟩) (by assumption) ?_
      rotate_left
      · first | (go_simp; done) | (go_simp; with_reducible rfl)
      (try simp only [Act.put]); (try simp only [List.setIfInBounds_toArray]); (try simp only [List.set_cons_succ]); (try simp only [List.set_cons_zero])
      refine takeD (i := 12) (d := some 132) (v := ?_) rfl (by kernel_rfl) (by kernel_rfl) (by kernel_rfl) (by kernel_rfl) (fun _ _ _ h => h) (Or.inl ⟨by kernel_rfl, fun X hX => Or.inl ?_⟩) (by assumption) ?_
      rotate_left
      · first | (go_simp; done) | (go_simp; with_reducible rfl)
      (try simp only [Act.put]); (try simp only [List.setIfInBounds_toArray]); (try simp only [List.set_cons_succ]); (try simp only [List.set_cons_zero])
      refine takeD (i := 13) (d := some 133) (v := ?_) rfl (by kernel_rfl) (by kernel_rfl) (by kernel_rfl) (by kernel_rfl) (fun _ _ _ h => h) (Or.inl ⟨by kernel_rfl, fun X hX => Or.inl ?_⟩) (by assumption) ?_
      rotate_left
      · have cc := HCF.out X hX; have cc1 := cc.1; have cc2 := cc.2.1; have cc3 := cc.2.2; first | (go_simp; done) | (go_simp; with_reducible rfl)
      (try simp only [Act.put]); (try simp only [List.setIfInBounds_toArray]); (try simp only [List.set_cons_succ]); (try simp only [List.set_cons_zero])
      refine takeD (i := 14) (d := some 134) (v := ?_) rfl (by kernel_rfl) (by kernel_rfl) (by kernel_rfl) (by kernel_rfl) (fun _ _ _ h => h) (Or.inl ⟨by kernel_rfl, fun X hX => Or.inl ?_⟩) (by assumption) ?_
      rotate_left
      · first | (go_simp; done) | (go_simp; with_reducible rfl)
      (try simp only [Act.put]); (try simp only [List.setIfInBounds_toArray]); (try simp only [List.set_cons_succ]); (try simp only [List.set_cons_zero])
      refine takeD (i := 15) (d := some 135) (v := .slice (some ⟨g2, 0, none⟩) n c2) rfl (by kernel_rfl) (by kernel_rfl) (by kernel_rfl) (by kernel_rfl) (fun _ _ _ h => h) (Or.inl ⟨by kernel_rfl, fun X hX => Or.inl (exec_load 33 (.tmp 134) rfl _ _ rfl (HLT.out X hX))⟩) (by assumption) ?_
      (try simp only [Act.put]); (try simp only [List.setIfInBounds_toArray]); (try simp only [List.set_cons_succ]); (try simp only [List.set_cons_zero])
      refine takeD (i := 16) (d := some 136) (v := ?_) rfl (by kernel_rfl) (by kernel_rfl) (by kernel_rfl) (by kernel_rfl) (fun _ _ _ h => h) (Or.inl ⟨by kernel_rfl, fun X hX => Or.inl ?_⟩) (by assumption) ?_
      rotate_left
      · first | (go_simp; done) | (go_simp; with_reducible rfl)
      (try simp only [Act.put]); (try simp only [List.setIfInBounds_toArray]); (try simp only [List.set_cons_succ]); (try simp only [List.set_cons_zero])
      refine takeD (i := 17) (d := some 137) (v := ?_) rfl (by kernel_rfl) (by kernel_rfl) (by kernel_rfl) (by kernel_rfl) (fun _ _ _ h => h) (Or.inl ⟨by kernel_rfl, fun X hX => Or.inl ?_⟩) (by assumption) ?_
      rotate_left
      · first | (go_simp; done) | (go_simp; with_reducible rfl)
      (try simp only [Act.put]); (try simp only [List.setIfInBounds_toArray]); (try simp only [List.set_cons_succ]); (try simp only [List.set_cons_zero])
      refine takeD (i := 18) (d := some 138) (v := ?_) rfl (by kernel_rfl) (by kernel_rfl) (by kernel_rfl) (by kernel_rfl) (fun _ _ _ h => h) (Or.inl ⟨by kernel_rfl, fun X hX => Or.inl ?_⟩) (by assumption) ?_
      rotate_left
      · first | (go_simp; done) | (go_simp; with_reducible rfl)
      (try simp only [Act.put]); (try simp only [List.setIfInBounds_toArray]); (try simp only [List.set_cons_succ]); (try simp only [List.set_cons_zero])
      refine takeD (i := 19) (d := some 139) (v := ?_) rfl (by kernel_rfl) (by kernel_rfl) (by kernel_rfl) (by kernel_rfl) (fun _ _ _ h => h) (Or.inl ⟨by kernel_rfl, fun X hX => Or.inl ?_⟩) (by assumption) ?_
      rotate_left
      · have cc := HCF.out X hX; have cc1 := cc.1; have cc2 := cc.2.1; have cc3 := cc.2.2; first | (go_simp; done) | (go_simp; with_reducible rfl)
      (try simp only [Act.put]); (try simp only [List.setIfInBounds_toArray]); (try simp only [List.set_cons_succ]); (try simp only [List.set_cons_zero])
      refine wpAnyH_ready (rs := [20, 24]) (by kernel_rfl) (by simp) ?_
      refine (AllReadyH.cons rfl (fun K hK => ?_) (AllReadyH.cons rfl (fun K hK => ?_) AllReadyH.nil))
      · rw [if_pos (by kernel_rfl)]
        go_simp
        refine (HMV.out _ (Fr.refl No W10).drew).mono ?_
        rintro e VC ⟨pa2, pc2, rfl, hnx, hd2, hf⟩
        have HNX : Hid (pa2 = pa ∨ ∃ r, W10.heap.size ≤ r ∧ r < VC.heap.size ∧ pa2 = some ⟨r, 0, none⟩) := Lib.hid (by
          rcases hnx with h1 | ⟨r, h1, h2⟩
          · exact .inl h1
          · refine .inr ⟨r, h1, ?_, h2⟩
            obtain ⟨r2, hr2, hc2⟩ := hd2.row 0 (by rw [HSP.out.2]; exact HVV.out.wf.b1)
            rw [h2] at hr2
            injection hr2 with hr2
            injection hr2 with hr2
            subst hr2
            exact lt_cell hc2)
        have FVC : Hid (Fr No W10 VC) := Lib.hid ((Fr.refl No W10).drew.trans hf)
        have HD2 := Lib.hid hd2
        obtain ⟨P2, hP2⟩ : ∃ P, P = cellsP pa2 sp.b.length pc2 sp.h := ⟨_, rfl⟩
        have HP2 : Hid (P2 = cellsP pa2 sp.b.length pc2 sp.h ∧ P2.length = 65 ∧ ∀ u ∈ P2, u.oneCell' = true) := Lib.hid ⟨hP2, by rw [hP2]; exact cellsP_len HSP.out.1.hl, by rw [hP2]; exact cellsP_one⟩
        rw [vP, ← hP2]
        clear hnx hd2 hf hP2
        refine hK.out _ _ (FVC.out) (fun hHeld => ?_)
        clear hK K
        (try simp only [Act.put]); (try simp only [List.setIfInBounds_toArray]); (try simp only [List.set_cons_succ]); (try simp only [List.set_cons_zero])
        refine takeD (i := 21) (d := some 119) (v := ?_) rfl (by kernel_rfl) (by kernel_rfl) (by kernel_rfl) (by kernel_rfl) (fun _ _ _ h => h) (Or.inl ⟨by kernel_rfl, fun X hX => Or.inl ?_⟩) (by assumption) ?_
        rotate_left
        · first | (go_simp; done) | (go_simp; with_reducible rfl)
        (try simp only [Act.put]); (try simp only [List.setIfInBounds_toArray]); (try simp only [List.set_cons_succ]); (try simp only [List.set_cons_zero])
        refine takeD (i := 22) (d := some 141) (v := ?_) rfl (by kernel_rfl) (by kernel_rfl) (by kernel_rfl) (by kernel_rfl) (fun _ _ _ h => h) (Or.inl ⟨by kernel_rfl, fun X hX => Or.inl ?_⟩) (by assumption) ?_
        rotate_left
        · first | (go_simp; done) | (go_simp; with_reducible rfl)
        (try simp only [Act.put]); (try simp only [List.setIfInBounds_toArray]); (try simp only [List.set_cons_succ]); (try simp only [List.set_cons_zero])
        refine takeD (i := 23) (d := some 142) (v := ?_) rfl (by kernel_rfl) (by kernel_rfl) (by kernel_rfl) (by kernel_rfl) (fun _ _ _ h => h) (Or.inl ⟨by kernel_rfl, fun X hX => Or.inl ?_⟩) (by assumption) ?_
        rotate_left
        · first | (go_simp; done) | (go_simp; with_reducible rfl)
        (try simp only [Act.put]); (try simp only [List.setIfInBounds_toArray]); (try simp only [List.set_cons_succ]); (try simp only [List.set_cons_zero])
        refine wpAnyH_ready (rs := [24]) (by kernel_rfl) (by simp) ?_
        refine AllReadyH.cons rfl (fun K hK => ?_) AllReadyH.nil
        rw [if_pos (by kernel_rfl)]
        obtain ⟨b8, hb8⟩ : ∃ b, b = VC.heap.size := ⟨_, rfl⟩
        refine wpO_exec (.pointer (some ⟨b8, 0, none⟩)) (exec_alloc 32 rfl _ (by rw [hb8]; exact alloc_rp VC)) ?_
        refine K_world (K := K) (fun Y => Fr No VC Y ∧ Blk Y b8 32 zeroP) ⟨by first | exact (Fr.refl No VC).alloc _ | exact (Fr.refl No VC).drew.alloc _, by rw [hb8]; exact Blk.new _ 32 zeroP⟩ ?_
        rintro VA ⟨hf, hb⟩
        have FVA : Hid (Fr No W10 VA) := Lib.hid (FVC.out.trans hf)
        have BVA := Lib.hid hb
        have HB8 : Hid (W10.heap.size ≤ b8) := Lib.hid (by have := FVC.out.size; omega)
        have HD2b := Lib.hid (HD2.out.no hf)
        have HNE : Hid (∀ r, pa2 = some ⟨r, 0, none⟩ → pa2 ≠ pa → r ≠ b8) := Lib.hid (fun r hr hne e => by
          rcases HNX.out with h1 | ⟨r1, h1, h3, h2⟩
          · exact hne h1
          · rw [h2] at hr; injection hr with hr; injection hr with hr; omega)
        clear hf hb hb8
        refine hK.out _ _ (FVA.out) (fun hHeld => ?_)
        clear hK K
        (try simp only [Act.put]); (try simp only [List.setIfInBounds_toArray]); (try simp only [List.set_cons_succ]); (try simp only [List.set_cons_zero])
        refine wpAnyH_ready (rs := [25]) (by kernel_rfl) (by simp) ?_
        refine AllReadyH.cons rfl (fun K hK => ?_) AllReadyH.nil
        rw [if_pos (by kernel_rfl)]
        obtain ⟨Y, hY, hYB, hYF⟩ := store_rp BVA.out (L := P2) (cellsP_len rfl) HP2.out.2.1 HP2.out.2.2
        refine wpO_store 32 (.tmp 8) (.tmp 141) rfl (.pointer (some ⟨b8, 0, none⟩)) (.agg P2.toArray) rfl rfl hY ?_
        have FY : Hid (Fr No W10 Y) := Lib.hid (FVA.out.trans' hYF (fun i hi e => by have := HB8.out; omega))
        have BY := Lib.hid hYB
        have HDY : Hid (pa2 ≠ pa → DAt pa2 pc2 sp Y) := Lib.hid (fun hne => HD2b.out.fr hYF (fun a ha e => by
          rcases HNX.out with h1 | ⟨r1, h1, h3, h2⟩
          · exact hne h1
          · rw [h2] at ha; injection ha with ha; subst ha; exact HNE.out r1 h2 hne e))
        clear hY hYB hYF
        refine hK.out _ _ (FY.out) (fun hHeld => ?_)
        clear hK K
        (try simp only [Act.put]); (try simp only [List.setIfInBounds_toArray]); (try simp only [List.set_cons_succ]); (try simp only [List.set_cons_zero])
        refine takeD (i := 26) (d := some 9) (v := ?_) rfl (by kernel_rfl) (by kernel_rfl) (by kernel_rfl) (by kernel_rfl) (fun _ _ _ h => h) (Or.inl ⟨by kernel_rfl, fun X hX => Or.inl ?_⟩) (by assumption) ?_
        rotate_left
        · first | (go_simp; done) | (go_simp; with_reducible rfl)
        (try simp only [Act.put]); (try simp only [List.setIfInBounds_toArray]); (try simp only [List.set_cons_succ]); (try simp only [List.set_cons_zero])
        refine wpAnyH_done (by kernel_rfl) ?_ _
        clear hHeld
        have HLP2 := Lib.hid (load_rp BY.out HP2.out.2.1)
        obtain ⟨Y2, hs2, hk2, hf2⟩ := (show RK w q c (cellsK pa s.p.b.length pc s.p.h (.slice (some ⟨g2, 0, none⟩) n c2) s.hold (.slice a9 m1 c9)) zeroK Y from HK10c.out.on FY.out).purse (pa' := pa2) (pn' := sp.b.length) (pc' := pc2) HVV.out.wf.hl HSP.out.1.hl
        rw [← HP2.out.1] at hs2
        have HS2 := Lib.hid hs2
        obtain ⟨L12, hL12⟩ : ∃ x, x = cellsK pa2 sp.b.length pc2 sp.h (.slice (some ⟨g2, 0, none⟩) n c2) s.hold (.slice a9 m1 c9) := ⟨_, rfl⟩
        rw [← hL12] at hk2
        have HL12 := Lib.hid hL12
        have HL71b : Hid (L12.length = 71 ∧ ∀ u ∈ L12, u.oneCell' = true) := Lib.hid ⟨by rw [hL12]; exact cellsK_len HSP.out.1.hl, by rw [hL12]; exact cellsK_one rfl rfl⟩
        have hT2 := (HT10.out.fr FY.out id).fr hf2 (by have := HG2.out; omega)
        have c10 := hT2.cell HX1.out.2 (j := 10) (u := .int .i64 x1.e) (by omega) rfl
        have f10 := hT2.frozen (k * 12 + 10)
        have c65y := hk2.box.cell (i := 65) (v := .slice (some ⟨g2, 0, none⟩) n c2) (by rw [hL12]; exact cellsK_hi HSP.out.1.hl 0)
        obtain ⟨hT12, hf12⟩ := hT2.set (y := ({ x1 with e := E }, tov)) (u := .int .i64 E) HX1.out.2 (show 10 < 12 by omega) rfl
        obtain ⟨W12, hW12⟩ : ∃ x, x = Y2.setCell ⟨g2, k * 12 + 10, none⟩ (.int .i64 E) := ⟨_, rfl⟩
        rw [← hW12] at hT12 hf12
        have hk12 := hk2.far hf12 (by have := HG2.out; omega) (by have := HG2.out; omega) (by have := HG2.out; omega)
        have HLB := Lib.hid (load_rk hk12.box HL71b.out.1)
        obtain ⟨Z, hZ, hZv, hZF, hZc⟩ := hk12.put (by rfl) HL71b.out.1 HL71b.out.2
        have HST := Lib.hid hZ
        have HSV := Lib.hid hZv
        have HFZ := Lib.hid hZF
        have HDZ : Hid (DB S (s.act1 k) L12 Z) := Lib.hid (by
          have hfz : ∀ Z2, Fr S Z Z2 → Fr S w Z2 := fun Z2 f => (hZF.mono (fun _ _ e => e.elim)).trans f
          have hT12' := hT12.fr hZc (by have := HG2.out; omega)
          rw [List.set_set] at hT12'
          have h10 : W5.heap.size ≤ W10.heap.size := HSZ.out
          rw [HACT2.out]
          refine DB.mk' HSS.out HG2.out.2.2.2 (ps := ps.set k ({ x1 with e := E }, tov)) (by
            rw [HL12.out, HMD.out]
            show _ = cellsK _ _ _ _ (.slice _ (s.t.set k _).length _) _ _
            rw [List.length_set, ← HN32.out.2.2.2]
            rfl) (fun Z2 f => ?_) ?_ hT12' (fun Z2 f x hx => ?_) (fun Z2 f => ?_) HROW9.out.2.1
          · by_cases hpe : pa2 = pa
            · have h1 := HD2.out
              rw [hpe] at h1 ⊢
              exact h1.same (HD10.out.no FVC.out) HSP.out.2 (HKK.out Z2 (hfz Z2 f)).pur
            · have hlo : ∀ a, pa2 = some a → W10.heap.size ≤ a.block := fun a ha => by
                rcases HNX.out with h1 | ⟨r1, h1, h3, h2⟩
                · exact absurd h1 hpe
                · rw [h2] at ha; injection ha with ha; subst ha; exact h1
              exact ((((HDY.out hpe).fr hf2 (fun a ha e => by have := hlo a ha; have := HGW.out; omega)).fr hf12 (fun a ha e => by have := hlo a ha; have := HGW.out; omega)).fr hZc (fun a ha e => by have := hlo a ha; have := HGW.out; omega)).fr f (fun a ha hs => by have := hlo a ha; have := HSS.out a.block hs; have := HGW.out; omega)
          · rw [map_set_fst, (HKK.out w (Fr.refl _ _)).tks]
          · rcases List.mem_or_eq_of_mem_set hx with hx | rfl
            · exact (HKK.out Z2 (hfz Z2 f)).told x hx
            · have h9 := (HKK.out Z2 (hfz Z2 f)).told (s.tk k, tov) (List.mem_of_getElem? HPS.out)
              rw [HX1.out.1]
              exact h9
          · exact ((((HROW9.out.1.no FY.out).fr hf2 (fun g e => by have := HROW9.out.2.2 g e; have := HGW.out; omega)).fr hf12 (fun g e => by have := HROW9.out.2.2 g e; have := HGW.out; omega)).fr hZc (fun g e => by have := HROW9.out.2.2 g e; have := HGW.out; omega)).fr f (fun g e hs => by have := HROW9.out.2.2 g e; have := HSS.out g hs; have := HGW.out; omega))
        have hW12' : Y2.setCell ⟨g2, k * 12 + 10, none⟩ (.int .i64 E) = W12 := hW12.symm
        clear hs2 hk2 hf2 hL12 hT2 hT12 hf12 hW12 hk12 hZ hZv hZF hZc
        go_wp2_with (first
          | (refine wpList_load_eq rfl 32 _ rfl (.pointer (some ⟨b8, 0, none⟩)) (.agg P2.toArray) rfl HLP2.out ?_)
          | (refine wpList_store_eq rfl 32 _ _ rfl (.pointer (some ⟨q, 0, none⟩)) (.agg P2.toArray) rfl rfl HS2.out ?_)
          | (refine wpList_load_eq rfl 37 _ rfl (.pointer (some ⟨q, 0, none⟩)) (.agg L12.toArray) rfl HLB.out ?_)
          | (refine wpList_store_eq rfl 37 _ _ rfl (.pointer (some ⟨c, 0, none⟩)) (.agg L12.toArray) rfl rfl HST.out ?_))
        exact bodyPost_ret (results_cellT rfl rfl rfl HSV.out) rfl ⟨L12, rfl, HDZ.out, HFZ.out⟩
      · rw [if_pos (by kernel_rfl)]
        obtain ⟨b8, hb8⟩ : ∃ b, b = W10.heap.size := ⟨_, rfl⟩
        refine wpO_exec (.pointer (some ⟨b8, 0, none⟩)) (exec_alloc 32 rfl _ (by rw [hb8]; exact alloc_rp W10.drew)) ?_
        refine K_world (K := K) (fun Y => Fr No W10 Y ∧ Blk Y b8 32 zeroP) ⟨by first | exact (Fr.refl No W10).alloc _ | exact (Fr.refl No W10).drew.alloc _, by rw [hb8]; exact Blk.new _ 32 zeroP⟩ ?_
        rintro VA ⟨hf, hb⟩
        have FVA : Hid (Fr No W10 VA) := Lib.hid (hf)
        have BVA := Lib.hid hb
        have HB8 : Hid (W10.heap.size ≤ b8) := Lib.hid (by omega)
        clear hf hb hb8
        refine hK.out _ _ (FVA.out) (fun hHeld => ?_)
        clear hK K
        (try simp only [Act.put]); (try simp only [List.setIfInBounds_toArray]); (try simp only [List.set_cons_succ]); (try simp only [List.set_cons_zero])
        refine wpAnyH_ready (rs := [20]) (by kernel_rfl) (by simp) ?_
        refine AllReadyH.cons rfl (fun K hK => ?_) AllReadyH.nil
        rw [if_pos (by kernel_rfl)]
        go_simp
        refine (HMV.out _ FVA.out).mono ?_
        rintro e VC ⟨pa2, pc2, rfl, hnx, hd2, hf⟩
        have HNX : Hid (pa2 = pa ∨ ∃ r, W10.heap.size ≤ r ∧ r < VC.heap.size ∧ pa2 = some ⟨r, 0, none⟩) := Lib.hid (by
          rcases hnx with h1 | ⟨r, h1, h2⟩
          · exact .inl h1
          · refine .inr ⟨r, by have := FVA.out.size; omega, ?_, h2⟩
            obtain ⟨r2, hr2, hc2⟩ := hd2.row 0 (by rw [HSP.out.2]; exact HVV.out.wf.b1)
            rw [h2] at hr2
            injection hr2 with hr2
            injection hr2 with hr2
            subst hr2
            exact lt_cell hc2)
        have HNE : Hid (∀ r, pa2 = some ⟨r, 0, none⟩ → pa2 ≠ pa → r ≠ b8) := Lib.hid (fun r hr hne e => by
          rcases hnx with h1 | ⟨r1, h1, h2⟩
          · exact hne h1
          · rw [h2] at hr; injection hr with hr; injection hr with hr; have := BVA.out.lt; omega)
        have FVC : Hid (Fr No W10 VC) := Lib.hid (FVA.out.trans hf)
        have HD2 := Lib.hid hd2
        obtain ⟨P2, hP2⟩ : ∃ P, P = cellsP pa2 sp.b.length pc2 sp.h := ⟨_, rfl⟩
        have HP2 : Hid (P2 = cellsP pa2 sp.b.length pc2 sp.h ∧ P2.length = 65 ∧ ∀ u ∈ P2, u.oneCell' = true) := Lib.hid ⟨hP2, by rw [hP2]; exact cellsP_len HSP.out.1.hl, by rw [hP2]; exact cellsP_one⟩
        rw [vP, ← hP2]
        have BVC := Lib.hid (BVA.out.fr hf id)
        clear hnx hd2 hf hP2
        refine hK.out _ _ (FVC.out) (fun hHeld => ?_)
        clear hK K
        (try simp only [Act.put]); (try simp only [List.setIfInBounds_toArray]); (try simp only [List.set_cons_succ]); (try simp only [List.set_cons_zero])
        refine takeD (i := 21) (d := some 119) (v := ?_) rfl (by kernel_rfl) (by kernel_rfl) (by kernel_rfl) (by kernel_rfl) (fun _ _ _ h => h) (Or.inl ⟨by kernel_rfl, fun X hX => Or.inl ?_⟩) (by assumption) ?_
        rotate_left
        · first | (go_simp; done) | (go_simp; with_reducible rfl)
        (try simp only [Act.put]); (try simp only [List.setIfInBounds_toArray]); (try simp only [List.set_cons_succ]); (try simp only [List.set_cons_zero])
        refine takeD (i := 22) (d := some 141) (v := ?_) rfl (by kernel_rfl) (by kernel_rfl) (by kernel_rfl) (by kernel_rfl) (fun _ _ _ h => h) (Or.inl ⟨by kernel_rfl, fun X hX => Or.inl ?_⟩) (by assumption) ?_
        rotate_left
        · first | (go_simp; done) | (go_simp; with_reducible rfl)
        (try simp only [Act.put]); (try simp only [List.setIfInBounds_toArray]); (try simp only [List.set_cons_succ]); (try simp only [List.set_cons_zero])
        refine takeD (i := 23) (d := some 142) (v := ?_) rfl (by kernel_rfl) (by kernel_rfl) (by kernel_rfl) (by kernel_rfl) (fun _ _ _ h => h) (Or.inl ⟨by kernel_rfl, fun X hX => Or.inl ?_⟩) (by assumption) ?_
        rotate_left
        · first | (go_simp; done) | (go_simp; with_reducible rfl)
        (try simp only [Act.put]); (try simp only [List.setIfInBounds_toArray]); (try simp only [List.set_cons_succ]); (try simp only [List.set_cons_zero])
        refine wpAnyH_ready (rs := [25]) (by kernel_rfl) (by simp) ?_
        refine AllReadyH.cons rfl (fun K hK => ?_) AllReadyH.nil
        rw [if_pos (by kernel_rfl)]
        obtain ⟨Y, hY, hYB, hYF⟩ := store_rp BVC.out (L := P2) (cellsP_len rfl) HP2.out.2.1 HP2.out.2.2
        refine wpO_store 32 (.tmp 8) (.tmp 141) rfl (.pointer (some ⟨b8, 0, none⟩)) (.agg P2.toArray) rfl rfl hY ?_
        have FY : Hid (Fr No W10 Y) := Lib.hid (FVC.out.trans' hYF (fun i hi e => by have := HB8.out; omega))
        have BY := Lib.hid hYB
        have HDY : Hid (pa2 ≠ pa → DAt pa2 pc2 sp Y) := Lib.hid (fun hne => HD2.out.fr hYF (fun a ha e => by
          rcases HNX.out with h1 | ⟨r1, h1, h3, h2⟩
          · exact hne h1
          · rw [h2] at ha; injection ha with ha; subst ha; exact HNE.out r1 h2 hne e))
        clear hY hYB hYF
        refine hK.out _ _ (FY.out) (fun hHeld => ?_)
        clear hK K
        (try simp only [Act.put]); (try simp only [List.setIfInBounds_toArray]); (try simp only [List.set_cons_succ]); (try simp only [List.set_cons_zero])
        refine takeD (i := 26) (d := some 9) (v := ?_) rfl (by kernel_rfl) (by kernel_rfl) (by kernel_rfl) (by kernel_rfl) (fun _ _ _ h => h) (Or.inl ⟨by kernel_rfl, fun X hX => Or.inl ?_⟩) (by assumption) ?_
        rotate_left
        · first | (go_simp; done) | (go_simp; with_reducible rfl)
        (try simp only [Act.put]); (try simp only [List.setIfInBounds_toArray]); (try simp only [List.set_cons_succ]); (try simp only [List.set_cons_zero])
        refine wpAnyH_done (by kernel_rfl) ?_ _
        clear hHeld
        have HLP2 := Lib.hid (load_rp BY.out HP2.out.2.1)
        obtain ⟨Y2, hs2, hk2, hf2⟩ := (show RK w q c (cellsK pa s.p.b.length pc s.p.h (.slice (some ⟨g2, 0, none⟩) n c2) s.hold (.slice a9 m1 c9)) zeroK Y from HK10c.out.on FY.out).purse (pa' := pa2) (pn' := sp.b.length) (pc' := pc2) HVV.out.wf.hl HSP.out.1.hl
        rw [← HP2.out.1] at hs2
        have HS2 := Lib.hid hs2
        obtain ⟨L12, hL12⟩ : ∃ x, x = cellsK pa2 sp.b.length pc2 sp.h (.slice (some ⟨g2, 0, none⟩) n c2) s.hold (.slice a9 m1 c9) := ⟨_, rfl⟩
        rw [← hL12] at hk2
        have HL12 := Lib.hid hL12
        have HL71b : Hid (L12.length = 71 ∧ ∀ u ∈ L12, u.oneCell' = true) := Lib.hid ⟨by rw [hL12]; exact cellsK_len HSP.out.1.hl, by rw [hL12]; exact cellsK_one rfl rfl⟩
        have hT2 := (HT10.out.fr FY.out id).fr hf2 (by have := HG2.out; omega)
        have c10 := hT2.cell HX1.out.2 (j := 10) (u := .int .i64 x1.e) (by omega) rfl
        have f10 := hT2.frozen (k * 12 + 10)
        have c65y := hk2.box.cell (i := 65) (v := .slice (some ⟨g2, 0, none⟩) n c2) (by rw [hL12]; exact cellsK_hi HSP.out.1.hl 0)
        obtain ⟨hT12, hf12⟩ := hT2.set (y := ({ x1 with e := E }, tov)) (u := .int .i64 E) HX1.out.2 (show 10 < 12 by omega) rfl
        obtain ⟨W12, hW12⟩ : ∃ x, x = Y2.setCell ⟨g2, k * 12 + 10, none⟩ (.int .i64 E) := ⟨_, rfl⟩
        rw [← hW12] at hT12 hf12
        have hk12 := hk2.far hf12 (by have := HG2.out; omega) (by have := HG2.out; omega) (by have := HG2.out; omega)
        have HLB := Lib.hid (load_rk hk12.box HL71b.out.1)
        obtain ⟨Z, hZ, hZv, hZF, hZc⟩ := hk12.put (by rfl) HL71b.out.1 HL71b.out.2
        have HST := Lib.hid hZ
        have HSV := Lib.hid hZv
        have HFZ := Lib.hid hZF
        have HDZ : Hid (DB S (s.act1 k) L12 Z) := Lib.hid (by
          have hfz : ∀ Z2, Fr S Z Z2 → Fr S w Z2 := fun Z2 f => (hZF.mono (fun _ _ e => e.elim)).trans f
          have hT12' := hT12.fr hZc (by have := HG2.out; omega)
          rw [List.set_set] at hT12'
          have h10 : W5.heap.size ≤ W10.heap.size := HSZ.out
          rw [HACT2.out]
          refine DB.mk' HSS.out HG2.out.2.2.2 (ps := ps.set k ({ x1 with e := E }, tov)) (by
            rw [HL12.out, HMD.out]
            show _ = cellsK _ _ _ _ (.slice _ (s.t.set k _).length _) _ _
            rw [List.length_set, ← HN32.out.2.2.2]
            rfl) (fun Z2 f => ?_) ?_ hT12' (fun Z2 f x hx => ?_) (fun Z2 f => ?_) HROW9.out.2.1
          · by_cases hpe : pa2 = pa
            · have h1 := HD2.out
              rw [hpe] at h1 ⊢
              exact h1.same (HD10.out.no FVC.out) HSP.out.2 (HKK.out Z2 (hfz Z2 f)).pur
            · have hlo : ∀ a, pa2 = some a → W10.heap.size ≤ a.block := fun a ha => by
                rcases HNX.out with h1 | ⟨r1, h1, h3, h2⟩
                · exact absurd h1 hpe
                · rw [h2] at ha; injection ha with ha; subst ha; exact h1
              exact ((((HDY.out hpe).fr hf2 (fun a ha e => by have := hlo a ha; have := HGW.out; omega)).fr hf12 (fun a ha e => by have := hlo a ha; have := HGW.out; omega)).fr hZc (fun a ha e => by have := hlo a ha; have := HGW.out; omega)).fr f (fun a ha hs => by have := hlo a ha; have := HSS.out a.block hs; have := HGW.out; omega)
          · rw [map_set_fst, (HKK.out w (Fr.refl _ _)).tks]
          · rcases List.mem_or_eq_of_mem_set hx with hx | rfl
            · exact (HKK.out Z2 (hfz Z2 f)).told x hx
            · have h9 := (HKK.out Z2 (hfz Z2 f)).told (s.tk k, tov) (List.mem_of_getElem? HPS.out)
              rw [HX1.out.1]
              exact h9
          · exact ((((HROW9.out.1.no FY.out).fr hf2 (fun g e => by have := HROW9.out.2.2 g e; have := HGW.out; omega)).fr hf12 (fun g e => by have := HROW9.out.2.2 g e; have := HGW.out; omega)).fr hZc (fun g e => by have := HROW9.out.2.2 g e; have := HGW.out; omega)).fr f (fun g e hs => by have := HROW9.out.2.2 g e; have := HSS.out g hs; have := HGW.out; omega))
        have hW12' : Y2.setCell ⟨g2, k * 12 + 10, none⟩ (.int .i64 E) = W12 := hW12.symm
        clear hs2 hk2 hf2 hL12 hT2 hT12 hf12 hW12 hk12 hZ hZv hZF hZc
        go_wp2_with (first
          | (refine wpList_load_eq rfl 32 _ rfl (.pointer (some ⟨b8, 0, none⟩)) (.agg P2.toArray) rfl HLP2.out ?_)
          | (refine wpList_store_eq rfl 32 _ _ rfl (.pointer (some ⟨q, 0, none⟩)) (.agg P2.toArray) rfl rfl HS2.out ?_)
          | (refine wpList_load_eq rfl 37 _ rfl (.pointer (some ⟨q, 0, none⟩)) (.agg L12.toArray) rfl HLB.out ?_)
          | (refine wpList_store_eq rfl 37 _ _ rfl (.pointer (some ⟨c, 0, none⟩)) (.agg L12.toArray) rfl rfl HST.out ?_))
        exact bodyPost_ret (results_cellT rfl rfl rfl HSV.out) rfl ⟨L12, rfl, HDZ.out, HFZ.out⟩
end Go.Proofs.Ytldcglmpnildiaa
