/- The document's bank: a step that acts. -/
import Derived.Test.YtldcglmpnildiaaSkH
import Derived.Test.YtldcglmpnildiaaSdY
namespace Go.Proofs.Ytldcglmpnildiaa
open Go.RowKit
set_option linter.unusedVariables false
set_option maxRecDepth 100000

theorem cells64_row {w : World} {ao : Option Addr} {cap : Nat} {s : Ps} (h : DAt ao cap s w) : RowA w ao (cells64 s.b) := fun j u hu => by
  obtain ⟨hj, rfl⟩ := cells64_get hu
  exact h.row j hj
theorem outN_of {w : World} {ao : Option Addr} {l : List Nat} {c : Nat} (h : RowA w ao (cells64 l)) (hb : ∀ i, i < l.length → l.getD i 0 < 18446744073709551616) : OutN l (.slice ao l.length c) w :=
  ⟨ao, c, rfl, fun i hi => by
    obtain ⟨g, hg, hc⟩ := h i _ (cells64_at hi)
    exact ⟨_, hg, by rw [Addr.add_lit, Nat.zero_add]; exact hc, hb i hi⟩⟩
theorem RK.purse {w X : World} {q c : Nat} {pa pa' : Option Addr} {pn pc pn' pc' : Nat} {h h' : List (Nat × Nat)} {tv dv : Value} {f : Nat → Int} {M : List Value} (k : RK w q c (cellsK pa pn pc h tv f dv) M X) (hl : h.length = 32) (hl' : h'.length = 32) :
    ∃ Y, (Instr.storeAt 32 (.pointer (some ⟨q, 0, none⟩)) (.agg (cellsP pa' pn' pc' h').toArray)).run Try.prog X = .ok () Y ∧ RK w q c (cellsK pa' pn' pc' h' tv f dv) M Y ∧ Fr (· = q) X Y := by
  have hf : Fr (· = q) X (X.setCells q 0 (cellsP pa' pn' pc' h')) := fr_setCells _ _ _ _ _ (.inl rfl) (Fr.refl _ _)
  refine ⟨_, store_range (k.box.there (by rw [cellsP_len hl', cellsK_len hl]; omega)) (by rw [cellsP_len hl']; kernel_rfl) (by simpa using cellsP_one) _ rfl, ⟨k.fr.trans' hf (fun i hi e => by have := k.q0; omega), k.q0, k.qc, k.c0, ?_, k.res.fr hf (fun e => k.qc e.symm)⟩, hf⟩
  have h1 := k.box.setCells (cellsP pa' pn' pc' h') 0 X
  unfold cellsK at h1
  have e := putL_mid (cellsP pa' pn' pc' h') [] (cellsP pa pn pc h) [tv, .int .i64 (f 0), .int .i64 (f 1), .int .i64 (f 2), .int .i64 (f 3), dv] (by rw [cellsP_len hl, cellsP_len hl'])
  simp only [List.nil_append, List.length_nil] at e
  rw [e] at h1
  exact h1

set_option maxHeartbeats 16000000 in
theorem rstep_list {w : World} {S : Nat → Prop} (hS : ∀ k, S k → k < w.heap.size) (s : Bs) (L : List Value) (V : s.Inv) (h : DB S s L w) (k : Nat) (hk : k < s.t.length) (ho : (s.tk k).over = false) (hw : s.wants k = 4) (ha : (s.tk k).acted = false) (hls : (s.tk k).lists = true) : Calls Try.prog 13 #[.agg L.toArray, .int .i64 (k : Int)] w fun e w' =>
    ∃ L', e = .returned (.tuple #[.agg L'.toArray, .int .i64 0]) ∧ DB S (s.act1 k) L' w' ∧ Fr No w w' := by
  obtain ⟨j0, hj0, hy0, hy1, hy2⟩ := info_parts Try.infoTask10
  have HL71 : Hid (L.length = 71) := Lib.hid (h.len V.wf)
  have HAL := Lib.hid (alloc_boxk w L)
  have HR := Lib.hid (RK.new w L)
  obtain ⟨pa, pc, ta, tc, da, dc, ps, hkk⟩ := h
  have HKK := Lib.hid hkk
  have HSS := Lib.hid hS
  have HVV := Lib.hid V
  have HKS := Lib.hid hk
  obtain ⟨n, hn⟩ : ∃ n, n = s.t.length := ⟨_, rfl⟩
  have hD := hkk w (Fr.refl _ _)
  have HCE := Lib.hid hD.cells
  have HC65 : Hid (L[65]? = some (.slice ta n tc)) := Lib.hid (by rw [hn]; exact hD.cellT V.wf)
  have HHC : Hid (∀ j, j < 4 → L[66 + j]? = some (.int .i64 (s.hold j))) := Lib.hid (fun j hj => hD.hcell V.wf hj)
  have HBEL : Hid (∀ j, j < 4 → ((s.tk k).need j = true → s.hold j = (k : Int))) := Lib.hid (Bs.wants_four.1 hw)
  obtain ⟨q, hq⟩ : ∃ q, q = w.heap.size := ⟨_, rfl⟩
  obtain ⟨c, hc⟩ : ∃ c, c = w.heap.size + 1 := ⟨_, rfl⟩
  have HQ := Lib.hid hq
  have HCC := Lib.hid hc
  rw [← hc] at HAL HR
  rw [← hq] at HR
  have HN32 : Hid (n ≤ 32 ∧ k < n ∧ n = ps.length ∧ n = s.t.length) := Lib.hid ⟨by rw [hn]; exact V.len, by rw [hn]; exact hk, by rw [hn]; exact hD.lenT.symm, hn⟩
  obtain ⟨g, tov, hgt, hps, _⟩ := hD.cell hk
  have HPS := Lib.hid hps
  have hc9 : ∀ X, Fr No w X → ∀ j u, j < 12 → (cellsX (s.tk k) tov)[j]? = some u → X.cell? ⟨g, k * 12 + j, none⟩ = some u := fun X f j u hj hu => by
    obtain ⟨g3, hg3, hc3⟩ := (hD.no f).row (k * 12 + j) u (by rw [flatX_at ps k j _ hps hj]; exact hu)
    rw [hgt] at hg3
    injection hg3 with hg3
    injection hg3 with hg3
    subst hg3
    exact hc3
  have HC9 := Lib.hid hc9
  have HFL : Hid ((flatX ps).length = n * 12 ∧ ∀ u ∈ flatX ps, u.oneCell' = true) := Lib.hid ⟨by rw [flatX_len, hD.lenT, hn], hD.rowOne⟩
  have HOV := Lib.hid ho
  have HACT := Lib.hid ha
  have HLS := Lib.hid hls
  have t0 : decide ((k : Int) < 0) = false := decide_eq_false (by omega)
  have t1 : decide (n ≤ k) = false := decide_eq_false (by omega)
  have t2 : decide ((n : Int) ≤ (k : Int)) = false := decide_eq_false (by omega)
  have t3 : k < n := by omega
  have hsl : k * 12 < 9223372036854775807 := by have := HN32.out; omega
  subst hgt
  clear hq hc hkk hn hD ho hw hc9 hk V hps hS ha hls
  go_enter Try.func13, Try.ntmps13
  go_wp2_with (first
    | (refine wpList_execG (.pointer (some ⟨c, 0, none⟩)) (exec_alloc 37 rfl _ HAL.out) rfl ?_
       rw [← HQ.out]
       refine wpList_world (fun W => RK w q c L zeroK W) HR.out ?_
       intro X hX
       have HX := Lib.hid hX
       have c65 := hX.box.cell HC65.out
       have c9 : X.cell? ⟨g, k * 12 + 9, none⟩ = some (.bool false) := HC9.out X hX.fr 9 (.bool false) (by omega) (by rw [← HOV.out]; rfl)
       clear hX))
  clear c65 c9
  go_loopw [6] (fun jv wr => ∃ j : Nat, j ≤ 4 ∧ jv = .int .i64 j ∧ Hid (RK w q c L zeroK wr)) (fun jv _ => 4 - (intOf jv).toNat)
  case atStart => exact ⟨0, by omega, rfl, HX⟩
  case round =>
    obtain ⟨j, hj, rfl, HK⟩ := hrel
    by_cases hj4 : j < 4
    · have t4 : (j : Int) < 4 := by omega
      have c65 := HK.out.box.cell HC65.out
      have cH := HK.out.box.cell (HHC.out j hj4)
      have cN : wr.cell? ⟨g, k * 12 + 3 + j, none⟩ = some (.bool ((s.tk k).need j)) := by
        have hcc : j = 0 ∨ j = 1 ∨ j = 2 ∨ j = 3 := by omega
        have h1 := HC9.out wr HK.out.fr (3 + j) (.bool ((s.tk k).need j)) (by omega) (by rcases hcc with rfl | rfl | rfl | rfl <;> rfl)
        rw [show k * 12 + 3 + j = k * 12 + (3 + j) by omega]
        exact h1
      obtain ⟨k1, hk1⟩ : ∃ x, x = j + 1 := ⟨_, rfl⟩
      have s1 : (j : Int) + 1 = (k1 : Int) := by omega
      have l1 : IntKind.i64.wrap (k1 : Int) = (k1 : Int) := IntWalk.i64_in _ (by omega)
      have HJ1 : Hid (k1 = j + 1 ∧ k1 ≤ 4) := Lib.hid ⟨hk1, by omega⟩
      obtain ⟨hv', hhv⟩ : ∃ x, x = s.hold j := ⟨_, rfl⟩
      obtain ⟨nd, hnd⟩ : ∃ x, x = (s.tk k).need j := ⟨_, rfl⟩
      rw [← hhv] at cH
      rw [← hnd] at cN
      have HB := HBEL.out j hj4
      rw [← hnd, ← hhv] at HB
      cases nd with
      | false =>
        clear hj hk1 hhv hnd HB hj4
        go_wp2
        exact ⟨⟨k1, HJ1.out.2, rfl, HK⟩, by have := HJ1.out; simp [intOf]; omega⟩
      | true =>
        have t5 : (hv' != (k : Int)) = false := by rw [HB rfl]; simp
        clear hj hk1 hhv hnd HB hj4
        go_wp2
        exact ⟨⟨k1, HJ1.out.2, rfl, HK⟩, by have := HJ1.out; simp [intOf]; omega⟩
    · have t4 : ¬ (j : Int) < 4 := by omega
      have t4' : ¬ j < 4 := hj4
      have c65 := HK.out.box.cell HC65.out
      obtain ⟨W1, hW1⟩ : ∃ x, x = wr.alloc (.cells #[] 59) := ⟨_, rfl⟩
      have hf1 : Fr No wr W1 := by rw [hW1]; exact (Fr.refl No wr).alloc _
      have c65w := (HK.out.on hf1).box.cell HC65.out
      have hE : W1.ownsRow wr.heap.size 59 12 (.slice (some ⟨wr.heap.size, 0, none⟩) 0 0) 0 [] := by rw [hW1]; exact World.ownsRow_made wr #[] 0 (Nat.le_refl _) (Nat.zero_le _) rfl
      obtain ⟨v2, W2, ha, ho2, hf2⟩ := app_any 33 59 33 j0 _ 12 64 Try.underlying33 hj0 hy0 hy1 hy2 rfl (by decide) (by decide) hE ((HKK.out w (Fr.refl _ _)).row.no (HK.out.fr.trans hf1)) (HKK.out w (Fr.refl _ _)).tz HFL.out.1 HFL.out.2 (by have := HN32.out; omega) hf1.size
      obtain ⟨g2, c2, rfl, hT2⟩ := tr_of (by simpa using ho2) HN32.out.2.2.1 (by have := HN32.out; omega)
      have hfw : Fr No wr W2 := hf1.trans' hf2 (fun i hi e => by have e2 : wr.heap.size = i := Option.some.inj e; omega)
      have hb2 := HK.out.on hfw
      have c65' := hb2.box.cell HC65.out
      have f65' := hb2.box.frozen 65
      obtain ⟨hk3, hfq⟩ := hb2.set 65 (.slice (some ⟨g2, 0, none⟩) n c2)
      obtain ⟨W3, hW3⟩ : ∃ x, x = W2.setCell ⟨q, 65, none⟩ (.slice (some ⟨g2, 0, none⟩) n c2) := ⟨_, rfl⟩
      obtain ⟨L3, hL3⟩ : ∃ x, x = L.set 65 (.slice (some ⟨g2, 0, none⟩) n c2) := ⟨_, rfl⟩
      rw [← hW3, ← hL3] at hk3
      rw [← hW3] at hfq
      obtain ⟨b0, hb0⟩ : ∃ x, x = wr.heap.size := ⟨_, rfl⟩
      rw [← hb0] at hT2
      have HG2 : Hid (b0 ≤ g2 ∧ q < b0 ∧ c < b0 ∧ w.heap.size ≤ b0) := Lib.hid ⟨hT2.lt.1, by rw [hb0]; exact HK.out.box.lt, by rw [hb0]; exact HK.out.res.lt, by rw [hb0]; exact HK.out.fr.size⟩
      have HT3 := Lib.hid (hT2.fr hfq (by have := HG2.out; omega))
      have HK3 := Lib.hid hk3
      have HL3 : Hid (L3 = cellsK pa s.p.b.length pc s.p.h (.slice (some ⟨g2, 0, none⟩) n c2) s.hold (.slice da s.done.length dc)) := Lib.hid (by rw [hL3]; exact (HKK.out w (Fr.refl _ _)).setT HVV.out.wf _)
      have HA := Lib.hid ha
      have c65 := HK3.out.box.cell (i := 65) (v := .slice (some ⟨g2, 0, none⟩) n c2) (by rw [HL3.out]; exact cellsK_hi HVV.out.wf.hl 0)
      have c8 := HT3.out.cell HPS.out (j := 8) (u := .bool (s.tk k).acted) (by omega) rfl
      rw [HACT.out] at c8
      have hW1' : wr.alloc (.cells #[] 59) = W1 := hW1.symm
      have hW3' : W2.setCell ⟨q, 65, none⟩ (.slice (some ⟨g2, 0, none⟩) n c2) = W3 := hW3.symm
      clear hj hj4 hW1 hf1 hE ha ho2 hf2 hT2 hfw hb2 hk3 hfq hW3 hL3 hb0
      obtain ⟨i0, hi0, hz0, hz1, hz2⟩ := info_parts Try.infoInt10
      have f8 := HT3.out.frozen (k * 12 + 8)
      obtain ⟨x1, hx1⟩ : ∃ x : Tk, x = { s.tk k with acted := true } := ⟨_, rfl⟩
      obtain ⟨hT5, hf5⟩ := HT3.out.set (y := (x1, tov)) (u := .bool true) HPS.out (show 8 < 12 by omega) (by rw [hx1]; rfl)
      obtain ⟨W5, hW5⟩ : ∃ x, x = W3.setCell ⟨g2, k * 12 + 8, none⟩ (.bool true) := ⟨_, rfl⟩
      rw [← hW5] at hT5 hf5
      have hk5 := HK3.out.far hf5 (by have := HG2.out; omega) (by have := HG2.out; omega) (by have := HG2.out; omega)
      obtain ⟨md, hmd⟩ : ∃ m, m = s.done.length := ⟨_, rfl⟩
      have hmd32 : md ≤ 32 := by rw [hmd]; exact Bs.done_le HVV.out
      obtain ⟨W6, hW6⟩ : ∃ x, x = W5.alloc (.cells #[] 3) := ⟨_, rfl⟩
      have hf6 : Fr No W5 W6 := by rw [hW6]; exact (Fr.refl No W5).alloc _
      have hE6 : W6.ownsRow W5.heap.size 3 1 (.slice (some ⟨W5.heap.size, 0, none⟩) 0 0) 0 [] := by rw [hW6]; exact World.ownsRow_made W5 #[] 0 (Nat.le_refl _) (Nat.zero_le _) rfl
      obtain ⟨v7, W7, ha7, ho7, hf7⟩ := app_any 35 3 35 i0 _ 1 8 Try.underlying35 hi0 hz0 hz1 hz2 rfl (by decide) (by decide) (m := md) hE6 ((HKK.out w (Fr.refl _ _)).done.no (hk5.fr.trans hf6)) (HKK.out w (Fr.refl _ _)).dz (by rw [hmd]; simp [cellsD]) (cellsD_one _) (by omega) hf6.size
      have ho7' : W7.ownsRow W5.heap.size 3 1 v7 md (cellsD s.done) := by simpa using ho7
      obtain ⟨a7, c7, rfl⟩ := own_slice ho7'
      have hf57 : Fr No W5 W7 := hf6.trans' hf7 (fun i hi e => by have e2 : W5.heap.size = i := Option.some.inj e; omega)
      obtain ⟨W8, hW8⟩ : ∃ x, x = W7.alloc (.cells #[.int .i64 (k : Int)] 3) := ⟨_, rfl⟩
      have hf8 : Fr No W7 W8 := by rw [hW8]; exact (Fr.refl No W7).alloc _
      have hb8 : Blk W8 W7.heap.size 3 [.int .i64 (k : Int)] := by rw [hW8]; exact Blk.new W7 _ _
      have ho8 := owns_fr ho7' hf8 (fun _ _ => id)
      obtain ⟨v9, W9, ha9, ho9, hf9⟩ := app_any 35 3 35 i0 _ 1 8 Try.underlying35 hi0 hz0 hz1 hz2 rfl (by decide) (by decide) (ao := some ⟨W7.heap.size, 0, none⟩) (m := 1) (c := 1) (ys := [.int .i64 (k : Int)]) ho8 (fun j u hu => ⟨_, rfl, hb8.cell hu⟩) (fun e => by cases e) rfl (by intro u hu; simp at hu; subst hu; rfl) (by omega) (by have := hf57.size; have := hf8.size; omega)
      obtain ⟨m1, hm1⟩ : ∃ x, x = md + 1 := ⟨_, rfl⟩
      rw [← hm1, ← cellsD_snoc] at ho9
      obtain ⟨a9, c9, rfl⟩ := own_slice ho9
      have hf59 : Fr No W5 W9 := (hf57.trans hf8).trans' hf9 (fun i hi e => by have := (ho8.lt i e).1; omega)
      have hk9 := hk5.on hf59
      have hT9 := hT5.fr hf59 id
      have e70 : L3[70]? = some (.slice da md dc) := by rw [HL3.out, hmd]; exact cellsK_hi HVV.out.wf.hl 5
      have c70 := (hk5.on hf6).box.cell e70
      have c70' := hk9.box.cell e70
      have f70' := hk9.box.frozen 70
      obtain ⟨hk10, hf10⟩ := hk9.set 70 (.slice a9 m1 c9)
      obtain ⟨W10, hW10⟩ : ∃ x, x = W9.setCell ⟨q, 70, none⟩ (.slice a9 m1 c9) := ⟨_, rfl⟩
      have hset10 : L3.set 70 (.slice a9 m1 c9) = cellsK pa s.p.b.length pc s.p.h (.slice (some ⟨g2, 0, none⟩) n c2) s.hold (.slice a9 m1 c9) := by rw [HL3.out]; exact cellsK_setD HVV.out.wf.hl _
      rw [hset10, ← hW10] at hk10
      rw [← hW10] at hf10
      have HK10 := Lib.hid hk10
      have HT10 := Lib.hid (hT9.fr hf10 (by have := HG2.out; omega))
      have HSZ : Hid (W5.heap.size ≤ W10.heap.size) := Lib.hid (by have := hf59.size; have := hf10.size; omega)
      have HGW : Hid (g2 < W5.heap.size ∧ q < W5.heap.size ∧ c < W5.heap.size ∧ w.heap.size ≤ W5.heap.size) := Lib.hid ⟨hT5.lt.2, hk5.box.lt, hk5.res.lt, hk5.fr.size⟩
      have HO10 : Hid (∃ cc, a9 = none → cc = 0) := Lib.hid ⟨0, fun _ => rfl⟩
      have HROW9 : Hid (RowA W10 a9 (cellsD (s.done ++ [k])) ∧ (a9 = none → c9 = 0) ∧ ∀ g, a9 = some ⟨g, 0, none⟩ → W5.heap.size ≤ g) := Lib.hid (by
        obtain ⟨ao, cc, he, hr, hz⟩ := RowA.own ho9
        injection he with e1 e2 e3
        subst e1
        subst e3
        have hlo : ∀ g, a9 = some ⟨g, 0, none⟩ → W5.heap.size ≤ g := fun g e => (ho9.lt g (by rw [e]; rfl)).1
        exact ⟨hr.fr hf10 (fun g e e2 => by have := hlo g e; have := hk5.box.lt; omega), hz, hlo⟩)
      have HMD : Hid (m1 = (s.done ++ [k]).length) := Lib.hid (by rw [hm1, hmd]; simp)
      have HA7 := Lib.hid ha7
      have HA9 := Lib.hid ha9
      have HX1 : Hid (x1 = { s.tk k with acted := true } ∧ (ps.set k (x1, tov))[k]? = some (x1, tov)) := Lib.hid ⟨hx1, by
        have hlt : k < ps.length := (List.getElem?_eq_some_iff.1 HPS.out).1
        simp [hlt]⟩
      have c65x := HK10.out.box.cell (i := 65) (v := .slice (some ⟨g2, 0, none⟩) n c2) (cellsK_hi HVV.out.wf.hl 0)
      have c7x := HT10.out.cell HX1.out.2 (j := 7) (u := .bool (s.tk k).lists) (by omega) (by rw [HX1.out.1]; rfl)
      rw [HLS.out] at c7x
      have hW5' : W3.setCell ⟨g2, k * 12 + 8, none⟩ (.bool true) = W5 := hW5.symm
      have hW6' : W5.alloc (.cells #[] 3) = W6 := hW6.symm
      have hW8' : W7.alloc (.cells #[.int .i64 (k : Int)] 3) = W8 := hW8.symm
      have hW10' : W9.setCell ⟨q, 70, none⟩ (.slice a9 m1 c9) = W10 := hW10.symm
      clear hx1 hT5 hf5 hW5 hk5 hmd hmd32 hW6 hf6 hE6 ha7 ho7 hf7 ho7' hf57 hW8 hf8 hb8 ho8 ha9 ho9 hf9 hf59 hk9 hT9 e70 hk10 hf10 hW10 hset10
      clear hm1
      go_wp2_with (first
        | (at_builtin; refine wpList_execG (.slice (some ⟨g2, 0, none⟩) n c2) (exec_append10 (.tmp 59) (.tmp 61) 33 rfl _ _ _ rfl rfl HA.out) rfl ?_)
        | (at_builtin; refine wpList_execG (.slice a7 md c7) (exec_append10 (.tmp 94) (.tmp 96) 35 rfl _ _ _ rfl rfl HA7.out) rfl ?_)
        | (at_builtin; refine wpList_execG (.slice a9 m1 c9) (exec_append10 (.tmp 97) (.tmp 99) 35 rfl _ _ _ rfl rfl HA9.out) rfl ?_))
      obtain ⟨i3, hi3, hw0, hw1, hw2⟩ := info_parts Try.infoU64
      obtain ⟨L10, hL10⟩ : ∃ x, x = cellsK pa s.p.b.length pc s.p.h (.slice (some ⟨g2, 0, none⟩) n c2) s.hold (.slice a9 m1 c9) := ⟨_, rfl⟩
      have HL10 := Lib.hid hL10
      rw [← hL10] at HK10
      have HL71b : Hid (L10.length = 71 ∧ ∀ u ∈ L10, u.oneCell' = true) := Lib.hid ⟨by rw [hL10]; exact cellsK_len HVV.out.wf.hl, by rw [hL10]; exact cellsK_one rfl rfl⟩
      obtain ⟨pn, hpn⟩ : ∃ x, x = s.p.b.length := ⟨_, rfl⟩
      have HPN : Hid (pn = s.p.b.length ∧ 1 ≤ pn ∧ pn ≤ 32) := Lib.hid ⟨hpn, by rw [hpn]; exact HVV.out.wf.b1, by rw [hpn]; exact HVV.out.wf.b2⟩
      have HLT : Hid (∀ X, Fr (· = g2) W10 X → (Instr.loadAt 33 (.pointer (some ⟨q, 65, none⟩))).run Try.prog X = .ok (.slice (some ⟨g2, 0, none⟩) n c2) X) := Lib.hid (fun X hX => by
        have := (HK10.out.box.fr hX (by have := HG2.out; omega)).cell (i := 65) (v := .slice (some ⟨g2, 0, none⟩) n c2) (by rw [hL10]; exact cellsK_hi HVV.out.wf.hl 0)
        simp [go_sem, this])
      have HLP0 : Hid (∀ X, Fr (· = g2) W10 X → (Instr.loadAt 22 (.pointer (some ⟨q, 0, none⟩))).run Try.prog X = .ok (.slice pa pn pc) X) := Lib.hid (fun X hX => by
        have := (HK10.out.box.fr hX (by have := HG2.out; omega)).cell (i := 0) (v := .slice pa pn pc) (by rw [hL10, cellsK_lo HVV.out.wf.hl (by omega), hpn]; rfl)
        simp [go_sem, this])
      have HPR : Hid (RowA W10 pa (cells64 s.p.b) ∧ (pa = none → pc = 0)) := Lib.hid ⟨cells64_row ((HKK.out w (Fr.refl _ _)).pur.no HK10.out.fr), fun e => by
        obtain ⟨r, hr, _⟩ := (HKK.out w (Fr.refl _ _)).pur.row 0 HVV.out.wf.b1
        rw [e] at hr
        cases hr⟩
      clear hL10 hpn c65 c65w c65' f65' c70 c70' f70' c8 f8 c65x c7x
      refine wp_region_held_drew (S := (fun X => Fr (· = g2) W10 X)) (by kernel_rfl) ((Fr.refl _ W10).drew) (fun hHeld => ?_)
      refine takeD (i := 0) (d := some 108) (v := ?_) rfl (by kernel_rfl) (by kernel_rfl) (by kernel_rfl) (by kernel_rfl) (fun _ _ _ h => h) (Or.inl ⟨by kernel_rfl, fun X hX => Or.inl ?_⟩) (by assumption) ?_
      rotate_left
      · first | (go_simp; done) | (go_simp; with_reducible rfl)
      (try simp only [Act.put]); (try simp only [List.setIfInBounds_toArray]); (try simp only [List.set_cons_succ]); (try simp only [List.set_cons_zero])
      refine takeD (i := 1) (d := some 109) (v := .slice (some ⟨g2, 0, none⟩) n c2) rfl (by kernel_rfl) (by kernel_rfl) (by kernel_rfl) (by kernel_rfl) (fun _ _ _ h => h) (Or.inl ⟨by kernel_rfl, fun X hX => Or.inl (exec_load 33 (.tmp 108) rfl _ _ rfl (HLT.out X hX))⟩) (by assumption) ?_
      (try simp only [Act.put]); (try simp only [List.setIfInBounds_toArray]); (try simp only [List.set_cons_succ]); (try simp only [List.set_cons_zero])
      refine takeD (i := 2) (d := some 110) (v := ?_) rfl (by kernel_rfl) (by kernel_rfl) (by kernel_rfl) (by kernel_rfl) (fun _ _ _ h => h) (Or.inl ⟨by kernel_rfl, fun X hX => Or.inl ?_⟩) (by assumption) ?_
      rotate_left
      · first | (go_simp; done) | (go_simp; with_reducible rfl)
      (try simp only [Act.put]); (try simp only [List.setIfInBounds_toArray]); (try simp only [List.set_cons_succ]); (try simp only [List.set_cons_zero])
      refine takeD (i := 4) (d := some 112) (v := ?_) rfl (by kernel_rfl) (by kernel_rfl) (by kernel_rfl) (by kernel_rfl) (fun _ _ _ h => h) (Or.inl ⟨by kernel_rfl, fun X hX => Or.inl ?_⟩) (by assumption) ?_
      rotate_left
      · first | (go_simp; done) | (go_simp; with_reducible rfl)
      (try simp only [Act.put]); (try simp only [List.setIfInBounds_toArray]); (try simp only [List.set_cons_succ]); (try simp only [List.set_cons_zero])
      refine takeD (i := 5) (d := some 113) (v := ?_) rfl (by kernel_rfl) (by kernel_rfl) (by kernel_rfl) (by kernel_rfl) (fun _ _ _ h => h) (Or.inl ⟨by kernel_rfl, fun X hX => Or.inl ?_⟩) (by assumption) ?_
      rotate_left
      · first | (go_simp; done) | (go_simp; with_reducible rfl)
      (try simp only [Act.put]); (try simp only [List.setIfInBounds_toArray]); (try simp only [List.set_cons_succ]); (try simp only [List.set_cons_zero])
      refine takeD (i := 6) (d := some 114) (v := .slice pa pn pc) rfl (by kernel_rfl) (by kernel_rfl) (by kernel_rfl) (by kernel_rfl) (fun _ _ _ h => h) (Or.inl ⟨by kernel_rfl, fun X hX => Or.inl (exec_load 22 (.tmp 113) rfl _ _ rfl (HLP0.out X hX))⟩) (by assumption) ?_
      (try simp only [Act.put]); (try simp only [List.setIfInBounds_toArray]); (try simp only [List.set_cons_succ]); (try simp only [List.set_cons_zero])
      refine wpAnyH_ready (rs := [3]) (by kernel_rfl) (by simp) ?_
      refine AllReadyH.cons rfl (fun K hK => ?_) AllReadyH.nil
      rw [if_pos (by kernel_rfl)]
      go_simp
      obtain ⟨k0, hk0⟩ : ∃ k, k = W10.heap.size := ⟨_, rfl⟩
      rw [← hk0]
      refine K_world (K := K) (fun Y => Fr No W10 Y ∧ Y.ownsRow W10.heap.size 27 1 (.slice (some ⟨k0, 0, none⟩) 0 0) 0 []) ⟨by first | exact (Fr.refl No W10).alloc _ | exact ((Fr.refl No W10).alloc _).drew, by rw [hk0]; exact World.ownsRow_made W10 #[] 0 (Nat.le_refl _) (Nat.zero_le _) rfl⟩ ?_
      rintro V1 ⟨hf, he⟩
      have FV1 := Lib.hid hf
      have EV1 := Lib.hid he
      clear hf he hk0
      refine hK.out _ _ (FV1.out.mono (fun _ _ e => e.elim)) (fun hHeld => ?_)
      clear hK K
      (try simp only [Act.put]); (try simp only [List.setIfInBounds_toArray]); (try simp only [List.set_cons_succ]); (try simp only [List.set_cons_zero])
      refine wpAnyH_ready (rs := [7]) (by kernel_rfl) (by simp) ?_
      refine AllReadyH.cons rfl (fun K hK => ?_) AllReadyH.nil
      rw [if_pos (by kernel_rfl)]
      obtain ⟨v12, V2, ha, ho, hf⟩ := app_any 22 27 22 i3 _ 1 8 Try.underlying22 hi3 hw0 hw1 hw2 rfl (by decide) (by decide) (m := pn) EV1.out (HPR.out.1.no FV1.out) HPR.out.2 (by rw [HPN.out.1]; simp [cells64]) (cells64_one _) (by have := HPN.out; omega) FV1.out.size
      have ho2 : V2.ownsRow W10.heap.size 27 1 v12 pn (cells64 s.p.b) := by simpa using ho
      obtain ⟨a12, c12, rfl⟩ := own_slice ho2
      refine wp_append10 (.tmp 111) (.tmp 114) 22 rfl _ _ _ rfl rfl ha ?_
      have FV2 := Lib.hid (FV1.out.trans' hf (fun k hk e => by have := (EV1.out.lt k e).1; omega))
      have HO12 := Lib.hid ho2
      clear ha ho ho2 hf
      refine hK.out _ _ (FV2.out.mono (fun _ _ e => e.elim)) (fun hHeld => ?_)
      clear hK K
      (try simp only [Act.put]); (try simp only [List.setIfInBounds_toArray]); (try simp only [List.set_cons_succ]); (try simp only [List.set_cons_zero])
      refine takeD (i := 8) (d := some 116) (v := ?_) rfl (by kernel_rfl) (by kernel_rfl) (by kernel_rfl) (by kernel_rfl) (fun _ _ _ h => h) (Or.inl ⟨by kernel_rfl, fun X hX => Or.inl ?_⟩) (by assumption) ?_
      rotate_left
      · first | (go_simp; done) | (go_simp; with_reducible rfl)
      (try simp only [Act.put]); (try simp only [List.setIfInBounds_toArray]); (try simp only [List.set_cons_succ]); (try simp only [List.set_cons_zero])
      refine takeD (i := 9) (d := some 117) (v := ?_) rfl (by kernel_rfl) (by kernel_rfl) (by kernel_rfl) (by kernel_rfl) (fun _ _ _ h => h) (Or.inl ⟨by kernel_rfl, fun X hX => Or.inl ?_⟩) (by assumption) ?_
      rotate_left
      · first | (go_simp; done) | (go_simp; with_reducible rfl)
      (try simp only [Act.put]); (try simp only [List.setIfInBounds_toArray]); (try simp only [List.set_cons_succ]); (try simp only [List.set_cons_zero])
      refine wpAnyH_ready (rs := [10]) (by kernel_rfl) (by simp) ?_
      refine AllReadyH.cons rfl (fun K hK => ?_) AllReadyH.nil
      rw [if_pos (by kernel_rfl)]
      have c11 := (HT10.out.fr FV2.out id).cell HX1.out.2 (j := 11) (u := tov) (by omega) rfl
      have f11 := (HT10.out.fr FV2.out id).frozen (k * 12 + 11)
      go_simp
      clear c11 f11
      refine hK.out _ _ (fr_cellq (FV2.out.mono (fun _ _ e => e.elim)) _) (fun hHeld => ?_)
      clear hK K
      (try simp only [Act.put]); (try simp only [List.setIfInBounds_toArray]); (try simp only [List.set_cons_succ]); (try simp only [List.set_cons_zero])
      refine wpAnyH_done (by kernel_rfl) ?_ _
      clear hHeld
      obtain ⟨hT12, hf12⟩ := (HT10.out.fr FV2.out id).set (y := ({ x1 with told := s.p.b }, .slice a12 pn c12)) (u := .slice a12 pn c12) HX1.out.2 (show 11 < 12 by omega) rfl
      obtain ⟨W12, hW12⟩ : ∃ x, x = V2.setCell ⟨g2, k * 12 + 11, none⟩ (.slice a12 pn c12) := ⟨_, rfl⟩
      rw [← hW12] at hT12 hf12 ⊢
      have hk12 := (HK10.out.on FV2.out).far hf12 (by have := HG2.out; omega) (by have := HG2.out; omega) (by have := HG2.out; omega)
      have HLB := Lib.hid (load_rk hk12.box HL71b.out.1)
      obtain ⟨Z, hZ, hZv, hZF, hZc⟩ := hk12.put (by rfl) HL71b.out.1 HL71b.out.2
      have HST := Lib.hid hZ
      have HSV := Lib.hid hZv
      have HFZ := Lib.hid hZF
      have HDZ : Hid (DB S (s.act1 k) L10 Z) := Lib.hid (by
        have hs' : s.act1 k = ⟨s.p, s.t.set k { x1 with told := s.p.b }, s.h, s.done ++ [k]⟩ := by unfold Bs.act1; rw [if_pos HLS.out, HX1.out.1]
        have hfz : ∀ Z2, Fr S Z Z2 → Fr S w Z2 := fun Z2 f => (hZF.mono (fun _ _ e => e.elim)).trans f
        have hT12' := hT12.fr hZc (by have := HG2.out; omega)
        rw [List.set_set] at hT12'
        have h10 : W5.heap.size ≤ W10.heap.size := by exact HSZ.out
        have hro : RowA V2 a12 (cells64 s.p.b) ∧ ∀ g, a12 = some ⟨g, 0, none⟩ → W10.heap.size ≤ g := by
          obtain ⟨ao, cc, he, hr, _⟩ := RowA.own HO12.out
          injection he with e1 e2 e3
          subst e1
          exact ⟨hr, fun g e => (HO12.out.lt g (by rw [e]; rfl)).1⟩
        rw [hs']
        refine DB.mk' HSS.out HG2.out.2.2.2 (ps := ps.set k ({ x1 with told := s.p.b }, .slice a12 pn c12)) (by
          rw [HL10.out, HMD.out]
          show _ = cellsK _ _ _ _ (.slice _ (s.t.set k _).length _) _ _
          rw [List.length_set, ← HN32.out.2.2.2]
          rfl) (fun Z2 f => (HKK.out Z2 (hfz Z2 f)).pur) ?_ hT12' (fun Z2 f x hx => ?_) (fun Z2 f => ?_) HROW9.out.2.1
        · rw [map_set_fst, (HKK.out w (Fr.refl _ _)).tks]
        · rcases List.mem_or_eq_of_mem_set hx with hx | rfl
          · exact (HKK.out Z2 (hfz Z2 f)).told x hx
          · have h9 := ((hro.1.fr hf12 (fun g e => by have := hro.2 g e; have := HGW.out; omega)).fr hZc (fun g e => by have := hro.2 g e; have := HGW.out; omega)).fr f (fun g e hs => by have := hro.2 g e; have := HSS.out g hs; have := HGW.out; omega)
            have h8 := outN_of (c := c12) h9 (fun i hi => by
              have h1 := Ps.bal_le hi
              have h2 := HVV.out.wf.top
              show s.p.bal i < _
              omega)
            rw [← HPN.out.1] at h8
            exact h8
        · have h9 := (((HROW9.out.1.no FV2.out).fr hf12 (fun g e => by have := HROW9.out.2.2 g e; have := HGW.out; omega)).fr hZc (fun g e => by have := HROW9.out.2.2 g e; have := HGW.out; omega)).fr f (fun g e hs => by have := HROW9.out.2.2 g e; have := HSS.out g hs; have := HGW.out; omega)
          exact h9)
      clear hT12 hf12 hW12 hk12 hZ hZv hZF hZc
      go_wp2_with (first
        | (refine wpList_load_eq rfl 37 _ rfl (.pointer (some ⟨q, 0, none⟩)) (.agg L10.toArray) rfl HLB.out ?_)
        | (refine wpList_store_eq rfl 37 _ _ rfl (.pointer (some ⟨c, 0, none⟩)) (.agg L10.toArray) rfl rfl HST.out ?_))
      exact bodyPost_ret (results_cellT rfl rfl rfl HSV.out) rfl ⟨L10, rfl, HDZ.out, HFZ.out⟩
end Go.Proofs.Ytldcglmpnildiaa
