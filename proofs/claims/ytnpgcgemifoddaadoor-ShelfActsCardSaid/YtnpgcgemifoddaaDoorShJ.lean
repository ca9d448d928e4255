/- The program's Insert. -/
import Derived.Test.YtnpgcgemifoddaaDoorShG
import Derived.Test.YtnpgcgemifoddaaDoorShB
namespace Go.Proofs.YtnpgcgemifoddaaDoor
open Go.RowKit Go.Shelf
set_option linter.unusedVariables false
attribute [local go_sem] Oper.semAt_some

theorem can_self (i : Int) : can i i = num i := by
  by_cases h : num i = true
  · obtain ⟨n, rfl, hn⟩ := num_nat h
    rw [can_of hn hn, canN_refl, h]
  · have h' : num i = false := by simpa using h
    rw [can, h']
    rfl

def bd (i : Int) (h : List Nat) (e : Ent) : Bool := can i (e.n : Int) && !(dSec h i (e.n : Int) == e.s)
theorem refused_below (L : List Ent) (i : Int) (h : List Nat) : refused L i h = (below L (place i)).any (bd i h) := by
  rw [refused, below, List.any_filter]
  congr 1

set_option maxRecDepth 100000 in
set_option maxHeartbeats 2000000 in
theorem insert_no (b : Nat) (L : List Ent) (i : Int) (h : List Nat) (w : World) (hn : num i = false) :
    Calls Tryd.prog 12 #[.pointer (some ⟨b, 0, none⟩), .int .i64 i, .agg (arr .u8 h)] w fun ex w' => ex = .returned (.int .i64 1) ∧ Fr No w w' := by
  have HC := fun X => can_any i i X
  rw [can_self, hn] at HC
  refine (callsIn_wide (n := 9)).1 ?_
  refine callsIn_of_wp_marks Tryd.func12 rfl trivial ?_ rfl
  simp only [Tryd.ntmps12, List.size_toArray, List.length_cons, List.length_nil, Nat.reduceAdd, Nat.reduceSub, Array.replicate_succ, Array.replicate_zero, List.push_toArray, List.append_toArray, List.nil_append, List.cons_append]
  gi_wp2_with (refine ⟨trivial, ?_⟩; gi_at_call 23; refine (callsIn_wide.2 (HC _)).mono ?_; rintro e w1 ⟨rfl, hF⟩; have hB1 := (LookB.new w i h).on hF; have hce := hB1.ce; have hfe := hB1.fe; have HB1 := Lib.hid hB1; clear hB1)
  have hce9 := (HB1.out.set 1).ce
  exact ⟨_, results_cell1 (x := .int .i64 1) rfl rfl (by simp [go_sem, hce9]), rfl, (HB1.out.set 1).fr⟩

set_option maxRecDepth 100000 in
set_option maxHeartbeats 4000000 in
theorem insert_ok (b : Nat) (L : List Ent) (i : Nat) (h : List Nat) (w : World) (hi : i < 65536) (hh : H32 h) (hB : Blk w b 32 (flat L)) (hL : L.length = 17) (hg : Gl w) :
    Calls Tryd.prog 12 #[.pointer (some ⟨b, 0, none⟩), .int .i64 (i : Int), .agg (arr .u8 h)] w fun ex w' => ex = .returned (.int .i64 (if refused L i h then 50 else 0)) ∧ Fr (· = b) w w' ∧
      Blk w' b 32 (flat (if refused L i h then L else L.set (placeN i) ⟨true, i, h, hh, hi⟩)) := by
  have HC := fun X => can_any (i : Int) (i : Int) X
  rw [can_self, num_of hi] at HC
  have HPL := fun X => place_ok_any i X hi
  have hrb := refused_below L (i : Int) h
  rw [place_of hi] at hrb
  obtain ⟨P, hP⟩ : ∃ P, P = placeN i := ⟨_, rfl⟩
  have HP16 : Hid (P ≤ 16) := Lib.hid (by rw [hP]; exact (placeN_is i).le)
  rw [← hP] at HPL hrb ⊢
  obtain ⟨c, hc⟩ : ∃ c, c = refused L (i : Int) h := ⟨_, rfl⟩
  rw [← hc] at hrb ⊢
  have HPR : Hid (∀ pre : List Ent, pre <+: below L P → pre.any (bd (i : Int) h) = true → c = true) := Lib.hid (fun pre hp hx => by
    obtain ⟨r, hr⟩ := hp
    rw [hrb, ← hr, List.any_append, hx]
    rfl)
  have HR := Lib.hid hrb
  obtain ⟨M, hM⟩ : ∃ M : Ent, M = ⟨true, i, h, hh, hi⟩ := ⟨_, rfl⟩
  have HM : Hid (M.cells = .bool true :: .int .i64 (i : Int) :: h.map (vi .u8)) := Lib.hid (by rw [hM]; rfl)
  rw [← hM]
  have HG := Lib.hid hg
  have HH := Lib.hid hh
  have HI := Lib.hid hi
  clear hM hP hc hg hi hh hrb
  refine (callsIn_wide (n := 9)).1 ?_
  refine callsIn_of_wp_marks Tryd.func12 rfl trivial ?_ rfl
  simp only [Tryd.ntmps12, List.size_toArray, List.length_cons, List.length_nil, Nat.reduceAdd, Nat.reduceSub, Array.replicate_succ, Array.replicate_zero, List.push_toArray, List.append_toArray, List.nil_append, List.cons_append]
  gi_wp2_with (first
    | (refine ⟨trivial, ?_⟩; gi_at_call 23; refine (callsIn_wide.2 (HC _)).mono ?_; rintro e w1 ⟨rfl, hF⟩; have hB1 := (LookB.new w (i : Int) h).on hF; have hci := hB1.ci; have HB1 := Lib.hid hB1; clear hF hB1)
    | (refine ⟨trivial, ?_⟩; gi_at_call 24; refine (callsIn_wide.2 (HPL _)).mono ?_; rintro e w2 ⟨rfl, hF⟩; have hB2 := HB1.out.on hF; have HB2 := Lib.hid hB2; have HB2l := Lib.hid (lt_cell hB2.ce); clear hF hB2 HB1)
    | (refine ⟨trivial, ?_⟩; gi_at_call 22; refine (callsIn_wide.2 (below_in _ _ _ b P rfl rfl)).mono ?_; rintro e w3 ⟨rfl, hF, hs, hcs, hct⟩; have HB3 := Lib.hid (HB2.out.on hF); have HF3 := Lib.hid hF; clear hF HB2))
  have hL0 := HB2l.out
  obtain ⟨r, hr⟩ : ∃ r, r = w2.heap.size := ⟨_, rfl⟩
  rw [← hr] at hcs hct hs hL0 ⊢
  have hBw := hB.lt
  have hB3 := hB.fr HB3.out.fr id
  have HB0 := Lib.hid hB
  have HS : Hid (w.heap.size ≤ w3.heap.size) := Lib.hid (by omega)
  have HS2 : Hid (w.heap.size + 1 + 1 < w3.heap.size) := Lib.hid (by omega)
  have HBP : Hid (b < w.heap.size) := Lib.hid hBw
  have HP' : Hid (P < 17) := Lib.hid (by have := HP16.out; omega)
  have HL := Lib.hid hL
  have HD := fun (y : Int) (X : World) (h2 : Gl X) => derive_any h (i : Int) y X HH.out h2
  clear hr hB HC HPL
  refine wpIn_rangeFunc_ownH rfl (by omega) (gf := 29) (lb := #[.pointer (some ⟨r, 0, none⟩), .pointer (some ⟨r + 1, 0, none⟩)]) rfl trivial (enters_of Tryd.func29 (by kernel_rfl) rfl)
    (below_stops _ (by omega) b r (r + 1) P L w3 (by omega) (by omega) (by omega) hcs hct hB3 hL (by have := HP16.out; omega)) KpS.trans (KpS.book (by omega)) (Below.refl _ _) (fun _ => rfl)
    (fun pre W => (LookB w (i : Int) h 0 W ∧ w3.heap.size ≤ W.heap.size) ∧ pre.any (bd (i : Int) h) = false)
    (fun c pre W => c = Code.ret ∧ pre.any (bd (i : Int) h) = true ∧ LookB w (i : Int) h 50 W)
    (fun s A B row hs hg hr => ⟨⟨hs.1.1.grown hg HS.out hr, Nat.le_trans hs.1.2 hg.size⟩, hs.2⟩)
    (fun c s A B row hs hg hr => ⟨hs.1, hs.2.1, hs.2.2.grown hg HS.out hr⟩)
    ⟨⟨HB3.out, Nat.le_refl _⟩, rfl⟩
    (fun x a' W => ∃ q, w3.heap.size ≤ q ∧ Blk W q 29 x.cells ∧ a' = (fun q => ({ tmps := #[.pointer (some ⟨b, 0, none⟩), .int .i64 (i : Int), .agg (arr .u8 h), undef, .pointer (some ⟨w.heap.size, 0, none⟩), .pointer (some ⟨w.heap.size + 1, 0, none⟩), .pointer (some ⟨w.heap.size + 1 + 1, 0, none⟩), .int .i64 (P : Int),
      .pointer (some ⟨q, 0, none⟩), undef, undef, .pointer (some ⟨b, 0, none⟩), .bool false, .bool false, .int .i64 (i : Int), .int .i64 (i : Int), .bool true, .bool false, .bool false, .int .i64 (i : Int), .int .i64 (P : Int), .pointer (some ⟨b, 0, none⟩), .int .i64 (P : Int),
      .func (.func 29) #[] #[.pointer (some ⟨r, 0, none⟩), .pointer (some ⟨r + 1, 0, none⟩)], .agg x.cells.toArray, undef, undef, undef, undef, undef, undef, undef, undef, undef, undef, undef, undef, undef, undef, undef, undef, undef, undef, undef, undef, undef, undef, undef, undef], defers := [] } : Act)) q) (fun x a' => known_own) ?assign ?body ?done ?stop
  case assign =>
    rintro l pre x W K ⟨⟨h1, hsz⟩, h3⟩ hK
    obtain ⟨Y, hY, hYB, hYF⟩ := known_new W x
    have HY := Lib.hid hY
    clear hY
    gi_wp2_with (refine wpListIn_store_eq rfl 29 _ _ rfl (.pointer (some ⟨W.heap.size, 0, none⟩)) (.agg x.cells.toArray) rfl rfl HY.out ?_)
    exact hK _ _ (keeps_no hYF _) (kps_no hYF b) ⟨⟨h1.on hYF, Nat.le_trans hsz hYF.size⟩, h3⟩ ⟨_, hsz, hYB, rfl⟩
  case body =>
    rintro l pre x a' W hl - ⟨⟨h1, hsz⟩, h3⟩ ⟨q, hq, hqB, rfl⟩ hlen
    have hn := hqB.cell (i := 1) (v := .int .i64 (x.n : Int)) rfl
    have hci := h1.ci
    have HXB := Lib.hid hqB
    have HRL := Lib.hid (h1.row.load arHash HH.out.len)
    have HDD := Lib.hid (HD (x.n : Int) W (HG.out.fr h1.fr (fun _ _ => id)))
    have HSZ := Lib.hid hsz
    have HB := Lib.hid h1
    obtain ⟨D, hD⟩ : ∃ D, D = dSec h (i : Int) (x.n : Int) := ⟨_, rfl⟩
    have HDL : Hid (D.length = 32) := Lib.hid (by rw [hD]; exact (dSec_h HH.out _ _).len)
    obtain ⟨z, hz⟩ : ∃ z, z = !(D == x.s) := ⟨_, rfl⟩
    have HZE : Hid ((!(D == x.s)) = z) := Lib.hid hz.symm
    have HBD : Hid ((pre ++ [x]).any (bd (i : Int) h) = (can (i : Int) (x.n : Int) && z)) := Lib.hid (by rw [List.any_append, h3, hz, hD]; simp [bd])
    rw [← hD] at HDD
    clear h1 hsz hqB hD hz h3
    by_cases hc : can (i : Int) (x.n : Int) = true
    · have e0 : dErr (i : Int) (x.n : Int) = 0 := by rw [dErr, if_pos hc]
      rw [e0] at HDD
      rw [hc, Bool.true_and] at HBD
      clear hc e0
      cases z with
      | true =>
        gi_wp2_with (first
          | (refine wpListIn_load_eq rfl 27 _ rfl (.pointer (some ⟨w.heap.size + 1, 0, none⟩)) (.agg (arr .u8 h)) rfl HRL.out ?_)
          | (refine ⟨trivial, ?_⟩; gi_at_call 25; refine (CallsIn.inRound l (callsIn_wide.2 HDD.out)).mono ?_; rintro e w4 ⟨rfl, hF⟩
             obtain ⟨Y, hY, hYR, hYF⟩ := hash_new w4 D HDL.out
             have HY := Lib.hid hY
             have hF5 := hF.trans hYF
             have HB5 := Lib.hid (HB.out.on hF5)
             have HYL := Lib.hid (hYR.load arHash HDL.out)
             have HSC := Lib.hid (known_sec (HXB.out.fr hF5 id))
             have HNE := Lib.hid (neq_hash D x.s HDL.out x.hs.len Y)
             rw [HZE.out] at HNE
             have hce := HB5.out.ce
             have hfe := HB5.out.fe
             have HF5 := Lib.hid hF5
             clear hY hYR hYF hF hF5)
          | (refine wpListIn_store_eq rfl 27 _ _ rfl (.pointer (some ⟨w4.heap.size, 0, none⟩)) (.agg (arr .u8 D)) rfl rfl HY.out ?_)
          | (refine wpListIn_load_eqG 27 (.tmp 9) rfl (.pointer (some ⟨w4.heap.size, 0, none⟩)) (.agg (arr .u8 D)) rfl HYL.out rfl ?_)
          | (refine wpListIn_load_eqG 27 (.tmp 37) rfl (.pointer (some ⟨q, 2, none⟩)) (.agg (arr .u8 x.s)) rfl HSC.out rfl ?_)
          | (refine wpListIn_execG (.bool true) (by intro c h; cases h) rfl (exec_bin .neq 27 (.tmp 36) (.tmp 38) 27 rfl (.agg (arr .u8 D)) (.agg (arr .u8 x.s)) _ rfl rfl rfl HNE.out) rfl ?_))
        exact ⟨(keeps_no HF5.out _).trans ((KeepsOthers.setCell _ _ _).from _), rfl, HBD.out, HB5.out.set 50⟩
      | false =>
        gi_wp2_with (first
          | (refine wpListIn_load_eq rfl 27 _ rfl (.pointer (some ⟨w.heap.size + 1, 0, none⟩)) (.agg (arr .u8 h)) rfl HRL.out ?_)
          | (refine ⟨trivial, ?_⟩; gi_at_call 25; refine (CallsIn.inRound l (callsIn_wide.2 HDD.out)).mono ?_; rintro e w4 ⟨rfl, hF⟩
             obtain ⟨Y, hY, hYR, hYF⟩ := hash_new w4 D HDL.out
             have HY := Lib.hid hY
             have hF5 := hF.trans hYF
             have HB5 := Lib.hid (HB.out.on hF5)
             have HYL := Lib.hid (hYR.load arHash HDL.out)
             have HSC := Lib.hid (known_sec (HXB.out.fr hF5 id))
             have HNE := Lib.hid (neq_hash D x.s HDL.out x.hs.len Y)
             rw [HZE.out] at HNE
             have HF5 := Lib.hid hF5
             clear hY hYR hYF hF hF5)
          | (refine wpListIn_store_eq rfl 27 _ _ rfl (.pointer (some ⟨w4.heap.size, 0, none⟩)) (.agg (arr .u8 D)) rfl rfl HY.out ?_)
          | (refine wpListIn_load_eqG 27 (.tmp 9) rfl (.pointer (some ⟨w4.heap.size, 0, none⟩)) (.agg (arr .u8 D)) rfl HYL.out rfl ?_)
          | (refine wpListIn_load_eqG 27 (.tmp 37) rfl (.pointer (some ⟨q, 2, none⟩)) (.agg (arr .u8 x.s)) rfl HSC.out rfl ?_)
          | (refine wpListIn_execG (.bool false) (by intro c h; cases h) rfl (exec_bin .neq 27 (.tmp 36) (.tmp 38) 27 rfl (.agg (arr .u8 D)) (.agg (arr .u8 x.s)) _ rfl rfl rfl HNE.out) rfl ?_))
        exact ⟨keeps_no HF5.out _, kps_no HF5.out b, ⟨HB5.out, Nat.le_trans HSZ.out HF5.out.size⟩, HBD.out⟩
    · have hc' : can (i : Int) (x.n : Int) = false := by simpa using hc
      have e0 : dErr (i : Int) (x.n : Int) = 1 := dErr_no hc'
      rw [e0] at HDD
      rw [hc', Bool.false_and] at HBD
      clear hc hc' e0
      gi_wp2_with (first
        | (refine wpListIn_load_eq rfl 27 _ rfl (.pointer (some ⟨w.heap.size + 1, 0, none⟩)) (.agg (arr .u8 h)) rfl HRL.out ?_)
        | (refine ⟨trivial, ?_⟩; gi_at_call 25; refine (CallsIn.inRound l (callsIn_wide.2 HDD.out)).mono ?_; rintro e w4 ⟨rfl, hF⟩
           obtain ⟨Y, hY, hYR, hYF⟩ := hash_new w4 D HDL.out
           have HY := Lib.hid hY
           have HF5 := Lib.hid (hF.trans hYF)
           clear hY hYR hYF hF)
        | (refine wpListIn_store_eq rfl 27 _ _ rfl (.pointer (some ⟨w4.heap.size, 0, none⟩)) (.agg (arr .u8 D)) rfl rfl HY.out ?_))
      exact ⟨keeps_no HF5.out _, kps_no HF5.out b, ⟨HB.out.on HF5.out, Nat.le_trans HSZ.out HF5.out.size⟩, HBD.out⟩
  case done =>
    rintro D ys W hD rfl ⟨⟨h1, hsz⟩, h3⟩ hK
    have hc0 : c = false := HR.out.trans h3
    subst hc0
    have HPI : Hid ((P : Int) < 17) := Lib.hid (by have := HP'.out; omega)
    have HB := Lib.hid h1
    have HK := Lib.hid hK
    have hBW := Lib.hid (HB0.out.fr h1.fr id)
    clear h1 hsz h3 hK hcs hct hB3 hL hBw
    gi_wp2
    refine wpIn_region_V (fun V => Fr No W V) ((Fr.refl No W).drew) (by kernel_rfl) (fun V hV => ?_)
    have HBV := Lib.hid (HB.out.on hV)
    have hci := HBV.out.ci
    have hpi := HPI.out
    have HLI : Hid ((Instr.loadAt 3 (.pointer (some ⟨w.heap.size, 0, none⟩))).run Tryd.prog V = .ok (.int .i64 (i : Int)) V) := Lib.hid (by simp [go_sem, hci])
    have HLD := Lib.hid (HBV.out.row.load arHash HH.out.len)
    obtain ⟨Z, hZ, hZB, hZF⟩ := place_store (hBW.out.fr hV id) (i := P) (by rw [HL.out]; exact HP'.out) M
    have HZ := Lib.hid hZ
    have hbp : b ≠ w.heap.size + 1 + 1 := by have := HBP.out; omega
    have hce := hZF.cell (fun e => hbp e.symm) HBV.out.ce
    have hfe := (hZF.frozen 0 (lt_cell HBV.out.ce) (fun e => hbp e.symm)).trans HBV.out.fe
    have hbD : D ≠ b := by have := HBP.out; have := HS.out; omega
    have hpD : D ≠ w.heap.size + 1 + 1 := by have := HS2.out; omega
    have HZF : Hid (Fr (· = b) w Z) := Lib.hid ((HBV.out.fr.mono (fun _ _ e => e.elim)).trans hZF)
    have HZK : Hid ((Z.setCell ⟨w.heap.size + 1 + 1, 0, none⟩ (.int .i64 0)).heap[D]? = some (.deferred (some []))) := Lib.hid ((Below.heap_setCell _ _ _ _ hpD).trans ((hZF.block D (Array.getElem?_eq_some_iff.1 ((hV.block D (Array.getElem?_eq_some_iff.1 HK.out).1 id).trans HK.out)).1 hbD).trans ((hV.block D (Array.getElem?_eq_some_iff.1 HK.out).1 id).trans HK.out)))
    have HZB := Lib.hid (hZB.set_other (i := 0) hbp.symm (.int .i64 0))
    have HEND : Hid ((Go.loadVar 38 ⟨w.heap.size + 1 + 1, 0, none⟩).run Tryd.prog ((Z.setCell ⟨w.heap.size + 1 + 1, 0, none⟩ (.int .i64 0)).putObj D (.deferred none)) = .ok (.int .i64 0) ((Z.setCell ⟨w.heap.size + 1 + 1, 0, none⟩ (.int .i64 0)).putObj D (.deferred none)) ∧
        Fr (· = b) w ((Z.setCell ⟨w.heap.size + 1 + 1, 0, none⟩ (.int .i64 0)).putObj D (.deferred none)) ∧ Blk ((Z.setCell ⟨w.heap.size + 1 + 1, 0, none⟩ (.int .i64 0)).putObj D (.deferred none)) b 32 (flat (L.set P M))) := Lib.hid (by
      have hg := grownBy_putObj' (Z.setCell ⟨w.heap.size + 1 + 1, 0, none⟩ (.int .i64 0)) D (.deferred none)
      have hgr : ∀ r, some D = some r → ∃ o : Obj, (Z.setCell ⟨w.heap.size + 1 + 1, 0, none⟩ (.int .i64 0)).heap[r]? = some o ∧ o.isCells = false := fun r e => by cases e; exact ⟨_, HZK.out, rfl⟩
      have hce8 : (Z.setCell ⟨w.heap.size + 1 + 1, 0, none⟩ (.int .i64 0)).cell? ⟨w.heap.size + 1 + 1, 0, none⟩ = some (.int .i64 0) := World.cell?_setCell_same' _ _ _ (by rw [hce]; rfl)
      have hce9 := cell_kept hce8 hg hgr
      refine ⟨by simp [go_sem, hce9], ?_, HZB.out.grown hg hgr⟩
      exact (HZF.out.setCell (.inr (by show w.heap.size ≤ w.heap.size + 1 + 1; omega)) _).trans' (Fr.of_grown (S := fun k => w3.heap.size ≤ k) hg (fun k e => by cases e; exact hD)) (fun k hk e => by have := HS.out; omega))
    clear hZ hZB hZF hbp hbD hpD hV
    refine takeIn (i := 0) (some 41) (.pointer (some ⟨b, 0, none⟩)) rfl rfl (by kernel_rfl) (by kernel_rfl) (by kernel_rfl) (by kernel_rfl) (fun _ _ _ h => h) (by kernel_rfl) (fun X => rfl) (fun X => by first | (go_simp; done) | (go_simp; with_reducible rfl)) ?_
    (try simp only [Act.put]); (try simp only [List.setIfInBounds_toArray]); (try simp only [List.set_cons_succ]); (try simp only [List.set_cons_zero])
    refine takeIn (i := 1) (some 42) (.int .i64 (P : Int)) rfl rfl (by kernel_rfl) (by kernel_rfl) (by kernel_rfl) (by kernel_rfl) (fun _ _ _ h => h) (by kernel_rfl) (fun X => rfl) (fun X => by first | (go_simp; done) | (go_simp; with_reducible rfl)) ?_
    (try simp only [Act.put]); (try simp only [List.setIfInBounds_toArray]); (try simp only [List.set_cons_succ]); (try simp only [List.set_cons_zero])
    refine takeIn (i := 5) (some 46) (.pointer (some ⟨b, 0, none⟩)) rfl rfl (by kernel_rfl) (by kernel_rfl) (by kernel_rfl) (by kernel_rfl) (fun _ _ _ h => h) (by kernel_rfl) (fun X => rfl) (fun X => by first | (go_simp; done) | (go_simp; with_reducible rfl)) ?_
    (try simp only [Act.put]); (try simp only [List.setIfInBounds_toArray]); (try simp only [List.set_cons_succ]); (try simp only [List.set_cons_zero])
    refine takeIn (i := 6) (some 47) (.pointer (some ⟨b, 0, none⟩)) rfl rfl (by kernel_rfl) (by kernel_rfl) (by kernel_rfl) (by kernel_rfl) (fun _ _ _ h => h) (by kernel_rfl) (fun X => rfl) (fun X => by first | (go_simp; done) | (go_simp; with_reducible rfl)) ?_
    (try simp only [Act.put]); (try simp only [List.setIfInBounds_toArray]); (try simp only [List.set_cons_succ]); (try simp only [List.set_cons_zero])
    refine wpAnyIn_ready (rs := [2, 3]) (by kernel_rfl) (by simp) ?_
    refine AllReadyIn.cons rfl (fun K hK => ?_) (AllReadyIn.cons rfl (fun K hK => ?_) AllReadyIn.nil)
    · rw [if_pos (by kernel_rfl)]
      refine wpIn_exec (.int .i64 (i : Int)) (by intro c h; cases h) rfl (w' := V) (exec_load 3 (.tmp 4) rfl _ _ rfl HLI.out) (hK _ _ ?_)
      clear hK K
      (try simp only [Act.put]); (try simp only [List.setIfInBounds_toArray]); (try simp only [List.set_cons_succ]); (try simp only [List.set_cons_zero])
      refine wpAnyIn_ready (rs := [3]) (by kernel_rfl) (by simp) ?_
      refine AllReadyIn.cons rfl (fun K hK => ?_) AllReadyIn.nil
      rw [if_pos (by kernel_rfl)]
      refine wpIn_exec (.agg (arr .u8 h)) (by intro c h; cases h) rfl (w' := V) (exec_load 27 (.tmp 5) rfl _ _ rfl HLD.out) (hK _ _ ?_)
      clear hK K
      (try simp only [Act.put]); (try simp only [List.setIfInBounds_toArray]); (try simp only [List.set_cons_succ]); (try simp only [List.set_cons_zero])
      refine takeIn (i := 4) (some 45) (.agg M.cells.toArray) rfl rfl (by kernel_rfl) (by kernel_rfl) (by kernel_rfl) (by kernel_rfl) (fun _ _ _ h => h) (by kernel_rfl) (fun X => rfl) (fun X => by exact exec_build 29 _ rfl #[(0, .bool true), (1, .int .i64 (i : Int)), (2, .agg (arr .u8 h))] (by simp [go_sem]) _ (by rw [HM.out]; exact build_place _ _ HH.out.len _)) ?_
      (try simp only [Act.put]); (try simp only [List.setIfInBounds_toArray]); (try simp only [List.set_cons_succ]); (try simp only [List.set_cons_zero])
      refine takeIn (i := 7) (some 48) (.pointer (some ⟨b, P * 34, none⟩)) rfl rfl (by kernel_rfl) (by kernel_rfl) (by kernel_rfl) (by kernel_rfl) (fun _ _ _ h => h) (by kernel_rfl) (fun X => rfl) (fun X => by first | (go_simp; done) | (go_simp; with_reducible rfl)) ?_
      (try simp only [Act.put]); (try simp only [List.setIfInBounds_toArray]); (try simp only [List.set_cons_succ]); (try simp only [List.set_cons_zero])
      refine wpAnyIn_ready (rs := [8]) (by kernel_rfl) (by simp) ?_
      refine AllReadyIn.cons rfl (fun K hK => ?_) AllReadyIn.nil
      rw [if_pos (by kernel_rfl)]
      refine wpIn_store 29 _ _ rfl (.pointer (some ⟨b, P * 34, none⟩)) (.agg M.cells.toArray) rfl rfl HZ.out (hK _ _ ?_)
      clear hK K
      (try simp only [Act.put]); (try simp only [List.setIfInBounds_toArray]); (try simp only [List.set_cons_succ]); (try simp only [List.set_cons_zero])
      refine wpAnyIn_done (by kernel_rfl) ?_ _
      simp only [Nrm]
      gi_wp2
      refine ⟨by simp, .inl ⟨_, _, rfl, run_takeDeferred HZK.out, ?_⟩⟩
      exact ⟨_, results_cell1 (x := .int .i64 0) rfl rfl HEND.out.1, rfl, HEND.out.2.1, HEND.out.2.2⟩
    · rw [if_pos (by kernel_rfl)]
      refine wpIn_exec (.agg (arr .u8 h)) (by intro c h; cases h) rfl (w' := V) (exec_load 27 (.tmp 5) rfl _ _ rfl HLD.out) (hK _ _ ?_)
      clear hK K
      (try simp only [Act.put]); (try simp only [List.setIfInBounds_toArray]); (try simp only [List.set_cons_succ]); (try simp only [List.set_cons_zero])
      refine wpAnyIn_ready (rs := [2]) (by kernel_rfl) (by simp) ?_
      refine AllReadyIn.cons rfl (fun K hK => ?_) AllReadyIn.nil
      rw [if_pos (by kernel_rfl)]
      refine wpIn_exec (.int .i64 (i : Int)) (by intro c h; cases h) rfl (w' := V) (exec_load 3 (.tmp 4) rfl _ _ rfl HLI.out) (hK _ _ ?_)
      clear hK K
      (try simp only [Act.put]); (try simp only [List.setIfInBounds_toArray]); (try simp only [List.set_cons_succ]); (try simp only [List.set_cons_zero])
      refine takeIn (i := 4) (some 45) (.agg M.cells.toArray) rfl rfl (by kernel_rfl) (by kernel_rfl) (by kernel_rfl) (by kernel_rfl) (fun _ _ _ h => h) (by kernel_rfl) (fun X => rfl) (fun X => by exact exec_build 29 _ rfl #[(0, .bool true), (1, .int .i64 (i : Int)), (2, .agg (arr .u8 h))] (by simp [go_sem]) _ (by rw [HM.out]; exact build_place _ _ HH.out.len _)) ?_
      (try simp only [Act.put]); (try simp only [List.setIfInBounds_toArray]); (try simp only [List.set_cons_succ]); (try simp only [List.set_cons_zero])
      refine takeIn (i := 7) (some 48) (.pointer (some ⟨b, P * 34, none⟩)) rfl rfl (by kernel_rfl) (by kernel_rfl) (by kernel_rfl) (by kernel_rfl) (fun _ _ _ h => h) (by kernel_rfl) (fun X => rfl) (fun X => by first | (go_simp; done) | (go_simp; with_reducible rfl)) ?_
      (try simp only [Act.put]); (try simp only [List.setIfInBounds_toArray]); (try simp only [List.set_cons_succ]); (try simp only [List.set_cons_zero])
      refine wpAnyIn_ready (rs := [8]) (by kernel_rfl) (by simp) ?_
      refine AllReadyIn.cons rfl (fun K hK => ?_) AllReadyIn.nil
      rw [if_pos (by kernel_rfl)]
      refine wpIn_store 29 _ _ rfl (.pointer (some ⟨b, P * 34, none⟩)) (.agg M.cells.toArray) rfl rfl HZ.out (hK _ _ ?_)
      clear hK K
      (try simp only [Act.put]); (try simp only [List.setIfInBounds_toArray]); (try simp only [List.set_cons_succ]); (try simp only [List.set_cons_zero])
      refine wpAnyIn_done (by kernel_rfl) ?_ _
      simp only [Nrm]
      gi_wp2
      refine ⟨by simp, .inl ⟨_, _, rfl, run_takeDeferred HZK.out, ?_⟩⟩
      exact ⟨_, results_cell1 (x := .int .i64 0) rfl rfl HEND.out.1, rfl, HEND.out.2.1, HEND.out.2.2⟩
  case stop =>
    rintro D c' pre W hD hp ⟨rfl, hx, h1⟩ hK
    obtain rfl := HPR.out pre hp hx
    have HBW := Lib.hid (HB0.out.fr h1.fr id)
    gi_wp2
    have hgr : ∀ r, some D = some r → ∃ o : Obj, W.heap[r]? = some o ∧ o.isCells = false := fun r e => by cases e; exact ⟨_, hK, rfl⟩
    have hB9 := h1.grown (grownBy_putObj' _ D (.deferred none)) HS.out (fun r e => by cases e; exact ⟨hD, _, hK, rfl⟩)
    have hce9 := hB9.ce
    refine ⟨by simp, .inl ⟨_, _, rfl, run_takeDeferred hK, ?_⟩⟩
    exact ⟨_, results_cell1 (x := .int .i64 50) rfl rfl (by simp [go_sem, hce9]), rfl, hB9.fr.mono (fun _ _ e => e.elim), HBW.out.grown (grownBy_putObj' _ D (.deferred none)) hgr⟩

theorem insert_any (b : Nat) (L : List Ent) (i : Int) (h : List Nat) (w : World) (hh : H32 h) (hB : Blk w b 32 (flat L)) (hL : L.length = 17) (hg : Gl w) :
    Calls Tryd.prog 12 #[.pointer (some ⟨b, 0, none⟩), .int .i64 i, .agg (arr .u8 h)] w fun ex w' => ex = .returned (.int .i64 (insE L i h)) ∧ Fr (· = b) w w' ∧ Blk w' b 32 (flat (insL L i h hh)) := by
  by_cases hn : num i = true
  · obtain ⟨n, rfl, hi⟩ := num_nat hn
    rw [insE, if_pos hn]
    have e : insL L (n : Int) h hh = if refused L (n : Int) h then L else L.set (placeN n) ⟨true, n, h, hh, hi⟩ := by
      unfold insL
      rw [dif_pos hn, place_of hi]
      rfl
    rw [e]
    exact insert_ok b L n h w hi hh hB hL hg
  · have hn' : num i = false := by simpa using hn
    have e : insL L i h hh = L := by unfold insL; rw [dif_neg hn]
    rw [insE, hn', e]
    refine (insert_no b L i h w hn').mono ?_
    rintro ex w' ⟨rfl, hF⟩
    exact ⟨rfl, hF.mono (fun _ _ e => e.elim), hB.fr hF id⟩
end Go.Proofs.YtnpgcgemifoddaaDoor
