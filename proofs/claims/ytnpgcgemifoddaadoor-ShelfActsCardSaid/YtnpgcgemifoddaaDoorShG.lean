/- The program's Lookup. -/
import Derived.Test.YtnpgcgemifoddaaDoorShQ
import Derived.Test.YtnpgcgemifoddaaDoorSecV
namespace Go.Proofs.YtnpgcgemifoddaaDoor
open Go.RowKit Go.Shelf
set_option linter.unusedVariables false
attribute [local go_sem] Oper.semAt_some

theorem results_cellCC {P : Program} {fn : Func} {p q : Tmp} {t u : TypeId} (h : fn.results = #[.cell p t, .cell q u]) {tmps : Array Value} {w : World} {a b : Addr} {x y : Value}
    (hp : tmps.getD p undef = .pointer (some a)) (hq : tmps.getD q undef = .pointer (some b)) (hx : (Go.loadVar t a).run P w = .ok x w) (hy : (Go.loadVar u b).run P w = .ok y w) : (results fn tmps).run P w = .ok (.tuple #[x, y]) w := by
  have hp' : tmps[p]?.getD undef = .pointer (some a) := by simpa using hp
  have hq' : tmps[q]?.getD undef = .pointer (some b) := by simpa using hq
  simp [results, h, hp', hq', asAddr, hx, hy]

/-- A new variable that holds a hash. -/
theorem hash_new (W : World) (D : List Nat) (hD : D.length = 32) : ∃ Y, (Instr.storeAt 27 (.pointer (some ⟨W.heap.size, 0, none⟩)) (.agg (arr .u8 D))).run Tryd.prog (W.alloc (.cells (arr .u8 (List.replicate 32 0)) 27)) = .ok () Y ∧
    Row Y W.heap.size 27 .u8 D ∧ Fr No W Y := by
  obtain ⟨Y, hY, hYR, hYF⟩ := (Row.new W 27 .u8 (List.replicate 32 0)).stored (P := Tryd.prog) (l' := D) arHash (by rfl) hD
  exact ⟨Y, hY, hYR, ((Fr.refl No W).alloc _).trans' hYF (fun i hi h => by omega)⟩

def cn (i : Int) (e : Ent) : Bool := can (e.n : Int) i
theorem find_below {L : List Ent} (hL : L.length = 17) (i : Int) : L.find? (tells i) = (below L 17).find? (cn i) := by
  rw [below_all hL, List.find?_filter]
  congr 1
  funext e
  rw [tells, cn, Bool.eq_iff_iff]
  simp
theorem lookO_h (i : Int) : ∀ o : Option Ent, (lookO i o).1.length = 32
  | some e => by
    have h1 := (dSec_h e.hs (e.n : Int) i).len
    rw [lookO]
    dsimp only
    with_reducible exact h1
  | none => by rfl

/-- Where a hash lies that a struct has in it. -/
theorem known_sec {W : World} {q : Nat} {x : Ent} (h : Blk W q 29 x.cells) : (Instr.loadAt 27 (.pointer (some ⟨q, 2, none⟩))).run Tryd.prog W = .ok (.agg (arr .u8 x.s)) W :=
  load_range _ (h.range (o := 2) (l := x.s.map (vi .u8)) (fun j v hv => by rw [Nat.add_comm]; exact hv)) Tryd.underlying27 rfl (by rw [List.length_map, x.hs.len]; kernel_rfl) _ rfl

/-- A world in Lookup: the number's box, and the two results' variables. -/
structure LookB (w : World) (i : Int) (S : List Nat) (E : Int) (W : World) : Prop where
  fr : Fr No w W
  ci : W.cell? ⟨w.heap.size, 0, none⟩ = some (.int .i64 i)
  row : Row W (w.heap.size + 1) 27 .u8 S
  ce : W.cell? ⟨w.heap.size + 1 + 1, 0, none⟩ = some (.int .i64 E)
  fe : W.frozen? ⟨w.heap.size + 1 + 1, 0, none⟩ = false
theorem LookB.on {w W W' : World} {i E : Int} {S : List Nat} (h : LookB w i S E W) (f : Fr No W W') : LookB w i S E W' :=
  ⟨h.fr.trans f, f.cell id h.ci, h.row.fr f id, f.cell id h.ce, (f.frozen 0 (lt_cell h.ce) id).trans h.fe⟩
theorem LookB.new (w : World) (i : Int) (S : List Nat) : LookB w i S 0 (((w.alloc (.cells #[.int .i64 i] 3)).alloc (.cells (arr .u8 S) 27)).alloc (.cells #[.int .i64 0] 38)) := by
  have h1 := cell_new1 w (.int .i64 i) 3
  have h2 := Row.new (w.alloc (.cells #[.int .i64 i] 3)) 27 .u8 S
  have h3 := cell_new1 ((w.alloc (.cells #[.int .i64 i] 3)).alloc (.cells (arr .u8 S) 27)) (.int .i64 0) 38
  rw [World.size_alloc] at h2
  rw [World.size_alloc, World.size_alloc] at h3
  exact ⟨(((Fr.refl No w).alloc _).alloc _).alloc _, (((Fr.refl No _).alloc _).alloc _).cell id h1.1, h2.alloc _, h3.1, h3.2⟩
theorem LookB.grown {w W W' : World} {i E : Int} {S : List Nat} {B : Nat} {row : Option Nat} (h : LookB w i S E W) (hg : W.grownBy W' row) (hB : w.heap.size ≤ B) (hr : ∀ r, row = some r → B ≤ r ∧ ∃ o : Obj, W.heap[r]? = some o ∧ o.isCells = false) : LookB w i S E W' :=
  ⟨fr_grown_far h.fr hg hB hr, cell_kept h.ci hg (fun r e => (hr r e).2), h.row.grown hg (fun r e => (hr r e).2), cell_kept h.ce hg (fun r e => (hr r e).2), (frozen_kept h.ce hg (fun r e => (hr r e).2)).trans h.fe⟩
theorem LookB.put {w W : World} {i E : Int} {S S' : List Nat} (h : LookB w i S E W) (hS : S.length = 32) (hS' : S'.length = 32) : ∃ Y, (Instr.storeAt 27 (.pointer (some ⟨w.heap.size + 1, 0, none⟩)) (.agg (arr .u8 S'))).run Tryd.prog W = .ok () Y ∧ LookB w i S' E Y ∧ Fr (· = w.heap.size + 1) W Y := by
  obtain ⟨Y, hY, hYR, hYF⟩ := h.row.stored (P := Tryd.prog) (l' := S') arHash hS hS'
  exact ⟨Y, hY, ⟨h.fr.trans' hYF (fun i hi e => by omega), hYF.cell (by omega) h.ci, hYR, hYF.cell (by omega) h.ce, (hYF.frozen 0 (lt_cell h.ce) (by omega)).trans h.fe⟩, hYF⟩
theorem LookB.set {w W : World} {i E : Int} {S : List Nat} (h : LookB w i S E W) (E' : Int) : LookB w i S E' (W.setCell ⟨w.heap.size + 1 + 1, 0, none⟩ (.int .i64 E')) :=
  ⟨h.fr.setCell (.inr (by show w.heap.size ≤ w.heap.size + 1 + 1; omega)) _, (World.cell?_of_block (w := W) (a := ⟨w.heap.size, 0, none⟩) (Below.heap_setCell _ _ _ _ (by show w.heap.size ≠ w.heap.size + 1 + 1; omega))).trans h.ci,
    h.row.set_other (by omega) _, World.cell?_setCell_same' _ _ _ (by rw [h.ce]; rfl), by rw [World.frozen?_setCell]; exact h.fe⟩

set_option maxRecDepth 100000 in
set_option maxHeartbeats 2000000 in
theorem lookup_any (b : Nat) (L : List Ent) (i : Int) (w : World) (hB : Blk w b 32 (flat L)) (hL : L.length = 17) (hg : Gl w) :
    Calls Tryd.prog 16 #[.pointer (some ⟨b, 0, none⟩), .int .i64 i] w fun ex w' => ex = .returned (.tuple #[.agg (arr .u8 (look L i).1), .int .i64 (look L i).2]) ∧ Fr No w w' := by
  obtain ⟨S, hS⟩ : ∃ S, S = (look L i).1 := ⟨_, rfl⟩
  obtain ⟨E, hE⟩ : ∃ E, E = (look L i).2 := ⟨_, rfl⟩
  rw [← hS, ← hE]
  have HN : Hid (∀ pre : List Ent, pre <+: below L 17 → ∀ x, pre.find? (cn i) = some x → dSec x.s (x.n : Int) i = S ∧ (0 : Int) = E) := Lib.hid (fun pre hp x hx => by
    have h1 : (below L 17).find? (cn i) = some x := hp.find?_eq_some hx
    have h2 : look L i = (dSec x.s (x.n : Int) i, 0) := by simp only [look, find_below hL, h1, lookO]
    have h3 := congrArg Prod.fst h2
    have h4 := congrArg Prod.snd h2
    dsimp only at h3 h4
    exact ⟨(hS.trans h3).symm, (hE.trans h4).symm⟩)
  have HN2 : Hid ((below L 17).find? (cn i) = none → List.replicate 32 0 = S ∧ (3 : Int) = E) := Lib.hid (fun hx => by
    have h2 : look L i = (List.replicate 32 0, 3) := by simp only [look, find_below hL, hx, lookO]
    have h3 := congrArg Prod.fst h2
    have h4 := congrArg Prod.snd h2
    dsimp only at h3 h4
    exact ⟨(hS.trans h3).symm, (hE.trans h4).symm⟩)
  have HG := Lib.hid hg
  clear hS hE hg
  refine (callsIn_wide (n := 9)).1 ?_
  refine callsIn_of_wp_marks Tryd.func16 rfl trivial ?_ rfl
  simp only [Tryd.ntmps16, List.size_toArray, List.length_cons, List.length_nil, Nat.reduceAdd, Nat.reduceSub, Array.replicate_succ, Array.replicate_zero, List.push_toArray, List.append_toArray, List.nil_append, List.cons_append]
  gi_wp2_with (refine ⟨trivial, ?_⟩; gi_at_call 22; refine (callsIn_wide.2 (below_in _ _ _ b 17 rfl rfl)).mono ?_; rintro e w1 ⟨rfl, hF, hs, hci, hct⟩)
  simp only [World.size_alloc] at hci hct hs
  have hL1 : LookB w i (List.replicate 32 0) 0 w1 := (LookB.new w i (List.replicate 32 0)).on hF
  have hB1 := hB.fr hL1.fr id
  have hBw := hB.lt
  have HS : Hid (w.heap.size ≤ w1.heap.size) := Lib.hid (by omega)
  have HS2 : Hid (w.heap.size + 1 + 1 < w1.heap.size) := Lib.hid (by omega)
  have HBP : Hid (b < w.heap.size) := Lib.hid hBw
  have HD := fun (s : List Nat) (x : Int) (X : World) (h1 : H32 s) (h2 : Gl X) => derive_any s x i X h1 h2
  clear hF hB
  refine wpIn_rangeFunc_ownH rfl (by omega) (gf := 29) (lb := #[.pointer (some ⟨w.heap.size + 1 + 1 + 1, 0, none⟩), .pointer (some ⟨w.heap.size + 1 + 1 + 1 + 1, 0, none⟩)]) rfl trivial (enters_of Tryd.func29 (by kernel_rfl) rfl)
    (below_stops _ (by omega) b (w.heap.size + 1 + 1 + 1) (w.heap.size + 1 + 1 + 1 + 1) 17 L w1 (by omega) (by omega) (by omega) hci hct hB1 hL (Nat.le_refl _)) KpS.trans (KpS.book (by omega)) (Below.refl _ _) (fun _ => rfl)
    (fun pre W => (LookB w i (List.replicate 32 0) 0 W ∧ w1.heap.size ≤ W.heap.size) ∧ pre.find? (cn i) = none)
    (fun c pre W => c = Code.ret ∧ ∃ x, pre.find? (cn i) = some x ∧ LookB w i (dSec x.s (x.n : Int) i) 0 W)
    (fun s A B row hs hg hr => ⟨⟨hs.1.1.grown hg HS.out hr, Nat.le_trans hs.1.2 hg.size⟩, hs.2⟩)
    (fun c s A B row hs hg hr => ⟨hs.1, by obtain ⟨x, h1, h2⟩ := hs.2; exact ⟨x, h1, h2.grown hg HS.out hr⟩⟩)
    ⟨⟨hL1, Nat.le_refl _⟩, rfl⟩
    (fun x a' W => ∃ q, w1.heap.size ≤ q ∧ Blk W q 29 x.cells ∧ a' = (fun q => ({ tmps := #[.pointer (some ⟨b, 0, none⟩), .int .i64 i, undef, .pointer (some ⟨w.heap.size, 0, none⟩), .pointer (some ⟨w.heap.size + 1, 0, none⟩), .pointer (some ⟨w.heap.size + 1 + 1, 0, none⟩), .pointer (some ⟨q, 0, none⟩), undef, undef, .pointer (some ⟨b, 0, none⟩),
      .func (.func 29) #[] #[.pointer (some ⟨w.heap.size + 1 + 1 + 1, 0, none⟩), .pointer (some ⟨w.heap.size + 1 + 1 + 1 + 1, 0, none⟩)], .agg x.cells.toArray, undef, undef, undef, undef, undef, undef, undef, undef, undef, undef, undef, undef, undef], defers := [] } : Act)) q) (fun x a' => known_own) ?assign ?body ?done ?stop
  case assign =>
    rintro l pre x W K ⟨⟨h1, hsz⟩, h3⟩ hK
    obtain ⟨Y, hY, hYB, hYF⟩ := known_new W x
    have HY := Lib.hid hY
    clear hY
    gi_wp2_with (refine wpListIn_store_eq rfl 29 _ _ rfl (.pointer (some ⟨W.heap.size, 0, none⟩)) (.agg x.cells.toArray) rfl rfl HY.out ?_)
    exact hK _ _ (keeps_no hYF _) (kps_no hYF b) ⟨⟨h1.on hYF, Nat.le_trans hsz hYF.size⟩, h3⟩ ⟨_, hsz, hYB, rfl⟩
  case body =>
    rintro l pre x a' W hl - ⟨⟨h1, hsz⟩, h3⟩ ⟨q, hq, hqB, rfl⟩ hlen
    have hn := hqB.cell (i := 1) (v := .int .i64 (x.n : Int)) rfl
    have hci := h1.ci
    have HSC := Lib.hid (known_sec hqB)
    have HDD := Lib.hid (HD x.s (x.n : Int) W x.hs (HG.out.fr h1.fr (fun _ _ => id)))
    have HSZ := Lib.hid hsz
    have HB := Lib.hid h1
    obtain ⟨D, hD⟩ : ∃ D, D = dSec x.s (x.n : Int) i := ⟨_, rfl⟩
    have HDL : Hid (D.length = 32) := Lib.hid (by rw [hD]; exact (dSec_h x.hs _ _).len)
    have HDE : Hid (dSec x.s (x.n : Int) i = D) := Lib.hid hD.symm
    rw [← hD] at HDD
    clear h1 hsz hqB hD
    by_cases hc : can (x.n : Int) i = true
    · have HFD : Hid ((pre ++ [x]).find? (cn i) = some x) := Lib.hid (by rw [List.find?_append, h3]; simp [cn, hc])
      have e0 : dErr (x.n : Int) i = 0 := by rw [dErr, if_pos hc]
      rw [e0] at HDD
      clear hc e0
      gi_wp2_with (first
        | (refine wpListIn_load_eq rfl 27 _ rfl (.pointer (some ⟨q, 2, none⟩)) (.agg (arr .u8 x.s)) rfl HSC.out ?_)
        | (refine ⟨trivial, ?_⟩; gi_at_call 25; refine (CallsIn.inRound l (callsIn_wide.2 HDD.out)).mono ?_; rintro e w4 ⟨rfl, hF⟩
           obtain ⟨Y, hY, hYR, hYF⟩ := hash_new w4 D HDL.out
           have HY := Lib.hid hY
           have hF5 := hF.trans hYF
           obtain ⟨Z, hZ, hZB, hZF⟩ := (HB.out.on hF5).put (S' := D) (by rfl) HDL.out
           have HYL := Lib.hid (hYR.load arHash HDL.out)
           have HZ := Lib.hid hZ
           have HZB := Lib.hid hZB
           have HKF : Hid (KeepsFrom w1.heap.size W Z) := Lib.hid ((keeps_no hF5 _).trans ((hZF.keeps (HB.out.on hF5).row.isCells).from _))
           have hce := hZB.ce
           have hfe := hZB.fe
           clear hY hYR hYF hF hF5 hZ hZB hZF)
        | (refine wpListIn_store_eq rfl 27 _ _ rfl (.pointer (some ⟨w4.heap.size, 0, none⟩)) (.agg (arr .u8 D)) rfl rfl HY.out ?_)
        | (refine wpListIn_load_eq rfl 27 _ rfl (.pointer (some ⟨w4.heap.size, 0, none⟩)) (.agg (arr .u8 D)) rfl HYL.out ?_)
        | (refine wpListIn_store_eq rfl 27 _ _ rfl (.pointer (some ⟨w.heap.size + 1, 0, none⟩)) (.agg (arr .u8 D)) rfl rfl HZ.out ?_))
      exact ⟨HKF.out.trans ((KeepsOthers.setCell _ _ _).from _), rfl, x, HFD.out, by rw [HDE.out]; exact HZB.out.set 0⟩
    · have hc' : can (x.n : Int) i = false := by simpa using hc
      have HFD : Hid ((pre ++ [x]).find? (cn i) = none) := Lib.hid (by rw [List.find?_append, h3]; simp [cn, hc'])
      have e0 : dErr (x.n : Int) i = 1 := dErr_no hc'
      rw [e0] at HDD
      clear hc hc' e0
      gi_wp2_with (first
        | (refine wpListIn_load_eq rfl 27 _ rfl (.pointer (some ⟨q, 2, none⟩)) (.agg (arr .u8 x.s)) rfl HSC.out ?_)
        | (refine ⟨trivial, ?_⟩; gi_at_call 25; refine (CallsIn.inRound l (callsIn_wide.2 HDD.out)).mono ?_; rintro e w4 ⟨rfl, hF⟩
           obtain ⟨Y, hY, hYR, hYF⟩ := hash_new w4 D HDL.out
           have HY := Lib.hid hY
           have HF5 := Lib.hid (hF.trans hYF)
           clear hY hYR hYF hF)
        | (refine wpListIn_store_eq rfl 27 _ _ rfl (.pointer (some ⟨w4.heap.size, 0, none⟩)) (.agg (arr .u8 D)) rfl rfl HY.out ?_))
      exact ⟨keeps_no HF5.out _, kps_no HF5.out b, ⟨HB.out.on HF5.out, Nat.le_trans HSZ.out HF5.out.size⟩, HFD.out⟩
  case done =>
    rintro D ys W hD rfl ⟨⟨h1, hsz⟩, h3⟩ hK
    obtain ⟨rfl, rfl⟩ := HN2.out h3
    obtain ⟨Y, hY, hYB, hYF⟩ := h1.put (S' := List.replicate 32 0) (by rfl) (by rfl)
    have hYK : (Y.setCell ⟨w.heap.size + 1 + 1, 0, none⟩ (.int .i64 3)).heap[D]? = some (.deferred (some [])) :=
      (Below.heap_setCell _ _ _ _ (by show D ≠ w.heap.size + 1 + 1; have := HS2.out; omega)).trans ((hYF.block D (Array.getElem?_eq_some_iff.1 hK).1 (by have := HS2.out; omega)).trans hK)
    have HY := Lib.hid hY
    have hce := hYB.ce
    have hfe := hYB.fe
    have HYB := Lib.hid (hYB.set 3)
    have HYK := Lib.hid hYK
    clear hY hYB hYF hYK h1
    gi_wp2_with (refine wpListIn_store_eq rfl 27 _ _ rfl (.pointer (some ⟨w.heap.size + 1, 0, none⟩)) (.agg (arr .u8 (List.replicate 32 0))) rfl rfl HY.out ?_)
    have hB9 := HYB.out.grown (grownBy_putObj' _ D (.deferred none)) HS.out (fun r e => by cases e; exact ⟨hD, _, HYK.out, rfl⟩)
    have hce9 := hB9.ce
    refine ⟨by simp, .inl ⟨_, _, rfl, run_takeDeferred HYK.out, ?_⟩⟩
    exact ⟨_, results_cellCC rfl rfl rfl (hB9.row.loadVar arHash (by rfl)) (y := .int .i64 3) (by simp [go_sem, hce9]), rfl, hB9.fr⟩
  case stop =>
    rintro D c pre W hD hp ⟨rfl, x, hx, h1⟩ hK
    obtain ⟨e1, e2⟩ := HN.out pre hp x hx
    rw [e1] at h1
    have HSL : Hid (S.length = 32) := Lib.hid (by rw [← e1]; exact (dSec_h x.hs _ _).len)
    clear e1
    subst e2
    gi_wp2
    have hB9 := h1.grown (grownBy_putObj' _ D (.deferred none)) HS.out (fun r e => by cases e; exact ⟨hD, _, hK, rfl⟩)
    have hce9 := hB9.ce
    refine ⟨by simp, .inl ⟨_, _, rfl, run_takeDeferred hK, ?_⟩⟩
    exact ⟨_, results_cellCC rfl rfl rfl (hB9.row.loadVar arHash HSL.out) (y := .int .i64 0) (by simp [go_sem, hce9]), rfl, hB9.fr⟩
end Go.Proofs.YtnpgcgemifoddaaDoor
