import Derived.Test.YtpdnbjaamgfemaaGen
import Derived.Test.YtpdnbjaamgfemaaOctD
import Derived.Deep.MidRow
import Derived.Laws.Tables
import Derived.Stop.BytesEq
namespace Go.Proofs.Ytpdnbjaamgfemaa
open Go.RowKit
set_option linter.unusedVariables false
set_option maxRecDepth 100000

set_option maxHeartbeats 400000 in
theorem end_more (b : Nat) (s : ByteArray) (w : World) (hc : w.cell? ⟨b, 0, none⟩ = some (.string s)) (hs : 0 < s.size) :
    Calls Try.prog 30 #[.pointer (some ⟨b, 0, none⟩)] w fun e w' => e = .returned (.int .i64 11) ∧ w = w' := by
  have h1 : (0 : Int) < s.size := by omega
  go_enter Try.func30, Try.ntmps30
  go_wp2_with (go_at_call 39; refine (left_any _ _ _ hc).mono ?_; rintro e w' ⟨rfl, rfl⟩)
  go_ret
  exact ⟨rfl, rfl⟩

set_option maxHeartbeats 400000 in
theorem end_ok (b : Nat) (w : World) (hc : w.cell? ⟨b, 0, none⟩ = some (.string ⟨#[]⟩)) :
    Calls Try.prog 30 #[.pointer (some ⟨b, 0, none⟩)] w fun e w' => e = .returned (.int .i64 0) ∧ w = w' := by
  go_enter Try.func30, Try.ntmps30
  go_wp2_with (go_at_call 39; refine (left_any _ _ _ hc).mono ?_; rintro e w' ⟨rfl, rfl⟩)
  go_ret
  exact ⟨rfl, rfl⟩

theorem Try.infoHash : (Try.prog.info? 25).map (·.size) = some 32 := by kernel_rfl

/-- Two results that lie in variables. -/
theorem results_cells2 {P : Program} {fn : Func} {p q : Tmp} {t u : TypeId} (h : fn.results = #[.cell p t, .cell q u]) {tmps : Array Value} {w : World} {a b : Addr} {x y : Value}
    (hp : tmps.getD p undef = .pointer (some a)) (hq : tmps.getD q undef = .pointer (some b)) (hx : (loadVar t a).run P w = .ok x w) (hy : (loadVar u b).run P w = .ok y w) : (results fn tmps).run P w = .ok (.tuple #[x, y]) w := by
  have hp' : tmps[p]?.getD undef = .pointer (some a) := by simpa using hp
  have hq' : tmps[q]?.getD undef = .pointer (some b) := by simpa using hq
  simp [results, h, hp', hq', asAddr, hx, hy]

set_option maxHeartbeats 1000000 in
set_option maxRecDepth 100000 in
theorem rhash_ok (b : Nat) (hs l2 : List UInt8) (w : World) (hl : hs.length = 32) (hc : w.cell? ⟨b, 0, none⟩ = some (.string (str (hs ++ l2)))) (hf : w.frozen? ⟨b, 0, none⟩ = false) (hm : (hs ++ l2).length ≤ maxLen) :
    Calls Try.prog 68 #[.pointer (some ⟨b, 0, none⟩)] w fun e w' => e = .returned (.tuple #[.agg (hs.map u8v).toArray, .int .i64 0]) ∧ Rd b (str l2) w w' := by
  have hb := lt_cell hc
  have HL := Lib.hid hl
  clear hl
  go_enter_defers Try.func68, Try.ntmps68
  go_wp2_with fail
  refine (back_R b (w.heap.size + 1) (str (hs ++ l2)) _ (by rw [World.cell?_alloc_lt _ _ _ (by simp; omega), World.cell?_alloc_lt _ _ _ hb]; exact hc)).mono ?_
  rintro e w1 ⟨rfl, hD, hF⟩
  have ce : w1.cell? ⟨w.heap.size + 1, 0, none⟩ = some (.int .i64 0) := hF.cell id (by simp [go_sem])
  have fe : w1.frozen? ⟨w.heap.size + 1, 0, none⟩ = false := (hF.frozen 0 (by simp) id).trans (by simp [go_sem])
  obtain ⟨Z, hZ, hH⟩ : ∃ Z : Array Value, Z.size = 32 ∧ w1.heap[w.heap.size]? = some (.cells Z 25 (0, 0)) :=
    ⟨_, by rfl, (hF.block _ (by simp; omega) id).trans ((Below.heap_alloc _ _ _ (by simp)).trans (heap_alloc_new w _))⟩
  have hF1 : Fr (· = b) w w1 := (((Fr.refl _ w).alloc _).alloc _).trans (hF.mono (fun _ _ h => h.elim))
  have cb : w1.cell? ⟨b, 0, none⟩ = some (.string (str (hs ++ l2))) := ((((Fr.refl No w).alloc _).alloc _).trans hF).cell id hc
  have fb : w1.frozen? ⟨b, 0, none⟩ = false := (((((Fr.refl No w).alloc _).alloc _).trans hF).frozen 0 hb id).trans hf
  rw [World.size_alloc, World.size_alloc] at hD
  have HD := Lib.hid hD
  have HF := Lib.hid hF1
  have HH := Lib.hid hH
  clear hD hF hF1 hH
  go_wp2_with fail
  have hk := take_L b hs l2 w1 cb fb hm
  rw [HL.out] at hk
  refine hk.mono ?_
  rintro e w2 ⟨rfl, hr⟩
  have ce2 := hr.2.2.cell (show ¬ w.heap.size + 1 = b by omega) ce
  have fe2 := (hr.2.2.frozen 0 (lt_cell ce) (show ¬ w.heap.size + 1 = b by omega)).trans fe
  have hH2 : w2.heap[w.heap.size]? = some (.cells Z 25 (0, 0)) := (hr.2.2.block _ (by have := lt_cell ce; omega) (Nat.ne_of_gt hb)).trans HH.out
  have HD2 := Lib.hid (HD.out.fr hr.2.2 (fun k hk => by show ¬ k = _; omega))
  have HF2 := Lib.hid (HF.out.trans hr.2.2)
  have HR := Lib.hid hr
  clear hr ce fe cb fb HD HF hc hf hk
  obtain ⟨W, hW, t1, t2, t3⟩ := once (x := .int .i64 0) ce2 fe2
  have hH3 : W.heap[w.heap.size]? = some (.cells Z 25 (0, 0)) := (t2.block _ (by have := lt_cell ce2; omega) (show ¬ w.heap.size = w.heap.size + 1 by omega)).trans hH2
  have hcp := Lib.run_copy_row_string (P := Try.prog) W 48 9 3 5 w.heap.size 0 32 32 (str hs) Z 25 Try.underlying48 Try.infoU8' hH3 (by rw [str_size, HL.out]; omega) (by rw [str_size, HL.out]; omega)
  have hC : (Z.toList.take 0 ++ Lib.byteCells (str hs).data.toList ++ Z.toList.drop (0 + (str hs).size)).toArray = (hs.map u8v).toArray := by
    rw [str_size, HL.out, List.drop_of_length_le (by simp; omega)]
    simp [Lib.byteCells, str]
  rw [hC] at hcp
  obtain ⟨C, hCC⟩ : ∃ C, C = (hs.map u8v).toArray := ⟨_, rfl⟩
  have hCs : C.size = 32 := by rw [hCC]; simpa using HL.out
  have hC1 : C.all (·.oneCell') = true := by rw [hCC]; exact all_oneCell_toArray (oneCell_u8 hs)
  rw [← hCC] at hcp
  obtain ⟨V, hV⟩ : ∃ V, V = W.setRow w.heap.size C := ⟨_, rfl⟩
  have hVH : V.heap[w.heap.size]? = some (.cells C 25 (0, 0)) := by rw [hV]; exact setRow_heap _ _ Z _ 25 (0, 0) hH3
  have v2 : Fr (· = w.heap.size) W V := by rw [hV]; exact fr_setRow (Fr.refl (fun k => k = w.heap.size) _) (.inl rfl) _
  rw [← hV] at hcp
  have cv := v2.cell (show ¬ w.heap.size + 1 = w.heap.size by omega) t1
  have fv := (v2.frozen 0 (lt_cell t1) (show ¬ w.heap.size + 1 = w.heap.size by omega)).trans t3
  have hld : (Instr.loadAt 25 (.pointer (some ⟨w.heap.size, 0, none⟩))).run Try.prog V = .ok (.agg C) V := by
    simp only [Instr.loadAt, Instr.sureAddr, Sem.run_bind, Sem.run_pure, Result.andThen_ok, run_loadVar_row V _ 25 25 C (0, 0) _ hVH Try.underlying25 rfl (by rw [Try.infoHash, hCs])]
  have hst : (Instr.storeAt 25 (.pointer (some ⟨w.heap.size, 0, none⟩)) (.agg C)).run Try.prog V = .ok () V := by
    simp only [Instr.storeAt, Instr.sureAddr, Sem.run_bind, Sem.run_pure, Result.andThen_ok, run_storeVar_row V _ 25 25 C C hVH (by rw [Try.infoHash, hCs]) rfl hC1]
    rw [setRow_self V _ C _ _ hVH]
  have hsz : (str hs).size = 32 := by rw [str_size, HL.out]
  rw [hsz] at hcp
  have HCC := Lib.hid hCC
  have HVH := Lib.hid hVH
  have HT := Lib.hid t2
  have HV := Lib.hid v2
  rw [hW] at hcp
  clear hV hCC hVH t2 v2 hC hH3 hH2 hC1 hCs hsz t1 t3
  have HLD := Lib.hid hld
  have HST := Lib.hid hst
  clear hld hst
  go_wp2_with (first | (refine wpList_load_eq rfl 25 _ rfl (.pointer (some ⟨w.heap.size, 0, none⟩)) (.agg C) rfl HLD.out ?_) | (refine wpList_store_eq rfl 25 _ _ rfl (.pointer (some ⟨w.heap.size, 0, none⟩)) (.agg C) rfl rfl HST.out ?_))
  obtain ⟨Y, hY, y1, y2, y3⟩ := once (x := .int .i64 0) cv fv
  rw [← hY]
  have hYH : Y.heap[w.heap.size]? = some (.cells C 25 (0, 0)) := (y2.block _ (by have := lt_cell cv; omega) (show ¬ w.heap.size = w.heap.size + 1 by omega)).trans HVH.out
  have F5 : Fr (· = b) w Y := ((HF2.out.new HT.out (by omega)).new HV.out (Nat.le_refl _)).new y2 (by omega)
  have n0 : ¬ b = w.heap.size := by omega
  have n1 : ¬ b = w.heap.size + 1 := by omega
  have HRZ : Rd b (str l2) w Y := ⟨y2.cell n1 (HV.out.cell n0 (HT.out.cell n1 HR.out.1)),
    (y2.frozen 0 (Nat.lt_of_lt_of_le (lt_cell HR.out.1) (Nat.le_trans HT.out.size HV.out.size)) n1).trans ((HV.out.frozen 0 (Nat.lt_of_lt_of_le (lt_cell HR.out.1) HT.out.size) n0).trans ((HT.out.frozen 0 (lt_cell HR.out.1) n1).trans HR.out.2.1)), F5⟩
  have hCs : C.size = 32 := by rw [HCC.out]; simpa using HL.out
  refine door_ok (((HD2.out.fr HT.out (fun k hk => by show ¬ k = _; omega)).fr HV.out (fun k hk => by show ¬ k = _; omega)).fr y2 (fun k hk => by show ¬ k = _; omega)) y1 (results_cells2 rfl rfl rfl (run_loadVar_row Y _ 25 25 C (0, 0) _ hYH Try.underlying25 rfl (by rw [Try.infoHash, hCs])) (y := .int .i64 0) (by simp [go_sem, y1])) ⟨?_, HRZ⟩
  rw [HCC.out]

set_option maxHeartbeats 1000000 in
set_option maxRecDepth 100000 in
theorem rhash_short (b : Nat) (s : ByteArray) (w : World) (hl : s.size < 32) (hc : w.cell? ⟨b, 0, none⟩ = some (.string s)) (hf : w.frozen? ⟨b, 0, none⟩ = false) :
    Calls Try.prog 68 #[.pointer (some ⟨b, 0, none⟩)] w fun e w' => e = .returned (.tuple #[.agg ((List.replicate 32 (0 : UInt8)).map u8v).toArray, .int .i64 10]) ∧ Rd b s w w' := by
  have hb := lt_cell hc
  go_enter_defers Try.func68, Try.ntmps68
  go_wp2_with fail
  refine (back_R b (w.heap.size + 1) s _ (by rw [World.cell?_alloc_lt _ _ _ (by simp; omega), World.cell?_alloc_lt _ _ _ hb]; exact hc)).mono ?_
  rintro e w1 ⟨rfl, hD, hF⟩
  have ce : w1.cell? ⟨w.heap.size + 1, 0, none⟩ = some (.int .i64 0) := hF.cell id (by simp [go_sem])
  have fe : w1.frozen? ⟨w.heap.size + 1, 0, none⟩ = false := (hF.frozen 0 (by simp) id).trans (by simp [go_sem])
  obtain ⟨Z, hZ, hZ2, hH⟩ : ∃ Z : Array Value, Z = ((List.replicate 32 (0 : UInt8)).map u8v).toArray ∧ Z.size = 32 ∧ w1.heap[w.heap.size]? = some (.cells Z 25 (0, 0)) :=
    ⟨_, rfl, by rfl, (hF.block _ (by simp; omega) id).trans ((Below.heap_alloc _ _ _ (by simp)).trans (heap_alloc_new w _))⟩
  have hF1 : Fr (· = b) w w1 := (((Fr.refl _ w).alloc _).alloc _).trans (hF.mono (fun _ _ h => h.elim))
  have cb : w1.cell? ⟨b, 0, none⟩ = some (.string s) := ((((Fr.refl No w).alloc _).alloc _).trans hF).cell id hc
  have fb : w1.frozen? ⟨b, 0, none⟩ = false := (((((Fr.refl No w).alloc _).alloc _).trans hF).frozen 0 hb id).trans hf
  rw [World.size_alloc, World.size_alloc] at hD
  have HD := Lib.hid hD
  have HF := Lib.hid hF1
  have HZ := Lib.hid hZ
  have HZ2 := Lib.hid hZ2
  clear hD hF hF1 hZ hZ2
  go_wp2_with fail
  refine (take_short b s 32 w1 cb (by omega)).mono ?_
  rintro e w2 ⟨rfl, rfl⟩
  obtain ⟨W, hW, t1, t2, t3⟩ := once (x := .int .i64 10) ce fe
  have hH3 : W.heap[w.heap.size]? = some (.cells Z 25 (0, 0)) := (t2.block _ (by have := lt_cell ce; omega) (show ¬ w.heap.size = w.heap.size + 1 by omega)).trans hH
  have hcp := Lib.run_copy_row_string (P := Try.prog) W 48 9 3 5 w.heap.size 0 32 32 ⟨#[]⟩ Z 25 Try.underlying48 Try.infoU8' hH3 (by decide) (by have := HZ2.out; simp [ByteArray.size])
  have hC : (Z.toList.take 0 ++ Lib.byteCells (⟨#[]⟩ : ByteArray).data.toList ++ Z.toList.drop (0 + (⟨#[]⟩ : ByteArray).size)).toArray = Z := by
    simp [Lib.byteCells, ByteArray.size]
  rw [hC, setRow_self W _ Z _ _ hH3] at hcp
  have hC1 : Z.all (·.oneCell') = true := by rw [HZ.out]; exact all_oneCell_toArray (oneCell_u8 _)
  have hld : (Instr.loadAt 25 (.pointer (some ⟨w.heap.size, 0, none⟩))).run Try.prog W = .ok (.agg Z) W := by
    simp only [Instr.loadAt, Instr.sureAddr, Sem.run_bind, Sem.run_pure, Result.andThen_ok, run_loadVar_row W _ 25 25 Z (0, 0) _ hH3 Try.underlying25 rfl (by rw [Try.infoHash, HZ2.out])]
  have hst : (Instr.storeAt 25 (.pointer (some ⟨w.heap.size, 0, none⟩)) (.agg Z)).run Try.prog W = .ok () W := by
    simp only [Instr.storeAt, Instr.sureAddr, Sem.run_bind, Sem.run_pure, Result.andThen_ok, run_storeVar_row W _ 25 25 Z Z hH3 (by rw [Try.infoHash, HZ2.out]) rfl hC1]
    rw [setRow_self W _ Z _ _ hH3]
  have HT := Lib.hid t2
  have HH3 := Lib.hid hH3
  have HLD := Lib.hid hld
  have HST := Lib.hid hst
  have HB := Lib.hid (And.intro cb fb)
  rw [show ((⟨#[]⟩ : ByteArray).size) = 0 from rfl] at hcp
  have hcp2 : (Builtin.copy_ #[48, 9] 3 #[.slice (some ⟨w.heap.size, 0, none⟩) 32 32, .string ⟨#[]⟩]).run Try.prog (w1.setCell ⟨w.heap.size + 1, 0, none⟩ (.int .i64 10)) = .ok (goInt 0) W := by
    rw [← hW]; exact hcp
  clear hcp
  clear t2 hC hH3 hH hC1 hld hst hW cb fb hc hf
  go_wp2_with (first | (refine wpList_load_eq rfl 25 _ rfl (.pointer (some ⟨w.heap.size, 0, none⟩)) (.agg Z) rfl HLD.out ?_) | (refine wpList_store_eq rfl 25 _ _ rfl (.pointer (some ⟨w.heap.size, 0, none⟩)) (.agg Z) rfl rfl HST.out ?_))
  obtain ⟨Y, hY, y1, y2, y3⟩ := once (x := .int .i64 10) t1 t3
  rw [← hY]
  obtain ⟨r1, r2, r3, r4⟩ := rd_back (s := s) y1 hb (by omega) HF.out (HT.out.trans y2) HB.out.1 HB.out.2
  have hYH : Y.heap[w.heap.size]? = some (.cells Z 25 (0, 0)) := (y2.block _ (by have := lt_cell t1; omega) (show ¬ w.heap.size = w.heap.size + 1 by omega)).trans HH3.out
  have hYH2 : (Y.setCell ⟨b, 0, none⟩ (.string s)).heap[w.heap.size]? = some (.cells Z 25 (0, 0)) := (Below.heap_setCell _ _ _ _ (Nat.ne_of_gt hb)).trans hYH
  refine door_err (k := 10) ((HD.out.fr HT.out (fun k hk => by show ¬ k = _; omega)).fr y2 (fun k hk => by show ¬ k = _; omega)) (by decide) y1 r1 r2 (results_cells2 rfl rfl rfl (run_loadVar_row _ _ 25 25 Z (0, 0) _ hYH2 Try.underlying25 rfl (by rw [Try.infoHash, HZ2.out])) (y := .int .i64 10) (by simp [go_sem, r3])) ⟨?_, r4⟩
  rw [HZ.out]

/-- 'Number' of the first bytes. -/
theorem rnum_L (b : Nat) (l1 l2 : List UInt8) (n : Nat) (w : World) (hn : l1.length = n) (h1 : 1 ≤ n) (h2 : n ≤ 8) (hc : w.cell? ⟨b, 0, none⟩ = some (.string (str (l1 ++ l2)))) (hf : w.frozen? ⟨b, 0, none⟩ = false) (hm : (l1 ++ l2).length ≤ maxLen) :
    Calls Try.prog 69 #[.pointer (some ⟨b, 0, none⟩), .int .i64 n] w fun e w' => e = .returned (.tuple #[.int .u64 (beNat l1), .int .i64 0]) ∧ Rd b (str l2) w w' := by
  subst hn
  have h := rnum_ok b (str (l1 ++ l2)) l1.length w hc hf h1 h2 (by rw [str_size]; simp) (by rw [str_size]; exact hm)
  rw [str_extract1] at h
  have e : (str (l1 ++ l2)).data.toList.take l1.length = l1 := by simp [str]
  rwa [e] at h

abbrev zero32 : Array Value := #[.int .u8 0, .int .u8 0, .int .u8 0, .int .u8 0, .int .u8 0, .int .u8 0, .int .u8 0, .int .u8 0, .int .u8 0, .int .u8 0, .int .u8 0, .int .u8 0, .int .u8 0, .int .u8 0, .int .u8 0, .int .u8 0, .int .u8 0, .int .u8 0, .int .u8 0, .int .u8 0, .int .u8 0, .int .u8 0, .int .u8 0, .int .u8 0, .int .u8 0, .int .u8 0, .int .u8 0, .int .u8 0, .int .u8 0, .int .u8 0, .int .u8 0, .int .u8 0]

/-- A hash that is laid into the block made last. -/
theorem store_hash (w : World) (hs : List UInt8) (hl : hs.length = 32) : ∃ V, (Instr.storeAt 25 (.pointer (some ⟨w.heap.size, 0, none⟩)) (.agg (hs.map u8v).toArray)).run Try.prog (w.alloc (.cells zero32 25)) = .ok () V ∧
    V.heap[w.heap.size]? = some (.cells (hs.map u8v).toArray 25 (0, 0)) ∧ Fr No w V := by
  have hz : (zero32).size = 32 := rfl
  have hs2 : (hs.map u8v).toArray.size = 32 := by simpa using hl
  refine ⟨(w.alloc (.cells zero32 25)).setRow w.heap.size (hs.map u8v).toArray, ?_, setRow_heap _ _ _ _ _ _ (heap_alloc_new w _), ?_⟩
  · simp only [Instr.storeAt, Instr.sureAddr, Sem.run_bind, Sem.run_pure, Result.andThen_ok]
    exact run_storeVar_row (w.alloc (.cells zero32 25)) w.heap.size 25 25 zero32 (hs.map u8v).toArray (heap_alloc_new w _) (by rw [Try.infoHash, hs2]) (by rw [hs2]; rfl) (all_oneCell_toArray (oneCell_u8 hs))
  · exact fr_setRow ((Fr.refl No w).alloc _) (.inr (Nat.le_refl _)) _

theorem load_hash (V : World) (g : Nat) (hs : List UInt8) (hl : hs.length = 32) (h : V.heap[g]? = some (.cells (hs.map u8v).toArray 25 (0, 0))) :
    (Instr.loadAt 25 (.pointer (some ⟨g, 0, none⟩))).run Try.prog V = .ok (.agg (hs.map u8v).toArray) V := by
  have hs2 : (hs.map u8v).toArray.size = 32 := by simpa using hl
  simp only [Instr.loadAt, Instr.sureAddr, Sem.run_bind, Sem.run_pure, Result.andThen_ok, run_loadVar_row V _ 25 25 (hs.map u8v).toArray (0, 0) _ h Try.underlying25 rfl (by rw [Try.infoHash, hs2])]

theorem Try.sizeU8 (w : World) : (sizeOf 5).run Try.prog w = .ok 1 w := by
  have h := Try.infoU8'
  cases hq : Try.prog.info? 5 with
  | none => rw [hq] at h; cases h
  | some i =>
    rw [hq] at h
    have hs : i.size = 1 := by simpa using h
    simp [sizeOf, typeInfo, hq, hs]

theorem eql_hash (hs gs : List UInt8) (h1 : hs.length = 32) (h2 : gs.length = 32) (w : World) :
    (binOp .eql 25 (.agg (hs.map u8v).toArray) (.agg (gs.map u8v).toArray)).run Try.prog w = .ok (.bool (hs == gs)) w :=
  run_eql_bytes w 25 5 32 Try.underlying25 Try.underlying5 Try.sizeU8 hs gs h1 h2

end Go.Proofs.Ytpdnbjaamgfemaa
