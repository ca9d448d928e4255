/- The program's steps that may go wrong: must, ask; calls of a function's value and through an interface, by an equation on their run. -/
import Derived.Test.YtpdnbjaamgfemaaWiR
import Derived.Test.YtpdnbjaamgfemaaOctK
import Derived.Test.YtpdnbjaamgfemaaOctH
import Derived.Test.YtpdnbjaamgfemaaOct7
namespace Go.Proofs.Ytpdnbjaamgfemaa
open Go.RowKit
set_option linter.unusedVariables false
set_option maxRecDepth 100000

/-- The panic of a step that went wrong. -/
abbrev wrong (e : Int) : Ending := .panicked [{ v := .iface 28 (.int .i64 e), recovered := false }]

theorem must_ok (w : World) : Calls Try.prog 29 #[.int .i64 0] w fun ex w' => ex = .returned (.tuple #[]) ∧ w = w' := by
  go_enter Try.func29, Try.ntmps29
  go_wp2
  first | go_end0 | skip
  exact ⟨rfl, rfl⟩

theorem must_err (e : Int) (he : e ≠ 0) (w : World) : Calls Try.prog 29 #[.int .i64 e] w fun ex w' => ex = wrong e ∧ w = w' := by
  have h : (e != 0) = true := by simp [he]
  go_enter Try.func29, Try.ntmps29
  go_wp2
  exact ⟨rfl, rfl, rfl⟩

theorem ask_ok (e : Int) (w : World) : Calls Try.prog 18 #[.bool true, .int .i64 e] w fun ex w' => ex = .returned (.tuple #[]) ∧ w = w' := by
  go_enter Try.func18, Try.ntmps18
  go_wp2
  first | go_end0 | skip
  exact ⟨rfl, rfl⟩

theorem ask_err (e : Int) (he : e ≠ 0) (w : World) : Calls Try.prog 18 #[.bool false, .int .i64 e] w fun ex w' => ex = wrong e ∧ w = w' := by
  go_enter Try.func18, Try.ntmps18
  go_wp2_with fail
  refine (must_err e he _).mono ?_
  rintro ex w1 ⟨rfl, rfl⟩
  exact ⟨rfl, rfl, rfl⟩

theorem Wr.own_lt {B p k : Nat} {v : Value} {bs : List UInt8} {w : World} (h : Wr B p v bs w) (hk : v.ownBlock = some k) : k < w.heap.size := by
  rcases h.2.2 with ⟨rfl, _⟩ | ⟨g, cap, cur, rfl, _, hg, _⟩
  · cases hk
  · obtain rfl : g = k := by simpa [Value.ownBlock] using hk
    exact (Array.getElem?_eq_some_iff.1 hg).1
theorem Wr.own_le {B p k : Nat} {v : Value} {bs : List UInt8} {w : World} (h : Wr B p v bs w) (hk : v.ownBlock = some k) : B ≤ k := by
  rcases h.2.2 with ⟨rfl, _⟩ | ⟨g, cap, cur, rfl, hb, hg, _⟩
  · cases hk
  · obtain rfl : g = k := by simpa [Value.ownBlock] using hk
    exact hb
theorem Wr.own_ne {B p k b : Nat} {v : Value} {bs : List UInt8} {w : World} {t : TypeId} {cs : List Value} (h : Wr B p v bs w) (hk : v.ownBlock = some k) (hB : Blk w b t cs) (ht : t ≠ 5) : k ≠ b := by
  rcases h.2.2 with ⟨rfl, _⟩ | ⟨g, cap, cur, rfl, _, hg, _⟩
  · cases hk
  · obtain rfl : g = k := by simpa [Value.ownBlock] using hk
    rintro rfl
    unfold Blk at hB
    rw [hB] at hg
    injection hg with hg
    injection hg with _ h2 _
    exact ht h2

/-! ### The methods of the carriers -/
abbrev arrH (h : List UInt8) : Value := .agg (h.map u8v).toArray

theorem enum_any (n k : Int) (w : World) : Calls Try.prog 75 #[.agg #[], .int .u64 n, .int .i64 k] w fun ex w' => ex = .returned (.int .u64 0) ∧ Fr No w w' := by
  go_enter Try.func75, Try.ntmps75
  go_wp2
  go_ret
  exact ⟨rfl, (Fr.refl No w).alloc _⟩

theorem blk_hash_load {w : World} {b : Nat} {h : List UInt8} (hB : Blk w b 25 (h.map u8v)) (hl : h.length = 32) : (Instr.loadAt 25 (.pointer (some ⟨b, 0, none⟩))).run Try.prog w = .ok (arrH h) w :=
  load_range _ hB.whole Try.underlying25 rfl (by rw [List.length_map, hl]; kernel_rfl) _ rfl
theorem blk_hash_var {w : World} {b : Nat} {h : List UInt8} (hB : Blk w b 25 (h.map u8v)) (hl : h.length = 32) : (Go.loadVar 25 ⟨b, 0, none⟩).run Try.prog w = .ok (arrH h) w :=
  run_loadVar_mid w b 0 25 (h.map u8v) _ hB.whole Try.underlying25 rfl (by rw [List.length_map, hl]; kernel_rfl)
theorem u8s_one (h : List UInt8) : (h.map u8v).toArray.all (·.oneCell') = true := all_oneCell_toArray fun v hv => by
  simp only [List.mem_map] at hv
  obtain ⟨b, _, rfl⟩ := hv
  rfl
theorem blk_hash_store {w : World} {b : Nat} {x h : List UInt8} (hB : Blk w b 25 (x.map u8v)) (hx : x.length = 32) (hl : h.length = 32) :
    ∃ V, (Instr.storeAt 25 (.pointer (some ⟨b, 0, none⟩)) (arrH h)).run Try.prog w = .ok () V ∧ Blk V b 25 (h.map u8v) ∧ Fr (· = b) w V :=
  hB.stored (h.map u8v) (by rw [List.length_map, List.length_map, hx, hl]) (by rw [List.length_map, hl]; kernel_rfl) (u8s_one h)

theorem hash_alloc (w : World) : (Instr.alloc 25 true (.tuple #[])).run Try.prog w = .ok (.pointer (some ⟨w.heap.size, 0, none⟩)) (w.alloc (.cells (zeroH.map u8v).toArray 25)) := by kernel_rfl
theorem hash_build (w : World) : (Instr.build 25 #[]).run Try.prog w = .ok (arrH zeroH) w := by kernel_rfl

set_option maxHeartbeats 1000000 in
theorem ehash_any (h : List UInt8) (w : World) : Calls Try.prog 74 #[.agg #[], arrH h] w fun ex w' => ex = .returned (arrH zeroH) ∧ Fr No w w' := by
  obtain ⟨z, hz⟩ : ∃ z, z = arrH zeroH := ⟨_, rfl⟩
  have HZ : Hid (Value.agg #[.int .u8 0, .int .u8 0, .int .u8 0, .int .u8 0, .int .u8 0, .int .u8 0, .int .u8 0, .int .u8 0, .int .u8 0, .int .u8 0, .int .u8 0, .int .u8 0, .int .u8 0, .int .u8 0, .int .u8 0, .int .u8 0, .int .u8 0, .int .u8 0, .int .u8 0, .int .u8 0, .int .u8 0, .int .u8 0, .int .u8 0, .int .u8 0, .int .u8 0, .int .u8 0, .int .u8 0, .int .u8 0, .int .u8 0, .int .u8 0, .int .u8 0, .int .u8 0] = z) := Lib.hid (by rw [hz]; rfl)
  obtain ⟨W0, hW0⟩ : ∃ W, W = (w.alloc (.cells #[] 89)).alloc (.cells (h.map u8v).toArray 25) := ⟨_, rfl⟩
  obtain ⟨q, hq⟩ : ∃ q, q = W0.heap.size := ⟨_, rfl⟩
  have hB := Blk.new W0 25 (zeroH.map u8v)
  rw [← hq] at hB
  have HA := Lib.hid (hash_alloc W0)
  rw [← hq] at HA
  have HF0 : Hid (Fr No w W0) := Lib.hid (by rw [hW0]; exact ((Fr.refl No w).alloc _).alloc _)
  obtain ⟨V, hV, hVB, hVF⟩ := blk_hash_store (h := zeroH) hB (by rfl) (by rfl)
  have hL := blk_hash_var hVB (by rfl)
  rw [← hz] at hV hL ⊢
  have HV := Lib.hid hV
  have HL := Lib.hid hL
  have HF : Hid (Fr No w V) := Lib.hid ((HF0.out.alloc _).trans' hVF (fun i hi e => by have := HF0.out.size; omega))
  have HW := Lib.hid hW0
  clear hV hVB hVF hB hq hL hz hW0 HF0
  go_enter Try.func74, Try.ntmps74
  go_wp2_with (first
    | (refine wpList_execG (.pointer (some ⟨q, 0, none⟩)) (exec_alloc 25 rfl _ (by rw [← HW.out]; exact HA.out)) rfl ?_)
    | (refine wpList_store_eq rfl 25 _ _ rfl (.pointer (some ⟨q, 0, none⟩)) z rfl HZ.out HV.out ?_))
  exact bodyPost_ret (results_cell1 rfl rfl HL.out) rfl ⟨rfl, HF.out⟩

/-- What the reader's number comes to. -/
theorem vnum_ok (b : Nat) (n k : Int) (l : List UInt8) (w : World) (hc : w.cell? ⟨b, 0, none⟩ = some (.string (str l))) (hf : w.frozen? ⟨b, 0, none⟩ = false) (hm : l.length ≤ maxLen) (he : (numR l k).2.1 = 0) :
    Calls Try.prog 67 #[.agg #[.pointer (some ⟨b, 0, none⟩)], .int .u64 n, .int .i64 k] w fun ex w' => ex = .returned (.int .u64 (numR l k).1) ∧ Rd b (str (numR l k).2.2) w w' := by
  have hb := lt_cell hc
  have HN := Lib.hid (rnum_all b l k (w.alloc (.cells #[.pointer (some ⟨b, 0, none⟩)] 67)) (by rw [World.cell?_alloc_lt _ _ _ hb]; exact hc) (by rw [World.frozen?_alloc_old _ _ _ (Nat.ne_of_lt hb)]; exact hf) hm)
  rw [he] at HN
  obtain ⟨v, hv⟩ : ∃ v, v = (numR l k).1 := ⟨_, rfl⟩
  obtain ⟨r, hr⟩ : ∃ r, r = (numR l k).2.2 := ⟨_, rfl⟩
  rw [← hv, ← hr] at HN ⊢
  clear hv hr he hm hf hc
  go_enter Try.func67, Try.ntmps67
  go_wp2_with fail
  refine HN.out.mono ?_
  rintro ex w1 ⟨rfl, hR⟩
  have HR := Lib.hid hR
  clear hR HN
  go_wp2_with fail
  refine (must_ok _).mono ?_
  rintro ex w2 ⟨rfl, rfl⟩
  go_wp2
  go_ret
  exact ⟨rfl, HR.out.1, HR.out.2.1, ((Fr.refl (· = b) w).alloc _).trans HR.out.2.2⟩

theorem vnum_err (b : Nat) (n k : Int) (l : List UInt8) (w : World) (hc : w.cell? ⟨b, 0, none⟩ = some (.string (str l))) (hf : w.frozen? ⟨b, 0, none⟩ = false) (hm : l.length ≤ maxLen) (he : (numR l k).2.1 ≠ 0) :
    Calls Try.prog 67 #[.agg #[.pointer (some ⟨b, 0, none⟩)], .int .u64 n, .int .i64 k] w fun ex w' => ex = wrong (numR l k).2.1 ∧ Fr (· = b) w w' := by
  have hb := lt_cell hc
  have HN := Lib.hid (rnum_all b l k (w.alloc (.cells #[.pointer (some ⟨b, 0, none⟩)] 67)) (by rw [World.cell?_alloc_lt _ _ _ hb]; exact hc) (by rw [World.frozen?_alloc_old _ _ _ (Nat.ne_of_lt hb)]; exact hf) hm)
  have HE := Lib.hid he
  obtain ⟨v, hv⟩ : ∃ v, v = (numR l k).1 := ⟨_, rfl⟩
  obtain ⟨r, hr⟩ : ∃ r, r = (numR l k).2.2 := ⟨_, rfl⟩
  obtain ⟨c, hc'⟩ : ∃ r, r = (numR l k).2.1 := ⟨_, rfl⟩
  rw [← hv, ← hr, ← hc'] at HN
  rw [← hc'] at HE ⊢
  clear hv hr he hm hf hc hc'
  go_enter Try.func67, Try.ntmps67
  go_wp2_with fail
  refine HN.out.mono ?_
  rintro ex w1 ⟨rfl, hR⟩
  have HR := Lib.hid hR
  clear hR HN
  go_wp2_with fail
  refine (must_err c HE.out _).mono ?_
  rintro ex w2 ⟨rfl, rfl⟩
  exact ⟨rfl, rfl, ((Fr.refl (· = b) w).alloc _).trans HR.out.2.2⟩

set_option maxHeartbeats 1000000 in
theorem vhash_ok (b : Nat) (g : List UInt8) (l : List UInt8) (w : World) (hc : w.cell? ⟨b, 0, none⟩ = some (.string (str l))) (hf : w.frozen? ⟨b, 0, none⟩ = false) (hm : l.length ≤ maxLen) (he : (hashR l).2.1 = 0) :
    Calls Try.prog 66 #[.agg #[.pointer (some ⟨b, 0, none⟩)], arrH g] w fun ex w' => ex = .returned (arrH (hashR l).1) ∧ Rd b (str (hashR l).2.2) w w' := by
  have hb := lt_cell hc
  have h32 := hashR_32 l
  obtain ⟨W0, hW0⟩ : ∃ W, W = (w.alloc (.cells #[.pointer (some ⟨b, 0, none⟩)] 67)).alloc (.cells (g.map u8v).toArray 25) := ⟨_, rfl⟩
  have hF0 : Fr No w W0 := by rw [hW0]; exact ((Fr.refl No w).alloc _).alloc _
  have hp0 : W0.cell? ⟨w.heap.size, 0, none⟩ = some (.pointer (some ⟨b, 0, none⟩)) := by rw [hW0]; simp [go_sem]
  obtain ⟨q, hq⟩ : ∃ q, q = W0.heap.size := ⟨_, rfl⟩
  have hwq : w.heap.size ≤ q := by rw [hq]; exact hF0.size
  have hB := Blk.new W0 25 (zeroH.map u8v)
  have HA := Lib.hid (hash_alloc W0)
  obtain ⟨W1, hW1⟩ : ∃ W, W = W0.alloc (.cells (zeroH.map u8v).toArray 25) := ⟨_, rfl⟩
  rw [← hW1, ← hq] at hB HA
  have hF1 : Fr No w W1 := by rw [hW1]; exact hF0.alloc _
  have hp1 := lt_cell hp0
  have hp : W1.cell? ⟨w.heap.size, 0, none⟩ = some (.pointer (some ⟨b, 0, none⟩)) := by rw [hW1, World.cell?_alloc_lt _ _ _ hp1]; exact hp0
  have HN := Lib.hid (rhash_all b l W1 (hF1.cell id hc) (by rw [hF1.frozen _ hb id]; exact hf) hm)
  rw [he] at HN
  obtain ⟨v, hv⟩ : ∃ v, v = (hashR l).1 := ⟨_, rfl⟩
  obtain ⟨r, hr⟩ : ∃ r, r = (hashR l).2.2 := ⟨_, rfl⟩
  rw [← hv] at h32
  rw [← hv, ← hr] at HN ⊢
  have HB := Lib.hid hB
  have HW := Lib.hid hW0
  have HF1 := Lib.hid hF1
  have H32 := Lib.hid h32
  have HWQ := Lib.hid hwq
  clear hv hr he hm hf hc hB hW0 hF0 hp0 hq hW1 hF1 hp1 h32 hwq
  go_enter Try.func66, Try.ntmps66
  go_wp2_with (refine wpList_execG (.pointer (some ⟨q, 0, none⟩)) (exec_alloc 25 rfl _ (by rw [← HW.out]; exact HA.out)) rfl ?_)
  refine HN.out.mono ?_
  rintro ex w2 ⟨rfl, hR⟩
  have hB2 : Blk w2 q 25 (zeroH.map u8v) := HB.out.fr hR.2.2 (fun e => by have : q = b := e; have := HWQ.out; omega)
  obtain ⟨p, hp'⟩ : ∃ p, p = w2.heap.size := ⟨_, rfl⟩
  have hqp : q < p := by rw [hp']; exact hB2.lt
  have hA2 := hash_alloc w2
  have hC := Blk.new w2 25 (zeroH.map u8v)
  obtain ⟨W3, hW3⟩ : ∃ W, W = w2.alloc (.cells (zeroH.map u8v).toArray 25) := ⟨_, rfl⟩
  rw [← hW3, ← hp'] at hA2 hC
  obtain ⟨V, hV, hVB, hVF⟩ := blk_hash_store (h := v) hC (by rfl) H32.out
  have hF3 : Fr No w2 W3 := by rw [hW3]; exact (Fr.refl No w2).alloc _
  obtain ⟨Y, hY, hYB, hYF⟩ := blk_hash_store (h := v) ((hB2.fr hF3 id).fr hVF (by omega)) (by rfl) H32.out
  have HA2 := Lib.hid hA2
  have HV := Lib.hid hV
  have HVL := Lib.hid (blk_hash_load hVB H32.out)
  have HY := Lib.hid hY
  have HYL := Lib.hid (blk_hash_var hYB H32.out)
  have hlt2 : w2.heap.size ≤ p := by omega
  have hbW : b < w2.heap.size := lt_cell hR.1
  have hqW := HWQ.out
  have e1 : Fr (· = b) w w2 := (HF1.out.mono (fun _ _ h => h.elim)).trans hR.2.2
  have e2 : Fr (· = p) w2 V := (hF3.mono (fun _ _ h => h.elim)).trans hVF
  have HE : Hid (Rd b (str r) w Y) := Lib.hid (by
    have n1 : ¬ b = p := by omega
    have n2 : ¬ b = q := by omega
    refine ⟨hYF.cell n2 (e2.cell n1 hR.1), ?_, (e1.trans' e2 (fun i hi e => absurd hi (by have : i = p := e; have := e1.size; omega))).trans' hYF (fun i hi e => absurd hi (by have : i = q := e; omega))⟩
    rw [hYF.frozen _ (by have := e2.size; omega) n2, e2.frozen _ hbW n1]
    exact hR.2.1)
  clear hR hB2 hp' hqp hA2 hC hV hVB hVF hF3 hY hYB hYF hlt2 hbW hqW e1 e2 HN
  go_wp2_with (first
    | (refine wpList_execG (.pointer (some ⟨p, 0, none⟩)) (exec_alloc 25 rfl _ HA2.out) rfl ?_)
    | (refine wpList_store_eq rfl 25 _ _ rfl (.pointer (some ⟨p, 0, none⟩)) (arrH v) rfl rfl HV.out ?_))
  refine (must_ok _).mono ?_
  rintro ex w4 ⟨rfl, rfl⟩
  go_wp2_with (first
    | (refine wpList_load_eq rfl 25 _ rfl (.pointer (some ⟨p, 0, none⟩)) (arrH v) rfl HVL.out ?_)
    | (refine wpList_store_eq rfl 25 _ _ rfl (.pointer (some ⟨q, 0, none⟩)) (arrH v) rfl rfl HY.out ?_))
  exact bodyPost_ret (results_cell1 rfl rfl HYL.out) rfl ⟨rfl, HE.out⟩

set_option maxHeartbeats 1000000 in
theorem vhash_err (b : Nat) (g : List UInt8) (l : List UInt8) (w : World) (hc : w.cell? ⟨b, 0, none⟩ = some (.string (str l))) (hf : w.frozen? ⟨b, 0, none⟩ = false) (hm : l.length ≤ maxLen) (he : (hashR l).2.1 ≠ 0) :
    Calls Try.prog 66 #[.agg #[.pointer (some ⟨b, 0, none⟩)], arrH g] w fun ex w' => ex = wrong (hashR l).2.1 ∧ Fr (· = b) w w' := by
  have hb := lt_cell hc
  have h32 := hashR_32 l
  obtain ⟨W0, hW0⟩ : ∃ W, W = (w.alloc (.cells #[.pointer (some ⟨b, 0, none⟩)] 67)).alloc (.cells (g.map u8v).toArray 25) := ⟨_, rfl⟩
  have hF0 : Fr No w W0 := by rw [hW0]; exact ((Fr.refl No w).alloc _).alloc _
  have hp0 : W0.cell? ⟨w.heap.size, 0, none⟩ = some (.pointer (some ⟨b, 0, none⟩)) := by rw [hW0]; simp [go_sem]
  obtain ⟨q, hq⟩ : ∃ q, q = W0.heap.size := ⟨_, rfl⟩
  have HA := Lib.hid (hash_alloc W0)
  obtain ⟨W1, hW1⟩ : ∃ W, W = W0.alloc (.cells (zeroH.map u8v).toArray 25) := ⟨_, rfl⟩
  rw [← hW1, ← hq] at HA
  have hF1 : Fr No w W1 := by rw [hW1]; exact hF0.alloc _
  have hp1 := lt_cell hp0
  have hp : W1.cell? ⟨w.heap.size, 0, none⟩ = some (.pointer (some ⟨b, 0, none⟩)) := by rw [hW1, World.cell?_alloc_lt _ _ _ hp1]; exact hp0
  have HN := Lib.hid (rhash_all b l W1 (hF1.cell id hc) (by rw [hF1.frozen _ hb id]; exact hf) hm)
  have HE := Lib.hid he
  obtain ⟨v, hv⟩ : ∃ v, v = (hashR l).1 := ⟨_, rfl⟩
  obtain ⟨r, hr⟩ : ∃ r, r = (hashR l).2.2 := ⟨_, rfl⟩
  obtain ⟨c, hc'⟩ : ∃ r, r = (hashR l).2.1 := ⟨_, rfl⟩
  rw [← hv] at h32
  rw [← hv, ← hr, ← hc'] at HN
  rw [← hc'] at HE ⊢
  have HW := Lib.hid hW0
  have HF1 := Lib.hid hF1
  have H32 := Lib.hid h32
  clear hv hr he hm hf hc hW0 hF0 hp0 hq hW1 hF1 hp1 h32 hc'
  go_enter Try.func66, Try.ntmps66
  go_wp2_with (refine wpList_execG (.pointer (some ⟨q, 0, none⟩)) (exec_alloc 25 rfl _ (by rw [← HW.out]; exact HA.out)) rfl ?_)
  refine HN.out.mono ?_
  rintro ex w2 ⟨rfl, hR⟩
  obtain ⟨p, hp'⟩ : ∃ p, p = w2.heap.size := ⟨_, rfl⟩
  have hA2 := hash_alloc w2
  have hC := Blk.new w2 25 (zeroH.map u8v)
  obtain ⟨W3, hW3⟩ : ∃ W, W = w2.alloc (.cells (zeroH.map u8v).toArray 25) := ⟨_, rfl⟩
  rw [← hW3, ← hp'] at hA2 hC
  obtain ⟨V, hV, hVB, hVF⟩ := blk_hash_store (h := v) hC (by rfl) H32.out
  have hF3 : Fr No w2 W3 := by rw [hW3]; exact (Fr.refl No w2).alloc _
  have HA2 := Lib.hid hA2
  have HV := Lib.hid hV
  have e1 : Fr (· = b) w w2 := (HF1.out.mono (fun _ _ h => h.elim)).trans hR.2.2
  have e2 : Fr (· = p) w2 V := (hF3.mono (fun _ _ h => h.elim)).trans hVF
  have HG : Hid (Fr (· = b) w V) := Lib.hid (e1.trans' e2 (fun i hi e => absurd hi (by have : i = p := e; have := e1.size; omega)))
  clear hR hp' hA2 hC hV hVB hVF hF3 e1 e2 HN
  go_wp2_with (first
    | (refine wpList_execG (.pointer (some ⟨p, 0, none⟩)) (exec_alloc 25 rfl _ HA2.out) rfl ?_)
    | (refine wpList_store_eq rfl 25 _ _ rfl (.pointer (some ⟨p, 0, none⟩)) (arrH v) rfl rfl HV.out ?_))
  refine (must_err c HE.out _).mono ?_
  rintro ex w4 ⟨rfl, rfl⟩
  exact ⟨rfl, rfl, HG.out⟩

/-- The writer's. -/
theorem Wr.fresh {B p : Nat} {v : Value} {bs : List UInt8} {w w' : World} (h : Wr B p v bs w) (hF : Fr No w w') : Wr B p v bs w' := h.fr hF id (fun _ _ => id)

theorem wwnum_ok (B b : Nat) (v : Value) (bs : List UInt8) (n : Nat) (k : Int) (w : World) (hw : Wr B b v bs w) (hB : B ≤ w.heap.size) (hn : bs.length ≤ 1048000) (hlt : n < 2 ^ 64) (he : (numOf n k).2 = 0) :
    Calls Try.prog 61 #[.agg #[.pointer (some ⟨b, 0, none⟩)], .int .u64 (n : Int), .int .i64 k] w fun ex w' => ex = .returned (.int .u64 (n : Int)) ∧ ∃ v', Wr B b v' (bs ++ (numOf n k).1) w' ∧ Fr (WS b v) w w' := by
  have hW1 := hw.fresh ((Fr.refl No w).alloc (.cells #[.pointer (some ⟨b, 0, none⟩)] 53))
  have HN := Lib.hid (wnum_all B b v bs n k _ hW1 (by simp; omega) hn hlt)
  rw [he] at HN
  obtain ⟨r, hr⟩ : ∃ r, r = (numOf n k).1 := ⟨_, rfl⟩
  obtain ⟨N, hN⟩ : ∃ N : Int, N = (n : Int) := ⟨_, rfl⟩
  rw [← hr, ← hN] at HN ⊢
  clear hr he hn hlt hw hW1 hN
  go_enter Try.func61, Try.ntmps61
  go_wp2_with fail
  refine HN.out.mono ?_
  rintro ex w1 ⟨rfl, v', hR, hF⟩
  have HR := Lib.hid hR
  have HF := Lib.hid hF
  clear hR hF HN
  go_wp2_with fail
  refine (must_ok _).mono ?_
  rintro ex w2 ⟨rfl, rfl⟩
  go_wp2
  go_ret
  exact ⟨rfl, v', HR.out, ((Fr.refl (WS b v) w).alloc _).trans HF.out⟩

theorem wwnum_err (B b : Nat) (v : Value) (bs : List UInt8) (n : Nat) (k : Int) (w : World) (hw : Wr B b v bs w) (hB : B ≤ w.heap.size) (hn : bs.length ≤ 1048000) (hlt : n < 2 ^ 64) (he : (numOf n k).2 ≠ 0) :
    Calls Try.prog 61 #[.agg #[.pointer (some ⟨b, 0, none⟩)], .int .u64 (n : Int), .int .i64 k] w fun ex w' => ex = wrong (numOf n k).2 ∧ Fr (WS b v) w w' := by
  have hW1 := hw.fresh ((Fr.refl No w).alloc (.cells #[.pointer (some ⟨b, 0, none⟩)] 53))
  have HN := Lib.hid (wnum_all B b v bs n k _ hW1 (by simp; omega) hn hlt)
  have HE := Lib.hid he
  obtain ⟨r, hr⟩ : ∃ r, r = (numOf n k).1 := ⟨_, rfl⟩
  obtain ⟨c, hc⟩ : ∃ r, r = (numOf n k).2 := ⟨_, rfl⟩
  obtain ⟨N, hN⟩ : ∃ N : Int, N = (n : Int) := ⟨_, rfl⟩
  rw [← hr, ← hN, ← hc] at HN
  rw [← hc] at HE ⊢
  rw [← hN]
  clear hr he hn hlt hw hW1 hN hc
  go_enter Try.func61, Try.ntmps61
  go_wp2_with fail
  refine HN.out.mono ?_
  rintro ex w1 ⟨rfl, v', hR, hF⟩
  have HF := Lib.hid hF
  clear hR hF HN
  go_wp2_with fail
  refine (must_err c HE.out _).mono ?_
  rintro ex w2 ⟨rfl, rfl⟩
  exact ⟨rfl, rfl, ((Fr.refl (WS b v) w).alloc _).trans HF.out⟩

set_option maxHeartbeats 1000000 in
theorem wwhash_any (B b : Nat) (v : Value) (bs h : List UInt8) (w : World) (hw : Wr B b v bs w) (hB : B ≤ w.heap.size) (hn : bs.length ≤ 1048000) (hl : h.length = 32) :
    Calls Try.prog 60 #[.agg #[.pointer (some ⟨b, 0, none⟩)], arrH h] w fun ex w' => ex = .returned (arrH h) ∧ ∃ v', Wr B b v' (bs ++ h) w' ∧ Fr (WS b v) w w' := by
  obtain ⟨W0, hW0⟩ : ∃ W, W = (w.alloc (.cells #[.pointer (some ⟨b, 0, none⟩)] 53)).alloc (.cells (h.map u8v).toArray 25) := ⟨_, rfl⟩
  have hF0 : Fr No w W0 := by rw [hW0]; exact ((Fr.refl No w).alloc _).alloc _
  have hp0 : W0.cell? ⟨w.heap.size, 0, none⟩ = some (.pointer (some ⟨b, 0, none⟩)) := by rw [hW0]; simp [go_sem]
  obtain ⟨x, hx⟩ : ∃ x, x = w.heap.size + 1 := ⟨_, rfl⟩
  have hX0 : Blk W0 x 25 (h.map u8v) := by
    have := Blk.new (w.alloc (.cells #[.pointer (some ⟨b, 0, none⟩)] 53)) 25 (h.map u8v)
    rw [← hW0] at this
    rw [hx]
    simpa using this
  obtain ⟨q, hq⟩ : ∃ q, q = W0.heap.size := ⟨_, rfl⟩
  have hxq : x < q := by rw [hq]; exact hX0.lt
  have hwq : w.heap.size < q := by omega
  have hB1 := Blk.new W0 25 (zeroH.map u8v)
  have HA := Lib.hid (hash_alloc W0)
  obtain ⟨W1, hW1⟩ : ∃ W, W = W0.alloc (.cells (zeroH.map u8v).toArray 25) := ⟨_, rfl⟩
  rw [← hW1, ← hq] at hB1 HA
  have hF01 : Fr No W0 W1 := by rw [hW1]; exact (Fr.refl No W0).alloc _
  have hF1 : Fr No w W1 := hF0.trans hF01
  have hp : W1.cell? ⟨w.heap.size, 0, none⟩ = some (.pointer (some ⟨b, 0, none⟩)) := hF01.cell id hp0
  have hX1 := hX0.fr hF01 id
  have hw1 := hw.fresh hF1
  have hne : ∀ k, v.ownBlock = some k → k < w.heap.size := fun k hk => hw.own_lt hk
  have hbw := hw.lt
  have HN := Lib.hid (whash_any B b v bs h W1 hw1 (by have := hF1.size; omega) hn hl)
  have HXL := Lib.hid (blk_hash_load hX1 hl)
  have HX := Lib.hid hX1
  have HB := Lib.hid hB1
  have HW := Lib.hid hW0
  have HF1 := Lib.hid hF1
  have H32 := Lib.hid hl
  have HWQ := Lib.hid hwq
  have HNE := Lib.hid hne
  have HBW := Lib.hid hbw
  have HXX := Lib.hid hx
  clear hn hl hw hB1 hW0 hF0 hp0 hq hW1 hF1 hF01 hw1 hwq hne hbw hX0 hX1 hxq
  go_enter Try.func60, Try.ntmps60
  go_wp2_with (first
    | (refine wpList_execG (.pointer (some ⟨q, 0, none⟩)) (exec_alloc 25 rfl _ (by rw [← HW.out]; exact HA.out)) rfl ?_)
    | (refine wpList_load_eq rfl 25 _ rfl (.pointer (some ⟨x, 0, none⟩)) (arrH h) (by rw [HXX.out]; rfl) HXL.out ?_))
  refine HN.out.mono ?_
  rintro ex w2 ⟨rfl, v', hR, hF⟩
  have nq : ∀ k, w.heap.size ≤ k → ¬ WS b v k := fun k hk hs => by
    rcases hs with rfl | hs
    · have := HBW.out; omega
    · have := HNE.out k hs; omega
  have hq2 : Blk w2 q 25 (zeroH.map u8v) := HB.out.fr hF (nq q (Nat.le_of_lt HWQ.out))
  have hx2 : Blk w2 x 25 (h.map u8v) := HX.out.fr hF (nq x (by have := HXX.out; omega))
  obtain ⟨Y, hY, hYB, hYF⟩ := blk_hash_store (h := h) hq2 (by rfl) H32.out
  have HX2 := Lib.hid (blk_hash_load hx2 H32.out)
  have HY := Lib.hid hY
  have HYL := Lib.hid (blk_hash_var hYB H32.out)
  have HE : Hid (Wr B b v' (bs ++ h) Y) := Lib.hid (hR.fr hYF (fun e => by have := HBW.out; have := HWQ.out; have : b = q := e; omega) (fun k hk e => hR.own_ne hk hq2 (by decide) e))
  have HG : Hid (Fr (WS b v) w Y) := Lib.hid (((HF1.out.mono (fun _ _ h => h.elim)).trans hF).trans' hYF (fun i hi e => absurd hi (by have : i = q := e; have := HWQ.out; omega)))
  clear hR hF nq hq2 hx2 hY hYB hYF HN
  go_wp2_with (first
    | (refine wpList_load_eq rfl 25 _ rfl (.pointer (some ⟨x, 0, none⟩)) (arrH h) (by rw [HXX.out]; rfl) HX2.out ?_)
    | (refine wpList_store_eq rfl 25 _ _ rfl (.pointer (some ⟨q, 0, none⟩)) (arrH h) rfl rfl HY.out ?_))
  exact bodyPost_ret (results_cell1 rfl rfl HYL.out) rfl ⟨rfl, v', HE.out, HG.out⟩

end Go.Proofs.Ytpdnbjaamgfemaa
