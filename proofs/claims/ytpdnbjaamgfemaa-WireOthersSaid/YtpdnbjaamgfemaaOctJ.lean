/- The document's own reader: what it returns. -/
import Derived.Test.YtpdnbjaamgfemaaOctB
import Derived.Test.YtpdnbjaamgfemaaOctE
import Derived.Test.YtpdnbjaamgfemaaOctF
namespace Go.Proofs.Ytpdnbjaamgfemaa
open Go.RowKit
set_option linter.unusedVariables false
set_option maxRecDepth 100000

def endR (s : ByteArray) : Int := if 0 < s.size then 11 else 0

theorem end_all (b : Nat) (s : ByteArray) (w : World) (hc : w.cell? ⟨b, 0, none⟩ = some (.string s)) :
    Calls Try.prog 30 #[.pointer (some ⟨b, 0, none⟩)] w fun e w' => e = .returned (.int .i64 (endR s)) ∧ w = w' := by
  by_cases h : 0 < s.size
  · rw [show endR s = 11 from if_pos h]
    exact end_more b s w hc h
  · rw [show endR s = 0 from if_neg h]
    have : s = ⟨#[]⟩ := ByteArray.ext (Array.eq_empty_of_size_eq_zero (by have : s.data.size = s.size := rfl; omega))
    subst this
    exact end_ok b w hc

set_option maxHeartbeats 400000 in
theorem rrnum_bad (b : Nat) (s : ByteArray) (n : Int) (w : World) (hc : w.cell? ⟨b, 0, none⟩ = some (.string s)) (h : ¬ (1 ≤ n ∧ n ≤ 8)) :
    Calls Try.prog 32 #[.pointer (some ⟨b, 0, none⟩), .int .i64 n] w fun e w' => e = .returned (.tuple #[.int .u64 0, .int .i64 1]) ∧ w = w' := by
  by_cases h1 : n < 1
  · go_enter Try.func32, Try.ntmps32
    go_wp2
    go_ret2
    exact ⟨rfl, rfl⟩
  · have h2 : 8 < n := by omega
    clear h
    go_enter Try.func32, Try.ntmps32
    go_wp2
    go_ret2
    exact ⟨rfl, rfl⟩

set_option maxHeartbeats 400000 in
theorem rrnum_short (b : Nat) (s : ByteArray) (n : Int) (w : World) (hc : w.cell? ⟨b, 0, none⟩ = some (.string s)) (h1 : 1 ≤ n) (h2 : n ≤ 8) (hs : (s.size : Int) < n) :
    Calls Try.prog 32 #[.pointer (some ⟨b, 0, none⟩), .int .i64 n] w fun e w' => e = .returned (.tuple #[.int .u64 0, .int .i64 10]) ∧ w = w' := by
  have g1 : ¬ n < 1 := by omega
  have g2 : ¬ 8 < n := by omega
  go_enter Try.func32, Try.ntmps32
  go_wp2
  go_ret2
  exact ⟨rfl, rfl⟩

theorem add_step (n : Nat) (c : UInt8) (h : n < 256 ^ 7) : IntKind.u64.wrap (IntKind.u64.wrap ((n : Int) * 256) + IntKind.u64.wrap (c.toNat : Int)) = ((n * 256 + c.toNat : Nat) : Int) := by
  have hc := c.toNat_lt
  have e1 : IntKind.u64.wrap ((n : Int) * 256) = ((n * 256 : Nat) : Int) := by rw [IntKind.wrap_u64]; omega
  have e2 : IntKind.u64.wrap (c.toNat : Int) = ((c.toNat : Nat) : Int) := by rw [IntKind.wrap_u64]; omega
  rw [e1, e2, IntKind.wrap_u64]; omega

set_option maxHeartbeats 400000 in
theorem rrnum_ok (b : Nat) (s : ByteArray) (n : Nat) (w : World) (hc : w.cell? ⟨b, 0, none⟩ = some (.string s)) (hf : w.frozen? ⟨b, 0, none⟩ = false) (h1 : 1 ≤ n) (h2 : n ≤ 8) (hs : n ≤ s.size) (hm : s.size ≤ maxLen) :
    Calls Try.prog 32 #[.pointer (some ⟨b, 0, none⟩), .int .i64 n] w fun e w' => e = .returned (.tuple #[.int .u64 (beNat (s.data.toList.take n)), .int .i64 0]) ∧ Rd b (s.extract n s.size) w w' := by
  have g1 : ¬ (n : Int) < 1 := by omega
  have g2 : ¬ 8 < (n : Int) := by omega
  have g3 : ¬ (s.size : Int) < n := by omega
  go_enter Try.func32, Try.ntmps32
  go_wp2_with fail
  go_loop [6, 7] (fun v i => ∃ k : Nat, k ≤ n ∧ i = .int .i64 k ∧ v = .int .u64 (beNat (s.data.toList.take k))) (fun _ i => n - (intOf i).toNat)
  case atStart => exact ⟨0, Nat.zero_le _, rfl, rfl⟩
  case round =>
    obtain ⟨k, hk, rfl, rfl⟩ := hrel
    by_cases hlt : k < n
    · have hkt : k < s.size := by omega
      have hbn := beNat_lt (s.data.toList.take k)
      go_wp2
      have hb7 : beNat (s.data.toList.take k) < 256 ^ 7 := Nat.lt_of_lt_of_le hbn (Nat.pow_le_pow_right (by omega) (by simp; omega))
      refine ⟨⟨k + 1, by omega, by simp, ?_⟩, by simp [intOf]; omega⟩
      rw [add_step _ _ hb7, take_snoc s k hkt, beNat_snoc]
    · obtain rfl : k = n := by omega
      go_wp2
      go_ret2
      exact ⟨rfl, Rd.set (Fr.refl _ _) hc hf⟩

/-- The bytes so far: j of l, zeros behind. -/
def hashArr (l : List UInt8) (j : Nat) : List UInt8 := (l.take j) ++ List.replicate (32 - j) 0

theorem hashArr_get (l : List UInt8) (j i : Nat) (hj : j ≤ 32) (hl : j ≤ l.length) : (hashArr l j)[i]? = if i < j then l[i]? else if i < 32 then some 0 else none := by
  unfold hashArr
  by_cases h1 : i < j
  · rw [if_pos h1, List.getElem?_append_left (by simp; omega), List.getElem?_take, if_pos h1]
  · rw [if_neg h1, List.getElem?_append_right (by simp; omega), List.getElem?_replicate, List.length_take]
    by_cases h2 : i < 32
    · rw [if_pos h2, if_pos (by omega)]
    · rw [if_neg h2, if_neg (by omega)]

theorem hashArr_set (l : List UInt8) (j : Nat) (hj : j < 32) (hl : j < l.length) : ((hashArr l j).map u8v).toArray.setIfInBounds j (u8v (l[j]'hl)) = ((hashArr l (j + 1)).map u8v).toArray := by
  apply Array.ext_getElem?
  intro i
  have hlen : (hashArr l j).length = 32 := by simp [hashArr]; omega
  rw [Array.getElem?_setIfInBounds]
  simp only [List.size_toArray, List.length_map, hlen, hj, if_true, List.getElem?_toArray, List.getElem?_map]
  rw [hashArr_get l j i (by omega) (by omega), hashArr_get l (j + 1) i (by omega) (by omega)]
  by_cases e : j = i
  · subst e
    rw [if_pos rfl, if_pos (by omega), List.getElem?_eq_getElem hl]
    rfl
  · rw [if_neg e]
    by_cases h1 : i < j
    · rw [if_pos h1, if_pos (by omega)]
    · rw [if_neg h1, if_neg (show ¬ i < j + 1 by omega)]

theorem hashArr_len (l : List UInt8) (j : Nat) (hj : j ≤ 32) (hl : j ≤ l.length) : (hashArr l j).length = 32 := by simp [hashArr]; omega

theorem heap_setCell_row {w : World} {p : Nat} {cs : Array Value} {v : Value} {t : TypeId} (j : Nat) (h : w.heap[p]? = some (.cells cs t (0, 0))) : (w.setCell ⟨p, j, none⟩ v).heap[p]? = some (.cells (cs.setIfInBounds j v) t (0, 0)) := by
  simp only [World.setCell, Array.getElem?_modify, h]
  simp

/-- A hash that is laid into a block that is there. -/
theorem store_row (V : World) (g : Nat) (C : Array Value) (hs : List UInt8) (hl : hs.length = 32) (hC : C.size = 32) (h : V.heap[g]? = some (.cells C 25 (0, 0))) :
    ∃ V2, (Instr.storeAt 25 (.pointer (some ⟨g, 0, none⟩)) (.agg (hs.map u8v).toArray)).run Try.prog V = .ok () V2 ∧ V2.heap[g]? = some (.cells (hs.map u8v).toArray 25 (0, 0)) ∧ Fr (· = g) V V2 := by
  have hs2 : (hs.map u8v).toArray.size = 32 := by simpa using hl
  refine ⟨V.setRow g (hs.map u8v).toArray, ?_, setRow_heap _ _ _ _ _ _ h, fr_setRow (Fr.refl (fun k => k = g) V) (.inl rfl) _⟩
  simp only [Instr.storeAt, Instr.sureAddr, Sem.run_bind, Sem.run_pure, Result.andThen_ok]
  exact run_storeVar_row V g 25 25 C (hs.map u8v).toArray h (by rw [Try.infoHash, hs2]) (by rw [hs2, hC]) (all_oneCell_toArray (oneCell_u8 hs))

theorem loadVar_hash (V : World) (g : Nat) (hs : List UInt8) (hl : hs.length = 32) (h : V.heap[g]? = some (.cells (hs.map u8v).toArray 25 (0, 0))) :
    (loadVar 25 ⟨g, 0, none⟩).run Try.prog V = .ok (.agg (hs.map u8v).toArray) V := by
  have hs2 : (hs.map u8v).toArray.size = 32 := by simpa using hl
  exact run_loadVar_row V _ 25 25 (hs.map u8v).toArray (0, 0) _ h Try.underlying25 rfl (by rw [Try.infoHash, hs2])

set_option maxHeartbeats 400000 in
set_option maxRecDepth 100000 in
theorem rrhash_short (b : Nat) (s : ByteArray) (w : World) (hl : s.size < 32) (hc : w.cell? ⟨b, 0, none⟩ = some (.string s)) (hf : w.frozen? ⟨b, 0, none⟩ = false) :
    Calls Try.prog 33 #[.pointer (some ⟨b, 0, none⟩)] w fun e w' => e = .returned (.tuple #[.agg ((List.replicate 32 (0 : UInt8)).map u8v).toArray, .int .i64 10]) ∧ Rd b s w w' := by
  have hb := lt_cell hc
  have h32 : (s.size : Int) < 32 := by omega
  obtain ⟨V, hV1, hV2, hV3⟩ := store_hash (w.alloc (.cells zero32 25)) (List.replicate 32 0) (by simp)
  rw [World.size_alloc] at hV1 hV2
  have cb : V.cell? ⟨b, 0, none⟩ = some (.string s) := (((Fr.refl No w).alloc _).trans hV3).cell id hc
  have HV1 := Lib.hid hV1
  have HV4 := Lib.hid (load_hash V _ (List.replicate 32 0) (by simp) hV2)
  obtain ⟨V2, hU1, hU2, hU3⟩ := store_row V w.heap.size zero32 (List.replicate 32 0) (by simp) rfl ((hV3.block _ (by simp) id).trans (heap_alloc_new w _))
  have HU1 := Lib.hid hU1
  have HU4 := Lib.hid (loadVar_hash V2 _ (List.replicate 32 0) (by simp) hU2)
  have n1 : ¬ b = w.heap.size := by omega
  have HR : Rd b s w V2 := ⟨hU3.cell n1 cb, (hU3.frozen 0 (lt_cell cb) n1).trans (((((Fr.refl No w).alloc _).trans hV3).frozen 0 hb id).trans hf),
    ((((Fr.refl No w).alloc _).trans hV3).trans' hU3 (fun i hi (e : i = w.heap.size) => absurd hi (by omega))).mono (fun _ _ h => h.elim)⟩
  have HR := Lib.hid HR
  clear hc hV1 hV2 hV3 hU1 hU2 hU3
  go_enter Try.func33, Try.ntmps33
  go_wp2_with (first | (refine wpList_store_eq rfl 25 _ _ rfl (.pointer (some ⟨w.heap.size + 1, 0, none⟩)) (.agg ((List.replicate 32 0).map u8v).toArray) rfl rfl HV1.out ?_) | (refine wpList_load_eq rfl 25 _ rfl (.pointer (some ⟨w.heap.size + 1, 0, none⟩)) (.agg ((List.replicate 32 0).map u8v).toArray) rfl HV4.out ?_) | (refine wpList_store_eq rfl 25 _ _ rfl (.pointer (some ⟨w.heap.size, 0, none⟩)) (.agg ((List.replicate 32 0).map u8v).toArray) rfl rfl HU1.out ?_))
  exact bodyPost_ret (results_cellT rfl rfl rfl HU4.out) rfl ⟨rfl, HR.out⟩

theorem frozen_row {w : World} {p j : Nat} {cs : Array Value} {t : TypeId} (h : w.heap[p]? = some (.cells cs t (0, 0))) : w.frozen? ⟨p, j, none⟩ = false := by
  simp [World.frozen?, h]

set_option maxHeartbeats 1000000 in
set_option maxRecDepth 100000 in
theorem rrhash_ok (b : Nat) (hs l2 : List UInt8) (w : World) (hl : hs.length = 32) (hc : w.cell? ⟨b, 0, none⟩ = some (.string (str (hs ++ l2)))) (hf : w.frozen? ⟨b, 0, none⟩ = false) (hm : (hs ++ l2).length ≤ maxLen) :
    Calls Try.prog 33 #[.pointer (some ⟨b, 0, none⟩)] w fun e w' => e = .returned (.tuple #[.agg (hs.map u8v).toArray, .int .i64 0]) ∧ Rd b (str l2) w w' := by
  have hb := lt_cell hc
  have hsz : (str (hs ++ l2)).size = 32 + l2.length := by rw [str_size, List.length_append, hl]
  have h32 : ¬ (32 + l2.length : Int) < 32 := by omega
  obtain ⟨V, hV1, hV2, hV3⟩ := store_hash (w.alloc (.cells zero32 25)) (List.replicate 32 0) (by simp)
  rw [World.size_alloc] at hV1 hV2
  have HV1 := Lib.hid hV1
  have HV2 := Lib.hid hV2
  have HV3 := Lib.hid hV3
  have HL := Lib.hid hl
  have HM := Lib.hid hm
  have hcV := Lib.hid ((((Fr.refl No w).alloc (.cells zero32 25)).trans hV3).cell id hc)
  have hfV := Lib.hid (((((Fr.refl No w).alloc (.cells zero32 25)).trans hV3).frozen 0 hb id).trans hf)
  have cb := hcV.out
  clear hc hf hV1 hV2 hV3 hl hm
  go_enter Try.func33, Try.ntmps33
  go_wp2_with (refine wpList_store_eq rfl 25 _ _ rfl (.pointer (some ⟨w.heap.size + 1, 0, none⟩)) (.agg ((List.replicate 32 0).map u8v).toArray) rfl rfl HV1.out ?_)
  clear cb
  go_loopw [5] (fun c wr => ∃ j : Nat, j ≤ 32 ∧ c = .int .i64 j ∧ wr.heap[w.heap.size + 1]? = some (.cells ((hashArr hs j).map u8v).toArray 25 (0, 0)) ∧ Fr (· = w.heap.size + 1) V wr) (fun c _ => 32 - (intOf c).toNat)
  case atStart => exact ⟨0, by omega, rfl, HV2.out, Fr.refl _ _⟩
  case round =>
    obtain ⟨j, hj, rfl, hrow, hF⟩ := hrel
    have n0 : ¬ b = w.heap.size + 1 := by omega
    have HR := Lib.hid hrow
    have HF := Lib.hid hF
    have cb := hF.cell n0 hcV.out
    clear hrow hF
    by_cases hlt : j < 32
    · have hjl : j < hs.length := by rw [HL.out]; exact hlt
      have hix : ∀ h, (str (hs ++ l2))[j]'h = hs[j]'hjl := fun h => by
        have h2 : (str (hs ++ l2)).data.toList[j]'(by have : (str (hs ++ l2)).data.toList = hs ++ l2 := rfl; rw [this, List.length_append]; omega) = hs[j]'hjl := by
          show (hs ++ l2)[j]'(by rw [List.length_append]; omega) = _
          exact List.getElem_append_left hjl
        exact h2
      have cj : wr.cell? ⟨w.heap.size + 1, j, none⟩ = some (u8v 0) := by
        rw [cell_of_row wr _ j _ _ _ HR.out]
        simp only [List.getElem?_toArray, List.getElem?_map]
        rw [hashArr_get hs j j (by omega) (by omega), if_neg (Nat.lt_irrefl j), if_pos hlt]
        rfl
      have fj : wr.frozen? ⟨w.heap.size + 1, j, none⟩ = false := frozen_row HR.out
      go_wp2
      refine ⟨⟨j + 1, by omega, by simp, ?_, HF.out.setCell (.inl rfl) _⟩, by simp [intOf]; omega⟩
      exact (heap_setCell_row j HR.out).trans (by rw [← hashArr_set hs j hlt hjl])
    · obtain rfl : j = 32 := by omega
      have hfull : hashArr hs 32 = hs := by unfold hashArr; rw [List.take_of_length_le (by rw [HL.out]; omega)]; simp
      rw [hfull] at HR
      have hext : (str (hs ++ l2)).extract 32 (32 + l2.length) = str l2 := by
        have h := str_extract1 hs l2
        rwa [hsz, HL.out] at h
      have fb : wr.frozen? ⟨b, 0, none⟩ = false := (HF.out.frozen 0 (lt_cell hcV.out) n0).trans hfV.out
      obtain ⟨Y, hY⟩ : ∃ Y, Y = wr.setCell ⟨b, 0, none⟩ (.string (str l2)) := ⟨_, rfl⟩
      have hYF : Fr (· = b) wr Y := by rw [hY]; exact (Fr.refl (fun k => k = b) wr).setCell (.inl rfl) _
      have hYc : Y.cell? ⟨b, 0, none⟩ = some (.string (str l2)) := by rw [hY]; exact World.cell?_setCell_same _ _ _ cb
      have hYf : Y.frozen? ⟨b, 0, none⟩ = false := by rw [hY, World.frozen?_setCell]; exact fb
      have hzV : w.heap.size + 1 ≤ V.heap.size := by have := HV3.out.size; simpa using this
      have hrE : Y.heap[w.heap.size]? = some (.cells zero32 25 (0, 0)) :=
        (hYF.block _ (Nat.lt_of_lt_of_le (by omega) HF.out.size) (show ¬ w.heap.size = b by omega)).trans ((HF.out.block _ (by omega) (show ¬ w.heap.size = w.heap.size + 1 by omega)).trans ((HV3.out.block _ (by simp) id).trans (heap_alloc_new w _)))
      have hrY : Y.heap[w.heap.size + 1]? = some (.cells (hs.map u8v).toArray 25 (0, 0)) := (hYF.block _ (Array.getElem?_eq_some_iff.1 HR.out).1 (show ¬ w.heap.size + 1 = b by omega)).trans HR.out
      obtain ⟨V2, hU1, hU2, hU3⟩ := store_row Y w.heap.size zero32 hs HL.out rfl hrE
      have HLD := Lib.hid (load_hash Y _ hs HL.out hrY)
      have HU1 := Lib.hid hU1
      have HU4 := Lib.hid (loadVar_hash V2 _ hs HL.out hU2)
      have HF0 : Fr (· = b) w Y := ((((Fr.refl No w).alloc (.cells zero32 25)).trans HV3.out).trans' HF.out (fun i hi (e : i = w.heap.size + 1) => absurd hi (by omega))).mono (fun _ _ h => h.elim) |>.trans hYF
      have HRd := Lib.hid (show Rd b (str l2) w V2 from ⟨hU3.cell (show ¬ b = w.heap.size by omega) hYc, (hU3.frozen 0 (lt_cell hYc) (show ¬ b = w.heap.size by omega)).trans hYf, HF0.trans' hU3 (fun i hi (e : i = w.heap.size) => absurd hi (by omega))⟩)
      clear hU1 hU2 hU3 hrE hrY hYF hYc hYf HF0 HF HV3
      go_wp2_with (first | (rw [← hY]; fail) | (refine wpList_load_eq rfl 25 _ rfl (.pointer (some ⟨w.heap.size + 1, 0, none⟩)) (.agg (hs.map u8v).toArray) rfl (hY ▸ HLD.out) ?_) | (refine wpList_store_eq rfl 25 _ _ rfl (.pointer (some ⟨w.heap.size, 0, none⟩)) (.agg (hs.map u8v).toArray) rfl rfl (hY ▸ HU1.out) ?_))
      exact bodyPost_ret (results_cellT rfl rfl rfl HU4.out) rfl ⟨rfl, HRd.out⟩
end Go.Proofs.Ytpdnbjaamgfemaa
