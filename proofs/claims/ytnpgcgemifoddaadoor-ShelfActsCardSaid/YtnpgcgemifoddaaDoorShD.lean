/- The document's Len and Least. -/
import Derived.Test.YtnpgcgemifoddaaDoorShB
import Derived.IntWalk
namespace Go.Proofs.YtnpgcgemifoddaaDoor
open Go.RowKit
set_option linter.unusedVariables false

/-- An operation of a plain list by its own equation. -/
theorem flat_load {w : World} {b : Nat} {t : TypeId} {L : List Ent} (h : Blk w b t (flat L)) (hL : L.length = 17) : (Instr.loadAt 37 (.pointer (some ⟨b, 0, none⟩))).run Tryd.prog w = .ok (.agg (flat L).toArray) w :=
  load_range _ h.whole Tryd.underlying37 rfl (by rw [flat_len, hL]; kernel_rfl) _ rfl

theorem lenN_next {L : List Ent} {k : Nat} {e : Ent} (h : L[k]? = some e) : lenN (L.take (k + 1)) = lenN (L.take k) + if e.has then 1 else 0 := by
  rw [List.take_add_one, h, lenN, List.countP_append]
  cases he : e.has <;> simp [he, lenN]

set_option maxRecDepth 100000 in
set_option maxHeartbeats 2000000 in
theorem rlen_any (L : List Ent) (w : World) (hL : L.length = 17) :
    Calls Tryd.prog 14 #[.agg (flat L).toArray] w fun ex w' => ex = .returned (.int .i64 (lenN L : Int)) ∧ Fr No w w' := by
  go_enter Tryd.func14, Tryd.ntmps14
  have hB0 := Blk.new w 37 (flat L)
  go_wp2_with fail
  have HF : Hid (Fr No w (w.alloc (.cells (flat L).toArray 37))) := Lib.hid ((Fr.refl No w).alloc _)
  have HB := Lib.hid hB0
  clear hB0
  refine wp_world (fun W => Fr No w W ∧ Blk W w.heap.size 37 (flat L)) ⟨HF.out, HB.out⟩ (fun W hW => ?_)
  have HF := Lib.hid hW.1
  have HB := Lib.hid hW.2
  clear hW
  obtain ⟨p, hp⟩ : ∃ p, p = w.heap.size := ⟨_, rfl⟩
  rw [← hp] at HB ⊢
  clear hp
  go_loopw [3, 4] (fun n c wr => ∃ k m : Nat, k ≤ 17 ∧ n = .int .i64 (m : Int) ∧ m = lenN (L.take k) ∧ c = .int .i64 (k : Int) ∧ wr = W) (fun _ c _ => 17 - (intOf c).toNat)
  case atStart => exact ⟨0, 0, by omega, rfl, rfl, rfl, rfl⟩
  case round =>
    obtain ⟨k, m, hk, rfl, hm, rfl, rfl⟩ := hrel
    by_cases hlt : k < 17
    · have h1 : (k : Int) < 17 := by omega
      obtain ⟨e, he⟩ : ∃ e, L[k]? = some e := ⟨_, List.getElem?_eq_getElem (by omega)⟩
      have hc := place_has HB.out he
      have HN : Hid (lenN (L.take (k + 1)) = m + if e.has then 1 else 0) := Lib.hid (by rw [hm]; exact lenN_next he)
      have hm17 : m ≤ 17 := by rw [hm]; refine Nat.le_trans (lenN_le _) ?_; rw [List.length_take]; omega
      have e1 : IntKind.i64.wrap ((m : Int) + 1) = ((m + 1 : Nat) : Int) := IntWalk.i64_in _ (by omega)
      have e2 : IntKind.i64.wrap ((k : Int) + 1) = ((k + 1 : Nat) : Int) := IntWalk.i64_in _ (by omega)
      obtain ⟨c, hc0⟩ : ∃ c, c = e.has := ⟨_, rfl⟩
      rw [← hc0] at hc HN
      clear hm hc0 hm17
      cases c with
      | true =>
        go_wp2
        exact ⟨⟨k + 1, m + 1, by omega, rfl, by rw [HN.out]; rfl, by simp⟩, by simp [intOf]; omega⟩
      | false =>
        go_wp2
        exact ⟨⟨k + 1, m, by omega, rfl, by rw [HN.out]; rfl, by simp⟩, by simp [intOf]; omega⟩
    · obtain rfl : k = 17 := by omega
      rw [← hL, List.take_length] at hm
      subst hm
      go_wp2
      go_ret
      exact ⟨rfl, HF.out⟩

set_option maxRecDepth 100000 in
set_option maxHeartbeats 2000000 in
theorem rleast_any (L : List Ent) (w : World) (hL : L.length = 17) :
    Calls Tryd.prog 15 #[.agg (flat L).toArray] w fun ex w' => ex = .returned (.tuple #[.int .i64 (leastI (leastN L)), .bool (leastB (leastN L))]) ∧ Fr No w w' := by
  obtain ⟨li, hli⟩ : ∃ li, li = leastI (leastN L) := ⟨_, rfl⟩
  obtain ⟨lb, hlb⟩ : ∃ lb, lb = leastB (leastN L) := ⟨_, rfl⟩
  rw [← hli, ← hlb]
  have HLI := Lib.hid hli
  have HLB := Lib.hid hlb
  clear hli hlb
  go_enter Tryd.func15, Tryd.ntmps15
  have hB0 := Blk.new w 37 (flat L)
  go_wp2_with fail
  have HF : Hid (Fr No w (w.alloc (.cells (flat L).toArray 37))) := Lib.hid ((Fr.refl No w).alloc _)
  have HB := Lib.hid hB0
  clear hB0
  refine wp_world (fun W => Fr No w W ∧ Blk W w.heap.size 37 (flat L)) ⟨HF.out, HB.out⟩ (fun W hW => ?_)
  have HF := Lib.hid hW.1
  have HB := Lib.hid hW.2
  clear hW
  obtain ⟨p, hp⟩ : ∃ p, p = w.heap.size := ⟨_, rfl⟩
  rw [← hp] at HB ⊢
  clear hp
  go_loopw [4, 5] (fun n c wr => ∃ k m : Nat, k ≤ 17 ∧ n = .int .i64 (m : Int) ∧ m = leastN (L.take k) ∧ c = .int .i64 (k : Int) ∧ wr = W) (fun _ c _ => 17 - (intOf c).toNat)
  case atStart => exact ⟨0, 65536, by omega, rfl, rfl, rfl, rfl⟩
  case round =>
    obtain ⟨k, m, hk, rfl, hm, rfl, rfl⟩ := hrel
    by_cases hlt : k < 17
    · have h1 : (k : Int) < 17 := by omega
      obtain ⟨e, he⟩ : ∃ e, L[k]? = some e := ⟨_, List.getElem?_eq_getElem (by omega)⟩
      have hc := place_has HB.out he
      have hn := place_num HB.out he
      have HN : Hid (leastN (L.take (k + 1)) = lst m e) := Lib.hid (by rw [hm, List.take_add_one, he]; exact leastN_snoc _ _)
      have e2 : IntKind.i64.wrap ((k : Int) + 1) = ((k + 1 : Nat) : Int) := IntWalk.i64_in _ (by omega)
      obtain ⟨c, hc0⟩ : ∃ c, c = e.has := ⟨_, rfl⟩
      obtain ⟨y, hy0⟩ : ∃ y, y = e.n := ⟨_, rfl⟩
      have HT : Hid (lst m e = if c && decide (y < m) then y else m) := Lib.hid (by rw [hc0, hy0]; rfl)
      rw [← hc0] at hc
      rw [← hy0] at hn
      clear hm hc0 hy0
      cases c with
      | true =>
        by_cases hlt2 : y < m
        · have hd : (y : Int) < (m : Int) := by omega
          have HT2 : Hid (lst m e = y) := Lib.hid (by rw [HT.out]; simp [hlt2])
          clear HT
          go_wp2
          exact ⟨⟨k + 1, y, by omega, rfl, by rw [HN.out, HT2.out], by simp⟩, by simp [intOf]; omega⟩
        · have hd : decide (y < m) = false := by simpa using hlt2
          have HT2 : Hid (lst m e = m) := Lib.hid (by rw [HT.out]; simp [hlt2])
          clear HT
          go_wp2
          exact ⟨⟨k + 1, m, by omega, rfl, by rw [HN.out, HT2.out], by simp⟩, by simp [intOf]; omega⟩
      | false =>
        have HT2 : Hid (lst m e = m) := Lib.hid (by rw [HT.out]; simp)
        clear HT
        go_wp2
        exact ⟨⟨k + 1, m, by omega, rfl, by rw [HN.out, HT2.out], by simp⟩, by simp [intOf]; omega⟩
    · obtain rfl : k = 17 := by omega
      rw [← hL, List.take_length] at hm
      have hle := leastN_le L
      by_cases hm2 : m < 65536
      · have ea : Hid (li = (m : Int)) := Lib.hid (by rw [HLI.out, ← hm, leastI, if_pos hm2])
        have eb : Hid (lb = true) := Lib.hid (by rw [HLB.out, ← hm, leastB]; simpa using hm2)
        have hne : ((m : Int) == 65536) = false := by rw [beq_eq_false_iff_ne]; omega
        clear hm hle
        go_wp2
        go_ret2
        exact ⟨by rw [ea.out, eb.out]; rfl, HF.out⟩
      · have e65 : m = 65536 := by omega
        have ea : Hid (li = 0) := Lib.hid (by rw [HLI.out, ← hm, leastI, if_neg hm2])
        have eb : Hid (lb = false) := Lib.hid (by rw [HLB.out, ← hm, leastB]; simpa using hm2)
        clear hm hle hm2
        subst e65
        go_wp2
        go_ret2
        exact ⟨by rw [ea.out, eb.out]; rfl, HF.out⟩
end Go.Proofs.YtnpgcgemifoddaaDoor
