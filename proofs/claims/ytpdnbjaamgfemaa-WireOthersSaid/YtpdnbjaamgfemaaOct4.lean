import Derived.Test.YtpdnbjaamgfemaaOct3
namespace Go.Proofs.Ytpdnbjaamgfemaa
open Go.RowKit
set_option linter.unusedVariables false
set_option maxRecDepth 100000

/-- What a reader's call leaves: the reader at b holds s, and may be written; of what was there its block alone has turned. -/
def Rd (b : Nat) (s : ByteArray) (w w' : World) : Prop :=
  w'.cell? ⟨b, 0, none⟩ = some (.string s) ∧ w'.frozen? ⟨b, 0, none⟩ = false ∧ Fr (· = b) w w'

theorem Rd.set {b : Nat} {s t : ByteArray} {w w1 : World} (h : Fr (· = b) w w1) (hc : w1.cell? ⟨b, 0, none⟩ = some (.string t)) (hf : w1.frozen? ⟨b, 0, none⟩ = false) :
    Rd b s w (w1.setCell ⟨b, 0, none⟩ (.string s)) :=
  ⟨World.cell?_setCell_same _ _ _ hc, by rw [World.frozen?_setCell]; exact hf, h.setCell (.inl rfl) _⟩

theorem fr_alloc4 (S : Nat → Prop) (w : World) (a b c d : Obj) : Fr S w ((((w.alloc a).alloc b).alloc c).alloc d) := ((((Fr.refl S _).alloc _).alloc _).alloc _).alloc _

set_option maxHeartbeats 400000 in
theorem rnum_bad (b : Nat) (s : ByteArray) (n : Int) (w : World) (hc : w.cell? ⟨b, 0, none⟩ = some (.string s)) (hf : w.frozen? ⟨b, 0, none⟩ = false) (h : ¬ (1 ≤ n ∧ n ≤ 8)) :
    Calls Try.prog 69 #[.pointer (some ⟨b, 0, none⟩), .int .i64 n] w fun e w' => e = .returned (.tuple #[.int .u64 0, .int .i64 1]) ∧ Rd b s w w' := by
  have hb := lt_cell hc
  have H := Lib.hid h
  clear h
  go_enter_defers Try.func69, Try.ntmps69
  go_wp2_with (first | (go_at_call 70; refine (back_any _ _ _ _ (by rw [World.cell?_alloc_lt _ _ _ hb]; exact hc)).mono ?_; rintro e w' ⟨rfl, rfl⟩) | (go_at_call 65; refine (width_no _ _ H.out).mono ?_; rintro e w' ⟨rfl, rfl⟩))
  refine leaves_cons (f := 72) (args := #[.pointer (some ⟨w.heap.size + 1 + 1, 0, none⟩), .pointer (some ⟨w.heap.size + 1, 0, none⟩), .pointer (some ⟨w.heap.size + 1 + 2, 0, none⟩)]) (by simp) (by simp [go_sem]) ?_
  refine (backon_err b w.heap.size (w.heap.size + 1) 1 s s .returning _ (by decide) ?_ ?_ ?_ ?_ ?_ ?_).mono ?_
  · simp [go_sem]
  · simp [go_sem]
  · simp [go_sem]
  · simp [go_sem]
  · exact (fr_alloc4 No _ _ _ _ _).cell id hc
  · exact ((fr_alloc4 No _ _ _ _ _).frozen 0 hb id).trans hf
  rintro e u' w'' ⟨rfl, rfl, rfl⟩
  simp [Leaves, settle, results, Try.results69, go_sem]
  exact Rd.set (fr_alloc4 _ _ _ _ _ _) ((fr_alloc4 No _ _ _ _ _).cell id hc) (((fr_alloc4 No _ _ _ _ _).frozen 0 hb id).trans hf)

set_option maxHeartbeats 400000 in
theorem rnum_short (b : Nat) (s : ByteArray) (n : Int) (w : World) (hc : w.cell? ⟨b, 0, none⟩ = some (.string s)) (hf : w.frozen? ⟨b, 0, none⟩ = false) (h1 : 1 ≤ n) (h2 : n ≤ 8) (hs : (s.size : Int) < n) :
    Calls Try.prog 69 #[.pointer (some ⟨b, 0, none⟩), .int .i64 n] w fun e w' => e = .returned (.tuple #[.int .u64 0, .int .i64 10]) ∧ Rd b s w w' := by
  have hb := lt_cell hc
  go_enter_defers Try.func69, Try.ntmps69
  go_wp2_with (first | (go_at_call 70; refine (back_any _ _ _ _ (by rw [World.cell?_alloc_lt _ _ _ hb]; exact hc)).mono ?_; rintro e w' ⟨rfl, rfl⟩) | (go_at_call 65; refine (width_yes _ _ h1 h2).mono ?_; rintro e w' ⟨rfl, rfl⟩) | (go_at_call 71; refine (take_short _ s _ _ ((fr_alloc4 No _ _ _ _ _).cell id hc) hs).mono ?_; rintro e w' ⟨rfl, rfl⟩))
  refine wp_loop_rounds 1 ?_
  rw [rounds_succ]
  go_wp2
  go_region
  go_wp2
  refine leaves_cons (f := 72) (args := #[.pointer (some ⟨w.heap.size + 1 + 1, 0, none⟩), .pointer (some ⟨w.heap.size + 1, 0, none⟩), .pointer (some ⟨w.heap.size + 1 + 2, 0, none⟩)]) (by simp) (by simp [go_sem]) ?_
  refine (backon_err b w.heap.size (w.heap.size + 1) 10 s s .returning _ (by decide) ?_ ?_ ?_ ?_ ?_ ?_).mono ?_
  · simp [go_sem]
  · simp [go_sem]
  · simp [go_sem]
  · simp [go_sem]
  · exact (fr_alloc4 No _ _ _ _ _).drew.cell id hc
  · exact ((fr_alloc4 No _ _ _ _ _).drew.frozen 0 hb id).trans hf
  rintro e u' w'' ⟨rfl, rfl, rfl⟩
  simp [Leaves, settle, results, Try.results69, go_sem]
  exact Rd.set (fr_alloc4 _ _ _ _ _ _).drew ((fr_alloc4 No _ _ _ _ _).drew.cell id hc) (((fr_alloc4 No _ _ _ _ _).drew.frozen 0 hb id).trans hf)

theorem be_step (n : Nat) (c : UInt8) (h : n < 256 ^ 7) : (n * 256 + c.toNat : Nat) < 18446744073709551616 := by
  have := c.toNat_lt
  omega

theorem or_step (n : Nat) (c : UInt8) (h : n < 256 ^ 7) : bits .or .u64 (IntKind.u64.wrap ((n : Int) * 256)) (IntKind.u64.wrap (c.toNat : Int)) = ((n * 256 + c.toNat : Nat) : Int) := by
  have hc := c.toNat_lt
  have e1 : IntKind.u64.wrap ((n : Int) * 256) = ((n * 256 : Nat) : Int) := by rw [IntKind.wrap_u64]; omega
  have e2 : IntKind.u64.wrap (c.toNat : Int) = ((c.toNat : Nat) : Int) := by rw [IntKind.wrap_u64]; omega
  rw [e1, e2, u64_or_nat _ _ (by omega) (by omega), nat_join 8 _ _ (by omega) (by omega)]

theorem take_snoc (s : ByteArray) (k : Nat) (h : k < s.size) : s.data.toList.take (k + 1) = s.data.toList.take k ++ [s[k]] := by
  rw [List.take_succ_eq_append_getElem (by simpa using h)]; rfl

theorem take_okR (b : Nat) (s : ByteArray) (n : Nat) (w : World) (hc : w.cell? ⟨b, 0, none⟩ = some (.string s)) (hf : w.frozen? ⟨b, 0, none⟩ = false) (h : n ≤ s.size) (hs : s.size ≤ maxLen) :
    Calls Try.prog 71 #[.pointer (some ⟨b, 0, none⟩), .int .i64 n] w fun e w' => e = .returned (.tuple #[.string (s.extract 0 n), .int .i64 0]) ∧ Rd b (s.extract n s.size) w w' :=
  (take_ok b s n w hc hf h hs).mono fun _ _ ⟨he, hw⟩ => ⟨he, hw ▸ Rd.set (Fr.refl _ _) hc hf⟩

set_option maxHeartbeats 400000 in
theorem rnum_ok (b : Nat) (s : ByteArray) (n : Nat) (w : World) (hc : w.cell? ⟨b, 0, none⟩ = some (.string s)) (hf : w.frozen? ⟨b, 0, none⟩ = false) (h1 : 1 ≤ n) (h2 : n ≤ 8) (hs : n ≤ s.size) (hm : s.size ≤ maxLen) :
    Calls Try.prog 69 #[.pointer (some ⟨b, 0, none⟩), .int .i64 n] w fun e w' => e = .returned (.tuple #[.int .u64 (beNat (s.data.toList.take n)), .int .i64 0]) ∧ Rd b (s.extract n s.size) w w' := by
  have hb := lt_cell hc
  have g1 : 1 ≤ (n : Int) := by omega
  have g2 : (n : Int) ≤ 8 := by omega
  go_enter_defers Try.func69, Try.ntmps69
  go_wp2_with (first | (go_at_call 70; refine (back_any _ _ _ _ (by rw [World.cell?_alloc_lt _ _ _ hb]; exact hc)).mono ?_; rintro e w' ⟨rfl, rfl⟩) | (go_at_call 65; refine (width_yes _ _ g1 g2).mono ?_; rintro e w' ⟨rfl, rfl⟩))
  refine (take_okR _ s _ _ ((fr_alloc4 No _ _ _ _ _).cell id hc) (((fr_alloc4 No _ _ _ _ _).frozen 0 hb id).trans hf) hs hm).mono ?_
  rintro e w1 ⟨rfl, hr1, hr2, hr3⟩
  have ce : w1.cell? ⟨w.heap.size, 0, none⟩ = some (.int .i64 0) := hr3.cell (Nat.ne_of_gt hb) (by simp [go_sem])
  have fe : w1.frozen? ⟨w.heap.size, 0, none⟩ = false := (hr3.frozen 0 (by simp; omega) (Nat.ne_of_gt hb)).trans (by simp [go_sem])
  have c1 : w1.cell? ⟨w.heap.size + 1, 0, none⟩ = some (.pointer (some ⟨b, 0, none⟩)) := hr3.cell (by show ¬ _ = _; omega) (by simp [go_sem])
  have c2 : w1.cell? ⟨w.heap.size + 1 + 1, 0, none⟩ = some (.pointer (some ⟨w.heap.size, 0, none⟩)) := hr3.cell (by show ¬ _ = _; omega) (by simp [go_sem])
  have F1 := Lib.hid ((fr_alloc4 (· = b) w _ _ _ _).trans hr3)
  clear hr3
  go_wp2_with fail
  obtain ⟨t, ht⟩ : ∃ t, t = s.extract 0 n := ⟨_, rfl⟩
  rw [← ht]
  have htl : t.data.toList = s.data.toList.take n := by rw [ht]; simp
  have hts : t.size = n := by rw [ht]; simp; omega
  have q1 : n ≤ t.size := by omega
  have q2 : t.size ≤ n := by omega
  have HT := Lib.hid hts
  have HL := Lib.hid htl
  clear ht htl hts
  go_loop [4, 21] (fun v i => ∃ k : Nat, k ≤ n ∧ i = .int .i64 k ∧ v = .int .u64 (beNat (t.data.toList.take k))) (fun _ i => n - (intOf i).toNat)
  case atStart => exact ⟨0, Nat.zero_le _, rfl, rfl⟩
  case round =>
    obtain ⟨k, hk, rfl, rfl⟩ := hrel
    by_cases hlt : k < n
    · have hkt : k < t.size := by omega
      have hbn := beNat_lt (t.data.toList.take k)
      go_wp2
      have hb7 : beNat (t.data.toList.take k) < 256 ^ 7 := Nat.lt_of_lt_of_le hbn (Nat.pow_le_pow_right (by omega) (by simp; omega))
      refine ⟨⟨k + 1, by omega, by simp, ?_⟩, by simp [intOf]; omega⟩
      rw [or_step _ _ hb7, take_snoc t k hkt, beNat_snoc]
    · obtain rfl : k = n := by omega
      go_wp2
      go_region
      go_wp2
      obtain ⟨W2, hW2⟩ : ∃ W2, W2 = ((w1.setCell ⟨w.heap.size, 0, none⟩ (.int .i64 0)).setCell ⟨w.heap.size, 0, none⟩ (.int .i64 0)).drew := ⟨_, rfl⟩
      have F2 : Fr (· = b) w W2 := by rw [hW2]; exact (((F1.out).setCell (.inr (Nat.le_refl _)) _).setCell (.inr (Nat.le_refl _)) _).drew
      have F3 : Fr (· = w.heap.size) w1 W2 := by rw [hW2]; exact (((Fr.refl (fun x => x = w.heap.size) w1).setCell (.inl rfl) _).setCell (.inl rfl) _).drew
      have e2 : W2.cell? ⟨w.heap.size, 0, none⟩ = some (.int .i64 0) := by rw [hW2, World.cell?_drew]; exact World.cell?_setCell_same _ _ _ (World.cell?_setCell_same _ _ _ ce)
      rw [← hW2]
      clear hW2
      refine leaves_cons (f := 72) (args := #[.pointer (some ⟨w.heap.size + 1 + 1, 0, none⟩), .pointer (some ⟨w.heap.size + 1, 0, none⟩), .pointer (some ⟨w.heap.size + 1 + 2, 0, none⟩)]) (by simp) (by simp [go_sem]) ?_
      refine (backon_ok b w.heap.size (w.heap.size + 1) .returning _ (F3.cell (by show ¬ _ = _; omega) c2) (F3.cell (by show ¬ _ = _; omega) c1) e2).mono ?_
      rintro e u' w'' ⟨rfl, rfl, rfl⟩
      have hv := HL.out
      have HR : Rd b (s.extract k s.size) w w'' := ⟨F3.cell (Nat.ne_of_lt hb) hr1, (F3.frozen 0 (Nat.lt_of_lt_of_le hb (Nat.le_trans (Nat.le_refl _) F1.out.size)) (Nat.ne_of_lt hb)).trans hr2, F2⟩
      simp [Leaves, settle, results, Try.results69, go_sem, e2]
      exact ⟨by rw [List.take_of_length_le (by simp; omega), hv], HR⟩
end Go.Proofs.Ytpdnbjaamgfemaa
