/- A task gives its locks back. -/
import Derived.Test.YtpmmfbbppnbhbaaSdH
import Derived.LaidEqlPtr
namespace Go.Proofs.Ytpmmfbbppnbhbaa
open Go.RowKit
set_option linter.unusedVariables false
set_option maxRecDepth 100000

/-- Those below k that i held are free. -/
def freeTo (f : Nat → Int) (i : Int) (k : Nat) (j : Nat) : Int := if j < k ∧ f j = i then -1 else f j
theorem freeTo_next {f : Nat → Int} {i : Int} {k : Nat} (j : Nat) : freeTo f i (k + 1) j = if j = k ∧ f k = i then -1 else freeTo f i k j := by
  unfold freeTo
  by_cases h1 : j = k
  · subst h1
    by_cases h2 : f j = i
    · rw [if_pos ⟨by omega, h2⟩, if_pos ⟨rfl, h2⟩]
    · rw [if_neg (fun e => h2 e.2), if_neg (fun e => h2 e.2), if_neg (fun e => h2 e.2)]
  · by_cases h2 : j < k ∧ f j = i
    · rw [if_pos ⟨by omega, h2.2⟩, if_neg (fun e => h1 e.1), if_pos h2]
    · rw [if_neg (fun e => h2 ⟨by omega, e.2⟩), if_neg (fun e => h1 e.1), if_neg h2]
theorem cellsB_set {r : Nat} {q : Nat → Nat} {f g : Nat → Int} {tv dv : Value} {k : Nat} (hk : k < 4) (h : ∀ j, j < 4 → g j = if j = k then g k else f j) : (cellsB r q f tv dv).set (1 + k) (hp q (g k)) = cellsB r q g tv dv := by
  unfold cellsB
  have hc : k = 0 ∨ k = 1 ∨ k = 2 ∨ k = 3 := by omega
  rcases hc with rfl | rfl | rfl | rfl
  · rw [h 1 (by omega), h 2 (by omega), h 3 (by omega)]; rfl
  · rw [h 0 (by omega), h 2 (by omega), h 3 (by omega)]; rfl
  · rw [h 0 (by omega), h 1 (by omega), h 3 (by omega)]; rfl
  · rw [h 0 (by omega), h 1 (by omega), h 2 (by omega)]; rfl
theorem cellsB_at (r : Nat) (q : Nat → Nat) (f : Nat → Int) (tv dv : Value) {k : Nat} (hk : k < 4) : (cellsB r q f tv dv)[1 + k]? = some (hp q (f k)) := by
  have hc : k = 0 ∨ k = 1 ∨ k = 2 ∨ k = 3 := by omega
  rcases hc with rfl | rfl | rfl | rfl <;> rfl

theorem Try.infoTask : (Try.prog.info? 93).map (·.size) = some 7 := by kernel_rfl
theorem eq_same10 (a : Nat) (w : World) : (binOp .eql 76 (.pointer (some ⟨a, 0, none⟩)) (.pointer (some ⟨a, 0, none⟩))).run Try.prog w = .ok (.bool true) w := by
  obtain ⟨j, hj, _⟩ := Option.map_eq_some_iff.1 Try.infoTask
  exact run_eql_ptr_same w _ Try.underlying76 hj
theorem eq_other10 {a b : Nat} {w : World} {ta tb : TypeId} {ca cb : List Value} (h : a ≠ b) (ha : Blk w a ta ca) (hb : Blk w b tb cb) : (binOp .eql 76 (.pointer (some ⟨a, 0, none⟩)) (.pointer (some ⟨b, 0, none⟩))).run Try.prog w = .ok (.bool false) w := by
  obtain ⟨j, hj, hs⟩ := Option.map_eq_some_iff.1 Try.infoTask
  exact run_eql_ptr_other w Try.underlying76 hj (by rw [hs]; decide) (fun e => h (by injection e)) ha hb
theorem eq_nil10 (b : Nat) (w : World) : (binOp .eql 76 (.pointer none) (.pointer (some ⟨b, 0, none⟩))).run Try.prog w = .ok (.bool false) w := by
  have h : ∀ d : Nat, (Op.equalIn (d + 1) 76 (.pointer none) (.pointer (some ⟨b, 0, none⟩))).run Try.prog w = .ok false w := fun d => by
    simp [Op.equalIn, run_underlying Try.underlying76]
  simp only [binOp]
  simp [Op.equal, Op.maxDepth, h 9999]
set_option maxHeartbeats 4000000 in
theorem end_any {r p qi : Nat} {q : Nat → Nat} {f : Nat → Int} {tv dv : Value} {i : Nat} {w : World} (hb : Blk w p 82 (cellsB r q f tv dv)) (c0 : w.cell? ⟨qi, 0, none⟩ = some (.pointer (some ⟨p, 0, none⟩))) (hpq : p ≠ qi)
    (hqi : ∃ cs, Blk w qi 93 cs) (hq : ∀ k, k < 4 → 0 ≤ f k → (q (f k).toNat = qi ↔ f k = (i : Int)) ∧ q (f k).toNat ≠ p ∧ ∃ cs, Blk w (q (f k).toNat) 93 cs) :
    Calls Try.prog 49 #[.pointer (some ⟨qi, 0, none⟩)] w fun e w' => e = .returned (.int .i64 0) ∧ Blk w' p 82 (cellsB r q (freeTo f i 4) tv dv) ∧ Fr (· = p) w w' := by
  have HB := Lib.hid hb
  have HC := Lib.hid c0
  have HQ := Lib.hid hq
  have HQI := Lib.hid hqi
  have HN : Hid (qi ≠ p) := Lib.hid (fun e => hpq e.symm)
  clear hb c0 hq hpq hqi
  go_enter Try.func49, Try.ntmps49
  go_wp2_with fail
  go_loopw [3, 4] (fun x c wr => ∃ k : Nat, k ≤ 4 ∧ c = .int .i64 k ∧ Hid (Blk wr p 82 (cellsB r q (freeTo f i k) tv dv)) ∧ Hid (Fr (· = p) w wr)) (fun _ c _ => 4 - (intOf c).toNat)
  case atStart => exact ⟨0, by omega, rfl, Lib.hid (by have e : freeTo f i 0 = f := by { funext j; unfold freeTo; rw [if_neg (by omega)] }; rw [e]; exact HB.out), Lib.hid (Fr.refl _ _)⟩
  case round =>
    obtain ⟨k, hk, rfl, HBk, HF⟩ := hrel
    by_cases hlt : k < 4
    · have t1 : k < 4 := hlt
      have c1 := HF.out.cell HN.out HC.out
      have ck := HBk.out.cell (cellsB_at r q (freeTo f i k) tv dv hlt)
      have fk := HBk.out.frozen (1 + k)
      have e0 : freeTo f i k k = f k := by unfold freeTo; rw [if_neg (by omega)]
      rw [e0] at ck
      obtain ⟨k1, hk1⟩ : ∃ x, x = k + 1 := ⟨_, rfl⟩
      have HK1 : Hid (k1 = k + 1 ∧ k1 ≤ 4) := Lib.hid ⟨hk1, by omega⟩
      have s1 : (k : Int) + 1 = (k1 : Int) := by omega
      have l1 : IntKind.i64.wrap (k1 : Int) = (k1 : Int) := IntWalk.i64_in _ (by omega)
      have HSAME : Hid (f k ≠ (i : Int) → freeTo f i k1 = freeTo f i k) := Lib.hid (fun hne => by
        funext j
        rw [hk1, freeTo_next, if_neg (fun e => hne e.2)])
      have HLT := Lib.hid hlt
      obtain ⟨o, ho⟩ : ∃ o, o = 1 + k := ⟨_, rfl⟩
      by_cases h0 : 0 ≤ f k
      · rw [hp, if_pos h0] at ck
        simp only [at_] at ck
        by_cases hi : f k = (i : Int)
        · have e1 := (HQ.out k hlt h0).1.2 hi
          rw [e1] at ck
          have HNEW : Hid (Blk (wr.setCell ⟨p, 1 + k, none⟩ (.pointer none)) p 82 (cellsB r q (freeTo f i k1) tv dv)) := Lib.hid (by
            have e2 : freeTo f i k1 k = -1 := by rw [hk1, freeTo_next, if_pos ⟨rfl, hi⟩]
            have h3 := HBk.out.set (1 + k) (hp q (freeTo f i k1 k))
            rw [cellsB_set hlt (fun j hj => by
              rw [hk1, freeTo_next j, freeTo_next k, if_pos (c := k = k ∧ f k = (i : Int)) ⟨rfl, hi⟩]
              by_cases hjk : j = k
              · rw [if_pos ⟨hjk, hi⟩, if_pos hjk]
              · rw [if_neg (fun e => hjk e.1), if_neg hjk])] at h3
            rw [e2] at h3
            exact h3)
          have HF2 : Hid (Fr (· = p) w (wr.setCell ⟨p, 1 + k, none⟩ (.pointer none))) := Lib.hid (HF.out.setCell (p := ⟨p, 1 + k, none⟩) (.inl rfl) _)
          have e9 := eq_same10 qi wr
          clear hlt hk hk1 e0 h0 hi e1 ho
          go_wp2
          exact ⟨⟨k1, HK1.out.2, rfl, HNEW, HF2⟩, by have := HK1.out; simp [intOf]; omega⟩
        · have hne : ¬ q (f k).toNat = qi := fun e => hi ((HQ.out k hlt h0).1.1 e)
          have e9 : (binOp .eql 76 (.pointer (some ⟨q (f k).toNat, 0, none⟩)) (.pointer (some ⟨qi, 0, none⟩))).run Try.prog wr = .ok (.bool false) wr := by
            obtain ⟨_, h2, cs, h3⟩ := HQ.out k hlt h0
            obtain ⟨ds, h4⟩ := HQI.out
            exact eq_other10 hne (h3.fr HF.out h2) (h4.fr HF.out HN.out)
          obtain ⟨a, ha⟩ : ∃ a, a = q (f k).toNat := ⟨_, rfl⟩
          rw [← ha] at ck hne e9
          have HNEW : Hid (Blk wr p 82 (cellsB r q (freeTo f i k1) tv dv)) := Lib.hid (by rw [HSAME.out hi]; exact HBk.out)
          clear hlt hk hk1 e0 h0 hi ho ha
          go_wp2
          exact ⟨⟨k1, HK1.out.2, rfl, HNEW, HF⟩, by have := HK1.out; simp [intOf]; omega⟩
      · rw [hp, if_neg h0] at ck
        have HNEW : Hid (Blk wr p 82 (cellsB r q (freeTo f i k1) tv dv)) := Lib.hid (by rw [HSAME.out (by omega)]; exact HBk.out)
        have e9 := eq_nil10 qi wr
        clear hlt hk hk1 e0 h0 ho
        go_wp2
        exact ⟨⟨k1, HK1.out.2, rfl, HNEW, HF⟩, by have := HK1.out; simp [intOf]; omega⟩
    · have t1 : ¬ k < 4 := hlt
      obtain rfl : k = 4 := by omega
      clear hlt hk
      go_wp2
      go_ret
      exact ⟨rfl, HBk.out, HF.out⟩
end Go.Proofs.Ytpmmfbbppnbhbaa
