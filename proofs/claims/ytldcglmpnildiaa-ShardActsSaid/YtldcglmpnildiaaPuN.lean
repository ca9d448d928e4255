/- A new purse: slices.Clone, and New. -/
import Derived.Test.YtldcglmpnildiaaPuH
import Derived.Test.YtldcglmpnildiaaOwn64
namespace Go.Proofs.Ytldcglmpnildiaa
open Go.RowKit Go.Maps
set_option linter.unusedVariables false
set_option maxRecDepth 100000

set_option maxHeartbeats 2000000 in
theorem clone64_any (ao : Option Addr) (n cap : Nat) (b : List Nat) (w : World) (hn : n = b.length) (h1 : 1 ≤ n) (h2 : n ≤ 32) (hx : Nums w ao n (fun i => b.getD i 0)) :
    Calls Try.prog 33 #[.slice ao n cap] w fun e w' => ∃ g c, e = .returned (.slice (some ⟨g, 0, none⟩) n c) ∧ w.heap.size ≤ g ∧ g < w'.heap.size ∧ Rw w' g b ∧ Fr No w w' := by
  obtain ⟨i0, hi, hz0, hz1, hz2⟩ := info_parts Try.infoU64
  have q : ∀ (w : World) (a : Option Addr) (n c n' c' : Nat), (binOp .eql 22 (.slice a n c) (.slice none n' c')).run Try.prog w = .ok (.bool a.isNone) w := fun w a n c n' c' => Lib.run_eql_slice_nil w _ _ a n c n' c' Try.underlying22
  obtain ⟨a, rfl, _, _⟩ := hx 0 (by omega)
  have HX := Lib.hid hx
  have HN := Lib.hid hn
  clear hx hn
  go_enter Try.func33, Try.ntmps33
  go_wp2_with (at_builtin; refine wpList_append_own _ rfl _ _ 22 rfl w.heap.size 27 i0 (.int .u64 0) 1 8 Try.underlying22 hi hz0 hz1 hz2 rfl (by decide) _ _ _ rfl (World.ownsRow_made w #[] 0 (Nat.le_refl _) (Nat.zero_le _) rfl) a n cap (cells64 b) rfl ?c1 ?c2 ?c3 ?c4 ?c5 ?c6 ?c7)
  case c1 => simp [cells64, HN.out]
  case c2 =>
    intro j u hu
    obtain ⟨hj, rfl⟩ := cells64_get hu
    obtain ⟨a', ha, hc, _⟩ := HX.out j (by rw [HN.out]; exact hj)
    injection ha with ha
    subst ha
    exact (World.cell?_alloc_lt _ _ _ (World.block_lt_of_cell? _ _ hc)).trans hc
  case c3 => exact cells64_one b
  case c4 => unfold maxLen; omega
  case c5 => omega
  case c7 =>
    intro v' w1 hown' hgrow _
    have HE : Hid (∃ g c, v' = .slice (some ⟨g, 0, none⟩) n c ∧ w.heap.size ≤ g ∧ g < w1.heap.size ∧ Rw w1 g b) := Lib.hid (own64 (by simpa using hown') HN.out h1)
    have HF : Hid (Fr No w w1) := Lib.hid ((((Fr.refl (· = w.heap.size) w).alloc _).trans (Fr.of_grown hgrow fun k hk => by simpa [Value.ownBlock] using hk.symm)).mono fun k hk e => by omega)
    obtain ⟨g, c, rfl, h3⟩ := HE.out
    have H3 := Lib.hid h3
    clear hown' hgrow HE h3
    go_wp2
    go_ret
    exact ⟨g, c, rfl, H3.out.1, H3.out.2.1, H3.out.2.2, HF.out⟩

/-- A purse that is made, or none. -/
def NewP (l : List Nat) (w : World) (e : Ending) (w' : World) : Prop :=
  if Ps.newOk l then ∃ p g m cap, e = .returned (.pointer (some ⟨p, 0, none⟩)) ∧ Btw w.heap.size w'.heap.size p ∧ Btw w.heap.size w'.heap.size g ∧ Btw w.heap.size w'.heap.size m ∧ PuAt p g m cap (Ps.newS l) w' ∧ Fr No w w'
  else e = .returned (.pointer none) ∧ Fr No w w'

set_option maxHeartbeats 2000000 in
theorem new_any (ao : Option Addr) (n cap : Nat) (b : List Nat) (w : World) (hn : n = b.length) (hm : n ≤ maxLen) (hx : Nums w ao n (fun i => b.getD i 0)) : Calls Try.prog 22 #[.slice ao n cap] w fun e w' => NewP b w e w' := by
  unfold maxLen at hm
  by_cases h0 : n = 0
  · subst h0
    have e1 : Ps.newOk b = false := by unfold Ps.newOk; rw [decide_eq_false]; omega
    have HE : Hid (∀ w', Fr No w w' → NewP b w (.returned (.pointer none)) w') := Lib.hid (fun w' h => by unfold NewP; rw [e1]; exact ⟨rfl, h⟩)
    clear hn hx e1 hm
    go_enter Try.func22, Try.ntmps22
    go_wp2
    go_ret
    exact HE.out _ (Fr.refl _ _)
  · have t0 : ((n : Int) == 0) = false := by rw [beq_eq_false_iff_ne]; omega
    by_cases h1 : 32 < n
    · have t1 : decide ((32 : Int) < (n : Int)) = true := decide_eq_true (by omega)
      have e1 : Ps.newOk b = false := by unfold Ps.newOk; rw [decide_eq_false]; omega
      have HE : Hid (∀ w', Fr No w w' → NewP b w (.returned (.pointer none)) w') := Lib.hid (fun w' h => by unfold NewP; rw [e1]; exact ⟨rfl, h⟩)
      clear hn hx e1 hm h0 h1
      go_enter Try.func22, Try.ntmps22
      go_wp2
      go_ret
      exact HE.out _ (Fr.refl _ _)
    · have t1 : decide ((32 : Int) < (n : Int)) = false := decide_eq_false (by omega)
      obtain ⟨S, hS⟩ : ∃ S, S = sumN (fun i => b.getD i 0) n := ⟨_, rfl⟩
      have HC := Lib.hid (add_any ao n cap (fun i => b.getD i 0) w (by unfold maxLen; omega) hx)
      rw [← hS] at HC
      by_cases h2 : S ≤ 1125899906842624
      · rw [addV_le h2, addE_le h2] at HC
        have e1 : Ps.newOk b = true := by unfold Ps.newOk; rw [decide_eq_true]; exact ⟨by omega, by omega, by rw [← hn, ← hS]; exact h2⟩
        have HE : Hid (∀ e w', (∃ p g m cap, e = .returned (.pointer (some ⟨p, 0, none⟩)) ∧ Btw w.heap.size w'.heap.size p ∧ Btw w.heap.size w'.heap.size g ∧ Btw w.heap.size w'.heap.size m ∧ PuAt p g m cap (Ps.newS b) w' ∧ Fr No w w') → NewP b w e w') := Lib.hid (fun e w' h => by unfold NewP; rw [e1]; exact h)
        have HD := Lib.hid (fun X (hX : Nums X ao n (fun i => b.getD i 0)) => clone64_any ao n cap b X hn (by omega) (by omega) hX)
        have HX := Lib.hid hx
        have HN := Lib.hid hn
        clear hn hx e1 hm h0 h1 hS h2
        go_enter Try.func22, Try.ntmps22
        go_wp2_with fail
        refine HC.out.mono ?_
        rintro e w1 ⟨rfl, hF1⟩
        have HF1 := Lib.hid hF1
        clear hF1
        go_wp2_with fail
        refine (HD.out _ (HX.out.fr HF1.out (fun _ _ => id))).mono ?_
        rintro e w2 ⟨g, c, rfl, h1, h2, h3, hF2⟩
        have HG := Lib.hid h1
        have HG2 := Lib.hid h2
        have HRw := Lib.hid h3
        have HF2 := Lib.hid (HF1.out.trans hF2)
        clear h1 h2 h3 hF2
        have hmm := @run_makeMap Try.prog
        go_wp2
        go_ret
        have hs1 : w1.heap.size ≤ w2.heap.size := by have := HG.out; have := HG2.out; omega
        have hs : w.heap.size ≤ w1.heap.size := HF1.out.size
        have hb := Blk.new (w2.alloc (.map #[] 0)) 99 [.slice (some ⟨g, 0, none⟩) n c, .map (some w2.heap.size)]
        have hF : Fr No w2 ((w2.alloc (.map #[] 0)).alloc (.cells #[.slice (some ⟨g, 0, none⟩) n c, .map (some w2.heap.size)] 99)) := ((Fr.refl No w2).alloc _).alloc _
        refine HE.out _ _ ⟨w2.heap.size + 1, g, w2.heap.size, c, rfl, ⟨by omega, by simp⟩, ⟨by have := HG.out; omega, by have := HG2.out; simp; omega⟩, ⟨by omega, by simp; omega⟩, ⟨by have := HG2.out; omega, by omega, by have := HG2.out; omega, ?_, HRw.out.fr hF id, ?_⟩, HF2.out.trans hF⟩
        · rw [World.size_alloc] at hb
          rw [show (Ps.newS b).b.length = n from HN.out.symm]
          exact hb
        · exact (PM.new w2 (Ps.newS b).hold (fun i _ => by rw [Ps.new_hold])).fr ((Fr.refl No _).alloc _) id
      · rw [addV_gt (by omega), addE_gt (by omega)] at HC
        have e1 : Ps.newOk b = false := by unfold Ps.newOk; rw [decide_eq_false]; intro h; rw [← hn, ← hS] at h; omega
        have HE : Hid (∀ w', Fr No w w' → NewP b w (.returned (.pointer none)) w') := Lib.hid (fun w' h => by unfold NewP; rw [e1]; exact ⟨rfl, h⟩)
        clear hn hx e1 hm h0 h1 hS h2
        go_enter Try.func22, Try.ntmps22
        go_wp2_with fail
        refine HC.out.mono ?_
        rintro e w1 ⟨rfl, hF1⟩
        have HF1 := Lib.hid hF1
        clear hF1
        go_wp2
        go_ret
        exact HE.out _ HF1.out
end Go.Proofs.Ytldcglmpnildiaa
