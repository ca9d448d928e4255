/- The document's purse: New, Total. -/
import Derived.Test.YtldcglmpnildiaaPuF
import Derived.Test.YtldcglmpnildiaaWpO
import Derived.Deep.RegionHeld
namespace Go.Proofs.Ytldcglmpnildiaa
open Go.RowKit
set_option linter.unusedVariables false
set_option maxRecDepth 100000

theorem zero_rp (w : World) : (zeroValue 32).run Try.prog w = .ok (.agg zeroP.toArray) w := by kernel_rfl

/-- What New answers. -/
def DNew (l : List Nat) (w : World) (e : Ending) (w' : World) : Prop :=
  if Ps.newOk l then ∃ r c, e = .returned (.tuple #[vP (some ⟨r, 0, none⟩) l.length c (Ps.newS l).h, .bool true]) ∧ w.heap.size ≤ r ∧ r < w'.heap.size ∧ DAt (some ⟨r, 0, none⟩) c (Ps.newS l) w' ∧ Fr No w w'
  else e = .returned (.tuple #[vP none 0 0 (List.replicate 32 (0, 0)), .bool false]) ∧ Fr No w w'

set_option maxHeartbeats 8000000 in
theorem rnew_any (ao : Option Addr) (n cap : Nat) (b : List Nat) (w : World) (hn : n = b.length) (hm : n ≤ 1000) (hx : Nums w ao n (fun i => b.getD i 0)) : Calls Try.prog 21 #[.slice ao n cap] w fun e w' => DNew b w e w' := by
  obtain ⟨i0, hi, hz0, hz1, hz2⟩ := info_parts Try.infoU64
  obtain ⟨S, hS⟩ : ∃ S, S = sumN (fun i => b.getD i 0) n := ⟨_, rfl⟩
  have HAD := Lib.hid (fun X (hX : Nums X ao n (fun i => b.getD i 0)) => radd_any ao n cap (fun i => b.getD i 0) X (by unfold maxLen; omega) hX)
  rw [← hS] at HAD
  obtain ⟨E, hE⟩ : ∃ E, E = addE S := ⟨_, rfl⟩
  obtain ⟨A, hA⟩ : ∃ A, A = addV S := ⟨_, rfl⟩
  rw [← hE, ← hA] at HAD
  have HX := Lib.hid hx
  have HN := Lib.hid hn
  obtain ⟨c, hc⟩ : ∃ c, c = w.heap.size := ⟨_, rfl⟩
  have HAL : Hid ((Instr.alloc 32 true (.tuple #[])).run Try.prog w = .ok (.pointer (some ⟨c, 0, none⟩)) (w.alloc (.cells zeroP.toArray 32))) := Lib.hid (by rw [hc]; exact alloc_rp w)
  have HC := Lib.hid hc
  have HB0 : Hid (Fr No w (w.alloc (.cells zeroP.toArray 32)) ∧ Blk (w.alloc (.cells zeroP.toArray 32)) c 32 zeroP) := Lib.hid ⟨(Fr.refl _ _).alloc _, by rw [hc]; exact Blk.new w _ _⟩
  have bad : Ps.newOk b = false → ∀ w', Fr No w w' → DNew b w (.returned (.tuple #[vP none 0 0 (List.replicate 32 (0, 0)), .bool false])) w' := fun h w' hF => by
    unfold DNew
    rw [h]
    exact ⟨rfl, hF⟩
  have good : Ps.newOk b = true → ∀ w' r c, w.heap.size ≤ r → r < w'.heap.size → DAt (some ⟨r, 0, none⟩) c (Ps.newS b) w' → Fr No w w' → DNew b w (.returned (.tuple #[vP (some ⟨r, 0, none⟩) b.length c (Ps.newS b).h, .bool true])) w' := fun h w' r c h1 h2 h3 h4 => by
    unfold DNew
    rw [h]
    exact ⟨r, c, rfl, h1, h2, h3, h4⟩
  clear hx hc hA
  by_cases h1 : n < 1
  · have t1 : decide ((n : Int) < 1) = true := decide_eq_true (by omega)
    have t1' : (n : Int) < 1 := by omega
    have HBAD := Lib.hid (bad (by unfold Ps.newOk; rw [decide_eq_false]; omega))
    clear bad good h1 hn hm hS hE
    have hzv := fun X => zero_rp X
    go_enter Try.func21, Try.ntmps21
    go_wp2_with (refine wpList_execG (.pointer (some ⟨c, 0, none⟩)) (exec_alloc 32 rfl _ HAL.out) rfl ?_
                 refine wpList_world (fun W => Fr No w W ∧ Blk W c 32 zeroP) HB0.out ?_
                 rintro X ⟨hF, hB⟩
                 have HF := Lib.hid hF
                 have HB := Lib.hid hB
                 clear hF hB)
    refine (HAD.out _ (HX.out.fr HF.out (fun _ _ => id))).mono ?_
    rintro e X1 ⟨rfl, hF1⟩
    have HF := Lib.hid (HF.out.trans hF1)
    have HB := Lib.hid (HB.out.fr hF1 id)
    clear hF1
    obtain ⟨Y, hY, hB, hF⟩ := store_rp HB.out (L := zeroP) (cellsP_len rfl) (cellsP_len rfl) cellsP_one
    have HY := Lib.hid hY
    have HV := Lib.hid (var_rp hB (cellsP_len rfl))
    have HFY : Hid (Fr No w Y) := Lib.hid (HF.out.trans' hF (fun i hi e => by have := HC.out; omega))
    clear hY hB hF
    go_wp2_with (first
      | (refine wpList_store_eq rfl 32 _ _ rfl (.pointer (some ⟨c, 0, none⟩)) (.agg zeroP.toArray) rfl rfl HY.out ?_))
    refine bodyPost_ret (results_cellT rfl rfl rfl HV.out) rfl ?_
    exact HBAD.out _ HFY.out
  · have t1 : decide ((n : Int) < 1) = false := decide_eq_false (by omega)
    have t1' : ¬ (n : Int) < 1 := by omega
    by_cases h2 : 32 < n
    · have t2 : decide ((32 : Int) < (n : Int)) = true := decide_eq_true (by omega)
      have HBAD := Lib.hid (bad (by unfold Ps.newOk; rw [decide_eq_false]; omega))
      clear bad good h1 h2 hn hm hS hE
      have hzv := fun X => zero_rp X
      go_enter Try.func21, Try.ntmps21
      go_wp2_with (refine wpList_execG (.pointer (some ⟨c, 0, none⟩)) (exec_alloc 32 rfl _ HAL.out) rfl ?_
                   refine wpList_world (fun W => Fr No w W ∧ Blk W c 32 zeroP) HB0.out ?_
                   rintro X ⟨hF, hB⟩
                   have HF := Lib.hid hF
                   have HB := Lib.hid hB
                   clear hF hB)
      refine (HAD.out _ (HX.out.fr HF.out (fun _ _ => id))).mono ?_
      rintro e X1 ⟨rfl, hF1⟩
      have HF := Lib.hid (HF.out.trans hF1)
      have HB := Lib.hid (HB.out.fr hF1 id)
      clear hF1
      obtain ⟨Y, hY, hB, hF⟩ := store_rp HB.out (L := zeroP) (cellsP_len rfl) (cellsP_len rfl) cellsP_one
      have HY := Lib.hid hY
      have HV := Lib.hid (var_rp hB (cellsP_len rfl))
      have HFY : Hid (Fr No w Y) := Lib.hid (HF.out.trans' hF (fun i hi e => by have := HC.out; omega))
      clear hY hB hF
      go_wp2_with (first
        | (refine wpList_store_eq rfl 32 _ _ rfl (.pointer (some ⟨c, 0, none⟩)) (.agg zeroP.toArray) rfl rfl HY.out ?_))
      refine bodyPost_ret (results_cellT rfl rfl rfl HV.out) rfl ?_
      exact HBAD.out _ HFY.out
    · have t2 : decide ((32 : Int) < (n : Int)) = false := decide_eq_false (by omega)
      by_cases h3 : S ≤ 1125899906842624
      · obtain rfl : E = 0 := by rw [hE, addE_le h3]
        have HG := Lib.hid (good (by unfold Ps.newOk; rw [decide_eq_true]; exact ⟨by omega, by omega, by rw [← hn, ← hS]; exact h3⟩))
        have HN32 : Hid (1 ≤ n ∧ n ≤ 32) := Lib.hid ⟨by omega, by omega⟩
        obtain ⟨a, rfl, _, _⟩ := HX.out 0 (by omega)
        clear bad good h1 h2 h3 hn hm hS hE
        have hzv := fun X => zero_rp X
        go_enter Try.func21, Try.ntmps21
        go_wp2_with (refine wpList_execG (.pointer (some ⟨c, 0, none⟩)) (exec_alloc 32 rfl _ HAL.out) rfl ?_
                     refine wpList_world (fun W => Fr No w W ∧ Blk W c 32 zeroP) HB0.out ?_
                     rintro X ⟨hF, hB⟩
                     have HF := Lib.hid hF
                     have HB := Lib.hid hB
                     clear hF hB)
        refine (HAD.out _ (HX.out.fr HF.out (fun _ _ => id))).mono ?_
        rintro e X1 ⟨rfl, hF1⟩
        have HF := Lib.hid (HF.out.trans hF1)
        have HB := Lib.hid (HB.out.fr hF1 id)
        clear hF1
        go_wp2_with (at_builtin; refine wpList_append_own _ rfl _ _ 22 rfl X1.heap.size 27 i0 (.int .u64 0) 1 8 Try.underlying22 hi hz0 hz1 hz2 rfl (by decide) _ _ _ rfl (World.ownsRow_made X1 #[] 0 (Nat.le_refl _) (Nat.zero_le _) rfl) a n cap (cells64 b) rfl ?c1 ?c2 ?c3 ?c4 ?c5 ?c6 ?c7)
        case c1 => simp [cells64, HN.out]
        case c2 =>
          intro j u hu
          obtain ⟨hj, rfl⟩ := cells64_get hu
          obtain ⟨a', ha, hc, _⟩ := HX.out j (by rw [HN.out]; exact hj)
          injection ha with ha
          subst ha
          have hc2 := HF.out.cellA id hc
          exact (World.cell?_alloc_lt _ _ _ (World.block_lt_of_cell? _ _ hc2)).trans hc2
        case c3 => exact cells64_one b
        case c4 => have := HN32.out; unfold maxLen; omega
        case c5 => have := HN32.out; omega
        case c6 => simp
        case c7 =>
          intro v' w1 hown' hgrow _
          have HE : Hid (∃ g c, v' = .slice (some ⟨g, 0, none⟩) n c ∧ X1.heap.size ≤ g ∧ g < w1.heap.size ∧ Rw w1 g b) := Lib.hid (own64 (by simpa using hown') HN.out HN32.out.1)
          have hF1 : Fr No X1 w1 := ((((Fr.refl (· = X1.heap.size) X1).alloc _).trans (Fr.of_grown hgrow fun k hk => by simpa [Value.ownBlock] using hk.symm)).mono fun k hk e => by omega)
          obtain ⟨r, c', rfl, h3⟩ := HE.out
          have H3 : Hid (w.heap.size ≤ r ∧ r < w1.heap.size ∧ Rw w1 r b ∧ c < r) := Lib.hid ⟨by have := HF.out.size; omega, h3.2.1, h3.2.2, by have := HB.out.lt; omega⟩
          have hB1 := HB.out.fr hF1 id
          obtain ⟨N, hN⟩ : ∃ N, N = cellsP (some ⟨r, 0, none⟩) n c' (List.replicate 32 (0, 0)) := ⟨_, rfl⟩
          have hN65 : N.length = 65 := by rw [hN]; exact cellsP_len rfl
          obtain ⟨Y, hY, hB, hFY⟩ := store_rp hB1 (cellsP_len rfl) hN65 (by rw [hN]; exact cellsP_one)
          have HY := Lib.hid hY
          have HV := Lib.hid (var_rp hB hN65)
          have HFY : Hid (Fr No w Y) := Lib.hid ((HF.out.trans hF1).trans' hFY (fun i hi e => by have := HC.out; omega))
          have HR : Hid (r < Y.heap.size ∧ DAt (some ⟨r, 0, none⟩) c' (Ps.newS b) Y) := Lib.hid ⟨by have := H3.out.2.1; have := hFY.size; omega, ⟨fun i hi => ⟨r, rfl, hFY.cell (fun e => by have := H3.out.2.2.2; omega) (H3.out.2.2.1 i hi).1⟩⟩⟩
          have HY2 : Hid ((Instr.storeAt 32 (.pointer (some ⟨c, 0, none⟩)) (.agg (zeroP.set 0 (.slice (some ⟨r, 0, none⟩) n c')).toArray)).run Try.prog w1 = .ok () Y) := Lib.hid (by rw [hN] at hY; exact hY)
          have hz65 : 0 < zeroP.length := by decide
          have HN2 := Lib.hid hN
          clear hown' hgrow HE h3 hF1 hB1 hN hN65 hY hB hFY
          go_wp2_with (first
            | (refine wpList_store_eq rfl 32 _ _ rfl (.pointer (some ⟨c, 0, none⟩)) (.agg (zeroP.set 0 (.slice (some ⟨r, 0, none⟩) n c')).toArray) rfl rfl HY2.out ?_))
          refine bodyPost_ret (results_cellT rfl rfl rfl HV.out) rfl ?_
          have := HG.out Y r c' H3.out.1 HR.out.1 HR.out.2 HFY.out
          rw [← HN.out, show (Ps.newS b).h = List.replicate 32 (0, 0) from rfl] at this
          rw [HN2.out]
          exact this
      · obtain rfl : E = 60 := by rw [hE, addE_gt (by omega)]
        have HBAD := Lib.hid (bad (by unfold Ps.newOk; rw [decide_eq_false]; intro h; rw [← hn, ← hS] at h; omega))
        clear bad good h1 h2 h3 hn hm hS hE
        have hzv := fun X => zero_rp X
        go_enter Try.func21, Try.ntmps21
        go_wp2_with (refine wpList_execG (.pointer (some ⟨c, 0, none⟩)) (exec_alloc 32 rfl _ HAL.out) rfl ?_
                     refine wpList_world (fun W => Fr No w W ∧ Blk W c 32 zeroP) HB0.out ?_
                     rintro X ⟨hF, hB⟩
                     have HF := Lib.hid hF
                     have HB := Lib.hid hB
                     clear hF hB)
        refine (HAD.out _ (HX.out.fr HF.out (fun _ _ => id))).mono ?_
        rintro e X1 ⟨rfl, hF1⟩
        have HF := Lib.hid (HF.out.trans hF1)
        have HB := Lib.hid (HB.out.fr hF1 id)
        clear hF1
        obtain ⟨Y, hY, hB, hF⟩ := store_rp HB.out (L := zeroP) (cellsP_len rfl) (cellsP_len rfl) cellsP_one
        have HY := Lib.hid hY
        have HV := Lib.hid (var_rp hB (cellsP_len rfl))
        have HFY : Hid (Fr No w Y) := Lib.hid (HF.out.trans' hF (fun i hi e => by have := HC.out; omega))
        clear hY hB hF
        go_wp2_with (first
          | (refine wpList_store_eq rfl 32 _ _ rfl (.pointer (some ⟨c, 0, none⟩)) (.agg zeroP.toArray) rfl rfl HY.out ?_))
        refine bodyPost_ret (results_cellT rfl rfl rfl HV.out) rfl ?_
        exact HBAD.out _ HFY.out
end Go.Proofs.Ytldcglmpnildiaa
