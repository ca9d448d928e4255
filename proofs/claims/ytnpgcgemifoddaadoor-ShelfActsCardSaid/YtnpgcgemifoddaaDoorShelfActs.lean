/- The walk of 'ShelfActs'. -/
import Derived.Test.YtnpgcgemifoddaaDoorShW
namespace Go.Proofs.YtnpgcgemifoddaaDoor
open Go.RowKit
set_option linter.unusedVariables false

set_option maxHeartbeats 1000000 in
set_option maxRecDepth 100000 in
theorem acts_big1 (lo : Option Addr) (n cap : Nat) (v : Option Addr) (m capm : Nat) (w : World) (hn : 60 < n) (hm : n ≤ maxLen) (hg : Gl w) :
    Calls Tryd.prog 3 #[.slice lo n cap, .slice v m capm] w fun e w' => e = .returned (.bool true) ∧ Fr No w w' := by
  unfold maxLen at hm
  have h1 : (60 : Int) < n := by omega
  have HG := Lib.hid hg
  clear hg
  go_enter Tryd.func3, Tryd.ntmps3
  go_wp2_with fail
  refine (shown5_any _ HG.out).mono ?_
  rintro e w1 ⟨rfl, hF⟩
  have HF := Lib.hid hF
  clear hF
  go_wp2
  go_ret
  exact ⟨rfl, HF.out⟩

set_option maxHeartbeats 1000000 in
set_option maxRecDepth 100000 in
theorem acts_big2 (lo : Option Addr) (n cap : Nat) (v : Option Addr) (m capm : Nat) (w : World) (hn : n ≤ 60) (hm0 : 60 < m) (hm : m ≤ maxLen) (hg : Gl w) :
    Calls Tryd.prog 3 #[.slice lo n cap, .slice v m capm] w fun e w' => e = .returned (.bool true) ∧ Fr No w w' := by
  unfold maxLen at hm
  have h1 : ¬ (60 : Int) < n := by omega
  have h2 : (60 : Int) < m := by omega
  have HG := Lib.hid hg
  clear hg
  go_enter Tryd.func3, Tryd.ntmps3
  go_wp2_with fail
  refine (shown5_any _ HG.out).mono ?_
  rintro e w1 ⟨rfl, hF⟩
  have HF := Lib.hid hF
  clear hF
  go_wp2
  go_ret
  exact ⟨rfl, HF.out⟩

set_option maxHeartbeats 8000000 in
set_option maxRecDepth 100000 in
theorem acts_ok (lo : Option Addr) (n cap : Nat) (ao : Option Addr) (m capm : Nat) (w : World) (hn : n ≤ 60) (hm : m ≤ 60)
    (hel : ∀ i, i < n → ∃ a, lo = some a ∧ ∃ t : Tol, TolAt w (a.add (i * 34)) t) (hea : ∀ i, i < m → ∃ a, ao = some a ∧ ∃ y : Int, w.cell? (a.add i) = some (.int .i64 y)) (hg : Gl w) :
    Calls Tryd.prog 3 #[.slice lo n cap, .slice ao m capm] w fun e w' => e = .returned (.bool true) ∧ Fr No w w' := by
  have h1 : ¬ (60 : Int) < n := by omega
  have h2 : ¬ (60 : Int) < m := by omega
  have HG := Lib.hid hg
  have HE := Lib.hid hel
  have HA := Lib.hid hea
  have HN := Lib.hid hn
  have HM := Lib.hid hm
  clear hg hel hea hn hm
  go_enter Tryd.func3, Tryd.ntmps3
  go_wp2_with fail
  refine (shown5_any _ HG.out).mono ?_
  rintro e w1 ⟨rfl, hF⟩
  have HF := Lib.hid hF
  clear hF
  have hP : S2 w w1.heap.size (w1.heap.size + 1) zeroL zeroL ((w1.alloc (.cells (flat zeroL).toArray 32)).alloc (.cells (flat zeroL).toArray 37)) := by
    have h3 := Blk.new (w1.alloc (.cells (flat zeroL).toArray 32)) 37 (flat zeroL)
    rw [World.size_alloc] at h3
    exact ⟨(HF.out.alloc _).alloc _, HF.out.size, Nat.le_succ_of_le HF.out.size, by omega, (Blk.new w1 32 (flat zeroL)).alloc _, h3⟩
  have HAL : Hid ((Instr.alloc 37 true (.tuple #[])).run Tryd.prog (w1.alloc (.cells (flat zeroL).toArray 32)) = .ok (.pointer (some ⟨w1.heap.size + 1, 0, none⟩)) ((w1.alloc (.cells (flat zeroL).toArray 32)).alloc (.cells (flat zeroL).toArray 37))) := Lib.hid (by
    have := alloc_rshelf (w1.alloc (.cells (flat zeroL).toArray 32))
    rwa [World.size_alloc] at this)
  obtain ⟨Y, hY, hYB, hYF⟩ := flat_stored hP.ref (by simp [zeroL]) zeroL (by simp [zeroL])
  have HY := Lib.hid hY
  have HP := Lib.hid (hP.putr hYF hYB)
  clear hY hYB hYF hP
  go_wp2_with (first
    | (refine wpList_execG (.agg (flat zeroL).toArray) (exec_shelf rfl) rfl ?_)
    | (refine wpList_execG (.agg (flat zeroL).toArray) (exec_build 37 _ rfl #[] (by simp) _ (build_rshelf _)) rfl ?_)
    | (refine wpList_execG (.pointer (some ⟨w1.heap.size + 1, 0, none⟩)) (exec_alloc 37 rfl _ HAL.out) rfl ?_)
    | (refine wpList_store_eq rfl 37 _ _ rfl (.pointer (some ⟨w1.heap.size + 1, 0, none⟩)) (.agg (flat zeroL).toArray) rfl rfl HY.out ?_))
  obtain ⟨b, hb⟩ : ∃ b, b = w1.heap.size := ⟨_, rfl⟩
  rw [← hb] at HP ⊢
  clear HY HAL
  obtain ⟨rb, hrb⟩ : ∃ rb, rb = b + 1 := ⟨_, rfl⟩
  rw [← hrb] at HP ⊢
  clear hb hrb HF
  go_loopw [7] (fun c wr => ∃ (k : Nat) (L : List Ent), c = .int .i64 (k : Int) ∧ k ≤ n ∧ L.length = 17 ∧ S2 w b rb L L wr) (fun c _ => n - (intOf c).toNat)
  case atStart => exact ⟨0, zeroL, rfl, by omega, by simp [zeroL], HP.out⟩
  case round =>
    obtain ⟨k, L, rfl, hk, hL, hS⟩ := hrel
    have S0 := Lib.hid hS
    have HL := Lib.hid hL
    clear hS hL
    by_cases hlt : k < n
    · have h3 : (k : Int) < (n : Int) := by omega
      obtain ⟨a, rfl, t, hta⟩ := HE.out k hlt
      obtain ⟨q, hq⟩ : ∃ q, q = a.add (k * 34) := ⟨_, rfl⟩
      rw [← hq] at hta
      have hq' : a.add (k * 34) = q := hq.symm
      have e7 : IntKind.i64.wrap ((k : Int) + 1) = ((k + 1 : Nat) : Int) := IntWalk.i64_in _ (by have := HN.out; omega)
      have HTA := Lib.hid hta
      have HQB : Hid (q.block ≠ b) := Lib.hid (by have := hta.lt; have := S0.out.new; omega)
      obtain ⟨D, hD⟩ : ∃ D, D = t.sec := ⟨_, rfl⟩
      have hDh : H32 D := by rw [hD]; exact t.sec_h
      obtain ⟨L1, hL1⟩ : ∃ L1, L1 = insL L t.i D hDh := ⟨_, rfl⟩
      obtain ⟨er, her⟩ : ∃ er, er = insE L t.i D := ⟨_, rfl⟩
      have HL1 : Hid (L1.length = 17) := Lib.hid (by rw [hL1, insL_len]; exact HL.out)
      obtain ⟨ti, hti⟩ : ∃ ti, ti = t.i := ⟨_, rfl⟩
      have HOF : Hid (∀ X, Calls Tryd.prog 10 #[.agg t.cells.toArray] X fun ex w' => ex = .returned (.agg (arr .u8 D)) ∧ Fr No X w') := Lib.hid (fun X => by rw [hD]; exact of5_any t X)
      have HRI : Hid (∀ X, Calls Tryd.prog 9 #[.agg (flat L).toArray, .int .i64 ti, .agg (arr .u8 D)] X fun ex w' => ex = .returned (.tuple #[.agg (flat L1).toArray, .int .i64 er]) ∧ Fr No X w') := Lib.hid (fun X => by rw [hL1, her, hti]; exact rinsert_any L t.i D X hDh HL.out)
      have HPI : Hid (∀ X R, S2 w b rb L R X → Calls Tryd.prog 12 #[.pointer (some ⟨b, 0, none⟩), .int .i64 ti, .agg (arr .u8 D)] X fun ex w' => ex = .returned (.int .i64 er) ∧ Fr (· = b) X w' ∧ Blk w' b 32 (flat L1)) := Lib.hid (fun X R s => by
        rw [hL1, her, hti]
        exact insert_any b L t.i D X hDh s.blk HL.out (HG.out.fr s.fr (fun _ _ => id)))
      have HLT : Hid (∀ X S, Fr S w X → ¬ S q.block → (Instr.loadAt 42 (.pointer (some q))).run Tryd.prog X = .ok (.agg t.cells.toArray) X) := Lib.hid (fun X S hX hn => (hta.fr hX hn).load)
      have HLI : Hid (∀ X S, Fr S w X → ¬ S q.block → (Instr.loadAt 3 (.pointer (some q))).run Tryd.prog X = .ok (.int .i64 ti) X) := Lib.hid (fun X S hX hn => by rw [hti]; exact (hta.fr hX hn).num)
      have HLE0 : Hid (∀ X R, S2 w b rb L R X → Calls Tryd.prog 11 #[.pointer (some ⟨b, 0, none⟩)] X fun ex w' => ex = .returned (.tuple #[.int .i64 (leastI (leastN L)), .bool (leastB (leastN L))]) ∧ Fr No X w') := Lib.hid (fun X R s => least_any b L X s.blk HL.out)
      have hli0 : 0 ≤ leastI (leastN L) := by unfold leastI; split <;> omega
      obtain ⟨li, hlie⟩ : ∃ li, li = leastI (leastN L) := ⟨_, rfl⟩
      obtain ⟨lb, hlbe⟩ : ∃ lb, lb = leastB (leastN L) := ⟨_, rfl⟩
      rw [← hlie] at HLE0 hli0
      rw [← hlbe] at HLE0
      have hlin : ¬ li < 0 := by omega
      have HLS : Hid (∀ X, (binOp .lss 3 (.int .i64 li) (.int .i64 0)).run Tryd.prog X = .ok (.bool false) X) := Lib.hid (fun X => by simp [go_sem, hlin])
      have HNEE : Hid (∀ X, (binOp .neq 38 (.int .i64 er) (.int .i64 er)).run Tryd.prog X = .ok (.bool false) X) := Lib.hid (fun X => by simp [go_sem])
      have HLE1 : Hid (∀ X R, S2 w b rb L1 R X → Calls Tryd.prog 11 #[.pointer (some ⟨b, 0, none⟩)] X fun ex w' => ex = .returned (.tuple #[.int .i64 (leastI (leastN L1)), .bool (leastB (leastN L1))]) ∧ Fr No X w') := Lib.hid (fun X R s => least_any b L1 X s.blk HL1.out)
      have HRL1 : Hid (∀ X, Calls Tryd.prog 15 #[.agg (flat L1).toArray] X fun ex w' => ex = .returned (.tuple #[.int .i64 (leastI (leastN L1)), .bool (leastB (leastN L1))]) ∧ Fr No X w') := Lib.hid (fun X => rleast_any L1 X HL1.out)
      obtain ⟨li1, hlie1⟩ : ∃ li, li = leastI (leastN L1) := ⟨_, rfl⟩
      obtain ⟨lb1, hlbe1⟩ : ∃ lb, lb = leastB (leastN L1) := ⟨_, rfl⟩
      rw [← hlie1, ← hlbe1] at HLE1 HRL1
      have HKN : Hid (∀ X R, S2 w b rb L1 R X → Calls Tryd.prog 13 #[.pointer (some ⟨b, 0, none⟩)] X fun ex w' => ex = .returned (.int .i64 (lenN L1 : Int)) ∧ Fr No X w') := Lib.hid (fun X R s => len_any b L1 X s.blk HL1.out)
      have HRN : Hid (∀ X, Calls Tryd.prog 14 #[.agg (flat L1).toArray] X fun ex w' => ex = .returned (.int .i64 (lenN L1 : Int)) ∧ Fr No X w') := Lib.hid (fun X => rlen_any L1 X HL1.out)
      obtain ⟨N, hN⟩ : ∃ N, N = lenN L1 := ⟨_, rfl⟩
      rw [← hN] at HKN HRN
      have HNN : Hid (∀ X, (binOp .neq 3 (.int .i64 (N : Int)) (.int .i64 (N : Int))).run Tryd.prog X = .ok (.bool false) X) := Lib.hid (fun X => by simp [go_sem])
      have HRS : Hid (∀ X, Fr No wr X → (Instr.loadAt 37 (.pointer (some ⟨rb, 0, none⟩))).run Tryd.prog X = .ok (.agg (flat L).toArray) X) := Lib.hid (fun X hX => flat_load (S0.out.on hX).ref HL.out)
      have HX : Hid (n - (k + 1) < n - k) := Lib.hid (by omega)
      have HK2 : Hid (k + 1 ≤ n) := Lib.hid (by omega)
      clear hq hta hD hL1 her hti hlie hlbe hlie1 hlbe1 hN hli0 hlt
      go_wp2_with fail
      apply wp_region_join (fun g X => Fr No wr X ∧ Blk X g 37 (flat L1) ∧ wr.heap.size ≤ g)
      · refine wp_region_held_drew (S := (fun X => Fr No wr X)) (by kernel_rfl) ((Fr.refl _ wr).drew) (fun hHeld => ?_)
        refine takeD (i := 0) (d := some 42) (v := .agg (flat L).toArray) rfl (by kernel_rfl) (by kernel_rfl) (by kernel_rfl) (by kernel_rfl) (fun _ _ _ h => h) (Or.inl ⟨by kernel_rfl, fun X hX => Or.inl (exec_load 37 (.tmp 6) rfl _ _ rfl (HRS.out X hX))⟩) (by assumption) ?_
        (try simp only [Act.put]); (try simp only [List.setIfInBounds_toArray]); (try simp only [List.set_cons_succ]); (try simp only [List.set_cons_zero])
        refine takeD (i := 1) (d := some 43) (v := ?_) rfl (by kernel_rfl) (by kernel_rfl) (by kernel_rfl) (by kernel_rfl) (fun _ _ _ h => h) (Or.inl ⟨by kernel_rfl, fun X hX => Or.inl ?_⟩) (by assumption) ?_
        rotate_left
        · first | (go_simp; done) | (go_simp; with_reducible rfl)
        (try simp only [Act.put]); (try simp only [List.setIfInBounds_toArray]); (try simp only [List.set_cons_succ]); (try simp only [List.set_cons_zero])
        refine takeD (i := 2) (d := some 44) (v := ?_) rfl (by kernel_rfl) (by kernel_rfl) (by kernel_rfl) (by kernel_rfl) (fun _ _ _ h => h) (Or.inl ⟨by kernel_rfl, fun X hX => Or.inl ?_⟩) (by assumption) ?_
        rotate_left
        · first | (go_simp; done) | (go_simp; with_reducible rfl)
        (try simp only [Act.put]); (try simp only [List.setIfInBounds_toArray]); (try simp only [List.set_cons_succ]); (try simp only [List.set_cons_zero])
        refine takeD (i := 3) (d := some 45) (v := ?_) rfl (by kernel_rfl) (by kernel_rfl) (by kernel_rfl) (by kernel_rfl) (fun _ _ _ h => h) (Or.inl ⟨by kernel_rfl, fun X hX => Or.inl ?_⟩) (by assumption) ?_
        rotate_left
        · first | (go_simp; done) | (go_simp; with_reducible rfl)
        (try simp only [Act.put]); (try simp only [List.setIfInBounds_toArray]); (try simp only [List.set_cons_succ]); (try simp only [List.set_cons_zero])
        refine takeD (i := 4) (d := some 46) (v := ?_) rfl (by kernel_rfl) (by kernel_rfl) (by kernel_rfl) (by kernel_rfl) (fun _ _ _ h => h) (Or.inl ⟨by kernel_rfl, fun X hX => Or.inl ?_⟩) (by assumption) ?_
        rotate_left
        · first | (go_simp; done) | (go_simp; with_reducible rfl)
        (try simp only [Act.put]); (try simp only [List.setIfInBounds_toArray]); (try simp only [List.set_cons_succ]); (try simp only [List.set_cons_zero])
        refine takeD (i := 5) (d := some 47) (v := .int .i64 ti) rfl (by kernel_rfl) (by kernel_rfl) (by kernel_rfl) (by kernel_rfl) (fun _ _ _ h => h) (Or.inl ⟨by kernel_rfl, fun X hX => Or.inl (exec_load 3 (.tmp 46) rfl _ _ rfl (HLI.out X No (S0.out.fr.trans hX) id))⟩) (by assumption) ?_
        (try simp only [Act.put]); (try simp only [List.setIfInBounds_toArray]); (try simp only [List.set_cons_succ]); (try simp only [List.set_cons_zero])
        refine takeD (i := 6) (d := some 48) (v := ?_) rfl (by kernel_rfl) (by kernel_rfl) (by kernel_rfl) (by kernel_rfl) (fun _ _ _ h => h) (Or.inl ⟨by kernel_rfl, fun X hX => Or.inl ?_⟩) (by assumption) ?_
        rotate_left
        · first | (go_simp; done) | (go_simp; with_reducible rfl)
        (try simp only [Act.put]); (try simp only [List.setIfInBounds_toArray]); (try simp only [List.set_cons_succ]); (try simp only [List.set_cons_zero])
        refine takeD (i := 7) (d := some 49) (v := ?_) rfl (by kernel_rfl) (by kernel_rfl) (by kernel_rfl) (by kernel_rfl) (fun _ _ _ h => h) (Or.inl ⟨by kernel_rfl, fun X hX => Or.inl ?_⟩) (by assumption) ?_
        rotate_left
        · first | (go_simp; done) | (go_simp; with_reducible rfl)
        (try simp only [Act.put]); (try simp only [List.setIfInBounds_toArray]); (try simp only [List.set_cons_succ]); (try simp only [List.set_cons_zero])
        refine takeD (i := 8) (d := some 50) (v := ?_) rfl (by kernel_rfl) (by kernel_rfl) (by kernel_rfl) (by kernel_rfl) (fun _ _ _ h => h) (Or.inl ⟨by kernel_rfl, fun X hX => Or.inl ?_⟩) (by assumption) ?_
        rotate_left
        · first | (go_simp; done) | (go_simp; with_reducible rfl)
        (try simp only [Act.put]); (try simp only [List.setIfInBounds_toArray]); (try simp only [List.set_cons_succ]); (try simp only [List.set_cons_zero])
        refine takeD (i := 9) (d := some 51) (v := .agg t.cells.toArray) rfl (by kernel_rfl) (by kernel_rfl) (by kernel_rfl) (by kernel_rfl) (fun _ _ _ h => h) (Or.inl ⟨by kernel_rfl, fun X hX => Or.inl (exec_load 42 (.tmp 50) rfl _ _ rfl (HLT.out X No (S0.out.fr.trans hX) id))⟩) (by assumption) ?_
        (try simp only [Act.put]); (try simp only [List.setIfInBounds_toArray]); (try simp only [List.set_cons_succ]); (try simp only [List.set_cons_zero])
        refine wpAnyH_ready (rs := [10, 15]) (by kernel_rfl) (by simp) ?_
        refine (AllReadyH.cons rfl (fun K hK => ?_) (AllReadyH.cons rfl (fun K hK => ?_) AllReadyH.nil))
        · rw [if_pos (by kernel_rfl)]
          go_simp
          refine (HOF.out _).mono ?_
          rintro ex v3 ⟨rfl, hF3⟩
          have F3 := Lib.hid (hHeld.trans hF3)
          clear hF3
          refine hK.out _ _ (F3.out) (fun hHeld => ?_)
          clear hK K
          (try simp only [Act.put]); (try simp only [List.setIfInBounds_toArray]); (try simp only [List.set_cons_succ]); (try simp only [List.set_cons_zero])
          refine wpAnyH_ready (rs := [11, 15]) (by kernel_rfl) (by simp) ?_
          refine (AllReadyH.cons rfl (fun K hK => ?_) (AllReadyH.cons rfl (fun K hK => ?_) AllReadyH.nil))
          · rw [if_pos (by kernel_rfl)]
            go_simp
            refine (HRI.out _).mono ?_
            rintro ex v4 ⟨rfl, hF4⟩
            have F4 := Lib.hid (hHeld.trans hF4)
            clear hF4
            refine hK.out _ _ (F4.out) (fun hHeld => ?_)
            clear hK K
            (try simp only [Act.put]); (try simp only [List.setIfInBounds_toArray]); (try simp only [List.set_cons_succ]); (try simp only [List.set_cons_zero])
            refine takeD (i := 12) (d := some 41) (v := ?_) rfl (by kernel_rfl) (by kernel_rfl) (by kernel_rfl) (by kernel_rfl) (fun _ _ _ h => h) (Or.inl ⟨by kernel_rfl, fun X hX => Or.inl ?_⟩) (by assumption) ?_
            rotate_left
            · first | (go_simp; done) | (go_simp; with_reducible rfl)
            (try simp only [Act.put]); (try simp only [List.setIfInBounds_toArray]); (try simp only [List.set_cons_succ]); (try simp only [List.set_cons_zero])
            refine takeD (i := 13) (d := some 54) (v := ?_) rfl (by kernel_rfl) (by kernel_rfl) (by kernel_rfl) (by kernel_rfl) (fun _ _ _ h => h) (Or.inl ⟨by kernel_rfl, fun X hX => Or.inl ?_⟩) (by assumption) ?_
            rotate_left
            · first | (go_simp; done) | (go_simp; with_reducible rfl)
            (try simp only [Act.put]); (try simp only [List.setIfInBounds_toArray]); (try simp only [List.set_cons_succ]); (try simp only [List.set_cons_zero])
            refine takeD (i := 14) (d := some 55) (v := ?_) rfl (by kernel_rfl) (by kernel_rfl) (by kernel_rfl) (by kernel_rfl) (fun _ _ _ h => h) (Or.inl ⟨by kernel_rfl, fun X hX => Or.inl ?_⟩) (by assumption) ?_
            rotate_left
            · first | (go_simp; done) | (go_simp; with_reducible rfl)
            (try simp only [Act.put]); (try simp only [List.setIfInBounds_toArray]); (try simp only [List.set_cons_succ]); (try simp only [List.set_cons_zero])
            refine wpAnyH_ready (rs := [15]) (by kernel_rfl) (by simp) ?_
            refine AllReadyH.cons rfl (fun K hK => ?_) AllReadyH.nil
            rw [if_pos (by kernel_rfl)]
            refine wpO_exec (.pointer (some ⟨v4.heap.size, 0, none⟩)) (exec_alloc 37 rfl _ (alloc_rshelf _)) ?_
            refine K_world (K := K) (fun X => Fr No wr X ∧ Blk X v4.heap.size 37 (flat zeroL) ∧ wr.heap.size ≤ v4.heap.size) ⟨hHeld.alloc _, Blk.new _ 37 (flat zeroL), hHeld.size⟩ ?_
            rintro X3 ⟨hX, hRX, hGE⟩
            have RX3 := Lib.hid hRX
            have GE := Lib.hid hGE
            have FX3 := Lib.hid hX
            clear hX hRX hGE
            refine hK.out _ _ (FX3.out) (fun hHeld => ?_)
            clear hK K
            (try simp only [Act.put]); (try simp only [List.setIfInBounds_toArray]); (try simp only [List.set_cons_succ]); (try simp only [List.set_cons_zero])
            refine wpAnyH_ready (rs := [16]) (by kernel_rfl) (by simp) ?_
            refine AllReadyH.cons rfl (fun K hK => ?_) AllReadyH.nil
            rw [if_pos (by kernel_rfl)]
            obtain ⟨Y, hY, hYB, hYF⟩ := flat_stored RX3.out (by simp [zeroL]) L1 HL1.out
            have hYF2 := hHeld.trans' hYF (fun j hj e => by have := GE.out; omega)
            refine wpO_store 37 _ _ rfl _ _ rfl rfl hY ?_
            refine hK.out _ _ (hYF2) (fun hHeld => ?_)
            clear hK K
            (try simp only [Act.put]); (try simp only [List.setIfInBounds_toArray]); (try simp only [List.set_cons_succ]); (try simp only [List.set_cons_zero])
            refine takeD (i := 17) (d := some 9) (v := ?_) rfl (by kernel_rfl) (by kernel_rfl) (by kernel_rfl) (by kernel_rfl) (fun _ _ _ h => h) (Or.inl ⟨by kernel_rfl, fun X hX => Or.inl ?_⟩) (by assumption) ?_
            rotate_left
            · first | (go_simp; done) | (go_simp; with_reducible rfl)
            (try simp only [Act.put]); (try simp only [List.setIfInBounds_toArray]); (try simp only [List.set_cons_succ]); (try simp only [List.set_cons_zero])
            refine wpAnyH_done (by kernel_rfl) ?_ _
            have hge := GE.out
            generalize v4.heap.size = g at hYB hge ⊢
            exact ⟨g, rfl, hHeld, hYB, hge⟩
          · rw [if_pos (by kernel_rfl)]
            refine wpO_exec (.pointer (some ⟨v3.heap.size, 0, none⟩)) (exec_alloc 37 rfl _ (alloc_rshelf _)) ?_
            refine K_world (K := K) (fun X => Fr No wr X ∧ Blk X v3.heap.size 37 (flat zeroL) ∧ wr.heap.size ≤ v3.heap.size) ⟨hHeld.alloc _, Blk.new _ 37 (flat zeroL), hHeld.size⟩ ?_
            rintro X3 ⟨hX, hRX, hGE⟩
            have RX3 := Lib.hid hRX
            have GE := Lib.hid hGE
            have FX3 := Lib.hid hX
            clear hX hRX hGE
            refine hK.out _ _ (FX3.out) (fun hHeld => ?_)
            clear hK K
            (try simp only [Act.put]); (try simp only [List.setIfInBounds_toArray]); (try simp only [List.set_cons_succ]); (try simp only [List.set_cons_zero])
            refine wpAnyH_ready (rs := [11]) (by kernel_rfl) (by simp) ?_
            refine AllReadyH.cons rfl (fun K hK => ?_) AllReadyH.nil
            rw [if_pos (by kernel_rfl)]
            go_simp
            refine (HRI.out _).mono ?_
            rintro ex v4 ⟨rfl, hF4⟩
            have RX4 := Lib.hid (RX3.out.fr hF4 id)
            have F4 := Lib.hid (hHeld.trans hF4)
            clear hF4
            refine hK.out _ _ (F4.out) (fun hHeld => ?_)
            clear hK K
            (try simp only [Act.put]); (try simp only [List.setIfInBounds_toArray]); (try simp only [List.set_cons_succ]); (try simp only [List.set_cons_zero])
            refine takeD (i := 12) (d := some 41) (v := ?_) rfl (by kernel_rfl) (by kernel_rfl) (by kernel_rfl) (by kernel_rfl) (fun _ _ _ h => h) (Or.inl ⟨by kernel_rfl, fun X hX => Or.inl ?_⟩) (by assumption) ?_
            rotate_left
            · first | (go_simp; done) | (go_simp; with_reducible rfl)
            (try simp only [Act.put]); (try simp only [List.setIfInBounds_toArray]); (try simp only [List.set_cons_succ]); (try simp only [List.set_cons_zero])
            refine takeD (i := 13) (d := some 54) (v := ?_) rfl (by kernel_rfl) (by kernel_rfl) (by kernel_rfl) (by kernel_rfl) (fun _ _ _ h => h) (Or.inl ⟨by kernel_rfl, fun X hX => Or.inl ?_⟩) (by assumption) ?_
            rotate_left
            · first | (go_simp; done) | (go_simp; with_reducible rfl)
            (try simp only [Act.put]); (try simp only [List.setIfInBounds_toArray]); (try simp only [List.set_cons_succ]); (try simp only [List.set_cons_zero])
            refine takeD (i := 14) (d := some 55) (v := ?_) rfl (by kernel_rfl) (by kernel_rfl) (by kernel_rfl) (by kernel_rfl) (fun _ _ _ h => h) (Or.inl ⟨by kernel_rfl, fun X hX => Or.inl ?_⟩) (by assumption) ?_
            rotate_left
            · first | (go_simp; done) | (go_simp; with_reducible rfl)
            (try simp only [Act.put]); (try simp only [List.setIfInBounds_toArray]); (try simp only [List.set_cons_succ]); (try simp only [List.set_cons_zero])
            refine wpAnyH_ready (rs := [16]) (by kernel_rfl) (by simp) ?_
            refine AllReadyH.cons rfl (fun K hK => ?_) AllReadyH.nil
            rw [if_pos (by kernel_rfl)]
            obtain ⟨Y, hY, hYB, hYF⟩ := flat_stored RX4.out (by simp [zeroL]) L1 HL1.out
            have hYF2 := hHeld.trans' hYF (fun j hj e => by have := GE.out; omega)
            refine wpO_store 37 _ _ rfl _ _ rfl rfl hY ?_
            refine hK.out _ _ (hYF2) (fun hHeld => ?_)
            clear hK K
            (try simp only [Act.put]); (try simp only [List.setIfInBounds_toArray]); (try simp only [List.set_cons_succ]); (try simp only [List.set_cons_zero])
            refine takeD (i := 17) (d := some 9) (v := ?_) rfl (by kernel_rfl) (by kernel_rfl) (by kernel_rfl) (by kernel_rfl) (fun _ _ _ h => h) (Or.inl ⟨by kernel_rfl, fun X hX => Or.inl ?_⟩) (by assumption) ?_
            rotate_left
            · first | (go_simp; done) | (go_simp; with_reducible rfl)
            (try simp only [Act.put]); (try simp only [List.setIfInBounds_toArray]); (try simp only [List.set_cons_succ]); (try simp only [List.set_cons_zero])
            refine wpAnyH_done (by kernel_rfl) ?_ _
            have hge := GE.out
            generalize v3.heap.size = g at hYB hge ⊢
            exact ⟨g, rfl, hHeld, hYB, hge⟩
        · rw [if_pos (by kernel_rfl)]
          refine wpO_exec (.pointer (some ⟨wr.heap.size, 0, none⟩)) (exec_alloc 37 rfl _ (alloc_rshelf _)) ?_
          refine K_world (K := K) (fun X => Fr No wr X ∧ Blk X wr.heap.size 37 (flat zeroL) ∧ wr.heap.size ≤ wr.heap.size) ⟨hHeld.alloc _, Blk.new _ 37 (flat zeroL), hHeld.size⟩ ?_
          rintro X3 ⟨hX, hRX, hGE⟩
          have RX3 := Lib.hid hRX
          have GE := Lib.hid hGE
          have FX3 := Lib.hid hX
          clear hX hRX hGE
          refine hK.out _ _ (FX3.out) (fun hHeld => ?_)
          clear hK K
          (try simp only [Act.put]); (try simp only [List.setIfInBounds_toArray]); (try simp only [List.set_cons_succ]); (try simp only [List.set_cons_zero])
          refine wpAnyH_ready (rs := [10]) (by kernel_rfl) (by simp) ?_
          refine AllReadyH.cons rfl (fun K hK => ?_) AllReadyH.nil
          rw [if_pos (by kernel_rfl)]
          go_simp
          refine (HOF.out _).mono ?_
          rintro ex v3 ⟨rfl, hF3⟩
          have RX5 := Lib.hid (RX3.out.fr hF3 id)
          have F3 := Lib.hid (hHeld.trans hF3)
          clear hF3
          refine hK.out _ _ (F3.out) (fun hHeld => ?_)
          clear hK K
          (try simp only [Act.put]); (try simp only [List.setIfInBounds_toArray]); (try simp only [List.set_cons_succ]); (try simp only [List.set_cons_zero])
          refine wpAnyH_ready (rs := [11]) (by kernel_rfl) (by simp) ?_
          refine AllReadyH.cons rfl (fun K hK => ?_) AllReadyH.nil
          rw [if_pos (by kernel_rfl)]
          go_simp
          refine (HRI.out _).mono ?_
          rintro ex v4 ⟨rfl, hF4⟩
          have RX4 := Lib.hid (RX5.out.fr hF4 id)
          have F4 := Lib.hid (hHeld.trans hF4)
          clear hF4
          refine hK.out _ _ (F4.out) (fun hHeld => ?_)
          clear hK K
          (try simp only [Act.put]); (try simp only [List.setIfInBounds_toArray]); (try simp only [List.set_cons_succ]); (try simp only [List.set_cons_zero])
          refine takeD (i := 12) (d := some 41) (v := ?_) rfl (by kernel_rfl) (by kernel_rfl) (by kernel_rfl) (by kernel_rfl) (fun _ _ _ h => h) (Or.inl ⟨by kernel_rfl, fun X hX => Or.inl ?_⟩) (by assumption) ?_
          rotate_left
          · first | (go_simp; done) | (go_simp; with_reducible rfl)
          (try simp only [Act.put]); (try simp only [List.setIfInBounds_toArray]); (try simp only [List.set_cons_succ]); (try simp only [List.set_cons_zero])
          refine takeD (i := 13) (d := some 54) (v := ?_) rfl (by kernel_rfl) (by kernel_rfl) (by kernel_rfl) (by kernel_rfl) (fun _ _ _ h => h) (Or.inl ⟨by kernel_rfl, fun X hX => Or.inl ?_⟩) (by assumption) ?_
          rotate_left
          · first | (go_simp; done) | (go_simp; with_reducible rfl)
          (try simp only [Act.put]); (try simp only [List.setIfInBounds_toArray]); (try simp only [List.set_cons_succ]); (try simp only [List.set_cons_zero])
          refine takeD (i := 14) (d := some 55) (v := ?_) rfl (by kernel_rfl) (by kernel_rfl) (by kernel_rfl) (by kernel_rfl) (fun _ _ _ h => h) (Or.inl ⟨by kernel_rfl, fun X hX => Or.inl ?_⟩) (by assumption) ?_
          rotate_left
          · first | (go_simp; done) | (go_simp; with_reducible rfl)
          (try simp only [Act.put]); (try simp only [List.setIfInBounds_toArray]); (try simp only [List.set_cons_succ]); (try simp only [List.set_cons_zero])
          refine wpAnyH_ready (rs := [16]) (by kernel_rfl) (by simp) ?_
          refine AllReadyH.cons rfl (fun K hK => ?_) AllReadyH.nil
          rw [if_pos (by kernel_rfl)]
          obtain ⟨Y, hY, hYB, hYF⟩ := flat_stored RX4.out (by simp [zeroL]) L1 HL1.out
          have hYF2 := hHeld.trans' hYF (fun j hj e => by have := GE.out; omega)
          refine wpO_store 37 _ _ rfl _ _ rfl rfl hY ?_
          refine hK.out _ _ (hYF2) (fun hHeld => ?_)
          clear hK K
          (try simp only [Act.put]); (try simp only [List.setIfInBounds_toArray]); (try simp only [List.set_cons_succ]); (try simp only [List.set_cons_zero])
          refine takeD (i := 17) (d := some 9) (v := ?_) rfl (by kernel_rfl) (by kernel_rfl) (by kernel_rfl) (by kernel_rfl) (fun _ _ _ h => h) (Or.inl ⟨by kernel_rfl, fun X hX => Or.inl ?_⟩) (by assumption) ?_
          rotate_left
          · first | (go_simp; done) | (go_simp; with_reducible rfl)
          (try simp only [Act.put]); (try simp only [List.setIfInBounds_toArray]); (try simp only [List.set_cons_succ]); (try simp only [List.set_cons_zero])
          refine wpAnyH_done (by kernel_rfl) ?_ _
          have hge := GE.out
          generalize wr.heap.size = g at hYB hge ⊢
          exact ⟨g, rfl, hHeld, hYB, hge⟩
      · intro g W8 hW8
        have HG8 := Lib.hid hW8.2.1
        have HGE := Lib.hid hW8.2.2
        have T8 := Lib.hid (S0.out.on hW8.1)
        clear hW8
        have HLG := Lib.hid (flat_load HG8.out HL1.out)
        obtain ⟨Y, hY, hYB, hYF⟩ := flat_stored T8.out.ref HL.out L1 HL1.out
        have HY := Lib.hid hY
        have T9 := Lib.hid (T8.out.putr hYF hYB)
        clear hY hYB hYF
        go_wp2_with (first
          | (refine wpList_load_eq rfl 37 _ rfl (.pointer (some ⟨g, 0, none⟩)) (.agg (flat L1).toArray) rfl HLG.out ?_)
          | (refine wpList_store_eq rfl 37 _ _ rfl (.pointer (some ⟨rb, 0, none⟩)) (.agg (flat L1).toArray) rfl rfl HY.out ?_))
        refine (HLE0.out _ _ T9.out).mono ?_
        rintro ex v5 ⟨rfl, hF5⟩
        have T10 := Lib.hid (T9.out.on hF5)
        clear hF5
        have HRS1 : Hid (∀ X, Fr (fun j => j = b) v5 X → (Instr.loadAt 37 (.pointer (some ⟨rb, 0, none⟩))).run Tryd.prog X = .ok (.agg (flat L1).toArray) X) := Lib.hid (fun X hX => flat_load (T10.out.ref.fr hX T10.out.ne) HL1.out)
        have HFW : Hid (∀ X, Fr (fun j => j = b) v5 X → Fr (fun j => j = b) w X) := Lib.hid (fun X hX => (T10.out.fr.mono (fun _ _ e => e.elim)).trans hX)
        go_wp2_with fail
        cases lb with
        | true =>
          apply wp_region_join (fun _ X => S2 w b rb L1 L1 X)
          · refine wp_region_held_drew (S := (fun X => Fr (fun j => j = b) v5 X)) (by kernel_rfl) ((Fr.refl _ v5).drew) (fun hHeld => ?_)
            refine takeD (i := 0) (d := some 62) (v := ?_) rfl (by kernel_rfl) (by kernel_rfl) (by kernel_rfl) (by kernel_rfl) (fun _ _ _ h => h) (Or.inl ⟨by kernel_rfl, fun X hX => Or.inl ?_⟩) (by assumption) ?_
            rotate_left
            · first | (go_simp; done) | (go_simp; with_reducible rfl)
            (try simp only [Act.put]); (try simp only [List.setIfInBounds_toArray]); (try simp only [List.set_cons_succ]); (try simp only [List.set_cons_zero])
            refine takeD (i := 1) (d := some 63) (v := ?_) rfl (by kernel_rfl) (by kernel_rfl) (by kernel_rfl) (by kernel_rfl) (fun _ _ _ h => h) (Or.inl ⟨by kernel_rfl, fun X hX => Or.inl ?_⟩) (by assumption) ?_
            rotate_left
            · first | (go_simp; done) | (go_simp; with_reducible rfl)
            (try simp only [Act.put]); (try simp only [List.setIfInBounds_toArray]); (try simp only [List.set_cons_succ]); (try simp only [List.set_cons_zero])
            refine takeD (i := 2) (d := some 64) (v := ?_) rfl (by kernel_rfl) (by kernel_rfl) (by kernel_rfl) (by kernel_rfl) (fun _ _ _ h => h) (Or.inl ⟨by kernel_rfl, fun X hX => Or.inl ?_⟩) (by assumption) ?_
            rotate_left
            · first | (go_simp; done) | (go_simp; with_reducible rfl)
            (try simp only [Act.put]); (try simp only [List.setIfInBounds_toArray]); (try simp only [List.set_cons_succ]); (try simp only [List.set_cons_zero])
            refine takeD (i := 3) (d := some 65) (v := .bool false) rfl (by kernel_rfl) (by kernel_rfl) (by kernel_rfl) (by kernel_rfl) (fun _ _ _ h => h) (Or.inl ⟨by kernel_rfl, fun X hX => Or.inl (exec_bin .lss 3 (.tmp 64) (.const (.int .i64 0)) 3 rfl _ _ _ rfl rfl (by kernel_rfl) (HLS.out X))⟩) (by assumption) ?_
            (try simp only [Act.put]); (try simp only [List.setIfInBounds_toArray]); (try simp only [List.set_cons_succ]); (try simp only [List.set_cons_zero])
            refine takeD (i := 4) (d := some 66) (v := ?_) rfl (by kernel_rfl) (by kernel_rfl) (by kernel_rfl) (by kernel_rfl) (fun _ _ _ h => h) (Or.inl ⟨by kernel_rfl, fun X hX => Or.inl ?_⟩) (by assumption) ?_
            rotate_left
            · first | (go_simp; done) | (go_simp; with_reducible rfl)
            (try simp only [Act.put]); (try simp only [List.setIfInBounds_toArray]); (try simp only [List.set_cons_succ]); (try simp only [List.set_cons_zero])
            refine takeD (i := 5) (d := some 67) (v := ?_) rfl (by kernel_rfl) (by kernel_rfl) (by kernel_rfl) (by kernel_rfl) (fun _ _ _ h => h) (Or.inl ⟨by kernel_rfl, fun X hX => Or.inl ?_⟩) (by assumption) ?_
            rotate_left
            · first | (go_simp; done) | (go_simp; with_reducible rfl)
            (try simp only [Act.put]); (try simp only [List.setIfInBounds_toArray]); (try simp only [List.set_cons_succ]); (try simp only [List.set_cons_zero])
            refine takeD (i := 6) (d := some 68) (v := ?_) rfl (by kernel_rfl) (by kernel_rfl) (by kernel_rfl) (by kernel_rfl) (fun _ _ _ h => h) (Or.inl ⟨by kernel_rfl, fun X hX => Or.inl ?_⟩) (by assumption) ?_
            rotate_left
            · first | (go_simp; done) | (go_simp; with_reducible rfl)
            (try simp only [Act.put]); (try simp only [List.setIfInBounds_toArray]); (try simp only [List.set_cons_succ]); (try simp only [List.set_cons_zero])
            refine takeD (i := 7) (d := some 69) (v := ?_) rfl (by kernel_rfl) (by kernel_rfl) (by kernel_rfl) (by kernel_rfl) (fun _ _ _ h => h) (Or.inl ⟨by kernel_rfl, fun X hX => Or.inl ?_⟩) (by assumption) ?_
            rotate_left
            · first | (go_simp; done) | (go_simp; with_reducible rfl)
            (try simp only [Act.put]); (try simp only [List.setIfInBounds_toArray]); (try simp only [List.set_cons_succ]); (try simp only [List.set_cons_zero])
            refine takeD (i := 8) (d := some 70) (v := ?_) rfl (by kernel_rfl) (by kernel_rfl) (by kernel_rfl) (by kernel_rfl) (fun _ _ _ h => h) (Or.inl ⟨by kernel_rfl, fun X hX => Or.inl ?_⟩) (by assumption) ?_
            rotate_left
            · first | (go_simp; done) | (go_simp; with_reducible rfl)
            (try simp only [Act.put]); (try simp only [List.setIfInBounds_toArray]); (try simp only [List.set_cons_succ]); (try simp only [List.set_cons_zero])
            refine takeD (i := 9) (d := some 71) (v := ?_) rfl (by kernel_rfl) (by kernel_rfl) (by kernel_rfl) (by kernel_rfl) (fun _ _ _ h => h) (Or.inl ⟨by kernel_rfl, fun X hX => Or.inl ?_⟩) (by assumption) ?_
            rotate_left
            · first | (go_simp; done) | (go_simp; with_reducible rfl)
            (try simp only [Act.put]); (try simp only [List.setIfInBounds_toArray]); (try simp only [List.set_cons_succ]); (try simp only [List.set_cons_zero])
            refine takeD (i := 10) (d := some 72) (v := ?_) rfl (by kernel_rfl) (by kernel_rfl) (by kernel_rfl) (by kernel_rfl) (fun _ _ _ h => h) (Or.inl ⟨by kernel_rfl, fun X hX => Or.inl ?_⟩) (by assumption) ?_
            rotate_left
            · first | (go_simp; done) | (go_simp; with_reducible rfl)
            (try simp only [Act.put]); (try simp only [List.setIfInBounds_toArray]); (try simp only [List.set_cons_succ]); (try simp only [List.set_cons_zero])
            refine takeD (i := 11) (d := some 73) (v := .int .i64 ti) rfl (by kernel_rfl) (by kernel_rfl) (by kernel_rfl) (by kernel_rfl) (fun _ _ _ h => h) (Or.inl ⟨by kernel_rfl, fun X hX => Or.inl (exec_load 3 (.tmp 72) rfl _ _ rfl (HLI.out X (fun j => j = b) (HFW.out X hX) HQB.out))⟩) (by assumption) ?_
            (try simp only [Act.put]); (try simp only [List.setIfInBounds_toArray]); (try simp only [List.set_cons_succ]); (try simp only [List.set_cons_zero])
            refine takeD (i := 12) (d := some 74) (v := ?_) rfl (by kernel_rfl) (by kernel_rfl) (by kernel_rfl) (by kernel_rfl) (fun _ _ _ h => h) (Or.inl ⟨by kernel_rfl, fun X hX => Or.inl ?_⟩) (by assumption) ?_
            rotate_left
            · first | (go_simp; done) | (go_simp; with_reducible rfl)
            (try simp only [Act.put]); (try simp only [List.setIfInBounds_toArray]); (try simp only [List.set_cons_succ]); (try simp only [List.set_cons_zero])
            refine takeD (i := 13) (d := some 75) (v := ?_) rfl (by kernel_rfl) (by kernel_rfl) (by kernel_rfl) (by kernel_rfl) (fun _ _ _ h => h) (Or.inl ⟨by kernel_rfl, fun X hX => Or.inl ?_⟩) (by assumption) ?_
            rotate_left
            · first | (go_simp; done) | (go_simp; with_reducible rfl)
            (try simp only [Act.put]); (try simp only [List.setIfInBounds_toArray]); (try simp only [List.set_cons_succ]); (try simp only [List.set_cons_zero])
            refine takeD (i := 14) (d := some 76) (v := ?_) rfl (by kernel_rfl) (by kernel_rfl) (by kernel_rfl) (by kernel_rfl) (fun _ _ _ h => h) (Or.inl ⟨by kernel_rfl, fun X hX => Or.inl ?_⟩) (by assumption) ?_
            rotate_left
            · first | (go_simp; done) | (go_simp; with_reducible rfl)
            (try simp only [Act.put]); (try simp only [List.setIfInBounds_toArray]); (try simp only [List.set_cons_succ]); (try simp only [List.set_cons_zero])
            refine takeD (i := 15) (d := some 77) (v := .agg t.cells.toArray) rfl (by kernel_rfl) (by kernel_rfl) (by kernel_rfl) (by kernel_rfl) (fun _ _ _ h => h) (Or.inl ⟨by kernel_rfl, fun X hX => Or.inl (exec_load 42 (.tmp 76) rfl _ _ rfl (HLT.out X (fun j => j = b) (HFW.out X hX) HQB.out))⟩) (by assumption) ?_
            (try simp only [Act.put]); (try simp only [List.setIfInBounds_toArray]); (try simp only [List.set_cons_succ]); (try simp only [List.set_cons_zero])
            refine takeD (i := 18) (d := some 80) (v := ?_) rfl (by kernel_rfl) (by kernel_rfl) (by kernel_rfl) (by kernel_rfl) (fun _ _ _ h => h) (Or.inl ⟨by kernel_rfl, fun X hX => Or.inl ?_⟩) (by assumption) ?_
            rotate_left
            · first | (go_simp; done) | (go_simp; with_reducible rfl)
            (try simp only [Act.put]); (try simp only [List.setIfInBounds_toArray]); (try simp only [List.set_cons_succ]); (try simp only [List.set_cons_zero])
            refine wpAnyH_ready (rs := [16]) (by kernel_rfl) (by simp) ?_
            refine AllReadyH.cons rfl (fun K hK => ?_) AllReadyH.nil
            rw [if_pos (by kernel_rfl)]
            go_simp
            refine (HOF.out _).mono ?_
            rintro ex v6 ⟨rfl, hF6⟩
            have F6 := Lib.hid (hHeld.trans (hF6.mono (fun _ _ e => e.elim)))
            have T5 := Lib.hid ((show S2 w b rb L L1 v5.drew from T10.out.on (Fr.refl No v5).drew).on hF6)
            clear hF6
            refine hK.out _ _ (F6.out) (fun hHeld => ?_)
            clear hK K
            (try simp only [Act.put]); (try simp only [List.setIfInBounds_toArray]); (try simp only [List.set_cons_succ]); (try simp only [List.set_cons_zero])
            refine wpAnyH_ready (rs := [17]) (by kernel_rfl) (by simp) ?_
            refine AllReadyH.cons rfl (fun K hK => ?_) AllReadyH.nil
            rw [if_pos (by kernel_rfl)]
            go_simp
            refine (HPI.out _ _ T5.out).mono ?_
            rintro ex v6' ⟨rfl, hF6, hB6⟩
            have F6' := Lib.hid (hHeld.trans hF6)
            have T6 := Lib.hid (T5.out.ins hF6 hB6)
            clear hF6 hB6
            refine hK.out _ _ (F6'.out) (fun hHeld => ?_)
            clear hK K
            (try simp only [Act.put]); (try simp only [List.setIfInBounds_toArray]); (try simp only [List.set_cons_succ]); (try simp only [List.set_cons_zero])
            refine takeD (i := 19) (d := some 81) (v := .bool false) rfl (by kernel_rfl) (by kernel_rfl) (by kernel_rfl) (by kernel_rfl) (fun _ _ _ h => h) (Or.inl ⟨by kernel_rfl, fun X hX => Or.inl (exec_bin .neq 38 (.tmp 79) (.tmp 80) 38 rfl _ _ _ rfl rfl (by kernel_rfl) (HNEE.out X))⟩) (by assumption) ?_
            (try simp only [Act.put]); (try simp only [List.setIfInBounds_toArray]); (try simp only [List.set_cons_succ]); (try simp only [List.set_cons_zero])
            refine takeD (i := 20) (d := some 82) (v := ?_) rfl (by kernel_rfl) (by kernel_rfl) (by kernel_rfl) (by kernel_rfl) (fun _ _ _ h => h) (Or.inl ⟨by kernel_rfl, fun X hX => Or.inl ?_⟩) (by assumption) ?_
            rotate_left
            · first | (go_simp; done) | (go_simp; with_reducible rfl)
            (try simp only [Act.put]); (try simp only [List.setIfInBounds_toArray]); (try simp only [List.set_cons_succ]); (try simp only [List.set_cons_zero])
            refine takeD (i := 21) (d := some 83) (v := ?_) rfl (by kernel_rfl) (by kernel_rfl) (by kernel_rfl) (by kernel_rfl) (fun _ _ _ h => h) (Or.inl ⟨by kernel_rfl, fun X hX => Or.inl ?_⟩) (by assumption) ?_
            rotate_left
            · first | (go_simp; done) | (go_simp; with_reducible rfl)
            (try simp only [Act.put]); (try simp only [List.setIfInBounds_toArray]); (try simp only [List.set_cons_succ]); (try simp only [List.set_cons_zero])
            refine takeD (i := 22) (d := some 84) (v := ?_) rfl (by kernel_rfl) (by kernel_rfl) (by kernel_rfl) (by kernel_rfl) (fun _ _ _ h => h) (Or.inl ⟨by kernel_rfl, fun X hX => Or.inl ?_⟩) (by assumption) ?_
            rotate_left
            · first | (go_simp; done) | (go_simp; with_reducible rfl)
            (try simp only [Act.put]); (try simp only [List.setIfInBounds_toArray]); (try simp only [List.set_cons_succ]); (try simp only [List.set_cons_zero])
            refine takeD (i := 24) (d := some 86) (v := .agg (flat L1).toArray) rfl (by kernel_rfl) (by kernel_rfl) (by kernel_rfl) (by kernel_rfl) (fun _ _ _ h => h) (Or.inl ⟨by kernel_rfl, fun X hX => Or.inl (exec_load 37 (.tmp 6) rfl _ _ rfl (HRS1.out X hX))⟩) (by assumption) ?_
            (try simp only [Act.put]); (try simp only [List.setIfInBounds_toArray]); (try simp only [List.set_cons_succ]); (try simp only [List.set_cons_zero])
            refine wpAnyH_ready (rs := [23]) (by kernel_rfl) (by simp) ?_
            refine AllReadyH.cons rfl (fun K hK => ?_) AllReadyH.nil
            rw [if_pos (by kernel_rfl)]
            go_simp
            refine (HKN.out _ _ T6.out).mono ?_
            rintro ex v7 ⟨rfl, hF7⟩
            have F7 := Lib.hid (hHeld.trans (hF7.mono (fun _ _ e => e.elim)))
            have T7 := Lib.hid (T6.out.on hF7)
            clear hF7
            refine hK.out _ _ (F7.out) (fun hHeld => ?_)
            clear hK K
            (try simp only [Act.put]); (try simp only [List.setIfInBounds_toArray]); (try simp only [List.set_cons_succ]); (try simp only [List.set_cons_zero])
            refine wpAnyH_ready (rs := [25]) (by kernel_rfl) (by simp) ?_
            refine AllReadyH.cons rfl (fun K hK => ?_) AllReadyH.nil
            rw [if_pos (by kernel_rfl)]
            go_simp
            refine (HRN.out _).mono ?_
            rintro ex v8 ⟨rfl, hF8⟩
            have F8 := Lib.hid (hHeld.trans (hF8.mono (fun _ _ e => e.elim)))
            have T8' := Lib.hid (T7.out.on hF8)
            clear hF8
            refine hK.out _ _ (F8.out) (fun hHeld => ?_)
            clear hK K
            (try simp only [Act.put]); (try simp only [List.setIfInBounds_toArray]); (try simp only [List.set_cons_succ]); (try simp only [List.set_cons_zero])
            refine takeD (i := 26) (d := some 88) (v := .bool false) rfl (by kernel_rfl) (by kernel_rfl) (by kernel_rfl) (by kernel_rfl) (fun _ _ _ h => h) (Or.inl ⟨by kernel_rfl, fun X hX => Or.inl (exec_bin .neq 3 (.tmp 85) (.tmp 87) 3 rfl _ _ _ rfl rfl (by kernel_rfl) (HNN.out X))⟩) (by assumption) ?_
            (try simp only [Act.put]); (try simp only [List.setIfInBounds_toArray]); (try simp only [List.set_cons_succ]); (try simp only [List.set_cons_zero])
            refine takeD (i := 27) (d := some 89) (v := ?_) rfl (by kernel_rfl) (by kernel_rfl) (by kernel_rfl) (by kernel_rfl) (fun _ _ _ h => h) (Or.inl ⟨by kernel_rfl, fun X hX => Or.inl ?_⟩) (by assumption) ?_
            rotate_left
            · first | (go_simp; done) | (go_simp; with_reducible rfl)
            (try simp only [Act.put]); (try simp only [List.setIfInBounds_toArray]); (try simp only [List.set_cons_succ]); (try simp only [List.set_cons_zero])
            refine wpAnyH_done (by kernel_rfl) ?_ _
            obtain ⟨g0, hg0⟩ : ∃ g0 : Nat, g0 = 0 := ⟨_, rfl⟩
            exact ⟨g0, rfl, T8'.out⟩
          · intro g0 W11 hT
            have T11 := Lib.hid hT
            clear hT
            have HLR := Lib.hid (flat_load T11.out.ref HL1.out)
            go_wp2_with (refine wpList_load_eq rfl 37 _ rfl (.pointer (some ⟨rb, 0, none⟩)) (.agg (flat L1).toArray) rfl HLR.out ?_)
            refine (HRL1.out _).mono ?_
            rintro ex v9 ⟨rfl, hF9⟩
            have T12 := Lib.hid (T11.out.on hF9)
            clear hF9
            go_wp2_with fail
            refine (HLE1.out _ _ T12.out).mono ?_
            rintro ex v10 ⟨rfl, hF10⟩
            have T13 := Lib.hid (T12.out.on hF10)
            clear hF10
            go_wp2
            exact ⟨⟨k + 1, L1, by simp, HK2.out, HL1.out, T13.out⟩, by simp [intOf]; exact HX.out⟩
        | false =>
          apply wp_region_join (fun _ X => S2 w b rb L1 L1 X)
          · refine wp_region_held_drew (S := (fun X => Fr (fun j => j = b) v5 X)) (by kernel_rfl) ((Fr.refl _ v5).drew) (fun hHeld => ?_)
            refine takeD (i := 0) (d := some 62) (v := ?_) rfl (by kernel_rfl) (by kernel_rfl) (by kernel_rfl) (by kernel_rfl) (fun _ _ _ h => h) (Or.inl ⟨by kernel_rfl, fun X hX => Or.inl ?_⟩) (by assumption) ?_
            rotate_left
            · first | (go_simp; done) | (go_simp; with_reducible rfl)
            (try simp only [Act.put]); (try simp only [List.setIfInBounds_toArray]); (try simp only [List.set_cons_succ]); (try simp only [List.set_cons_zero])
            refine takeD (i := 1) (d := some 63) (v := ?_) rfl (by kernel_rfl) (by kernel_rfl) (by kernel_rfl) (by kernel_rfl) (fun _ _ _ h => h) (Or.inl ⟨by kernel_rfl, fun X hX => Or.inl ?_⟩) (by assumption) ?_
            rotate_left
            · first | (go_simp; done) | (go_simp; with_reducible rfl)
            (try simp only [Act.put]); (try simp only [List.setIfInBounds_toArray]); (try simp only [List.set_cons_succ]); (try simp only [List.set_cons_zero])
            refine takeD (i := 2) (d := some 64) (v := undef) rfl (by kernel_rfl) (by kernel_rfl) (by kernel_rfl) (by kernel_rfl) (fun _ _ _ h => h) (Or.inr ⟨by kernel_rfl, rfl⟩) (by assumption) ?_
            (try simp only [Act.put]); (try simp only [List.setIfInBounds_toArray]); (try simp only [List.set_cons_succ]); (try simp only [List.set_cons_zero])
            refine takeD (i := 3) (d := some 65) (v := undef) rfl (by kernel_rfl) (by kernel_rfl) (by kernel_rfl) (by kernel_rfl) (fun _ _ _ h => h) (Or.inr ⟨by kernel_rfl, rfl⟩) (by assumption) ?_
            (try simp only [Act.put]); (try simp only [List.setIfInBounds_toArray]); (try simp only [List.set_cons_succ]); (try simp only [List.set_cons_zero])
            refine takeD (i := 4) (d := some 66) (v := ?_) rfl (by kernel_rfl) (by kernel_rfl) (by kernel_rfl) (by kernel_rfl) (fun _ _ _ h => h) (Or.inl ⟨by kernel_rfl, fun X hX => Or.inl ?_⟩) (by assumption) ?_
            rotate_left
            · first | (go_simp; done) | (go_simp; with_reducible rfl)
            (try simp only [Act.put]); (try simp only [List.setIfInBounds_toArray]); (try simp only [List.set_cons_succ]); (try simp only [List.set_cons_zero])
            refine takeD (i := 5) (d := some 67) (v := ?_) rfl (by kernel_rfl) (by kernel_rfl) (by kernel_rfl) (by kernel_rfl) (fun _ _ _ h => h) (Or.inl ⟨by kernel_rfl, fun X hX => Or.inl ?_⟩) (by assumption) ?_
            rotate_left
            · first | (go_simp; done) | (go_simp; with_reducible rfl)
            (try simp only [Act.put]); (try simp only [List.setIfInBounds_toArray]); (try simp only [List.set_cons_succ]); (try simp only [List.set_cons_zero])
            refine takeD (i := 6) (d := some 68) (v := ?_) rfl (by kernel_rfl) (by kernel_rfl) (by kernel_rfl) (by kernel_rfl) (fun _ _ _ h => h) (Or.inl ⟨by kernel_rfl, fun X hX => Or.inl ?_⟩) (by assumption) ?_
            rotate_left
            · first | (go_simp; done) | (go_simp; with_reducible rfl)
            (try simp only [Act.put]); (try simp only [List.setIfInBounds_toArray]); (try simp only [List.set_cons_succ]); (try simp only [List.set_cons_zero])
            refine takeD (i := 7) (d := some 69) (v := ?_) rfl (by kernel_rfl) (by kernel_rfl) (by kernel_rfl) (by kernel_rfl) (fun _ _ _ h => h) (Or.inl ⟨by kernel_rfl, fun X hX => Or.inl ?_⟩) (by assumption) ?_
            rotate_left
            · first | (go_simp; done) | (go_simp; with_reducible rfl)
            (try simp only [Act.put]); (try simp only [List.setIfInBounds_toArray]); (try simp only [List.set_cons_succ]); (try simp only [List.set_cons_zero])
            refine takeD (i := 8) (d := some 70) (v := ?_) rfl (by kernel_rfl) (by kernel_rfl) (by kernel_rfl) (by kernel_rfl) (fun _ _ _ h => h) (Or.inl ⟨by kernel_rfl, fun X hX => Or.inl ?_⟩) (by assumption) ?_
            rotate_left
            · first | (go_simp; done) | (go_simp; with_reducible rfl)
            (try simp only [Act.put]); (try simp only [List.setIfInBounds_toArray]); (try simp only [List.set_cons_succ]); (try simp only [List.set_cons_zero])
            refine takeD (i := 9) (d := some 71) (v := ?_) rfl (by kernel_rfl) (by kernel_rfl) (by kernel_rfl) (by kernel_rfl) (fun _ _ _ h => h) (Or.inl ⟨by kernel_rfl, fun X hX => Or.inl ?_⟩) (by assumption) ?_
            rotate_left
            · first | (go_simp; done) | (go_simp; with_reducible rfl)
            (try simp only [Act.put]); (try simp only [List.setIfInBounds_toArray]); (try simp only [List.set_cons_succ]); (try simp only [List.set_cons_zero])
            refine takeD (i := 10) (d := some 72) (v := ?_) rfl (by kernel_rfl) (by kernel_rfl) (by kernel_rfl) (by kernel_rfl) (fun _ _ _ h => h) (Or.inl ⟨by kernel_rfl, fun X hX => Or.inl ?_⟩) (by assumption) ?_
            rotate_left
            · first | (go_simp; done) | (go_simp; with_reducible rfl)
            (try simp only [Act.put]); (try simp only [List.setIfInBounds_toArray]); (try simp only [List.set_cons_succ]); (try simp only [List.set_cons_zero])
            refine takeD (i := 11) (d := some 73) (v := .int .i64 ti) rfl (by kernel_rfl) (by kernel_rfl) (by kernel_rfl) (by kernel_rfl) (fun _ _ _ h => h) (Or.inl ⟨by kernel_rfl, fun X hX => Or.inl (exec_load 3 (.tmp 72) rfl _ _ rfl (HLI.out X (fun j => j = b) (HFW.out X hX) HQB.out))⟩) (by assumption) ?_
            (try simp only [Act.put]); (try simp only [List.setIfInBounds_toArray]); (try simp only [List.set_cons_succ]); (try simp only [List.set_cons_zero])
            refine takeD (i := 12) (d := some 74) (v := ?_) rfl (by kernel_rfl) (by kernel_rfl) (by kernel_rfl) (by kernel_rfl) (fun _ _ _ h => h) (Or.inl ⟨by kernel_rfl, fun X hX => Or.inl ?_⟩) (by assumption) ?_
            rotate_left
            · first | (go_simp; done) | (go_simp; with_reducible rfl)
            (try simp only [Act.put]); (try simp only [List.setIfInBounds_toArray]); (try simp only [List.set_cons_succ]); (try simp only [List.set_cons_zero])
            refine takeD (i := 13) (d := some 75) (v := ?_) rfl (by kernel_rfl) (by kernel_rfl) (by kernel_rfl) (by kernel_rfl) (fun _ _ _ h => h) (Or.inl ⟨by kernel_rfl, fun X hX => Or.inl ?_⟩) (by assumption) ?_
            rotate_left
            · first | (go_simp; done) | (go_simp; with_reducible rfl)
            (try simp only [Act.put]); (try simp only [List.setIfInBounds_toArray]); (try simp only [List.set_cons_succ]); (try simp only [List.set_cons_zero])
            refine takeD (i := 14) (d := some 76) (v := ?_) rfl (by kernel_rfl) (by kernel_rfl) (by kernel_rfl) (by kernel_rfl) (fun _ _ _ h => h) (Or.inl ⟨by kernel_rfl, fun X hX => Or.inl ?_⟩) (by assumption) ?_
            rotate_left
            · first | (go_simp; done) | (go_simp; with_reducible rfl)
            (try simp only [Act.put]); (try simp only [List.setIfInBounds_toArray]); (try simp only [List.set_cons_succ]); (try simp only [List.set_cons_zero])
            refine takeD (i := 15) (d := some 77) (v := .agg t.cells.toArray) rfl (by kernel_rfl) (by kernel_rfl) (by kernel_rfl) (by kernel_rfl) (fun _ _ _ h => h) (Or.inl ⟨by kernel_rfl, fun X hX => Or.inl (exec_load 42 (.tmp 76) rfl _ _ rfl (HLT.out X (fun j => j = b) (HFW.out X hX) HQB.out))⟩) (by assumption) ?_
            (try simp only [Act.put]); (try simp only [List.setIfInBounds_toArray]); (try simp only [List.set_cons_succ]); (try simp only [List.set_cons_zero])
            refine takeD (i := 18) (d := some 80) (v := ?_) rfl (by kernel_rfl) (by kernel_rfl) (by kernel_rfl) (by kernel_rfl) (fun _ _ _ h => h) (Or.inl ⟨by kernel_rfl, fun X hX => Or.inl ?_⟩) (by assumption) ?_
            rotate_left
            · first | (go_simp; done) | (go_simp; with_reducible rfl)
            (try simp only [Act.put]); (try simp only [List.setIfInBounds_toArray]); (try simp only [List.set_cons_succ]); (try simp only [List.set_cons_zero])
            refine wpAnyH_ready (rs := [16]) (by kernel_rfl) (by simp) ?_
            refine AllReadyH.cons rfl (fun K hK => ?_) AllReadyH.nil
            rw [if_pos (by kernel_rfl)]
            go_simp
            refine (HOF.out _).mono ?_
            rintro ex v6 ⟨rfl, hF6⟩
            have F6 := Lib.hid (hHeld.trans (hF6.mono (fun _ _ e => e.elim)))
            have T5 := Lib.hid ((show S2 w b rb L L1 v5.drew from T10.out.on (Fr.refl No v5).drew).on hF6)
            clear hF6
            refine hK.out _ _ (F6.out) (fun hHeld => ?_)
            clear hK K
            (try simp only [Act.put]); (try simp only [List.setIfInBounds_toArray]); (try simp only [List.set_cons_succ]); (try simp only [List.set_cons_zero])
            refine wpAnyH_ready (rs := [17]) (by kernel_rfl) (by simp) ?_
            refine AllReadyH.cons rfl (fun K hK => ?_) AllReadyH.nil
            rw [if_pos (by kernel_rfl)]
            go_simp
            refine (HPI.out _ _ T5.out).mono ?_
            rintro ex v6' ⟨rfl, hF6, hB6⟩
            have F6' := Lib.hid (hHeld.trans hF6)
            have T6 := Lib.hid (T5.out.ins hF6 hB6)
            clear hF6 hB6
            refine hK.out _ _ (F6'.out) (fun hHeld => ?_)
            clear hK K
            (try simp only [Act.put]); (try simp only [List.setIfInBounds_toArray]); (try simp only [List.set_cons_succ]); (try simp only [List.set_cons_zero])
            refine takeD (i := 19) (d := some 81) (v := .bool false) rfl (by kernel_rfl) (by kernel_rfl) (by kernel_rfl) (by kernel_rfl) (fun _ _ _ h => h) (Or.inl ⟨by kernel_rfl, fun X hX => Or.inl (exec_bin .neq 38 (.tmp 79) (.tmp 80) 38 rfl _ _ _ rfl rfl (by kernel_rfl) (HNEE.out X))⟩) (by assumption) ?_
            (try simp only [Act.put]); (try simp only [List.setIfInBounds_toArray]); (try simp only [List.set_cons_succ]); (try simp only [List.set_cons_zero])
            refine takeD (i := 20) (d := some 82) (v := ?_) rfl (by kernel_rfl) (by kernel_rfl) (by kernel_rfl) (by kernel_rfl) (fun _ _ _ h => h) (Or.inl ⟨by kernel_rfl, fun X hX => Or.inl ?_⟩) (by assumption) ?_
            rotate_left
            · first | (go_simp; done) | (go_simp; with_reducible rfl)
            (try simp only [Act.put]); (try simp only [List.setIfInBounds_toArray]); (try simp only [List.set_cons_succ]); (try simp only [List.set_cons_zero])
            refine takeD (i := 21) (d := some 83) (v := ?_) rfl (by kernel_rfl) (by kernel_rfl) (by kernel_rfl) (by kernel_rfl) (fun _ _ _ h => h) (Or.inl ⟨by kernel_rfl, fun X hX => Or.inl ?_⟩) (by assumption) ?_
            rotate_left
            · first | (go_simp; done) | (go_simp; with_reducible rfl)
            (try simp only [Act.put]); (try simp only [List.setIfInBounds_toArray]); (try simp only [List.set_cons_succ]); (try simp only [List.set_cons_zero])
            refine takeD (i := 22) (d := some 84) (v := ?_) rfl (by kernel_rfl) (by kernel_rfl) (by kernel_rfl) (by kernel_rfl) (fun _ _ _ h => h) (Or.inl ⟨by kernel_rfl, fun X hX => Or.inl ?_⟩) (by assumption) ?_
            rotate_left
            · first | (go_simp; done) | (go_simp; with_reducible rfl)
            (try simp only [Act.put]); (try simp only [List.setIfInBounds_toArray]); (try simp only [List.set_cons_succ]); (try simp only [List.set_cons_zero])
            refine takeD (i := 24) (d := some 86) (v := .agg (flat L1).toArray) rfl (by kernel_rfl) (by kernel_rfl) (by kernel_rfl) (by kernel_rfl) (fun _ _ _ h => h) (Or.inl ⟨by kernel_rfl, fun X hX => Or.inl (exec_load 37 (.tmp 6) rfl _ _ rfl (HRS1.out X hX))⟩) (by assumption) ?_
            (try simp only [Act.put]); (try simp only [List.setIfInBounds_toArray]); (try simp only [List.set_cons_succ]); (try simp only [List.set_cons_zero])
            refine wpAnyH_ready (rs := [23]) (by kernel_rfl) (by simp) ?_
            refine AllReadyH.cons rfl (fun K hK => ?_) AllReadyH.nil
            rw [if_pos (by kernel_rfl)]
            go_simp
            refine (HKN.out _ _ T6.out).mono ?_
            rintro ex v7 ⟨rfl, hF7⟩
            have F7 := Lib.hid (hHeld.trans (hF7.mono (fun _ _ e => e.elim)))
            have T7 := Lib.hid (T6.out.on hF7)
            clear hF7
            refine hK.out _ _ (F7.out) (fun hHeld => ?_)
            clear hK K
            (try simp only [Act.put]); (try simp only [List.setIfInBounds_toArray]); (try simp only [List.set_cons_succ]); (try simp only [List.set_cons_zero])
            refine wpAnyH_ready (rs := [25]) (by kernel_rfl) (by simp) ?_
            refine AllReadyH.cons rfl (fun K hK => ?_) AllReadyH.nil
            rw [if_pos (by kernel_rfl)]
            go_simp
            refine (HRN.out _).mono ?_
            rintro ex v8 ⟨rfl, hF8⟩
            have F8 := Lib.hid (hHeld.trans (hF8.mono (fun _ _ e => e.elim)))
            have T8' := Lib.hid (T7.out.on hF8)
            clear hF8
            refine hK.out _ _ (F8.out) (fun hHeld => ?_)
            clear hK K
            (try simp only [Act.put]); (try simp only [List.setIfInBounds_toArray]); (try simp only [List.set_cons_succ]); (try simp only [List.set_cons_zero])
            refine takeD (i := 26) (d := some 88) (v := .bool false) rfl (by kernel_rfl) (by kernel_rfl) (by kernel_rfl) (by kernel_rfl) (fun _ _ _ h => h) (Or.inl ⟨by kernel_rfl, fun X hX => Or.inl (exec_bin .neq 3 (.tmp 85) (.tmp 87) 3 rfl _ _ _ rfl rfl (by kernel_rfl) (HNN.out X))⟩) (by assumption) ?_
            (try simp only [Act.put]); (try simp only [List.setIfInBounds_toArray]); (try simp only [List.set_cons_succ]); (try simp only [List.set_cons_zero])
            refine takeD (i := 27) (d := some 89) (v := ?_) rfl (by kernel_rfl) (by kernel_rfl) (by kernel_rfl) (by kernel_rfl) (fun _ _ _ h => h) (Or.inl ⟨by kernel_rfl, fun X hX => Or.inl ?_⟩) (by assumption) ?_
            rotate_left
            · first | (go_simp; done) | (go_simp; with_reducible rfl)
            (try simp only [Act.put]); (try simp only [List.setIfInBounds_toArray]); (try simp only [List.set_cons_succ]); (try simp only [List.set_cons_zero])
            refine wpAnyH_done (by kernel_rfl) ?_ _
            obtain ⟨g0, hg0⟩ : ∃ g0 : Nat, g0 = 0 := ⟨_, rfl⟩
            exact ⟨g0, rfl, T8'.out⟩
          · intro g0 W11 hT
            have T11 := Lib.hid hT
            clear hT
            have HLR := Lib.hid (flat_load T11.out.ref HL1.out)
            go_wp2_with (refine wpList_load_eq rfl 37 _ rfl (.pointer (some ⟨rb, 0, none⟩)) (.agg (flat L1).toArray) rfl HLR.out ?_)
            refine (HRL1.out _).mono ?_
            rintro ex v9 ⟨rfl, hF9⟩
            have T12 := Lib.hid (T11.out.on hF9)
            clear hF9
            go_wp2_with fail
            refine (HLE1.out _ _ T12.out).mono ?_
            rintro ex v10 ⟨rfl, hF10⟩
            have T13 := Lib.hid (T12.out.on hF10)
            clear hF10
            go_wp2
            exact ⟨⟨k + 1, L1, by simp, HK2.out, HL1.out, T13.out⟩, by simp [intOf]; exact HX.out⟩
    · obtain rfl : k = n := by omega
      clear HE HN hlt hk
      go_wp2_with fail
      go_loopw [14] (fun c wr => ∃ (j : Nat), c = .int .i64 (j : Int) ∧ j ≤ m ∧ S2 w b rb L L wr) (fun c _ => m - (intOf c).toNat)
      case atStart => exact ⟨0, rfl, by omega, S0.out⟩
      clear S0
      case round =>
        obtain ⟨j, rfl, hj, hS⟩ := hrel
        have S0 := Lib.hid hS
        clear hS
        by_cases hlt : j < m
        · have h3 : (j : Int) < (m : Int) := by omega
          obtain ⟨a, rfl, y, hya⟩ := HA.out j hlt
          obtain ⟨q, hq⟩ : ∃ q, q = a.add j := ⟨_, rfl⟩
          rw [← hq] at hya
          have hq' : a.add j = q := hq.symm
          have e7 : IntKind.i64.wrap ((j : Int) + 1) = ((j + 1 : Nat) : Int) := IntWalk.i64_in _ (by have := HM.out; omega)
          have cq := S0.out.fr.cellB id hya
          obtain ⟨D, hD⟩ : ∃ D, D = (look L y).1 := ⟨_, rfl⟩
          obtain ⟨er, her⟩ : ∃ er, er = (look L y).2 := ⟨_, rfl⟩
          have HLD : Hid (D.length = 32) := Lib.hid (by rw [hD]; exact (look_h L y).len)
          have HPK : Hid (∀ X, S2 w b rb L L X → Calls Tryd.prog 16 #[.pointer (some ⟨b, 0, none⟩), .int .i64 y] X fun ex w' => ex = .returned (.tuple #[.agg (arr .u8 D), .int .i64 er]) ∧ Fr No X w') := Lib.hid (fun X s => by rw [hD, her]; exact lookup_any b L y X s.blk HL.out (HG.out.fr s.fr (fun _ _ => id)))
          have HRK : Hid (∀ X, Calls Tryd.prog 17 #[.agg (flat L).toArray, .int .i64 y] X fun ex w' => ex = .returned (.tuple #[.agg (arr .u8 D), .int .i64 er]) ∧ Fr No X w') := Lib.hid (fun X => by rw [hD, her]; exact rlookup_any L y X HL.out)
          have HLY : Hid (∀ X, Fr No w X → (Instr.loadAt 3 (.pointer (some q))).run Tryd.prog X = .ok (.int .i64 y) X) := Lib.hid (fun X hX => load_int _ _ _ (hX.cellB id hya))
          have HNA := Lib.hid (neq_h32 D HLD.out)
          have HX : Hid (m - (j + 1) < m - j) := Lib.hid (by omega)
          have HK2 : Hid (j + 1 ≤ m) := Lib.hid (by omega)
          clear hq hya hD her hlt
          go_wp2_with fail
          refine (HPK.out _ S0.out).mono ?_
          rintro ex v1 ⟨rfl, hF1⟩
          have S1 := Lib.hid (S0.out.on hF1)
          clear hF1 S0
          obtain ⟨Y, hY, hYR, hYF⟩ := hash_new v1 D HLD.out
          have HY := Lib.hid hY
          have HR := Lib.hid hYR
          have T1 := Lib.hid (S1.out.on hYF)
          clear hY hYR hYF cq
          go_wp2_with (refine wpList_store_eq rfl 27 _ _ rfl (.pointer (some ⟨v1.heap.size, 0, none⟩)) (.agg (arr .u8 D)) rfl rfl HY.out ?_)
          obtain ⟨g1, hg1⟩ : ∃ g1, g1 = v1.heap.size := ⟨_, rfl⟩
          rw [← hg1] at HR ⊢
          clear hg1 HY S1
          have HRS : Hid (∀ X, Fr No Y X → (Instr.loadAt 37 (.pointer (some ⟨rb, 0, none⟩))).run Tryd.prog X = .ok (.agg (flat L).toArray) X) := Lib.hid (fun X hX => flat_load (T1.out.on hX).ref HL.out)
          go_wp2_with fail
          refine wp_region_held_drew (S := (fun X => Fr No Y X)) (by kernel_rfl) ((Fr.refl _ Y).drew) (fun hHeld => ?_)
          refine takeD (i := 0) (d := some 124) (v := .agg (flat L).toArray) rfl (by kernel_rfl) (by kernel_rfl) (by kernel_rfl) (by kernel_rfl) (fun _ _ _ h => h) (Or.inl ⟨by kernel_rfl, fun X hX => Or.inl (exec_load 37 (.tmp 6) rfl _ _ rfl (HRS.out X hX))⟩) (by assumption) ?_
          (try simp only [Act.put]); (try simp only [List.setIfInBounds_toArray]); (try simp only [List.set_cons_succ]); (try simp only [List.set_cons_zero])
          refine takeD (i := 1) (d := some 125) (v := ?_) rfl (by kernel_rfl) (by kernel_rfl) (by kernel_rfl) (by kernel_rfl) (fun _ _ _ h => h) (Or.inl ⟨by kernel_rfl, fun X hX => Or.inl ?_⟩) (by assumption) ?_
          rotate_left
          · first | (go_simp; done) | (go_simp; with_reducible rfl)
          (try simp only [Act.put]); (try simp only [List.setIfInBounds_toArray]); (try simp only [List.set_cons_succ]); (try simp only [List.set_cons_zero])
          refine takeD (i := 2) (d := some 126) (v := ?_) rfl (by kernel_rfl) (by kernel_rfl) (by kernel_rfl) (by kernel_rfl) (fun _ _ _ h => h) (Or.inl ⟨by kernel_rfl, fun X hX => Or.inl ?_⟩) (by assumption) ?_
          rotate_left
          · first | (go_simp; done) | (go_simp; with_reducible rfl)
          (try simp only [Act.put]); (try simp only [List.setIfInBounds_toArray]); (try simp only [List.set_cons_succ]); (try simp only [List.set_cons_zero])
          refine takeD (i := 3) (d := some 127) (v := ?_) rfl (by kernel_rfl) (by kernel_rfl) (by kernel_rfl) (by kernel_rfl) (fun _ _ _ h => h) (Or.inl ⟨by kernel_rfl, fun X hX => Or.inl ?_⟩) (by assumption) ?_
          rotate_left
          · first | (go_simp; done) | (go_simp; with_reducible rfl)
          (try simp only [Act.put]); (try simp only [List.setIfInBounds_toArray]); (try simp only [List.set_cons_succ]); (try simp only [List.set_cons_zero])
          refine takeD (i := 4) (d := some 128) (v := .int .i64 y) rfl (by kernel_rfl) (by kernel_rfl) (by kernel_rfl) (by kernel_rfl) (fun _ _ _ h => h) (Or.inl ⟨by kernel_rfl, fun X hX => Or.inl (exec_load 3 (.tmp 127) rfl _ _ rfl (HLY.out X (T1.out.fr.trans hX)))⟩) (by assumption) ?_
          (try simp only [Act.put]); (try simp only [List.setIfInBounds_toArray]); (try simp only [List.set_cons_succ]); (try simp only [List.set_cons_zero])
          refine wpAnyH_ready (rs := [5, 9]) (by kernel_rfl) (by simp) ?_
          refine (AllReadyH.cons rfl (fun K hK => ?_) (AllReadyH.cons rfl (fun K hK => ?_) AllReadyH.nil))
          · rw [if_pos (by kernel_rfl)]
            go_simp
            refine (HRK.out _).mono ?_
            rintro ex v3 ⟨rfl, hF3⟩
            have F3 := Lib.hid (hHeld.trans hF3)
            clear hF3
            refine hK.out _ _ (F3.out) (fun hHeld => ?_)
            clear hK K
            (try simp only [Act.put]); (try simp only [List.setIfInBounds_toArray]); (try simp only [List.set_cons_succ]); (try simp only [List.set_cons_zero])
            refine takeD (i := 6) (d := some 123) (v := ?_) rfl (by kernel_rfl) (by kernel_rfl) (by kernel_rfl) (by kernel_rfl) (fun _ _ _ h => h) (Or.inl ⟨by kernel_rfl, fun X hX => Or.inl ?_⟩) (by assumption) ?_
            rotate_left
            · first | (go_simp; done) | (go_simp; with_reducible rfl)
            (try simp only [Act.put]); (try simp only [List.setIfInBounds_toArray]); (try simp only [List.set_cons_succ]); (try simp only [List.set_cons_zero])
            refine takeD (i := 7) (d := some 130) (v := ?_) rfl (by kernel_rfl) (by kernel_rfl) (by kernel_rfl) (by kernel_rfl) (fun _ _ _ h => h) (Or.inl ⟨by kernel_rfl, fun X hX => Or.inl ?_⟩) (by assumption) ?_
            rotate_left
            · first | (go_simp; done) | (go_simp; with_reducible rfl)
            (try simp only [Act.put]); (try simp only [List.setIfInBounds_toArray]); (try simp only [List.set_cons_succ]); (try simp only [List.set_cons_zero])
            refine takeD (i := 8) (d := some 131) (v := ?_) rfl (by kernel_rfl) (by kernel_rfl) (by kernel_rfl) (by kernel_rfl) (fun _ _ _ h => h) (Or.inl ⟨by kernel_rfl, fun X hX => Or.inl ?_⟩) (by assumption) ?_
            rotate_left
            · first | (go_simp; done) | (go_simp; with_reducible rfl)
            (try simp only [Act.put]); (try simp only [List.setIfInBounds_toArray]); (try simp only [List.set_cons_succ]); (try simp only [List.set_cons_zero])
            refine wpAnyH_ready (rs := [9]) (by kernel_rfl) (by simp) ?_
            refine AllReadyH.cons rfl (fun K hK => ?_) AllReadyH.nil
            rw [if_pos (by kernel_rfl)]
            go_simp
            refine K_world (K := K) (fun W => Fr No v3 W ∧ Row W v3.heap.size 27 .u8 (List.replicate 32 0)) ⟨(Fr.refl No v3).alloc _, Row.new v3 27 .u8 (List.replicate 32 0)⟩ ?_
            rintro X3 ⟨hX, hRX⟩
            have RX3 := Lib.hid hRX
            have FX3 := Lib.hid (F3.out.trans hX)
            clear hX hRX
            refine hK.out _ _ (FX3.out) (fun hHeld => ?_)
            clear hK K
            (try simp only [Act.put]); (try simp only [List.setIfInBounds_toArray]); (try simp only [List.set_cons_succ]); (try simp only [List.set_cons_zero])
            refine wpAnyH_ready (rs := [10]) (by kernel_rfl) (by simp) ?_
            refine AllReadyH.cons rfl (fun K hK => ?_) AllReadyH.nil
            rw [if_pos (by kernel_rfl)]
            refine wp_store_row 27 _ _ rfl v3.heap.size rfl (arr .u8 D) rfl RX3.out arHash (by rfl) (by rw [arr_size]; exact HLD.out) (arr_one _ _) ?_
            refine hK.out _ _ (fr_setRow hHeld (.inr F3.out.size) _) (fun hHeld => ?_)
            clear hK K
            (try simp only [Act.put]); (try simp only [List.setIfInBounds_toArray]); (try simp only [List.set_cons_succ]); (try simp only [List.set_cons_zero])
            refine takeD (i := 11) (d := some 18) (v := ?_) rfl (by kernel_rfl) (by kernel_rfl) (by kernel_rfl) (by kernel_rfl) (fun _ _ _ h => h) (Or.inl ⟨by kernel_rfl, fun X hX => Or.inl ?_⟩) (by assumption) ?_
            rotate_left
            · first | (go_simp; done) | (go_simp; with_reducible rfl)
            (try simp only [Act.put]); (try simp only [List.setIfInBounds_toArray]); (try simp only [List.set_cons_succ]); (try simp only [List.set_cons_zero])
            refine wpAnyH_done (by kernel_rfl) ?_ _
            have hW8 : S2 w b rb L L (X3.setRow v3.heap.size (arr .u8 D)) := T1.out.on hHeld
            have hR8 := HR.out.fr hHeld id
            have hG8 := Row.setRow (l' := D) RX3.out
            generalize X3.setRow v3.heap.size (arr .u8 D) = W8 at *
            have T8 := Lib.hid hW8
            have HLA := Lib.hid (Row.load hR8 arHash HLD.out)
            have HLB := Lib.hid (Row.load hG8 arHash HLD.out)
            clear hHeld hW8 hR8 hG8
            go_wp2_with (first
              | (refine wpList_load_eq rfl 27 _ rfl (.pointer (some ⟨g1, 0, none⟩)) (.agg (arr .u8 D)) rfl HLA.out ?_)
              | (refine wpList_load_eq rfl 27 _ rfl (.pointer (some ⟨v3.heap.size, 0, none⟩)) (.agg (arr .u8 D)) rfl HLB.out ?_)
              | (refine wpList_execG (.bool false) (exec_bin .neq 27 (.tmp 132) (.tmp 133) 27 rfl _ _ _ rfl rfl (by kernel_rfl) (HNA.out _)) rfl ?_))
            exact ⟨⟨j + 1, by simp, HK2.out, T8.out⟩, by simp [intOf]; exact HX.out⟩
          · rw [if_pos (by kernel_rfl)]
            go_simp
            refine hK.out _ _ (hHeld.alloc _) (fun hHeld => ?_)
            clear hK K
            (try simp only [Act.put]); (try simp only [List.setIfInBounds_toArray]); (try simp only [List.set_cons_succ]); (try simp only [List.set_cons_zero])
            refine wpAnyH_ready (rs := [5]) (by kernel_rfl) (by simp) ?_
            refine AllReadyH.cons rfl (fun K hK => ?_) AllReadyH.nil
            rw [if_pos (by kernel_rfl)]
            go_simp
            refine (HRK.out _).mono ?_
            rintro ex v3 ⟨rfl, hF3⟩
            have RN3 : Hid (Row v3 Y.heap.size 27 .u8 (List.replicate 32 0)) := Lib.hid (Row.fr (w := Y.drew.alloc (.cells (arr .u8 (List.replicate 32 0)) 27)) (Row.new Y.drew 27 .u8 (List.replicate 32 0)) hF3 id)
            have F3 := Lib.hid (hHeld.trans hF3)
            clear hF3
            refine hK.out _ _ (F3.out) (fun hHeld => ?_)
            clear hK K
            (try simp only [Act.put]); (try simp only [List.setIfInBounds_toArray]); (try simp only [List.set_cons_succ]); (try simp only [List.set_cons_zero])
            refine takeD (i := 6) (d := some 123) (v := ?_) rfl (by kernel_rfl) (by kernel_rfl) (by kernel_rfl) (by kernel_rfl) (fun _ _ _ h => h) (Or.inl ⟨by kernel_rfl, fun X hX => Or.inl ?_⟩) (by assumption) ?_
            rotate_left
            · first | (go_simp; done) | (go_simp; with_reducible rfl)
            (try simp only [Act.put]); (try simp only [List.setIfInBounds_toArray]); (try simp only [List.set_cons_succ]); (try simp only [List.set_cons_zero])
            refine takeD (i := 7) (d := some 130) (v := ?_) rfl (by kernel_rfl) (by kernel_rfl) (by kernel_rfl) (by kernel_rfl) (fun _ _ _ h => h) (Or.inl ⟨by kernel_rfl, fun X hX => Or.inl ?_⟩) (by assumption) ?_
            rotate_left
            · first | (go_simp; done) | (go_simp; with_reducible rfl)
            (try simp only [Act.put]); (try simp only [List.setIfInBounds_toArray]); (try simp only [List.set_cons_succ]); (try simp only [List.set_cons_zero])
            refine takeD (i := 8) (d := some 131) (v := ?_) rfl (by kernel_rfl) (by kernel_rfl) (by kernel_rfl) (by kernel_rfl) (fun _ _ _ h => h) (Or.inl ⟨by kernel_rfl, fun X hX => Or.inl ?_⟩) (by assumption) ?_
            rotate_left
            · first | (go_simp; done) | (go_simp; with_reducible rfl)
            (try simp only [Act.put]); (try simp only [List.setIfInBounds_toArray]); (try simp only [List.set_cons_succ]); (try simp only [List.set_cons_zero])
            refine wpAnyH_ready (rs := [10]) (by kernel_rfl) (by simp) ?_
            refine AllReadyH.cons rfl (fun K hK => ?_) AllReadyH.nil
            rw [if_pos (by kernel_rfl)]
            refine wp_store_row 27 _ _ rfl Y.heap.size rfl (arr .u8 D) rfl RN3.out arHash (by rfl) (by rw [arr_size]; exact HLD.out) (arr_one _ _) ?_
            refine hK.out _ _ (fr_setRow hHeld (.inr (Nat.le_refl _)) _) (fun hHeld => ?_)
            clear hK K
            (try simp only [Act.put]); (try simp only [List.setIfInBounds_toArray]); (try simp only [List.set_cons_succ]); (try simp only [List.set_cons_zero])
            refine takeD (i := 11) (d := some 18) (v := ?_) rfl (by kernel_rfl) (by kernel_rfl) (by kernel_rfl) (by kernel_rfl) (fun _ _ _ h => h) (Or.inl ⟨by kernel_rfl, fun X hX => Or.inl ?_⟩) (by assumption) ?_
            rotate_left
            · first | (go_simp; done) | (go_simp; with_reducible rfl)
            (try simp only [Act.put]); (try simp only [List.setIfInBounds_toArray]); (try simp only [List.set_cons_succ]); (try simp only [List.set_cons_zero])
            refine wpAnyH_done (by kernel_rfl) ?_ _
            have hW8 : S2 w b rb L L (v3.setRow Y.heap.size (arr .u8 D)) := T1.out.on hHeld
            have hR8 := HR.out.fr hHeld id
            have hG8 := Row.setRow (l' := D) RN3.out
            generalize v3.setRow Y.heap.size (arr .u8 D) = W8 at *
            have T8 := Lib.hid hW8
            have HLA := Lib.hid (Row.load hR8 arHash HLD.out)
            have HLB := Lib.hid (Row.load hG8 arHash HLD.out)
            clear hHeld hW8 hR8 hG8
            go_wp2_with (first
              | (refine wpList_load_eq rfl 27 _ rfl (.pointer (some ⟨g1, 0, none⟩)) (.agg (arr .u8 D)) rfl HLA.out ?_)
              | (refine wpList_load_eq rfl 27 _ rfl (.pointer (some ⟨Y.heap.size, 0, none⟩)) (.agg (arr .u8 D)) rfl HLB.out ?_)
              | (refine wpList_execG (.bool false) (exec_bin .neq 27 (.tmp 132) (.tmp 133) 27 rfl _ _ _ rfl rfl (by kernel_rfl) (HNA.out _)) rfl ?_))
            exact ⟨⟨j + 1, by simp, HK2.out, T8.out⟩, by simp [intOf]; exact HX.out⟩
        · obtain rfl : j = m := by omega
          clear HA HM hlt hj
          go_wp2
          go_ret
          exact ⟨rfl, S0.out.fr⟩
end Go.Proofs.YtnpgcgemifoddaaDoor
