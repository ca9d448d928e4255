/- The document's purse: Release, Move. -/
import Derived.Test.YtldcglmpnildiaaPuJ
namespace Go.Proofs.Ytldcglmpnildiaa
open Go.RowKit
set_option linter.unusedVariables false
set_option maxRecDepth 100000

set_option maxHeartbeats 8000000 in
theorem rmove_any (s : Ps) (ao : Option Addr) (cap : Nat) (f t : Int) (m : Nat) (w : World) (hd : DAt ao cap s w) (W : s.Wf) (hm : m < 18446744073709551616) : Calls Try.prog 31 #[vP ao s.b.length cap s.h, .int .i64 f, .int .i64 t, .int .u64 (m : Int)] w fun e w' => DAct w ao (s.movS f t m) (s.movE f t m) e w' := by
  obtain ⟨L, hL⟩ : ∃ L, L = cellsP ao s.b.length cap s.h := ⟨_, rfl⟩
  have HL := Lib.hid hL
  have HL65 : Hid (L.length = 65) := Lib.hid (by rw [hL]; exact cellsP_len W.hl)
  have HL1 : Hid (∀ u ∈ L, u.oneCell' = true) := Lib.hid (by rw [hL]; exact cellsP_one)
  have HR : Hid (RB w w.heap.size (w.heap.size + 1) L zeroP ((w.alloc (.cells L.toArray 32)).alloc (.cells zeroP.toArray 32))) := Lib.hid (RB.new w L)
  have HAL := Lib.hid (alloc_box w L)
  obtain ⟨q, hq⟩ : ∃ q, q = w.heap.size := ⟨_, rfl⟩
  obtain ⟨c, hc⟩ : ∃ c, c = w.heap.size + 1 := ⟨_, rfl⟩
  rw [← hc] at HAL
  have HQ := Lib.hid hq
  have HC := Lib.hid hc
  have HD := Lib.hid hd
  have HW := Lib.hid W
  clear hq hc
  have HIF := Lib.hid (fun X => rin_any s ao cap f X W.b2)
  have HIT := Lib.hid (fun X => rin_any s ao cap t X W.b2)
  rw [vP, ← hL] at HIF HIT ⊢
  obtain ⟨y, hy⟩ : ∃ y, y = s.has f := ⟨_, rfl⟩
  obtain ⟨z, hz⟩ : ∃ z, z = s.has t := ⟨_, rfl⟩
  rw [← hy] at HIF
  rw [← hz] at HIT
  cases y with
  | false =>
    have e1 : s.movE f t m = 3 := if_pos (.inl hy.symm)
    have e3 : s.movS f t m = s := if_neg (by rw [e1]; omega)
    rw [e1, e3]
    clear hd W hy hz e1 e3 hL hm
    go_enter Try.func31, Try.ntmps31
    go_wp2_with (first
      | (refine wpList_execG (.pointer (some ⟨c, 0, none⟩)) (exec_alloc 32 rfl _ HAL.out) rfl ?_
         rw [← HQ.out]
         refine wpList_world (fun W => RB w q c L zeroP W) (by rw [HQ.out, HC.out]; exact HR.out) ?_
         intro X hX
         have HX := Lib.hid hX
         have HLD := Lib.hid (load_rp hX.box HL65.out)
         clear hX)
      | (refine wpList_load_eq rfl 32 _ rfl (.pointer (some ⟨q, 0, none⟩)) (.agg L.toArray) rfl HLD.out ?_))
    refine (HIF.out _).mono ?_
    rintro e X1 ⟨rfl, hF1⟩
    have HX := Lib.hid (HX.out.on hF1)
    have HLD := Lib.hid (load_rp HX.out.box HL65.out)
    clear hF1
    obtain ⟨Z, hZ, hZv, hZF, hZc⟩ := HX.out.put (cellsP_len rfl) HL65.out HL1.out
    have HST := Lib.hid hZ
    have HSV := Lib.hid hZv
    have HFZ := Lib.hid hZF
    clear hZ hZv hZF hZc
    go_wp2_with (first
      | (refine wpList_load_eq rfl 32 _ rfl (.pointer (some ⟨q, 0, none⟩)) (.agg L.toArray) rfl HLD.out ?_)
      | (refine wpList_store_eq rfl 32 _ _ rfl (.pointer (some ⟨c, 0, none⟩)) (.agg L.toArray) rfl rfl HST.out ?_))
    exact bodyPost_ret (results_cellT rfl rfl rfl HSV.out) rfl ⟨_, cap, by rw [HL.out]; rfl, .inl rfl, HD.out.no HFZ.out, HFZ.out⟩
  | true =>
    cases z with
    | false =>
      have e1 : s.movE f t m = 3 := if_pos (.inr hz.symm)
      have e3 : s.movS f t m = s := if_neg (by rw [e1]; omega)
      rw [e1, e3]
      clear hd W hy hz e1 e3 hL hm
      go_enter Try.func31, Try.ntmps31
      go_wp2_with (first
        | (refine wpList_execG (.pointer (some ⟨c, 0, none⟩)) (exec_alloc 32 rfl _ HAL.out) rfl ?_
           rw [← HQ.out]
           refine wpList_world (fun W => RB w q c L zeroP W) (by rw [HQ.out, HC.out]; exact HR.out) ?_
           intro X hX
           have HX := Lib.hid hX
           have HLD := Lib.hid (load_rp hX.box HL65.out)
           clear hX)
        | (refine wpList_load_eq rfl 32 _ rfl (.pointer (some ⟨q, 0, none⟩)) (.agg L.toArray) rfl HLD.out ?_))
      refine (HIF.out _).mono ?_
      rintro e X1 ⟨rfl, hF1⟩
      have HX := Lib.hid (HX.out.on hF1)
      have HLD := Lib.hid (load_rp HX.out.box HL65.out)
      clear hF1
      go_wp2_with (first | (refine wpList_load_eq rfl 32 _ rfl (.pointer (some ⟨q, 0, none⟩)) (.agg L.toArray) rfl HLD.out ?_) | (refine wpList_load_eqG 32 _ rfl (.pointer (some ⟨q, 0, none⟩)) (.agg L.toArray) rfl HLD.out (by kernel_rfl) ?_))
      refine (HIT.out _).mono ?_
      rintro e X1 ⟨rfl, hF1⟩
      have HX := Lib.hid (HX.out.on hF1)
      have HLD := Lib.hid (load_rp HX.out.box HL65.out)
      clear hF1
      obtain ⟨Z, hZ, hZv, hZF, hZc⟩ := HX.out.put (cellsP_len rfl) HL65.out HL1.out
      have HST := Lib.hid hZ
      have HSV := Lib.hid hZv
      have HFZ := Lib.hid hZF
      clear hZ hZv hZF hZc
      go_wp2_with (first
        | (refine wpList_load_eq rfl 32 _ rfl (.pointer (some ⟨q, 0, none⟩)) (.agg L.toArray) rfl HLD.out ?_)
        | (refine wpList_store_eq rfl 32 _ _ rfl (.pointer (some ⟨c, 0, none⟩)) (.agg L.toArray) rfl rfl HST.out ?_))
      exact bodyPost_ret (results_cellT rfl rfl rfl HSV.out) rfl ⟨_, cap, by rw [HL.out]; rfl, .inl rfl, HD.out.no HFZ.out, HFZ.out⟩
    | true =>
      obtain ⟨k, rfl, hk⟩ := Ps.has_nat hy.symm
      obtain ⟨j, rfl, hj⟩ := Ps.has_nat hz.symm
      have e0 : ¬ (s.has (k : Int) = false ∨ s.has (j : Int) = false) := by rw [← hy, ← hz]; simp
      by_cases h0 : m = 0
      · have e1 : s.movE (k : Int) (j : Int) m = 1 := by unfold Ps.movE; rw [if_neg e0, if_pos h0]
        have e3 : s.movS (k : Int) (j : Int) m = s := if_neg (by rw [e1]; omega)
        rw [e1, e3]
        have t0 : ((m : Int) == 0) = true := by rw [h0]; rfl
        clear hd W hy hz e1 e3 h0 e0 hL hm
        go_enter Try.func31, Try.ntmps31
        go_wp2_with (first
          | (refine wpList_execG (.pointer (some ⟨c, 0, none⟩)) (exec_alloc 32 rfl _ HAL.out) rfl ?_
             rw [← HQ.out]
             refine wpList_world (fun W => RB w q c L zeroP W) (by rw [HQ.out, HC.out]; exact HR.out) ?_
             intro X hX
             have HX := Lib.hid hX
             have HLD := Lib.hid (load_rp hX.box HL65.out)
             clear hX)
          | (refine wpList_load_eq rfl 32 _ rfl (.pointer (some ⟨q, 0, none⟩)) (.agg L.toArray) rfl HLD.out ?_))
        refine (HIF.out _).mono ?_
        rintro e X1 ⟨rfl, hF1⟩
        have HX := Lib.hid (HX.out.on hF1)
        have HLD := Lib.hid (load_rp HX.out.box HL65.out)
        clear hF1
        go_wp2_with (first | (refine wpList_load_eq rfl 32 _ rfl (.pointer (some ⟨q, 0, none⟩)) (.agg L.toArray) rfl HLD.out ?_) | (refine wpList_load_eqG 32 _ rfl (.pointer (some ⟨q, 0, none⟩)) (.agg L.toArray) rfl HLD.out (by kernel_rfl) ?_))
        refine (HIT.out _).mono ?_
        rintro e X1 ⟨rfl, hF1⟩
        have HX := Lib.hid (HX.out.on hF1)
        have HLD := Lib.hid (load_rp HX.out.box HL65.out)
        clear hF1
        obtain ⟨Z, hZ, hZv, hZF, hZc⟩ := HX.out.put (cellsP_len rfl) HL65.out HL1.out
        have HST := Lib.hid hZ
        have HSV := Lib.hid hZv
        have HFZ := Lib.hid hZF
        clear hZ hZv hZF hZc
        go_wp2_with (first
          | (refine wpList_load_eq rfl 32 _ rfl (.pointer (some ⟨q, 0, none⟩)) (.agg L.toArray) rfl HLD.out ?_)
          | (refine wpList_store_eq rfl 32 _ _ rfl (.pointer (some ⟨c, 0, none⟩)) (.agg L.toArray) rfl rfl HST.out ?_))
        exact bodyPost_ret (results_cellT rfl rfl rfl HSV.out) rfl ⟨_, cap, by rw [HL.out]; rfl, .inl rfl, HD.out.no HFZ.out, HFZ.out⟩
      · have t0 : ((m : Int) == 0) = false := by rw [beq_eq_false_iff_ne]; omega
        obtain ⟨x, hx⟩ : ∃ x, x = s.bal k := ⟨_, rfl⟩
        have HXK := Lib.hid hx
        have HK := Lib.hid hk
        obtain ⟨n, hn⟩ : ∃ n, n = s.b.length := ⟨_, rfl⟩
        have HN := Lib.hid hn
        have t9 : (k : Int) < (n : Int) := by omega
        have t8 : 0 ≤ (k : Int) := by omega
        by_cases hxm : x < m
        · have t6 : (x : Int) < (m : Int) := by omega
          have e1 : s.movE (k : Int) (j : Int) m = 61 := by unfold Ps.movE; rw [if_neg e0, if_neg h0, Int.toNat_natCast, ← hx, if_pos hxm]
          have e3 : s.movS (k : Int) (j : Int) m = s := if_neg (by rw [e1]; omega)
          rw [e1, e3]
          clear hd W hy hz e1 e3 h0 e0 hL hm hx hk hj hn hxm
          go_enter Try.func31, Try.ntmps31
          go_wp2_with (first
            | (refine wpList_execG (.pointer (some ⟨c, 0, none⟩)) (exec_alloc 32 rfl _ HAL.out) rfl ?_
               rw [← HQ.out]
               refine wpList_world (fun W => RB w q c L zeroP W) (by rw [HQ.out, HC.out]; exact HR.out) ?_
               intro X hX
               have HX := Lib.hid hX
               have HLD := Lib.hid (load_rp hX.box HL65.out)
               clear hX)
            | (refine wpList_load_eq rfl 32 _ rfl (.pointer (some ⟨q, 0, none⟩)) (.agg L.toArray) rfl HLD.out ?_))
          refine (HIF.out _).mono ?_
          rintro e X1 ⟨rfl, hF1⟩
          have HX := Lib.hid (HX.out.on hF1)
          have HLD := Lib.hid (load_rp HX.out.box HL65.out)
          clear hF1
          go_wp2_with (first | (refine wpList_load_eq rfl 32 _ rfl (.pointer (some ⟨q, 0, none⟩)) (.agg L.toArray) rfl HLD.out ?_) | (refine wpList_load_eqG 32 _ rfl (.pointer (some ⟨q, 0, none⟩)) (.agg L.toArray) rfl HLD.out (by kernel_rfl) ?_))
          refine (HIT.out _).mono ?_
          rintro e X1 ⟨rfl, hF1⟩
          have HX := Lib.hid (HX.out.on hF1)
          have HLD := Lib.hid (load_rp HX.out.box HL65.out)
          clear hF1
          obtain ⟨r0, hr0, ck⟩ := (HD.out.no HX.out.fr).row k HK.out
          rw [← HXK.out] at ck
          have c0 := HX.out.box.cell (i := 0) (v := .slice ao n cap) (by rw [HL.out, HN.out]; rfl)
          rw [hr0] at c0
          obtain ⟨Z, hZ, hZv, hZF, hZc⟩ := HX.out.put (cellsP_len rfl) HL65.out HL1.out
          have HST := Lib.hid hZ
          have HSV := Lib.hid hZv
          have HFZ := Lib.hid hZF
          clear hZ hZv hZF hZc
          go_wp2_with (first
            | (refine wpList_load_eq rfl 32 _ rfl (.pointer (some ⟨q, 0, none⟩)) (.agg L.toArray) rfl HLD.out ?_)
            | (refine wpList_store_eq rfl 32 _ _ rfl (.pointer (some ⟨c, 0, none⟩)) (.agg L.toArray) rfl rfl HST.out ?_))
          exact bodyPost_ret (results_cellT rfl rfl rfl HSV.out) rfl ⟨_, cap, by rw [HL.out]; rfl, .inl rfl, HD.out.no HFZ.out, HFZ.out⟩
        · have t6 : ¬ (x : Int) < (m : Int) := by omega
          have e1 : s.movE (k : Int) (j : Int) m = 0 := by unfold Ps.movE; rw [if_neg e0, if_neg h0, Int.toNat_natCast, ← hx, if_neg hxm]
          have e3 : s.movS (k : Int) (j : Int) m = (s.less k m).more j m := by unfold Ps.movS; rw [if_pos e1, Int.toNat_natCast, Int.toNat_natCast]
          obtain ⟨d, hdd⟩ : ∃ d : Int, d = 18446744073709551616 - (m : Int) := ⟨_, rfl⟩
          have hx1 : x ≤ 1125899906842624 := by rw [hx]; exact Nat.le_trans (Ps.bal_le hk) W.top
          have w1 : IntKind.u64.wrap (-(m : Int)) = d := by rw [IntKind.wrap_u64]; omega
          obtain ⟨v, hv⟩ : ∃ v, v = x - m := ⟨_, rfl⟩
          have hw2 : IntKind.u64.wrap ((s.bal k : Int) + d) = (v : Int) := by rw [IntKind.wrap_u64, ← hx]; omega
          have hmk : m ≤ s.bal k := by omega
          have W2 := W.mov hk hj hmk
          obtain ⟨s1, hs1⟩ : ∃ t, t = s.less k m := ⟨_, rfl⟩
          have HS1 : Hid (s1 = ⟨s.b.set k v, s.h⟩) := Lib.hid (by rw [hs1, hv, hx]; rfl)
          have hl1 : s1.b.length = s.b.length := by rw [hs1]; exact Ps.len_less _ _ _
          rw [← hs1] at W2 e3
          obtain ⟨v2, hv2⟩ : ∃ v, v = s1.bal j + m := ⟨_, rfl⟩
          have hw3 : IntKind.u64.wrap ((s1.bal j : Int) + (m : Int)) = (v2 : Int) := by
            have a1 := Ps.bal_le (s := s1.more j m) (i := j) (by rw [Ps.len_more]; omega)
            rw [Ps.bal_more s1 m (by omega), if_pos rfl] at a1
            have a3 := W2.top
            rw [IntKind.wrap_u64]
            omega
          obtain ⟨s', hs'⟩ : ∃ t, t = s.movS (k : Int) (j : Int) m := ⟨_, rfl⟩
          have HS2 : Hid (s' = ⟨s1.b.set j v2, s1.h⟩) := Lib.hid (by rw [hs', e3, hv2]; rfl)
          have HAD := Lib.hid (fun X (hX : DAt ao cap s X) => radd9_any s ao cap k v d X hX W.hl W.b2 hk hw2)
          rw [vP, ← HL.out] at HAD
          have HAD2 := Lib.hid (fun ao' c' X (hX : DAt ao' c' s1 X) => radd9_any s1 ao' c' j v2 (m : Int) X hX (by rw [hs1]; exact W.hl) (by rw [hl1]; exact W.b2) (by omega) hw3)
          have HLL := Lib.hid hl1
          rw [e1, ← hs']
          clear hd W hy hz e1 e3 h0 e0 hL hm hx hk hj hn hxm hdd hx1 hv hw2 hmk W2 hs1 hl1 hv2 hw3 hs'
          go_enter Try.func31, Try.ntmps31
          go_wp2_with (first
            | (refine wpList_execG (.pointer (some ⟨c, 0, none⟩)) (exec_alloc 32 rfl _ HAL.out) rfl ?_
               rw [← HQ.out]
               refine wpList_world (fun W => RB w q c L zeroP W) (by rw [HQ.out, HC.out]; exact HR.out) ?_
               intro X hX
               have HX := Lib.hid hX
               have HLD := Lib.hid (load_rp hX.box HL65.out)
               clear hX)
            | (refine wpList_load_eq rfl 32 _ rfl (.pointer (some ⟨q, 0, none⟩)) (.agg L.toArray) rfl HLD.out ?_))
          refine (HIF.out _).mono ?_
          rintro e X1 ⟨rfl, hF1⟩
          have HX := Lib.hid (HX.out.on hF1)
          have HLD := Lib.hid (load_rp HX.out.box HL65.out)
          clear hF1
          go_wp2_with (first | (refine wpList_load_eq rfl 32 _ rfl (.pointer (some ⟨q, 0, none⟩)) (.agg L.toArray) rfl HLD.out ?_) | (refine wpList_load_eqG 32 _ rfl (.pointer (some ⟨q, 0, none⟩)) (.agg L.toArray) rfl HLD.out (by kernel_rfl) ?_))
          refine (HIT.out _).mono ?_
          rintro e X1 ⟨rfl, hF1⟩
          have HX := Lib.hid (HX.out.on hF1)
          have HLD := Lib.hid (load_rp HX.out.box HL65.out)
          clear hF1
          obtain ⟨r0, hr0, ck⟩ := (HD.out.no HX.out.fr).row k HK.out
          rw [← HXK.out] at ck
          have c0 := HX.out.box.cell (i := 0) (v := .slice ao n cap) (by rw [HL.out, HN.out]; rfl)
          rw [hr0] at c0
          go_wp2_with (first | (refine wpList_load_eq rfl 32 _ rfl (.pointer (some ⟨q, 0, none⟩)) (.agg L.toArray) rfl HLD.out ?_))
          refine (HAD.out _ (HD.out.no HX.out.fr)).mono ?_
          rintro e Y1 ⟨r, c', rfl, hr, hD1, hF1⟩
          have HX1 := Lib.hid (HX.out.on hF1)
          have hA2 := HAD2.out (some ⟨r, 0, none⟩) c' Y1 (by rw [HS1.out]; exact hD1)
          rw [show s1.h = s.h by rw [HS1.out], HLL.out] at hA2
          have HA2 := Lib.hid hA2
          obtain ⟨N, hN⟩ : ∃ N, N = vP (some ⟨r, 0, none⟩) s.b.length c' s.h := ⟨_, rfl⟩
          rw [← hN] at HA2 ⊢
          clear hr hD1 hF1 hA2 hN ck c0 hr0
          go_wp2_with fail
          refine HA2.out.mono ?_
          rintro e Y2 ⟨r2, c2, rfl, hr2, hD2, hF2⟩
          have HX2 := Lib.hid (HX1.out.on hF2)
          have HR2 : Hid (w.heap.size ≤ r2 ∧ c < r2) := Lib.hid ⟨by have := HX1.out.fr.size; omega, by have := HX1.out.res.lt; omega⟩
          obtain ⟨N2, hN2⟩ : ∃ N2, N2 = cellsP (some ⟨r2, 0, none⟩) s.b.length c2 s.h := ⟨_, rfl⟩
          obtain ⟨Z, hZ, hZv, hZF, hZc⟩ := HX2.out.put (cellsP_len rfl) (N := N2) (by rw [hN2]; exact cellsP_len HW.out.hl) (by rw [hN2]; exact cellsP_one)
          have HST := Lib.hid hZ
          have HSV := Lib.hid hZv
          have HFZ := Lib.hid hZF
          have HN2 := Lib.hid hN2
          have HDZ : Hid (DAt (some ⟨r2, 0, none⟩) c2 s' Z) := Lib.hid (by
            rw [HS2.out]
            refine (DAt.congr (t := ⟨s1.b.set j v2, s1.h⟩) hD2 rfl).fr hZc (fun a ha => ?_)
            injection ha with ha
            subst ha
            have := HR2.out
            show ¬ r2 = c
            omega)
          rw [vP, ← hN2]
          clear hr2 hD2 hF2 hN2 hZ hZv hZF hZc
          go_wp2_with (refine wpList_store_eq rfl 32 _ _ rfl (.pointer (some ⟨c, 0, none⟩)) (.agg N2.toArray) rfl rfl HST.out ?_)
          exact bodyPost_ret (results_cellT rfl rfl rfl HSV.out) rfl ⟨some ⟨r2, 0, none⟩, c2, by rw [HN2.out, HS2.out, List.length_set, HLL.out, HS1.out]; rfl, .inr ⟨r2, HR2.out.1, rfl⟩, HDZ.out, HFZ.out⟩
end Go.Proofs.Ytldcglmpnildiaa
