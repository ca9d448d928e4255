/- The walk of 'FrameLeft'. -/
import Derived.Test.YtejobioddkhinaaFrL
import Derived.Deep.Slices
namespace Go.Proofs.Ytejobioddkhinaa
open Go.RowKit
set_option linter.unusedVariables false
set_option maxRecDepth 100000

theorem isF_len {s : List UInt8} (h : isF s = true) : s.length = 2 + (textF s).length + (restF s).length := by
  obtain ⟨h1, h2, h3⟩ := (isF_iff s).1 h
  rw [textF, restF, if_pos h, if_pos h, List.length_take, List.length_drop, List.length_drop]
  omega
theorem bad_no {s : List UInt8} (h : badF s = true) : isF s = false := by
  have h1 : lenH s = 0 ∨ 1024 < lenH s := of_decide_eq_true h
  exact decide_eq_false (by omega)
theorem noF_rest {s : List UInt8} (h : isF s = false) : restF s = s := by rw [restF, if_neg (by rw [h]; decide)]

set_option maxHeartbeats 1000000 in
theorem left_long (ao : Option Addr) (n cap : Nat) (w : World) (hn : 40 < n) : Calls Try.prog 6 #[.slice ao n cap] w fun e w' => e = .returned (.bool true) ∧ Fr No w w' := by
  have t0 : (40 : Int) < (n : Int) := by omega
  clear hn
  go_enter Try.func6, Try.ntmps6
  go_wp2_with fail
  refine (shown8_any _).mono ?_
  rintro e w1 ⟨rfl, hF⟩
  have HF := Lib.hid hF
  clear hF
  go_wp2
  go_ret
  exact ⟨rfl, HF.out⟩

set_option maxHeartbeats 4000000 in
theorem left_ok (ao : Option Addr) (n cap : Nat) (ss : Nat → List UInt8) (w : World) (hn : n ≤ 40) (hel : ∀ i, i < n → ∃ a, ao = some a ∧ w.cell? (a.add i) = some (.string (str (ss i))) ∧ (ss i).length ≤ maxLen) :
    Calls Try.prog 6 #[.slice ao n cap] w fun e w' => e = .returned (.bool true) ∧ Fr No w w' := by
  have t0 : ¬ (40 : Int) < (n : Int) := by omega
  have HE := Lib.hid hel
  have HN := Lib.hid hn
  clear hn hel
  go_enter Try.func6, Try.ntmps6
  go_wp2_with fail
  refine (shown8_any _).mono ?_
  rintro e w1 ⟨rfl, hF⟩
  have F1 := Lib.hid hF
  clear hF
  go_wp2_with (refine wpList_execG (.agg zeroSp.toArray) (exec_build 29 #[] rfl #[] (by rfl) _ (sp_build _)) rfl ?_)
  refine wp_world (fun W => Fr No w W ∧ Sp w1.heap.size w1.heap.size [] W) ⟨F1.out.alloc _, Sp.new _ w1 (Nat.le_refl _)⟩ ?_
  rintro w2 ⟨hF2, hS2⟩
  obtain ⟨p, hp⟩ : ∃ p, p = w1.heap.size := ⟨_, rfl⟩
  rw [← hp] at hS2 ⊢
  have HP : Hid (w.heap.size ≤ p) := Lib.hid (by have := F1.out.size; omega)
  have F2 := Lib.hid hF2
  have S2 := Lib.hid hS2
  clear hF2 hS2 hp F1
  go_loopw [4, 5, 6] (fun x y c wr => ∃ (i : Nat) (r : List UInt8) (C T : Nat), i ≤ n ∧ c = .int .i64 i ∧ x = .int .i64 C ∧ y = .int .i64 T ∧ C = T + r.length ∧ C ≤ 1500 * i ∧ Sp p p r wr ∧ Fr No w wr) (fun _ _ c _ => n - (intOf c).toNat)
  case atStart => exact ⟨0, [], 0, 0, by omega, rfl, rfl, rfl, rfl, by omega, S2.out, F2.out⟩
  clear F2 S2
  case round =>
    obtain ⟨i, r, C, T, hi, rfl, rfl, rfl, hC, hC2, hS, hF⟩ := hrel
    by_cases hlt : i < n
    · have hlt2 : (i : Int) < n := by omega
      obtain ⟨a, rfl, hca, hsl⟩ := HE.out i hlt
      obtain ⟨q, hq⟩ : ∃ q, q = a.add i := ⟨_, rfl⟩
      rw [← hq] at hca
      obtain ⟨s, hs⟩ : ∃ s, s = ss i := ⟨_, rfl⟩
      rw [← hs] at hca hsl
      have hq' : a.add i = q := hq.symm
      have hsz := str_size s
      obtain ⟨L, hL⟩ : ∃ L, L = s.length := ⟨_, rfl⟩
      have cq := hF.cellA id hca
      have HCA := Lib.hid hca
      obtain ⟨U, hU⟩ : ∃ U, U = str s := ⟨_, rfl⟩
      rw [← hU] at cq hsz HCA
      have hszU : (U.size : Int) = (L : Int) := by omega
      have HF := Lib.hid hF
      have HI : Hid (i + 1 ≤ n ∧ n ≤ 40) := Lib.hid ⟨hlt, HN.out⟩
      clear hs hsl hq hca hsz hF hlt hi
      by_cases hbig : 1500 < L
      · have hb2 : (1500 : Int) < (L : Int) := by omega
        clear hC hC2 hS hbig hL hU
        go_wp2_with fail
        refine (shown8_any _).mono ?_
        rintro e w3 ⟨rfl, hF3⟩
        have HF3 := Lib.hid (HF.out.trans hF3)
        clear hF3
        go_wp2
        go_ret
        exact ⟨rfl, HF3.out⟩
      · have hb2 : ¬ (1500 : Int) < (L : Int) := by omega
        have hp := fpush_any p p r s _ hS (by have := HI.out; omega) (by omega)
        rw [← hU] at hp
        obtain ⟨R, hR⟩ : ∃ R, R = pushV r s := ⟨_, rfl⟩
        have hRl := pushV_le r s
        rw [← hR] at hp hRl
        have HPU := Lib.hid hp
        -- how many came
        obtain ⟨D, hD⟩ : ∃ D, D = T + R.length := ⟨_, rfl⟩
        have hD2 : D ≤ 1500 * (i + 1) := by omega
        have hRl2 : R.length ≤ 60000 := by have := HI.out; omega
        have HB := Lib.hid (fun X (h : Sp p p R X) => fbad_any p p R X h (by omega))
        have HX := Lib.hid (fun X (h : Sp p p R X) => fnext_any p p R X h (by omega))
        obtain ⟨tx, htx⟩ : ∃ t, t = textF R := ⟨_, rfl⟩
        obtain ⟨rs, hrs⟩ : ∃ t, t = restF R := ⟨_, rfl⟩
        obtain ⟨y, hy⟩ : ∃ t, t = isF R := ⟨_, rfl⟩
        rw [← htx, ← hrs, ← hy] at HX
        have hrl := restF_le R
        rw [← hrs] at hrl
        have HLE := Lib.hid (fun X (h : Sp p p rs X) => fleft_any p p rs X h (by omega))
        have htl := str_size tx
        obtain ⟨V, hV⟩ : ∃ V, V = str tx := ⟨_, rfl⟩
        rw [← hV] at htl HX
        have hlen : y = true → R.length = 2 + tx.length + rs.length := fun h => by
          rw [htx, hrs]
          exact isF_len (by rw [← hy]; exact h)
        have hnol : y = false → rs = R := fun h => by
          rw [hrs]
          exact noF_rest (by rw [← hy]; exact h)
        obtain ⟨K, hK⟩ : ∃ K, K = rs.length := ⟨_, rfl⟩
        obtain ⟨X, hXl⟩ : ∃ X, X = tx.length := ⟨_, rfl⟩
        rw [← hK] at HLE hrl hlen
        rw [← hXl] at htl hlen
        have htl2 : (V.size : Int) = (X : Int) := by omega
        have hni := HI.out
        have e3 : IntKind.i64.wrap ((i : Int) + 1) = ((i + 1 : Nat) : Int) := IntWalk.i64_in _ (by omega)
        have t3 : ¬ (K : Int) < 0 := by omega
        have HQ : Hid (n - (i + 1) < n - i) := Lib.hid (by omega)
        have hrK : rs.length = K := hK.symm
        by_cases hbad : badF r = true
        · skip
          have e1 : pushE r = 80 := by rw [pushE, if_pos hbad]
          have e2 : R = r := by rw [hR, pushV, if_pos hbad]
          have hbR : badF R = true := by rw [e2]; exact hbad
          rw [e1] at HPU
          rw [hbR] at HB
          obtain rfl : y = false := by
            rw [hy, e2]
            exact bad_no hbad
          have hKr : K = r.length := by rw [hK, hnol rfl, e2]
          have s1 : (C : Int) - (T : Int) = (K : Int) := by omega
          have w1' : IntKind.i64.wrap (K : Int) = (K : Int) := IntWalk.i64_in _ (by omega)
          have HEND : Hid (C = T + rs.length ∧ C ≤ 1500 * (i + 1)) := Lib.hid (by omega)
          clear hC hC2 hS hp hR hRl hD hD2 hRl2 htx hrs hy hrl htl hlen hnol hbad e1 hK hXl hV hbig hL hU hni hrK e2 hbR hKr
          go_wp2_with fail
          refine (HPU.out).mono ?_
          rintro e x1 ⟨rfl, hS', hk⟩
          have S1 := Lib.hid hS'
          have F_x1 := Lib.hid (KSp.no HF.out hk HP.out)
          clear hS' hk
          go_wp2_with fail
          refine (HB.out _ S1.out).mono ?_
          rintro e x2 ⟨rfl, hS', hk⟩
          have S2 := Lib.hid hS'
          have F_x2 := Lib.hid (KSp.no F_x1.out hk HP.out)
          clear hS' hk
          go_wp2_with fail
          refine (HX.out _ S2.out).mono ?_
          rintro e x3 ⟨rfl, hS', hk⟩
          have S3 := Lib.hid hS'
          have F_x3 := Lib.hid (KSp.no F_x2.out hk HP.out)
          clear hS' hk
          go_wp2_with fail
          refine (HLE.out _ S3.out).mono ?_
          rintro e x4 ⟨rfl, hS', hk⟩
          have S4 := Lib.hid hS'
          have F_x4 := Lib.hid (KSp.no F_x3.out hk HP.out)
          clear hS' hk
          clear HPU HB HX HLE
          go_wp2
          exact ⟨⟨i + 1, rs, C, T, HI.out.1, by simp, rfl, rfl, HEND.out.1, HEND.out.2, S4.out, F_x4.out⟩, by simpa [intOf] using HQ.out⟩
        by_cases hyy : y = true
        · skip
          have e1 : pushE r = 0 := by rw [pushE, if_neg hbad]
          have e2 : R = r ++ s := by rw [hR, pushV, if_neg hbad]
          have e2l : R.length = r.length + L := by rw [e2, List.length_append, hL]
          rw [e1] at HPU
          obtain ⟨C', hC'⟩ : ∃ C', C' = C + L := ⟨_, rfl⟩
          have a1 : (C : Int) + (L : Int) = (C' : Int) := by omega
          have a2 : IntKind.i64.wrap (C' : Int) = (C' : Int) := IntWalk.i64_in _ (by omega)
          obtain rfl : y = true := hyy
          have hll := hlen rfl
          obtain ⟨Q, hQ⟩ : ∃ Q, Q = 2 + X := ⟨_, rfl⟩
          obtain ⟨T', hT'⟩ : ∃ Q', Q' = T + Q := ⟨_, rfl⟩
          have a3 : (2 : Int) + (X : Int) = (Q : Int) := by omega
          have a4 : IntKind.i64.wrap (Q : Int) = (Q : Int) := IntWalk.i64_in _ (by omega)
          have a5 : (T : Int) + (Q : Int) = (T' : Int) := by omega
          have a6 : IntKind.i64.wrap (T' : Int) = (T' : Int) := IntWalk.i64_in _ (by omega)
          have s1 : (C' : Int) - (T' : Int) = (K : Int) := by omega
          have w1' : IntKind.i64.wrap (K : Int) = (K : Int) := IntWalk.i64_in _ (by omega)
          have HEND : Hid (C' = T' + rs.length ∧ C' ≤ 1500 * (i + 1)) := Lib.hid (by omega)
          clear hC hC2 hS hp hR hRl hD hD2 hRl2 htx hrs hy hrl htl hlen hnol hbad e1 hK hXl hV hbig hL hU hni hrK e2 e2l hC' hll hQ hT'
          go_wp2_with fail
          refine (HPU.out).mono ?_
          rintro e x1 ⟨rfl, hS', hk⟩
          have S1 := Lib.hid hS'
          have F_x1 := Lib.hid (KSp.no HF.out hk HP.out)
          clear hS' hk
          have cq1 := F_x1.out.cellA id HCA.out
          go_wp2_with fail
          refine (HX.out _ S1.out).mono ?_
          rintro e x3 ⟨rfl, hS', hk⟩
          have S3 := Lib.hid hS'
          have F_x3 := Lib.hid (KSp.no F_x1.out hk HP.out)
          clear hS' hk
          go_wp2_with fail
          refine (HLE.out _ S3.out).mono ?_
          rintro e x4 ⟨rfl, hS', hk⟩
          have S4 := Lib.hid hS'
          have F_x4 := Lib.hid (KSp.no F_x3.out hk HP.out)
          clear hS' hk
          go_wp2_with fail
          refine (HLE.out _ S4.out).mono ?_
          rintro e x5 ⟨rfl, hS', hk⟩
          have S5 := Lib.hid hS'
          have F_x5 := Lib.hid (KSp.no F_x4.out hk HP.out)
          clear hS' hk
          clear HPU HB HX HLE
          go_wp2
          exact ⟨⟨i + 1, rs, C', T', HI.out.1, by simp, rfl, rfl, HEND.out.1, HEND.out.2, S5.out, F_x5.out⟩, by simpa [intOf] using HQ.out⟩
        · skip
          have e1 : pushE r = 0 := by rw [pushE, if_neg hbad]
          have e2 : R = r ++ s := by rw [hR, pushV, if_neg hbad]
          have e2l : R.length = r.length + L := by rw [e2, List.length_append, hL]
          rw [e1] at HPU
          obtain ⟨C', hC'⟩ : ∃ C', C' = C + L := ⟨_, rfl⟩
          have a1 : (C : Int) + (L : Int) = (C' : Int) := by omega
          have a2 : IntKind.i64.wrap (C' : Int) = (C' : Int) := IntWalk.i64_in _ (by omega)
          obtain rfl : y = false := by simpa using hyy
          have hKr : K = r.length + L := by rw [hK, hnol rfl, e2l]
          have s1 : (C' : Int) - (T : Int) = (K : Int) := by omega
          have w1' : IntKind.i64.wrap (K : Int) = (K : Int) := IntWalk.i64_in _ (by omega)
          have HEND : Hid (C' = T + rs.length ∧ C' ≤ 1500 * (i + 1)) := Lib.hid (by omega)
          clear hC hC2 hS hp hR hRl hD hD2 hRl2 htx hrs hy hrl htl hlen hnol hbad e1 hK hXl hV hbig hL hU hni hrK e2 e2l hC' hKr hyy
          go_wp2_with fail
          refine (HPU.out).mono ?_
          rintro e x1 ⟨rfl, hS', hk⟩
          have S1 := Lib.hid hS'
          have F_x1 := Lib.hid (KSp.no HF.out hk HP.out)
          clear hS' hk
          have cq1 := F_x1.out.cellA id HCA.out
          go_wp2_with fail
          refine (HX.out _ S1.out).mono ?_
          rintro e x3 ⟨rfl, hS', hk⟩
          have S3 := Lib.hid hS'
          have F_x3 := Lib.hid (KSp.no F_x1.out hk HP.out)
          clear hS' hk
          go_wp2_with fail
          refine (HLE.out _ S3.out).mono ?_
          rintro e x4 ⟨rfl, hS', hk⟩
          have S4 := Lib.hid hS'
          have F_x4 := Lib.hid (KSp.no F_x3.out hk HP.out)
          clear hS' hk
          clear HPU HB HX HLE
          go_wp2
          exact ⟨⟨i + 1, rs, C', T, HI.out.1, by simp, rfl, rfl, HEND.out.1, HEND.out.2, S4.out, F_x4.out⟩, by simpa [intOf] using HQ.out⟩
    · have hlt2 : ¬ (i : Int) < n := by omega
      have HF := Lib.hid hF
      clear hC hC2 hS hF hlt hi
      go_wp2
      go_ret
      exact ⟨rfl, HF.out⟩
end Go.Proofs.Ytejobioddkhinaa
