/- The bytes of a message: the document's Encode. -/
import Derived.Test.YtpdnbjaamgfemaaWiG
import Derived.Test.YtpdnbjaamgfemaaOctG
import Derived.Test.YtpdnbjaamgfemaaWiT
namespace Go.Proofs.Ytpdnbjaamgfemaa
open Go.RowKit
set_option linter.unusedVariables false
set_option maxRecDepth 100000

/-- A number that fits its width. -/
theorem refnum_fit (n k : Nat) (w : World) (h1 : 1 ≤ k) (h2 : k ≤ 8) (hn : n < 256 ^ k) :
    Calls Try.prog 23 #[.int .u64 (n : Int), .int .i64 (k : Int)] w fun e w' => e = .returned (.tuple #[.string (str (beBytes n k)), .int .i64 0]) ∧ Fr No w w' := by
  have h64 : n < 2 ^ 64 := Nat.lt_of_lt_of_le hn (by
    have : 256 ^ k ≤ 256 ^ 8 := Nat.pow_le_pow_right (by omega) h2
    omega)
  refine (refnum_any n k w h1 h2 h64).mono ?_
  rintro e w' ⟨t, f, rfl, h | h, hF⟩
  · obtain ⟨_, rfl, rfl⟩ := h
    exact ⟨rfl, hF⟩
  · have := Nat.div_eq_of_lt hn
    omega

theorem rencode_no (m : Msg) (hl : m.h.length = 32) (w : World) (hm : may m = false) :
    Calls Try.prog 9 #[vM m] w fun ex w' => ex = .returned (.tuple #[.string ⟨#[]⟩, .int .i64 1]) ∧ Fr No w w' := by
  have hB := Blk.new w 32 (cellsM m)
  have HL := Lib.hid (msg_load hB hl mt_msg7)
  have HM := Lib.hid (fun X => rmay_any m hl X)
  rw [hm] at HM
  have HB := Lib.hid hB
  clear hB hm hl
  go_enter Try.func9, Try.ntmps9
  go_wp2_with (refine wpList_load_eq rfl 32 _ rfl (.pointer (some ⟨w.heap.size, 0, none⟩)) (vM m) rfl HL.out ?_)
  refine (HM.out _).mono ?_
  rintro ex w1 ⟨rfl, hF⟩
  have HF := Lib.hid (((Fr.refl No w).alloc _).trans hF)
  clear hF
  go_wp2
  go_ret2
  exact ⟨rfl, HF.out⟩

theorem allOf_snoc (m : Msg) : ∀ (l : List UInt8) (c : UInt8), allOf m (l ++ [c]) = allOf m l ++ fieldOf m c
  | [], c => by simp [allOf]
  | d :: l, c => by rw [List.cons_append, allOf, allOf, allOf_snoc m l c, List.append_assoc]

theorem rencode_yes (K E Nn c i a : Nat) (h : List UInt8) (w : World) (hl : h.length = 32) (hK : K ≤ 9) (hE : E ≤ 1073741824) (hNn : Nn ≤ 65535) (hc : c < 4294967296) (hi : i < 18446744073709551616) (ha : a < 18446744073709551616)
    (hm : may ⟨K, c, i, a, h, E, Nn⟩ = true) :
    Calls Try.prog 9 #[vM ⟨K, c, i, a, h, E, Nn⟩] w fun ex w' => ex = .returned (.tuple #[.string (str (bytesM ⟨K, c, i, a, h, E, Nn⟩)), .int .i64 0]) ∧ Fr No w w' := by
  have hB := Blk.new w 32 (cellsM ⟨K, c, i, a, h, E, Nn⟩)
  have HL := Lib.hid (msg_load hB hl mt_msg7)
  have HM := Lib.hid (fun X => rmay_any ⟨K, c, i, a, h, E, Nn⟩ hl X)
  rw [hm] at HM
  obtain ⟨b, hb⟩ : ∃ b, b = w.heap.size := ⟨_, rfl⟩
  obtain ⟨wb, hwb⟩ : ∃ X, X = w.alloc (.cells (cellsM ⟨K, c, i, a, h, E, Nn⟩).toArray 32) := ⟨_, rfl⟩
  have hF0 : Fr No w wb := by rw [hwb]; exact (Fr.refl No w).alloc _
  rw [← hwb, ← hb] at hB
  have HBk : Hid (∀ X, Fr No wb X → Blk X b 32 (cellsM ⟨K, c, i, a, h, E, Nn⟩)) := Lib.hid (fun X hX => hB.fr hX id)
  have N1 := Lib.hid (fun X => refnum_fit K 1 X (by omega) (by omega) (by omega))
  have N4 := Lib.hid (fun X => refnum_fit c 4 X (by omega) (by omega) (by omega))
  have NI := Lib.hid (fun X => refnum_fit i 8 X (by omega) (by omega) (by omega))
  have NA := Lib.hid (fun X => refnum_fit a 8 X (by omega) (by omega) (by omega))
  have NE := Lib.hid (fun X => refnum_fit E 4 X (by omega) (by omega) (by omega))
  have NN := Lib.hid (fun X => refnum_fit Nn 2 X (by omega) (by omega) (by omega))
  have NH := Lib.hid (fun X => refhash_any h X hl)
  have uK : IntKind.u64.wrap (K : Int) = (K : Int) := by rw [IntKind.wrap_u64]; omega
  have uc : IntKind.u64.wrap (c : Int) = (c : Int) := by rw [IntKind.wrap_u64]; omega
  have uE : IntKind.u64.wrap (E : Int) = (E : Int) := by rw [IntKind.wrap_u64]; omega
  have uN : IntKind.u64.wrap (Nn : Int) = (Nn : Int) := by rw [IntKind.wrap_u64]; omega
  obtain ⟨P1, hP1⟩ : ∃ l, l = beBytes K 1 := ⟨_, rfl⟩
  obtain ⟨P4, hP4⟩ : ∃ l, l = beBytes c 4 := ⟨_, rfl⟩
  rw [← hP1] at N1
  rw [← hP4] at N4
  have z1 : (str P1).size = 1 := by rw [str_size, hP1, beBytes_length]
  have z4 : (str P4).size = 4 := by rw [str_size, hP4, beBytes_length]
  obtain ⟨P5, hP5⟩ : ∃ l, l = P1 ++ P4 := ⟨_, rfl⟩
  have k14 : str P1 ++ str P4 = str P5 := by rw [hP5]; exact str_append _ _
  obtain ⟨L, hLL⟩ : ∃ L, L = fieldsB (K : Int) := ⟨_, rfl⟩
  obtain ⟨n, hn⟩ : ∃ n, n = L.length := ⟨_, rfl⟩
  have hn4 : n ≤ 4 := by rw [hn, hLL]; exact fields_len _
  have hLt : ∀ d ∈ L, Lett d := by rw [hLL]; exact fields_is _
  have zL : (str L).size = n := by rw [str_size, hn]
  have HFD := Lib.hid (fun X => rfields_any (K : Int) X)
  rw [← hLL] at HFD
  have HZ : Hid (∀ j, j ≤ 4 → (P5 ++ allOf ⟨K, c, i, a, h, E, Nn⟩ (L.take j)).length ≤ 200) := Lib.hid (fun j hj => by
    have e1 := allOf_len ⟨K, c, i, a, h, E, Nn⟩ hl (L.take j) (fun d hd => hLt d (List.mem_of_mem_take hd))
    have e2 : ∀ l : List UInt8, lenB l ≤ 32 * l.length := fun l => by
      induction l with
      | nil => exact Nat.le_refl _
      | cons x l ih =>
        have e3 : widthB x ≤ 32 := by unfold widthB; repeat' split
                                      all_goals omega
        rw [lenB, List.length_cons]
        omega
    have e3 := e2 (L.take j)
    have e4 : (L.take j).length ≤ j := List.length_take_le _ _
    rw [List.length_append, e1, hP5, List.length_append, hP1, hP4, beBytes_length, beBytes_length]
    omega)
  go_enter Try.func9, Try.ntmps9
  go_wp2_with (refine wpList_load_eq rfl 32 _ rfl (.pointer (some ⟨w.heap.size, 0, none⟩)) _ rfl HL.out ?_)
  refine (HM.out _).mono ?_
  rintro ex w1 ⟨rfl, hF⟩
  rw [← hwb] at hF
  have F1 := Lib.hid hF
  rw [← hb]
  have HF0 := Lib.hid hF0
  have HLH := Lib.hid hl
  have HP : Hid (P5 = beBytes K 1 ++ beBytes c 4) := Lib.hid (by rw [hP5, hP1, hP4])
  have HLL := Lib.hid hLL
  have HN := Lib.hid hn
  have HLt := Lib.hid hLt
  have HN4 := Lib.hid hn4
  clear hF HL HM hb hwb hF0 hB hP1 hP4 hm hl hK hE hNn hc hi ha hP5 hLL hn hLt hn4
  have c0 := msg_k (HBk.out _ F1.out)
  dsimp only at c0
  go_wp2_with fail
  refine (N1.out _).mono ?_
  rintro ex w2 ⟨rfl, hF⟩
  have F2 := Lib.hid (F1.out.trans hF)
  clear hF c0
  have c1 := msg_c (HBk.out _ F2.out)
  dsimp only at c1
  go_wp2_with fail
  refine (N4.out _).mono ?_
  rintro ex w3 ⟨rfl, hF⟩
  have F3 := Lib.hid (F2.out.trans hF)
  clear hF c1
  have c0 := msg_k (HBk.out _ F3.out)
  dsimp only at c0
  go_wp2_with fail
  refine (HFD.out _).mono ?_
  rintro ex w4 ⟨rfl, hw⟩
  rw [hw]
  clear hw c0
  go_wp2
  go_loopw [8, 10] (fun s i' wr => ∃ (j : Nat) (Q : List UInt8), j ≤ n ∧ i' = .int .i64 j ∧ s = .string (str Q) ∧ Q = P5 ++ allOf ⟨K, c, i, a, h, E, Nn⟩ (L.take j) ∧ Fr No wb wr) (fun _ i' _ => n - (intOf i').toNat)
  case atStart => exact ⟨0, P5, by omega, rfl, rfl, by simp [allOf], F3.out⟩
  case round =>
    obtain ⟨j, Q, hj, rfl, rfl, hQ, hF⟩ := hrel
    have F := Lib.hid hF
    have HQ := Lib.hid hQ
    clear hF
    by_cases hlt : j < n
    · have hk1 : (j : Int) < (n : Int) := by omega
      have hjl : j < L.length := by rw [← HN.out]; exact hlt
      have hks : j < (str L).size := by rw [zL]; exact hlt
      have e1 : IntKind.i64.wrap ((j : Int) + 1) = ((j + 1 : Nat) : Int) := IntWalk.i64_in _ (by have := HN4.out; omega)
      obtain ⟨d, hd⟩ : ∃ d, d = L[j] := ⟨_, rfl⟩
      have hg : (str L)[j]'hks = d := by rw [hd]; rfl
      have hdl : Lett d := HLt.out d (by rw [hd]; exact List.getElem_mem hjl)
      have ht : L.take (j + 1) = L.take j ++ [d] := by rw [hd]; exact List.take_succ_eq_append_getElem hjl
      have HX : Hid (n - (j + 1) < n - j) := Lib.hid (by omega)
      have HK : Hid (j + 1 ≤ n) := Lib.hid hlt
      obtain ⟨q, hq⟩ : ∃ q, q = Q.length := ⟨_, rfl⟩
      have zQ : (str Q).size = q := by rw [str_size, hq]
      have bq : q ≤ 200 := by rw [hq, hQ]; exact HZ.out j (by have := HN4.out; omega)
      obtain ⟨T, hT⟩ : ∃ T, T = fieldOf ⟨K, c, i, a, h, E, Nn⟩ d := ⟨_, rfl⟩
      obtain ⟨R, hR⟩ : ∃ R, R = Q ++ T := ⟨_, rfl⟩
      have kR : str Q ++ str T = str R := by rw [hR]; exact str_append _ _
      have HR : Hid (R = P5 ++ allOf ⟨K, c, i, a, h, E, Nn⟩ (L.take (j + 1))) := Lib.hid (by rw [hR, hQ, ht, allOf_snoc, hT, List.append_assoc])
      obtain ⟨t, htt⟩ : ∃ t, t = T.length := ⟨_, rfl⟩
      have zT : (str T).size = t := by rw [str_size, htt]
      have bt : t ≤ 32 := by
        rw [htt, hT]
        rcases hdl with rfl | rfl | rfl | rfl | rfl <;> simp [fieldOf, beBytes_length, HLH.out]
      clear hQ hq hR htt ht hd
      rcases hdl with rfl | rfl | rfl | rfl | rfl
      · have hD : (105 : UInt8).toNat = 105 := rfl
        have c2 := msg_i (HBk.out _ F.out)
        dsimp only at c2
        have N2 := NI
        rw [show beBytes i 8 = T by rw [hT]; simp [fieldOf]] at N2
        clear hT
        go_wp2_with fail
        refine (N2.out _).mono ?_
        rintro ex w5 ⟨rfl, hF⟩
        have F5 := Lib.hid (F.out.trans hF)
        clear hF c2
        go_wp2
        exact ⟨⟨j + 1, R, HK.out, by simp, rfl, HR.out, F5.out⟩, by simpa [intOf] using HX.out⟩
      · have hD : (97 : UInt8).toNat = 97 := rfl
        have c2 := msg_a (HBk.out _ F.out)
        dsimp only at c2
        have N2 := NA
        rw [show beBytes a 8 = T by rw [hT]; simp [fieldOf]] at N2
        clear hT
        go_wp2_with fail
        refine (N2.out _).mono ?_
        rintro ex w5 ⟨rfl, hF⟩
        have F5 := Lib.hid (F.out.trans hF)
        clear hF c2
        go_wp2
        exact ⟨⟨j + 1, R, HK.out, by simp, rfl, HR.out, F5.out⟩, by simpa [intOf] using HX.out⟩
      · have hD : (104 : UInt8).toNat = 104 := rfl
        have hT2 : T = h := by rw [hT]; rfl
        have NH2 := NH
        rw [← hT2] at NH2
        have HLD : Hid ((Instr.loadAt 25 (.pointer (some ⟨b, 4, none⟩))).run Try.prog wr = .ok (.agg (h.map u8v).toArray) wr) := Lib.hid (msg_h (HBk.out _ F.out) HLH.out)
        have NH3 : Hid (∀ X, Calls Try.prog 24 #[.agg (h.map u8v).toArray] X fun e w' => e = .returned (.string (str T)) ∧ Fr No X w') := Lib.hid (fun X => by rw [hT2]; exact NH.out X)
        clear hT hT2 NH2
        go_wp2_with (refine wpList_load_eqG 25 _ rfl (.pointer (some ⟨b, 4, none⟩)) (.agg (h.map u8v).toArray) rfl HLD.out rfl ?_)
        refine (NH3.out _).mono ?_
        rintro ex w5 ⟨rfl, hF⟩
        have F5 := Lib.hid (F.out.trans hF)
        clear hF
        go_wp2
        exact ⟨⟨j + 1, R, HK.out, by simp, rfl, HR.out, F5.out⟩, by simpa [intOf] using HX.out⟩
      · have hD : (101 : UInt8).toNat = 101 := rfl
        have c2 := msg_e (HBk.out _ F.out) HLH.out
        dsimp only at c2
        have N2 := NE
        rw [show beBytes E 4 = T by rw [hT]; simp [fieldOf]] at N2
        clear hT
        go_wp2_with fail
        refine (N2.out _).mono ?_
        rintro ex w5 ⟨rfl, hF⟩
        have F5 := Lib.hid (F.out.trans hF)
        clear hF c2
        go_wp2
        exact ⟨⟨j + 1, R, HK.out, by simp, rfl, HR.out, F5.out⟩, by simpa [intOf] using HX.out⟩
      · have hD : (110 : UInt8).toNat = 110 := rfl
        have c2 := msg_n (HBk.out _ F.out) HLH.out
        dsimp only at c2
        have N2 := NN
        rw [show beBytes Nn 2 = T by rw [hT]; simp [fieldOf]] at N2
        clear hT
        go_wp2_with fail
        refine (N2.out _).mono ?_
        rintro ex w5 ⟨rfl, hF⟩
        have F5 := Lib.hid (F.out.trans hF)
        clear hF c2
        go_wp2
        exact ⟨⟨j + 1, R, HK.out, by simp, rfl, HR.out, F5.out⟩, by simpa [intOf] using HX.out⟩
    · have hk1 : ¬ (j : Int) < (n : Int) := by omega
      have HB : Hid (Q = bytesM ⟨K, c, i, a, h, E, Nn⟩) := Lib.hid (by
        rw [HQ.out, List.take_of_length_le (by rw [← HN.out]; omega), HP.out, HLL.out]
        rfl)
      clear hj hlt hQ
      go_wp2
      go_ret2
      exact ⟨by rw [← HB.out]; rfl, HF0.out.trans F.out⟩

theorem rencode_any (m : Msg) (ok : m.Ok) (w : World) :
    Calls Try.prog 9 #[vM m] w fun ex w' => ex = .returned (.tuple #[.string (str (encV m)), .int .i64 (encE m)]) ∧ Fr No w w' := by
  cases hm : may m with
  | false =>
    have h := rencode_no m ok.h w hm
    unfold encV encE
    rw [hm]
    exact h
  | true =>
    unfold encV encE
    rw [hm, if_pos rfl, if_pos rfl]
    obtain ⟨⟨h1, h2, h3, h4, h5, h6, h7⟩, hr⟩ := may_bounds hm
    obtain ⟨k, c, i, a, h, e, n⟩ := m
    obtain ⟨o1, o2, o3, o4, _, _, _⟩ := ok
    dsimp only at *
    obtain ⟨K, rfl⟩ : ∃ K : Nat, k = (K : Int) := ⟨k.toNat, by omega⟩
    obtain ⟨E, rfl⟩ : ∃ K : Nat, e = (K : Int) := ⟨e.toNat, by omega⟩
    obtain ⟨N, rfl⟩ : ∃ K : Nat, n = (K : Int) := ⟨n.toNat, by omega⟩
    exact rencode_yes K E N c i a h w o4 (by omega) (by omega) (by omega) o1 o2 o3 hm
end Go.Proofs.Ytpdnbjaamgfemaa
