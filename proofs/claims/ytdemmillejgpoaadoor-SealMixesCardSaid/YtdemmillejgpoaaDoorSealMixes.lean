/- SealMixes walked. -/
import Derived.Test.YtdemmillejgpoaaDoorSeaC
import Derived.Test.YtdemmillejgpoaaDoorSeaR
namespace Go.Proofs.YtdemmillejgpoaaDoor
open Go.RowKit
set_option linter.unusedVariables false

set_option maxHeartbeats 400000 in
theorem mixes_big (k s : List UInt8) (w : World) (hb : 64 < k.length ∨ 300 < s.length) (hk : k.length ≤ maxLen) (hs : s.length ≤ maxLen) (hg : Gl w) :
    Calls Tryd.prog 6 #[.string (str k), .string (str s)] w fun e w' => e = .returned (.bool true) ∧ Fr No w w' := by
  unfold maxLen at hk hs
  obtain ⟨n, hn⟩ : ∃ n, n = k.length := ⟨_, rfl⟩
  obtain ⟨m, hm⟩ : ∃ m, m = s.length := ⟨_, rfl⟩
  have hsz := (str_size k).trans hn.symm
  have hsz2 := (str_size s).trans hm.symm
  rw [← hn] at hb hk
  rw [← hm] at hb hs
  have HG := Lib.hid hg
  clear hg hn hm
  by_cases h1 : 64 < n
  · have h1 : (64 : Int) < (n : Int) := by omega
    clear hb
    go_enter Tryd.func6, Tryd.ntmps6
    go_wp2_with fail
    refine (shown3_any _ HG.out).mono ?_
    rintro e w1 ⟨rfl, hF⟩
    have HF := Lib.hid hF
    clear hF
    go_wp2
    go_ret
    exact ⟨rfl, HF.out⟩
  · have h2 : (300 : Int) < (m : Int) := by omega
    have h1 : ¬ (64 : Int) < (n : Int) := by omega
    clear hb
    go_enter Tryd.func6, Tryd.ntmps6
    go_wp2_with fail
    refine (shown3_any _ HG.out).mono ?_
    rintro e w1 ⟨rfl, hF⟩
    have HF := Lib.hid hF
    clear hF
    go_wp2
    go_ret
    exact ⟨rfl, HF.out⟩

set_option maxHeartbeats 1000000 in
set_option maxRecDepth 100000 in
theorem mixes_ok (k s : List UInt8) (w : World) (hk : k.length ≤ 64) (hs : s.length ≤ 300) (hg : Gl w) :
    Calls Tryd.prog 6 #[.string (str k), .string (str s)] w fun e w' => e = .returned (.bool true) ∧ Fr No w w' := by
  obtain ⟨n, hn⟩ : ∃ n, n = k.length := ⟨_, rfl⟩
  obtain ⟨m, hm⟩ : ∃ m, m = s.length := ⟨_, rfl⟩
  have hkk : keyL k = k := keyL_short hk
  obtain ⟨MI, hMI⟩ : ∃ MI, MI = mixL k 54 := ⟨_, rfl⟩
  obtain ⟨MO, hMO⟩ : ∃ MO, MO = mixL k 92 := ⟨_, rfl⟩
  obtain ⟨I, hI⟩ : ∃ I, I = innerL k s := ⟨_, rfl⟩
  obtain ⟨IB, hIB⟩ : ∃ IB, IB = bn I := ⟨_, rfl⟩
  obtain ⟨T, hT⟩ : ∃ T, T = tagL k s := ⟨_, rfl⟩
  obtain ⟨O, hO⟩ : ∃ O, O = ofL I := ⟨_, rfl⟩
  obtain ⟨O1, hO1⟩ : ∃ O1, O1 = MI ++ s := ⟨_, rfl⟩
  obtain ⟨O2, hO2⟩ : ∃ O2, O2 = MO ++ IB := ⟨_, rfl⟩
  have hIl : I.length = 32 := by rw [hI]; exact sumL_len _
  have hI8 : B8 I := by rw [hI]; exact sumL_b8 _
  have hIBl : IB.length = 32 := by rw [hIB, bn, List.length_map, hIl]
  have hMIl : MI.length = 64 := by rw [hMI]; exact mixL_len 54 hk
  have hMOl : MO.length = 64 := by rw [hMO]; exact mixL_len 92 hk
  have hTL : T.length = 32 := by rw [hT]; exact tagL_len _ _
  have hOL : O.length = 32 := by rw [hO]; exact ofL_len _
  have hI1 : I = sumL O1 := by rw [hI, innerL, hkk, ← hMI, ← hO1]
  have hT2 : T = sumL O2 := by rw [hT, tagL, hkk, ← hMO, ← hI, hO2, hIB]
  have hOs : O = sumL IB := by rw [hO, ofL, hIB]
  have hsz : (str k).size = n := (str_size k).trans hn.symm
  have hsz2 : (str s).size = m := (str_size s).trans hm.symm
  have hszI : (str MI).size = 64 := by rw [str_size, hMIl]
  have hszO : (str MO).size = 64 := by rw [str_size, hMOl]
  have hszB : (str IB).size = 32 := by rw [str_size, hIBl]
  have hn3 : ¬ (64 : Int) < (n : Int) := by omega
  have hm6 : ¬ (300 : Int) < (m : Int) := by omega
  have hcat1 : str MI ++ str s = str O1 := by rw [str_append, hO1]
  have hcat2 : str MO ++ str IB = str O2 := by rw [str_append, hO2]
  have HS1 : Hid (∀ X, Gl X → Calls Tryd.prog 14 #[.string (str O1)] X fun ex w' => ex = .returned (.agg (arr .u8 I)) ∧ Fr No X w') := Lib.hid (fun X hX => by rw [hI1]; exact sum_any O1 X (by rw [hO1, List.length_append]; omega) hX)
  have HS2 : Hid (∀ X, Gl X → Calls Tryd.prog 14 #[.string (str O2)] X fun ex w' => ex = .returned (.agg (arr .u8 T)) ∧ Fr No X w') := Lib.hid (fun X hX => by rw [hT2]; exact sum_any O2 X (by rw [hO2, List.length_append]; omega) hX)
  have HS3 : Hid (∀ X, Gl X → Calls Tryd.prog 14 #[.string (str IB)] X fun ex w' => ex = .returned (.agg (arr .u8 O)) ∧ Fr No X w') := Lib.hid (fun X hX => by rw [hOs]; exact sum_any IB X (by omega) hX)
  have HT : Hid (∀ X, Gl X → Calls Tryd.prog 10 #[.string (str k), .string (str s)] X fun ex w' => ex = .returned (.agg (arr .u8 T)) ∧ Fr No X w') := Lib.hid (fun X hX => by rw [hT]; exact tag_any k s X (by omega) (by omega) hX)
  have HOF : Hid (∀ X, Gl X → Calls Tryd.prog 12 #[.agg (arr .u8 I)] X fun ex w' => ex = .returned (.agg (arr .u8 O)) ∧ Fr No X w') := Lib.hid (fun X hX => by rw [hO]; exact of_any I X hIl hI8 hX)
  have HCV : Hid (∀ X g, Row X g 23 .u8 I → (convert 31 9 (.slice (some ⟨g, 0, none⟩) 32 32)).run Tryd.prog X = .ok (.string (str IB)) X) := Lib.hid (fun X g hR => by rw [hIB]; exact conv_row 32 hR hIl hI8)
  have EQT : Hid (∀ X, (binOp .eql 23 (.agg (arr .u8 T)) (.agg (arr .u8 T))).run Tryd.prog X = .ok (.bool true) X) := Lib.hid (fun X => eql_h32 T hTL X)
  have EQO : Hid (∀ X, (binOp .eql 23 (.agg (arr .u8 O)) (.agg (arr .u8 O))).run Tryd.prog X = .ok (.bool true) X) := Lib.hid (fun X => eql_h32 O hOL X)
  have HMI : Hid (mst k 54 64 = MI) := Lib.hid (by rw [hMI]; exact mst_all k 54 hk)
  have HMO : Hid (mst k 92 64 = MO) := Lib.hid (by rw [hMO]; exact mst_all k 92 hk)
  have HIL := Lib.hid hIl
  have HK := Lib.hid hk
  have HN := Lib.hid hn
  have HG := Lib.hid hg
  clear hn hm hkk hMI hMO hI hIB hT hO hO1 hO2 hIl hI8 hIBl hMIl hMOl hTL hOL hI1 hT2 hOs hk hs hg
  go_enter Tryd.func6, Tryd.ntmps6
  go_wp2_with fail
  refine (shown3_any _ HG.out).mono ?_
  rintro e w1 ⟨rfl, hF⟩
  have F1 := Lib.hid hF
  clear hF
  go_wp2
  refine wp_world (fun W => Fr No w W ∧ Bg w1.heap.size (.slice (some ⟨w1.heap.size, 0, none⟩) 0 0) (mst k 54 0) W ∧ Bg (w1.heap.size + 1) (.slice (some ⟨w1.heap.size + 1, 0, none⟩) 0 0) (mst k 92 0) W) ⟨(F1.out.alloc _).alloc _, ⟨by simp; omega, 0, rfl, fun j u hu => by simp [mst] at hu, fun j h1 h2 => by omega⟩, ⟨by simp, 0, rfl, fun j u hu => by simp [mst] at hu, fun j h1 h2 => by omega⟩⟩ ?_
  rintro w2 ⟨hF2, hA2, hB2⟩
  have HB : Hid (w.heap.size ≤ w1.heap.size) := Lib.hid F1.out.size
  obtain ⟨p0, hga⟩ : ∃ b, b = w1.heap.size := ⟨_, rfl⟩
  obtain ⟨q0, hgb⟩ : ∃ b, b = w1.heap.size + 1 := ⟨_, rfl⟩
  rw [← hga] at hA2
  rw [← hgb] at hB2
  rw [← hgb, ← hga]
  have HGA : Hid (w.heap.size ≤ p0 ∧ w.heap.size ≤ q0 ∧ p0 ≠ q0) := Lib.hid ⟨by have := HB.out; omega, by have := HB.out; omega, by omega⟩
  clear hga hgb F1 HB
  go_loopw [5, 6, 7] (fun va vb c wr => ∃ i ga gb : Nat, i ≤ 64 ∧ c = .int .i64 i ∧ Bg ga va (mst k 54 i) wr ∧ Bg gb vb (mst k 92 i) wr ∧ w.heap.size ≤ ga ∧ w.heap.size ≤ gb ∧ ga ≠ gb ∧ Fr No w wr) (fun _ _ c _ => 64 - (intOf c).toNat)
  case atStart => exact ⟨0, p0, q0, by omega, rfl, hA2, hB2, HGA.out.1, HGA.out.2.1, HGA.out.2.2, hF2⟩
  clear hA2 hB2 HGA hF2
  case round =>
    obtain ⟨i, ga, gb, hi, rfl, hba, hbb, hga, hgb, hne, hF⟩ := hrel
    have hba' := hba
    obtain ⟨_, capa, hva, _, _⟩ := hba'
    rw [mst_len _ _ _ HK.out hi] at hva
    subst hva
    have hbb' := hbb
    obtain ⟨_, capb, hvb, _, _⟩ := hbb'
    rw [mst_len _ _ _ HK.out hi] at hvb
    subst hvb
    by_cases hlt : i < 64
    · have h1 : (i : Int) < 64 := by omega
      obtain ⟨b, hbx⟩ : ∃ b, b = k.getD i 0 := ⟨_, rfl⟩
      have hget : ∀ h : i < (str k).size, (str k)[i]'h = b := fun h => (str_get k i h).trans hbx.symm
      obtain ⟨c, hc⟩ : ∃ c : Nat, c = b.toNat := ⟨_, rfl⟩
      have hc8 : c < 256 := by rw [hc]; exact b.toNat_lt
      obtain ⟨x, hx⟩ : ∃ x, x = b ^^^ (54 : UInt8) := ⟨_, rfl⟩
      obtain ⟨y, hy⟩ : ∃ y, y = x.toNat := ⟨_, rfl⟩
      obtain ⟨x', hx'⟩ : ∃ x, x = b ^^^ (92 : UInt8) := ⟨_, rfl⟩
      obtain ⟨y', hy'⟩ : ∃ y, y = x'.toNat := ⟨_, rfl⟩
      have hxo : bits .xor .u8 (c : Int) 54 = (y : Int) := by
        have h1 := u8_xor_nat c 54 hc8 (by decide)
        rw [show ((54 : Nat) : Int) = 54 from rfl] at h1
        rw [h1, hy, hx, hc]; simp
      have hxo' : bits .xor .u8 (c : Int) 92 = (y' : Int) := by
        have h1 := u8_xor_nat c 92 hc8 (by decide)
        rw [show ((92 : Nat) : Int) = 92 from rfl] at h1
        rw [h1, hy', hx', hc]; simp
      have HNX : Hid (mst k 54 (i + 1) = mst k 54 i ++ [x]) := Lib.hid (by rw [hx, hbx]; exact mst_succ k 54 i HK.out hlt)
      have HNX' : Hid (mst k 92 (i + 1) = mst k 92 i ++ [x']) := Lib.hid (by rw [hx', hbx]; exact mst_succ k 92 i HK.out hlt)
      have HA1 : Hid (Bg ga (.slice (some ⟨ga, 0, none⟩) i capa) (mst k 54 i) (wr.alloc (.cells #[.int .u8 y] 5))) := Lib.hid (hba.fr ((Fr.refl No wr).alloc _) id)
      have HB1 : Hid (Bg gb (.slice (some ⟨gb, 0, none⟩) i capb) (mst k 92 i) (wr.alloc (.cells #[.int .u8 y] 5))) := Lib.hid (hbb.fr ((Fr.refl No wr).alloc _) id)
      have HF1 := Lib.hid (hF.alloc (.cells #[.int .u8 y] 5))
      have HY := Lib.hid hy
      have HY' := Lib.hid hy'
      have HLEN : Hid ((mst k 54 i).length ≤ 100000 ∧ (mst k 92 i).length ≤ 100000) := Lib.hid (by rw [mst_len _ _ _ HK.out hi, mst_len _ _ _ HK.out hi]; omega)
      have HGS : Hid (w.heap.size ≤ ga ∧ w.heap.size ≤ gb ∧ ga ≠ gb) := Lib.hid ⟨hga, hgb, hne⟩
      by_cases hin : i < n
      · have h2 : (i : Int) < (n : Int) := by omega
        have hcv : (b.toNat : Int) = (c : Int) := by omega
        clear hbx hc hx hy hx' hy' hba hbb hF hga hgb hne hc8
        go_wp2_with (first
          | (refine wpList_app1g rfl _ _ rfl HA1.out rfl ⟨wr.heap.size, 0, none⟩ 1 x rfl (by rw [World.cell?_alloc_at _ _ _ _ rfl, HY.out]; rfl) HLEN.out.1 ?_
             intro v2 w2 g2 hb2 hg2 hF2
             have HA2 := Lib.hid hb2
             have HG2 := Lib.hid hg2
             have HS2 := Lib.hid hF2
             have HB2 : Hid (Bg gb (.slice (some ⟨gb, 0, none⟩) i capb) (mst k 92 i) (w2.alloc (.cells #[.int .u8 y'] 5))) := Lib.hid ((HB1.out.fr hF2 (by have := HGS.out.2.2; omega)).fr ((Fr.refl No w2).alloc _) id)
             clear hb2 hF2 hg2)
          | (refine wpList_app1g rfl _ _ rfl HB2.out rfl ⟨w2.heap.size, 0, none⟩ 1 x' rfl (by rw [World.cell?_alloc_at _ _ _ _ rfl, HY'.out]; rfl) HLEN.out.2 ?_
             intro v3 w3 g3 hb3 hg3 hF3
             have HB3 := Lib.hid hb3
             have HG3 := Lib.hid hg3
             have HS3 := Lib.hid hF3
             clear hb3 hF3 hg3))
        have q1 := HGS.out
        have q2 := HG2.out
        have q3 := HG3.out
        have q4 := HB1.out.lt
        have q5 := HA2.out.lt
        have q6 := HS2.out.size
        have q7 := HF1.out.size
        have q8 : (w2.alloc (.cells #[.int .u8 (y' : Int)] 5)).heap.size = w2.heap.size + 1 := by simp
        have q9 : (wr.alloc (.cells #[.int .u8 (y : Int)] 5)).heap.size = wr.heap.size + 1 := by simp
        rw [q8] at q3
        rw [q9] at q2 q4 q6 q7
        have hne2 : ¬ g2 = gb := by omega
        refine ⟨⟨i + 1, g2, g3, by omega, by simp, by rw [HNX.out]; exact (HA2.out.fr ((Fr.refl No w2).alloc _) id).fr HS3.out hne2, by rw [HNX'.out]; exact HB3.out, by omega, by omega, by omega, ?_⟩, by simp [intOf]; omega⟩
        exact ((HF1.out.trans' HS2.out (fun k hk e => by omega)).alloc _).trans' HS3.out (fun k hk e => by omega)
      · have h2 : ¬ (i : Int) < (n : Int) := by omega
        have hc0 : c = 0 := by
          rw [hc, hbx, List.getD_eq_getElem?_getD, List.getElem?_eq_none (by have := HN.out; omega)]
          rfl
        have hxo0 : bits .xor .u8 (0 : Int) 54 = (y : Int) := by rw [hc0] at hxo; exact hxo
        have hxo0' : bits .xor .u8 (0 : Int) 92 = (y' : Int) := by rw [hc0] at hxo'; exact hxo'
        clear hxo hxo'
        clear hbx hc hx hy hx' hy' hba hbb hF hga hgb hne hc8 hc0 hget
        go_wp2_with (first
          | (refine wpList_app1g rfl _ _ rfl HA1.out rfl ⟨wr.heap.size, 0, none⟩ 1 x rfl (by rw [World.cell?_alloc_at _ _ _ _ rfl, HY.out]; rfl) HLEN.out.1 ?_
             intro v2 w2 g2 hb2 hg2 hF2
             have HA2 := Lib.hid hb2
             have HG2 := Lib.hid hg2
             have HS2 := Lib.hid hF2
             have HB2 : Hid (Bg gb (.slice (some ⟨gb, 0, none⟩) i capb) (mst k 92 i) (w2.alloc (.cells #[.int .u8 y'] 5))) := Lib.hid ((HB1.out.fr hF2 (by have := HGS.out.2.2; omega)).fr ((Fr.refl No w2).alloc _) id)
             clear hb2 hF2 hg2)
          | (refine wpList_app1g rfl _ _ rfl HB2.out rfl ⟨w2.heap.size, 0, none⟩ 1 x' rfl (by rw [World.cell?_alloc_at _ _ _ _ rfl, HY'.out]; rfl) HLEN.out.2 ?_
             intro v3 w3 g3 hb3 hg3 hF3
             have HB3 := Lib.hid hb3
             have HG3 := Lib.hid hg3
             have HS3 := Lib.hid hF3
             clear hb3 hF3 hg3))
        have q1 := HGS.out
        have q2 := HG2.out
        have q3 := HG3.out
        have q4 := HB1.out.lt
        have q5 := HA2.out.lt
        have q6 := HS2.out.size
        have q7 := HF1.out.size
        have q8 : (w2.alloc (.cells #[.int .u8 (y' : Int)] 5)).heap.size = w2.heap.size + 1 := by simp
        have q9 : (wr.alloc (.cells #[.int .u8 (y : Int)] 5)).heap.size = wr.heap.size + 1 := by simp
        rw [q8] at q3
        rw [q9] at q2 q4 q6 q7
        have hne2 : ¬ g2 = gb := by omega
        refine ⟨⟨i + 1, g2, g3, by omega, by simp, by rw [HNX.out]; exact (HA2.out.fr ((Fr.refl No w2).alloc _) id).fr HS3.out hne2, by rw [HNX'.out]; exact HB3.out, by omega, by omega, by omega, ?_⟩, by simp [intOf]; omega⟩
        exact ((HF1.out.trans' HS2.out (fun k hk e => by omega)).alloc _).trans' HS3.out (fun k hk e => by omega)
    · obtain rfl : i = 64 := by omega
      rw [HMI.out] at hba
      rw [HMO.out] at hbb
      have HSA := Lib.hid hba.str
      have HF := Lib.hid hF
      have HBB := Lib.hid hbb
      have HGS : Hid (w.heap.size ≤ ga ∧ w.heap.size ≤ gb ∧ ga ≠ gb) := Lib.hid ⟨hga, hgb, hne⟩
      clear hba hbb hF hga hgb hne
      go_wp2_with (refine wpList_convert_eq rfl 31 9 _ rfl _ _ rfl HSA.out ?_)
      refine (HS1.out _ (HG.out.fr HF.out (fun _ _ => id))).mono ?_
      rintro e w4 ⟨rfl, hF⟩
      have F4 := Lib.hid (HF.out.trans hF)
      have B4 := Lib.hid (HBB.out.fr hF id)
      clear hF HBB HF
      go_wp2_with (refine wpList_store_row rfl 23 _ _ rfl w4.heap.size rfl (arr .u8 I) rfl (Row.new w4 23 .u8 (List.replicate 32 0)) arHash (by rfl) (by rw [arr_size]; exact HIL.out) (arr_one .u8 I) ?_
                   refine wpList_world (fun W => Fr No w4 W ∧ Row W w4.heap.size 23 .u8 I) ⟨fr_setRow ((Fr.refl No w4).alloc _) (.inr (Nat.le_refl _)) _, (Row.new w4 23 .u8 (List.replicate 32 0)).setRow⟩ ?_
                   rintro w5 ⟨hF5, hR5⟩
                   have F5 := Lib.hid (F4.out.trans hF5)
                   have B5 := Lib.hid (B4.out.fr (S := No) hF5 id)
                   have I5 := Lib.hid hR5
                   clear hF5 hR5)
      obtain ⟨q, hq⟩ : ∃ b, b = w4.heap.size := ⟨_, rfl⟩
      rw [← hq] at I5
      rw [← hq]
      have LI : Hid (∀ X, Fr No w5 X → (Instr.loadAt 23 (.pointer (some ⟨q, 0, none⟩))).run Tryd.prog X = .ok (.agg (arr .u8 I)) X) := Lib.hid (fun X hX => (I5.out.fr hX id).load arHash HIL.out)
      have CI : Hid (∀ X, Fr No w5 X → (convert 31 9 (.slice (some ⟨q, 0, none⟩) 32 32)).run Tryd.prog X = .ok (.string (str IB)) X) := Lib.hid (fun X hX => HCV.out X _ (I5.out.fr hX id))
      have CB : Hid (∀ X, Fr No w5 X → (convert 31 9 (.slice (some ⟨gb, 0, none⟩) 64 capb)).run Tryd.prog X = .ok (.string (str MO)) X) := Lib.hid (fun X hX => (B5.out.fr hX id).str)
      have G5 : Hid (∀ X, Fr No w5 X → Gl X) := Lib.hid (fun X hX => HG.out.fr (F5.out.trans hX) (fun _ _ => id))
      clear hq F4 B4 B5 I5 HG
      refine wp_region_held_drew (S := (fun X => Fr No w5 X)) (by kernel_rfl) ((Fr.refl _ w5).drew) (fun hHeld => ?_)
      refine takeD (i := 0) (d := some 51) (v := ?_) rfl (by kernel_rfl) (by kernel_rfl) (by kernel_rfl) (by kernel_rfl) (fun _ _ _ h => h) (Or.inl ⟨by kernel_rfl, fun X hX => Or.inl ?_⟩) (by assumption) ?_
      rotate_left
      · first | (go_simp; done) | (go_simp; with_reducible rfl)
      (try simp only [Act.put]); (try simp only [List.setIfInBounds_toArray]); (try simp only [List.set_cons_succ]); (try simp only [List.set_cons_zero])
      refine takeD (i := 1) (d := some 52) (v := ?_) rfl (by kernel_rfl) (by kernel_rfl) (by kernel_rfl) (by kernel_rfl) (fun _ _ _ h => h) (Or.inl ⟨by kernel_rfl, fun X hX => Or.inl ?_⟩) (by assumption) ?_
      rotate_left
      · first | (go_simp; done) | (go_simp; with_reducible rfl)
      (try simp only [Act.put]); (try simp only [List.setIfInBounds_toArray]); (try simp only [List.set_cons_succ]); (try simp only [List.set_cons_zero])
      refine takeD (i := 3) (d := some 54) (v := ?_) rfl (by kernel_rfl) (by kernel_rfl) (by kernel_rfl) (by kernel_rfl) (fun _ _ _ h => h) (Or.inl ⟨by kernel_rfl, fun X hX => Or.inl ?_⟩) (by assumption) ?_
      rotate_left
      · first | (go_simp; done) | (go_simp; with_reducible rfl)
      (try simp only [Act.put]); (try simp only [List.setIfInBounds_toArray]); (try simp only [List.set_cons_succ]); (try simp only [List.set_cons_zero])
      refine takeD (i := 5) (d := some 56) (v := ?_) rfl (by kernel_rfl) (by kernel_rfl) (by kernel_rfl) (by kernel_rfl) (fun _ _ _ h => h) (Or.inl ⟨by kernel_rfl, fun X hX => Or.inl ?_⟩) (by assumption) ?_
      rotate_left
      · first | (go_simp; done) | (go_simp; with_reducible rfl)
      (try simp only [Act.put]); (try simp only [List.setIfInBounds_toArray]); (try simp only [List.set_cons_succ]); (try simp only [List.set_cons_zero])
      refine takeD (i := 4) (d := some 55) (v := .string (str MO)) rfl (by kernel_rfl) (by kernel_rfl) (by kernel_rfl) (by kernel_rfl) (fun _ _ _ h => h) (Or.inl ⟨by kernel_rfl, fun X hX => Or.inl (exec_convert 31 9 (.tmp 54) rfl _ _ rfl (CB.out X hX))⟩) (by assumption) ?_
      (try simp only [Act.put]); (try simp only [List.setIfInBounds_toArray]); (try simp only [List.set_cons_succ]); (try simp only [List.set_cons_zero])
      refine takeD (i := 6) (d := some 57) (v := .string (str IB)) rfl (by kernel_rfl) (by kernel_rfl) (by kernel_rfl) (by kernel_rfl) (fun _ _ _ h => h) (Or.inl ⟨by kernel_rfl, fun X hX => Or.inl (exec_convert 31 9 (.tmp 56) rfl _ _ rfl (CI.out X hX))⟩) (by assumption) ?_
      (try simp only [Act.put]); (try simp only [List.setIfInBounds_toArray]); (try simp only [List.set_cons_succ]); (try simp only [List.set_cons_zero])
      refine takeD (i := 7) (d := some 58) (v := ?_) rfl (by kernel_rfl) (by kernel_rfl) (by kernel_rfl) (by kernel_rfl) (fun _ _ _ h => h) (Or.inl ⟨by kernel_rfl, fun X hX => Or.inl ?_⟩) (by assumption) ?_
      rotate_left
      · first | (go_simp; done) | (go_simp; with_reducible rfl)
      (try simp only [Act.put]); (try simp only [List.setIfInBounds_toArray]); (try simp only [List.set_cons_succ]); (try simp only [List.set_cons_zero])
      refine wpAnyH_ready (rs := [2]) (by kernel_rfl) (by simp) ?_
      refine AllReadyH.cons rfl (fun K hK => ?_) AllReadyH.nil
      rw [if_pos (by kernel_rfl)]
      go_simp
      refine (HT.out _ (G5.out _ hHeld)).mono ?_
      rintro e y1 ⟨rfl, hF⟩
      have Fy1 := Lib.hid (hHeld.trans hF)
      clear hF
      refine hK.out _ _ (Fy1.out) (fun hHeld => ?_)
      clear hK K
      (try simp only [Act.put]); (try simp only [List.setIfInBounds_toArray]); (try simp only [List.set_cons_succ]); (try simp only [List.set_cons_zero])
      refine wpAnyH_ready (rs := [8]) (by kernel_rfl) (by simp) ?_
      refine AllReadyH.cons rfl (fun K hK => ?_) AllReadyH.nil
      rw [if_pos (by kernel_rfl)]
      go_simp
      refine (HS2.out _ (G5.out _ hHeld)).mono ?_
      rintro e y2 ⟨rfl, hF⟩
      have Fy2 := Lib.hid (hHeld.trans hF)
      clear hF
      refine hK.out _ _ (Fy2.out) (fun hHeld => ?_)
      clear hK K
      (try simp only [Act.put]); (try simp only [List.setIfInBounds_toArray]); (try simp only [List.set_cons_succ]); (try simp only [List.set_cons_zero])
      refine takeD (i := 9) (d := some 60) (v := .bool true) rfl (by kernel_rfl) (by kernel_rfl) (by kernel_rfl) (by kernel_rfl) (fun _ _ _ h => h) (Or.inl ⟨by kernel_rfl, fun X hX => Or.inl (exec_bin .eql 23 (.tmp 53) (.tmp 59) 23 rfl _ _ _ rfl rfl (by kernel_rfl) (EQT.out X))⟩) (by assumption) ?_
      (try simp only [Act.put]); (try simp only [List.setIfInBounds_toArray]); (try simp only [List.set_cons_succ]); (try simp only [List.set_cons_zero])
      refine takeD (i := 10) (d := some 61) (v := ?_) rfl (by kernel_rfl) (by kernel_rfl) (by kernel_rfl) (by kernel_rfl) (fun _ _ _ h => h) (Or.inl ⟨by kernel_rfl, fun X hX => Or.inl ?_⟩) (by assumption) ?_
      rotate_left
      · first | (go_simp; done) | (go_simp; with_reducible rfl)
      (try simp only [Act.put]); (try simp only [List.setIfInBounds_toArray]); (try simp only [List.set_cons_succ]); (try simp only [List.set_cons_zero])
      refine takeD (i := 11) (d := some 62) (v := .agg (arr .u8 I)) rfl (by kernel_rfl) (by kernel_rfl) (by kernel_rfl) (by kernel_rfl) (fun _ _ _ h => h) (Or.inl ⟨by kernel_rfl, fun X hX => Or.inl (exec_load 23 (.tmp 9) rfl _ _ rfl (LI.out X hX))⟩) (by assumption) ?_
      (try simp only [Act.put]); (try simp only [List.setIfInBounds_toArray]); (try simp only [List.set_cons_succ]); (try simp only [List.set_cons_zero])
      refine takeD (i := 13) (d := some 64) (v := ?_) rfl (by kernel_rfl) (by kernel_rfl) (by kernel_rfl) (by kernel_rfl) (fun _ _ _ h => h) (Or.inl ⟨by kernel_rfl, fun X hX => Or.inl ?_⟩) (by assumption) ?_
      rotate_left
      · first | (go_simp; done) | (go_simp; with_reducible rfl)
      (try simp only [Act.put]); (try simp only [List.setIfInBounds_toArray]); (try simp only [List.set_cons_succ]); (try simp only [List.set_cons_zero])
      refine takeD (i := 14) (d := some 65) (v := .string (str IB)) rfl (by kernel_rfl) (by kernel_rfl) (by kernel_rfl) (by kernel_rfl) (fun _ _ _ h => h) (Or.inl ⟨by kernel_rfl, fun X hX => Or.inl (exec_convert 31 9 (.tmp 64) rfl _ _ rfl (CI.out X hX))⟩) (by assumption) ?_
      (try simp only [Act.put]); (try simp only [List.setIfInBounds_toArray]); (try simp only [List.set_cons_succ]); (try simp only [List.set_cons_zero])
      refine wpAnyH_ready (rs := [12]) (by kernel_rfl) (by simp) ?_
      refine AllReadyH.cons rfl (fun K hK => ?_) AllReadyH.nil
      rw [if_pos (by kernel_rfl)]
      go_simp
      refine (HOF.out _ (G5.out _ hHeld)).mono ?_
      rintro e y3 ⟨rfl, hF⟩
      have Fy3 := Lib.hid (hHeld.trans hF)
      clear hF
      refine hK.out _ _ (Fy3.out) (fun hHeld => ?_)
      clear hK K
      (try simp only [Act.put]); (try simp only [List.setIfInBounds_toArray]); (try simp only [List.set_cons_succ]); (try simp only [List.set_cons_zero])
      refine wpAnyH_ready (rs := [15]) (by kernel_rfl) (by simp) ?_
      refine AllReadyH.cons rfl (fun K hK => ?_) AllReadyH.nil
      rw [if_pos (by kernel_rfl)]
      go_simp
      refine (HS3.out _ (G5.out _ hHeld)).mono ?_
      rintro e y4 ⟨rfl, hF⟩
      have Fy4 := Lib.hid (hHeld.trans hF)
      clear hF
      refine hK.out _ _ (Fy4.out) (fun hHeld => ?_)
      clear hK K
      (try simp only [Act.put]); (try simp only [List.setIfInBounds_toArray]); (try simp only [List.set_cons_succ]); (try simp only [List.set_cons_zero])
      refine takeD (i := 16) (d := some 67) (v := .bool true) rfl (by kernel_rfl) (by kernel_rfl) (by kernel_rfl) (by kernel_rfl) (fun _ _ _ h => h) (Or.inl ⟨by kernel_rfl, fun X hX => Or.inl (exec_bin .eql 23 (.tmp 63) (.tmp 66) 23 rfl _ _ _ rfl rfl (by kernel_rfl) (EQO.out X))⟩) (by assumption) ?_
      (try simp only [Act.put]); (try simp only [List.setIfInBounds_toArray]); (try simp only [List.set_cons_succ]); (try simp only [List.set_cons_zero])
      refine takeD (i := 17) (d := some 68) (v := ?_) rfl (by kernel_rfl) (by kernel_rfl) (by kernel_rfl) (by kernel_rfl) (fun _ _ _ h => h) (Or.inl ⟨by kernel_rfl, fun X hX => Or.inl ?_⟩) (by assumption) ?_
      rotate_left
      · first | (go_simp; done) | (go_simp; with_reducible rfl)
      (try simp only [Act.put]); (try simp only [List.setIfInBounds_toArray]); (try simp only [List.set_cons_succ]); (try simp only [List.set_cons_zero])
      refine takeD (i := 18) (d := some 4) (v := ?_) rfl (by kernel_rfl) (by kernel_rfl) (by kernel_rfl) (by kernel_rfl) (fun _ _ _ h => h) (Or.inl ⟨by kernel_rfl, fun X hX => Or.inl ?_⟩) (by assumption) ?_
      rotate_left
      · first | (go_simp; done) | (go_simp; with_reducible rfl)
      (try simp only [Act.put]); (try simp only [List.setIfInBounds_toArray]); (try simp only [List.set_cons_succ]); (try simp only [List.set_cons_zero])
      refine wpAnyH_done (by kernel_rfl) ?_ _
      have HX := Lib.hid (F5.out.trans hHeld)
      clear hHeld
      go_wp2
      go_ret
      exact ⟨rfl, HX.out⟩

theorem mixes_walk (k s : ByteArray) (w : World) (hk : k.size ≤ maxLen) (hs : s.size ≤ maxLen) (hg : Gl w) :
    Calls Tryd.prog 6 #[.string k, .string s] w fun e w' => e = .returned (.bool true) ∧ Fr No w w' := by
  have e1 : k = str k.data.toList := by apply ByteArray.ext; simp [str]
  have e2 : s = str s.data.toList := by apply ByteArray.ext; simp [str]
  have l1 : k.data.toList.length = k.size := rfl
  have l2 : s.data.toList.length = s.size := rfl
  rw [e1, e2]
  by_cases h2 : k.size ≤ 64 ∧ s.size ≤ 300
  · exact mixes_ok _ _ _ (by omega) (by omega) hg
  · exact mixes_big _ _ _ (by omega) (by omega) (by omega) hg
end Go.Proofs.YtdemmillejgpoaaDoor
