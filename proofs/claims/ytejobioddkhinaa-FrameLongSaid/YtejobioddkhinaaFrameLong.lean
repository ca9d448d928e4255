/- The walk of 'FrameLong'. -/
import Derived.Test.YtejobioddkhinaaFbM
import Derived.Deep.Slices
import Derived.Laws.MakeOwn
import Derived.OwnWalk
namespace Go.Proofs.Ytejobioddkhinaa
open Go.RowKit
set_option linter.unusedVariables false
set_option maxRecDepth 100000

theorem mk8 (n : Nat) (h : n ≤ 100000) (W : World) :
    (Instr.makeSlice 23 (.int .i64 (n : Int)) (.int .i64 (n : Int))).run Try.prog W = .ok (.slice (some ⟨W.heap.size, 0, none⟩) n n) (W.alloc (.cells ((List.replicate n (0 : UInt8)).map u8v).toArray 5)) := by
  obtain ⟨i0, hi, hz0, hz1, hz2⟩ := info_parts (P := Try.prog) (e := 5) (z := .int .u8 0) (size := 1) (bytes := 1) (by kernel_rfl)
  have h := run_make (P := Try.prog) W 23 5 i0 (.int .u8 0) Try.underlying23 hi hz0 .i64 .i64 (n : Int) (n : Int) (by omega) (by omega) (by rw [hz2]; omega) (by omega)
  rw [hz1] at h
  have e : madeCells (Value.int .u8 0).cells (((n : Int).toNat) * 1) = ((List.replicate n (0 : UInt8)).map u8v).toArray := by
    apply Array.ext'
    rw [show (Value.int .u8 0).cells = #[.int .u8 0] from rfl, toList_madeCells_one]
    simp [u8v]
  rw [e] at h
  simpa using h

/-- The first i bytes are c, and the others 0. -/
def fillR (L : Nat) (c : UInt8) (i : Nat) : List UInt8 := List.replicate i c ++ List.replicate (L - i) 0
theorem fillR_step {L i : Nat} (c : UInt8) (h : i < L) : ((fillR L c i).map u8v).set i (u8v c) = (fillR L c (i + 1)).map u8v := by
  obtain ⟨m, hm⟩ : ∃ m, L - i = m + 1 := ⟨L - i - 1, by omega⟩
  have h2 : L - (i + 1) = m := by omega
  unfold fillR
  rw [hm, h2, List.replicate_succ, List.map_append, List.set_append_right _ _ (by simp), List.length_map, List.length_replicate, Nat.sub_self, List.map_cons, List.set_cons_zero, List.replicate_succ', List.map_append, List.map_append]
  simp
theorem fillR_get {L i : Nat} (c : UInt8) (h : i < L) : ((fillR L c i).map u8v)[i]? = some (u8v 0) := by
  obtain ⟨m, hm⟩ : ∃ m, L - i = m + 1 := ⟨L - i - 1, by omega⟩
  unfold fillR
  rw [hm, List.map_append, List.getElem?_append_right (by simp)]
  simp
theorem fillR_zero (L : Nat) (c : UInt8) : fillR L c 0 = List.replicate L 0 := by simp [fillR]
theorem fillR_all (L : Nat) (c : UInt8) : fillR L c L = List.replicate L c := by simp [fillR]

theorem long_math {s : List UInt8} (h1 : 1 ≤ s.length) (h2 : s.length ≤ 1024) : isF ((putV s).take (s.length + 1)) = false ∧ badF ((putV s).take (s.length + 1)) = false := by
  rw [putV_some h1 h2]
  have e : (two8 s.length ++ s).take (s.length + 1) = two8 s.length ++ s.take (s.length - 1) := by
    obtain ⟨m, hm⟩ : ∃ m, s.length = m + 1 := ⟨s.length - 1, by omega⟩
    rw [show s.length + 1 = m + 2 by omega, show s.length - 1 = m by omega]
    rfl
  rw [e]
  have hl := lenH_two s.length (by omega) (s.take (s.length - 1))
  constructor
  · unfold isF
    rw [hl]
    have e2 : (two8 s.length).length = 2 := rfl
    exact decide_eq_false (by rw [List.length_append, e2, List.length_take]; omega)
  · unfold badF
    rw [hl]
    exact decide_eq_false (by omega)

set_option maxHeartbeats 8000000 in
theorem frame_long (n : Nat) (c : UInt8) (w : World) (hn : n < 65536) : Calls Try.prog 7 #[.int .u16 (n : Int), .int .u8 (c.toNat : Int)] w fun e w' => e = .returned (.bool true) ∧ Fr No w w' := by
  obtain ⟨L, hL⟩ : ∃ L, L = n % 1200 := ⟨_, rfl⟩
  obtain ⟨C, hC⟩ : ∃ C : Int, C = (c.toNat : Int) := ⟨_, rfl⟩
  have hCv : Value.int .u8 C = u8v c := by rw [hC]
  rw [← hC]
  have wn : IntKind.i64.wrap (n : Int) = (n : Int) := IntWalk.i64_in _ (by omega)
  have r1 : (n : Int).tmod 1200 = (L : Int) := by rw [Int.tmod_eq_emod_of_nonneg (by omega)]; omega
  have r2 : (n : Int) % 1200 = (L : Int) := by omega
  have wL : IntKind.i64.wrap (L : Int) = (L : Int) := IntWalk.i64_in _ (by omega)
  have HMK := Lib.hid (fun X => mk8 L (by omega) X)
  have HLL : Hid (L < 1200) := Lib.hid (by omega)
  have HCV := Lib.hid hCv
  obtain ⟨g, hg⟩ : ∃ g, g = w.heap.size := ⟨_, rfl⟩
  have HG := Lib.hid hg
  clear hL hC hn hCv hg
  go_enter Try.func7, Try.ntmps7
  go_wp2_with (refine wpList_execG (.slice (some ⟨g, 0, none⟩) L L) (exec_make 23 (.tmp 18) (.tmp 18) rfl _ _ _ rfl rfl (by rw [HG.out]; exact HMK.out _)) rfl ?_)
  refine wp_world (fun W => Fr No w W ∧ Blk W g 5 ((fillR L c 0).map u8v)) ⟨(Fr.refl No w).alloc _, by rw [fillR_zero, HG.out]; have := Blk.new w 5 ((List.replicate L (0 : UInt8)).map u8v); simpa using this⟩ ?_
  rintro w1 ⟨hF1, hB1⟩
  have F1 := Lib.hid hF1
  have B1 := Lib.hid hB1
  clear hF1 hB1 HMK
  go_loopw [6] (fun x wr => ∃ i : Nat, i ≤ L ∧ x = .int .i64 i ∧ Blk wr g 5 ((fillR L c i).map u8v) ∧ Fr No w wr) (fun x _ => L - (intOf x).toNat)
  case atStart => exact ⟨0, by omega, rfl, B1.out, F1.out⟩
  clear F1 B1
  case round =>
    obtain ⟨i, hi, rfl, hB, hF⟩ := hrel
    by_cases hlt : i < L
    · have hlt2 : (i : Int) < (L : Int) := by omega
      have k1 : wr.cell? ⟨g, i, none⟩ = some (u8v 0) := hB.cell (fillR_get c hlt)
      have k2 : wr.frozen? ⟨g, i, none⟩ = false := hB.frozen _
      have hlt3 := HLL.out
      have e3 : IntKind.i64.wrap ((i : Int) + 1) = ((i + 1 : Nat) : Int) := IntWalk.i64_in _ (by omega)
      have HE : Hid (Blk (wr.setCell ⟨g, i, none⟩ (.int .u8 C)) g 5 ((fillR L c (i + 1)).map u8v) ∧ Fr No w (wr.setCell ⟨g, i, none⟩ (.int .u8 C))) := Lib.hid (by
        refine ⟨?_, hF.setCell (p := ⟨g, i, none⟩) (.inr (by rw [HG.out]; exact Nat.le_refl _)) _⟩
        rw [HCV.out, ← fillR_step c hlt]
        exact hB.set _ _)
      have HQ : Hid (L - (i + 1) < L - i) := Lib.hid (by omega)
      have HK : Hid (i + 1 ≤ L) := Lib.hid hlt
      clear hB hF hlt hi hlt3
      go_wp2
      exact ⟨⟨i + 1, HK.out, by simp, HE.out.1, HE.out.2⟩, by simpa [intOf] using HQ.out⟩
    · have hlt2 : ¬ (i : Int) < (L : Int) := by omega
      obtain rfl : i = L := by omega
      rw [fillR_all] at hB
      obtain ⟨s, hs⟩ : ∃ s, s = List.replicate i c := ⟨_, rfl⟩
      have hsl : s.length = i := by rw [hs]; simp
      rw [← hs] at hB
      have hcv := conv_blk (cap := i) hB
      rw [hsl] at hcv
      have hpu := fun X => fput_any s (by have := HLL.out; omega) X
      obtain ⟨T, hT⟩ : ∃ T, T = str s := ⟨_, rfl⟩
      rw [← hT] at hcv hpu
      have HCV2 := Lib.hid hcv
      have HB := Lib.hid hB
      have HF := Lib.hid hF
      have HSL := Lib.hid hsl
      have HT := Lib.hid hT
      clear hB hF hlt hi hs hcv hsl hT HCV
      by_cases h0 : i = 0
      · have e1 : putV s = [] := by rw [putV, if_pos (by rw [HSL.out]; exact h0)]
        have e2 : putE s = 1 := by rw [putE, if_pos (by rw [HSL.out]; exact h0)]
        rw [e1, e2] at hpu
        have HPU : Hid (∀ X, Calls Try.prog 9 #[.string T] X fun e w' => e = .returned (.tuple #[.string ⟨#[]⟩, .int .i64 1]) ∧ Fr No X w') := Lib.hid hpu
        subst h0
        clear hpu e1 e2
        go_wp2_with (refine wpList_execG (.string T) (exec_convert 23 9 (.tmp 31) rfl _ _ rfl HCV2.out) rfl ?_)
        refine (HPU.out _).mono ?_
        rintro e w3 ⟨rfl, hF⟩
        have F3 := Lib.hid (HF.out.trans hF)
        clear hF HPU
        go_wp2_with fail
        refine (shown8_any _).mono ?_
        rintro e w4 ⟨rfl, hF⟩
        have F4 := Lib.hid (F3.out.trans hF)
        clear hF
        go_wp2
        go_ret
        exact ⟨rfl, F4.out⟩
      by_cases h1 : 1024 < i
      · have e1 : putV s = [] := by rw [putV, if_neg (by rw [HSL.out]; exact h0), if_pos (by rw [HSL.out]; exact h1)]
        have e2 : putE s = 80 := by rw [putE, if_neg (by rw [HSL.out]; exact h0), if_pos (by rw [HSL.out]; exact h1)]
        rw [e1, e2] at hpu
        have HPU : Hid (∀ X, Calls Try.prog 9 #[.string T] X fun e w' => e = .returned (.tuple #[.string ⟨#[]⟩, .int .i64 80]) ∧ Fr No X w') := Lib.hid hpu
        have t0 : ((i : Int) == 0) = false := by simp; omega
        have t1 : decide ((1024 : Int) < (i : Int)) = true := decide_eq_true (by omega)
        clear hpu e1 e2 h0 h1
        go_wp2_with (refine wpList_execG (.string T) (exec_convert 23 9 (.tmp 31) rfl _ _ rfl HCV2.out) rfl ?_)
        refine (HPU.out _).mono ?_
        rintro e w3 ⟨rfl, hF⟩
        have F3 := Lib.hid (HF.out.trans hF)
        clear hF HPU
        go_wp2_with fail
        refine (shown8_any _).mono ?_
        rintro e w4 ⟨rfl, hF⟩
        have F4 := Lib.hid (F3.out.trans hF)
        clear hF
        go_wp2
        go_ret
        exact ⟨rfl, F4.out⟩
      · have hs1 : 1 ≤ s.length := by rw [HSL.out]; omega
        have hs2 : s.length ≤ 1024 := by rw [HSL.out]; omega
        have e2 : putE s = 0 := by rw [putE, if_neg (by omega), if_neg (by omega)]
        obtain ⟨m1, m2⟩ := long_math hs1 hs2
        obtain ⟨f1, f2, f3⟩ := frame_first hs1 hs2 []
        rw [List.append_nil] at f1 f2 f3
        obtain ⟨f, hf⟩ : ∃ f, f = putV s := ⟨_, rfl⟩
        have hfl : f.length = i + 2 := by rw [hf, putV_some hs1 hs2]; simp [two8, HSL.out]
        rw [← hf] at m1 m2 f1 f2 f3 hpu
        rw [HSL.out] at m1 m2
        rw [e2] at hpu
        have hrest := noF_rest m1
        have htx : textF (f.take (i + 1)) = [] := by rw [textF, if_neg (by rw [m1]; decide)]
        have hjoin : pushV (f.take (i + 1)) (f.drop (i + 1)) = f := by rw [pushV, if_neg (by rw [m2]; decide)]; exact List.take_append_drop _ _
        have hpe : pushE (f.take (i + 1)) = 0 := by rw [pushE, if_neg (by rw [m2]; decide)]
        have hup : (str f).extract 0 (i + 1) = str (f.take (i + 1)) := by rw [str_extract]; simp
        have hfr : (str f).extract (i + 1) (i + 2) = str (f.drop (i + 1)) := by rw [str_extract, List.take_of_length_le (by simp; omega)]
        have hp1 := fun p X (hS : Sp p p [] X) => fpush_any p p [] (f.take (i + 1)) X hS (by simp) (by simp; omega)
        have hx1 := fun p X (hS : Sp p p (f.take (i + 1)) X) => fnext_any p p (f.take (i + 1)) X hS (by simp; omega)
        rw [htx, m1, hrest] at hx1
        have hp2 := fun p X (hS : Sp p p (f.take (i + 1)) X) => fpush_any p p (f.take (i + 1)) (f.drop (i + 1)) X hS (by simp; omega) (by simp; omega)
        rw [hjoin, hpe] at hp2
        have hx2 := fun p X (hS : Sp p p f X) => fnext_any p p f X hS (by omega)
        rw [f1, f2, f3, ← HT.out] at hx2
        have hlf := fun p X (hS : Sp p p [] X) => fleft_any p p [] X hS (by simp)
        have hszf := str_size f
        obtain ⟨V, hV⟩ : ∃ V, V = str f := ⟨_, rfl⟩
        obtain ⟨A1, hA1⟩ : ∃ V, V = str (f.take (i + 1)) := ⟨_, rfl⟩
        obtain ⟨A2, hA2⟩ : ∃ V, V = str (f.drop (i + 1)) := ⟨_, rfl⟩
        obtain ⟨R1, hR1⟩ : ∃ R, R = f.take (i + 1) := ⟨_, rfl⟩
        obtain ⟨D, hD⟩ : ∃ D, D = i + 1 := ⟨_, rfl⟩
        obtain ⟨F, hFF⟩ : ∃ D, D = i + 2 := ⟨_, rfl⟩
        rw [← hV] at hpu hup hfr hszf
        rw [← hA1, ← hD] at hup
        rw [← hA2, ← hD, ← hFF] at hfr
        have hfr2 : V.extract D V.size = A2 := by rw [hszf, hfl, ← hFF]; exact hfr
        rw [← hA1, ← hR1] at hp1
        rw [← hR1] at hx1
        rw [← hR1, ← hA2] at hp2
        have HP1 : Hid (∀ p X, Sp p p [] X → Calls Try.prog 12 #[.pointer (some ⟨p, 0, none⟩), .string A1] X fun e w' => e = .returned (.int .i64 0) ∧ Sp p p R1 w' ∧ KSp p X w') := Lib.hid hp1
        have HX1 : Hid (∀ p X, Sp p p R1 X → Calls Try.prog 13 #[.pointer (some ⟨p, 0, none⟩)] X fun e w' => e = .returned (.tuple #[.string ⟨#[]⟩, .bool false]) ∧ Sp p p R1 w' ∧ KSp p X w') := Lib.hid hx1
        have HP2 := Lib.hid hp2
        have HX2 := Lib.hid hx2
        have HLF : Hid (∀ p X, Sp p p [] X → Calls Try.prog 15 #[.pointer (some ⟨p, 0, none⟩)] X fun e w' => e = .returned (.int .i64 0) ∧ Sp p p [] w' ∧ KSp p X w') := Lib.hid hlf
        have HPU := Lib.hid hpu
        have t0 : ((i : Int) == 0) = false := by simp; omega
        have t1 : decide ((1024 : Int) < (i : Int)) = false := decide_eq_false (by omega)
        have z1 : (V.size : Int) = (F : Int) := by rw [hszf, hfl]; omega
        have z2 : (2 : Int) + (i : Int) = (F : Int) := by omega
        have z3 : IntKind.i64.wrap (F : Int) = (F : Int) := IntWalk.i64_in _ (by omega)
        have z4 : (F : Int) - 1 = (D : Int) := by omega
        have z5 : IntKind.i64.wrap (D : Int) = (D : Int) := IntWalk.i64_in _ (by omega)
        clear hpu hp1 hx1 hp2 hx2 hlf e2 m1 m2 f1 f2 f3 hf hfl hrest htx hjoin hpe hszf hV hA1 hA2 hR1 hD hFF hs1 hs2 h0 h1
        go_wp2_with (refine wpList_execG (.string T) (exec_convert 23 9 (.tmp 31) rfl _ _ rfl HCV2.out) rfl ?_)
        refine (HPU.out _).mono ?_
        rintro e w3 ⟨rfl, hF⟩
        have F3 := Lib.hid (HF.out.trans hF)
        have B3 := Lib.hid (HB.out.fr hF id)
        obtain ⟨p, hp⟩ : ∃ p, p = w3.heap.size := ⟨_, rfl⟩
        have HP := Lib.hid hp
        have HGP : Hid (g < p ∧ w.heap.size ≤ p) := Lib.hid ⟨by rw [hp]; exact B3.out.lt, by rw [hp]; exact F3.out.size⟩
        clear hF HPU HB HF hp HCV2
        go_wp2_with (refine wpList_execG (.agg zeroSp.toArray) (exec_build 29 #[] rfl #[] (by rfl) _ (sp_build _)) rfl ?_)
        rw [← HP.out]
        change Calls _ _ _ (w3.alloc (.cells zeroSp.toArray 29)) _
        have hS0 : Sp p p [] (w3.alloc (.cells zeroSp.toArray 29)) := by rw [HP.out]; exact Sp.new _ w3 (Nat.le_refl _)
        refine (HP1.out p _ hS0).mono ?_
        rintro e w4 ⟨rfl, hS, hk⟩
        have S4 := Lib.hid hS
        have F4 := Lib.hid (KSp.no (F3.out.alloc _) hk HGP.out.2)
        have B4 := Lib.hid ((B3.out.alloc (.cells zeroSp.toArray 29)).fr hk.fr (by have := HGP.out.1; omega))
        clear hS hk HP1 F3 B3 hS0 HP
        go_wp2_with fail
        refine (HX1.out p _ S4.out).mono ?_
        rintro e w5 ⟨rfl, hS, hk⟩
        have S5 := Lib.hid hS
        have F5 := Lib.hid (KSp.no F4.out hk HGP.out.2)
        have B5 := Lib.hid (B4.out.fr hk.fr (by have := HGP.out.1; omega))
        clear hS hk HX1 S4 F4 B4
        go_wp2_with fail
        refine (HP2.out p _ S5.out).mono ?_
        rintro e w6 ⟨rfl, hS, hk⟩
        have S6 := Lib.hid hS
        have F6 := Lib.hid (KSp.no F5.out hk HGP.out.2)
        have B6 := Lib.hid (B5.out.fr hk.fr (by have := HGP.out.1; omega))
        clear hS hk HP2 S5 F5 B5
        go_wp2_with fail
        refine (HX2.out p _ S6.out).mono ?_
        rintro e w7 ⟨rfl, hS, hk⟩
        have S7 := Lib.hid hS
        have F7 := Lib.hid (KSp.no F6.out hk HGP.out.2)
        have B7 := B6.out.fr hk.fr (by have := HGP.out.1; omega)
        have hcv7 := conv_blk (cap := i) B7
        rw [HSL.out, ← HT.out] at hcv7
        have HCV7 := Lib.hid hcv7
        clear hS hk HX2 S6 F6 B6 B7 hcv7
        go_wp2_with (refine wpList_execG (.string T) (exec_convert 23 9 (.tmp 120) rfl _ _ rfl HCV7.out) rfl ?_)
        refine (HLF.out p _ S7.out).mono ?_
        rintro e w8 ⟨rfl, hS, hk⟩
        have F8 := Lib.hid (KSp.no F7.out hk HGP.out.2)
        clear hS hk HLF S7 F7
        go_wp2_with fail
        refine (shown8_any _).mono ?_
        rintro e w9 ⟨rfl, hF⟩
        have F9 := Lib.hid (F8.out.trans hF)
        clear hF
        go_wp2
        go_ret
        exact ⟨rfl, F9.out⟩
end Go.Proofs.Ytejobioddkhinaa
