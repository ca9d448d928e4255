/- Walks of 'FrameBad'. -/
import Derived.Test.YtejobioddkhinaaFbM
namespace Go.Proofs.Ytejobioddkhinaa
open Go.RowKit
set_option linter.unusedVariables false
set_option maxRecDepth 100000

set_option maxHeartbeats 4000000 in
theorem bad_zero_no (good more : List UInt8) (n : Nat) (w : World) (hg : good.length ≤ 300) (hm : more.length ≤ 300) (hn : n = 0) (hgood : good.length = 0) :
    Calls Try.prog 5 #[.string (str good), .string (str more), .int .u16 (n : Int)] w fun e w' => e = .returned (.bool true) ∧ Fr No w w' := by
  have hszg := str_size good
  have hszm := str_size more
  have hK6 : n < 65536 := by omega
  have hKb : n = 0 ∨ 1024 < n := by omega
  obtain ⟨R2, hR2⟩ : ∃ R, R = two8 n ++ more := ⟨_, rfl⟩
  have hb2 : badF R2 = true := by rw [hR2]; exact bad_two hK6 hKb more
  have hn2 : isF R2 = false := bad_no hb2
  have hr2 : restF R2 = R2 := noF_rest hn2
  have ht2 : textF R2 = [] := by rw [textF, if_neg (by rw [hn2]; decide)]
  have hl2 : R2.length = 2 + more.length := by rw [hR2]; simp [two8]; omega
  have hpl := putV_len_le (s := good) (by omega)
  obtain rfl : good = [] := List.eq_nil_of_length_eq_zero hgood
  have f1 : isF (putV [] ++ R2) = false := hn2
  have f2 : textF (putV [] ++ R2) = [] := ht2
  have f3 : restF (putV [] ++ R2) = R2 := hr2
  have hE : putE [] = 1 := rfl
  obtain ⟨R, hR⟩ : ∃ R, R = putV ([] : List UInt8) ++ R2 := ⟨_, rfl⟩
  have hRl : R.length ≤ 2000 := by rw [hR, List.length_append]; omega
  rw [← hR] at f1 f2 f3
  have hpu := fun X => fput_any ([] : List UInt8) (by decide) X
  rw [hE] at hpu
  have hcv := fun X => conv_two n hK6 X
  have hsl : (str ([] : List UInt8)).extract 0 ([] : List UInt8).length = str ([] : List UInt8) := by rw [str_extract]; simp
  obtain ⟨A, hA⟩ : ∃ A, A = ([] : List UInt8).length := ⟨_, rfl⟩
  obtain ⟨B, hB⟩ : ∃ A, A = more.length := ⟨_, rfl⟩
  obtain ⟨G, hG⟩ : ∃ A, A = str ([] : List UInt8) := ⟨_, rfl⟩
  obtain ⟨M, hM⟩ : ∃ A, A = str more := ⟨_, rfl⟩
  obtain ⟨V, hV⟩ : ∃ A, A = str (putV ([] : List UInt8)) := ⟨_, rfl⟩
  obtain ⟨H, hH⟩ : ∃ A, A = str (two8 n) := ⟨_, rfl⟩
  obtain ⟨P1, hP1⟩ : ∃ P, P = V ++ H := ⟨_, rfl⟩
  obtain ⟨P2, hP2⟩ : ∃ P, P = P1 ++ M := ⟨_, rfl⟩
  have hPR : P2 = str R := by rw [hP2, hP1, hV, hH, hM, str_append, str_append, hR, hR2, List.append_assoc]
  have c1 : V ++ H = P1 := hP1.symm
  have c2 : P1 ++ M = P2 := hP2.symm
  have hszV := str_size (putV ([] : List UInt8))
  have hszH : H.size = 2 := by rw [hH]; rfl
  have hszP : P1.size = V.size + H.size := by rw [hP1, ByteArray.size_append]
  rw [← hV] at hszV hpu
  rw [← hG] at hszg hpu hsl ⊢
  rw [← hM] at hszm ⊢
  rw [← hH] at hcv
  rw [← hA] at hszg hsl
  rw [← hB] at hszm hl2
  have nc1 : ¬ 9223372036854775807 < V.size + H.size := by omega
  have nc2 : ¬ 9223372036854775807 < P1.size + M.size := by omega
  have g1 : (G.size : Int) = (A : Int) := by omega
  have g2 : (M.size : Int) = (B : Int) := by omega
  have t1 : decide ((300 : Int) < (A : Int)) = false := decide_eq_false (by omega)
  have t2 : decide ((300 : Int) < (B : Int)) = false := decide_eq_false (by omega)
  have t3 : decide ((0 : Int) < (n : Int)) = false := decide_eq_false (by omega)
  have t3n : decide (0 < n) = false := decide_eq_false (by omega)
  have wn : IntKind.i64.wrap (n : Int) = (n : Int) := IntWalk.i64_in _ (by omega)
  have wK : IntKind.i64.wrap (n : Int) = (n : Int) := IntWalk.i64_in _ (by omega)
  obtain ⟨h, hh⟩ : ∃ h, h = n / 256 := ⟨_, rfl⟩
  obtain ⟨l, hl⟩ : ∃ h, h = n % 256 := ⟨_, rfl⟩
  rw [← hh, ← hl] at hcv
  have q1 : (n : Int) / 256 = (h : Int) := by omega
  have q2 : IntKind.u8.wrap (h : Int) = (h : Int) := by
    have h1 : IntKind.u8.wrap (h : Int) = (h : Int) % 256 := by simp [IntKind.wrap, IntKind.signed, IntKind.bits]
    omega
  have q3 : IntKind.u8.wrap (n : Int) = (l : Int) := by
    have h1 : IntKind.u8.wrap (n : Int) = (n : Int) % 256 := by simp [IntKind.wrap, IntKind.signed, IntKind.bits]
    omega
  obtain ⟨Q, hQ⟩ : ∃ Q, Q = 2 + B := ⟨_, rfl⟩
  have q4 : (2 : Int) + (B : Int) = (Q : Int) := by omega
  have q5 : IntKind.i64.wrap (Q : Int) = (Q : Int) := IntWalk.i64_in _ (by omega)
  have hph := fun p X (hS : Sp p p [] X) => fpush_any p p [] R X hS (by simp) (by omega)
  rw [← hPR] at hph
  have hx1 := fun p X (hS : Sp p p R X) => fnext_any p p R X hS (by omega)
  rw [f1, f2, f3] at hx1
  have hx2 := fun p X (hS : Sp p p R2 X) => fnext_any p p R2 X hS (by omega)
  rw [hn2, ht2, hr2] at hx2
  have hbd := fun p X (hS : Sp p p R2 X) => fbad_any p p R2 X hS (by omega)
  rw [hb2] at hbd
  have hpz := fun p X (hS : Sp p p R2 X) => fpush_any p p R2 [122] X hS (by omega) (by decide)
  have ez : pushE R2 = 80 := by rw [pushE, if_pos hb2]
  have ez2 : pushV R2 [122] = R2 := by rw [pushV, if_pos hb2]
  rw [ez, ez2] at hpz
  have hlf := fun p X (hS : Sp p p R2 X) => fleft_any p p R2 X hS (by omega)
  rw [hl2, ← hQ] at hlf
  rw [← hG] at hx1
  have HPU := Lib.hid hpu
  have HCV := Lib.hid hcv
  have HPH : Hid (∀ p X, Sp p p [] X → Calls Try.prog 12 #[.pointer (some ⟨p, 0, none⟩), .string P2] X fun e w' => e = .returned (.int .i64 0) ∧ Sp p p R w' ∧ KSp p X w') := Lib.hid hph
  have HX1 := Lib.hid hx1
  have HX2 : Hid (∀ p X, Sp p p R2 X → Calls Try.prog 13 #[.pointer (some ⟨p, 0, none⟩)] X fun e w' => e = .returned (.tuple #[.string ⟨#[]⟩, .bool false]) ∧ Sp p p R2 w' ∧ KSp p X w') := Lib.hid hx2
  have HBD := Lib.hid hbd
  have HPZ : Hid (∀ p X, Sp p p R2 X → Calls Try.prog 12 #[.pointer (some ⟨p, 0, none⟩), .string ⟨#[122]⟩] X fun e w' => e = .returned (.int .i64 80) ∧ Sp p p R2 w' ∧ KSp p X w') := Lib.hid hpz
  have HLF := Lib.hid hlf
  clear hszg hszm hszV hszH hszP hA hB hG hM hV hH hP1 hP2 hPR hpu hcv hph hx1 hx2 hbd hpz hlf hg hm hn hK6 hKb hR2 hb2 hn2 hr2 ht2 hl2 hpl f1 f2 f3 hE hR hRl hh hl hQ ez ez2
  go_enter Try.func5, Try.ntmps5
  go_wp2_with fail
  refine (shown8_any _).mono ?_
  rintro e w1 ⟨rfl, hF⟩
  have F1 := Lib.hid hF
  obtain ⟨p, hp⟩ : ∃ p, p = w1.heap.size := ⟨_, rfl⟩
  have HP : Hid (p = w1.heap.size) := Lib.hid hp
  clear hF hp
  go_wp2_with (refine wpList_execG (.agg zeroSp.toArray) (exec_build 29 #[] rfl #[] (by rfl) _ (sp_build _)) rfl ?_)
  refine (HPU.out (w1.alloc (.cells zeroSp.toArray 29))).mono ?_
  rintro e w2 ⟨rfl, hF⟩
  rw [← HP.out]
  have S2 : Hid (Sp p p [] w2) := Lib.hid (by rw [HP.out]; exact (Sp.new w1.heap.size w1 (Nat.le_refl _)).fr hF)
  have F2 : Hid (Fr No w w2) := Lib.hid ((F1.out.alloc _).trans hF)
  have HPP : Hid (w.heap.size ≤ p) := Lib.hid (by rw [HP.out]; exact F1.out.size)
  clear hF F1 HPU HP
  go_wp2_with (refine wpList_execG (.string H) (exec_convert 23 9 (.tmp 52) rfl _ _ rfl (HCV.out _)) rfl ?_)
  refine (HPH.out p _ (S2.out.fr ((Fr.refl No w2).alloc _))).mono ?_
  rintro e w3 ⟨rfl, hS, hk⟩
  have S3 := Lib.hid hS
  have F3 := Lib.hid (KSp.no (F2.out.alloc _) hk HPP.out)
  clear hS hk HPH S2 F2 HCV
  go_wp2_with fail
  refine (HX1.out p _ S3.out).mono ?_
  rintro e w4 ⟨rfl, hS, hk⟩
  have S4 := Lib.hid hS
  have F4 := Lib.hid (KSp.no F3.out hk HPP.out)
  clear hS hk HX1 S3 F3
  go_wp2_with fail
  refine (HX2.out p _ S4.out).mono ?_
  rintro e w5 ⟨rfl, hS, hk⟩
  have S5 := Lib.hid hS
  have F5 := Lib.hid (KSp.no F4.out hk HPP.out)
  clear hS hk HX2 S4 F4
  go_wp2_with fail
  refine (HBD.out p _ S5.out).mono ?_
  rintro e w6 ⟨rfl, hS, hk⟩
  have S6 := Lib.hid hS
  have F6 := Lib.hid (KSp.no F5.out hk HPP.out)
  clear hS hk HBD S5 F5
  go_wp2_with fail
  refine (HPZ.out p _ S6.out).mono ?_
  rintro e w7 ⟨rfl, hS, hk⟩
  have S7 := Lib.hid hS
  have F7 := Lib.hid (KSp.no F6.out hk HPP.out)
  clear hS hk HPZ S6 F6
  go_wp2_with fail
  refine (HLF.out p _ S7.out).mono ?_
  rintro e w8 ⟨rfl, hS, hk⟩
  have S8 := Lib.hid hS
  have F8 := Lib.hid (KSp.no F7.out hk HPP.out)
  clear hS hk HLF S7 F7
  go_wp2
  go_ret
  exact ⟨rfl, F8.out⟩

set_option maxHeartbeats 4000000 in
theorem bad_zero_yes (good more : List UInt8) (n : Nat) (w : World) (hg : good.length ≤ 300) (hm : more.length ≤ 300) (hn : n = 0) (hgood : 1 ≤ good.length) :
    Calls Try.prog 5 #[.string (str good), .string (str more), .int .u16 (n : Int)] w fun e w' => e = .returned (.bool true) ∧ Fr No w w' := by
  have hszg := str_size good
  have hszm := str_size more
  have hK6 : n < 65536 := by omega
  have hKb : n = 0 ∨ 1024 < n := by omega
  obtain ⟨R2, hR2⟩ : ∃ R, R = two8 n ++ more := ⟨_, rfl⟩
  have hb2 : badF R2 = true := by rw [hR2]; exact bad_two hK6 hKb more
  have hn2 : isF R2 = false := bad_no hb2
  have hr2 : restF R2 = R2 := noF_rest hn2
  have ht2 : textF R2 = [] := by rw [textF, if_neg (by rw [hn2]; decide)]
  have hl2 : R2.length = 2 + more.length := by rw [hR2]; simp [two8]; omega
  have hpl := putV_len_le (s := good) (by omega)
  obtain ⟨f1, f2, f3⟩ := frame_first hgood (by omega) R2
  have hE : putE good = 0 := by rw [putE, if_neg (by omega), if_neg (by omega)]
  obtain ⟨R, hR⟩ : ∃ R, R = putV good ++ R2 := ⟨_, rfl⟩
  have hRl : R.length ≤ 2000 := by rw [hR, List.length_append]; omega
  rw [← hR] at f1 f2 f3
  have hpu := fun X => fput_any good (by omega) X
  rw [hE] at hpu
  have hcv := fun X => conv_two n hK6 X
  have hsl : (str good).extract 0 good.length = str good := by rw [str_extract]; simp
  obtain ⟨A, hA⟩ : ∃ A, A = good.length := ⟨_, rfl⟩
  obtain ⟨B, hB⟩ : ∃ A, A = more.length := ⟨_, rfl⟩
  obtain ⟨G, hG⟩ : ∃ A, A = str good := ⟨_, rfl⟩
  obtain ⟨M, hM⟩ : ∃ A, A = str more := ⟨_, rfl⟩
  obtain ⟨V, hV⟩ : ∃ A, A = str (putV good) := ⟨_, rfl⟩
  obtain ⟨H, hH⟩ : ∃ A, A = str (two8 n) := ⟨_, rfl⟩
  obtain ⟨P1, hP1⟩ : ∃ P, P = V ++ H := ⟨_, rfl⟩
  obtain ⟨P2, hP2⟩ : ∃ P, P = P1 ++ M := ⟨_, rfl⟩
  have hPR : P2 = str R := by rw [hP2, hP1, hV, hH, hM, str_append, str_append, hR, hR2, List.append_assoc]
  have c1 : V ++ H = P1 := hP1.symm
  have c2 : P1 ++ M = P2 := hP2.symm
  have hszV := str_size (putV good)
  have hszH : H.size = 2 := by rw [hH]; rfl
  have hszP : P1.size = V.size + H.size := by rw [hP1, ByteArray.size_append]
  rw [← hV] at hszV hpu
  rw [← hG] at hszg hpu hsl ⊢
  rw [← hM] at hszm ⊢
  rw [← hH] at hcv
  rw [← hA] at hszg hsl
  rw [← hB] at hszm hl2
  have nc1 : ¬ 9223372036854775807 < V.size + H.size := by omega
  have nc2 : ¬ 9223372036854775807 < P1.size + M.size := by omega
  have g1 : (G.size : Int) = (A : Int) := by omega
  have g2 : (M.size : Int) = (B : Int) := by omega
  have t1 : decide ((300 : Int) < (A : Int)) = false := decide_eq_false (by omega)
  have t2 : decide ((300 : Int) < (B : Int)) = false := decide_eq_false (by omega)
  have t3 : decide ((0 : Int) < (n : Int)) = false := decide_eq_false (by omega)
  have t3n : decide (0 < n) = false := decide_eq_false (by omega)
  have wn : IntKind.i64.wrap (n : Int) = (n : Int) := IntWalk.i64_in _ (by omega)
  have wK : IntKind.i64.wrap (n : Int) = (n : Int) := IntWalk.i64_in _ (by omega)
  obtain ⟨h, hh⟩ : ∃ h, h = n / 256 := ⟨_, rfl⟩
  obtain ⟨l, hl⟩ : ∃ h, h = n % 256 := ⟨_, rfl⟩
  rw [← hh, ← hl] at hcv
  have q1 : (n : Int) / 256 = (h : Int) := by omega
  have q2 : IntKind.u8.wrap (h : Int) = (h : Int) := by
    have h1 : IntKind.u8.wrap (h : Int) = (h : Int) % 256 := by simp [IntKind.wrap, IntKind.signed, IntKind.bits]
    omega
  have q3 : IntKind.u8.wrap (n : Int) = (l : Int) := by
    have h1 : IntKind.u8.wrap (n : Int) = (n : Int) % 256 := by simp [IntKind.wrap, IntKind.signed, IntKind.bits]
    omega
  obtain ⟨Q, hQ⟩ : ∃ Q, Q = 2 + B := ⟨_, rfl⟩
  have q4 : (2 : Int) + (B : Int) = (Q : Int) := by omega
  have q5 : IntKind.i64.wrap (Q : Int) = (Q : Int) := IntWalk.i64_in _ (by omega)
  have hph := fun p X (hS : Sp p p [] X) => fpush_any p p [] R X hS (by simp) (by omega)
  rw [← hPR] at hph
  have hx1 := fun p X (hS : Sp p p R X) => fnext_any p p R X hS (by omega)
  rw [f1, f2, f3] at hx1
  have hx2 := fun p X (hS : Sp p p R2 X) => fnext_any p p R2 X hS (by omega)
  rw [hn2, ht2, hr2] at hx2
  have hbd := fun p X (hS : Sp p p R2 X) => fbad_any p p R2 X hS (by omega)
  rw [hb2] at hbd
  have hpz := fun p X (hS : Sp p p R2 X) => fpush_any p p R2 [122] X hS (by omega) (by decide)
  have ez : pushE R2 = 80 := by rw [pushE, if_pos hb2]
  have ez2 : pushV R2 [122] = R2 := by rw [pushV, if_pos hb2]
  rw [ez, ez2] at hpz
  have hlf := fun p X (hS : Sp p p R2 X) => fleft_any p p R2 X hS (by omega)
  rw [hl2, ← hQ] at hlf
  rw [← hG] at hx1
  have HPU := Lib.hid hpu
  have HCV := Lib.hid hcv
  have HPH : Hid (∀ p X, Sp p p [] X → Calls Try.prog 12 #[.pointer (some ⟨p, 0, none⟩), .string P2] X fun e w' => e = .returned (.int .i64 0) ∧ Sp p p R w' ∧ KSp p X w') := Lib.hid hph
  have HX1 := Lib.hid hx1
  have HX2 : Hid (∀ p X, Sp p p R2 X → Calls Try.prog 13 #[.pointer (some ⟨p, 0, none⟩)] X fun e w' => e = .returned (.tuple #[.string ⟨#[]⟩, .bool false]) ∧ Sp p p R2 w' ∧ KSp p X w') := Lib.hid hx2
  have HBD := Lib.hid hbd
  have HPZ : Hid (∀ p X, Sp p p R2 X → Calls Try.prog 12 #[.pointer (some ⟨p, 0, none⟩), .string ⟨#[122]⟩] X fun e w' => e = .returned (.int .i64 80) ∧ Sp p p R2 w' ∧ KSp p X w') := Lib.hid hpz
  have HLF := Lib.hid hlf
  clear hszg hszm hszV hszH hszP hA hB hG hM hV hH hP1 hP2 hPR hpu hcv hph hx1 hx2 hbd hpz hlf hg hm hn hK6 hKb hR2 hb2 hn2 hr2 ht2 hl2 hpl f1 f2 f3 hE hR hRl hh hl hQ ez ez2 hgood
  go_enter Try.func5, Try.ntmps5
  go_wp2_with fail
  refine (shown8_any _).mono ?_
  rintro e w1 ⟨rfl, hF⟩
  have F1 := Lib.hid hF
  obtain ⟨p, hp⟩ : ∃ p, p = w1.heap.size := ⟨_, rfl⟩
  have HP : Hid (p = w1.heap.size) := Lib.hid hp
  clear hF hp
  go_wp2_with (refine wpList_execG (.agg zeroSp.toArray) (exec_build 29 #[] rfl #[] (by rfl) _ (sp_build _)) rfl ?_)
  refine (HPU.out (w1.alloc (.cells zeroSp.toArray 29))).mono ?_
  rintro e w2 ⟨rfl, hF⟩
  rw [← HP.out]
  have S2 : Hid (Sp p p [] w2) := Lib.hid (by rw [HP.out]; exact (Sp.new w1.heap.size w1 (Nat.le_refl _)).fr hF)
  have F2 : Hid (Fr No w w2) := Lib.hid ((F1.out.alloc _).trans hF)
  have HPP : Hid (w.heap.size ≤ p) := Lib.hid (by rw [HP.out]; exact F1.out.size)
  clear hF F1 HPU HP
  go_wp2_with (refine wpList_execG (.string H) (exec_convert 23 9 (.tmp 52) rfl _ _ rfl (HCV.out _)) rfl ?_)
  refine (HPH.out p _ (S2.out.fr ((Fr.refl No w2).alloc _))).mono ?_
  rintro e w3 ⟨rfl, hS, hk⟩
  have S3 := Lib.hid hS
  have F3 := Lib.hid (KSp.no (F2.out.alloc _) hk HPP.out)
  clear hS hk HPH S2 F2 HCV
  go_wp2_with fail
  refine (HX1.out p _ S3.out).mono ?_
  rintro e w4 ⟨rfl, hS, hk⟩
  have S4 := Lib.hid hS
  have F4 := Lib.hid (KSp.no F3.out hk HPP.out)
  clear hS hk HX1 S3 F3
  go_wp2_with fail
  refine (HX2.out p _ S4.out).mono ?_
  rintro e w5 ⟨rfl, hS, hk⟩
  have S5 := Lib.hid hS
  have F5 := Lib.hid (KSp.no F4.out hk HPP.out)
  clear hS hk HX2 S4 F4
  go_wp2_with fail
  refine (HBD.out p _ S5.out).mono ?_
  rintro e w6 ⟨rfl, hS, hk⟩
  have S6 := Lib.hid hS
  have F6 := Lib.hid (KSp.no F5.out hk HPP.out)
  clear hS hk HBD S5 F5
  go_wp2_with fail
  refine (HPZ.out p _ S6.out).mono ?_
  rintro e w7 ⟨rfl, hS, hk⟩
  have S7 := Lib.hid hS
  have F7 := Lib.hid (KSp.no F6.out hk HPP.out)
  clear hS hk HPZ S6 F6
  go_wp2_with fail
  refine (HLF.out p _ S7.out).mono ?_
  rintro e w8 ⟨rfl, hS, hk⟩
  have S8 := Lib.hid hS
  have F8 := Lib.hid (KSp.no F7.out hk HPP.out)
  clear hS hk HLF S7 F7
  go_wp2
  go_ret
  exact ⟨rfl, F8.out⟩

end Go.Proofs.Ytejobioddkhinaa
