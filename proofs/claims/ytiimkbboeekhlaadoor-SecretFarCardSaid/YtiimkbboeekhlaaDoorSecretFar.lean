/- The walk of 'SecretFar'. -/
import Derived.Test.YtiimkbboeekhlaaDoorSecL
import Derived.Test.YtiimkbboeekhlaaDoorSecV
import Derived.Test.YtiimkbboeekhlaaDoorHar
namespace Go.Proofs.YtiimkbboeekhlaaDoor
open Go.RowKit
set_option linter.unusedVariables false

set_option maxHeartbeats 2000000 in
set_option maxRecDepth 100000 in
theorem far_A (h : List Nat) (a b c : Nat) (w : World) (hh : H32 h) (ha : a < 65536) (hb : b < 65536) (hcc : c < 65536) (hc : canN a b = false) (hg : Gl w) :
    Calls Tryd.prog 6 #[.agg (arr .u8 h), .int .u16 (a : Int), .int .u16 (b : Int), .int .u16 (c : Int)] w fun e w' => e = .returned (.bool true) ∧ Fr No w w' := by
  obtain ⟨P, hP⟩ : ∃ P, P = dSec h (a : Int) (b : Int) := ⟨_, rfl⟩
  have hPH : H32 P := by rw [hP]; exact dSec_h hh _ _
  obtain ⟨Y, hY⟩ : ∃ Y, Y = dSec P (b : Int) (c : Int) := ⟨_, rfl⟩
  obtain ⟨Z, hZ⟩ : ∃ Z, Z = dSec h (a : Int) (c : Int) := ⟨_, rfl⟩
  have hYH : H32 Y := by rw [hY]; exact dSec_h hPH _ _
  have hZH : H32 Z := by rw [hZ]; exact dSec_h hh _ _
  obtain ⟨e1, he1⟩ : ∃ e, e = dErr (a : Int) (b : Int) := ⟨_, rfl⟩
  obtain ⟨f, hf⟩ : ∃ e, e = dErr (b : Int) (c : Int) := ⟨_, rfl⟩
  obtain ⟨g, hgg⟩ : ∃ e, e = dErr (a : Int) (c : Int) := ⟨_, rfl⟩
  have k1 : e1 = 1 := by rw [he1]; exact dErr_no (by rw [can_of ha hb]; exact hc)
  have HD1 : Hid (∀ X, Gl X → Calls Tryd.prog 9 #[.agg (arr .u8 h), .int .i64 (a : Int), .int .i64 (b : Int)] X fun ex w' => ex = .returned (.tuple #[.agg (arr .u8 P), .int .i64 1]) ∧ Fr No X w') := Lib.hid (fun X hX => by
    have := derive_any h (a : Int) (b : Int) X hh hX
    rwa [← hP, ← he1, k1] at this)
  have HD2 : Hid (∀ X, Gl X → Calls Tryd.prog 9 #[.agg (arr .u8 P), .int .i64 (b : Int), .int .i64 (c : Int)] X fun ex w' => ex = .returned (.tuple #[.agg (arr .u8 Y), .int .i64 f]) ∧ Fr No X w') := Lib.hid (fun X hX => by
    have := derive_any P (b : Int) (c : Int) X hPH hX
    rwa [← hY, ← hf] at this)
  have HD3 : Hid (∀ X, Gl X → Calls Tryd.prog 9 #[.agg (arr .u8 h), .int .i64 (a : Int), .int .i64 (c : Int)] X fun ex w' => ex = .returned (.tuple #[.agg (arr .u8 Z), .int .i64 g]) ∧ Fr No X w') := Lib.hid (fun X hX => by
    have := derive_any h (a : Int) (c : Int) X hh hX
    rwa [← hZ, ← hgg] at this)
  have HLP := Lib.hid hPH.len
  have HLY := Lib.hid hYH.len
  have HLZ := Lib.hid hZH.len
  have HEY := Lib.hid (eql_h32 Y HLY.out)
  have ea : IntKind.i64.wrap (a : Int) = (a : Int) := IntWalk.i64_in _ (by omega)
  have eb : IntKind.i64.wrap (b : Int) = (b : Int) := IntWalk.i64_in _ (by omega)
  have ec : IntKind.i64.wrap (c : Int) = (c : Int) := IntWalk.i64_in _ (by omega)
  have HG := Lib.hid hg
  have HLh := Lib.hid hh.len
  have F0 : Hid (Fr No w (w.alloc (.cells (arr .u8 h) 23))) := Lib.hid ((Fr.refl No w).alloc _)
  have R0 := Lib.hid (Row.new w 23 .u8 h)
  clear hP hPH hY hZ hYH hZH he1 hf hgg k1  hc  hh ha hb hcc hg
  go_enter Tryd.func6, Tryd.ntmps6
  go_wp2_with (first
    | (refine wpList_load_eq rfl 23 _ rfl (.pointer (some ⟨w.heap.size, 0, none⟩)) (.agg (arr .u8 h)) rfl (Row.load R0.out arHash HLh.out) ?_))
  refine (HD1.out _ (HG.out.fr F0.out (fun _ _ => id))).mono ?_
  rintro e v1 ⟨rfl, hF⟩
  have Fv1 := Lib.hid (F0.out.trans hF)
  have R0v1 := Lib.hid (R0.out.fr hF id)
  clear hF
  go_wp2_with (first
    | (refine wpList_store_row rfl 23 _ _ rfl v1.heap.size rfl (arr .u8 P) rfl (Row.new v1 23 .u8 (List.replicate 32 0)) arHash (by rfl) (by rw [arr_size]; exact HLP.out) (arr_one _ _) ?_
       refine wpList_world (fun W => Fr No w W ∧ Row W w.heap.size 23 .u8 h ∧ Row W v1.heap.size 23 .u8 P) ⟨fr_setRow (Fv1.out.alloc _) (.inr Fv1.out.size) _, Row.setRow_o (R0v1.out.alloc _) (Nat.ne_of_lt R0v1.out.lt) _, Row.newSet (List.replicate 32 0)⟩ ?_
       rintro u1 ⟨hF, hR0, hR1⟩
       have Fu1 := Lib.hid hF
       have R0u1 := Lib.hid hR0
       have R1u1 := Lib.hid hR1
       clear hF hR0 hR1)
    | (refine wpList_load_eq rfl 23 _ rfl (.pointer (some ⟨v1.heap.size, 0, none⟩)) (.agg (arr .u8 P)) rfl (Row.load R1u1.out arHash HLP.out) ?_))
  refine (HD2.out _ (HG.out.fr Fu1.out (fun _ _ => id))).mono ?_
  rintro e v2 ⟨rfl, hF⟩
  have Fv2 := Lib.hid (Fu1.out.trans hF)
  have R0v2 := Lib.hid (R0u1.out.fr hF id)
  have R1v2 := Lib.hid (R1u1.out.fr hF id)
  clear hF
  go_wp2_with (first
    | (refine wpList_store_row rfl 23 _ _ rfl v2.heap.size rfl (arr .u8 Y) rfl (Row.new v2 23 .u8 (List.replicate 32 0)) arHash (by rfl) (by rw [arr_size]; exact HLY.out) (arr_one _ _) ?_
       refine wpList_world (fun W => Fr No w W ∧ Row W w.heap.size 23 .u8 h ∧ Row W v1.heap.size 23 .u8 P ∧ Row W v2.heap.size 23 .u8 Y) ⟨fr_setRow (Fv2.out.alloc _) (.inr Fv2.out.size) _, Row.setRow_o (R0v2.out.alloc _) (Nat.ne_of_lt R0v2.out.lt) _, Row.setRow_o (R1v2.out.alloc _) (Nat.ne_of_lt R1v2.out.lt) _, Row.newSet (List.replicate 32 0)⟩ ?_
       rintro u2 ⟨hF, hR0, hR1, hR2⟩
       have Fu2 := Lib.hid hF
       have R0u2 := Lib.hid hR0
       have R1u2 := Lib.hid hR1
       have R2u2 := Lib.hid hR2
       clear hF hR0 hR1 hR2)
    | (refine wpList_load_eq rfl 23 _ rfl (.pointer (some ⟨w.heap.size, 0, none⟩)) (.agg (arr .u8 h)) rfl (Row.load R0u2.out arHash HLh.out) ?_))
  refine (HD3.out _ (HG.out.fr Fu2.out (fun _ _ => id))).mono ?_
  rintro e v3 ⟨rfl, hF⟩
  have Fv3 := Lib.hid (Fu2.out.trans hF)
  have R0v3 := Lib.hid (R0u2.out.fr hF id)
  have R1v3 := Lib.hid (R1u2.out.fr hF id)
  have R2v3 := Lib.hid (R2u2.out.fr hF id)
  clear hF
  go_wp2_with (first
    | (refine wpList_store_row rfl 23 _ _ rfl v3.heap.size rfl (arr .u8 Z) rfl (Row.new v3 23 .u8 (List.replicate 32 0)) arHash (by rfl) (by rw [arr_size]; exact HLZ.out) (arr_one _ _) ?_
       refine wpList_world (fun W => Fr No w W ∧ Row W w.heap.size 23 .u8 h ∧ Row W v1.heap.size 23 .u8 P ∧ Row W v2.heap.size 23 .u8 Y ∧ Row W v3.heap.size 23 .u8 Z) ⟨fr_setRow (Fv3.out.alloc _) (.inr Fv3.out.size) _, Row.setRow_o (R0v3.out.alloc _) (Nat.ne_of_lt R0v3.out.lt) _, Row.setRow_o (R1v3.out.alloc _) (Nat.ne_of_lt R1v3.out.lt) _, Row.setRow_o (R2v3.out.alloc _) (Nat.ne_of_lt R2v3.out.lt) _, Row.newSet (List.replicate 32 0)⟩ ?_
       rintro u3 ⟨hF, hR0, hR1, hR2, hR3⟩
       have Fu3 := Lib.hid hF
       have R0u3 := Lib.hid hR0
       have R1u3 := Lib.hid hR1
       have R2u3 := Lib.hid hR2
       have R3u3 := Lib.hid hR3
       clear hF hR0 hR1 hR2 hR3))
  refine (shown4_any _).mono ?_
  rintro e v4 ⟨rfl, hF⟩
  have Fv4 := Lib.hid (Fu3.out.trans hF)
  have R0v4 := Lib.hid (R0u3.out.fr hF id)
  have R1v4 := Lib.hid (R1u3.out.fr hF id)
  have R2v4 := Lib.hid (R2u3.out.fr hF id)
  have R3v4 := Lib.hid (R3u3.out.fr hF id)
  clear hF
  go_wp2_with fail
  go_ret
  exact ⟨rfl, Fv4.out⟩

set_option maxHeartbeats 2000000 in
set_option maxRecDepth 100000 in
theorem far_B (h : List Nat) (a b c : Nat) (w : World) (hh : H32 h) (ha : a < 65536) (hb : b < 65536) (hcc : c < 65536) (hc : canN a b = true) (hd : canN b c = false) (hg : Gl w) :
    Calls Tryd.prog 6 #[.agg (arr .u8 h), .int .u16 (a : Int), .int .u16 (b : Int), .int .u16 (c : Int)] w fun e w' => e = .returned (.bool true) ∧ Fr No w w' := by
  obtain ⟨P, hP⟩ : ∃ P, P = dSec h (a : Int) (b : Int) := ⟨_, rfl⟩
  have hPH : H32 P := by rw [hP]; exact dSec_h hh _ _
  obtain ⟨Y, hY⟩ : ∃ Y, Y = dSec P (b : Int) (c : Int) := ⟨_, rfl⟩
  obtain ⟨Z, hZ⟩ : ∃ Z, Z = dSec h (a : Int) (c : Int) := ⟨_, rfl⟩
  have hYH : H32 Y := by rw [hY]; exact dSec_h hPH _ _
  have hZH : H32 Z := by rw [hZ]; exact dSec_h hh _ _
  obtain ⟨e1, he1⟩ : ∃ e, e = dErr (a : Int) (b : Int) := ⟨_, rfl⟩
  obtain ⟨f, hf⟩ : ∃ e, e = dErr (b : Int) (c : Int) := ⟨_, rfl⟩
  obtain ⟨g, hgg⟩ : ∃ e, e = dErr (a : Int) (c : Int) := ⟨_, rfl⟩
  have k1 : e1 = 0 := by rw [he1]; exact dErr_num ha hb hc
  have k2 : f = 1 := by rw [hf]; exact dErr_no (by rw [can_of hb hcc]; exact hd)
  have HD1 : Hid (∀ X, Gl X → Calls Tryd.prog 9 #[.agg (arr .u8 h), .int .i64 (a : Int), .int .i64 (b : Int)] X fun ex w' => ex = .returned (.tuple #[.agg (arr .u8 P), .int .i64 0]) ∧ Fr No X w') := Lib.hid (fun X hX => by
    have := derive_any h (a : Int) (b : Int) X hh hX
    rwa [← hP, ← he1, k1] at this)
  have HD2 : Hid (∀ X, Gl X → Calls Tryd.prog 9 #[.agg (arr .u8 P), .int .i64 (b : Int), .int .i64 (c : Int)] X fun ex w' => ex = .returned (.tuple #[.agg (arr .u8 Y), .int .i64 1]) ∧ Fr No X w') := Lib.hid (fun X hX => by
    have := derive_any P (b : Int) (c : Int) X hPH hX
    rwa [← hY, ← hf, k2] at this)
  have HD3 : Hid (∀ X, Gl X → Calls Tryd.prog 9 #[.agg (arr .u8 h), .int .i64 (a : Int), .int .i64 (c : Int)] X fun ex w' => ex = .returned (.tuple #[.agg (arr .u8 Z), .int .i64 g]) ∧ Fr No X w') := Lib.hid (fun X hX => by
    have := derive_any h (a : Int) (c : Int) X hh hX
    rwa [← hZ, ← hgg] at this)
  have HLP := Lib.hid hPH.len
  have HLY := Lib.hid hYH.len
  have HLZ := Lib.hid hZH.len
  have HEY := Lib.hid (eql_h32 Y HLY.out)
  have ea : IntKind.i64.wrap (a : Int) = (a : Int) := IntWalk.i64_in _ (by omega)
  have eb : IntKind.i64.wrap (b : Int) = (b : Int) := IntWalk.i64_in _ (by omega)
  have ec : IntKind.i64.wrap (c : Int) = (c : Int) := IntWalk.i64_in _ (by omega)
  have HG := Lib.hid hg
  have HLh := Lib.hid hh.len
  have F0 : Hid (Fr No w (w.alloc (.cells (arr .u8 h) 23))) := Lib.hid ((Fr.refl No w).alloc _)
  have R0 := Lib.hid (Row.new w 23 .u8 h)
  clear hP hPH hY hZ hYH hZH he1 hf hgg k1 k2 hc hd hh ha hb hcc hg
  go_enter Tryd.func6, Tryd.ntmps6
  go_wp2_with (first
    | (refine wpList_load_eq rfl 23 _ rfl (.pointer (some ⟨w.heap.size, 0, none⟩)) (.agg (arr .u8 h)) rfl (Row.load R0.out arHash HLh.out) ?_))
  refine (HD1.out _ (HG.out.fr F0.out (fun _ _ => id))).mono ?_
  rintro e v1 ⟨rfl, hF⟩
  have Fv1 := Lib.hid (F0.out.trans hF)
  have R0v1 := Lib.hid (R0.out.fr hF id)
  clear hF
  go_wp2_with (first
    | (refine wpList_store_row rfl 23 _ _ rfl v1.heap.size rfl (arr .u8 P) rfl (Row.new v1 23 .u8 (List.replicate 32 0)) arHash (by rfl) (by rw [arr_size]; exact HLP.out) (arr_one _ _) ?_
       refine wpList_world (fun W => Fr No w W ∧ Row W w.heap.size 23 .u8 h ∧ Row W v1.heap.size 23 .u8 P) ⟨fr_setRow (Fv1.out.alloc _) (.inr Fv1.out.size) _, Row.setRow_o (R0v1.out.alloc _) (Nat.ne_of_lt R0v1.out.lt) _, Row.newSet (List.replicate 32 0)⟩ ?_
       rintro u1 ⟨hF, hR0, hR1⟩
       have Fu1 := Lib.hid hF
       have R0u1 := Lib.hid hR0
       have R1u1 := Lib.hid hR1
       clear hF hR0 hR1)
    | (refine wpList_load_eq rfl 23 _ rfl (.pointer (some ⟨v1.heap.size, 0, none⟩)) (.agg (arr .u8 P)) rfl (Row.load R1u1.out arHash HLP.out) ?_))
  refine (HD2.out _ (HG.out.fr Fu1.out (fun _ _ => id))).mono ?_
  rintro e v2 ⟨rfl, hF⟩
  have Fv2 := Lib.hid (Fu1.out.trans hF)
  have R0v2 := Lib.hid (R0u1.out.fr hF id)
  have R1v2 := Lib.hid (R1u1.out.fr hF id)
  clear hF
  go_wp2_with (first
    | (refine wpList_store_row rfl 23 _ _ rfl v2.heap.size rfl (arr .u8 Y) rfl (Row.new v2 23 .u8 (List.replicate 32 0)) arHash (by rfl) (by rw [arr_size]; exact HLY.out) (arr_one _ _) ?_
       refine wpList_world (fun W => Fr No w W ∧ Row W w.heap.size 23 .u8 h ∧ Row W v1.heap.size 23 .u8 P ∧ Row W v2.heap.size 23 .u8 Y) ⟨fr_setRow (Fv2.out.alloc _) (.inr Fv2.out.size) _, Row.setRow_o (R0v2.out.alloc _) (Nat.ne_of_lt R0v2.out.lt) _, Row.setRow_o (R1v2.out.alloc _) (Nat.ne_of_lt R1v2.out.lt) _, Row.newSet (List.replicate 32 0)⟩ ?_
       rintro u2 ⟨hF, hR0, hR1, hR2⟩
       have Fu2 := Lib.hid hF
       have R0u2 := Lib.hid hR0
       have R1u2 := Lib.hid hR1
       have R2u2 := Lib.hid hR2
       clear hF hR0 hR1 hR2)
    | (refine wpList_load_eq rfl 23 _ rfl (.pointer (some ⟨w.heap.size, 0, none⟩)) (.agg (arr .u8 h)) rfl (Row.load R0u2.out arHash HLh.out) ?_))
  refine (HD3.out _ (HG.out.fr Fu2.out (fun _ _ => id))).mono ?_
  rintro e v3 ⟨rfl, hF⟩
  have Fv3 := Lib.hid (Fu2.out.trans hF)
  have R0v3 := Lib.hid (R0u2.out.fr hF id)
  have R1v3 := Lib.hid (R1u2.out.fr hF id)
  have R2v3 := Lib.hid (R2u2.out.fr hF id)
  clear hF
  go_wp2_with (first
    | (refine wpList_store_row rfl 23 _ _ rfl v3.heap.size rfl (arr .u8 Z) rfl (Row.new v3 23 .u8 (List.replicate 32 0)) arHash (by rfl) (by rw [arr_size]; exact HLZ.out) (arr_one _ _) ?_
       refine wpList_world (fun W => Fr No w W ∧ Row W w.heap.size 23 .u8 h ∧ Row W v1.heap.size 23 .u8 P ∧ Row W v2.heap.size 23 .u8 Y ∧ Row W v3.heap.size 23 .u8 Z) ⟨fr_setRow (Fv3.out.alloc _) (.inr Fv3.out.size) _, Row.setRow_o (R0v3.out.alloc _) (Nat.ne_of_lt R0v3.out.lt) _, Row.setRow_o (R1v3.out.alloc _) (Nat.ne_of_lt R1v3.out.lt) _, Row.setRow_o (R2v3.out.alloc _) (Nat.ne_of_lt R2v3.out.lt) _, Row.newSet (List.replicate 32 0)⟩ ?_
       rintro u3 ⟨hF, hR0, hR1, hR2, hR3⟩
       have Fu3 := Lib.hid hF
       have R0u3 := Lib.hid hR0
       have R1u3 := Lib.hid hR1
       have R2u3 := Lib.hid hR2
       have R3u3 := Lib.hid hR3
       clear hF hR0 hR1 hR2 hR3))
  refine (shown4_any _).mono ?_
  rintro e v4 ⟨rfl, hF⟩
  have Fv4 := Lib.hid (Fu3.out.trans hF)
  have R0v4 := Lib.hid (R0u3.out.fr hF id)
  have R1v4 := Lib.hid (R1u3.out.fr hF id)
  have R2v4 := Lib.hid (R2u3.out.fr hF id)
  have R3v4 := Lib.hid (R3u3.out.fr hF id)
  clear hF
  go_wp2_with fail
  go_ret
  exact ⟨rfl, Fv4.out⟩

set_option maxHeartbeats 2000000 in
set_option maxRecDepth 100000 in
theorem far_C (h : List Nat) (a b c : Nat) (w : World) (hh : H32 h) (ha : a < 65536) (hb : b < 65536) (hcc : c < 65536) (hc : canN a b = true) (hd : canN b c = true) (hg : Gl w) :
    Calls Tryd.prog 6 #[.agg (arr .u8 h), .int .u16 (a : Int), .int .u16 (b : Int), .int .u16 (c : Int)] w fun e w' => e = .returned (.bool true) ∧ Fr No w w' := by
  obtain ⟨P, hP⟩ : ∃ P, P = dSec h (a : Int) (b : Int) := ⟨_, rfl⟩
  have hPH : H32 P := by rw [hP]; exact dSec_h hh _ _
  obtain ⟨Y, hY⟩ : ∃ Y, Y = dSec P (b : Int) (c : Int) := ⟨_, rfl⟩
  obtain ⟨Z, hZ⟩ : ∃ Z, Z = dSec h (a : Int) (c : Int) := ⟨_, rfl⟩
  have hYH : H32 Y := by rw [hY]; exact dSec_h hPH _ _
  have hZH : H32 Z := by rw [hZ]; exact dSec_h hh _ _
  obtain ⟨e1, he1⟩ : ∃ e, e = dErr (a : Int) (b : Int) := ⟨_, rfl⟩
  obtain ⟨f, hf⟩ : ∃ e, e = dErr (b : Int) (c : Int) := ⟨_, rfl⟩
  obtain ⟨g, hgg⟩ : ∃ e, e = dErr (a : Int) (c : Int) := ⟨_, rfl⟩
  have k1 : e1 = 0 := by rw [he1]; exact dErr_num ha hb hc
  have k2 : f = 0 := by rw [hf]; exact dErr_num hb hcc hd
  have k3 : g = 0 := by rw [hgg]; exact dErr_num ha hcc (canN_trans hc hd)
  have k4 : Z = Y := by rw [hZ, hY, hP]; exact (dfar h ha hb hcc hc hd).symm
  have HD1 : Hid (∀ X, Gl X → Calls Tryd.prog 9 #[.agg (arr .u8 h), .int .i64 (a : Int), .int .i64 (b : Int)] X fun ex w' => ex = .returned (.tuple #[.agg (arr .u8 P), .int .i64 0]) ∧ Fr No X w') := Lib.hid (fun X hX => by
    have := derive_any h (a : Int) (b : Int) X hh hX
    rwa [← hP, ← he1, k1] at this)
  have HD2 : Hid (∀ X, Gl X → Calls Tryd.prog 9 #[.agg (arr .u8 P), .int .i64 (b : Int), .int .i64 (c : Int)] X fun ex w' => ex = .returned (.tuple #[.agg (arr .u8 Y), .int .i64 0]) ∧ Fr No X w') := Lib.hid (fun X hX => by
    have := derive_any P (b : Int) (c : Int) X hPH hX
    rwa [← hY, ← hf, k2] at this)
  have HD3 : Hid (∀ X, Gl X → Calls Tryd.prog 9 #[.agg (arr .u8 h), .int .i64 (a : Int), .int .i64 (c : Int)] X fun ex w' => ex = .returned (.tuple #[.agg (arr .u8 Y), .int .i64 0]) ∧ Fr No X w') := Lib.hid (fun X hX => by
    have := derive_any h (a : Int) (c : Int) X hh hX
    rwa [← hZ, ← hgg, k3, k4] at this)
  have HLP := Lib.hid hPH.len
  have HLY := Lib.hid hYH.len
  have HLZ := Lib.hid hZH.len
  have HEY := Lib.hid (eql_h32 Y HLY.out)
  have ea : IntKind.i64.wrap (a : Int) = (a : Int) := IntWalk.i64_in _ (by omega)
  have eb : IntKind.i64.wrap (b : Int) = (b : Int) := IntWalk.i64_in _ (by omega)
  have ec : IntKind.i64.wrap (c : Int) = (c : Int) := IntWalk.i64_in _ (by omega)
  have HG := Lib.hid hg
  have HLh := Lib.hid hh.len
  have F0 : Hid (Fr No w (w.alloc (.cells (arr .u8 h) 23))) := Lib.hid ((Fr.refl No w).alloc _)
  have R0 := Lib.hid (Row.new w 23 .u8 h)
  clear hP hPH hY hZ hYH hZH he1 hf hgg k1 k2 k3 k4 hc hd hh ha hb hcc hg
  go_enter Tryd.func6, Tryd.ntmps6
  go_wp2_with (first
    | (refine wpList_load_eq rfl 23 _ rfl (.pointer (some ⟨w.heap.size, 0, none⟩)) (.agg (arr .u8 h)) rfl (Row.load R0.out arHash HLh.out) ?_))
  refine (HD1.out _ (HG.out.fr F0.out (fun _ _ => id))).mono ?_
  rintro e v1 ⟨rfl, hF⟩
  have Fv1 := Lib.hid (F0.out.trans hF)
  have R0v1 := Lib.hid (R0.out.fr hF id)
  clear hF
  go_wp2_with (first
    | (refine wpList_store_row rfl 23 _ _ rfl v1.heap.size rfl (arr .u8 P) rfl (Row.new v1 23 .u8 (List.replicate 32 0)) arHash (by rfl) (by rw [arr_size]; exact HLP.out) (arr_one _ _) ?_
       refine wpList_world (fun W => Fr No w W ∧ Row W w.heap.size 23 .u8 h ∧ Row W v1.heap.size 23 .u8 P) ⟨fr_setRow (Fv1.out.alloc _) (.inr Fv1.out.size) _, Row.setRow_o (R0v1.out.alloc _) (Nat.ne_of_lt R0v1.out.lt) _, Row.newSet (List.replicate 32 0)⟩ ?_
       rintro u1 ⟨hF, hR0, hR1⟩
       have Fu1 := Lib.hid hF
       have R0u1 := Lib.hid hR0
       have R1u1 := Lib.hid hR1
       clear hF hR0 hR1)
    | (refine wpList_load_eq rfl 23 _ rfl (.pointer (some ⟨v1.heap.size, 0, none⟩)) (.agg (arr .u8 P)) rfl (Row.load R1u1.out arHash HLP.out) ?_))
  refine (HD2.out _ (HG.out.fr Fu1.out (fun _ _ => id))).mono ?_
  rintro e v2 ⟨rfl, hF⟩
  have Fv2 := Lib.hid (Fu1.out.trans hF)
  have R0v2 := Lib.hid (R0u1.out.fr hF id)
  have R1v2 := Lib.hid (R1u1.out.fr hF id)
  clear hF
  go_wp2_with (first
    | (refine wpList_store_row rfl 23 _ _ rfl v2.heap.size rfl (arr .u8 Y) rfl (Row.new v2 23 .u8 (List.replicate 32 0)) arHash (by rfl) (by rw [arr_size]; exact HLY.out) (arr_one _ _) ?_
       refine wpList_world (fun W => Fr No w W ∧ Row W w.heap.size 23 .u8 h ∧ Row W v1.heap.size 23 .u8 P ∧ Row W v2.heap.size 23 .u8 Y) ⟨fr_setRow (Fv2.out.alloc _) (.inr Fv2.out.size) _, Row.setRow_o (R0v2.out.alloc _) (Nat.ne_of_lt R0v2.out.lt) _, Row.setRow_o (R1v2.out.alloc _) (Nat.ne_of_lt R1v2.out.lt) _, Row.newSet (List.replicate 32 0)⟩ ?_
       rintro u2 ⟨hF, hR0, hR1, hR2⟩
       have Fu2 := Lib.hid hF
       have R0u2 := Lib.hid hR0
       have R1u2 := Lib.hid hR1
       have R2u2 := Lib.hid hR2
       clear hF hR0 hR1 hR2)
    | (refine wpList_load_eq rfl 23 _ rfl (.pointer (some ⟨w.heap.size, 0, none⟩)) (.agg (arr .u8 h)) rfl (Row.load R0u2.out arHash HLh.out) ?_))
  refine (HD3.out _ (HG.out.fr Fu2.out (fun _ _ => id))).mono ?_
  rintro e v3 ⟨rfl, hF⟩
  have Fv3 := Lib.hid (Fu2.out.trans hF)
  have R0v3 := Lib.hid (R0u2.out.fr hF id)
  have R1v3 := Lib.hid (R1u2.out.fr hF id)
  have R2v3 := Lib.hid (R2u2.out.fr hF id)
  clear hF
  go_wp2_with (first
    | (refine wpList_store_row rfl 23 _ _ rfl v3.heap.size rfl (arr .u8 Y) rfl (Row.new v3 23 .u8 (List.replicate 32 0)) arHash (by rfl) (by rw [arr_size]; exact HLY.out) (arr_one _ _) ?_
       refine wpList_world (fun W => Fr No w W ∧ Row W w.heap.size 23 .u8 h ∧ Row W v1.heap.size 23 .u8 P ∧ Row W v2.heap.size 23 .u8 Y ∧ Row W v3.heap.size 23 .u8 Y) ⟨fr_setRow (Fv3.out.alloc _) (.inr Fv3.out.size) _, Row.setRow_o (R0v3.out.alloc _) (Nat.ne_of_lt R0v3.out.lt) _, Row.setRow_o (R1v3.out.alloc _) (Nat.ne_of_lt R1v3.out.lt) _, Row.setRow_o (R2v3.out.alloc _) (Nat.ne_of_lt R2v3.out.lt) _, Row.newSet (List.replicate 32 0)⟩ ?_
       rintro u3 ⟨hF, hR0, hR1, hR2, hR3⟩
       have Fu3 := Lib.hid hF
       have R0u3 := Lib.hid hR0
       have R1u3 := Lib.hid hR1
       have R2u3 := Lib.hid hR2
       have R3u3 := Lib.hid hR3
       clear hF hR0 hR1 hR2 hR3)
    | (refine wpList_load_eqG 23 _ rfl (.pointer (some ⟨v2.heap.size, 0, none⟩)) (.agg (arr .u8 Y)) rfl (Row.load R2u3.out arHash HLY.out) rfl ?_)
    | (refine wpList_load_eqG 23 _ rfl (.pointer (some ⟨v3.heap.size, 0, none⟩)) (.agg (arr .u8 Y)) rfl (Row.load R3u3.out arHash HLY.out) rfl ?_)
    | (refine wpList_execG (.bool true) (exec_bin .eql 23 (.tmp 60) (.tmp 61) 23 rfl _ _ _ rfl rfl (by kernel_rfl) (HEY.out _)) rfl ?_))
  refine (shown4_any _).mono ?_
  rintro e z3 ⟨rfl, hF⟩
  have Fz3 := Lib.hid (Fu3.out.trans hF)
  clear hF
  go_wp2
  go_ret
  exact ⟨rfl, Fz3.out⟩

theorem far_walk (h : List UInt8) (a b c : Nat) (w : World) (hh : h.length = 32) (ha : (a : Int) ≤ 65535) (hb : (b : Int) ≤ 65535) (hcc : (c : Int) ≤ 65535) (hg : Gl w) :
    Calls Tryd.prog 6 #[.agg (h.map u8v).toArray, .int .u16 (a : Int), .int .u16 (b : Int), .int .u16 (c : Int)] w fun e w' => e = .returned (.bool true) ∧ Fr No w w' := by
  rw [arr_nb]
  have hH : H32 (nb h) := ⟨by rw [nb, List.length_map]; exact hh, nb_b8 _⟩
  cases hc : canN a b with
  | false => exact far_A (nb h) a b c w hH (by omega) (by omega) (by omega) hc hg
  | true =>
    cases hd : canN b c with
    | false => exact far_B (nb h) a b c w hH (by omega) (by omega) (by omega) hc hd hg
    | true => exact far_C (nb h) a b c w hH (by omega) (by omega) (by omega) hc hd hg
end Go.Proofs.YtiimkbboeekhlaaDoor
