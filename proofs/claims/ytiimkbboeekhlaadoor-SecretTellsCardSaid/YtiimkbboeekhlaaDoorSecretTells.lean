/- The walk of 'SecretTells'. -/
import Derived.Test.YtiimkbboeekhlaaDoorSecL
import Derived.Test.YtiimkbboeekhlaaDoorSecV
import Derived.Test.YtiimkbboeekhlaaDoorSecX
import Derived.Test.YtiimkbboeekhlaaDoorHar
namespace Go.Proofs.YtiimkbboeekhlaaDoor
open Go.RowKit
set_option linter.unusedVariables false

set_option maxHeartbeats 2000000 in
set_option maxRecDepth 100000 in
theorem tells_walk (h : List Nat) (x y : Int) (w : World) (hh : H32 h) (hg : Gl w) :
    Calls Tryd.prog 3 #[.agg (arr .u8 h), .int .i64 x, .int .i64 y] w fun e w' => e = .returned (.bool true) ∧ Fr No w w' := by
  have HM : Hid (∀ X, Gl X → Calls Tryd.prog 7 #[.agg (arr .u8 h), .int .i64 x] X fun ex w' => ex = .returned (.tuple #[.agg (arr .u8 (mSec h x)), .int .i64 (mErr x)]) ∧ Fr No X w') := Lib.hid (fun X hX => make_any h x X hh hX)
  have HRM : Hid (∀ X, Calls Tryd.prog 8 #[.agg (arr .u8 h), .int .i64 x] X fun ex w' => ex = .returned (.tuple #[.agg (arr .u8 (mSec h x)), .int .i64 (mErr x)]) ∧ Fr No X w') := Lib.hid (fun X => rmake_any h x X hh)
  have HD : Hid (∀ X, Gl X → Calls Tryd.prog 9 #[.agg (arr .u8 h), .int .i64 x, .int .i64 y] X fun ex w' => ex = .returned (.tuple #[.agg (arr .u8 (dSec h x y)), .int .i64 (dErr x y)]) ∧ Fr No X w') := Lib.hid (fun X hX => derive_any h x y X hh hX)
  have HRD : Hid (∀ X, Calls Tryd.prog 10 #[.agg (arr .u8 h), .int .i64 x, .int .i64 y] X fun ex w' => ex = .returned (.tuple #[.agg (arr .u8 (dSec h x y)), .int .i64 (dErr x y)]) ∧ Fr No X w') := Lib.hid (fun X => rderive_any h x y X hh)
  have HP : Hid (∀ X, Calls Tryd.prog 11 #[.int .i64 x] X fun ex w' => ex = .returned (.int .i64 (place x : Int)) ∧ Fr No X w') := Lib.hid (fun X => place_any x X)
  have HRP : Hid (∀ X, Calls Tryd.prog 12 #[.int .i64 x] X fun ex w' => ex = .returned (.int .i64 (place x : Int)) ∧ w' = X) := Lib.hid (fun X => rplace_any x X)
  have HC : Hid (∀ X, Calls Tryd.prog 13 #[.int .i64 x, .int .i64 y] X fun ex w' => ex = .returned (.bool (can x y)) ∧ Fr No X w') := Lib.hid (fun X => can_any x y X)
  have HRC : Hid (∀ X, Calls Tryd.prog 14 #[.int .i64 x, .int .i64 y] X fun ex w' => ex = .returned (.bool (can x y)) ∧ w' = X) := Lib.hid (fun X => rcan_any x y X)
  obtain ⟨A, hA⟩ : ∃ A, A = mSec h x := ⟨_, rfl⟩
  obtain ⟨ea, hea⟩ : ∃ e, e = mErr x := ⟨_, rfl⟩
  obtain ⟨C, hC⟩ : ∃ C, C = dSec h x y := ⟨_, rfl⟩
  obtain ⟨ec, hec⟩ : ∃ e, e = dErr x y := ⟨_, rfl⟩
  obtain ⟨p, hp⟩ : ∃ p, p = (place x : Int) := ⟨_, rfl⟩
  obtain ⟨c, hc⟩ : ∃ c, c = can x y := ⟨_, rfl⟩
  rw [← hA, ← hea] at HM HRM
  rw [← hC, ← hec] at HD HRD
  rw [← hp] at HP HRP
  rw [← hc] at HC HRC
  have HLA : Hid (A.length = 32) := Lib.hid (by rw [hA]; exact (mSec_h hh x).len)
  have HLC : Hid (C.length = 32) := Lib.hid (by rw [hC]; exact (dSec_h hh x y).len)
  have HEA := Lib.hid (eql_h32 A HLA.out)
  have HEC := Lib.hid (eql_h32 C HLC.out)
  have HG := Lib.hid hg
  have HLh := Lib.hid hh.len
  have F0 : Hid (Fr No w (w.alloc (.cells (arr .u8 h) 23))) := Lib.hid ((Fr.refl No w).alloc _)
  have R0 := Lib.hid (Row.new w 23 .u8 h)
  clear hA hea hC hec hp hc hh hg
  go_enter Tryd.func3, Tryd.ntmps3
  go_wp2_with (first
    | (refine wpList_load_eq rfl 23 _ rfl (.pointer (some ⟨w.heap.size, 0, none⟩)) (.agg (arr .u8 h)) rfl (Row.load R0.out arHash HLh.out) ?_))
  refine (HM.out _ (HG.out.fr F0.out (fun _ _ => id))).mono ?_
  rintro e v1 ⟨rfl, hF⟩
  have Fv1 := Lib.hid (F0.out.trans hF)
  have R0v1 := Lib.hid (R0.out.fr hF id)
  clear hF
  go_wp2_with (first
    | (refine wpList_store_row rfl 23 _ _ rfl v1.heap.size rfl (arr .u8 A) rfl (Row.new v1 23 .u8 (List.replicate 32 0)) arHash (by rfl) (by rw [arr_size]; exact HLA.out) (arr_one _ _) ?_
       refine wpList_world (fun W => Fr No w W ∧ Row W w.heap.size 23 .u8 h ∧ Row W v1.heap.size 23 .u8 A) ⟨fr_setRow (Fv1.out.alloc _) (.inr Fv1.out.size) _, Row.setRow_o (R0v1.out.alloc _) (Nat.ne_of_lt R0v1.out.lt) _, Row.newSet (List.replicate 32 0)⟩ ?_
       rintro u1 ⟨hF, hR0, hR1⟩
       have Fu1 := Lib.hid hF
       have R0u1 := Lib.hid hR0
       have R1u1 := Lib.hid hR1
       clear hF hR0 hR1)
    | (refine wpList_load_eq rfl 23 _ rfl (.pointer (some ⟨w.heap.size, 0, none⟩)) (.agg (arr .u8 h)) rfl (Row.load R0u1.out arHash HLh.out) ?_))
  refine (HRM.out _).mono ?_
  rintro e v2 ⟨rfl, hF⟩
  have Fv2 := Lib.hid (Fu1.out.trans hF)
  have R0v2 := Lib.hid (R0u1.out.fr hF id)
  have R1v2 := Lib.hid (R1u1.out.fr hF id)
  clear hF
  go_wp2_with (first
    | (refine wpList_store_row rfl 23 _ _ rfl v2.heap.size rfl (arr .u8 A) rfl (Row.new v2 23 .u8 (List.replicate 32 0)) arHash (by rfl) (by rw [arr_size]; exact HLA.out) (arr_one _ _) ?_
       refine wpList_world (fun W => Fr No w W ∧ Row W w.heap.size 23 .u8 h ∧ Row W v1.heap.size 23 .u8 A ∧ Row W v2.heap.size 23 .u8 A) ⟨fr_setRow (Fv2.out.alloc _) (.inr Fv2.out.size) _, Row.setRow_o (R0v2.out.alloc _) (Nat.ne_of_lt R0v2.out.lt) _, Row.setRow_o (R1v2.out.alloc _) (Nat.ne_of_lt R1v2.out.lt) _, Row.newSet (List.replicate 32 0)⟩ ?_
       rintro u2 ⟨hF, hR0, hR1, hR2⟩
       have Fu2 := Lib.hid hF
       have R0u2 := Lib.hid hR0
       have R1u2 := Lib.hid hR1
       have R2u2 := Lib.hid hR2
       clear hF hR0 hR1 hR2)
    | (refine wpList_load_eq rfl 23 _ rfl (.pointer (some ⟨w.heap.size, 0, none⟩)) (.agg (arr .u8 h)) rfl (Row.load R0u2.out arHash HLh.out) ?_))
  refine (HD.out _ (HG.out.fr Fu2.out (fun _ _ => id))).mono ?_
  rintro e v3 ⟨rfl, hF⟩
  have Fv3 := Lib.hid (Fu2.out.trans hF)
  have R0v3 := Lib.hid (R0u2.out.fr hF id)
  have R1v3 := Lib.hid (R1u2.out.fr hF id)
  have R2v3 := Lib.hid (R2u2.out.fr hF id)
  clear hF
  go_wp2_with (first
    | (refine wpList_store_row rfl 23 _ _ rfl v3.heap.size rfl (arr .u8 C) rfl (Row.new v3 23 .u8 (List.replicate 32 0)) arHash (by rfl) (by rw [arr_size]; exact HLC.out) (arr_one _ _) ?_
       refine wpList_world (fun W => Fr No w W ∧ Row W w.heap.size 23 .u8 h ∧ Row W v1.heap.size 23 .u8 A ∧ Row W v2.heap.size 23 .u8 A ∧ Row W v3.heap.size 23 .u8 C) ⟨fr_setRow (Fv3.out.alloc _) (.inr Fv3.out.size) _, Row.setRow_o (R0v3.out.alloc _) (Nat.ne_of_lt R0v3.out.lt) _, Row.setRow_o (R1v3.out.alloc _) (Nat.ne_of_lt R1v3.out.lt) _, Row.setRow_o (R2v3.out.alloc _) (Nat.ne_of_lt R2v3.out.lt) _, Row.newSet (List.replicate 32 0)⟩ ?_
       rintro u3 ⟨hF, hR0, hR1, hR2, hR3⟩
       have Fu3 := Lib.hid hF
       have R0u3 := Lib.hid hR0
       have R1u3 := Lib.hid hR1
       have R2u3 := Lib.hid hR2
       have R3u3 := Lib.hid hR3
       clear hF hR0 hR1 hR2 hR3)
    | (refine wpList_load_eq rfl 23 _ rfl (.pointer (some ⟨w.heap.size, 0, none⟩)) (.agg (arr .u8 h)) rfl (Row.load R0u3.out arHash HLh.out) ?_))
  refine (HRD.out _).mono ?_
  rintro e v4 ⟨rfl, hF⟩
  have Fv4 := Lib.hid (Fu3.out.trans hF)
  have R0v4 := Lib.hid (R0u3.out.fr hF id)
  have R1v4 := Lib.hid (R1u3.out.fr hF id)
  have R2v4 := Lib.hid (R2u3.out.fr hF id)
  have R3v4 := Lib.hid (R3u3.out.fr hF id)
  clear hF
  go_wp2_with (first
    | (refine wpList_store_row rfl 23 _ _ rfl v4.heap.size rfl (arr .u8 C) rfl (Row.new v4 23 .u8 (List.replicate 32 0)) arHash (by rfl) (by rw [arr_size]; exact HLC.out) (arr_one _ _) ?_
       refine wpList_world (fun W => Fr No w W ∧ Row W w.heap.size 23 .u8 h ∧ Row W v1.heap.size 23 .u8 A ∧ Row W v2.heap.size 23 .u8 A ∧ Row W v3.heap.size 23 .u8 C ∧ Row W v4.heap.size 23 .u8 C) ⟨fr_setRow (Fv4.out.alloc _) (.inr Fv4.out.size) _, Row.setRow_o (R0v4.out.alloc _) (Nat.ne_of_lt R0v4.out.lt) _, Row.setRow_o (R1v4.out.alloc _) (Nat.ne_of_lt R1v4.out.lt) _, Row.setRow_o (R2v4.out.alloc _) (Nat.ne_of_lt R2v4.out.lt) _, Row.setRow_o (R3v4.out.alloc _) (Nat.ne_of_lt R3v4.out.lt) _, Row.newSet (List.replicate 32 0)⟩ ?_
       rintro u4 ⟨hF, hR0, hR1, hR2, hR3, hR4⟩
       have Fu4 := Lib.hid hF
       have R0u4 := Lib.hid hR0
       have R1u4 := Lib.hid hR1
       have R2u4 := Lib.hid hR2
       have R3u4 := Lib.hid hR3
       have R4u4 := Lib.hid hR4
       clear hF hR0 hR1 hR2 hR3 hR4)
    | (refine wpList_load_eqG 23 _ rfl (.pointer (some ⟨v1.heap.size, 0, none⟩)) (.agg (arr .u8 A)) rfl (Row.load R1u4.out arHash HLA.out) rfl ?_)
    | (refine wpList_load_eqG 23 _ rfl (.pointer (some ⟨v2.heap.size, 0, none⟩)) (.agg (arr .u8 A)) rfl (Row.load R2u4.out arHash HLA.out) rfl ?_)
    | (refine wpList_load_eqG 23 _ rfl (.pointer (some ⟨v3.heap.size, 0, none⟩)) (.agg (arr .u8 C)) rfl (Row.load R3u4.out arHash HLC.out) rfl ?_)
    | (refine wpList_load_eqG 23 _ rfl (.pointer (some ⟨v4.heap.size, 0, none⟩)) (.agg (arr .u8 C)) rfl (Row.load R4u4.out arHash HLC.out) rfl ?_)
    | (refine wpList_execG (.bool true) (exec_bin .eql 23 (.tmp 41) (.tmp 42) 23 rfl _ _ _ rfl rfl (by kernel_rfl) (HEA.out _)) rfl ?_)
    | (refine wpList_execG (.bool true) (exec_bin .eql 23 (.tmp 50) (.tmp 51) 23 rfl _ _ _ rfl rfl (by kernel_rfl) (HEC.out _)) rfl ?_))
  refine (HP.out _).mono ?_
  rintro e z1 ⟨rfl, hF⟩
  have Fz1 := Lib.hid (Fu4.out.trans hF)
  clear hF
  go_wp2_with fail
  refine (HRP.out _).mono ?_
  rintro e _ ⟨rfl, rfl⟩
  go_wp2_with fail
  refine (HC.out _).mono ?_
  rintro e z2 ⟨rfl, hF⟩
  have Fz2 := Lib.hid (Fz1.out.trans hF)
  clear hF
  go_wp2_with fail
  refine (HRC.out _).mono ?_
  rintro e _ ⟨rfl, rfl⟩
  go_wp2_with fail
  refine (shown4_any _).mono ?_
  rintro e z3 ⟨rfl, hF⟩
  have Fz3 := Lib.hid (Fz2.out.trans hF)
  clear hF
  go_wp2
  go_ret
  exact ⟨rfl, Fz3.out⟩

theorem tells_walk' (h : List UInt8) (x y : Int) (w : World) (hh : h.length = 32) (hg : Gl w) :
    Calls Tryd.prog 3 #[.agg (h.map u8v).toArray, .int .i64 x, .int .i64 y] w fun e w' => e = .returned (.bool true) ∧ Fr No w w' := by
  rw [arr_nb]
  exact tells_walk (nb h) x y w ⟨by rw [nb, List.length_map]; exact hh, nb_b8 _⟩ hg
end Go.Proofs.YtiimkbboeekhlaaDoor
