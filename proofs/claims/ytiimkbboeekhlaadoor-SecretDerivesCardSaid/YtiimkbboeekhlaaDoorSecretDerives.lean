/- The walk of 'SecretDerives'. -/
import Derived.Test.YtiimkbboeekhlaaDoorSecL
import Derived.Test.YtiimkbboeekhlaaDoorSecV
import Derived.Test.YtiimkbboeekhlaaDoorHar
namespace Go.Proofs.YtiimkbboeekhlaaDoor
open Go.RowKit
set_option linter.unusedVariables false

set_option maxHeartbeats 2000000 in
set_option maxRecDepth 100000 in
theorem derives_yes (h : List Nat) (x y : Nat) (w : World) (hh : H32 h) (hx : x < 65536) (hy : y < 65536) (hc : canN x y = true) (hg : Gl w) :
    Calls Tryd.prog 4 #[.agg (arr .u8 h), .int .u16 (x : Int), .int .u16 (y : Int)] w fun e w' => e = .returned (.bool true) ∧ Fr No w w' := by
  have HMf : Hid (∀ X, Gl X → Calls Tryd.prog 7 #[.agg (arr .u8 h), .int .i64 (x : Int)] X fun ex w' => ex = .returned (.tuple #[.agg (arr .u8 (mSec h (x : Int))), .int .i64 0]) ∧ Fr No X w') := Lib.hid (fun X hX => by
    have := make_any h (x : Int) X hh hX
    rwa [mErr_num hx] at this)
  have HMt : Hid (∀ X, Gl X → Calls Tryd.prog 7 #[.agg (arr .u8 h), .int .i64 (y : Int)] X fun ex w' => ex = .returned (.tuple #[.agg (arr .u8 (mSec h (y : Int))), .int .i64 0]) ∧ Fr No X w') := Lib.hid (fun X hX => by
    have := make_any h (y : Int) X hh hX
    rwa [mErr_num hy] at this)
  have HD : Hid (∀ X, Gl X → Calls Tryd.prog 9 #[.agg (arr .u8 (mSec h (x : Int))), .int .i64 (x : Int), .int .i64 (y : Int)] X fun ex w' => ex = .returned (.tuple #[.agg (arr .u8 (mSec h (y : Int))), .int .i64 0]) ∧ Fr No X w') := Lib.hid (fun X hX => by
    have := derive_any (mSec h (x : Int)) (x : Int) (y : Int) X (mSec_h hh _) hX
    rwa [derives h hx hy hc, dErr_num hx hy hc] at this)
  have HC : Hid (∀ X, Calls Tryd.prog 13 #[.int .i64 (x : Int), .int .i64 (y : Int)] X fun ex w' => ex = .returned (.bool true) ∧ Fr No X w') := Lib.hid (fun X => by
    have := can_num x y X hx hy
    rwa [hc] at this)
  obtain ⟨A, hA⟩ : ∃ A, A = mSec h (x : Int) := ⟨_, rfl⟩
  obtain ⟨B, hB⟩ : ∃ B, B = mSec h (y : Int) := ⟨_, rfl⟩
  rw [← hA] at HMf HD
  rw [← hB] at HMt HD
  have HLA : Hid (A.length = 32) := Lib.hid (by rw [hA]; exact (mSec_h hh _).len)
  have HLB : Hid (B.length = 32) := Lib.hid (by rw [hB]; exact (mSec_h hh _).len)
  have HEB := Lib.hid (eql_h32 B HLB.out)
  have ex : IntKind.i64.wrap (x : Int) = (x : Int) := IntWalk.i64_in _ (by omega)
  have ey : IntKind.i64.wrap (y : Int) = (y : Int) := IntWalk.i64_in _ (by omega)
  have HG := Lib.hid hg
  have HLh := Lib.hid hh.len
  have F0 : Hid (Fr No w (w.alloc (.cells (arr .u8 h) 23))) := Lib.hid ((Fr.refl No w).alloc _)
  have R0 := Lib.hid (Row.new w 23 .u8 h)
  clear hA hB hc hh hg hx hy
  go_enter Tryd.func4, Tryd.ntmps4
  go_wp2_with (first
    | (refine wpList_load_eq rfl 23 _ rfl (.pointer (some ⟨w.heap.size, 0, none⟩)) (.agg (arr .u8 h)) rfl (Row.load R0.out arHash HLh.out) ?_))
  refine (HMf.out _ (HG.out.fr F0.out (fun _ _ => id))).mono ?_
  rintro e v1 ⟨rfl, hF⟩
  have Fv1 := Lib.hid (F0.out.trans hF)
  have R0v1 := Lib.hid (R0.out.fr hF id)
  clear hF
  go_wp2_with (first
    | (refine wpList_store_row rfl 23 _ _ rfl v1.heap.size rfl (arr .u8 A) rfl (Row.new v1 23 .u8 (List.replicate 32 0)) arHash (by rfl) (by rw [arr_size]; exact HLA.out) (arr_one _ _) ?_
       refine wpList_world (fun W => Fr No w W ∧ Row W w.heap.size 23 .u8 h ∧ Row W v1.heap.size 23 .u8 A) ⟨fr_setRow (Fv1.out.alloc _) (.inr Fv1.out.size) _, Row.setRow_o (R0v1.out.alloc _) (Nat.ne_of_lt R0v1.out.lt) _, Row.newSet (List.replicate 32 0)⟩ ?_
       rintro u1 ⟨hF, hR0, hR1⟩
       have Fu1 := Lib.hid hF
       have R0u1 := Lib.hid hR0
       have R1u1 := Lib.hid hR1
       clear hF hR0 hR1)
    | (refine wpList_load_eq rfl 23 _ rfl (.pointer (some ⟨w.heap.size, 0, none⟩)) (.agg (arr .u8 h)) rfl (Row.load R0u1.out arHash HLh.out) ?_))
  refine (HMt.out _ (HG.out.fr Fu1.out (fun _ _ => id))).mono ?_
  rintro e v2 ⟨rfl, hF⟩
  have Fv2 := Lib.hid (Fu1.out.trans hF)
  have R0v2 := Lib.hid (R0u1.out.fr hF id)
  have R1v2 := Lib.hid (R1u1.out.fr hF id)
  clear hF
  go_wp2_with (first
    | (refine wpList_store_row rfl 23 _ _ rfl v2.heap.size rfl (arr .u8 B) rfl (Row.new v2 23 .u8 (List.replicate 32 0)) arHash (by rfl) (by rw [arr_size]; exact HLB.out) (arr_one _ _) ?_
       refine wpList_world (fun W => Fr No w W ∧ Row W w.heap.size 23 .u8 h ∧ Row W v1.heap.size 23 .u8 A ∧ Row W v2.heap.size 23 .u8 B) ⟨fr_setRow (Fv2.out.alloc _) (.inr Fv2.out.size) _, Row.setRow_o (R0v2.out.alloc _) (Nat.ne_of_lt R0v2.out.lt) _, Row.setRow_o (R1v2.out.alloc _) (Nat.ne_of_lt R1v2.out.lt) _, Row.newSet (List.replicate 32 0)⟩ ?_
       rintro u2 ⟨hF, hR0, hR1, hR2⟩
       have Fu2 := Lib.hid hF
       have R0u2 := Lib.hid hR0
       have R1u2 := Lib.hid hR1
       have R2u2 := Lib.hid hR2
       clear hF hR0 hR1 hR2)
    | (refine wpList_load_eq rfl 23 _ rfl (.pointer (some ⟨v1.heap.size, 0, none⟩)) (.agg (arr .u8 A)) rfl (Row.load R1u2.out arHash HLA.out) ?_))
  refine (HD.out _ (HG.out.fr Fu2.out (fun _ _ => id))).mono ?_
  rintro e v3 ⟨rfl, hF⟩
  have Fv3 := Lib.hid (Fu2.out.trans hF)
  have R0v3 := Lib.hid (R0u2.out.fr hF id)
  have R1v3 := Lib.hid (R1u2.out.fr hF id)
  have R2v3 := Lib.hid (R2u2.out.fr hF id)
  clear hF
  go_wp2_with (first
    | (refine wpList_store_row rfl 23 _ _ rfl v3.heap.size rfl (arr .u8 B) rfl (Row.new v3 23 .u8 (List.replicate 32 0)) arHash (by rfl) (by rw [arr_size]; exact HLB.out) (arr_one _ _) ?_
       refine wpList_world (fun W => Fr No w W ∧ Row W w.heap.size 23 .u8 h ∧ Row W v1.heap.size 23 .u8 A ∧ Row W v2.heap.size 23 .u8 B ∧ Row W v3.heap.size 23 .u8 B) ⟨fr_setRow (Fv3.out.alloc _) (.inr Fv3.out.size) _, Row.setRow_o (R0v3.out.alloc _) (Nat.ne_of_lt R0v3.out.lt) _, Row.setRow_o (R1v3.out.alloc _) (Nat.ne_of_lt R1v3.out.lt) _, Row.setRow_o (R2v3.out.alloc _) (Nat.ne_of_lt R2v3.out.lt) _, Row.newSet (List.replicate 32 0)⟩ ?_
       rintro u3 ⟨hF, hR0, hR1, hR2, hR3⟩
       have Fu3 := Lib.hid hF
       have R0u3 := Lib.hid hR0
       have R1u3 := Lib.hid hR1
       have R2u3 := Lib.hid hR2
       have R3u3 := Lib.hid hR3
       clear hF hR0 hR1 hR2 hR3))
  refine (shown4_any _).mono ?_
  rintro e v4 ⟨rfl, hF⟩
  have Fv4 := Lib.hid (Fu3.out.trans hF)
  have R0v4 := Lib.hid (R0u3.out.fr hF id)
  have R1v4 := Lib.hid (R1u3.out.fr hF id)
  have R2v4 := Lib.hid (R2u3.out.fr hF id)
  have R3v4 := Lib.hid (R3u3.out.fr hF id)
  clear hF
  go_wp2_with fail
  refine (HC.out _).mono ?_
  rintro e v5 ⟨rfl, hF⟩
  have Fv5 := Lib.hid (Fv4.out.trans hF)
  have R0v5 := Lib.hid (R0v4.out.fr hF id)
  have R1v5 := Lib.hid (R1v4.out.fr hF id)
  have R2v5 := Lib.hid (R2v4.out.fr hF id)
  have R3v5 := Lib.hid (R3v4.out.fr hF id)
  clear hF
  go_wp2_with (first
    | (refine wpList_load_eqG 23 _ rfl (.pointer (some ⟨v3.heap.size, 0, none⟩)) (.agg (arr .u8 B)) rfl (Row.load R3v5.out arHash HLB.out) rfl ?_)
    | (refine wpList_load_eqG 23 _ rfl (.pointer (some ⟨v2.heap.size, 0, none⟩)) (.agg (arr .u8 B)) rfl (Row.load R2v5.out arHash HLB.out) rfl ?_)
    | (refine wpList_execG (.bool true) (exec_bin .eql 23 (.tmp 62) (.tmp 63) 23 rfl _ _ _ rfl rfl (by kernel_rfl) (HEB.out _)) rfl ?_))
  go_ret
  exact ⟨rfl, Fv5.out⟩

set_option maxHeartbeats 2000000 in
set_option maxRecDepth 100000 in
theorem derives_no (h : List Nat) (x y : Nat) (w : World) (hh : H32 h) (hx : x < 65536) (hy : y < 65536) (hc : canN x y = false) (hg : Gl w) :
    Calls Tryd.prog 4 #[.agg (arr .u8 h), .int .u16 (x : Int), .int .u16 (y : Int)] w fun e w' => e = .returned (.bool true) ∧ Fr No w w' := by
  have hcan : can (x : Int) (y : Int) = false := by rw [can_of hx hy, hc]
  have HMf : Hid (∀ X, Gl X → Calls Tryd.prog 7 #[.agg (arr .u8 h), .int .i64 (x : Int)] X fun ex w' => ex = .returned (.tuple #[.agg (arr .u8 (mSec h (x : Int))), .int .i64 0]) ∧ Fr No X w') := Lib.hid (fun X hX => by
    have := make_any h (x : Int) X hh hX
    rwa [mErr_num hx] at this)
  have HMt : Hid (∀ X, Gl X → Calls Tryd.prog 7 #[.agg (arr .u8 h), .int .i64 (y : Int)] X fun ex w' => ex = .returned (.tuple #[.agg (arr .u8 (mSec h (y : Int))), .int .i64 0]) ∧ Fr No X w') := Lib.hid (fun X hX => by
    have := make_any h (y : Int) X hh hX
    rwa [mErr_num hy] at this)
  have HD : Hid (∀ X, Gl X → Calls Tryd.prog 9 #[.agg (arr .u8 (mSec h (x : Int))), .int .i64 (x : Int), .int .i64 (y : Int)] X fun ex w' => ex = .returned (.tuple #[.agg (arr .u8 (List.replicate 32 0)), .int .i64 1]) ∧ Fr No X w') := Lib.hid (fun X hX => by
    have := derive_any (mSec h (x : Int)) (x : Int) (y : Int) X (mSec_h hh _) hX
    rwa [dSec_no _ hcan, dErr_no hcan] at this)
  have HC : Hid (∀ X, Calls Tryd.prog 13 #[.int .i64 (x : Int), .int .i64 (y : Int)] X fun ex w' => ex = .returned (.bool false) ∧ Fr No X w') := Lib.hid (fun X => by
    have := can_num x y X hx hy
    rwa [hc] at this)
  obtain ⟨A, hA⟩ : ∃ A, A = mSec h (x : Int) := ⟨_, rfl⟩
  obtain ⟨B, hB⟩ : ∃ B, B = mSec h (y : Int) := ⟨_, rfl⟩
  obtain ⟨Z, hZ⟩ : ∃ Z, Z = List.replicate 32 0 := ⟨_, rfl⟩
  rw [← hA] at HMf HD
  rw [← hB] at HMt
  rw [← hZ] at HD
  have HLA : Hid (A.length = 32) := Lib.hid (by rw [hA]; exact (mSec_h hh _).len)
  have HLB : Hid (B.length = 32) := Lib.hid (by rw [hB]; exact (mSec_h hh _).len)
  have HLZ : Hid (Z.length = 32) := Lib.hid (by rw [hZ]; rfl)
  have HEZ : Hid (∀ X, (binOp .eql 23 (.agg (arr .u8 Z)) (.agg (arr .u8 (List.replicate 32 0)))).run Tryd.prog X = .ok (.bool true) X) := Lib.hid (fun X => by rw [hZ]; exact eql_h32 _ (by rfl) X)
  have ex : IntKind.i64.wrap (x : Int) = (x : Int) := IntWalk.i64_in _ (by omega)
  have ey : IntKind.i64.wrap (y : Int) = (y : Int) := IntWalk.i64_in _ (by omega)
  have HG := Lib.hid hg
  have HLh := Lib.hid hh.len
  have F0 : Hid (Fr No w (w.alloc (.cells (arr .u8 h) 23))) := Lib.hid ((Fr.refl No w).alloc _)
  have R0 := Lib.hid (Row.new w 23 .u8 h)
  clear hA hB hZ hc hcan hh hg hx hy
  go_enter Tryd.func4, Tryd.ntmps4
  go_wp2_with (first
    | (refine wpList_load_eq rfl 23 _ rfl (.pointer (some ⟨w.heap.size, 0, none⟩)) (.agg (arr .u8 h)) rfl (Row.load R0.out arHash HLh.out) ?_))
  refine (HMf.out _ (HG.out.fr F0.out (fun _ _ => id))).mono ?_
  rintro e v1 ⟨rfl, hF⟩
  have Fv1 := Lib.hid (F0.out.trans hF)
  have R0v1 := Lib.hid (R0.out.fr hF id)
  clear hF
  go_wp2_with (first
    | (refine wpList_store_row rfl 23 _ _ rfl v1.heap.size rfl (arr .u8 A) rfl (Row.new v1 23 .u8 (List.replicate 32 0)) arHash (by rfl) (by rw [arr_size]; exact HLA.out) (arr_one _ _) ?_
       refine wpList_world (fun W => Fr No w W ∧ Row W w.heap.size 23 .u8 h ∧ Row W v1.heap.size 23 .u8 A) ⟨fr_setRow (Fv1.out.alloc _) (.inr Fv1.out.size) _, Row.setRow_o (R0v1.out.alloc _) (Nat.ne_of_lt R0v1.out.lt) _, Row.newSet (List.replicate 32 0)⟩ ?_
       rintro u1 ⟨hF, hR0, hR1⟩
       have Fu1 := Lib.hid hF
       have R0u1 := Lib.hid hR0
       have R1u1 := Lib.hid hR1
       clear hF hR0 hR1)
    | (refine wpList_load_eq rfl 23 _ rfl (.pointer (some ⟨w.heap.size, 0, none⟩)) (.agg (arr .u8 h)) rfl (Row.load R0u1.out arHash HLh.out) ?_))
  refine (HMt.out _ (HG.out.fr Fu1.out (fun _ _ => id))).mono ?_
  rintro e v2 ⟨rfl, hF⟩
  have Fv2 := Lib.hid (Fu1.out.trans hF)
  have R0v2 := Lib.hid (R0u1.out.fr hF id)
  have R1v2 := Lib.hid (R1u1.out.fr hF id)
  clear hF
  go_wp2_with (first
    | (refine wpList_store_row rfl 23 _ _ rfl v2.heap.size rfl (arr .u8 B) rfl (Row.new v2 23 .u8 (List.replicate 32 0)) arHash (by rfl) (by rw [arr_size]; exact HLB.out) (arr_one _ _) ?_
       refine wpList_world (fun W => Fr No w W ∧ Row W w.heap.size 23 .u8 h ∧ Row W v1.heap.size 23 .u8 A ∧ Row W v2.heap.size 23 .u8 B) ⟨fr_setRow (Fv2.out.alloc _) (.inr Fv2.out.size) _, Row.setRow_o (R0v2.out.alloc _) (Nat.ne_of_lt R0v2.out.lt) _, Row.setRow_o (R1v2.out.alloc _) (Nat.ne_of_lt R1v2.out.lt) _, Row.newSet (List.replicate 32 0)⟩ ?_
       rintro u2 ⟨hF, hR0, hR1, hR2⟩
       have Fu2 := Lib.hid hF
       have R0u2 := Lib.hid hR0
       have R1u2 := Lib.hid hR1
       have R2u2 := Lib.hid hR2
       clear hF hR0 hR1 hR2)
    | (refine wpList_load_eq rfl 23 _ rfl (.pointer (some ⟨v1.heap.size, 0, none⟩)) (.agg (arr .u8 A)) rfl (Row.load R1u2.out arHash HLA.out) ?_))
  refine (HD.out _ (HG.out.fr Fu2.out (fun _ _ => id))).mono ?_
  rintro e v3 ⟨rfl, hF⟩
  have Fv3 := Lib.hid (Fu2.out.trans hF)
  have R0v3 := Lib.hid (R0u2.out.fr hF id)
  have R1v3 := Lib.hid (R1u2.out.fr hF id)
  have R2v3 := Lib.hid (R2u2.out.fr hF id)
  clear hF
  go_wp2_with (first
    | (refine wpList_store_row rfl 23 _ _ rfl v3.heap.size rfl (arr .u8 Z) rfl (Row.new v3 23 .u8 (List.replicate 32 0)) arHash (by rfl) (by rw [arr_size]; exact HLZ.out) (arr_one _ _) ?_
       refine wpList_world (fun W => Fr No w W ∧ Row W w.heap.size 23 .u8 h ∧ Row W v1.heap.size 23 .u8 A ∧ Row W v2.heap.size 23 .u8 B ∧ Row W v3.heap.size 23 .u8 Z) ⟨fr_setRow (Fv3.out.alloc _) (.inr Fv3.out.size) _, Row.setRow_o (R0v3.out.alloc _) (Nat.ne_of_lt R0v3.out.lt) _, Row.setRow_o (R1v3.out.alloc _) (Nat.ne_of_lt R1v3.out.lt) _, Row.setRow_o (R2v3.out.alloc _) (Nat.ne_of_lt R2v3.out.lt) _, Row.newSet (List.replicate 32 0)⟩ ?_
       rintro u3 ⟨hF, hR0, hR1, hR2, hR3⟩
       have Fu3 := Lib.hid hF
       have R0u3 := Lib.hid hR0
       have R1u3 := Lib.hid hR1
       have R2u3 := Lib.hid hR2
       have R3u3 := Lib.hid hR3
       clear hF hR0 hR1 hR2 hR3))
  refine (shown4_any _).mono ?_
  rintro e v4 ⟨rfl, hF⟩
  have Fv4 := Lib.hid (Fu3.out.trans hF)
  have R0v4 := Lib.hid (R0u3.out.fr hF id)
  have R1v4 := Lib.hid (R1u3.out.fr hF id)
  have R2v4 := Lib.hid (R2u3.out.fr hF id)
  have R3v4 := Lib.hid (R3u3.out.fr hF id)
  clear hF
  go_wp2_with fail
  refine (HC.out _).mono ?_
  rintro e v5 ⟨rfl, hF⟩
  have Fv5 := Lib.hid (Fv4.out.trans hF)
  have R0v5 := Lib.hid (R0v4.out.fr hF id)
  have R1v5 := Lib.hid (R1v4.out.fr hF id)
  have R2v5 := Lib.hid (R2v4.out.fr hF id)
  have R3v5 := Lib.hid (R3v4.out.fr hF id)
  clear hF
  go_wp2_with (first
    | (refine wpList_load_eqG 23 _ rfl (.pointer (some ⟨v3.heap.size, 0, none⟩)) (.agg (arr .u8 Z)) rfl (Row.load R3v5.out arHash HLZ.out) rfl ?_)
    | (refine wpList_execG (.bool true) (exec_bin .eql 23 (.tmp 55) (.tmp 56) 23 rfl _ _ _ rfl rfl (by kernel_rfl) (HEZ.out _)) rfl ?_))
  go_ret
  exact ⟨rfl, Fv5.out⟩

theorem derives_walk (h : List UInt8) (x y : Nat) (w : World) (hh : h.length = 32) (hx : (x : Int) ≤ 65535) (hy : (y : Int) ≤ 65535) (hg : Gl w) :
    Calls Tryd.prog 4 #[.agg (h.map u8v).toArray, .int .u16 (x : Int), .int .u16 (y : Int)] w fun e w' => e = .returned (.bool true) ∧ Fr No w w' := by
  rw [arr_nb]
  have hH : H32 (nb h) := ⟨by rw [nb, List.length_map]; exact hh, nb_b8 _⟩
  cases hc : canN x y with
  | true => exact derives_yes (nb h) x y w hH (by omega) (by omega) hc hg
  | false => exact derives_no (nb h) x y w hH (by omega) (by omega) hc hg
end Go.Proofs.YtiimkbboeekhlaaDoor
