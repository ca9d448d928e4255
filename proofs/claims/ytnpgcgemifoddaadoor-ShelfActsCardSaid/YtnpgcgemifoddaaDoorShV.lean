/- The secret that is told: 'of'. -/
import Derived.Test.YtnpgcgemifoddaaDoorShS
namespace Go.Proofs.YtnpgcgemifoddaaDoor
open Go.RowKit
set_option linter.unusedVariables false

/-- A secret of a number, as the law has it. -/
structure Tol where
  i : Int
  sd : Nat
  h : List Nat
  hi : -9223372036854775808 ≤ i ∧ i ≤ 9223372036854775807
  hs : sd < 256
  hh : H32 h
def Tol.cells (t : Tol) : List Value := .int .i64 t.i :: .int .u8 (t.sd : Int) :: t.h.map (vi .u8)
theorem Tol.size (t : Tol) : t.cells.length = 34 := by
  have := t.hh.len
  simp [Tol.cells, this]
def seedL (m : Nat) : List Nat := m :: List.replicate 31 0
theorem seedL_h {m : Nat} (hm : m < 4) : H32 (seedL m) := ⟨by simp [seedL], fun x hx => by
  rcases List.mem_cons.1 hx with rfl | hx
  · omega
  · rw [List.eq_of_mem_replicate hx]; decide⟩
def Tol.sec (t : Tol) : List Nat := if t.sd % 4 = 3 then t.h else mSec (seedL (t.sd % 4)) t.i
theorem Tol.sec_h (t : Tol) : H32 t.sec := by
  unfold Tol.sec
  split
  · exact t.hh
  · exact mSec_h (seedL_h (by omega)) _
theorem build_seed (m : Nat) (w : World) : (Instr.build 27 #[(0, .int .u8 (m : Int))]).run Tryd.prog w = .ok (.agg (arr .u8 (seedL m))) w := by kernel_rfl

theorem load_int (X : World) (q : Addr) (v : Value) (h : X.cell? q = some v) : (Instr.loadAt 3 (.pointer (some q))).run Tryd.prog X = .ok v X := by simp [go_sem, h]
theorem load_u8 (X : World) (q : Addr) (v : Value) (h : X.cell? q = some v) : (Instr.loadAt 5 (.pointer (some q))).run Tryd.prog X = .ok v X := by simp [go_sem, h]

set_option maxRecDepth 100000 in
set_option maxHeartbeats 1000000 in
theorem of5_any (t : Tol) (w : World) : Calls Tryd.prog 10 #[.agg t.cells.toArray] w fun ex w' => ex = .returned (.agg (arr .u8 t.sec)) ∧ Fr No w w' := by
  obtain ⟨m, hm⟩ : ∃ m, m = t.sd % 4 := ⟨_, rfl⟩
  have hm4 : m < 4 := by omega
  have hs := t.hs
  obtain ⟨sd, hsd⟩ : ∃ sd, sd = t.sd := ⟨_, rfl⟩
  have e1 : Int.tmod (sd : Int) 4 = (m : Int) := by rw [Int.tmod_eq_emod_of_nonneg (by omega)]; omega
  have e2 : (sd : Int) % 4 = (m : Int) := by omega
  have e3 : IntKind.u8.wrap (m : Int) = (m : Int) := by
    have : m = 0 ∨ m = 1 ∨ m = 2 ∨ m = 3 := by omega
    rcases this with rfl | rfl | rfl | rfl <;> rfl
  have hB := (Blk.new w 42 t.cells).alloc (.cells (arr .u8 (List.replicate 32 0)) 27)
  have hR := Row.new2 w (.cells t.cells.toArray 42) 27 .u8 (List.replicate 32 0)
  have c0 := hB.cell (i := 0) (v := .int .i64 t.i) rfl
  have c1 := hB.cell (i := 1) (v := .int .u8 (sd : Int)) (by rw [hsd]; rfl)
  have HL0 : Hid ((Instr.loadAt 3 (.pointer (some ⟨w.heap.size, 0, none⟩))).run Tryd.prog ((w.alloc (.cells t.cells.toArray 42)).alloc (.cells (arr .u8 (List.replicate 32 0)) 27)) = .ok (.int .i64 t.i) ((w.alloc (.cells t.cells.toArray 42)).alloc (.cells (arr .u8 (List.replicate 32 0)) 27))) := Lib.hid (load_int _ _ _ c0)
  have HL1 : Hid ((Instr.loadAt 5 (.pointer (some ⟨w.heap.size, 1, none⟩))).run Tryd.prog ((w.alloc (.cells t.cells.toArray 42)).alloc (.cells (arr .u8 (List.replicate 32 0)) 27)) = .ok (.int .u8 (sd : Int)) ((w.alloc (.cells t.cells.toArray 42)).alloc (.cells (arr .u8 (List.replicate 32 0)) 27))) := Lib.hid (load_u8 _ _ _ c1)
  have HF : Hid (Fr No w ((w.alloc (.cells t.cells.toArray 42)).alloc (.cells (arr .u8 (List.replicate 32 0)) 27))) := Lib.hid (((Fr.refl No w).alloc _).alloc _)
  have HSC : Hid ((Instr.loadAt 27 (.pointer (some ⟨w.heap.size, 2, none⟩))).run Tryd.prog ((w.alloc (.cells t.cells.toArray 42)).alloc (.cells (arr .u8 (List.replicate 32 0)) 27)) = .ok (.agg (arr .u8 t.h)) ((w.alloc (.cells t.cells.toArray 42)).alloc (.cells (arr .u8 (List.replicate 32 0)) 27))) :=
    Lib.hid (load_range _ (hB.range (o := 2) (l := t.h.map (vi .u8)) (fun j v hv => by rw [Nat.add_comm]; exact hv)) Tryd.underlying27 rfl (by rw [List.length_map, t.hh.len]; kernel_rfl) _ rfl)
  have HR := Lib.hid hR
  have HB := Lib.hid hB
  by_cases h3 : m = 3
  · have hd : ((m : Int) == 3) = true := by rw [h3]; rfl
    have e : t.sec = t.h := by rw [Tol.sec, if_pos (by omega)]
    rw [e]
    obtain ⟨Y, hY, hYR, hYF⟩ := hR.stored (P := Tryd.prog) (l' := t.h) arHash (by rfl) t.hh.len
    have HY := Lib.hid hY
    have HYL := Lib.hid (hYR.loadVar arHash t.hh.len)
    have HYF : Hid (Fr No w Y) := Lib.hid (HF.out.trans' hYF (fun j hj e => by omega))
    clear c0 c1 hm hm4 hs hsd hB hR h3 e hY hYR hYF
    go_enter Tryd.func10, Tryd.ntmps10
    go_wp2_with (first
      | (refine wpList_load_eq rfl 5 _ rfl (.pointer (some ⟨w.heap.size, 1, none⟩)) (.int .u8 (sd : Int)) rfl HL1.out ?_)
      | (refine wpList_load_eq rfl 27 _ rfl (.pointer (some ⟨w.heap.size, 2, none⟩)) (.agg (arr .u8 t.h)) rfl HSC.out ?_)
      | (refine wpList_store_eq rfl 27 _ _ rfl (.pointer (some ⟨w.heap.size + 1, 0, none⟩)) (.agg (arr .u8 t.h)) rfl rfl HY.out ?_))
    exact bodyPost_ret (results_cell1 rfl rfl HYL.out) rfl ⟨rfl, HYF.out⟩
  · have hd : ((m : Int) == 3) = false := by rw [beq_eq_false_iff_ne]; omega
    have e : t.sec = mSec (seedL m) t.i := by rw [Tol.sec, if_neg (by omega), hm]
    rw [e]
    have HM : Hid (∀ X, Calls Tryd.prog 18 #[.agg (arr .u8 (seedL m)), .int .i64 t.i] X fun ex w' => ex = .returned (.tuple #[.agg (arr .u8 (mSec (seedL m) t.i)), .int .i64 (mErr t.i)]) ∧ Fr No X w') := Lib.hid (fun X => rmake_any (seedL m) t.i X (seedL_h hm4))
    obtain ⟨D, hD⟩ : ∃ D, D = mSec (seedL m) t.i := ⟨_, rfl⟩
    have HDL : Hid (D.length = 32) := Lib.hid (by rw [hD]; exact (mSec_h (seedL_h hm4) _).len)
    obtain ⟨me, hme⟩ : ∃ me, me = mErr t.i := ⟨_, rfl⟩
    rw [← hD, ← hme] at HM
    rw [← hD]
    clear c0 c1 hm hm4 hs hsd hB hR h3 e hD hme
    go_enter Tryd.func10, Tryd.ntmps10
    go_wp2_with (first
      | (refine wpList_load_eq rfl 5 _ rfl (.pointer (some ⟨w.heap.size, 1, none⟩)) (.int .u8 (sd : Int)) rfl HL1.out ?_)
      | (refine wpList_load_eq rfl 3 _ rfl (.pointer (some ⟨w.heap.size, 0, none⟩)) (.int .i64 t.i) rfl HL0.out ?_)
      | (refine wpList_execG (.agg (arr .u8 (seedL m))) (exec_build 27 _ rfl #[(0, .int .u8 (m : Int))] (by simp [go_sem]) _ (build_seed m _)) rfl ?_))
    refine (HM.out _).mono ?_
    rintro ex w3 ⟨rfl, hF3⟩
    obtain ⟨Y, hY, hYR, hYF⟩ := hash_new w3 D HDL.out
    have HYL := Lib.hid (hYR.load arHash HDL.out)
    have hF5 := hF3.trans hYF
    obtain ⟨Z, hZ, hZR, hZF⟩ := (HR.out.fr hF5 id).stored (P := Tryd.prog) (l' := D) arHash (by rfl) HDL.out
    have HY := Lib.hid hY
    have HZ := Lib.hid hZ
    have HZL := Lib.hid (hZR.loadVar arHash HDL.out)
    have HZF : Hid (Fr No w Z) := Lib.hid ((HF.out.trans hF5).trans' hZF (fun j hj e => by omega))
    clear hF3 hY hYR hYF hF5 hZ hZR hZF
    go_wp2_with (first
      | (refine wpList_store_eq rfl 27 _ _ rfl (.pointer (some ⟨w3.heap.size, 0, none⟩)) (.agg (arr .u8 D)) rfl rfl HY.out ?_)
      | (refine wpList_load_eq rfl 27 _ rfl (.pointer (some ⟨w3.heap.size, 0, none⟩)) (.agg (arr .u8 D)) rfl HYL.out ?_)
      | (refine wpList_store_eq rfl 27 _ _ rfl (.pointer (some ⟨w.heap.size + 1, 0, none⟩)) (.agg (arr .u8 D)) rfl rfl HZ.out ?_))
    exact bodyPost_ret (results_cell1 rfl rfl HZL.out) rfl ⟨rfl, HZF.out⟩
end Go.Proofs.YtnpgcgemifoddaaDoor
