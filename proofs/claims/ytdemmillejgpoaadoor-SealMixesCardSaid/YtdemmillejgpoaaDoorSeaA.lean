/- The program's keys, filled and mixed, and the hash of a preimage. -/
import Derived.Test.YtdemmillejgpoaaDoorDigG
import Derived.Test.YtdemmillejgpoaaDoorRefP
import Derived.Test.YtdemmillejgpoaaDoorSeaM
namespace Go.Proofs.YtdemmillejgpoaaDoor
open Go.RowKit
set_option linter.unusedVariables false

theorem ar64 : Ar Tryd.prog 37 64 := ⟨⟨_, Tryd.underlying37⟩, by kernel_rfl⟩

theorem Row.setRow_o {w : World} {b c : Nat} {t : TypeId} {k : IntKind} {l : List Nat} (h : Row w b t k l) (hn : b ≠ c) (cs : Array Value) : Row (w.setRow c cs) b t k l := (setRow_other w c b cs hn).trans h

/-- 'copy' by an equation on its run. -/
theorem wpList_copy_eq {P : Program} {ops : Array Oper} {rest : List Oper} {o : Oper} {a : Act} {w w' : World} {Q : Exit → Act → World → Prop} (hgd : o.guard = none) (d s : Operand) (dT sT : TypeId)
    (ho : o.op = .call { callee := .builtin .copy, args := #[d, s], argTypes := #[dT, sT] }) (vd vs r : Value) (hd : a.eval d = vd) (hs : a.eval s = vs)
    (hr : (Builtin.copy_ #[dT, sT] o.type #[vd, vs]).run P w = .ok r w') (h : wpList P ops Q rest (a.put o.dst r) w') : wpList P ops Q (o :: rest) a w := by
  refine wpList_plain hgd fun K hK => ?_
  unfold Oper.wp
  simp [execOp, ho, resolve, invoke, builtin, hd, hs, hr, Result.andThen]
  exact hK _ _ h

/-- A text is copied onto the front of a row of bytes. -/
theorem copy_row (k : List UInt8) (n : Nat) (w : World) (g : Nat) (t ty : TypeId) (hk : k.length ≤ n) (hR : Row w g t .u8 (List.replicate n 0)) :
    (Builtin.copy_ #[31, 9] ty #[.slice (some ⟨g, 0, none⟩) n n, .string (str k)]).run Tryd.prog w = .ok (goInt k.length) (w.setRow g (arr .u8 (nb (k ++ List.replicate (n - k.length) 0)))) := by
  have hinfo : (Tryd.prog.info? 5).map (·.size) = some 1 := by kernel_rfl
  have h := Lib.run_copy_row_string (P := Tryd.prog) w 31 9 ty 5 g 0 n n (str k) (arr .u8 (List.replicate n 0)) t Tryd.underlying31 hinfo hR (by rw [str_size]; exact hk) (by rw [str_size]; simp; omega)
  rw [str_size] at h
  rw [h]
  congr 2
  simp only [List.take_zero, List.nil_append, Nat.zero_add, List.map_append, List.map_replicate, List.drop_replicate, nb]
  congr 1
  rw [List.map_append, List.map_map, List.map_replicate]
  rfl

set_option maxHeartbeats 1000000 in
set_option maxRecDepth 100000 in
theorem of_any (p : List Nat) (w : World) (hp : p.length = 32) (h8 : B8 p) (hg : Gl w) :
    Calls Tryd.prog 12 #[.agg (arr .u8 p)] w fun ex w' => ex = .returned (.agg (arr .u8 (ofL p))) ∧ Fr No w w' := by
  obtain ⟨D, hD⟩ : ∃ D, D = ofL p := ⟨_, rfl⟩
  obtain ⟨b, hb⟩ : ∃ b, b = bn p := ⟨_, rfl⟩
  have hs := fun X hg => sum_any b X (by rw [hb, bn, List.length_map]; omega) hg
  rw [show sumL b = D by rw [hD, hb]; rfl] at hs
  have HS := Lib.hid hs
  have HDL : Hid (D.length = 32) := Lib.hid (by rw [hD]; exact ofL_len _)
  have HP := Lib.hid hp
  have H8 := Lib.hid h8
  have HG := Lib.hid hg
  have HB := Lib.hid hb
  rw [← hD]
  clear hD hb hs hp h8 hg
  go_enter Tryd.func12, Tryd.ntmps12
  go_wp2_with (refine wpList_convert_eq rfl 31 9 _ rfl _ (.string (str b)) rfl (by rw [HB.out]; exact conv_row 32 (Row.alloc (Row.new w 23 .u8 p) _) HP.out H8.out) ?_)
  refine (HS.out _ (HG.out.fr (((Fr.refl No w).alloc _).alloc _) (fun _ _ => id))).mono ?_
  rintro ex w2 ⟨rfl, hF⟩
  have R1 : Hid (Row w2 (w.heap.size + 1) 23 .u8 (List.replicate 32 0)) := Lib.hid (Row.fr (Row.new2 w _ 23 .u8 (List.replicate 32 0)) hF id)
  have HF := Lib.hid ((((Fr.refl No w).alloc _).alloc _).trans hF)
  clear hF
  go_wp2_with (refine wpList_store_row rfl 23 _ _ rfl (w.heap.size + 1) rfl (arr .u8 D) rfl R1.out arHash (by rfl) (by rw [arr_size]; exact HDL.out) (arr_one _ _) ?_
               refine wpList_world (fun W => Fr No w W ∧ Row W (w.heap.size + 1) 23 .u8 D) ⟨fr_setRow HF.out (.inr (Nat.le_succ _)) _, R1.out.setRow⟩ ?_
               rintro w3 ⟨hF3, hR3⟩
               have HF3 := Lib.hid hF3
               have HR := Lib.hid (hR3.loadVar arHash HDL.out)
               clear hF3 hR3)
  exact bodyPost_ret (results_cell1 rfl rfl HR.out) rfl ⟨rfl, HF3.out⟩

set_option maxHeartbeats 1000000 in
set_option maxRecDepth 100000 in
theorem mixer_any (L : List Nat) (w : World) (hL : L.length = 64) :
    Calls Tryd.prog 17 #[.agg (arr .u8 L)] w fun ex w' => ex = .returned (.func (.func 25) #[] #[.pointer (some ⟨w.heap.size, 0, none⟩)]) ∧ Fr No w w' ∧ Row w' w.heap.size 37 .u8 L := by
  have hmf : ∀ (fn : Fn) (first cap : Array Value) (w : World), (Instr.makeFunc fn first cap).run Tryd.prog w = .ok (.func fn first cap) w := fun _ _ _ _ => rfl
  go_enter Tryd.func17, Tryd.ntmps17
  go_wp2
  go_ret
  exact ⟨rfl, (Fr.refl No w).alloc _, Row.new w _ _ _⟩

set_option maxHeartbeats 1000000 in
set_option maxRecDepth 100000 in
theorem filled_short (k : List UInt8) (w : World) (hk : k.length ≤ 64) :
    Calls Tryd.prog 18 #[.string (str k)] w fun ex w' => ex = .returned (.agg (arr .u8 (nb (fillL k)))) ∧ Fr No w w' := by
  obtain ⟨n, hn⟩ : ∃ n, n = k.length := ⟨_, rfl⟩
  have hsz : (str k).size = n := by rw [str_size, hn]
  have h1 : ¬ (64 : Int) < (n : Int) := by omega
  obtain ⟨L, hL⟩ : ∃ L, L = nb (fillL k) := ⟨_, rfl⟩
  have hLL : L.length = 64 := by rw [hL, nb, List.length_map, fillL_len hk]
  have HC : Hid (∀ X g ty, Row X g 37 .u8 (List.replicate 64 0) → (Builtin.copy_ #[31, 9] ty #[.slice (some ⟨g, 0, none⟩) 64 64, .string (str k)]).run Tryd.prog X = .ok (goInt k.length) (X.setRow g (arr .u8 L))) := Lib.hid (fun X g ty hR => by rw [hL]; exact copy_row k 64 X g _ ty hk hR)
  have HLL := Lib.hid hLL
  rw [← hL]
  clear hn hL hk hLL
  go_enter Tryd.func18, Tryd.ntmps18
  go_wp2_with (first
    | (refine wpList_copy_eq rfl _ _ _ _ rfl _ (.string (str k)) _ rfl rfl (HC.out _ (w.heap.size + 1) _ (Row.new2 w _ 37 .u8 (List.replicate 64 0))) ?_
       refine wpList_world (fun W => Fr No w W ∧ Row W w.heap.size 37 .u8 (List.replicate 64 0) ∧ Row W (w.heap.size + 1) 37 .u8 L) ⟨fr_setRow (((Fr.refl No w).alloc _).alloc _) (.inr (Nat.le_succ _)) _, Row.setRow_o ((Row.new w 37 .u8 (List.replicate 64 0)).alloc _) (Nat.ne_of_lt (Nat.lt_succ_self _)) _, (Row.new2 w _ 37 .u8 (List.replicate 64 0)).setRow⟩ ?_
       rintro w1 ⟨hF, hR0, hR1⟩
       have HF := Lib.hid hF
       have HL1 := Lib.hid (hR1.load ar64 HLL.out)
       obtain ⟨Y, hY, hYR, hYF⟩ := hR0.stored (l' := L) ar64 (by rfl) HLL.out
       have HY := Lib.hid hY
       have HYR := Lib.hid (hYR.loadVar ar64 HLL.out)
       have HYF : Hid (Fr No w Y) := Lib.hid (HF.out.trans' hYF (fun k hk e => Nat.lt_irrefl _ (e ▸ hk)))
       clear hF hR0 hR1 hY hYR hYF)
    | (refine wpList_load_eq rfl 37 _ rfl (.pointer (some ⟨w.heap.size + 1, 0, none⟩)) (.agg (arr .u8 L)) rfl HL1.out ?_)
    | (refine wpList_store_eq rfl 37 _ _ rfl (.pointer (some ⟨w.heap.size, 0, none⟩)) (.agg (arr .u8 L)) rfl rfl HY.out ?_))
  exact bodyPost_ret (results_cell1 rfl rfl HYR.out) rfl ⟨rfl, HYF.out⟩

set_option maxHeartbeats 1000000 in
set_option maxRecDepth 100000 in
theorem mixer1_any (k : List UInt8) (m : UInt8) (b : Nat) (w : World) (hk : k.length ≤ 64) (hR : Row w b 37 .u8 (nb (fillL k))) :
    Calls Tryd.prog 25 #[.int .u8 (m.toNat : Int), .pointer (some ⟨b, 0, none⟩)] w fun ex w' => ex = .returned (.string (str (mixL k m))) ∧ Fr No w w' := by
  obtain ⟨L, hL⟩ : ∃ L, L = nb (fillL k) := ⟨_, rfl⟩
  obtain ⟨M, hM⟩ : ∃ M : Nat, M = m.toNat := ⟨_, rfl⟩
  have hM8 : M < 256 := by rw [hM]; exact m.toNat_lt
  have HLL : Hid (L.length = 64) := Lib.hid (by rw [hL, nb, List.length_map, fillL_len hk])
  have HL8 : Hid (B8 L) := Lib.hid (by rw [hL]; exact nb_b8 _)
  have HE : Hid (xst L M 64 = nb (mixL k m)) := Lib.hid (by rw [hL, hM]; exact xst_all k m hk)
  rw [← hL] at hR
  rw [← hM]
  have HLD := Lib.hid (hR.load ar64 HLL.out)
  have HR := Lib.hid hR
  have HM8 := Lib.hid hM8
  clear hL hM hk hR hM8
  go_enter Tryd.func25, Tryd.ntmps25
  go_wp2_with (first
    | (refine wpList_load_eq rfl 37 _ rfl (.pointer (some ⟨b, 0, none⟩)) (.agg (arr .u8 L)) rfl HLD.out ?_)
    | (refine wpList_store_row rfl 37 _ _ rfl w.heap.size rfl (arr .u8 L) rfl (Row.new w 37 .u8 (List.replicate 64 0)) ar64 (by rfl) (by rw [arr_size]; exact HLL.out) (arr_one _ _) ?_
       refine wpList_world (fun W => Fr No w W ∧ Row W w.heap.size 37 .u8 (xst L M 0)) ⟨fr_setRow ((Fr.refl No w).alloc _) (.inr (Nat.le_refl _)) _, by rw [xst_zero]; exact (Row.new w 37 .u8 (List.replicate 64 0)).setRow⟩ ?_
       rintro w1 ⟨hF, hR1⟩
       have HF1 := Lib.hid hF
       have HR1 := Lib.hid hR1
       clear hF hR1))
  obtain ⟨p, hp⟩ : ∃ p, p = w.heap.size := ⟨_, rfl⟩
  have HP := Lib.hid hp
  have K1 := HR1.out
  rw [← hp] at K1 ⊢
  clear hp HR1 HLD HR
  go_loopw [7] (fun c wr => ∃ i : Nat, i ≤ 64 ∧ c = .int .i64 i ∧ Fr No w wr ∧ Row wr p 37 .u8 (xst L M i)) (fun c _ => 64 - (intOf c).toNat)
  case atStart => exact ⟨0, by omega, rfl, HF1.out, K1⟩
  clear HF1 K1
  case round =>
    obtain ⟨i, hi, rfl, hF, k1⟩ := hrel
    by_cases hlt : i < 64
    · have h1 : (i : Int) < 64 := by omega
      obtain ⟨x, hx⟩ : ∃ x, x = L.getD i 0 := ⟨_, rfl⟩
      obtain ⟨y, hy⟩ : ∃ y, y = x ^^^ M := ⟨_, rfl⟩
      have hx8 : x < 256 := by rw [hx]; exact HL8.out.getD i
      have hxo : bits .xor .u8 (x : Int) (M : Int) = (y : Int) := by rw [hy]; exact u8_xor_nat _ _ hx8 HM8.out
      have c1 := k1.cellD (i := i) (by rw [xst_len, HLL.out]; exact hlt)
      rw [xst_getD _ _ _ (by rw [HLL.out]; exact hlt), ← hx] at c1
      have f1 := k1.frozen i
      have HN : Hid (xst L M (i + 1) = (xst L M i).set i y) := Lib.hid (by rw [hy, hx, xst_set _ _ _ (by rw [HLL.out]; exact hlt)])
      have HF := Lib.hid hF
      have K1 := Lib.hid k1
      clear hx hy hx8 hF k1
      go_wp2
      refine ⟨⟨i + 1, by omega, by simp, HF.out.setCell (.inr (by have := HP.out; show _ ≤ p; omega)) _, ?_⟩, by simp [intOf]; omega⟩
      rw [HN.out]; exact K1.out.set i y
    · have hge : ¬ (i : Int) < 64 := by omega
      rw [show i = 64 by omega, HE.out] at k1
      have HF := Lib.hid hF
      have HMX : Hid ((nb (mixL k m)).length = 64) := Lib.hid (by rw [← HE.out, xst_len]; exact HLL.out)
      have HCV := Lib.hid (conv_row 64 k1 HMX.out (nb_b8 _))
      rw [show List.map UInt8.ofNat (nb (mixL k m)) = mixL k m from bn_nb _] at HCV
      clear hF k1
      go_wp2_with (refine wpList_convert_eq rfl 31 9 _ rfl _ (.string (str (mixL k m))) rfl HCV.out ?_)
      go_ret
      exact ⟨rfl, HF.out⟩


end Go.Proofs.YtdemmillejgpoaaDoor
