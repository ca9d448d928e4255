/- The program's Derive. -/
import Derived.Test.YtnpgcgemifoddaaDoorSecS
import Derived.Test.YtnpgcgemifoddaaDoorSecC
import Derived.Test.YtnpgcgemifoddaaDoorRowIn
namespace Go.Proofs.YtnpgcgemifoddaaDoor
open Go.RowKit Go.Shelf
set_option linter.unusedVariables false
attribute [local go_sem] Oper.semAt_some

set_option maxRecDepth 100000 in
set_option maxHeartbeats 2000000 in
theorem derive_no (h : List Nat) (x y : Int) (w : World) (hc : can x y = false) : Calls Tryd.prog 25 #[.agg (arr .u8 h), .int .i64 x, .int .i64 y] w fun ex w' => ex = .returned (.tuple #[.agg (arr .u8 (List.replicate 32 0)), .int .i64 1]) ∧ Fr No w w' := by
  have hca := fun X => can_any x y X
  rw [hc] at hca
  refine (callsIn_wide (n := 9)).1 ?_
  refine callsIn_of_wp_marks Tryd.func25 rfl trivial ?_ rfl
  simp only [Tryd.ntmps25, List.size_toArray, List.length_cons, List.length_nil, Nat.reduceAdd, Nat.reduceSub, Array.replicate_succ, Array.replicate_zero, List.push_toArray, List.append_toArray, List.nil_append, List.cons_append]
  gi_wp2_with (first
    | (refine ⟨trivial, ?_⟩; gi_at_call 23; refine (callsIn_wide.2 (hca _)).mono ?_; rintro e w1 ⟨rfl, hF⟩
       have F1 : Hid (Fr No w w1) := Lib.hid ((((Fr.refl No w).alloc _).alloc _).trans hF)
       have R1 : Hid (Row w1 w.heap.size 27 .u8 h) := Lib.hid (Row.fr (Row.alloc (Row.new w 27 .u8 h) _) hF id)
       have Z1 : Hid (Row w1 (w.heap.size + 1) 27 .u8 (List.replicate 32 0)) := Lib.hid (Row.fr (Row.new2 w _ 27 .u8 (List.replicate 32 0)) hF id)
       clear hF
       obtain ⟨Y, hY, hYR, hYF⟩ := Z1.out.stored (l' := List.replicate 32 0) arHash (by rfl) (by rfl)
       have HY := Lib.hid hY
       have HYR := Lib.hid (hYR.loadVar arHash (by rfl))
       have HYF : Hid (Fr No w Y) := Lib.hid (F1.out.trans' hYF (fun k hk e => by omega))
       clear hY hYR hYF)
    | (refine wpListIn_store_eq rfl 27 _ _ rfl (.pointer (some ⟨w.heap.size + 1, 0, none⟩)) (.agg (arr .u8 (List.replicate 32 0))) rfl rfl HY.out ?_))
  exact ⟨_, results_cellT rfl rfl rfl HYR.out, rfl, HYF.out⟩

set_option maxRecDepth 100000 in
set_option maxHeartbeats 2000000 in
theorem derive_ok (h : List Nat) (x y : Nat) (w : World) (hh : H32 h) (hx : x < 65536) (hy : y < 65536) (hc : canN x y = true) (hg : Gl w) :
    Calls Tryd.prog 25 #[.agg (arr .u8 h), .int .i64 (x : Int), .int .i64 (y : Int)] w fun ex w' => ex = .returned (.tuple #[.agg (arr .u8 (walkL h y (placeN x))), .int .i64 0]) ∧ Fr No w w' := by
  have hca := fun X => can_num x y X hx hy
  rw [hc] at hca
  have hpl := fun X => place_ok_any x X hx
  obtain ⟨P, hP⟩ : ∃ P, P = placeN x := ⟨_, rfl⟩
  have hP16 : Hid (P ≤ 16) := Lib.hid (by rw [hP]; exact (placeN_is x).le)
  rw [← hP] at hpl ⊢
  obtain ⟨D', hD'⟩ : ∃ D', D' = walkL h y P := ⟨_, rfl⟩
  have HD32 : Hid (D'.length = 32) := Lib.hid (by rw [hD']; exact (walkL_h hh y P).len)
  have HDE' : Hid (stepsL h (ones y P) = D') := Lib.hid (by rw [stepsL_walk, hD'])
  rw [← hD']
  have HH := Lib.hid hh
  have HY := Lib.hid hy
  have HG := Lib.hid hg
  clear hP hx hy hc hg hh hD'
  refine (callsIn_wide (n := 9)).1 ?_
  refine callsIn_of_wp_marks Tryd.func25 rfl trivial ?_ rfl
  simp only [Tryd.ntmps25, List.size_toArray, List.length_cons, List.length_nil, Nat.reduceAdd, Nat.reduceSub, Array.replicate_succ, Array.replicate_zero, List.push_toArray, List.append_toArray, List.nil_append, List.cons_append]
  gi_wp2_with (first
    | (refine ⟨trivial, ?_⟩; gi_at_call 23; refine (callsIn_wide.2 (hca _)).mono ?_; rintro e w1 ⟨rfl, hF⟩
       have F1 : Hid (Fr No w w1) := Lib.hid ((((Fr.refl No w).alloc _).alloc _).trans hF)
       have R1 : Hid (Row w1 w.heap.size 27 .u8 h) := Lib.hid (Row.fr (Row.alloc (Row.new w 27 .u8 h) _) hF id)
       have Z1 : Hid (Row w1 (w.heap.size + 1) 27 .u8 (List.replicate 32 0)) := Lib.hid (Row.fr (Row.new2 w _ 27 .u8 (List.replicate 32 0)) hF id)
       clear hF)
    | (refine ⟨trivial, ?_⟩; gi_at_call 24; refine (callsIn_wide.2 (hpl _)).mono ?_; rintro e w2 ⟨rfl, hF⟩
       have F2 := Lib.hid (F1.out.trans hF)
       have R2 := Lib.hid (R1.out.fr hF id)
       have Z2 := Lib.hid (Z1.out.fr hF id)
       clear hF F1 R1 Z1)
    | (refine ⟨trivial, ?_⟩; gi_at_call 31; refine (callsIn_wide.2 (ones_in _ _ _)).mono ?_; rintro e w3 ⟨rfl, hF, hs3, hci, hct⟩
       have F3 := Lib.hid (F2.out.trans hF)
       have R3 := Lib.hid (R2.out.fr hF id)
       have Z3 := Lib.hid (Z2.out.fr hF id)
       have L2 := Lib.hid (Z2.out.lt)
       clear hF F2 R2 Z2))
  obtain ⟨b, hb⟩ : ∃ b, b = w2.heap.size := ⟨_, rfl⟩
  obtain ⟨p, hp⟩ : ∃ p, p = w.heap.size := ⟨_, rfl⟩
  rw [← hb] at hci hct hs3 ⊢
  rw [← hp] at R3 Z3 ⊢
  have HBP : Hid (p + 1 < b) := Lib.hid (by rw [hb, hp]; exact L2.out)
  have HP := Lib.hid hp
  have HS3 := Lib.hid hs3
  have HWZ : Hid (w.heap.size ≤ w3.heap.size) := Lib.hid F3.out.size
  have hst := fun (z : Fin 16) H X (h1 : H32 H) (h2 : Gl X) => step_any H z.val X h1 z.isLt h2
  clear hb hp hca hpl L2
  refine wpIn_rangeFunc_ownF rfl (by omega) (gf := 34) (lb := #[.pointer (some ⟨b + 1, 0, none⟩), .pointer (some ⟨b, 0, none⟩)]) rfl trivial (enters_of Tryd.func34 (by kernel_rfl) rfl)
    (ones_stops Fence.wide _ trivial rfl (by omega) (b + 1) b y P w3 (by have := HS3.out; omega) (by have := HS3.out; omega) hct hci HY.out hP16.out) KpC.trans (KpC.book (by have := HS3.out; omega)) (Below.refl _ _) (fun _ => rfl)
    (fun pre W => (Row W p 27 .u8 (stepsL h pre) ∧ Row W (p + 1) 27 .u8 (List.replicate 32 0)) ∧ Fr No w W)
    (fun _ _ _ => False)
    (fun s A B row hs hg hr => ⟨⟨hs.1.1.grown hg (fun r e => (hr r e).2), hs.1.2.grown hg (fun r e => (hr r e).2)⟩, fr_grown_far hs.2 hg HWZ.out hr⟩)
    (fun _ _ _ _ _ hs _ _ => hs)
    ⟨⟨R3.out, Z3.out⟩, F3.out⟩
    (fun z => { tmps := #[.agg (arr .u8 h), .int .i64 (x : Int), .int .i64 (y : Int), .pointer (some ⟨p, 0, none⟩), undef, undef, .pointer (some ⟨p + 1, 0, none⟩), .int .i64 0, .int .i64 (z.val : Int), .int .i64 (x : Int), .int .i64 (y : Int), .bool true, .bool false, undef, .int .i64 (y : Int), .int .i64 (x : Int), .int .i64 (P : Int),
        .func (.func 34) #[] #[.pointer (some ⟨b + 1, 0, none⟩), .pointer (some ⟨b, 0, none⟩)], .int .i64 (z.val : Int), undef, undef, undef, undef], defers := [] }) ?assign ?body ?done ?stop
  case assign =>
    intro l x W K hK
    gi_wp2
    exact hK
  case body =>
    rintro l pre z W ⟨⟨hR, hZ⟩, hFW⟩ _
    obtain ⟨H, hH⟩ : ∃ H, H = stepsL h pre := ⟨_, rfl⟩
    rw [← hH] at hR
    have hH32 : H32 H := by rw [hH]; exact stepsL_h HH.out pre
    have HL := Lib.hid (hR.load arHash hH32.len)
    have HR := Lib.hid hR
    have HZ := Lib.hid hZ
    have HFW := Lib.hid hFW
    have HS := Lib.hid (hst z H W hH32 (HG.out.fr hFW (fun _ _ => id)))
    obtain ⟨D, hD⟩ : ∃ D, D = stepL H z.val := ⟨_, rfl⟩
    have HD : Hid (H32 D) := Lib.hid (by rw [hD]; exact stepL_h _ _)
    have HDE : Hid (stepsL h (pre ++ [z]) = D) := Lib.hid (by rw [stepsL_snoc, ← hH, hD])
    have HHL := Lib.hid hH32
    rw [← hD] at HS
    clear hR hZ hFW hH hH32 hD hst
    gi_wp2_with (first
      | (refine wpListIn_load_eq rfl 27 _ rfl (.pointer (some ⟨p, 0, none⟩)) (.agg (arr .u8 H)) rfl HL.out ?_)
      | (refine ⟨trivial, ?_⟩; gi_at_call 32; refine (CallsIn.inRound l (callsIn_wide.2 HS.out)).mono ?_; rintro e w4 ⟨rfl, hF⟩
         obtain ⟨Y, hY, hYR, hYF⟩ := (HR.out.fr hF id).stored (l' := D) arHash HHL.out.len HD.out.len
         have HY := Lib.hid hY
         have HYR := Lib.hid hYR
         have HYF := Lib.hid hYF
         have HF := Lib.hid hF
         clear hY hYR hYF hF)
      | (refine wpListIn_store_eq rfl 27 _ _ rfl (.pointer (some ⟨p, 0, none⟩)) (.agg (arr .u8 D)) rfl rfl HY.out ?_))
    refine ⟨(HF.out.keeps (fun _ _ h => h.elim)).trans (HYF.out.keeps (HR.out.fr HF.out id).isCells), fun v hv => HYF.out.cell (fun e => by have := HBP.out; omega) (HF.out.cell id hv), ⟨?_, ?_⟩, ?_⟩
    · rw [HDE.out]; exact HYR.out
    · exact (HZ.out.fr HF.out id).fr HYF.out (by omega)
    · exact (HFW.out.trans HF.out).trans' HYF.out (fun k hk e => by have := HP.out; omega)
  case done =>
    rintro D ys W hD rfl ⟨⟨hR, hZ⟩, hFW⟩ hK
    rw [HDE'.out] at hR
    have hD32 := HD32.out
    have HL := Lib.hid (hR.load arHash hD32)
    obtain ⟨Y, hY, hYR, hYF⟩ := hZ.stored (l' := D') arHash (by rfl) hD32
    have HYY := Lib.hid hY
    have hYK : Y.heap[D]? = some (.deferred (some [])) := (hYF.block D (Array.getElem?_eq_some_iff.1 hK).1 (fun e => by have h1 := HBP.out; have h2 := HS3.out; omega)).trans hK
    have hgb := grownBy_putObj' Y D (.deferred none)
    have hfar : ∀ r, some D = some r → w3.heap.size ≤ r ∧ ∃ o : Obj, Y.heap[r]? = some o ∧ o.isCells = false := fun r e => by cases e; exact ⟨hD, _, hYK, rfl⟩
    have HYR := Lib.hid ((hYR.grown hgb (fun r e => (hfar r e).2)).loadVar arHash hD32)
    have HYF : Hid (Fr No w (Y.putObj D (.deferred none))) := Lib.hid (fr_grown_far (hFW.trans' hYF (fun k hk e => by have := HP.out; omega)) hgb HWZ.out hfar)
    have HYK := Lib.hid (run_takeDeferred (P := Tryd.prog) hYK)
    clear hY hYR hYF hR hZ hFW hYK hK hgb hfar hst
    gi_wp2_with (first
      | (refine wpListIn_load_eq rfl 27 _ rfl (.pointer (some ⟨p, 0, none⟩)) (.agg (arr .u8 D')) rfl HL.out ?_)
      | (refine wpListIn_store_eq rfl 27 _ _ rfl (.pointer (some ⟨p + 1, 0, none⟩)) (.agg (arr .u8 D')) rfl rfl HYY.out ?_))
    refine ⟨by simp, .inl ⟨_, _, rfl, HYK.out, ?_⟩⟩
    exact ⟨_, results_cellT rfl rfl rfl HYR.out, rfl, HYF.out⟩
  case stop =>
    rintro D c pre W _ _ h _
    exact h.elim

theorem derive_any (h : List Nat) (x y : Int) (w : World) (hh : H32 h) (hg : Gl w) :
    Calls Tryd.prog 25 #[.agg (arr .u8 h), .int .i64 x, .int .i64 y] w fun ex w' => ex = .returned (.tuple #[.agg (arr .u8 (dSec h x y)), .int .i64 (dErr x y)]) ∧ Fr No w w' := by
  by_cases hc : can x y = true
  · have h1 : num x = true := by
      simp only [can, Bool.and_eq_true] at hc
      exact hc.1.1
    have h2 : num y = true := by
      simp only [can, Bool.and_eq_true] at hc
      exact hc.1.2
    obtain ⟨a, rfl, ha⟩ := num_nat h1
    obtain ⟨b, rfl, hb⟩ := num_nat h2
    rw [can_of ha hb] at hc
    rw [dSec_num h ha hb hc, dErr_num ha hb hc]
    exact derive_ok h a b w hh ha hb hc hg
  · have hc' : can x y = false := by simpa using hc
    rw [dSec_no h hc', dErr_no hc']
    exact derive_no h x y w hc'
end Go.Proofs.YtnpgcgemifoddaaDoor
