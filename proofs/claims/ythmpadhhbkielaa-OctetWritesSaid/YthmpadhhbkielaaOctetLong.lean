import Derived.Test.YthmpadhhbkielaaOct8
import Derived.Test.YthmpadhhbkielaaOctE
import Derived.Test.YthmpadhhbkielaaTake
import Derived.Deep.RegionHeld
namespace Go.Proofs.Ythmpadhhbkielaa
open Go.RowKit
set_option linter.unusedVariables false

set_option maxHeartbeats 400000 in
theorem long_big (s : ByteArray) (w : World) (hs : 300 < s.size) (hm : s.size ≤ maxLen) :
    Calls Try.prog 7 #[.string s] w fun e w' => e = .returned (.bool true) ∧ Fr No w w' := by
  unfold maxLen at hm
  have h1 : (300 : Int) < s.size := by omega
  go_enter Try.func7, Try.ntmps7
  go_wp2_with fail
  refine (shown1_any _).mono ?_
  rintro e w1 ⟨rfl, hF⟩
  have HF := Lib.hid hF
  clear hF
  go_wp2
  go_ret
  exact ⟨rfl, HF.out⟩

theorem conv_one (X : World) (c : UInt8) (m : Int) (hm : m = (c.toNat : Int)) (g : Nat) (hg : g = X.heap.size) :
    (convert 25 9 (.slice (some ⟨g, 0, none⟩) 1 1)).run Try.prog (X.alloc (.cells #[.int .u8 m] 5)) = .ok (.string (str [c])) (X.alloc (.cells #[.int .u8 m] 5)) := by
  subst hm
  subst hg
  refine conv_cells (l := [c]) 1 fun j u hu => ?_
  rw [Addr.add_lit, World.cell?_alloc_at _ _ _ _ rfl]
  simpa using hu

theorem conv_one_drew (X : World) (c : UInt8) (m : Int) (hm : m = (c.toNat : Int)) (g : Nat) (hg : g = X.heap.size) :
    (convert 25 9 (.slice (some ⟨g, 0, none⟩) 1 1)).run Try.prog (X.alloc (.cells #[.int .u8 m] 5)).drew = .ok (.string (str [c])) (X.alloc (.cells #[.int .u8 m] 5)).drew :=
  conv_one X.drew c m hm g hg

theorem wr_alloc {B p : Nat} {v : Value} {bs : List UInt8} {w : World} (h : Wr B p v bs w) (o : Obj) : Wr B p v bs (w.alloc o) := h.fr (S := No) ((Fr.refl No w).alloc o) id (fun _ _ => id)
theorem wr_drew {B p : Nat} {v : Value} {bs : List UInt8} {w : World} (h : Wr B p v bs w) : Wr B p v bs w.drew := h

set_option maxHeartbeats 2000000 in
set_option maxRecDepth 100000 in
theorem long_ok (l : List UInt8) (w : World) (hs : l.length ≤ 64) :
    Calls Try.prog 7 #[.string (str l)] w fun e w' => e = .returned (.bool true) ∧ Fr No w w' := by
  have hsz := str_size l
  have h1 : ¬ (300 : Int) < l.length := by omega
  have h2 : ¬ (64 : Int) < l.length := by omega
  have h3 : (l.length : Int) % 256 = l.length := by omega
  have h4 : (l.length : Int) ≤ 64 := by omega
  have hcn : ((UInt8.ofNat l.length).toNat : Int) = l.length := by simp; omega
  have hcv := fun X => conv_one X (UInt8.ofNat l.length) (l.length : Int) hcn.symm
  have hcvd := fun X => conv_one_drew X (UInt8.ofNat l.length) (l.length : Int) hcn.symm
  have hcat : str [UInt8.ofNat l.length] ++ str l = str (UInt8.ofNat l.length :: l) := str_append _ _
  have hs1 : (str [UInt8.ofNat l.length]).size ≤ 1 := Nat.le_refl _
  have heq : ((str (UInt8.ofNat l.length :: l)).toList == (str (UInt8.ofNat l.length :: l)).toList) = true := by simp
  have heq2 : ((str l).toList == (str l).toList) = true := by simp
  have hwr : IntKind.u8.wrap (l.length : Int) = (l.length : Int) := by rw [IntKind.wrap_u8']; omega
  have HCN := Lib.hid hcn
  have HS := Lib.hid hs
  clear hcn hs
  go_enter Try.func7, Try.ntmps7
  go_wp2_with fail
  refine (shown1_any _).mono ?_
  rintro e w1 ⟨rfl, hF⟩
  have HF := Lib.hid hF
  clear hF
  go_wp2_with fail
  refine (wtext_ok w1.heap.size w1.heap.size _ [] (str l) _ (Wr.new _ w1) (by simp) (by simp) (by rw [str_size]; exact HS.out)).mono ?_
  rintro e w2 ⟨rfl, v2, hq, hF⟩
  rw [List.nil_append, str_size] at hq
  have hG := HF.out.trans (((Fr.refl No w1).alloc (.cells #[.slice none 0 0] 27)).trans' hF (WS_new (Wr.new w1.heap.size w1) (Nat.le_refl _) (Nat.le_refl _)))
  have k1 := hq.lt
  have k2 := hG.size
  have K3 := Lib.hid (fun k hk => (hq.2.lt k hk).2)
  have HQ := Lib.hid (wr_alloc (wr_alloc hq (.cells #[.int .u8 (l.length : Int)] 5)) (.cells #[.string (str (UInt8.ofNat l.length :: l))] 64))
  have HF2 := Lib.hid ((hG.alloc (.cells #[.int .u8 (l.length : Int)] 5)).alloc (.cells #[.string (str (UInt8.ofNat l.length :: l))] 64))
  clear hq hF hG
  go_wp2_with fail
  refine (new_any _ _).mono ?_
  rintro e w3 ⟨rfl, rfl⟩
  go_wp2_with fail
  have hrt := rtext_ok (w2.heap.size + 1) (UInt8.ofNat l.length) l [] ((w2.alloc (.cells #[.int .u8 (l.length : Int)] 5)).alloc (.cells #[.string (str (UInt8.ofNat l.length :: l))] 64))
    (by rw [List.append_nil]; simp [go_sem]) (by simp [go_sem]) (by have := HS.out; simp [maxLen]; omega) (by have := HCN.out; have := HS.out; omega) (by have := HCN.out; omega)
  refine hrt.mono ?_
  rintro e w3 ⟨rfl, hr⟩
  have HW := Lib.hid (HQ.out.fr hr.2.2 (show ¬ w1.heap.size = w2.heap.size + 1 by omega) (fun k hk e => by have e2 : k = w2.heap.size + 1 := e; have := K3.out k hk; omega))
  have HF3 := Lib.hid (HF2.out.trans' hr.2.2 (fun i hi (e : i = w2.heap.size + 1) => by omega))
  clear hr hrt k1 k2
  rw [show (UInt8.ofNat l.length :: (str l).data.toList) = UInt8.ofNat l.length :: l from rfl] at HW
  go_wp2_with fail
  have HB := Lib.hid (fun X (hX : Fr No w3 X) => bytes_any w1.heap.size w1.heap.size v2 (UInt8.ofNat l.length :: l) X (HW.out.fr hX id (fun _ _ => id)))
  clear h1 h2 h3 h4 HQ HF HF2 K3
  have hns : ¬ 9223372036854775807 < (str [UInt8.ofNat l.length]).size + l.length := by have := HS.out; omega
  refine wp_region_held_drew (S := (fun X => Fr No w3 X)) (by kernel_rfl) ((Fr.refl No w3).drew) (fun hHeld => ?_)
  refine takeD (i := 0) (d := some 73) (v := ?_) rfl (by kernel_rfl) (by kernel_rfl) (by kernel_rfl) (by kernel_rfl) (fun _ _ _ h => h) (Or.inl ⟨by kernel_rfl, fun X hX => Or.inl ?_⟩) (by assumption) ?_
  rotate_left
  · first | (go_simp; done) | (go_simp; with_reducible rfl)
  try simp only [Act.put, List.setIfInBounds_toArray, List.set_cons_zero, List.set_cons_succ]
  refine takeD (i := 1) (d := some 74) (v := ?_) rfl (by kernel_rfl) (by kernel_rfl) (by kernel_rfl) (by kernel_rfl) (fun _ _ _ h => h) (Or.inl ⟨by kernel_rfl, fun X hX => Or.inl ?_⟩) (by assumption) ?_
  rotate_left
  · first | (go_simp; done) | (go_simp; with_reducible rfl)
  try simp only [Act.put, List.setIfInBounds_toArray, List.set_cons_zero, List.set_cons_succ]
  refine takeD (i := 2) (d := some 75) (v := ?_) rfl (by kernel_rfl) (by kernel_rfl) (by kernel_rfl) (by kernel_rfl) (fun _ _ _ h => h) (Or.inl ⟨by kernel_rfl, fun X hX => Or.inl ?_⟩) (by assumption) ?_
  rotate_left
  · first | (go_simp; done) | (go_simp; with_reducible rfl)
  try simp only [Act.put, List.setIfInBounds_toArray, List.set_cons_zero, List.set_cons_succ]
  refine takeD (i := 3) (d := some 76) (v := ?_) rfl (by kernel_rfl) (by kernel_rfl) (by kernel_rfl) (by kernel_rfl) (fun _ _ _ h => h) (Or.inl ⟨by kernel_rfl, fun X hX => Or.inl ?_⟩) (by assumption) ?_
  rotate_left
  · first | (go_simp; done) | (go_simp; with_reducible rfl)
  try simp only [Act.put, List.setIfInBounds_toArray, List.set_cons_zero, List.set_cons_succ]
  refine takeD (i := 4) (d := some 77) (v := .string (str (UInt8.ofNat l.length :: l))) rfl (by kernel_rfl) (by kernel_rfl) (by kernel_rfl) (by kernel_rfl) (fun _ _ _ h => h) (Or.inl ⟨by kernel_rfl, fun X hX => Or.inr ⟨16, #[.pointer (some ⟨w1.heap.size, 0, none⟩)], ?_, HB.out X hX⟩⟩) (by assumption) ?_
  · go_simp
  try simp only [Act.put, List.setIfInBounds_toArray, List.set_cons_zero, List.set_cons_succ]
  refine takeD (i := 5) (d := some 78) (v := ?_) rfl (by kernel_rfl) (by kernel_rfl) (by kernel_rfl) (by kernel_rfl) (fun _ _ _ h => h) (Or.inl ⟨by kernel_rfl, fun X hX => Or.inl ?_⟩) (by assumption) ?_
  rotate_left
  · first | (go_simp; done) | (go_simp; with_reducible rfl)
  try simp only [Act.put, List.setIfInBounds_toArray, List.set_cons_zero, List.set_cons_succ]
  refine takeD (i := 6) (d := some 79) (v := ?_) rfl (by kernel_rfl) (by kernel_rfl) (by kernel_rfl) (by kernel_rfl) (fun _ _ _ h => h) (Or.inl ⟨by kernel_rfl, fun X hX => Or.inl ?_⟩) (by assumption) ?_
  rotate_left
  · first | (go_simp; done) | (go_simp; with_reducible rfl)
  try simp only [Act.put, List.setIfInBounds_toArray, List.set_cons_zero, List.set_cons_succ]
  refine takeD (i := 7) (d := some 80) (v := ?_) rfl (by kernel_rfl) (by kernel_rfl) (by kernel_rfl) (by kernel_rfl) (fun _ _ _ h => h) (Or.inl ⟨by kernel_rfl, fun X hX => Or.inl ?_⟩) (by assumption) ?_
  rotate_left
  · first | (go_simp; done) | (go_simp; with_reducible rfl)
  try simp only [Act.put, List.setIfInBounds_toArray, List.set_cons_zero, List.set_cons_succ]
  refine takeD (i := 10) (d := some 83) (v := ?_) rfl (by kernel_rfl) (by kernel_rfl) (by kernel_rfl) (by kernel_rfl) (fun _ _ _ h => h) (Or.inl ⟨by kernel_rfl, fun X hX => Or.inl ?_⟩) (by assumption) ?_
  rotate_left
  · first | (go_simp; done) | (go_simp; with_reducible rfl)
  try simp only [Act.put, List.setIfInBounds_toArray, List.set_cons_zero, List.set_cons_succ]
  refine wpAnyH_ready (rs := [8]) (by kernel_rfl) (by simp) ?_
  refine AllReadyH.cons rfl (fun K hK => ?_) AllReadyH.nil
  go_simp
  refine hK.out _ _ (by first | assumption | (repeat (first | exact Fr.refl _ _ | assumption | apply Fr.alloc | apply Fr.drew))) (fun hHeld => ?_)
  clear hK K
  try simp only [Act.put, List.setIfInBounds_toArray, List.set_cons_zero, List.set_cons_succ]
  refine wpAnyH_ready (rs := [9]) (by kernel_rfl) (by simp) ?_
  refine AllReadyH.cons rfl (fun K hK => ?_) AllReadyH.nil
  go_simp
  refine hK.out _ _ (by first | assumption | (repeat (first | exact Fr.refl _ _ | assumption | apply Fr.alloc | apply Fr.drew))) (fun hHeld => ?_)
  clear hK K
  try simp only [Act.put, List.setIfInBounds_toArray, List.set_cons_zero, List.set_cons_succ]
  refine takeD (i := 11) (d := some 84) (v := ?_) rfl (by kernel_rfl) (by kernel_rfl) (by kernel_rfl) (by kernel_rfl) (fun _ _ _ h => h) (Or.inl ⟨by kernel_rfl, fun X hX => Or.inl ?_⟩) (by assumption) ?_
  rotate_left
  · first | (go_simp; done) | (go_simp; with_reducible rfl)
  try simp only [Act.put, List.setIfInBounds_toArray, List.set_cons_zero, List.set_cons_succ]
  refine takeD (i := 12) (d := some 85) (v := ?_) rfl (by kernel_rfl) (by kernel_rfl) (by kernel_rfl) (by kernel_rfl) (fun _ _ _ h => h) (Or.inl ⟨by kernel_rfl, fun X hX => Or.inl ?_⟩) (by assumption) ?_
  rotate_left
  · first | (go_simp; done) | (go_simp; with_reducible rfl)
  try simp only [Act.put, List.setIfInBounds_toArray, List.set_cons_zero, List.set_cons_succ]
  refine takeD (i := 13) (d := some 86) (v := ?_) rfl (by kernel_rfl) (by kernel_rfl) (by kernel_rfl) (by kernel_rfl) (fun _ _ _ h => h) (Or.inl ⟨by kernel_rfl, fun X hX => Or.inl ?_⟩) (by assumption) ?_
  rotate_left
  · first | (go_simp; done) | (go_simp; with_reducible rfl)
  try simp only [Act.put, List.setIfInBounds_toArray, List.set_cons_zero, List.set_cons_succ]
  refine takeD (i := 14) (d := some 87) (v := ?_) rfl (by kernel_rfl) (by kernel_rfl) (by kernel_rfl) (by kernel_rfl) (fun _ _ _ h => h) (Or.inl ⟨by kernel_rfl, fun X hX => Or.inl ?_⟩) (by assumption) ?_
  rotate_left
  · first | (go_simp; done) | (go_simp; with_reducible rfl)
  try simp only [Act.put, List.setIfInBounds_toArray, List.set_cons_zero, List.set_cons_succ]
  refine takeD (i := 15) (d := some 88) (v := ?_) rfl (by kernel_rfl) (by kernel_rfl) (by kernel_rfl) (by kernel_rfl) (fun _ _ _ h => h) (Or.inl ⟨by kernel_rfl, fun X hX => Or.inl ?_⟩) (by assumption) ?_
  rotate_left
  · first | (go_simp; done) | (go_simp; with_reducible rfl)
  try simp only [Act.put, List.setIfInBounds_toArray, List.set_cons_zero, List.set_cons_succ]
  refine takeD (i := 16) (d := some 89) (v := ?_) rfl (by kernel_rfl) (by kernel_rfl) (by kernel_rfl) (by kernel_rfl) (fun _ _ _ h => h) (Or.inl ⟨by kernel_rfl, fun X hX => Or.inl ?_⟩) (by assumption) ?_
  rotate_left
  · first | (go_simp; done) | (go_simp; with_reducible rfl)
  try simp only [Act.put, List.setIfInBounds_toArray, List.set_cons_zero, List.set_cons_succ]
  refine takeD (i := 17) (d := some 90) (v := ?_) rfl (by kernel_rfl) (by kernel_rfl) (by kernel_rfl) (by kernel_rfl) (fun _ _ _ h => h) (Or.inl ⟨by kernel_rfl, fun X hX => Or.inl ?_⟩) (by assumption) ?_
  rotate_left
  · first | (go_simp; done) | (go_simp; with_reducible rfl)
  try simp only [Act.put, List.setIfInBounds_toArray, List.set_cons_zero, List.set_cons_succ]
  refine takeD (i := 18) (d := some 91) (v := ?_) rfl (by kernel_rfl) (by kernel_rfl) (by kernel_rfl) (by kernel_rfl) (fun _ _ _ h => h) (Or.inl ⟨by kernel_rfl, fun X hX => Or.inl ?_⟩) (by assumption) ?_
  rotate_left
  · first | (go_simp; done) | (go_simp; with_reducible rfl)
  try simp only [Act.put, List.setIfInBounds_toArray, List.set_cons_zero, List.set_cons_succ]
  refine takeD (i := 19) (d := some 92) (v := ?_) rfl (by kernel_rfl) (by kernel_rfl) (by kernel_rfl) (by kernel_rfl) (fun _ _ _ h => h) (Or.inl ⟨by kernel_rfl, fun X hX => Or.inl ?_⟩) (by assumption) ?_
  rotate_left
  · first | (go_simp; done) | (go_simp; with_reducible rfl)
  try simp only [Act.put, List.setIfInBounds_toArray, List.set_cons_zero, List.set_cons_succ]
  refine takeD (i := 20) (d := some 93) (v := ?_) rfl (by kernel_rfl) (by kernel_rfl) (by kernel_rfl) (by kernel_rfl) (fun _ _ _ h => h) (Or.inl ⟨by kernel_rfl, fun X hX => Or.inl ?_⟩) (by assumption) ?_
  rotate_left
  · first | (go_simp; done) | (go_simp; with_reducible rfl)
  try simp only [Act.put, List.setIfInBounds_toArray, List.set_cons_zero, List.set_cons_succ]
  refine takeD (i := 21) (d := some 94) (v := ?_) rfl (by kernel_rfl) (by kernel_rfl) (by kernel_rfl) (by kernel_rfl) (fun _ _ _ h => h) (Or.inl ⟨by kernel_rfl, fun X hX => Or.inl ?_⟩) (by assumption) ?_
  rotate_left
  · first | (go_simp; done) | (go_simp; with_reducible rfl)
  try simp only [Act.put, List.setIfInBounds_toArray, List.set_cons_zero, List.set_cons_succ]
  refine takeD (i := 22) (d := some 95) (v := ?_) rfl (by kernel_rfl) (by kernel_rfl) (by kernel_rfl) (by kernel_rfl) (fun _ _ _ h => h) (Or.inl ⟨by kernel_rfl, fun X hX => Or.inl ?_⟩) (by assumption) ?_
  rotate_left
  · first | (go_simp; done) | (go_simp; with_reducible rfl)
  try simp only [Act.put, List.setIfInBounds_toArray, List.set_cons_zero, List.set_cons_succ]
  refine takeD (i := 23) (d := some 2) (v := ?_) rfl (by kernel_rfl) (by kernel_rfl) (by kernel_rfl) (by kernel_rfl) (fun _ _ _ h => h) (Or.inl ⟨by kernel_rfl, fun X hX => Or.inl ?_⟩) (by assumption) ?_
  rotate_left
  · first | (go_simp; done) | (go_simp; with_reducible rfl)
  try simp only [Act.put, List.setIfInBounds_toArray, List.set_cons_zero, List.set_cons_succ]
  refine wpAnyH_done (by kernel_rfl) ?_ _
  go_wp2
  go_ret
  exact ⟨rfl, HF3.out.trans hHeld⟩

set_option maxHeartbeats 1000000 in
set_option maxRecDepth 100000 in
theorem long_wide (l : List UInt8) (w : World) (hs : 64 < l.length) (hs2 : l.length < 256) :
    Calls Try.prog 7 #[.string (str l)] w fun e w' => e = .returned (.bool true) ∧ Fr No w w' := by
  have hsz := str_size l
  have h1 : ¬ (300 : Int) < l.length := by omega
  have h2 : (64 : Int) < l.length := by omega
  have h3 : (l.length : Int) % 256 = l.length := by omega
  have hcn : ((UInt8.ofNat l.length).toNat : Int) = l.length := by simp; omega
  have hcv := fun X => conv_one X (UInt8.ofNat l.length) (l.length : Int) hcn.symm
  have hcat : str [UInt8.ofNat l.length] ++ str l = str (UInt8.ofNat l.length :: l) := str_append _ _
  have hs1 : (str [UInt8.ofNat l.length]).size ≤ 1 := Nat.le_refl _
  have hnil : ((str []).toList == []) = true := by decide +kernel
  have hsz2 : (str (UInt8.ofNat l.length :: l)).size = l.length + 1 := str_size _
  have heq : ((l.length : Int) + 1 == 1 + (l.length : Int)) = true := by rw [beq_iff_eq]; omega
  have HCN := Lib.hid hcn
  have HS := Lib.hid (And.intro hs hs2)
  clear hcn hs hs2
  go_enter Try.func7, Try.ntmps7
  go_wp2_with fail
  refine (shown1_any _).mono ?_
  rintro e w1 ⟨rfl, hF⟩
  have HF := Lib.hid hF
  clear hF
  go_wp2_with fail
  refine (wtext_long w1.heap.size (str l) _ (by rw [str_size]; exact HS.out.1)).mono ?_
  rintro e w2 ⟨rfl, rfl⟩
  go_wp2_with fail
  refine (new_any _ _).mono ?_
  rintro e w3 ⟨rfl, rfl⟩
  go_wp2_with fail
  have hrt := rtext_wide (w1.heap.size + 1 + 1) (UInt8.ofNat l.length) l (((w1.alloc (.cells #[.slice none 0 0] 27)).alloc (.cells #[.int .u8 (l.length : Int)] 5)).alloc (.cells #[.string (str (UInt8.ofNat l.length :: l))] 64))
    (by simp [go_sem]) (by simp [go_sem]) (by have := HS.out; simp [maxLen]; omega) (by have := HCN.out; have := HS.out; omega)
  refine hrt.mono ?_
  rintro e w3 ⟨rfl, hr⟩
  have HW := Lib.hid ((wr_alloc (wr_alloc (Wr.new w1.heap.size w1) (.cells #[.int .u8 (l.length : Int)] 5)) (.cells #[.string (str (UInt8.ofNat l.length :: l))] 64)).fr hr.2.2 (show ¬ w1.heap.size = w1.heap.size + 1 + 1 by omega) (fun k hk => by simp [Value.ownBlock] at hk))
  have HF3 := Lib.hid ((((HF.out.alloc (.cells #[.slice none 0 0] 27)).alloc (.cells #[.int .u8 (l.length : Int)] 5)).alloc (.cells #[.string (str (UInt8.ofNat l.length :: l))] 64)).trans' hr.2.2 (fun i hi (e : i = w1.heap.size + 1 + 1) => by have := HF.out.size; omega))
  have hcl := hr.1
  clear hr hrt hcat
  go_wp2_with fail
  refine (bytes_any _ _ _ _ _ HW.out).mono ?_
  rintro e w4 ⟨rfl, rfl⟩
  go_wp2_with fail
  refine (left_any _ _ _ hcl).mono ?_
  rintro e w4 ⟨rfl, rfl⟩
  go_wp2_with fail
  go_ret
  exact ⟨rfl, HF3.out⟩
set_option maxHeartbeats 1000000 in
set_option maxRecDepth 100000 in
theorem long_wrap (l : List UInt8) (w : World) (hs : 256 ≤ l.length) (hs2 : l.length ≤ 300) :
    Calls Try.prog 7 #[.string (str l)] w fun e w' => e = .returned (.bool true) ∧ Fr No w w' := by
  have hsz := str_size l
  have h1 : ¬ (300 : Int) < l.length := by omega
  have h2 : (64 : Int) < l.length := by omega
  obtain ⟨n, hn⟩ : ∃ n, n = l.length - 256 := ⟨_, rfl⟩
  have h3 : (l.length : Int) % 256 = (n : Int) := by omega
  have hn64 : (n : Int) ≤ 64 := by omega
  have hn65 : ¬ (64 : Int) < (n : Int) := by omega
  have hcn : ((UInt8.ofNat n).toNat : Int) = (n : Int) := by simp; omega
  have hcv := fun X => conv_one X (UInt8.ofNat n) (n : Int) hcn.symm
  obtain ⟨l1, l2, hl, hl1⟩ : ∃ l1 l2, l = l1 ++ l2 ∧ l1.length = n := ⟨l.take n, l.drop n, (List.take_append_drop n l).symm, by simp; omega⟩
  have hcat : str [UInt8.ofNat n] ++ str l = str (UInt8.ofNat n :: (l1 ++ l2)) := by rw [hl]; exact str_append _ _
  have hs1 : (str [UInt8.ofNat n]).size ≤ 1 := Nat.le_refl _
  have HL1 := Lib.hid hl1
  have hlen : (l1 ++ l2).length ≤ 300 := by rw [← hl]; exact hs2
  have HN := Lib.hid hn
  clear hn hl1 hl
  have hnil : ((str []).toList == []) = true := by decide +kernel
  have HCN := Lib.hid hcn
  have HS := Lib.hid (And.intro hs hs2)
  clear hcn hs hs2
  go_enter Try.func7, Try.ntmps7
  go_wp2_with fail
  refine (shown1_any _).mono ?_
  rintro e w1 ⟨rfl, hF⟩
  have HF := Lib.hid hF
  clear hF
  go_wp2_with fail
  refine (wtext_long w1.heap.size (str l) _ (by rw [str_size]; have := HS.out; omega)).mono ?_
  rintro e w2 ⟨rfl, rfl⟩
  go_wp2_with fail
  refine (new_any _ _).mono ?_
  rintro e w3 ⟨rfl, rfl⟩
  go_wp2_with fail
  have hrt := rtext_ok (w1.heap.size + 1 + 1) (UInt8.ofNat n) l1 l2 (((w1.alloc (.cells #[.slice none 0 0] 27)).alloc (.cells #[.int .u8 (n : Int)] 5)).alloc (.cells #[.string (str (UInt8.ofNat n :: (l1 ++ l2)))] 64))
    (by simp [go_sem]) (by simp [go_sem]) (by simp [maxLen]; simp at hlen; omega) (by have := HCN.out; omega) (by have := HCN.out; have := HL1.out; omega)
  refine hrt.mono ?_
  rintro e w3 ⟨rfl, hr⟩
  have HW := Lib.hid ((wr_alloc (wr_alloc (Wr.new w1.heap.size w1) (.cells #[.int .u8 (n : Int)] 5)) (.cells #[.string (str (UInt8.ofNat n :: (l1 ++ l2)))] 64)).fr hr.2.2 (show ¬ w1.heap.size = w1.heap.size + 1 + 1 by omega) (fun k hk => by simp [Value.ownBlock] at hk))
  have HF3 := Lib.hid ((((HF.out.alloc (.cells #[.slice none 0 0] 27)).alloc (.cells #[.int .u8 (n : Int)] 5)).alloc (.cells #[.string (str (UInt8.ofNat n :: (l1 ++ l2)))] 64)).trans' hr.2.2 (fun i hi (e : i = w1.heap.size + 1 + 1) => by have := HF.out.size; omega))
  clear hr hrt hcat
  go_wp2_with fail
  refine (bytes_any _ _ _ _ _ HW.out).mono ?_
  rintro e w4 ⟨rfl, rfl⟩
  go_wp2_with fail
  go_ret
  exact ⟨rfl, HF3.out⟩

theorem long_walk (s : ByteArray) (w : World) (hm : s.size ≤ maxLen) :
    Calls Try.prog 7 #[.string s] w fun e w' => e = .returned (.bool true) ∧ Fr No w w' := by
  have e : str s.data.toList = s := str_data s
  have el : s.data.toList.length = s.size := by simp
  by_cases h1 : 300 < s.size
  · exact long_big s w h1 hm
  · rw [← e]
    by_cases h2 : s.size ≤ 64
    · exact long_ok _ w (by omega)
    · by_cases h3 : s.size < 256
      · exact long_wide _ w (by omega) (by omega)
      · exact long_wrap _ w (by omega) (by omega)
end Go.Proofs.Ythmpadhhbkielaa
