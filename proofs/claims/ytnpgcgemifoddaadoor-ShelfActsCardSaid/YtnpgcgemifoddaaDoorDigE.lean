/- The bytes of words, and the blocks of a text, as the program has them. -/
import Derived.Test.YtnpgcgemifoddaaDoorDigD
namespace Go.Proofs.YtnpgcgemifoddaaDoor
open Go.RowKit
set_option linter.unusedVariables false

theorem Row.new2 (w : World) (o : Obj) (t : TypeId) (k : IntKind) (l : List Nat) : Row ((w.alloc o).alloc (.cells (arr k l) t)) (w.heap.size + 1) t k l := alloc2_new w _ _
theorem Row.new3 (w : World) (o p : Obj) (t : TypeId) (k : IntKind) (l : List Nat) : Row (((w.alloc o).alloc p).alloc (.cells (arr k l) t)) (w.heap.size + 2) t k l := alloc3_new w _ _ _

set_option maxHeartbeats 1000000 in
set_option maxRecDepth 100000 in
theorem hashof_any (h : List Nat) (w : World) (hh : h.length = 8) (hw : Ws h) :
    Calls Tryd.prog 39 #[.agg (arr .u32 h)] w fun ex w' => ex = .returned (.agg (arr .u8 (hashL h 32))) ∧ Fr No w w' := by
  have HH := Lib.hid hh
  clear hh
  go_enter Tryd.func39, Tryd.ntmps39
  go_wp2
  refine wp_world (fun W => Fr No w W ∧ Row W w.heap.size 85 .u32 h ∧ Row W (w.heap.size + 1) 27 .u8 (List.replicate 32 0) ∧ Row W (w.heap.size + 2) 27 .u8 (hashL h 0)) ⟨(((Fr.refl No w).alloc _).alloc _).alloc _, ((Row.new w 85 .u32 h).alloc _).alloc _, Row.alloc (Row.new2 w _ 27 .u8 (List.replicate 32 0)) _, Row.new3 w _ _ 27 .u8 (List.replicate 32 0)⟩ ?_
  rintro W1 ⟨hF, h1, h2, h3⟩
  obtain ⟨p, hp⟩ : ∃ p, p = w.heap.size := ⟨_, rfl⟩
  rw [← hp] at h1 h2 h3 ⊢
  have HP := Lib.hid hp
  clear hp
  go_loopw [6] (fun c wr => ∃ i : Nat, i ≤ 32 ∧ c = .int .i64 i ∧ Fr No w wr ∧ Row wr p 85 .u32 h ∧ Row wr (p + 1) 27 .u8 (List.replicate 32 0) ∧ Row wr (p + 2) 27 .u8 (hashL h i)) (fun c _ => 32 - (intOf c).toNat)
  case atStart => exact ⟨0, by omega, rfl, hF, h1, h2, h3⟩
  clear hF h1 h2 h3
  case round =>
    obtain ⟨i, hi, rfl, hF, k1, k2, k3⟩ := hrel
    by_cases hlt : i < 32
    · have h1 : (i : Int) < 32 := by omega
      obtain ⟨j, hj⟩ : ∃ j, j = i / 4 := ⟨_, rfl⟩
      obtain ⟨m, hm⟩ : ∃ m, m = 3 - i % 4 := ⟨_, rfl⟩
      obtain ⟨s, hs⟩ : ∃ s, s = 8 * (3 - i % 4) := ⟨_, rfl⟩
      have hw4 : IntKind.i64.wrap ((i : Int) / 4) = (j : Int) := by rw [IntKind.wrap_i64]; omega
      have hj8 : (j : Int) < 8 := by omega
      have hm4 : (3 : Int) - (i : Int) % 4 = (m : Int) := by omega
      have hs8 : (8 : Int) * (m : Int) = (s : Int) := by omega
      have hs32 : (s : Int) < 32 := by omega
      obtain ⟨x, hx⟩ : ∃ x, x = h.getD j 0 := ⟨_, rfl⟩
      obtain ⟨y, hy⟩ : ∃ y, y = hbyte h i := ⟨_, rfl⟩
      have c1 := k1.cellD (i := j) (by have := HH.out; omega)
      rw [← hx] at c1
      have c3 := k3.cellD (i := i) (by rw [hashL_len]; omega)
      have f3 := k3.frozen i
      have hyv : (x : Int) / 2 ^ s % 256 = (y : Int) := by rw [hy, hx, hs, hj]; simp [hbyte]
      have HN : Hid (hashL h (i + 1) = (hashL h i).set i y) := Lib.hid (by rw [hy]; rfl)
      have HF := Lib.hid hF
      have K1 := Lib.hid k1
      have K2 := Lib.hid k2
      have K3 := Lib.hid k3
      clear hx hy hs hm hj hF k1 k2 k3
      go_wp2
      refine ⟨⟨i + 1, by omega, by simp, HF.out.setCell (.inr (by have := HP.out; show _ ≤ p + 2; omega)) _, K1.out.set_other (by omega) _, K2.out.set_other (by omega) _, ?_⟩, by simp [intOf]; omega⟩
      rw [HN.out]; exact K3.out.set i y
    · obtain rfl : i = 32 := by omega
      have hlen := hashL_len h 32
      have HF := Lib.hid hF
      have HL := Lib.hid (k3.load arHash hlen)
      obtain ⟨Y, hY, hYR, hYF⟩ := k2.stored (l' := hashL h 32) arHash (by rfl) hlen
      have HY := Lib.hid hY
      have HYR := Lib.hid (hYR.loadVar arHash hlen)
      have HYF := Lib.hid hYF
      clear hF k1 k2 k3 hY hYR hYF hlen
      go_wp2_with (first | (refine wpList_load_eq rfl 27 _ rfl (.pointer (some ⟨p + 2, 0, none⟩)) (.agg (arr .u8 (hashL h 32))) rfl HL.out ?_) | (refine wpList_store_eq rfl 27 _ _ rfl (.pointer (some ⟨p + 1, 0, none⟩)) (.agg (arr .u8 (hashL h 32))) rfl rfl HY.out ?_))
      refine bodyPost_ret (results_cell1 rfl rfl HYR.out) rfl ?_
      have hpp := HP.out
      exact ⟨rfl, HF.out.trans' HYF.out (fun k hk e => by omega)⟩

theorem str_extract (l : List UInt8) (a b : Nat) : (str l).extract a b = str ((l.drop a).take (b - a)) := by
  apply ByteArray.ext
  apply Array.ext'
  simp [str, List.take_drop]

theorem block_len (bs : List UInt8) (i : Nat) (h : i < bs.length / 64) : ((bs.drop (64 * i)).take 64).length = 64 := by
  rw [List.length_take, List.length_drop]; omega

set_option maxHeartbeats 1000000 in
set_option maxRecDepth 100000 in
theorem folded_any (h : List Nat) (bs : List UInt8) (w : World) (hh : h.length = 8) (hw : Ws h) (hg : Gl w) (hb : bs.length ≤ 100000) :
    Calls Tryd.prog 40 #[.agg (arr .u32 h), .string (str bs)] w fun ex w' => ex = .returned (.agg (arr .u32 (foldL h bs (bs.length / 64)))) ∧ Fr No w w' := by
  have hsz := str_size bs
  obtain ⟨n, hn⟩ : ∃ n, n = bs.length / 64 := ⟨_, rfl⟩
  have hdiv : IntKind.i64.wrap ((bs.length : Int) / 64) = (n : Int) := by rw [IntKind.wrap_i64]; omega
  have hlb : (bs.length : Int) ≤ 100000 := by omega
  rw [← hn]
  have HNN := Lib.hid hn
  have HH := Lib.hid hh
  have HG := Lib.hid hg
  have HB := Lib.hid hb
  clear hh hg hn hb
  go_enter Tryd.func40, Tryd.ntmps40
  go_wp2
  refine wp_world (fun W => Fr No w W ∧ Row W w.heap.size 85 .u32 (foldL h bs 0) ∧ Row W (w.heap.size + 1) 85 .u32 (List.replicate 8 0)) ⟨((Fr.refl No w).alloc _).alloc _, (Row.new w 85 .u32 h).alloc _, Row.new2 w _ 85 .u32 (List.replicate 8 0)⟩ ?_
  rintro W1 ⟨hF, h1, h2⟩
  obtain ⟨p, hp⟩ : ∃ p, p = w.heap.size := ⟨_, rfl⟩
  rw [← hp] at h1 h2 ⊢
  have HP := Lib.hid hp
  clear hp
  go_loopw [9] (fun c wr => ∃ i : Nat, i ≤ n ∧ c = .int .i64 i ∧ Fr No w wr ∧ Row wr p 85 .u32 (foldL h bs i) ∧ Row wr (p + 1) 85 .u32 (List.replicate 8 0)) (fun c _ => n - (intOf c).toNat)
  case atStart => exact ⟨0, by omega, rfl, hF, h1, h2⟩
  clear hF h1 h2
  case round =>
    obtain ⟨i, hi, rfl, hF, k1, k2⟩ := hrel
    by_cases hlt : i < n
    · have h1 : (i : Int) < n := by omega
      have h1b : (i : Int) < 2000 := by have := HNN.out; have := HB.out; omega
      obtain ⟨lo, hlo⟩ : ∃ lo, lo = 64 * i := ⟨_, rfl⟩
      obtain ⟨hi2, hhi⟩ : ∃ hi, hi = 64 * i + 64 := ⟨_, rfl⟩
      have hnn := HNN.out
      have hbb := HB.out
      obtain ⟨i1, hi1⟩ : ∃ i1, i1 = i + 1 := ⟨_, rfl⟩
      have e1 : IntKind.i64.wrap ((i : Int) * 64) = (lo : Int) := by rw [IntKind.wrap_i64]; omega
      have e2 : IntKind.i64.wrap ((i : Int) + 1) = (i1 : Int) := by rw [IntKind.wrap_i64]; omega
      have e3 : IntKind.i64.wrap ((i1 : Int) * 64) = (hi2 : Int) := by rw [IntKind.wrap_i64]; omega
      have HI1 := Lib.hid hi1
      have g1 : (lo : Int) ≤ (hi2 : Int) := by omega
      have g2 : (hi2 : Int) ≤ (bs.length : Int) := by omega
      obtain ⟨blk, hblk⟩ : ∃ blk, blk = (bs.drop (64 * i)).take 64 := ⟨_, rfl⟩
      have hex : (str bs).extract lo hi2 = str blk := by rw [str_extract, hblk, hlo, hhi]; congr 2; omega
      obtain ⟨V, hV⟩ : ∃ V, V = foldL h bs i := ⟨_, rfl⟩
      rw [← hV] at k1
      have HVL : Hid (V.length = 8) := Lib.hid (by rw [hV, foldL_len]; exact HH.out)
      have HVW : Hid (Ws V) := Lib.hid (by rw [hV]; exact foldL_ws _ hw i)
      have HBL : Hid (blk.length = 64) := Lib.hid (by rw [hblk]; exact block_len bs i (by omega))
      have HN : Hid (foldL h bs (i + 1) = comp V blk) := Lib.hid (by rw [hV, hblk]; rfl)
      have HGr : Hid (Gl wr) := Lib.hid (HG.out.fr hF (fun _ _ => id))
      have HF := Lib.hid hF
      have K1 := Lib.hid k1
      have K2 := Lib.hid k2
      clear hV hblk hlo hhi hi1 hF k1 k2 hnn hbb
      go_wp2_with fail
      refine wp_region_held_drew (S := (fun X => Fr (· = p) wr X)) (by kernel_rfl) ((Fr.refl _ wr).drew) (fun hHeld => ?_)
      refine takeD (i := 1) (d := some 14) (v := ?_) rfl (by kernel_rfl) (by kernel_rfl) (by kernel_rfl) (by kernel_rfl) (fun _ _ _ h => h) (Or.inl ⟨by kernel_rfl, fun X hX => Or.inl ?_⟩) (by assumption) ?_
      rotate_left
      · first | (go_simp; done) | (go_simp; with_reducible rfl)
      (try simp only [Act.put]); (try simp only [List.setIfInBounds_toArray]); (try simp only [List.set_cons_succ]); (try simp only [List.set_cons_zero])
      refine takeD (i := 2) (d := some 15) (v := ?_) rfl (by kernel_rfl) (by kernel_rfl) (by kernel_rfl) (by kernel_rfl) (fun _ _ _ h => h) (Or.inl ⟨by kernel_rfl, fun X hX => Or.inl ?_⟩) (by assumption) ?_
      rotate_left
      · first | (go_simp; done) | (go_simp; with_reducible rfl)
      (try simp only [Act.put]); (try simp only [List.setIfInBounds_toArray]); (try simp only [List.set_cons_succ]); (try simp only [List.set_cons_zero])
      refine takeD (i := 3) (d := some 16) (v := ?_) rfl (by kernel_rfl) (by kernel_rfl) (by kernel_rfl) (by kernel_rfl) (fun _ _ _ h => h) (Or.inl ⟨by kernel_rfl, fun X hX => Or.inl ?_⟩) (by assumption) ?_
      rotate_left
      · first | (go_simp; done) | (go_simp; with_reducible rfl)
      (try simp only [Act.put]); (try simp only [List.setIfInBounds_toArray]); (try simp only [List.set_cons_succ]); (try simp only [List.set_cons_zero])
      refine takeD (i := 4) (d := some 17) (v := ?_) rfl (by kernel_rfl) (by kernel_rfl) (by kernel_rfl) (by kernel_rfl) (fun _ _ _ h => h) (Or.inl ⟨by kernel_rfl, fun X hX => Or.inl ?_⟩) (by assumption) ?_
      rotate_left
      · first | (go_simp; done) | (go_simp; with_reducible rfl)
      (try simp only [Act.put]); (try simp only [List.setIfInBounds_toArray]); (try simp only [List.set_cons_succ]); (try simp only [List.set_cons_zero])
      refine takeD (i := 5) (d := some 18) (v := ?_) rfl (by kernel_rfl) (by kernel_rfl) (by kernel_rfl) (by kernel_rfl) (fun _ _ _ h => h) (Or.inl ⟨by kernel_rfl, fun X hX => Or.inl ?_⟩) (by assumption) ?_
      rotate_left
      · first | (go_simp; done) | (go_simp; with_reducible rfl)
      (try simp only [Act.put]); (try simp only [List.setIfInBounds_toArray]); (try simp only [List.set_cons_succ]); (try simp only [List.set_cons_zero])
      refine takeD (i := 6) (d := some 19) (v := ?_) rfl (by kernel_rfl) (by kernel_rfl) (by kernel_rfl) (by kernel_rfl) (fun _ _ _ h => h) (Or.inl ⟨by kernel_rfl, fun X hX => Or.inl ?_⟩) (by assumption) ?_
      rotate_left
      · first | (go_simp; done) | (go_simp; with_reducible rfl)
      (try simp only [Act.put]); (try simp only [List.setIfInBounds_toArray]); (try simp only [List.set_cons_succ]); (try simp only [List.set_cons_zero])
      refine takeD (i := 7) (d := some 20) (v := ?_) rfl (by kernel_rfl) (by kernel_rfl) (by kernel_rfl) (by kernel_rfl) (fun _ _ _ h => h) (Or.inl ⟨by kernel_rfl, fun X hX => Or.inl ?_⟩) (by assumption) ?_
      rotate_left
      · first | (go_simp; done) | (go_simp; with_reducible rfl)
      (try simp only [Act.put]); (try simp only [List.setIfInBounds_toArray]); (try simp only [List.set_cons_succ]); (try simp only [List.set_cons_zero])
      refine wpAnyH_ready (rs := [0]) (by kernel_rfl) (by simp) ?_
      refine AllReadyH.cons rfl (fun K hK => ?_) AllReadyH.nil
      rw [if_pos (by kernel_rfl)]
      refine wp_load_eq 85 _ rfl (.pointer (some ⟨p, 0, none⟩)) (.agg (arr .u32 V)) rfl (Row.load (t' := 85) K1.out arW8 HVL.out) ?_
      refine hK.out _ _ (hHeld) (fun hHeld => ?_)
      clear hK K
      (try simp only [Act.put]); (try simp only [List.setIfInBounds_toArray]); (try simp only [List.set_cons_succ]); (try simp only [List.set_cons_zero])
      refine wpAnyH_ready (rs := [8]) (by kernel_rfl) (by simp) ?_
      refine AllReadyH.cons rfl (fun K hK => ?_) AllReadyH.nil
      rw [if_pos (by kernel_rfl)]
      go_simp
      refine (comp_ok V blk _ HVL.out HVW.out HBL.out (Gl.fr (S := No) HGr.out (Fr.refl No wr).drew (fun _ _ => id))).mono ?_
      rintro ex w5 ⟨rfl, hF5⟩
      have K5 : Hid (Row w5 p 85 .u32 V) := Lib.hid (Row.fr (w := wr.drew) K1.out hF5 id)
      have H5 := Lib.hid hF5
      refine hK.out _ _ (hHeld.trans (H5.out.mono (fun _ _ h => h.elim))) (fun hHeld => ?_)
      clear hK K
      (try simp only [Act.put]); (try simp only [List.setIfInBounds_toArray]); (try simp only [List.set_cons_succ]); (try simp only [List.set_cons_zero])
      refine takeD (i := 9) (d := some 12) (v := ?_) rfl (by kernel_rfl) (by kernel_rfl) (by kernel_rfl) (by kernel_rfl) (fun _ _ _ h => h) (Or.inl ⟨by kernel_rfl, fun X hX => Or.inl ?_⟩) (by assumption) ?_
      rotate_left
      · first | (go_simp; done) | (go_simp; with_reducible rfl)
      (try simp only [Act.put]); (try simp only [List.setIfInBounds_toArray]); (try simp only [List.set_cons_succ]); (try simp only [List.set_cons_zero])
      refine takeD (i := 10) (d := some 22) (v := ?_) rfl (by kernel_rfl) (by kernel_rfl) (by kernel_rfl) (by kernel_rfl) (fun _ _ _ h => h) (Or.inl ⟨by kernel_rfl, fun X hX => Or.inl ?_⟩) (by assumption) ?_
      rotate_left
      · first | (go_simp; done) | (go_simp; with_reducible rfl)
      (try simp only [Act.put]); (try simp only [List.setIfInBounds_toArray]); (try simp only [List.set_cons_succ]); (try simp only [List.set_cons_zero])
      refine takeD (i := 11) (d := some 23) (v := ?_) rfl (by kernel_rfl) (by kernel_rfl) (by kernel_rfl) (by kernel_rfl) (fun _ _ _ h => h) (Or.inl ⟨by kernel_rfl, fun X hX => Or.inl ?_⟩) (by assumption) ?_
      rotate_left
      · first | (go_simp; done) | (go_simp; with_reducible rfl)
      (try simp only [Act.put]); (try simp only [List.setIfInBounds_toArray]); (try simp only [List.set_cons_succ]); (try simp only [List.set_cons_zero])
      refine wpAnyH_ready (rs := [12]) (by kernel_rfl) (by simp) ?_
      refine AllReadyH.cons rfl (fun K hK => ?_) AllReadyH.nil
      rw [if_pos (by kernel_rfl)]
      refine wp_store_row 85 _ _ rfl p rfl (arr .u32 (comp V blk)) rfl K5.out arW8 HVL.out (by rw [arr_size, comp_len]; exact HVL.out) (arr_one _ _) ?_
      refine hK.out _ _ (fr_setRow hHeld (.inl rfl) _) (fun hHeld => ?_)
      clear hK K
      (try simp only [Act.put]); (try simp only [List.setIfInBounds_toArray]); (try simp only [List.set_cons_succ]); (try simp only [List.set_cons_zero])
      refine wpAnyH_done (by kernel_rfl) ?_ _
      have hR6 := Lib.hid (K5.out.setRow (l' := comp V blk))
      have HH6 := Lib.hid hHeld
      generalize w5.setRow p (arr .u32 (comp V blk)) = w6 at *
      clear hHeld hF5 e1 e2 e3
      go_wp2
      have hpp := HP.out
      refine ⟨⟨i + 1, by omega, by simp, HF.out.trans' HH6.out (fun k hk e => by omega), ?_, K2.out.fr HH6.out (by show ¬ p + 1 = p; omega)⟩, by simp [intOf]; omega⟩
      rw [HN.out]; exact hR6.out
    · obtain rfl : i = n := by omega
      have hlen := (foldL_len bs h i).trans HH.out
      have HF := Lib.hid hF
      have HL := Lib.hid (k1.load arW8 hlen)
      obtain ⟨Y, hY, hYR, hYF⟩ := k2.stored (l' := foldL h bs i) arW8 (by rfl) hlen
      have HY := Lib.hid hY
      have HYR := Lib.hid (hYR.loadVar arW8 hlen)
      have HYF := Lib.hid hYF
      clear hF k1 k2 hY hYR hYF hlen
      go_wp2_with (first | (refine wpList_load_eq rfl 85 _ rfl (.pointer (some ⟨p, 0, none⟩)) (.agg (arr .u32 (foldL h bs i))) rfl HL.out ?_) | (refine wpList_store_eq rfl 85 _ _ rfl (.pointer (some ⟨p + 1, 0, none⟩)) (.agg (arr .u32 (foldL h bs i))) rfl rfl HY.out ?_))
      refine bodyPost_ret (results_cell1 rfl rfl HYR.out) rfl ?_
      have hpp := HP.out
      exact ⟨rfl, HF.out.trans' HYF.out (fun k hk e => by omega)⟩
end Go.Proofs.YtnpgcgemifoddaaDoor
