/- The 64 words of a block, as the program makes them. -/
import Derived.Test.YtnpgcgemifoddaaDoorDigB
import Derived.Deep.RegionHeld3
namespace Go.Proofs.YtnpgcgemifoddaaDoor
open Go.RowKit
set_option linter.unusedVariables false

def str (l : List UInt8) : ByteArray := ⟨l.toArray⟩
theorem str_size (l : List UInt8) : (str l).size = l.length := by simp [str, ByteArray.size]

theorem str_get (l : List UInt8) (i : Nat) (h : i < (str l).size) : (str l)[i]'h = l.getD i 0 := by
  have h2 : i < l.length := by rwa [str_size] at h
  rw [List.getD_eq_getElem?_getD, List.getElem?_eq_getElem h2]
  rfl

theorem or8 (x : Nat) (b : UInt8) (hx : x < 16777216) : bits .or .u32 ((x : Int) * 256 % 4294967296) ((b.toNat : Int) % 4294967296) = ((x * 256 + b.toNat : Nat) : Int) := by
  have hb := b.toNat_lt
  rw [show (x : Int) * 256 % 4294967296 = ((x * 256 : Nat) : Int) by omega, show (b.toNat : Int) % 4294967296 = ((b.toNat : Nat) : Int) by omega, u32_or_nat _ _ (by omega) (by omega), nat_join 8 _ _ (by omega) (by omega)]

abbrev Z64 : Array Value := arr .u32 (List.replicate 64 0)

set_option maxHeartbeats 1000000 in
set_option maxRecDepth 100000 in
theorem stretched_any (bs : List UInt8) (w : World) (hl : bs.length = 64) :
    Calls Tryd.prog 46 #[.string (str bs)] w fun ex w' => ex = .returned (.agg (arr .u32 (sched bs 48))) ∧ Fr No w w' := by
  go_enter Tryd.func46, Tryd.ntmps46
  go_wp2
  refine wp_world (fun W => Fr No w W ∧ Row W w.heap.size 92 .u32 (List.replicate 64 0) ∧ Row W (w.heap.size + 1) 92 .u32 (words0 bs 0)) ⟨((Fr.refl No w).alloc _).alloc _, (Row.new w 92 .u32 (List.replicate 64 0)).alloc _, alloc2_new w _ _⟩ ?_
  rintro W1 ⟨hF, hR, hP⟩
  obtain ⟨p, hp⟩ : ∃ p, p = w.heap.size := ⟨_, rfl⟩
  rw [← hp] at hR hP ⊢
  have hsz : (str bs).size = 64 := (str_size bs).trans hl
  have HL := Lib.hid hl
  have HPP := Lib.hid hp
  clear hl hp
  go_loopw [10] (fun c wr => ∃ i : Nat, i ≤ 64 ∧ c = .int .i64 i ∧ Fr No w wr ∧ Row wr p 92 .u32 (List.replicate 64 0) ∧ Row wr (p + 1) 92 .u32 (words0 bs i)) (fun c _ => 64 - (intOf c).toNat)
  case atStart => exact ⟨0, by omega, rfl, hF, hR, hP⟩
  case round =>
    obtain ⟨i, hi, rfl, hF, hR, hP⟩ := hrel
    by_cases hlt : i < 64
    · have h1 : (i : Int) < 64 := by omega
      have hl4 : i / 4 < (words0 bs i).length := by rw [words0_len]; omega
      obtain ⟨j, hj⟩ : ∃ j, j = i / 4 := ⟨_, rfl⟩
      rw [← hj] at hl4
      have hw4 : IntKind.i64.wrap ((i : Int) / 4) = (j : Int) := by rw [IntKind.wrap_i64]; omega
      have hj64 : (j : Int) < 64 := by omega
      have hc := hP.cellD hl4
      have hf := hP.frozen j
      obtain ⟨x, hx⟩ : ∃ x, x = (words0 bs i).getD j 0 := ⟨_, rfl⟩
      rw [← hx] at hc
      obtain ⟨b, hb⟩ : ∃ b, b = bs.getD i 0 := ⟨_, rfl⟩
      have hget : ∀ h : i < (str bs).size, (str bs)[i]'h = b := fun h => (str_get bs i h).trans hb.symm
      obtain ⟨y, hy⟩ : ∃ y, y = x * 256 + b.toNat := ⟨_, rfl⟩
      have hor : bits .or .u32 ((x : Int) * 256 % 4294967296) ((b.toNat : Int) % 4294967296) = (y : Int) := by
        rw [hy]; exact or8 x b (by rw [hx, hj]; exact words0_at bs i hlt)
      have HN : Hid (words0 bs (i + 1) = (words0 bs i).set j y) := Lib.hid (by rw [hy, hx, hb, hj]; rfl)
      have HX := Lib.hid hx
      have HF := Lib.hid hF
      have HR := Lib.hid hR
      have HP := Lib.hid hP
      clear hx hF hR hP hl4 hj hb hy
      go_wp2_with fail
      go_region
      go_wp2
      refine ⟨⟨i + 1, by omega, by simp, (HF.out.drewN _).setCell (.inr (by have := HPP.out; show _ ≤ p + 1; omega)) _, ?_, ?_⟩, by simp [intOf]; omega⟩
      · exact Row.set_other (w := wr.drew) HR.out (by omega) _
      · rw [HN.out]; exact Row.set (w := wr.drew) HP.out j y
    · obtain rfl : i = 64 := by omega
      have HF := Lib.hid hF
      have HR := Lib.hid hR
      have HP := Lib.hid hP
      clear hF hR hP
      go_wp2
      go_loopw [5] (fun c wr => ∃ j : Nat, j ≤ 48 ∧ c = .int .i64 ((16 + j : Nat) : Int) ∧ Fr No w wr ∧ Row wr p 92 .u32 (List.replicate 64 0) ∧ Row wr (p + 1) 92 .u32 (sched bs j)) (fun c _ => 64 - (intOf c).toNat)
      case atStart => exact ⟨0, by omega, rfl, HF.out, HR.out, HP.out⟩
      case round =>
        clear HF HR HP
        obtain ⟨j, hj, rfl, hF, hR, hP⟩ := hrel
        by_cases hlt : j < 48
        · obtain ⟨i, hi⟩ : ∃ i, i = 16 + j := ⟨_, rfl⟩
          obtain ⟨a1, ha1⟩ : ∃ a1, a1 = 1 + j := ⟨_, rfl⟩
          obtain ⟨a2, ha2⟩ : ∃ a2, a2 = 14 + j := ⟨_, rfl⟩
          obtain ⟨a3, ha3⟩ : ∃ a3, a3 = 9 + j := ⟨_, rfl⟩
          rw [← hi]
          have h1 : (i : Int) < 64 := by omega
          have e1 : (i : Int) - 15 = (a1 : Int) := by omega
          have e2 : (i : Int) - 2 = (a2 : Int) := by omega
          have e3 : (i : Int) - 7 = (a3 : Int) := by omega
          have e4 : (i : Int) - 16 = (j : Int) := by omega
          have g1 : (a1 : Int) < 64 := by omega
          have g2 : (a2 : Int) < 64 := by omega
          have g3 : (a3 : Int) < 64 := by omega
          have g4 : (j : Int) < 64 := by omega
          have hlen := sched_len bs j
          obtain ⟨x1, hx1⟩ : ∃ x, x = (sched bs j).getD a1 0 := ⟨_, rfl⟩
          obtain ⟨x2, hx2⟩ : ∃ x, x = (sched bs j).getD a2 0 := ⟨_, rfl⟩
          obtain ⟨x3, hx3⟩ : ∃ x, x = (sched bs j).getD a3 0 := ⟨_, rfl⟩
          obtain ⟨x4, hx4⟩ : ∃ x, x = (sched bs j).getD j 0 := ⟨_, rfl⟩
          have c1 := hP.cellD (i := a1) (by omega)
          have c2 := hP.cellD (i := a2) (by omega)
          have c3 := hP.cellD (i := a3) (by omega)
          have c4 := hP.cellD (i := j) (by omega)
          have c5 := hP.cellD (i := i) (by omega)
          have f5 := hP.frozen i
          rw [← hx1] at c1
          rw [← hx2] at c2
          rw [← hx3] at c3
          rw [← hx4] at c4
          have hx1W : x1 < W32 := by rw [hx1]; exact (sched_ws bs j).getD _
          have hx2W : x2 < W32 := by rw [hx2]; exact (sched_ws bs j).getD _
          obtain ⟨y, hy⟩ : ∃ y, y = (x4 + s0 x1 + x3 + s1 x2) % W32 := ⟨_, rfl⟩
          have HY := Lib.hid hy
          have HN : Hid (sched bs (j + 1) = (sched bs j).set i y) := Lib.hid (by rw [hy, hx1, hx2, hx3, hx4, ha1, ha2, ha3, hi]; rfl)
          have HF := Lib.hid hF
          have HR := Lib.hid hR
          have HP := Lib.hid hP
          have HI := Lib.hid hi
          clear hx1 hx2 hx3 hx4 ha1 ha2 ha3 hy hi hF hR hP hlen
          have hs0 : bits .xor .u32 ((rotr x1 7 ^^^ rotr x1 18 : Nat) : Int) ((x1 : Int) / 8) = ((s0 x1 : Nat) : Int) := u32_xor_nat _ (x1 / 8) (xor_lt (rotr_lt x1 7 hx1W (by omega)) (rotr_lt x1 18 hx1W (by omega))) (by unfold W32 at hx1W; omega)
          have hs1 : bits .xor .u32 ((rotr x2 17 ^^^ rotr x2 19 : Nat) : Int) ((x2 : Int) / 1024) = ((s1 x2 : Nat) : Int) := u32_xor_nat _ (x2 / 1024) (xor_lt (rotr_lt x2 17 hx2W (by omega)) (rotr_lt x2 19 hx2W (by omega))) (by unfold W32 at hx2W; omega)
          have hyv : ((x4 : Int) + ((s0 x1 : Nat) : Int) + (x3 : Int) + ((s1 x2 : Nat) : Int)) % 4294967296 = (y : Int) := by rw [HY.out]; unfold W32; omega
          go_wp2
          go_region
          go_wp2_with fail
          refine (turned2 x1 7 18 _ _ _ hx1W (by omega) (by omega) (heap_alloc_new wr.drew _)).mono ?_
          rintro ex w2 ⟨rfl, hw2⟩
          have F2 : Hid (Fr No wr w2) := Lib.hid (by rw [hw2]; exact ((Fr.refl No wr).drew).alloc _)
          clear hw2
          go_wp2_with fail
          refine (turned2 x2 17 19 _ _ _ hx2W (by omega) (by omega) (heap_alloc_new w2 _)).mono ?_
          rintro ex w3 ⟨rfl, hw3⟩
          have F3 : Hid (Fr No wr w3) := Lib.hid (by rw [hw3]; exact F2.out.alloc _)
          have f5 := (F3.out.frozen i (lt_cell c1) id).trans f5
          have c1 := F3.out.cell id c1
          have c2 := F3.out.cell id c2
          have c3 := F3.out.cell id c3
          have c4 := F3.out.cell id c4
          have c5 := F3.out.cell id c5
          clear hw3 F2
          go_wp2_with fail
          go_region
          go_wp2
          have HP3 := HP.out.fr F3.out id
          have hi16 := HI.out
          have hpp := HPP.out
          refine ⟨⟨_, _, _, _, _, _, _, _, _, _, _, _, _, _, _, _, _, _, _, _, _, _, _, _, _, _, _, _, _, _, _, _, _, _, _, _, _, _, _, _, _, _, _, _, ⟨j + 1, by omega, by congr 1; omega, ?_, ?_, ?_⟩, rfl⟩, by simp [intOf]; omega⟩
          · exact ((HF.out.trans F3.out).drewN _).setCell (.inr (by show _ ≤ p + 1; omega)) _
          · exact Row.set_other (w := w3.drew) (show Row w3.drew p 92 .u32 (List.replicate 64 0) from Row.fr (S := No) (w' := w3) HR.out F3.out id) (by omega) _
          · rw [HN.out]; exact Row.set (w := w3.drew) HP3 i y
        · obtain rfl : j = 48 := by omega
          have HF := Lib.hid hF
          have HL := Lib.hid (hP.load arW64 (sched_len bs 48))
          obtain ⟨V, hV, hVR, hVF⟩ := hR.stored (l' := sched bs 48) arW64 (by rfl) (sched_len bs 48)
          have HV := Lib.hid hV
          clear hF hR hP hV
          go_wp2_with (first | (refine wpList_load_eq rfl 92 _ rfl (.pointer (some ⟨p + 1, 0, none⟩)) (.agg (arr .u32 (sched bs 48))) rfl HL.out ?_) | (refine wpList_store_eq rfl 92 _ _ rfl (.pointer (some ⟨p, 0, none⟩)) (.agg (arr .u32 (sched bs 48))) rfl rfl HV.out ?_))
          refine bodyPost_ret (results_cell1 rfl rfl (hVR.loadVar arW64 (sched_len bs 48))) rfl ?_
          have hpp := HPP.out
          exact ⟨rfl, HF.out.trans' hVF (fun k hk e => by omega)⟩
end Go.Proofs.YtnpgcgemifoddaaDoor
