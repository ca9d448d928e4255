/- The padding of a text, and its sum, as the program has them. -/
import Derived.Test.YtnpgcgemifoddaaDoorDigE
import Derived.Laws.MakeOwn
import Derived.Laws.OwnMore
import Derived.Laws.IdiomStrings
import Derived.Lib.BufferWrite
import Derived.Lib.AppendStr
import Derived.Lib.SmallJoins
namespace Go.Proofs.YtnpgcgemifoddaaDoor
open Go.RowKit
set_option linter.unusedVariables false

/-- The last i of the eight bytes. -/
def tl (n : Nat) : Nat → List Nat
  | 0 => []
  | i + 1 => (8 * n / 2 ^ (8 * i) % 256) :: tl n i
theorem tl_len (n : Nat) : ∀ i, (tl n i).length = i
  | 0 => rfl
  | i + 1 => by rw [tl, List.length_cons, tl_len]
/-- The padding behind i rounds, z zeros ahead of the eight bytes. -/
def pst (n z i : Nat) : List Nat := 128 :: (List.replicate (z + (8 - i)) 0 ++ tl n i)
theorem pst_len (n z i : Nat) (h : i ≤ 8) : (pst n z i).length = z + 9 := by
  simp [pst, tl_len]; omega
theorem pst_set (n z i : Nat) (h : i < 8) : (pst n z i).set (z + 8 - i) (8 * n / 2 ^ (8 * i) % 256) = pst n z (i + 1) := by
  obtain ⟨k, hk⟩ : ∃ k, z + (8 - i) = k + 1 := ⟨z + (8 - i) - 1, by omega⟩
  rw [pst, pst, hk, show z + (8 - (i + 1)) = k by omega, show z + 8 - i = k + 1 by omega, List.set_cons_succ, tl, List.replicate_succ']
  congr 1
  rw [List.append_assoc]
  have h2 : ∀ (k v x : Nat) (t : List Nat), (List.replicate k x ++ ([x] ++ t)).set k v = List.replicate k x ++ v :: t := by
    intro k v x t
    rw [List.set_append_right _ _ (by simp)]
    simp
  exact h2 _ _ _ _

theorem pst_padL (n : Nat) : (pst n ((119 - n % 64) % 64) 8).map UInt8.ofNat = padL n := by
  simp only [pst, padL, List.map_cons, List.map_append, List.map_replicate]
  rfl

theorem str_append (a b : List UInt8) : str a ++ str b = str (a ++ b) := by
  apply ByteArray.ext
  apply Array.ext'
  rw [show (str a ++ str b).data.toList = (str a).data.toList ++ (str b).data.toList from Joins.data_append _ _]
  simp [str]

theorem Tryd.infoU8 : (Tryd.prog.info? 5).map (fun i => (i.zero, i.size, i.bytes)) = some (some (.int .u8 0), 1, 1) := by kernel_rfl

/-- A new slice of n bytes 0. -/
theorem make_bytes (n : Nat) (h : n ≤ 100000) (W : World) :
    (Instr.makeSlice 76 (.int .i64 (n : Int)) (.int .i64 (n : Int))).run Tryd.prog W = .ok (.slice (some ⟨W.heap.size, 0, none⟩) n n) (W.alloc (.cells (arr .u8 (List.replicate n 0)) 5)) := by
  obtain ⟨i0, hi, hz0, hz1, hz2⟩ := info_parts Tryd.infoU8
  have h := run_make (P := Tryd.prog) W 76 5 i0 (.int .u8 0) Tryd.underlying76 hi hz0 .i64 .i64 (n : Int) (n : Int) (by omega) (by omega) (by rw [hz2]; omega) (by omega)
  rw [hz1] at h
  have e : madeCells (Value.int .u8 0).cells (((n : Int).toNat) * 1) = arr .u8 (List.replicate n 0) := by
    apply Array.ext'
    rw [show (Value.int .u8 0).cells = #[.int .u8 0] from rfl, toList_madeCells_one]
    simp
  rw [e] at h
  simpa using h

/-- The text of the bytes of a row. -/
theorem conv_row {w : World} {b n : Nat} {t : TypeId} {l : List Nat} (cap : Nat) (hr : Row w b t .u8 l) (hl : l.length = n) (h8 : ∀ x ∈ l, x < 256) :
    (convert 76 9 (.slice (some ⟨b, 0, none⟩) n cap)).run Tryd.prog w = .ok (.string (str (l.map UInt8.ofNat))) w := by
  subst hl
  have h := run_convert_bytes_back (P := Tryd.prog) w 76 9 5 ⟨b, 0, none⟩ cap (l.map UInt8.ofNat) Tryd.underlying76 Tryd.underlying5 Tryd.underlying9 (fun j hj => by
    have hj2 : j < l.length := by simpa using hj
    have hx := h8 l[j] (List.getElem_mem hj2)
    rw [Addr.add_lit, Nat.zero_add, hr.cell (List.getElem?_eq_getElem hj2)]
    simp
    omega)
  rw [List.length_map] at h
  exact h

theorem tl_lt (n : Nat) : ∀ i, ∀ x ∈ tl n i, x < 256
  | 0, x, h => by cases h
  | i + 1, x, h => by
    rcases List.mem_cons.1 h with rfl | h
    · exact Nat.mod_lt _ (by decide)
    · exact tl_lt n i x h
theorem pst_lt (n z i : Nat) : ∀ x ∈ pst n z i, x < 256 := fun x h => by
  rcases List.mem_cons.1 h with rfl | h
  · decide
  · rcases List.mem_append.1 h with h | h
    · rw [List.eq_of_mem_replicate h]; decide
    · exact tl_lt n i x h

set_option maxHeartbeats 1000000 in
set_option maxRecDepth 100000 in
theorem padding_any (n : Nat) (w : World) (hn : n ≤ 100000) :
    Calls Tryd.prog 45 #[.int .u64 n] w fun ex w' => ex = .returned (.string (str (padL n))) ∧ Fr No w w' := by
  obtain ⟨o, ho⟩ : ∃ o, o = n % 64 := ⟨_, rfl⟩
  obtain ⟨z, hz⟩ : ∃ z, z = (119 - n % 64) % 64 := ⟨_, rfl⟩
  obtain ⟨L, hL⟩ : ∃ L, L = z + 9 := ⟨_, rfl⟩
  obtain ⟨t, ht⟩ : ∃ t, t = 8 * n := ⟨_, rfl⟩
  have e1 : (n : Int) % 64 = (o : Int) := by omega
  have e2 : ((128 : Int) - (o : Int) - 1 - 8) % 64 = (z : Int) := by omega
  have e3 : (1 : Int) + (z : Int) + 8 = (L : Int) := by omega
  have ho2 : (o : Int) < 64 := by omega
  have hz2 : (z : Int) < 64 := by omega
  have hL2 : (L : Int) < 73 := by omega
  have hL1 : (8 : Int) < L := by omega
  have ht2 : (8 : Int) * (n : Int) = (t : Int) := by omega
  have hn2 : (n : Int) ≤ 100000 := by omega
  have hmk := fun W => make_bytes L (by omega) W
  have hmkr : Row (w.alloc (.cells (arr .u8 (List.replicate L 0)) 5)) w.heap.size 5 .u8 (List.replicate L 0) := Row.new w _ _ _
  have c0 := hmkr.cellD (i := 0) (by simp; omega)
  have f0 := hmkr.frozen 0
  have hset : (arr .u8 (List.replicate L 0)).setIfInBounds 0 (.int .u8 128) = arr .u8 (pst n z 0) := by
    rw [hL]
    simp [pst, tl, List.replicate_succ]
  have HE : Hid ((pst n z 8).map UInt8.ofNat = padL n) := Lib.hid (by rw [hz]; exact pst_padL n)
  have HN := Lib.hid hn
  have HO := Lib.hid ho
  have HZ := Lib.hid hz
  have HL := Lib.hid hL
  have HT := Lib.hid ht
  have HSET := Lib.hid hset
  obtain ⟨A0, hA0⟩ : ∃ A0, A0 = arr .u8 (List.replicate L 0) := ⟨_, rfl⟩
  rw [← hA0] at c0 f0 HSET
  simp only [← hA0] at hmk
  clear hn ho hz hL ht hmkr hset hA0
  go_enter Tryd.func45, Tryd.ntmps45
  go_wp2_with fail
  refine wp_world (fun W => Fr No w W ∧ Row W w.heap.size 5 .u8 (pst n z 0)) ⟨(Fr.refl No w).alloc _, by rw [HSET.out]; exact Row.new w _ _ _⟩ ?_
  rintro W1 ⟨hF, h1⟩
  clear hmk f0 c0 HSET e1 e2 e3 ht2
  obtain ⟨p, hp⟩ : ∃ p, p = w.heap.size := ⟨_, rfl⟩
  rw [← hp] at h1 ⊢
  have HP := Lib.hid hp
  clear hp
  go_loopw [24] (fun c wr => ∃ i : Nat, i ≤ 8 ∧ c = .int .i64 i ∧ Fr No w wr ∧ Row wr p 5 .u8 (pst n z i)) (fun c _ => 8 - (intOf c).toNat)
  case atStart => exact ⟨0, by omega, rfl, hF, h1⟩
  clear hF h1
  case round =>
    obtain ⟨i, hi, rfl, hF, k1⟩ := hrel
    by_cases hlt : i < 8
    · have h1 : (i : Int) < 8 := by omega
      obtain ⟨j, hj⟩ : ∃ j, j = z + 8 - i := ⟨_, rfl⟩
      obtain ⟨s, hs⟩ : ∃ s, s = 8 * i := ⟨_, rfl⟩
      have hll := HL.out
      have e4 : (L : Int) - 1 - (i : Int) = (j : Int) := by omega
      have hjL : (j : Int) < (L : Int) := by omega
      have e5 : (8 : Int) * (i : Int) = (s : Int) := by omega
      have hs64 : (s : Int) < 64 := by omega
      obtain ⟨y, hy⟩ : ∃ y, y = 8 * n / 2 ^ (8 * i) % 256 := ⟨_, rfl⟩
      have c1 := k1.cellD (i := j) (by rw [pst_len _ _ _ hi]; omega)
      have f1 := k1.frozen j
      have hyv : (t : Int) / 2 ^ s % 256 = (y : Int) := by rw [hy, HT.out, hs]; simp
      have HNN : Hid (pst n z (i + 1) = (pst n z i).set j y) := Lib.hid (by rw [hy, hj, pst_set n z i hlt])
      have HF := Lib.hid hF
      have K1 := Lib.hid k1
      clear hy hs hj hF k1 hll
      go_wp2
      refine ⟨⟨i + 1, by omega, by simp, HF.out.setCell (.inr (by have := HP.out; show _ ≤ p; omega)) _, ?_⟩, by simp [intOf]; omega⟩
      rw [HNN.out]; exact K1.out.set j y
    · obtain rfl : i = 8 := by omega
      have hcv := conv_row (n := L) L k1 (by rw [pst_len n z 8 (by omega)]; exact HL.out.symm) (pst_lt n z 8)
      rw [HE.out] at hcv
      have HF := Lib.hid hF
      clear hF k1
      go_wp2
      go_ret
      exact ⟨rfl, HF.out⟩

set_option maxHeartbeats 1000000 in
theorem pad_any (s : List UInt8) (w : World) (hs : s.length ≤ 90000) :
    Calls Tryd.prog 41 #[.string (str s)] w fun ex w' => ex = .returned (.string (str (padded s))) ∧ Fr No w w' := by
  have hsz := str_size s
  have hl : (s.length : Int) ≤ 90000 := by omega
  have hcat : str s ++ str (padL s.length) = str (padded s) := str_append _ _
  have hsz2 : (str (padL s.length)).size ≤ 100 := by rw [str_size, padL_len]; omega
  have hsz3 := str_size (padL s.length)
  go_enter Tryd.func41, Tryd.ntmps41
  go_wp2_with fail
  refine (padding_any s.length _ (by omega)).mono ?_
  rintro ex w1 ⟨rfl, hF⟩
  have HF := Lib.hid hF
  clear hF
  go_wp2
  go_ret
  exact ⟨rfl, HF.out⟩
end Go.Proofs.YtnpgcgemifoddaaDoor
