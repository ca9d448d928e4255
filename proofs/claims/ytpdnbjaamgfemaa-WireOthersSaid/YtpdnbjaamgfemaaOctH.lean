/- Items: the rows of the laws on scripts of octets. -/
import Derived.Test.YtpdnbjaamgfemaaOctG
import Derived.Test.YtpdnbjaamgfemaaOctE
import Derived.Deep.Slices
namespace Go.Proofs.Ytpdnbjaamgfemaa
open Go.RowKit
set_option linter.unusedVariables false
set_option maxRecDepth 100000

structure It where
  k : Int
  wd : Int
  n : Nat
  hs : List UInt8
  s : ByteArray

structure It.Ok (x : It) : Prop where
  k1 : -9223372036854775808 ≤ x.k
  k2 : x.k ≤ 9223372036854775807
  w1 : -9223372036854775808 ≤ x.wd
  w2 : x.wd ≤ 9223372036854775807
  n : x.n < 2 ^ 64
  h : x.hs.length = 32
  s : x.s.size ≤ maxLen

structure ItAt (q : Addr) (x : It) (w : World) : Prop where
  k : w.cell? q = some (.int .i64 x.k)
  wd : w.cell? ⟨q.block, q.off + 1, none⟩ = some (.int .i64 x.wd)
  n : w.cell? ⟨q.block, q.off + 2, none⟩ = some (.int .u64 x.n)
  h : ∀ j v, (x.hs.map u8v)[j]? = some v → w.cell? ((⟨q.block, q.off + 3, none⟩ : Addr).add j) = some v
  s : w.cell? ⟨q.block, q.off + 35, none⟩ = some (.string x.s)

theorem addr_block (a : Addr) (n : Nat) : (a.add n).block = a.block := by unfold Addr.add; split <;> rfl

theorem ItAt.fr {q : Addr} {x : It} {S : Nat → Prop} {w w' : World} (d : ItAt q x w) (h : Fr S w w') (hS : ¬ S q.block) : ItAt q x w' :=
  ⟨h.cellA hS d.k, h.cellA hS d.wd, h.cellA hS d.n, fun j v hj => h.cellA (by rw [addr_block]; exact hS) (d.h j v hj), h.cellA hS d.s⟩

theorem ItAt.lt {q : Addr} {x : It} {w : World} (d : ItAt q x w) : q.block < w.heap.size := World.block_lt_of_cell? w _ d.k

theorem ItAt.load {q : Addr} {x : It} {w : World} (d : ItAt q x w) (hx : x.hs.length = 32) :
    (Instr.loadAt 25 (.pointer (some ⟨q.block, q.off + 3, none⟩))).run Try.prog w = .ok (.agg (x.hs.map u8v).toArray) w := by
  have hl : (loadCells ⟨q.block, q.off + 3, none⟩ (x.hs.map u8v).length).run Try.prog w = .ok (x.hs.map u8v).toArray w :=
    run_loadCells_list (P := Try.prog) w _ (x.hs.map u8v) (fun j v hv => d.h j v hv)
  have hi := Try.infoHash
  cases hq : Try.prog.info? 25 with
  | none => simp [hq] at hi
  | some q =>
    have hs : q.size = (x.hs.map u8v).length := by simp [hq] at hi; simp [hi, hx]
    have hagg : (isAgg 25).run Try.prog w = .ok true w := by
      unfold isAgg
      rw [Sem.run_bind, run_underlying Try.underlying25 w]
      rfl
    simp only [List.length_map, hx] at hl hs
    simp [Instr.loadAt, Instr.sureAddr, loadVar, Sem.run_bind, hagg, sizeOf, typeInfo, hq, hs, hl]

/-- What a number comes to, as bytes, with the error. -/
def numOf (n : Nat) (k : Int) : List UInt8 × Int := if 1 ≤ k ∧ k ≤ 8 ∧ n / 256 ^ k.toNat = 0 then (beBytes n k.toNat, 0) else ([], 1)
def textOf (s : ByteArray) : List UInt8 × Int := if s.size ≤ 64 then (UInt8.ofNat s.size :: s.data.toList, 0) else ([], 12)

theorem numOf_le (n : Nat) (k : Int) : (numOf n k).1.length ≤ 65 := by unfold numOf; split <;> simp [beBytes_length]; omega
theorem textOf_le (s : ByteArray) : (textOf s).1.length ≤ 65 := by unfold textOf; split <;> simp; omega

theorem wnum_all (B p : Nat) (v : Value) (bs : List UInt8) (n : Nat) (k : Int) (w : World) (hw : Wr B p v bs w) (hB : B ≤ w.heap.size) (hn : bs.length ≤ 1048000) (hlt : n < 2 ^ 64) :
    Calls Try.prog 63 #[.pointer (some ⟨p, 0, none⟩), .int .u64 n, .int .i64 k] w fun e w' => e = .returned (.int .i64 (numOf n k).2) ∧ ∃ v', Wr B p v' (bs ++ (numOf n k).1) w' ∧ Fr (WS p v) w w' := by
  by_cases h : 1 ≤ k ∧ k ≤ 8
  · obtain ⟨j, rfl⟩ : ∃ j : Nat, k = (j : Int) := ⟨k.toNat, by omega⟩
    have hp : 0 < 256 ^ j := Nat.pow_pos (by omega)
    by_cases h2 : n / 256 ^ j = 0
    · rw [show numOf n (j : Int) = (beBytes n j, 0) from if_pos ⟨h.1, h.2, h2⟩]
      exact wnum_ok B p v bs n j w hw hB hn (by omega) (by omega) ((Nat.div_eq_zero_iff_lt hp).1 h2)
    · rw [show numOf n (j : Int) = ([], 1) from if_neg (fun h3 => h2 h3.2.2)]
      refine (wnum_high p n j w (by omega) (by omega) ?_).mono fun e w' ⟨he, hw'⟩ => ⟨he, v, by rw [List.append_nil]; exact hw' ▸ hw, hw' ▸ Fr.refl _ _⟩
      have h4 : (n : Int) / 2 ^ (8 * j) = ((n / 256 ^ j : Nat) : Int) := by rw [← pow8]; simp
      rw [h4, bne_iff_ne]
      exact fun e => h2 (by omega)
  · rw [show numOf n k = ([], 1) from if_neg (fun h3 => h ⟨h3.1, h3.2.1⟩)]
    exact (wnum_bad p n k w h).mono fun e w' ⟨he, hw'⟩ => ⟨he, v, by rw [List.append_nil]; exact hw' ▸ hw, hw' ▸ Fr.refl _ _⟩

theorem refnum_all (n : Nat) (k : Int) (w : World) (hlt : n < 2 ^ 64) :
    Calls Try.prog 23 #[.int .u64 n, .int .i64 k] w fun e w' => e = .returned (.tuple #[.string (str (numOf n k).1), .int .i64 (numOf n k).2]) ∧ Fr No w w' := by
  by_cases h : 1 ≤ k ∧ k ≤ 8
  · obtain ⟨j, rfl⟩ : ∃ j : Nat, k = (j : Int) := ⟨k.toNat, by omega⟩
    refine (refnum_any n j w (by omega) (by omega) hlt).mono ?_
    rintro e w' ⟨t, f, rfl, ⟨h2, rfl, rfl⟩ | ⟨h2, rfl, rfl⟩, hF⟩
    · rw [show numOf n (j : Int) = (beBytes n j, 0) from if_pos ⟨h.1, h.2, h2⟩]
      exact ⟨rfl, hF⟩
    · rw [show numOf n (j : Int) = ([], 1) from if_neg (fun h3 => absurd h3.2.2 (Nat.ne_of_gt h2))]
      exact ⟨rfl, hF⟩
  · rw [show numOf n k = ([], 1) from if_neg (fun h3 => h ⟨h3.1, h3.2.1⟩)]
    exact (refnum_bad n k w h).mono fun e w' ⟨he, hw'⟩ => ⟨he, hw' ▸ Fr.refl _ _⟩

end Go.Proofs.Ytpdnbjaamgfemaa
