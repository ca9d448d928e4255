/- The document's comparison of two slices. -/
import Derived.Test.YtldcglmpnildiaaSdL
import Derived.Test.YtldcglmpnildiaaPuK
import Derived.Test.YtldcglmpnildiaaSdP
namespace Go.Proofs.Ytldcglmpnildiaa
open Go.RowKit
set_option linter.unusedVariables false
set_option maxRecDepth 100000

theorem neq_zero10 (w : World) : (binOp .neq 42 (.int .i64 0) (.int .i64 0)).run Try.prog w = .ok (.bool false) w := by simp [go_sem]
set_option maxHeartbeats 4000000 in
theorem rsame_any (ao bo : Option Addr) (n c1 c2 : Nat) (xs : Nat → Nat) (w : World) (hn : n ≤ 1000) (h1 : Nums w ao n xs) (h2 : Nums w bo n xs) : Calls Try.prog 18 #[.slice ao n c1, .slice bo n c2] w fun e w' => e = .returned (.bool true) ∧ Fr No w w' := by
  have HX := Lib.hid h1
  have HY := Lib.hid h2
  have HN := Lib.hid hn
  clear h1 h2 hn
  go_enter Try.func18, Try.ntmps18
  go_wp2_with fail
  go_loopw [5] (fun c wr => ∃ (i : Nat), i ≤ n ∧ c = .int .i64 i ∧ Fr No w wr) (fun c _ => n - (intOf c).toNat)
  case atStart => exact ⟨0, by omega, rfl, Fr.refl _ _⟩
  case round =>
    obtain ⟨i, hi, rfl, hF⟩ := hrel
    have HF := Lib.hid hF
    clear hF
    by_cases hlt : i < n
    · have t3 : (i : Int) < (n : Int) := by omega
      obtain ⟨a, hao, hca, _⟩ := HX.out i hlt
      obtain ⟨b, hbo, hcb, _⟩ := HY.out i hlt
      obtain ⟨x, hx⟩ : ∃ x, x = xs i := ⟨_, rfl⟩
      rw [← hx] at hca hcb
      have ca := HF.out.cellA id hca
      have cb := HF.out.cellA id hcb
      obtain ⟨qa, hqa⟩ : ∃ q, a.add i = q := ⟨_, rfl⟩
      obtain ⟨qb, hqb⟩ : ∃ q, b.add i = q := ⟨_, rfl⟩
      rw [hqa] at ca
      rw [hqb] at cb
      obtain ⟨k1, hk1⟩ : ∃ k, k = i + 1 := ⟨_, rfl⟩
      have HK1 : Hid (k1 = i + 1 ∧ k1 ≤ n) := Lib.hid ⟨hk1, by omega⟩
      have s1 : (i : Int) + 1 = (k1 : Int) := by omega
      have l1 : IntKind.i64.wrap (k1 : Int) = (k1 : Int) := IntWalk.i64_in _ (by have := HN.out; omega)
      have HFd := Lib.hid HF.out.drew
      rw [hao, hbo]
      clear hlt hi hk1 hao hbo hca hcb hx
      go_wp2_with fail
      go_region
      all_goals
        go_wp2
        exact ⟨⟨k1, HK1.out.2, rfl, HFd.out⟩, by have := HK1.out; simp [intOf]; omega⟩
    · have t3 : ¬ (i : Int) < (n : Int) := by omega
      clear hlt hi
      go_wp2
      go_ret
      exact ⟨rfl, HF.out⟩

/-- The document's purse, in a law's variable at rb; all of it from T on. -/
structure Rx (T rb : Nat) (ao : Option Addr) (cap : Nat) (s : Ps) (w : World) : Prop where
  blk : Blk w rb 32 (cellsP ao s.b.length cap s.h)
  row : DAt ao cap s w
  lo : T ≤ rb
  far : ∀ a, ao = some a → T ≤ a.block ∧ a.block ≠ rb
section
variable {T rb cap cap' : Nat} {ao ao' : Option Addr} {s s' : Ps} {v w w' : World}
theorem Rx.no (h : Rx T rb ao cap s w) (f : Fr No w w') : Rx T rb ao cap s w' := ⟨h.blk.fr f id, h.row.fr f (fun _ _ => id), h.lo, h.far⟩
/-- The first: what New handed back is stored. -/
theorem Rx.first {c : Nat} {r : Nat} (hz : Blk w rb 32 zeroP) (hD : DAt (some ⟨r, 0, none⟩) c s w) (W : s.Wf) (hT : T ≤ rb) (hr : T ≤ r) (hne : r ≠ rb) :
    ∃ Y, (Instr.storeAt 32 (.pointer (some ⟨rb, 0, none⟩)) (vP (some ⟨r, 0, none⟩) s.b.length c s.h)).run Try.prog w = .ok () Y ∧ Rx T rb (some ⟨r, 0, none⟩) c s Y ∧ Fr (· = rb) w Y := by
  obtain ⟨Y, hY, hB, hF⟩ := store_rp hz (L := cellsP (some ⟨r, 0, none⟩) s.b.length c s.h) (cellsP_len (by simp)) (cellsP_len W.hl) cellsP_one
  have hf : ∀ a, some (⟨r, 0, none⟩ : Addr) = some a → T ≤ a.block ∧ a.block ≠ rb := fun a ha => by
    injection ha with ha
    subst ha
    exact ⟨hr, hne⟩
  exact ⟨Y, hY, ⟨hB, hD.fr hF (fun a ha e => (hf a ha).2 e), hT, hf⟩, hF⟩
/-- What the document's call hands back is stored. -/
theorem Rx.put (h : Rx T rb ao cap s w) (W : s.Wf) (W' : s'.Wf) (hv : T ≤ v.heap.size) (hrb : rb < v.heap.size) (hd : DNext v ao ao') (hD : DAt ao' cap' s' w) :
    ∃ Y, (Instr.storeAt 32 (.pointer (some ⟨rb, 0, none⟩)) (vP ao' s'.b.length cap' s'.h)).run Try.prog w = .ok () Y ∧ Rx T rb ao' cap' s' Y ∧ Fr (· = rb) w Y := by
  obtain ⟨Y, hY, hB, hF⟩ := store_rp h.blk (cellsP_len W.hl) (cellsP_len (ao := ao') (n := s'.b.length) (cap := cap') W'.hl) cellsP_one
  have hf : ∀ a, ao' = some a → T ≤ a.block ∧ a.block ≠ rb := fun a ha => by
    rcases hd with e | ⟨r, hr, e⟩
    · exact h.far a (e ▸ ha)
    · rw [e] at ha
      injection ha with ha
      subst ha
      exact ⟨by show T ≤ r; omega, by show r ≠ rb; omega⟩
  exact ⟨Y, hY, ⟨hB, hD.fr hF (fun a ha e => (hf a ha).2 e), h.lo, hf⟩, hF⟩
/-- Its balances, as numbers. -/
theorem DAt.nums (h : DAt ao cap s w) (W : s.Wf) : Nums w ao s.b.length (fun i => s.b.getD i 0) := fun i hi => by
  obtain ⟨r, hr, hc⟩ := h.row i hi
  exact ⟨⟨r, 0, none⟩, hr, by rw [Addr.add_lit, Nat.zero_add]; exact hc, by have h1 := Ps.bal_le hi; have h2 := W.top; show s.bal i < _; omega⟩
end
/-- The purse behind the first i of those that acted. -/
def Bs.beh (s : Bs) (p0 : Ps) (i : Nat) : Ps := Bs.rep s.tk p0 (s.done.take i)
theorem Bs.beh_zero (s : Bs) (p0 : Ps) : s.beh p0 0 = p0 := rfl
theorem Bs.beh_all (s : Bs) (p0 : Ps) : s.beh p0 s.done.length = Bs.rep s.tk p0 s.done := by unfold Bs.beh; rw [List.take_length]
theorem Bs.beh_next (s : Bs) (p0 : Ps) {i : Nat} (h : i < s.done.length) : s.beh p0 (i + 1) = Bs.moveS (s.beh p0 i) (s.tk (s.dn i)) := by
  unfold Bs.beh Bs.dn
  rw [List.take_succ_eq_append_getElem h, Bs.rep_snoc, List.getD_eq_getElem?_getD, List.getElem?_eq_getElem h]
  rfl
theorem addr_block (a : Addr) (n : Nat) : (a.add n).block = a.block := by unfold Addr.add; split <;> rfl
end Go.Proofs.Ytldcglmpnildiaa
