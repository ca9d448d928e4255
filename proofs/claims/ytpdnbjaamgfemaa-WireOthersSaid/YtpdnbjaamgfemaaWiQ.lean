/- Decode: the document's answer; and the document's side, for the laws. -/
import Derived.Test.YtpdnbjaamgfemaaWpM
import Derived.Test.YtpdnbjaamgfemaaWiX
import Derived.Test.YtpdnbjaamgfemaaWiE
namespace Go.Proofs.Ytpdnbjaamgfemaa
open Go.RowKit
set_option linter.unusedVariables false
set_option maxRecDepth 100000

theorem callable_dec : callable 27 := fun _ _ => by kernel_rfl

theorem dec_tries (l : List UInt8) (hl : l.length ≤ 2000) (w W2 : World) (sb mb : Nat) (hW : Fr No w W2) (hmb : w.heap.size ≤ mb) (hs : Blk W2 sb 9 [.string (str l)]) (hm : Blk W2 mb 27 (cellsM zeroM)) :
    Calls Try.prog 16 #[.func (.func 27) #[] #[.pointer (some ⟨sb, 0, none⟩), .pointer (some ⟨mb, 0, none⟩)]] W2 fun e w' => e = .returned (.int .i64 (decM l).2) ∧ Blk w' mb 27 (cellsM (decM l).1) ∧ Fr No w w' := by
  have hmx : ¬ mb = W2.heap.size := by have := hm.lt; omega
  have hF3 : Fr No W2 (W2.alloc (.cells #[.int .i64 0] 28)) := (Fr.refl No W2).alloc _
  have hx : Blk (W2.alloc (.cells #[.int .i64 0] 28)) W2.heap.size 28 [.int .i64 0] := Blk.new W2 _ _
  have hd := dec1_any l hl w.heap.size sb mb _ (hs.fr hF3 id) (hm.fr hF3 id) (by have := hW.size; simp; omega) hmb
  rw [readR_is] at hd
  have hnx : ∀ (w1 w' : World), Fr (fun k => w.heap.size ≤ k) (W2.alloc (.cells #[.int .i64 0] 28)) w1 → Fr (· = W2.heap.size) w1 w' → Fr No w w' := fun w1 w' h1 h2 =>
    ((hW.trans hF3).trans' h1 (fun i hi hk => absurd hi (by have : w.heap.size ≤ i := hk; omega))).trans' h2 (fun i hi hk => absurd hi (by have : i = W2.heap.size := hk; have := hW.size; omega))
  refine (attempt_any 27 _ W2 (fun w1 => (decM l).2 = 0 ∧ Blk w1 mb 27 (cellsM (decM l).1) ∧ Fr (fun k => w.heap.size ≤ k) (W2.alloc (.cells #[.int .i64 0] 28)) w1)
    (fun c w1 => c = (decM l).2 ∧ Blk w1 mb 27 (cellsM (decM l).1) ∧ Fr (fun k => w.heap.size ≤ k) (W2.alloc (.cells #[.int .i64 0] 28)) w1) callable_dec (hd.mono ?_)).mono ?_
  · rintro e w' ⟨h1, h2, h3, (⟨rfl, h4⟩ | ⟨rfl, h4⟩)⟩
    · exact ⟨h2 _ _ _ hx.lt (fun e => hmx e.symm) (by decide) hx, .inl ⟨rfl, h4, h3, h1⟩⟩
    · exact ⟨h2 _ _ _ hx.lt (fun e => hmx e.symm) (by decide) hx, .inr ⟨_, rfl, rfl, h3, h1⟩⟩
  · rintro e w' ⟨w1, hF, (⟨rfl, h1, h2, h3⟩ | ⟨c, rfl, rfl, h2, h3⟩)⟩
    · exact ⟨by rw [h1], h2.fr hF hmx, hnx _ _ h3 hF⟩
    · exact ⟨rfl, h2.fr hF hmx, hnx _ _ h3 hF⟩

set_option maxHeartbeats 1000000 in
theorem wdecode_any (l : List UInt8) (hl : l.length ≤ 2000) (w : World) : Calls Try.prog 13 #[.string (str l)] w fun ex w' => ex = .returned (.tuple #[vM (decM l).1, .int .i64 (decM l).2]) ∧ Fr No w w' := by
  have hmf : ∀ (fn : Fn) (first cap : Array Value) (w : World), (Instr.makeFunc fn first cap).run Try.prog w = .ok (.func fn first cap) w := fun _ _ _ _ => rfl
  have hh := decM_h l
  obtain ⟨S, hS⟩ : ∃ S, S = str l := ⟨_, rfl⟩
  obtain ⟨W1, hW1⟩ : ∃ W, W = w.alloc (.cells #[.string S] 9) := ⟨_, rfl⟩
  have hs1 : Blk W1 w.heap.size 9 [.string S] := by rw [hW1]; exact Blk.new w _ _
  have hF1 : Fr No w W1 := by rw [hW1]; exact (Fr.refl No w).alloc _
  obtain ⟨mb, hmb⟩ : ∃ p, p = W1.heap.size := ⟨_, rfl⟩
  have hlt : w.heap.size ≤ mb := by rw [hmb]; exact hF1.size
  obtain ⟨W2, hW2⟩ : ∃ W, W = W1.alloc (.cells (cellsM zeroM).toArray 27) := ⟨_, rfl⟩
  have hm2 : Blk W2 mb 27 (cellsM zeroM) := by rw [hmb, hW2]; exact Blk.new W1 _ _
  have hF12 : Fr No W1 W2 := by rw [hW2]; exact (Fr.refl No W1).alloc _
  have HA := Lib.hid (mt_msg.alloc W1)
  rw [← hmb, ← hW2] at HA
  have HT := Lib.hid (dec_tries l hl w W2 w.heap.size mb (hF1.trans hF12) hlt (by rw [← hS]; exact hs1.fr hF12 id) hm2)
  obtain ⟨m, hm⟩ : ∃ y, y = (decM l).1 := ⟨_, rfl⟩
  obtain ⟨e, he⟩ : ∃ y, y = (decM l).2 := ⟨_, rfl⟩
  rw [← hm, ← he] at HT ⊢
  rw [← hm] at hh
  rw [← hS]
  have HH := Lib.hid hh
  have HW1 := Lib.hid hW1
  have HLT := Lib.hid hlt
  clear hh hl hS hs1 hF1 hlt hm2 hF12 hm he hmb hW2 hW1
  go_enter Try.func13, Try.ntmps13
  go_wp2_with (refine wpList_execG (.pointer (some ⟨mb, 0, none⟩)) (exec_alloc 27 rfl _ (by rw [← HW1.out]; exact HA.out)) rfl ?_)
  refine HT.out.mono ?_
  rintro ex w3 ⟨rfl, hb, hF⟩
  obtain ⟨V, hV, hVB, hVF⟩ := msg_store (m := m) hb HH.out HH.out mt_msg
  have HX := Lib.hid (msg_load hb HH.out mt_msg)
  have HV := Lib.hid hV
  have HVL := Lib.hid (msg_loadVar hVB HH.out mt_msg)
  have HF : Hid (Fr No w V) := Lib.hid (hF.trans' hVF (fun i hi e => absurd hi (by have : i = mb := e; have := HLT.out; omega)))
  clear hb hF hV hVB hVF HT HA
  go_wp2_with (first
    | (refine wpList_load_eq rfl 27 _ rfl (.pointer (some ⟨mb, 0, none⟩)) (vM m) rfl HX.out ?_)
    | (refine wpList_store_eq rfl 27 _ _ rfl (.pointer (some ⟨mb, 0, none⟩)) (vM m) rfl rfl HV.out ?_))
  exact bodyPost_ret (results_cellT rfl rfl rfl HVL.out) rfl ⟨rfl, HF.out⟩
end Go.Proofs.Ytpdnbjaamgfemaa
