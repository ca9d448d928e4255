/- The document's purse: what is added to a balance. -/
import Derived.Test.YtldcglmpnildiaaPuD
import Derived.Test.YtldcglmpnildiaaPuN
namespace Go.Proofs.Ytldcglmpnildiaa
open Go.RowKit
set_option linter.unusedVariables false
set_option maxRecDepth 100000

def zeroP : List Value := cellsP none 0 0 (List.replicate 32 (0, 0))
theorem alloc_rp (w : World) : (Instr.alloc 32 true (.tuple #[])).run Try.prog w = .ok (.pointer (some ⟨w.heap.size, 0, none⟩)) (w.alloc (.cells zeroP.toArray 32)) := by kernel_rfl
theorem load_rp {X : World} {q : Nat} {L : List Value} (h : Blk X q 32 L) (hl : L.length = 65) : (Instr.loadAt 32 (.pointer (some ⟨q, 0, none⟩))).run Try.prog X = .ok (.agg L.toArray) X :=
  load_range _ h.whole Try.underlying32 rfl (by rw [hl]; kernel_rfl) _ rfl
theorem var_rp {X : World} {q : Nat} {L : List Value} (h : Blk X q 32 L) (hl : L.length = 65) : (Go.loadVar 32 ⟨q, 0, none⟩).run Try.prog X = .ok (.agg L.toArray) X :=
  run_loadVar_mid X q 0 32 L _ h.whole Try.underlying32 rfl (by rw [hl]; kernel_rfl)
theorem store_rp {X : World} {q : Nat} {M L : List Value} (h : Blk X q 32 M) (hm : M.length = 65) (hl : L.length = 65) (h1 : ∀ u ∈ L, u.oneCell' = true) :
    ∃ Y, (Instr.storeAt 32 (.pointer (some ⟨q, 0, none⟩)) (.agg L.toArray)).run Try.prog X = .ok () Y ∧ Blk Y q 32 L ∧ Fr (· = q) X Y :=
  h.stored L (by omega) (by rw [hl]; kernel_rfl) (by simpa using h1)

/-- A call by value: the box q of what came in, the result's variable at c. -/
structure RB (w : World) (q c : Nat) (L M : List Value) (X : World) : Prop where
  fr : Fr No w X
  q0 : w.heap.size ≤ q
  qc : q ≠ c
  c0 : w.heap.size ≤ c
  box : Blk X q 32 L
  res : Blk X c 32 M
theorem RB.on {w X Y : World} {q c : Nat} {L M : List Value} (k : RB w q c L M X) (f : Fr No X Y) : RB w q c L M Y := ⟨k.fr.trans f, k.q0, k.qc, k.c0, k.box.fr f id, k.res.fr f id⟩
theorem RB.new (w : World) (L : List Value) : RB w w.heap.size (w.heap.size + 1) L zeroP ((w.alloc (.cells L.toArray 32)).alloc (.cells zeroP.toArray 32)) := by
  have h := Blk.new (w.alloc (.cells L.toArray 32)) 32 zeroP
  rw [World.size_alloc] at h
  exact ⟨((Fr.refl No w).alloc _).alloc _, Nat.le_refl _, by omega, by omega, (Blk.new w _ L).alloc _, h⟩
/-- What is handed back. -/
theorem RB.put {w X : World} {q c : Nat} {L M N : List Value} (k : RB w q c L M X) (hm : M.length = 65) (hl : N.length = 65) (h1 : ∀ u ∈ N, u.oneCell' = true) :
    ∃ Y, (Instr.storeAt 32 (.pointer (some ⟨c, 0, none⟩)) (.agg N.toArray)).run Try.prog X = .ok () Y ∧ (Go.loadVar 32 ⟨c, 0, none⟩).run Try.prog Y = .ok (.agg N.toArray) Y ∧ Fr No w Y ∧ Fr (· = c) X Y := by
  obtain ⟨Y, hY, hB, hF⟩ := store_rp k.res hm hl h1
  exact ⟨Y, hY, var_rp hB hl, k.fr.trans' hF (fun i hi e => by have := k.c0; omega), hF⟩

set_option maxHeartbeats 4000000 in
theorem radd9_any (s : Ps) (ao : Option Addr) (cap k v : Nat) (d : Int) (w : World) (hd : DAt ao cap s w) (hl : s.h.length = 32) (hb : s.b.length ≤ 32) (hk : k < s.b.length) (hv : IntKind.u64.wrap ((s.bal k : Int) + d) = (v : Int)) :
    Calls Try.prog 43 #[vP ao s.b.length cap s.h, .int .i64 (k : Int), .int .u64 d] w fun e w' => ∃ r c, e = .returned (vP (some ⟨r, 0, none⟩) s.b.length c s.h) ∧ w.heap.size ≤ r ∧ DAt (some ⟨r, 0, none⟩) c ⟨s.b.set k v, s.h⟩ w' ∧ Fr No w w' := by
  obtain ⟨i0, hi, hz0, hz1, hz2⟩ := info_parts Try.infoU64
  obtain ⟨r0, rfl, _⟩ := hd.row k hk
  have HD := Lib.hid hd
  have HHL := Lib.hid hl
  have HB := Lib.hid hb
  have HK := Lib.hid hk
  obtain ⟨n, hn⟩ : ∃ n, n = s.b.length := ⟨_, rfl⟩
  have HN := Lib.hid hn
  obtain ⟨x, hx⟩ : ∃ x, x = s.bal k := ⟨_, rfl⟩
  have HX := Lib.hid hx
  obtain ⟨L, hL⟩ : ∃ L, L = cellsP (some ⟨r0, 0, none⟩) n cap s.h := ⟨_, rfl⟩
  have HL := Lib.hid hL
  have HR : Hid (RB w w.heap.size (w.heap.size + 1) L zeroP ((w.alloc (.cells L.toArray 32)).alloc (.cells zeroP.toArray 32))) := Lib.hid (RB.new w L)
  obtain ⟨q, hq⟩ : ∃ q, q = w.heap.size := ⟨_, rfl⟩
  obtain ⟨c, hc⟩ : ∃ c, c = w.heap.size + 1 := ⟨_, rfl⟩
  have HQ := Lib.hid hq
  have HC := Lib.hid hc
  have t1 : (k : Int) < (n : Int) := by omega
  have HAL : Hid ((Instr.alloc 32 true (.tuple #[])).run Try.prog (w.alloc (.cells L.toArray 32)) = .ok (.pointer (some ⟨c, 0, none⟩)) ((w.alloc (.cells L.toArray 32)).alloc (.cells zeroP.toArray 32))) := Lib.hid (by
    have := alloc_rp (w.alloc (.cells L.toArray 32))
    rw [World.size_alloc] at this
    rw [hc]
    exact this)
  rw [vP, ← hn, ← hL]
  rw [← hx] at hv
  clear hd hl hb hk hL hn hx hq hc
  go_enter Try.func43, Try.ntmps43
  go_wp2_with (refine wpList_execG (.pointer (some ⟨c, 0, none⟩)) (exec_alloc 32 rfl _ HAL.out) rfl ?_
               rw [← HQ.out]
               refine wpList_world (fun W => RB w q c L zeroP W) (by rw [HQ.out, HC.out]; exact HR.out) ?_
               intro X hX
               have HX0 := Lib.hid hX
               have c0 := hX.box.cell (i := 0) (v := .slice (some ⟨r0, 0, none⟩) n cap) (by rw [HL.out]; rfl)
               have hqX : q < X.heap.size := hX.box.lt
               clear hX
               go_wp2_with (at_builtin; refine wpList_append_own _ rfl _ _ 22 rfl X.heap.size 27 i0 (.int .u64 0) 1 8 Try.underlying22 hi hz0 hz1 hz2 rfl (by decide) _ _ _ rfl (World.ownsRow_made X #[] 0 (Nat.le_refl _) (Nat.zero_le _) rfl) ⟨r0, 0, none⟩ n cap (cells64 s.b) rfl ?c1 ?c2 ?c3 ?c4 ?c5 ?c6 ?c7))
  case c1 => simp [cells64, HN.out]
  case c2 =>
    intro j u hu
    obtain ⟨hj, rfl⟩ := cells64_get hu
    obtain ⟨a', ha, hc⟩ := HD.out.row j hj
    injection ha with ha
    injection ha with ha
    subst ha
    rw [Addr.add_lit, Nat.zero_add]
    have hc2 := HX0.out.fr.cell id hc
    exact (World.cell?_alloc_lt _ _ _ (World.block_lt_of_cell? _ _ hc2)).trans hc2
  case c3 => exact cells64_one s.b
  case c4 => have := HB.out; have := HN.out; unfold maxLen; omega
  case c5 => have := HB.out; have := HN.out; omega
  case c6 => simp
  case c7 =>
    intro v' w1 hown' hgrow _
    have HE : Hid (∃ g c, v' = .slice (some ⟨g, 0, none⟩) n c ∧ X.heap.size ≤ g ∧ g < w1.heap.size ∧ Rw w1 g s.b) := Lib.hid (own64 (by simpa using hown') HN.out (by have := HK.out; have := HN.out; omega))
    have HF : Hid (Fr No X w1) := Lib.hid ((((Fr.refl (· = X.heap.size) X).alloc _).trans (Fr.of_grown hgrow fun k hk => by simpa [Value.ownBlock] using hk.symm)).mono fun k hk e => by omega)
    obtain ⟨r, c', rfl, h3⟩ := HE.out
    have H3 := Lib.hid h3
    have HR1 := Lib.hid (HX0.out.on HF.out)
    have cq := HR1.out.box.cell (i := 0) (v := .slice (some ⟨r0, 0, none⟩) n cap) (by rw [HL.out]; rfl)
    have fq := HR1.out.box.frozen 0
    clear hown' hgrow HE h3 c0
    go_wp2
    refine wp_world (fun W => RB w q c (cellsP (some ⟨r, 0, none⟩) n c' s.h) zeroP W ∧ Rw W r s.b ∧ w.heap.size ≤ r) (by
      have h := HR1.out
      have hb := h.box.set 0 (.slice (some ⟨r, 0, none⟩) n c')
      have e : L.set 0 (.slice (some ⟨r, 0, none⟩) n c') = cellsP (some ⟨r, 0, none⟩) n c' s.h := by rw [HL.out]; rfl
      rw [e] at hb
      have hF : Fr (· = q) w1 (w1.setCell ⟨q, 0, none⟩ (.slice (some ⟨r, 0, none⟩) n c')) := Fr.setCell (S := (· = q)) (p := ⟨q, 0, none⟩) (Fr.refl _ w1) (.inl rfl) _
      have hqr : q ≠ r := fun e => by have := H3.out.1; have := HX0.out.box.lt; omega
      exact ⟨⟨h.fr.trans' hF (fun i hi e => by have := h.q0; omega), h.q0, h.qc, h.c0, hb, h.res.fr hF (fun e => h.qc e.symm)⟩, H3.out.2.2.fr hF (fun e => hqr e.symm), by have := H3.out.1; have := HX0.out.fr.size; omega⟩) ?_
    rintro Y ⟨hY1, hY2, hY3⟩
    have HY1 := Lib.hid hY1
    have HY2 := Lib.hid hY2
    have HY3 := Lib.hid hY3
    have d0 := hY1.box.cell (i := 0) (v := .slice (some ⟨r, 0, none⟩) n c') rfl
    have d1 := (hY2 k HK.out).1
    have d2 := (hY2 k HK.out).2
    rw [show s.b.getD k 0 = x from HX.out.symm] at d1
    obtain ⟨L', hL'⟩ : ∃ L', L' = cellsP (some ⟨r, 0, none⟩) n c' s.h := ⟨_, rfl⟩
    have HL' := Lib.hid hL'
    have hl65 : L'.length = 65 := by rw [hL']; exact cellsP_len HHL.out
    have hone : ∀ u ∈ L', u.oneCell' = true := by rw [hL']; exact cellsP_one
    have HZ : Hid (RB w q c L' zeroP (Y.setCell ⟨r, k, none⟩ (.int .u64 (v : Int))).drew ∧ Rw (Y.setCell ⟨r, k, none⟩ (.int .u64 (v : Int))).drew r (s.b.set k v)) := Lib.hid (by
      have hF : Fr (· = r) Y (Y.setCell ⟨r, k, none⟩ (.int .u64 (v : Int))).drew := (Fr.setCell (S := (· = r)) (p := ⟨r, k, none⟩) (Fr.refl _ Y) (.inl rfl) _).drew
      have hrq : q ≠ r := fun e => by
        subst e
        have h0 := HY2.out 0 (by have := HK.out; omega)
        rw [d0] at h0
        have := h0.1
        injection this with this
        cases this
      have hrc : c ≠ r := fun e => by
        subst e
        have h0 := HY2.out 0 (by have := HK.out; omega)
        rw [HY1.out.res.cell (i := 0) (v := .slice none 0 0) rfl] at h0
        have := h0.1
        injection this with this
        cases this
      rw [hL']
      exact ⟨⟨HY1.out.fr.trans' hF (fun i hi e => by have := HY3.out; omega), HY1.out.q0, HY1.out.qc, HY1.out.c0, HY1.out.box.fr hF hrq, HY1.out.res.fr hF hrc⟩, (HY2.out.set HK.out v).fr (Fr.refl No _).drew id⟩)
    have HLD := Lib.hid (load_rp HZ.out.1.box hl65)
    obtain ⟨Z, hZ, hZv, hZF, hZc⟩ := HZ.out.1.put (cellsP_len rfl) hl65 hone
    have HST := Lib.hid hZ
    have HSV := Lib.hid hZv
    have HFZ := Lib.hid hZF
    have HFZ2 := Lib.hid (HZ.out.2.fr hZc (fun e => by
      subst e
      have h0 := HZ.out.2 0 (by rw [List.length_set]; have := HK.out; omega)
      rw [HZ.out.1.res.cell (i := 0) (v := .slice none 0 0) rfl] at h0
      have := h0.1
      injection this with this
      cases this))
    have HL3 : Hid (L' = cellsP (some ⟨r, 0, none⟩) n c' s.h) := HL'
    clear hY1 hY2 hY3 hL' hl65 hone hZ hZv hZF hZc cq fq hqX
    go_region
    all_goals
      go_wp2_with (first
        | (refine wpList_load_eq rfl 32 _ rfl (.pointer (some ⟨q, 0, none⟩)) (.agg L'.toArray) rfl HLD.out ?_)
        | (refine wpList_store_eq rfl 32 _ _ rfl (.pointer (some ⟨c, 0, none⟩)) (.agg L'.toArray) rfl rfl HST.out ?_))
      refine bodyPost_ret (results_cell1 rfl rfl HSV.out) rfl ⟨r, c', ?_, HY3.out, ⟨fun i hi => ⟨r, rfl, ?_⟩⟩, HFZ.out⟩
      · rw [HL3.out]
      · exact (HFZ2.out i hi).1
end Go.Proofs.Ytldcglmpnildiaa
