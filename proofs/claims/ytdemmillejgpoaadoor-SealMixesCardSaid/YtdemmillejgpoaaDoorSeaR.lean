/- Bytes that are appended one by one, of more than one slice; the document's keys mixed, its tags and hashes. -/
import Derived.Test.YtdemmillejgpoaaDoorSeaB
import Derived.Test.YtdemmillejgpoaaDoorRefS
namespace Go.Proofs.YtdemmillejgpoaaDoor
open Go.RowKit
set_option linter.unusedVariables false

/-- The slice v lies at the front of block g, holds the bytes bs; the places behind them are there, and may be written. -/
def Bg (g : Nat) (v : Value) (bs : List UInt8) (w : World) : Prop :=
  g < w.heap.size ∧ ∃ cap, v = .slice (some ⟨g, 0, none⟩) bs.length cap ∧ (∀ j u, (bs.map u8v)[j]? = some u → w.cell? ⟨g, 0 + j, none⟩ = some u) ∧
    ∀ j, bs.length ≤ j → j < cap → (w.cell? ⟨g, j, none⟩).isSome = true ∧ w.frozen? ⟨g, j, none⟩ = false

theorem Bg.lt {g : Nat} {v : Value} {bs : List UInt8} {w : World} (h : Bg g v bs w) : g < w.heap.size := h.1
theorem Bg.fr {S : Nat → Prop} {g : Nat} {v : Value} {bs : List UInt8} {w w' : World} (h : Bg g v bs w) (f : Fr S w w') (hn : ¬ S g) : Bg g v bs w' := by
  obtain ⟨hl, cap, hv, hc, hs⟩ := h
  refine ⟨Nat.lt_of_lt_of_le hl f.size, cap, hv, fun j u hu => f.cell hn (hc j u hu), fun j h1 h2 => ?_⟩
  obtain ⟨x, hx⟩ := Option.isSome_iff_exists.1 (hs j h1 h2).1
  exact ⟨by rw [f.cell hn hx]; rfl, (f.frozen j (lt_cell hx) hn).trans (hs j h1 h2).2⟩
theorem Bg.bf {g : Nat} {v : Value} {bs : List UInt8} {w : World} (h : Bg g v bs w) : Bf 0 v bs w := by
  obtain ⟨hl, cap, hv, hc, hs⟩ := h
  exact ⟨g, cap, hv, Nat.zero_le _, hc, hs⟩
theorem Bg.str {g : Nat} {v : Value} {bs : List UInt8} {w : World} (h : Bg g v bs w) : (convert 31 9 v).run Tryd.prog w = .ok (.string (str bs)) w := h.bf.str

/-- One byte more. -/
theorem wpList_app1g {ops : Array Oper} {rest : List Oper} {o : Oper} {a : Act} {w : World} {Q : Exit → Act → World → Prop} (hgd : o.guard = none) (s x : Operand)
    (ho : o.op = .call { callee := .builtin .append, args := #[s, x], argTypes := #[31, 31] }) {g : Nat} {v : Value} {bs : List UInt8} (hb : Bg g v bs w) (hs : a.eval s = v)
    (ad : Addr) (c : Nat) (b : UInt8) (hx : a.eval x = .slice (some ad) 1 c) (hc : w.cell? ad = some (u8v b)) (hl : bs.length ≤ 100000)
    (h : ∀ v' w' g', Bg g' v' (bs ++ [b]) w' → (g' = g ∨ w.heap.size ≤ g') → Fr (fun k => k = g) w w' → wpList Tryd.prog ops Q rest (a.put o.dst v') w') : wpList Tryd.prog ops Q (o :: rest) a w := by
  obtain ⟨i0, hi, hz0, hz1, hz2⟩ := info_parts Tryd.infoU8
  obtain ⟨hlt, cap, hv, hcs, hsp⟩ := hb
  have hadd0 : ∀ j u, [u8v b][j]? = some u → w.cell? (ad.add j) = some u := by
    intro j u hu
    cases j with
    | zero =>
      have e : ad.add 0 = ad := by cases ad; unfold Addr.add; split <;> simp_all
      rw [e, hc]
      simpa using hu
    | succ j => simp at hu
  refine wpList_append_arg w hgd s x 31 ho 5 i0 (.int .u8 0) 1 1 Tryd.underlying31 hi hz0 hz1 hz2 rfl (by decide) g 0 bs.length cap (bs.map u8v) (hs.trans hv) (by simp) hcs ad 1 c [u8v b] hx rfl hadd0 (by intro u hu; simp at hu; subst hu; rfl) ?_ (by unfold maxLen; omega) (by omega) ?_ ?_
  · intro hr j hj
    have h0 : j = 0 := by simpa using hj
    subst h0
    simpa using hsp bs.length (Nat.le_refl _) (by omega)
  · intro hr
    have hspn := hsp bs.length (Nat.le_refl _) (by omega)
    obtain ⟨y, hy⟩ := Option.isSome_iff_exists.1 hspn.1
    have hw : w.setCells g (0 + bs.length * 1) [u8v b] = w.setCell ⟨g, bs.length, none⟩ (u8v b) := by simp [World.setCells]
    rw [hw]
    refine h _ _ g ⟨by simpa [World.setCell] using hlt, cap, by simp, fun j u hu => ?_, fun j h1 h2 => ?_⟩ (.inl rfl) ((Fr.refl (fun k => k = g) w).setCell (p := ⟨g, bs.length, none⟩) (.inl rfl) _)
    · rw [Nat.zero_add]
      have hu' : (bs.map u8v ++ [u8v b])[j]? = some u := by simpa using hu
      rcases Nat.lt_trichotomy j bs.length with hj | hj | hj
      · rw [List.getElem?_append_left (by simpa using hj)] at hu'
        have := hcs j u hu'
        rw [Nat.zero_add] at this
        rw [World.cell?_setCell_other _ _ _ _ (by simp <;> omega)]
        exact this
      · subst hj
        rw [List.getElem?_append_right (by simp)] at hu'
        rw [World.cell?_setCell_same _ _ _ hy]
        simpa using hu'
      · rw [List.getElem?_eq_none (by simp <;> omega)] at hu'
        cases hu'
    · have h3 := hsp j (by simp at h1; omega) h2
      rw [World.frozen?_setCell, World.cell?_setCell_other _ _ _ _ (by simp at h1 ⊢; omega)]
      exact h3
  · intro hr v' w' hown hgr
    have hown' : w'.ownsRow w.heap.size 5 1 v' (bs ++ [b]).length ((bs ++ [b]).map u8v) := by simpa using hown
    obtain ⟨g', cap', hv', hB', h1, h2⟩ := own_Bf (by simp) hown'
    have hg' : g' < w'.heap.size := lt_cell (h1 0 ((bs ++ [b]).map u8v)[0] (List.getElem?_eq_getElem (by simp)))
    exact h _ _ g' ⟨hg', cap', hv', h1, h2⟩ (.inr hB') (Fr.of_grown hgr (fun k hk => by cases hk))

/-- The first i bytes mixed. -/
def mst (k : List UInt8) (m : UInt8) (i : Nat) : List UInt8 := (mixL k m).take i
theorem mst_succ (k : List UInt8) (m : UInt8) (i : Nat) (hk : k.length ≤ 64) (hi : i < 64) : mst k m (i + 1) = mst k m i ++ [k.getD i 0 ^^^ m] := by
  have hl := mixL_len m hk
  rw [mst, mst, List.take_succ_eq_append_getElem (by omega)]
  congr 2
  have h2 := fillL_getD k i
  rw [List.getD_eq_getElem?_getD, List.getElem?_eq_getElem (by rw [fillL_len hk]; exact hi)] at h2
  simp only [mixL, List.getElem_map]
  rw [← h2]
  rfl
theorem mst_all (k : List UInt8) (m : UInt8) (hk : k.length ≤ 64) : mst k m 64 = mixL k m := List.take_of_length_le (by rw [mixL_len m hk]; omega)
theorem mst_len (k : List UInt8) (m : UInt8) (i : Nat) (hk : k.length ≤ 64) (hi : i ≤ 64) : (mst k m i).length = i := by rw [mst, List.length_take, mixL_len m hk]; omega

set_option maxHeartbeats 1000000 in
set_option maxRecDepth 100000 in
theorem rmixed_any (k : List UInt8) (m : UInt8) (w : World) (hk : k.length ≤ 64) :
    Calls Tryd.prog 16 #[.string (str k), .int .u8 (m.toNat : Int)] w fun ex w' => ex = .returned (.string (str (mixL k m))) ∧ Fr No w w' := by
  obtain ⟨n, hn⟩ : ∃ n, n = k.length := ⟨_, rfl⟩
  have hsz : (str k).size = n := by rw [str_size, hn]
  have hn64 : (n : Int) ≤ 64 := by omega
  obtain ⟨M, hM⟩ : ∃ M : Nat, M = m.toNat := ⟨_, rfl⟩
  have HM8 : Hid (M < 256) := Lib.hid (by rw [hM]; exact m.toNat_lt)
  rw [← hM]
  have HM := Lib.hid hM
  have HN := Lib.hid hn
  have HK := Lib.hid hk
  clear hM hn hk
  obtain ⟨B, hB⟩ : ∃ B, B = w.heap.size := ⟨_, rfl⟩
  have HBB := Lib.hid hB
  have HB0 : Hid (Bg B (.slice (some ⟨B, 0, none⟩) 0 0) (mst k m 0) (w.alloc (.cells #[] 5))) := Lib.hid ⟨by rw [hB]; simp, 0, rfl, fun j u hu => by simp [mst] at hu, fun j h1 h2 => by omega⟩
  have HF0 : Hid (Fr No w (w.alloc (.cells #[] 5))) := Lib.hid ((Fr.refl No w).alloc _)
  go_enter Tryd.func16, Tryd.ntmps16
  go_wp2
  rw [← hB]
  clear hB
  go_loopw [5, 6] (fun v c wr => ∃ i g : Nat, i ≤ 64 ∧ c = .int .i64 i ∧ Bg g v (mst k m i) wr ∧ B ≤ g ∧ Fr No w wr) (fun _ c _ => 64 - (intOf c).toNat)
  case atStart => exact ⟨0, B, by omega, rfl, HB0.out, Nat.le_refl _, HF0.out⟩
  clear HB0 HF0
  case round =>
    obtain ⟨i, g, hi, rfl, hb, hg, hF⟩ := hrel
    have hb' := hb
    obtain ⟨_, cap, hv, _, _⟩ := hb'
    rw [mst_len _ _ _ HK.out hi] at hv
    subst hv
    by_cases hlt : i < 64
    · have h1 : (i : Int) < 64 := by omega
      obtain ⟨b, hbx⟩ : ∃ b, b = k.getD i 0 := ⟨_, rfl⟩
      have hget : ∀ h : i < (str k).size, (str k)[i]'h = b := fun h => (str_get k i h).trans hbx.symm
      obtain ⟨c, hc⟩ : ∃ c : Nat, c = b.toNat := ⟨_, rfl⟩
      obtain ⟨x, hx⟩ : ∃ x, x = b ^^^ m := ⟨_, rfl⟩
      obtain ⟨y, hy⟩ : ∃ y, y = x.toNat := ⟨_, rfl⟩
      have hxo : bits .xor .u8 (c : Int) (M : Int) = (y : Int) := by rw [u8_xor_nat _ _ (by rw [hc]; exact b.toNat_lt) HM8.out, hy, hx, hc, HM.out]; simp
      have HNX : Hid (mst k m (i + 1) = mst k m i ++ [x]) := Lib.hid (by rw [hx, hbx]; exact mst_succ k m i HK.out hlt)
      have HB2 : Hid (Bg g (.slice (some ⟨g, 0, none⟩) i cap) (mst k m i) (wr.alloc (.cells #[.int .u8 y] 5))) := Lib.hid (hb.fr ((Fr.refl No wr).alloc _) id)
      have HF := Lib.hid (hF.alloc (.cells #[.int .u8 y] 5))
      have HY := Lib.hid hy
      have HLEN : Hid ((mst k m i).length ≤ 100000) := Lib.hid (by rw [mst_len _ _ _ HK.out hi]; omega)
      have HGB := Lib.hid hg
      by_cases hin : i < n
      · have h2 : (i : Int) < (n : Int) := by omega
        have hcv : (b.toNat : Int) = (c : Int) := by omega
        clear hbx hc hx hy hb hF hg
        go_wp2_with (refine wpList_app1g rfl _ _ rfl HB2.out rfl ⟨wr.heap.size, 0, none⟩ 1 x rfl (by rw [World.cell?_alloc_at _ _ _ _ rfl, HY.out]; rfl) HLEN.out ?_
                     intro v2 w2 g2 hb2 hg2 hF2
                     have HB3 := Lib.hid hb2
                     have HF2 := Lib.hid hF2
                     have HG2 := Lib.hid hg2
                     clear hb2 hF2 hg2)
        refine ⟨⟨i + 1, g2, by omega, by simp, by rw [HNX.out]; exact HB3.out, ?_, HF.out.trans' HF2.out (fun k hk e => by have := HGB.out; have := HBB.out; omega)⟩, by simp [intOf]; omega⟩
        have := HG2.out
        have := HF.out.size
        have := HGB.out
        have := HBB.out
        omega
      · have h2 : ¬ (i : Int) < (n : Int) := by omega
        have hc0 : c = 0 := by
          rw [hc, hbx, List.getD_eq_getElem?_getD, List.getElem?_eq_none (by have := HN.out; omega)]
          rfl
        have hxo0 : bits .xor .u8 (0 : Int) (M : Int) = (y : Int) := by rw [hc0] at hxo; exact hxo
        clear hxo
        clear hbx hc hx hy hb hF hc0 hget hg
        go_wp2_with (refine wpList_app1g rfl _ _ rfl HB2.out rfl ⟨wr.heap.size, 0, none⟩ 1 x rfl (by rw [World.cell?_alloc_at _ _ _ _ rfl, HY.out]; rfl) HLEN.out ?_
                     intro v2 w2 g2 hb2 hg2 hF2
                     have HB3 := Lib.hid hb2
                     have HF2 := Lib.hid hF2
                     have HG2 := Lib.hid hg2
                     clear hb2 hF2 hg2)
        refine ⟨⟨i + 1, g2, by omega, by simp, by rw [HNX.out]; exact HB3.out, ?_, HF.out.trans' HF2.out (fun k hk e => by have := HGB.out; have := HBB.out; omega)⟩, by simp [intOf]; omega⟩
        have := HG2.out
        have := HF.out.size
        have := HGB.out
        have := HBB.out
        omega
    · obtain rfl : i = 64 := by omega
      rw [mst_all _ _ HK.out] at hb
      have HST := Lib.hid hb.str
      have HF := Lib.hid hF
      clear hb hF
      go_wp2_with (refine wpList_convert_eq rfl 31 9 _ rfl _ _ rfl HST.out ?_)
      go_ret
      exact ⟨rfl, HF.out⟩
end Go.Proofs.YtdemmillejgpoaaDoor
