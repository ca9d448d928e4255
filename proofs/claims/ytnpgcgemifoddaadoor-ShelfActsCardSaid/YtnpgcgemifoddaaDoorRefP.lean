/- The padding of a text, as the document has it. -/
import Derived.Test.YtnpgcgemifoddaaDoorRefA
import Derived.ArgAppend
import Derived.Laws.IdiomStrings
namespace Go.Proofs.YtnpgcgemifoddaaDoor
open Go.RowKit
set_option linter.unusedVariables false

/-- The slice v, in a block from B on, holds the bytes bs; the places behind them are there, and may be written. -/
def Bf (B : Nat) (v : Value) (bs : List UInt8) (w : World) : Prop :=
  ∃ g cap, v = .slice (some ⟨g, 0, none⟩) bs.length cap ∧ B ≤ g ∧ (∀ j u, (bs.map u8v)[j]? = some u → w.cell? ⟨g, 0 + j, none⟩ = some u) ∧
    ∀ j, bs.length ≤ j → j < cap → (w.cell? ⟨g, j, none⟩).isSome = true ∧ w.frozen? ⟨g, j, none⟩ = false

theorem Bf.fr {B : Nat} {v : Value} {bs : List UInt8} {w w' : World} (h : Bf B v bs w) (f : Fr No w w') : Bf B v bs w' := by
  obtain ⟨g, cap, hv, hB, hc, hs⟩ := h
  refine ⟨g, cap, hv, hB, fun j u hu => f.cell id (hc j u hu), fun j h1 h2 => ?_⟩
  obtain ⟨x, hx⟩ := Option.isSome_iff_exists.1 (hs j h1 h2).1
  exact ⟨by rw [f.cell id hx]; rfl, (f.frozen j (lt_cell hx) id).trans (hs j h1 h2).2⟩

theorem own_Bf {B : Nat} {v : Value} {bs : List UInt8} {w : World} (hb : bs ≠ []) (h : w.ownsRow B 5 1 v bs.length (bs.map u8v)) : Bf B v bs w := by
  rcases h.2 with ⟨_, hn⟩ | ⟨g, cap, cur, hv, hB, hg, hc, _, hs, ht⟩
  · exact absurd (List.eq_nil_of_length_eq_zero hn) hb
  · refine ⟨g, cap, hv, hB, fun j u hu => ?_, fun j h1 h2 => ?_⟩
    · rw [Nat.zero_add, cell_of_row w g j cur _ (0, 0) hg]
      rw [← ht, List.getElem?_take] at hu
      split at hu
      · simpa using hu
      · cases hu
    · rw [cell_of_row w g j cur _ (0, 0) hg]
      refine ⟨by rw [Array.getElem?_eq_getElem (by omega)]; rfl, ?_⟩
      unfold World.frozen?
      rw [show w.heap[(⟨g, j, none⟩ : Addr).block]? = _ from hg]
      simp

theorem wpList_convert_eq {P : Program} {ops : Array Oper} {rest : List Oper} {o : Oper} {a : Act} {w w' : World} {Q : Exit → Act → World → Prop} (hgd : o.guard = none) (s t : TypeId) (x : Operand) (ho : o.op = .convert s t x)
    (vx v : Value) (hx : a.eval x = vx) (hr : (convert s t vx).run P w = .ok v w') (h : wpList P ops Q rest (a.put o.dst v) w') : wpList P ops Q (o :: rest) a w :=
  wpList_plain hgd fun _ hK => by
    unfold Oper.wp execOp
    simp only [ho, hx, hr, Sem.run_bind, Sem.run_pure, Result.andThen_ok]
    exact hK _ _ h

/-- The bytes of a text, as a new slice. -/
theorem bytes_of (s : List UInt8) (w : World) : ∃ v w', (convert 9 76 (.string (str s))).run Tryd.prog w = .ok v w' ∧ Bf w.heap.size v s w' ∧ Fr No w w' := by
  have h := run_bytes_of_string (P := Tryd.prog) w 9 76 5 (str s) Tryd.underlying9 Tryd.underlying76 Tryd.underlying5
  have hge := grownCap_ge w (str s).size 0 5
  rw [str_size] at h hge
  refine ⟨_, _, h, ⟨w.heap.size, _, rfl, Nat.le_refl _, ?_, ?_⟩, (Fr.refl No w).drew.alloc _⟩
  · intro j u hu
    have hn := heap_alloc_new w.drew (.cells (bytesRow (str s) (grownCap w s.length 0 5)) 5 ((bytesRow (str s) (grownCap w s.length 0 5)).size, (bytesRow (str s) (grownCap w s.length 0 5)).size + 1))
    rw [show w.drew.heap.size = w.heap.size from rfl] at hn
    rw [cell_of_row _ _ _ _ _ _ hn, Nat.zero_add]
    have hj : j < s.length := by have := (List.getElem?_eq_some_iff.1 hu).1; simpa using this
    rw [← hu]
    simp [bytesRow, str, Array.getElem?_append, hj]
  · intro j h1 h2
    have hn := heap_alloc_new w.drew (.cells (bytesRow (str s) (grownCap w s.length 0 5)) 5 ((bytesRow (str s) (grownCap w s.length 0 5)).size, (bytesRow (str s) (grownCap w s.length 0 5)).size + 1))
    have hsz : (bytesRow (str s) (grownCap w s.length 0 5)).size = grownCap w s.length 0 5 := by
      simp [bytesRow, str, ByteArray.size]; omega
    rw [show w.drew.heap.size = w.heap.size from rfl] at hn
    rw [cell_of_row _ _ _ _ _ _ hn]
    refine ⟨by rw [Array.getElem?_eq_getElem (by omega)]; rfl, ?_⟩
    unfold World.frozen?
    rw [show (w.drew.alloc _).heap[(⟨w.heap.size, j, none⟩ : Addr).block]? = _ from hn]
    simp only [hsz]
    simp
    omega

/-- One byte more. -/
theorem wpList_app1 {ops : Array Oper} {rest : List Oper} {o : Oper} {a : Act} {w : World} {Q : Exit → Act → World → Prop} (hgd : o.guard = none) (s x : Operand)
    (ho : o.op = .call { callee := .builtin .append, args := #[s, x], argTypes := #[76, 76] }) {B : Nat} {v : Value} {bs : List UInt8} (hb : Bf B v bs w) (hs : a.eval s = v)
    (ad : Addr) (c : Nat) (b : UInt8) (hx : a.eval x = .slice (some ad) 1 c) (hc : w.cell? ad = some (u8v b)) (hB : B ≤ w.heap.size) (hl : bs.length ≤ 100000)
    (h : ∀ v' w', Bf B v' (bs ++ [b]) w' → Fr (fun k => B ≤ k) w w' → wpList Tryd.prog ops Q rest (a.put o.dst v') w') : wpList Tryd.prog ops Q (o :: rest) a w := by
  obtain ⟨i0, hi, hz0, hz1, hz2⟩ := info_parts Tryd.infoU8
  obtain ⟨g, cap, hv, hBg, hcs, hsp⟩ := hb
  have hadd0 : ∀ j u, [u8v b][j]? = some u → w.cell? (ad.add j) = some u := by
    intro j u hu
    cases j with
    | zero =>
      have e : ad.add 0 = ad := by cases ad; unfold Addr.add; split <;> simp_all
      rw [e, hc]
      simpa using hu
    | succ j => simp at hu
  refine wpList_append_arg w hgd s x 76 ho 5 i0 (.int .u8 0) 1 1 Tryd.underlying76 hi hz0 hz1 hz2 rfl (by decide) g 0 bs.length cap (bs.map u8v) (hs.trans hv) (by simp) hcs ad 1 c [u8v b] hx rfl hadd0 (by intro u hu; simp at hu; subst hu; rfl) ?_ (by unfold maxLen; omega) (by omega) ?_ ?_
  · intro hr j hj
    have h0 : j = 0 := by simpa using hj
    subst h0
    simpa using hsp bs.length (Nat.le_refl _) (by omega)
  · intro hr
    have hspn := hsp bs.length (Nat.le_refl _) (by omega)
    obtain ⟨y, hy⟩ := Option.isSome_iff_exists.1 hspn.1
    have hw : w.setCells g (0 + bs.length * 1) [u8v b] = w.setCell ⟨g, bs.length, none⟩ (u8v b) := by simp [World.setCells]
    rw [hw]
    refine h _ _ ⟨g, cap, by simp, hBg, fun j u hu => ?_, fun j h1 h2 => ?_⟩ ((Fr.refl _ w).setCell (.inl hBg) _)
    · rw [Nat.zero_add]
      have hu' : (bs.map u8v ++ [u8v b])[j]? = some u := by simpa using hu
      rcases Nat.lt_trichotomy j bs.length with hj | hj | hj
      · rw [List.getElem?_append_left (by simpa using hj)] at hu'
        have := hcs j u hu'
        rw [Nat.zero_add] at this
        rw [World.cell?_setCell_other _ _ _ _ (by simp <;> omega)]
        exact this
      · subst hj
        rw [List.getElem?_append_right (by simp)] at hu'
        rw [World.cell?_setCell_same _ _ _ hy]
        simpa using hu'
      · rw [List.getElem?_eq_none (by simp <;> omega)] at hu'
        cases hu'
    · have h3 := hsp j (by simp at h1; omega) h2
      rw [World.frozen?_setCell, World.cell?_setCell_other _ _ _ _ (by simp at h1 ⊢; omega)]
      exact h3
  · intro hr v' w' hown hgr
    have hown' : w'.ownsRow w.heap.size 5 1 v' (bs ++ [b]).length ((bs ++ [b]).map u8v) := by simpa using hown
    obtain ⟨g', cap', hv', hB', h1, h2⟩ := own_Bf (by simp) hown'
    exact h _ _ ⟨g', cap', hv', Nat.le_trans hB hB', h1, h2⟩ (Fr.of_grown hgr (fun k hk => by cases hk))

theorem Bf.str {B : Nat} {v : Value} {bs : List UInt8} {w : World} (h : Bf B v bs w) : (convert 76 9 v).run Tryd.prog w = .ok (.string (str bs)) w := by
  obtain ⟨g, cap, rfl, _, hc, _⟩ := h
  refine run_convert_bytes_back (P := Tryd.prog) w 76 9 5 ⟨g, 0, none⟩ cap bs Tryd.underlying76 Tryd.underlying5 Tryd.underlying9 (fun j hj => ?_)
  have := hc j (u8v bs[j]) (by simp [hj])
  rwa [Addr.add_lit]

def slen : Value → Nat
  | .slice _ n _ => n
  | _ => 0

/-- The first j of the eight bytes. -/
def hd8 (n j : Nat) : List UInt8 := (List.range j).map (fun j => UInt8.ofNat (8 * n / 2 ^ (8 * (7 - j)) % 256))
theorem hd8_succ (n j : Nat) : hd8 n (j + 1) = hd8 n j ++ [UInt8.ofNat (8 * n / 2 ^ (8 * (7 - j)) % 256)] := by
  simp [hd8, List.range_succ]
theorem hd8_len (n j : Nat) : (hd8 n j).length = j := by simp [hd8]

set_option maxHeartbeats 1000000 in
set_option maxRecDepth 100000 in
theorem rpad_any (s : List UInt8) (w : World) (hs : s.length ≤ 90000) :
    Calls Tryd.prog 36 #[.string (str s)] w fun ex w' => ex = .returned (.string (str (padded s))) ∧ Fr No w w' := by
  obtain ⟨n, hn⟩ : ∃ n, n = s.length := ⟨_, rfl⟩
  obtain ⟨z, hz⟩ : ∃ z, z = (119 - n % 64) % 64 := ⟨_, rfl⟩
  obtain ⟨t, ht⟩ : ∃ t, t = 8 * n := ⟨_, rfl⟩
  have hsz : (str s).size = n := by rw [str_size, hn]
  have hn9 : (n : Int) ≤ 90000 := by omega
  have ht1 : (n : Int) * 8 = (t : Int) := by omega
  have ht2 : IntKind.u64.wrap (t : Int) = (t : Int) := by rw [IntKind.wrap_u64]; omega
  have HN := Lib.hid hn
  have HS := Lib.hid hs
  have HZ := Lib.hid hz
  have HT := Lib.hid ht
  obtain ⟨B, hB⟩ : ∃ B, B = w.heap.size := ⟨_, rfl⟩
  obtain ⟨v1, w1, hcv, hb1, hF1⟩ := bytes_of s w
  rw [← hB] at hb1
  have HB := Lib.hid hB
  have HCV := Lib.hid hcv
  have HB1 : Hid (Bf B v1 s (w1.alloc (.cells #[.int .u8 128] 5))) := Lib.hid (hb1.fr ((Fr.refl No w1).alloc _))
  have HF1 := Lib.hid (hF1.alloc (.cells #[.int .u8 128] 5))
  have HBS : Hid (B ≤ (w1.alloc (.cells #[.int .u8 128] 5)).heap.size) := Lib.hid (by rw [hB]; exact HF1.out.size)
  clear hn hs hz ht hB hcv hb1 hF1
  go_enter Tryd.func36, Tryd.ntmps36
  go_wp2_with (first
    | (refine wpList_convert_eq rfl 9 76 _ rfl _ v1 rfl HCV.out ?_)
    | (refine wpList_app1 rfl _ _ rfl HB1.out rfl ⟨w1.heap.size, 0, none⟩ 1 128 rfl (by rw [World.cell?_alloc_at _ _ _ _ rfl]; rfl) HBS.out (by have := HS.out; omega) ?_
       intro v2 w2 hb2 hF2
       have HB2 := Lib.hid hb2
       have HF2 := Lib.hid hF2
       clear hb2 hF2))
  have HF : Hid (Fr (fun k => B ≤ k) w w2) := Lib.hid ((HF1.out.mono (fun _ _ h => h.elim)).trans HF2.out)
  clear HCV HB1 HF1 HBS HF2
  go_loopw [4] (fun v wr => ∃ k, k ≤ z ∧ Bf B v (s ++ 128 :: List.replicate k 0) wr ∧ Fr (fun k => B ≤ k) w wr) (fun v _ => 100000 - slen v)
  case atStart => exact ⟨0, by omega, HB2.out, HF.out⟩
  clear HB2 HF
  case round =>
    obtain ⟨k, hk, hb, hF⟩ := hrel
    obtain ⟨m, hm⟩ : ∃ m, m = (s ++ 128 :: List.replicate k 0).length := ⟨_, rfl⟩
    have hb' := hb
    obtain ⟨g, cap, hv, hBg, _, _⟩ := hb'
    rw [← hm] at hv
    subst hv
    have hm2 : m = n + 1 + k := by rw [hm, HN.out]; simp; omega
    have hn9' := HS.out
    have hnn := HN.out
    have hzz := HZ.out
    by_cases hlt : k < z
    · have hcond : ((m : Int) % 64 != 56) = true := by
        have : (m : Int) % 64 ≠ 56 := by omega
        simpa using this
      have HB2 : Hid (Bf B (.slice (some ⟨g, 0, none⟩) m cap) (s ++ 128 :: List.replicate k 0) (wr.alloc (.cells #[.int .u8 0] 5))) := Lib.hid (hb.fr ((Fr.refl No wr).alloc _))
      have HF := Lib.hid (hF.alloc (.cells #[.int .u8 0] 5))
      have HBS : Hid (B ≤ (wr.alloc (.cells #[.int .u8 0] 5)).heap.size) := Lib.hid (by rw [HB.out]; exact HF.out.size)
      have HM : Hid (m = (s ++ 128 :: List.replicate k 0).length ∧ m ≤ 99000) := Lib.hid ⟨hm, by omega⟩
      clear hb hF hm hm2 hn9' hnn hzz hBg
      go_wp2_with (refine wpList_app1 rfl _ _ rfl HB2.out rfl ⟨wr.heap.size, 0, none⟩ 1 0 rfl (by rw [World.cell?_alloc_at _ _ _ _ rfl]; rfl) HBS.out (by rw [← HM.out.1]; have := HM.out.2; omega) ?_
                   intro v2 w2 hb2 hF2
                   have HB3 := Lib.hid hb2
                   have HF2 := Lib.hid hF2
                   clear hb2 hF2)
      refine ⟨⟨k + 1, by omega, ?_, HF.out.trans HF2.out⟩, ?_⟩
      · have h3 := HB3.out
        rwa [show s ++ 128 :: List.replicate k 0 ++ [0] = s ++ 128 :: List.replicate (k + 1) 0 by rw [List.replicate_succ']; simp] at h3
      · obtain ⟨g2, cap2, hv2, _⟩ := HB3.out
        subst hv2
        have := HM.out.1
        have := HM.out.2
        simp only [slen, List.length_append, List.length_cons, List.length_nil, List.length_replicate] at *
        omega
    · have hcond : ((m : Int) % 64 != 56) = false := by
        have : (m : Int) % 64 = 56 := by omega
        simpa using this
      rw [show k = z by omega] at hb
      have HB2 := Lib.hid hb
      have HF := Lib.hid hF
      clear hb hF hm hm2 hn9' hnn hzz hBg
      go_wp2
      go_loopw [4, 5] (fun v c wr => ∃ j : Nat, j ≤ 8 ∧ c = .int .i64 (7 - (j : Int)) ∧ Bf B v (s ++ 128 :: List.replicate z 0 ++ hd8 n j) wr ∧ Fr (fun k => B ≤ k) w wr) (fun _ c _ => (intOf c + 1).toNat)
      case atStart => exact ⟨0, by omega, rfl, by simpa [hd8] using HB2.out, HF.out⟩
      clear HB2 HF hcond
      case round =>
        clear hlt
        obtain ⟨j, hj, rfl, hb, hF⟩ := hrel
        obtain ⟨m, hm⟩ : ∃ m, m = (s ++ 128 :: List.replicate z 0 ++ hd8 n j).length := ⟨_, rfl⟩
        have hm2 : m ≤ 99000 := by
          have := HS.out
          have := HZ.out
          rw [hm]
          simp only [List.length_append, List.length_cons, List.length_replicate, hd8_len]
          omega
        by_cases hlt : j < 8
        · obtain ⟨i, hi⟩ : ∃ i, i = 7 - j := ⟨_, rfl⟩
          obtain ⟨i8, hi8⟩ : ∃ i8, i8 = 8 * i := ⟨_, rfl⟩
          obtain ⟨y0, hy0⟩ : ∃ y0, y0 = t / 2 ^ i8 := ⟨_, rfl⟩
          obtain ⟨y, hy⟩ : ∃ y, y = y0 % 256 := ⟨_, rfl⟩
          obtain ⟨b, hbb⟩ : ∃ b, b = UInt8.ofNat y := ⟨_, rfl⟩
          have e0 : (7 : Int) - (j : Int) = (i : Int) := by omega
          rw [e0]
          have hi7 : (i : Int) ≤ 7 := by omega
          have hi0 : (0 : Int) ≤ (i : Int) := by omega
          have e1 : (8 : Int) * (i : Int) = (i8 : Int) := by omega
          have e2 : (y0 : Int) % 256 = (y : Int) := by omega
          have e3 : (y : Int) % 256 = (y : Int) := by omega
          have hbv : (b.toNat : Int) = (y : Int) := by rw [hbb]; simp; omega
          have hsh := fun W => rshift_any t i8 W (by have := HT.out; have := HN.out; have := HS.out; omega) (by omega)
          rw [← hy0] at hsh
          have HNX : Hid (s ++ 128 :: List.replicate z 0 ++ hd8 n (j + 1) = s ++ 128 :: List.replicate z 0 ++ hd8 n j ++ [b]) := Lib.hid (by
            rw [hd8_succ, hbb, hy, hy0, hi8, hi, HT.out, List.append_assoc (s ++ 128 :: List.replicate z 0)])
          have HB2 : Hid (Bf B _ (s ++ 128 :: List.replicate z 0 ++ hd8 n j) (wr.alloc (.cells #[.int .u8 y] 5))) := Lib.hid (hb.fr ((Fr.refl No wr).alloc _))
          have HF := Lib.hid (hF.alloc (.cells #[.int .u8 y] 5))
          have HBS : Hid (B ≤ (wr.alloc (.cells #[.int .u8 y] 5)).heap.size) := Lib.hid (by rw [HB.out]; exact HF.out.size)
          have HM : Hid (m = (s ++ 128 :: List.replicate z 0 ++ hd8 n j).length ∧ m ≤ 99000) := Lib.hid ⟨hm, hm2⟩
          have HSH := Lib.hid hsh
          have HBV := Lib.hid hbv
          have HI := Lib.hid hi
          clear hb hF hm hm2 hi hi8 hy0 hy hbb hsh hbv e0
          go_wp2_with fail
          refine (HSH.out _).mono ?_
          rintro ex w5 ⟨rfl, rfl⟩
          go_wp2_with (refine wpList_app1 rfl _ _ rfl HB2.out rfl ⟨w5.heap.size, 0, none⟩ 1 b rfl (by rw [World.cell?_alloc_at _ _ _ _ rfl]; simp [HBV.out]) HBS.out (by rw [← HM.out.1]; have := HM.out.2; omega) ?_
                       intro v2 w2 hb2 hF2
                       have HB3 := Lib.hid hb2
                       have HF2 := Lib.hid hF2
                       clear hb2 hF2)
          have hii := HI.out
          refine ⟨⟨j + 1, by omega, by congr 1; omega, by rw [HNX.out]; exact HB3.out, HF.out.trans HF2.out⟩, by simp [intOf] <;> omega⟩
        · have e0 : (7 : Int) - (j : Int) = -1 := by omega
          rw [e0]
          rw [show j = 8 by omega] at hb
          have hpd : s ++ 128 :: List.replicate z 0 ++ hd8 n 8 = padded s := by rw [HZ.out, HN.out]; simp [padded, padL, hd8]
          rw [hpd] at hb
          have HST := Lib.hid hb.str
          clear hpd
          have HF := Lib.hid hF
          clear hb hF hm hm2 e0
          go_wp2_with (refine wpList_convert_eq rfl 76 9 _ rfl _ _ rfl HST.out ?_)
          go_ret
          exact ⟨rfl, HF.out.mono (fun k hk h => by have := HB.out; omega)⟩
end Go.Proofs.YtnpgcgemifoddaaDoor
