import Derived.Test.YthmpadhhbkielaaOctH
import Derived.Test.YthmpadhhbkielaaOctK
import Derived.Test.YthmpadhhbkielaaOct8
namespace Go.Proofs.Ythmpadhhbkielaa
open Go.RowKit
set_option linter.unusedVariables false

/-- The two readers: both hold l. -/
structure Two (b1 b2 : Nat) (l : List UInt8) (w : World) : Prop where
  c1 : w.cell? ⟨b1, 0, none⟩ = some (.string (str l))
  f1 : w.frozen? ⟨b1, 0, none⟩ = false
  c2 : w.cell? ⟨b2, 0, none⟩ = some (.string (str l))
  f2 : w.frozen? ⟨b2, 0, none⟩ = false

set_option maxHeartbeats 2000000 in
set_option maxRecDepth 100000 in
theorem reads_walk (l0 : List UInt8) (a : Addr) (len cap : Nat) (xs : Nat → It) (w : World) (hl0 : l0.length ≤ 1000) (hlen : len ≤ 100) (hok : ∀ i, i < len → (xs i).Ok ∧ ItAt (a.add (i * 36)) (xs i) w) :
    Calls Try.prog 4 #[.string (str l0), .slice (some a) len cap] w fun e w' => e = .returned (.bool true) ∧ Fr No w w' := by
  have hl1 : ¬ (100 : Int) < len := by omega
  have hl2 : ¬ (1000 : Int) < l0.length := by omega
  have hsz0 := str_size l0
  have HOK := Lib.hid hok
  have HL0 := Lib.hid hl0
  clear hok hl0
  go_enter Try.func4, Try.ntmps4
  go_wp2_with fail
  refine (shown1_any _).mono ?_
  rintro e w1 ⟨rfl, hF⟩
  have HF1 := Lib.hid hF
  have hz1 : w.heap.size ≤ w1.heap.size := hF.size
  clear hF
  go_wp2_with fail
  refine (new_any _ _).mono ?_
  rintro e w2 ⟨rfl, hw2⟩
  have hz2 : w2.heap.size = w1.heap.size + 1 := by rw [hw2]; simp
  have HF2 := Lib.hid (show Fr No w w2 from hw2 ▸ HF1.out.alloc _)
  have HT := Lib.hid (show Two w1.heap.size (w1.heap.size + 1) l0 (w2.alloc (.cells #[.string (str l0)] 47)) from ⟨by rw [hw2]; simp [go_sem], by rw [hw2]; simp [go_sem], by rw [← hz2]; simp [go_sem], by rw [← hz2]; simp [go_sem]⟩)
  clear hw2 HF1
  go_wp2_with fail
  go_loopw [7] (fun c wr => ∃ (i : Nat) (l : List UInt8), i ≤ len ∧ c = .int .i64 i ∧ l.length ≤ 1000 ∧ Two w1.heap.size (w1.heap.size + 1) l wr ∧ Fr No w wr) (fun c _ => len - (intOf c).toNat)
  case atStart => exact ⟨0, l0, Nat.zero_le _, rfl, HL0.out, HT.out, HF2.out.alloc _⟩
  case round =>
    obtain ⟨i, l, hi, rfl, hll, hT, hF⟩ := hrel
    have HF := Lib.hid hF
    have HT := Lib.hid hT
    clear hF hT hsz0 hl2
    by_cases hlt : i < len
    · obtain ⟨hx, hat⟩ := HOK.out i hlt
      have hat := hat.fr HF.out id
      obtain ⟨x, hxs⟩ : ∃ x, x = xs i := ⟨_, rfl⟩
      obtain ⟨q, hq⟩ : ∃ q, a.add (i * 36) = q := ⟨_, rfl⟩
      rw [← hxs] at hx hat
      rw [hq] at hat
      have HX := Lib.hid hx
      have HAT := Lib.hid hat
      have hk := hat.k
      have hqb : q.block < w.heap.size := by have := (HOK.out i hlt).2.lt; rwa [hq] at this
      have hm : l.length ≤ maxLen := by simp [maxLen]; omega
      have hsl := str_size l
      clear hx hat hxs
      go_wp2_with fail
      refine (left_any _ _ _ HT.out.c1).mono ?_
      rintro e w2 ⟨rfl, rfl⟩
      by_cases h0 : x.k = 0
      · rw [h0] at hk
        have hxw := HAT.out.wd
        go_wp2_with fail
        refine (rnum_all w1.heap.size l x.wd wr HT.out.c1 HT.out.f1 hm).mono ?_
        rintro e w2 ⟨rfl, hr2⟩
        have HR2 := Lib.hid hr2
        have HG2 := Lib.hid (HF.out.trans' hr2.2.2 (fun k hk (e : k = w1.heap.size) => absurd hk (by omega)))
        have hc2 := Lib.hid (hr2.2.2.cell (show ¬ w1.heap.size + 1 = w1.heap.size by omega) HT.out.c2)
        have hf2 := Lib.hid ((hr2.2.2.frozen 0 (lt_cell HT.out.c2) (show ¬ w1.heap.size + 1 = w1.heap.size by omega)).trans HT.out.f2)
        have hat2 := HAT.out.fr hr2.2.2 (show ¬ q.block = w1.heap.size by omega)
        clear hr2
        have hxw2 := hat2.wd
        clear hat2 HT HF HAT hxw
        go_wp2_with fail
        refine (rrnum_all (w1.heap.size + 1) l x.wd w2 hc2.out hf2.out hm).mono ?_
        rintro e w3 ⟨rfl, hr3⟩
        have HG3 := Lib.hid (HG2.out.trans' hr3.2.2 (fun k hk (e : k = w1.heap.size + 1) => absurd hk (by omega)))
        have HT3 := Lib.hid (show Two w1.heap.size (w1.heap.size + 1) (numR l x.wd).2.2 w3 from ⟨hr3.2.2.cell (show ¬ w1.heap.size = w1.heap.size + 1 by omega) HR2.out.1, (hr3.2.2.frozen 0 (lt_cell HR2.out.1) (show ¬ w1.heap.size = w1.heap.size + 1 by omega)).trans HR2.out.2.1, hr3.1, hr3.2.1⟩)
        clear hr3 HR2 HG2 hc2 hf2
        have hlb := numR_len l x.wd
        have hsr := str_size (numR l x.wd).2.2
        have hff : ((numR l x.wd).2.1 != (numR l x.wd).2.1) = false := by simp
        by_cases he : (numR l x.wd).2.1 = 0
        · have he0 : ((numR l x.wd).2.1 != 0) = false := by rw [he]; rfl
          go_wp2_with fail
          refine (left_any _ _ _ HT3.out.c1).mono ?_
          rintro e w9 ⟨rfl, rfl⟩
          go_wp2_with fail
          refine (rrleft_any _ _ _ HT3.out.c2).mono ?_
          rintro e w9 ⟨rfl, rfl⟩
          go_wp2_with fail
          refine (end_all _ _ _ HT3.out.c1).mono ?_
          rintro e w9 ⟨rfl, rfl⟩
          go_wp2_with fail
          refine (rrend_any _ _ _ HT3.out.c2).mono ?_
          rintro e w9 ⟨rfl, rfl⟩
          go_wp2
          exact ⟨⟨i + 1, (numR l x.wd).2.2, by omega, by simp, by omega, HT3.out, HG3.out⟩, by simp [intOf]; omega⟩
        · have he0 : ((numR l x.wd).2.1 != 0) = true := by simpa using he
          have hrest := numR_err l x.wd he
          have hrl : (numR l x.wd).2.2.length = l.length := by rw [hrest]
          go_wp2_with fail
          refine (left_any _ _ _ HT3.out.c1).mono ?_
          rintro e w9 ⟨rfl, rfl⟩
          go_wp2_with fail
          refine (rrleft_any _ _ _ HT3.out.c2).mono ?_
          rintro e w9 ⟨rfl, rfl⟩
          go_wp2_with fail
          refine (end_all _ _ _ HT3.out.c1).mono ?_
          rintro e w9 ⟨rfl, rfl⟩
          go_wp2_with fail
          refine (rrend_any _ _ _ HT3.out.c2).mono ?_
          rintro e w9 ⟨rfl, rfl⟩
          go_wp2_with fail
          refine (left_any _ _ _ HT3.out.c1).mono ?_
          rintro e w9 ⟨rfl, rfl⟩
          go_wp2
          exact ⟨⟨i + 1, (numR l x.wd).2.2, by omega, by simp, by omega, HT3.out, HG3.out⟩, by simp [intOf]; omega⟩
      · by_cases h1 : x.k = 1
        · rw [h1] at hk
          go_wp2_with fail
          refine (rhash_all w1.heap.size l wr HT.out.c1 HT.out.f1 hm).mono ?_
          rintro e w2 ⟨rfl, hr2⟩
          have HR2 := Lib.hid hr2
          have HG2 := Lib.hid (HF.out.trans' hr2.2.2 (fun k hk (e : k = w1.heap.size) => absurd hk (by omega)))
          have hc2 := Lib.hid (hr2.2.2.cell (show ¬ w1.heap.size + 1 = w1.heap.size by omega) HT.out.c2)
          have hf2 := Lib.hid ((hr2.2.2.frozen 0 (lt_cell HT.out.c2) (show ¬ w1.heap.size + 1 = w1.heap.size by omega)).trans HT.out.f2)
          have hat2 := HAT.out.fr hr2.2.2 (show ¬ q.block = w1.heap.size by omega)
          clear hr2
          clear hat2 HT HF HAT
          obtain ⟨V, hV1, hV2, hV3⟩ := store_hash w2 (hashR l).1 (hashR_32 l)
          have HV1 := Lib.hid hV1
          have HV2 := Lib.hid hV2
          have hz3 : w1.heap.size + 1 < w2.heap.size := lt_cell hc2.out
          have HGV := Lib.hid (HG2.out.trans hV3)
          have hcV := Lib.hid (hV3.cell id hc2.out)
          have hfV := Lib.hid ((hV3.frozen 0 (lt_cell hc2.out) id).trans hf2.out)
          have hcW := Lib.hid (hV3.cell id HR2.out.1)
          have hfW := Lib.hid ((hV3.frozen 0 (lt_cell HR2.out.1) id).trans HR2.out.2.1)
          clear hV1 hV2 hV3 HR2 HG2 hc2 hf2
          go_wp2_with (refine wpList_store_eq rfl 30 _ _ rfl (.pointer (some ⟨w2.heap.size, 0, none⟩)) (.agg (((hashR l).1).map u8v).toArray) rfl rfl HV1.out ?_)
          refine (rrhash_all (w1.heap.size + 1) l V hcV.out hfV.out hm).mono ?_
          rintro e w3 ⟨rfl, hr3⟩
          have hV2b := (hr3.2.2.block _ (Array.getElem?_eq_some_iff.1 HV2.out).1 (show ¬ w2.heap.size = w1.heap.size + 1 by omega)).trans HV2.out
          obtain ⟨U, hU1, hU2, hU3⟩ := store_hash w3 (hashR l).1 (hashR_32 l)
          have HU1 := Lib.hid hU1
          have HLA := Lib.hid (load_hash U _ (hashR l).1 (hashR_32 l) ((hU3.block _ (Array.getElem?_eq_some_iff.1 hV2b).1 id).trans hV2b))
          have HLB := Lib.hid (load_hash U _ (hashR l).1 (hashR_32 l) hU2)
          have HG3 := Lib.hid ((HGV.out.trans' hr3.2.2 (fun k hk (e : k = w1.heap.size + 1) => absurd hk (by omega))).trans hU3)
          have HT3 := Lib.hid (show Two w1.heap.size (w1.heap.size + 1) (hashR l).2.2 U from ⟨hU3.cell id (hr3.2.2.cell (show ¬ w1.heap.size = w1.heap.size + 1 by omega) hcW.out), (hU3.frozen 0 (Nat.lt_of_lt_of_le (lt_cell hcW.out) hr3.2.2.size) id).trans ((hr3.2.2.frozen 0 (lt_cell hcW.out) (show ¬ w1.heap.size = w1.heap.size + 1 by omega)).trans hfW.out), hU3.cell id hr3.1, (hU3.frozen 0 (lt_cell hr3.1) id).trans hr3.2.1⟩)
          clear hr3 hU1 hU2 hU3 hV2b HV2 HV1 HGV hcV hfV hcW hfW
          have hee := fun X => eql_hash (hashR l).1 (hashR l).1 (hashR_32 l) (hashR_32 l) X
          simp only [beq_self_eq_true] at hee
          have hlb := hashR_len l
          have hsr := str_size (hashR l).2.2
          have hff : ((hashR l).2.1 != (hashR l).2.1) = false := by simp
          go_wp2_with (first | (refine wpList_store_eq rfl 30 _ _ rfl (.pointer (some ⟨w3.heap.size, 0, none⟩)) (.agg (((hashR l).1).map u8v).toArray) rfl rfl HU1.out ?_) | (refine wpList_load_eq rfl 30 _ rfl (.pointer (some ⟨w2.heap.size, 0, none⟩)) (.agg (((hashR l).1).map u8v).toArray) rfl HLA.out ?_) | (refine wpList_load_eq rfl 30 _ rfl (.pointer (some ⟨w3.heap.size, 0, none⟩)) (.agg (((hashR l).1).map u8v).toArray) rfl HLB.out ?_))
          by_cases he : (hashR l).2.1 = 0
          · have he0 : ((hashR l).2.1 != 0) = false := by rw [he]; rfl
            refine (left_any _ _ _ HT3.out.c1).mono ?_
            rintro e w9 ⟨rfl, rfl⟩
            go_wp2_with fail
            refine (rrleft_any _ _ _ HT3.out.c2).mono ?_
            rintro e w9 ⟨rfl, rfl⟩
            go_wp2_with fail
            refine (end_all _ _ _ HT3.out.c1).mono ?_
            rintro e w9 ⟨rfl, rfl⟩
            go_wp2_with fail
            refine (rrend_any _ _ _ HT3.out.c2).mono ?_
            rintro e w9 ⟨rfl, rfl⟩
            go_wp2
            exact ⟨⟨i + 1, (hashR l).2.2, by omega, by simp, by omega, HT3.out, HG3.out⟩, by simp [intOf]; omega⟩
          · have he0 : ((hashR l).2.1 != 0) = true := by simpa using he
            have hrest := hashR_err l he
            have hrl : (hashR l).2.2.length = l.length := by rw [hrest]
            refine (left_any _ _ _ HT3.out.c1).mono ?_
            rintro e w9 ⟨rfl, rfl⟩
            go_wp2_with fail
            refine (rrleft_any _ _ _ HT3.out.c2).mono ?_
            rintro e w9 ⟨rfl, rfl⟩
            go_wp2_with fail
            refine (end_all _ _ _ HT3.out.c1).mono ?_
            rintro e w9 ⟨rfl, rfl⟩
            go_wp2_with fail
            refine (rrend_any _ _ _ HT3.out.c2).mono ?_
            rintro e w9 ⟨rfl, rfl⟩
            go_wp2_with fail
            refine (left_any _ _ _ HT3.out.c1).mono ?_
            rintro e w9 ⟨rfl, rfl⟩
            go_wp2
            exact ⟨⟨i + 1, (hashR l).2.2, by omega, by simp, by omega, HT3.out, HG3.out⟩, by simp [intOf]; omega⟩
        · by_cases h2 : x.k = 2
          · rw [h2] at hk
            go_wp2_with fail
            refine (rtext_all w1.heap.size l wr HT.out.c1 HT.out.f1 hm).mono ?_
            rintro e w2 ⟨rfl, hr2⟩
            have HR2 := Lib.hid hr2
            have HG2 := Lib.hid (HF.out.trans' hr2.2.2 (fun k hk (e : k = w1.heap.size) => absurd hk (by omega)))
            have hc2 := Lib.hid (hr2.2.2.cell (show ¬ w1.heap.size + 1 = w1.heap.size by omega) HT.out.c2)
            have hf2 := Lib.hid ((hr2.2.2.frozen 0 (lt_cell HT.out.c2) (show ¬ w1.heap.size + 1 = w1.heap.size by omega)).trans HT.out.f2)
            have hat2 := HAT.out.fr hr2.2.2 (show ¬ q.block = w1.heap.size by omega)
            clear hr2
            clear hat2 HT HF HAT
            go_wp2_with fail
            refine (rrtext_all (w1.heap.size + 1) l w2 hc2.out hf2.out hm).mono ?_
            rintro e w3 ⟨rfl, hr3⟩
            have HG3 := Lib.hid (HG2.out.trans' hr3.2.2 (fun k hk (e : k = w1.heap.size + 1) => absurd hk (by omega)))
            have HT3 := Lib.hid (show Two w1.heap.size (w1.heap.size + 1) (textR l).2.2 w3 from ⟨hr3.2.2.cell (show ¬ w1.heap.size = w1.heap.size + 1 by omega) HR2.out.1, (hr3.2.2.frozen 0 (lt_cell HR2.out.1) (show ¬ w1.heap.size = w1.heap.size + 1 by omega)).trans HR2.out.2.1, hr3.1, hr3.2.1⟩)
            clear hr3 HR2 HG2 hc2 hf2
            have heq : ((str (textR l).1).toList == (str (textR l).1).toList) = true := by simp
            have hlb := textR_len l
            have hsr := str_size (textR l).2.2
            have hff : ((textR l).2.1 != (textR l).2.1) = false := by simp
            by_cases he : (textR l).2.1 = 0
            · have he0 : ((textR l).2.1 != 0) = false := by rw [he]; rfl
              go_wp2_with fail
              refine (left_any _ _ _ HT3.out.c1).mono ?_
              rintro e w9 ⟨rfl, rfl⟩
              go_wp2_with fail
              refine (rrleft_any _ _ _ HT3.out.c2).mono ?_
              rintro e w9 ⟨rfl, rfl⟩
              go_wp2_with fail
              refine (end_all _ _ _ HT3.out.c1).mono ?_
              rintro e w9 ⟨rfl, rfl⟩
              go_wp2_with fail
              refine (rrend_any _ _ _ HT3.out.c2).mono ?_
              rintro e w9 ⟨rfl, rfl⟩
              go_wp2
              exact ⟨⟨i + 1, (textR l).2.2, by omega, by simp, by omega, HT3.out, HG3.out⟩, by simp [intOf]; omega⟩
            · have he0 : ((textR l).2.1 != 0) = true := by simpa using he
              have hrest := textR_err l he
              have hrl : (textR l).2.2.length = l.length := by rw [hrest]
              go_wp2_with fail
              refine (left_any _ _ _ HT3.out.c1).mono ?_
              rintro e w9 ⟨rfl, rfl⟩
              go_wp2_with fail
              refine (rrleft_any _ _ _ HT3.out.c2).mono ?_
              rintro e w9 ⟨rfl, rfl⟩
              go_wp2_with fail
              refine (end_all _ _ _ HT3.out.c1).mono ?_
              rintro e w9 ⟨rfl, rfl⟩
              go_wp2_with fail
              refine (rrend_any _ _ _ HT3.out.c2).mono ?_
              rintro e w9 ⟨rfl, rfl⟩
              go_wp2_with fail
              refine (left_any _ _ _ HT3.out.c1).mono ?_
              rintro e w9 ⟨rfl, rfl⟩
              go_wp2
              exact ⟨⟨i + 1, (textR l).2.2, by omega, by simp, by omega, HT3.out, HG3.out⟩, by simp [intOf]; omega⟩
          · have hk0 : (x.k == 0) = false := by simpa using h0
            have hk1 : (x.k == 1) = false := by simpa using h1
            have hk2 : (x.k == 2) = false := by simpa using h2
            have HT3 := HT
            have HG3 := HF
            clear HT HF
            go_wp2_with fail
            refine (left_any _ _ _ HT3.out.c1).mono ?_
            rintro e w9 ⟨rfl, rfl⟩
            go_wp2_with fail
            refine (rrleft_any _ _ _ HT3.out.c2).mono ?_
            rintro e w9 ⟨rfl, rfl⟩
            go_wp2_with fail
            refine (end_all _ _ _ HT3.out.c1).mono ?_
            rintro e w9 ⟨rfl, rfl⟩
            go_wp2_with fail
            refine (rrend_any _ _ _ HT3.out.c2).mono ?_
            rintro e w9 ⟨rfl, rfl⟩
            go_wp2
            exact ⟨⟨i + 1, l, by omega, by simp, by omega, HT3.out, HG3.out⟩, by simp [intOf]; omega⟩
    · have hsl := str_size l
      go_wp2_with fail
      refine (left_any _ _ _ HT.out.c1).mono ?_
      rintro e w9 ⟨rfl, rfl⟩
      go_wp2_with fail
      refine (rrleft_any _ _ _ HT.out.c2).mono ?_
      rintro e w9 ⟨rfl, rfl⟩
      go_wp2
      go_ret
      exact ⟨rfl, HF.out⟩

set_option maxHeartbeats 400000 in
theorem reads_big (s : ByteArray) (v : Value) (w : World) (hs : 1000 < s.size) :
    Calls Try.prog 4 #[.string s, v] w fun e w' => e = .returned (.bool true) ∧ Fr No w w' := by
  have hl2 : (1000 : Int) < s.size := by omega
  go_enter Try.func4, Try.ntmps4
  go_wp2_with fail
  refine (shown1_any _).mono ?_
  rintro e w1 ⟨rfl, hF⟩
  have HF1 := Lib.hid hF
  clear hF
  go_wp2
  go_ret
  exact ⟨rfl, HF1.out⟩

set_option maxHeartbeats 400000 in
theorem reads_long (s : ByteArray) (ao : Option Addr) (len cap : Nat) (w : World) (hs : s.size ≤ 1000) (hlen : 100 < len) :
    Calls Try.prog 4 #[.string s, .slice ao len cap] w fun e w' => e = .returned (.bool true) ∧ Fr No w w' := by
  have hl1 : (100 : Int) < len := by omega
  have hl2 : ¬ (1000 : Int) < s.size := by omega
  go_enter Try.func4, Try.ntmps4
  go_wp2_with fail
  refine (shown1_any _).mono ?_
  rintro e w1 ⟨rfl, hF⟩
  have HF1 := Lib.hid hF
  clear hF
  go_wp2
  go_ret
  exact ⟨rfl, HF1.out⟩

set_option maxHeartbeats 400000 in
theorem reads_nil (s : ByteArray) (w : World) (hs : s.size ≤ 1000) :
    Calls Try.prog 4 #[.string s, .slice none 0 0] w fun e w' => e = .returned (.bool true) ∧ Fr No w w' := by
  have hl2 : ¬ (1000 : Int) < s.size := by omega
  go_enter Try.func4, Try.ntmps4
  go_wp2_with fail
  refine (shown1_any _).mono ?_
  rintro e w1 ⟨rfl, hF⟩
  have HF1 := Lib.hid hF
  clear hF
  go_wp2_with fail
  refine (new_any _ _).mono ?_
  rintro e w2 ⟨rfl, hw2⟩
  have hz2 : w2.heap.size = w1.heap.size + 1 := by rw [hw2]; simp
  have HF2 := Lib.hid (show Fr No w w2 from hw2 ▸ HF1.out.alloc _)
  have hc1 : (w2.alloc (.cells #[.string s] 47)).cell? ⟨w1.heap.size, 0, none⟩ = some (.string s) := by rw [hw2]; simp [go_sem]
  have hc2 : (w2.alloc (.cells #[.string s] 47)).cell? ⟨w2.heap.size, 0, none⟩ = some (.string s) := by simp [go_sem]
  have HC1 := Lib.hid hc1
  have HC2 := Lib.hid hc2
  clear hw2 HF1 hc1 hc2 hz2
  go_wp2_with fail
  refine wp_loop_rounds 1 ?_
  rw [rounds_succ]
  go_wp2_with fail
  refine (left_any _ _ _ HC1.out).mono ?_
  rintro e w9 ⟨rfl, rfl⟩
  go_wp2_with fail
  refine (rrleft_any _ _ _ HC2.out).mono ?_
  rintro e w9 ⟨rfl, rfl⟩
  go_wp2
  go_ret
  exact ⟨rfl, HF2.out.alloc _⟩

theorem reads_all (s : ByteArray) (v : Value) (w : World) (hv : v = .slice none 0 0 ∨ ∃ (a : Addr) (len cap : Nat) (xs : Nat → It), v = .slice (some a) len cap ∧ ∀ i, i < len → (xs i).Ok ∧ ItAt (a.add (i * 36)) (xs i) w) :
    Calls Try.prog 4 #[.string s, v] w fun e w' => e = .returned (.bool true) ∧ Fr No w w' := by
  by_cases h0 : 1000 < s.size
  · exact reads_big s v w h0
  · rcases hv with rfl | ⟨a, len, cap, xs, rfl, hok⟩
    · exact reads_nil s w (by omega)
    · by_cases h : 100 < len
      · exact reads_long s _ _ _ w (by omega) h
      · have e := reads_walk s.data.toList a len cap xs w (by simp; omega) (by omega) hok
        rwa [str_data] at e
end Go.Proofs.Ythmpadhhbkielaa
