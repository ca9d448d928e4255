/- The walk of 'ShelfTwice'. -/
import Derived.Test.YtnpgcgemifoddaaDoorShS
namespace Go.Proofs.YtnpgcgemifoddaaDoor
open Go.RowKit
set_option linter.unusedVariables false

theorem St.less {w X : World} {b : Nat} {L : List Ent} {R R' : List (Nat × List Nat)} (s : St w b L R X) (h : ∀ r, r ∈ R' → r ∈ R) : St w b L R' X := ⟨s.fr, s.new, s.blk, fun r hr => s.rows r (h r hr)⟩

/-- What the rounds keep. -/
structure Tw (h : List Nat) (k : Nat) (L : List Ent) : Prop where
  len : L.length = 17
  of : Of h L
  pos : 0 < k → 0 < lenN L
theorem Tw.start (h : List Nat) : Tw h 0 zeroL := ⟨by simp [zeroL], of_zero h, fun h => by omega⟩
theorem Tw.once {h : List Nat} {k : Nat} {L : List Ent} (t : Tw h k L) (hh : H32 h) {i : Nat} (hi : i < 65536) : Tw h 1 (insL L (i : Int) (mSec h (i : Int)) (mSec_h hh _)) :=
  ⟨by rw [insL_len]; exact t.len, of_insL t.of _ _, fun _ => lenN_pos (insL_mem (mSec_h hh _) hi t.len (of_bad t.of _)) rfl⟩
theorem Tw.more {h : List Nat} {k m : Nat} {L : List Ent} (t : Tw h (k + 1) L) : Tw h m L := ⟨t.len, t.of, fun _ => t.pos (by omega)⟩

set_option maxHeartbeats 2000000 in
set_option maxRecDepth 100000 in
theorem twice_ways (h : List Nat) (a n : Nat) (bad : Int) (w : World) (hh : H32 h) (ha : a < 65536) (hn : n < 256) (hg : Gl w) :
    Calls Tryd.prog 7 #[.agg (arr .u8 h), .int .u16 (a : Int), .int .u8 (n : Int), .int .i64 bad] w fun e w' => e = .returned (.bool true) ∧ Fr No w w' := by
  have HG := Lib.hid hg
  have HH := Lib.hid hh
  have HA := Lib.hid ha
  have e0 : IntKind.i64.wrap (a : Int) = (a : Int) := IntWalk.i64_in _ (by omega)
  have e1 : IntKind.i64.wrap (n : Int) = (n : Int) := IntWalk.i64_in _ (by omega)
  obtain ⟨q, hq⟩ : ∃ q, q = n % 20 := ⟨_, rfl⟩
  have e2 : Int.tmod (n : Int) 20 = (q : Int) := by rw [Int.tmod_eq_emod_of_nonneg (by omega)]; omega
  have e3 : (n : Int) % 20 = (q : Int) := by omega
  obtain ⟨q1, hq1⟩ : ∃ q1, q1 = q + 1 := ⟨_, rfl⟩
  have e4 : IntKind.i64.wrap (q1 : Int) = (q1 : Int) := IntWalk.i64_in _ (by omega)
  have e4' : (q : Int) + 1 = (q1 : Int) := by omega
  obtain ⟨f1, hf1⟩ : ∃ f1, f1 = a + 1 := ⟨_, rfl⟩
  have e5 : IntKind.i64.wrap (f1 : Int) = (f1 : Int) := IntWalk.i64_in _ (by omega)
  have e5' : (a : Int) + 1 = (f1 : Int) := by omega
  have S0 := Lib.hid (St.new1 w h hh.len)
  clear hh ha hg
  go_enter Tryd.func7, Tryd.ntmps7
  go_wp2_with (refine wpList_execG (.agg (flat zeroL).toArray) (exec_shelf rfl) rfl ?_)
  refine wp_world (fun W => St w (w.heap.size + 1) zeroL [(w.heap.size, h)] W) S0.out (fun W hW => ?_)
  obtain ⟨m, hm0⟩ : ∃ m, m = if f1 < q1 then f1 else q1 := ⟨_, rfl⟩
  have hm : (if f1 < q1 then (f1 : Int) else (q1 : Int)) = (m : Int) := by rw [hm0]; split <;> rfl
  have HMA : Hid (m ≤ a + 1 ∧ m ≤ 20 ∧ 0 < m) := Lib.hid (by rw [hm0]; split <;> omega)
  clear hm0 hq hq1 hf1
  obtain ⟨p, hp⟩ : ∃ p, p = w.heap.size := ⟨_, rfl⟩
  rw [← hp] at hW ⊢
  clear S0 hp
  go_loopw [10] (fun c wr => ∃ (k : Nat) (L : List Ent), c = .int .i64 (k : Int) ∧ k ≤ m ∧ Tw h k L ∧ St w (p + 1) L [(p, h)] wr) (fun c _ => m - (intOf c).toNat)
  case atStart => exact ⟨0, zeroL, rfl, by omega, Tw.start h, hW⟩
  case round =>
    obtain ⟨k, L, rfl, hk, hT, hS⟩ := hrel
    have S0 := Lib.hid hS
    have HT := Lib.hid hT
    clear hS hT
    by_cases hlt : k < m
    · have h1 : (k : Int) < (m : Int) := by omega
      obtain ⟨x, hx⟩ : ∃ x, x = a - k := ⟨_, rfl⟩
      have hx2 : x < 65536 := by have := HA.out; omega
      have e6 : IntKind.i64.wrap (x : Int) = (x : Int) := IntWalk.i64_in _ (by omega)
      have e6' : (a : Int) - (k : Int) = (x : Int) := by have := HMA.out; omega
      have e7 : IntKind.i64.wrap ((k : Int) + 1) = ((k + 1 : Nat) : Int) := IntWalk.i64_in _ (by have := HMA.out; omega)
      obtain ⟨L1, hL1⟩ : ∃ L1, L1 = insL L (x : Int) (mSec h (x : Int)) (mSec_h HH.out _) := ⟨_, rfl⟩
      have hT1 : Tw h 1 L1 := by rw [hL1]; exact HT.out.once HH.out hx2
      obtain ⟨L2, hL2⟩ : ∃ L2, L2 = insL L1 (x : Int) (mSec h (x : Int)) (mSec_h HH.out _) := ⟨_, rfl⟩
      have HT2 : Hid (Tw h (k + 1) L2) := Lib.hid (by have := hT1.once HH.out hx2; rw [← hL2] at this; exact this.more)
      obtain ⟨A, hAe⟩ : ∃ A, A = mSec h (x : Int) := ⟨_, rfl⟩
      have HLA : Hid (A.length = 32) := Lib.hid (by rw [hAe]; exact (mSec_h HH.out _).len)
      obtain ⟨m1, hm1⟩ : ∃ e, e = mErr (x : Int) := ⟨_, rfl⟩
      have HM1 : Hid (∀ X, Calls Tryd.prog 18 #[.agg (arr .u8 h), .int .i64 (x : Int)] X fun ex w' => ex = .returned (.tuple #[.agg (arr .u8 A), .int .i64 m1]) ∧ Fr No X w') := Lib.hid (fun X => by rw [hAe, hm1]; exact rmake_any h x X HH.out)
      have HI1 : Hid (∀ R X, St w (p + 1) L R X → Calls Tryd.prog 12 #[.pointer (some ⟨p + 1, 0, none⟩), .int .i64 (x : Int), .agg (arr .u8 A)] X fun ex w' => ex = .returned (.int .i64 0) ∧ Fr (· = p + 1) X w' ∧ Blk w' (p + 1) 32 (flat L1)) := Lib.hid (fun R X s => by
        rw [hAe, hL1]
        exact insert_of (x : Int) HH.out HT.out.of (num_of hx2) s.blk HT.out.len (s.gl HG.out))
      have HI2 : Hid (∀ R X, St w (p + 1) L1 R X → Calls Tryd.prog 12 #[.pointer (some ⟨p + 1, 0, none⟩), .int .i64 (x : Int), .agg (arr .u8 A)] X fun ex w' => ex = .returned (.int .i64 0) ∧ Fr (· = p + 1) X w' ∧ Blk w' (p + 1) 32 (flat L2)) := Lib.hid (fun R X s => by
        rw [hAe, hL2]
        exact insert_of (x : Int) HH.out hT1.of (num_of hx2) s.blk hT1.len (s.gl HG.out))
      have HX : Hid (m - (k + 1) < m - k) := Lib.hid (by omega)
      have HK1 : Hid (k + 1 ≤ m) := Lib.hid (by omega)
      clear hx hx2 hL1 hT1 hL2 hAe hm1 hlt
      go_wp2_with (first
        | (refine wpList_load_eq rfl 27 _ rfl (.pointer (some ⟨p, 0, none⟩)) (.agg (arr .u8 h)) rfl (S0.out.load (.head _)) ?_))
      refine (HM1.out _).mono ?_
      rintro ex v1 ⟨rfl, hF⟩
      have S1 := Lib.hid (S0.out.on hF)
      clear hF
      obtain ⟨y1, hY, hS⟩ := S1.out.add A HLA.out
      have Y1 := Lib.hid hY
      have T1 := Lib.hid hS
      clear hY hS
      go_wp2_with (first
        | (refine wpList_store_eq rfl 27 _ _ rfl (.pointer (some ⟨v1.heap.size, 0, none⟩)) (.agg (arr .u8 A)) rfl rfl Y1.out ?_)
        | (refine wpList_load_eq rfl 27 _ rfl (.pointer (some ⟨v1.heap.size, 0, none⟩)) (.agg (arr .u8 A)) rfl (T1.out.load (.head _)) ?_))
      refine (HI1.out _ _ T1.out).mono ?_
      rintro ex v2 ⟨rfl, hF, hB⟩
      have S2 := Lib.hid (T1.out.ins hF hB)
      clear hF hB
      go_wp2_with (first
        | (refine wpList_load_eqG 27 _ rfl (.pointer (some ⟨v1.heap.size, 0, none⟩)) (.agg (arr .u8 A)) rfl (S2.out.load (.head _)) rfl ?_))
      refine (HI2.out _ _ S2.out).mono ?_
      rintro ex v3 ⟨rfl, hF, hB⟩
      have S3 := Lib.hid (S2.out.ins hF hB)
      clear hF hB
      go_wp2
      exact ⟨⟨k + 1, L2, by simp, HK1.out, HT2.out, S3.out.less (by intro r hr; exact .tail _ hr)⟩, by simp [intOf]; exact HX.out⟩
    · obtain rfl : k = m := by omega
      have HNP : Hid (0 < lenN L) := Lib.hid (HT.out.pos HMA.out.2.2)
      have HKN : Hid (∀ R X, St w (p + 1) L R X → Calls Tryd.prog 13 #[.pointer (some ⟨p + 1, 0, none⟩)] X fun ex w' => ex = .returned (.int .i64 (lenN L : Int)) ∧ Fr No X w') := Lib.hid (fun R X s => len_any _ L X s.blk HT.out.len)
      obtain ⟨N, hN⟩ : ∃ N, N = lenN L := ⟨_, rfl⟩
      rw [← hN] at HNP HKN
      have hN0 : (0 : Int) < (N : Int) := by have := HNP.out; omega
      obtain ⟨A, hAe⟩ : ∃ A, A = mSec h bad := ⟨_, rfl⟩
      have hAh : H32 A := by rw [hAe]; exact mSec_h HH.out _
      have HLA := Lib.hid hAh.len
      obtain ⟨m1, hm1⟩ : ∃ e, e = mErr bad := ⟨_, rfl⟩
      have HM1 : Hid (∀ X, Calls Tryd.prog 18 #[.agg (arr .u8 h), .int .i64 bad] X fun ex w' => ex = .returned (.tuple #[.agg (arr .u8 A), .int .i64 m1]) ∧ Fr No X w') := Lib.hid (fun X => by rw [hAe, hm1]; exact rmake_any h bad X HH.out)
      by_cases hin : num bad = true
      · obtain ⟨L1, hL1⟩ : ∃ L1, L1 = insL L bad (mSec h bad) (mSec_h HH.out _) := ⟨_, rfl⟩
        have HI1 : Hid (∀ R X, St w (p + 1) L R X → Calls Tryd.prog 12 #[.pointer (some ⟨p + 1, 0, none⟩), .int .i64 bad, .agg (arr .u8 A)] X fun ex w' => ex = .returned (.int .i64 0) ∧ Fr (· = p + 1) X w' ∧ Blk w' (p + 1) 32 (flat L1)) := Lib.hid (fun R X s => by
          rw [hAe, hL1]
          exact insert_of bad HH.out HT.out.of hin s.blk HT.out.len (s.gl HG.out))
        have h01 : 0 ≤ bad ∧ bad < 65536 := by simpa [num] using hin
        have h0 := h01.1
        have h2 := h01.2
        clear h01 hL1 hin hAe hAh hm1 hlt hN
        go_wp2_with fail
        refine (HKN.out _ _ S0.out).mono ?_
        rintro ex v1 ⟨rfl, hF⟩
        have S1 := Lib.hid (S0.out.on hF)
        clear hF
        go_wp2_with (first
          | (refine wpList_load_eq rfl 27 _ rfl (.pointer (some ⟨p, 0, none⟩)) (.agg (arr .u8 h)) rfl (S1.out.load (.head _)) ?_))
        refine (HM1.out _).mono ?_
        rintro ex v2 ⟨rfl, hF⟩
        have S2 := Lib.hid (S1.out.on hF)
        clear hF
        obtain ⟨y2, hY, hS⟩ := S2.out.add A HLA.out
        have Y2 := Lib.hid hY
        have T2 := Lib.hid hS
        clear hY hS
        go_wp2_with (first
          | (refine wpList_store_eq rfl 27 _ _ rfl (.pointer (some ⟨v2.heap.size, 0, none⟩)) (.agg (arr .u8 A)) rfl rfl Y2.out ?_)
          | (refine wpList_load_eq rfl 27 _ rfl (.pointer (some ⟨v2.heap.size, 0, none⟩)) (.agg (arr .u8 A)) rfl (T2.out.load (.head _)) ?_))
        refine (HI1.out _ _ T2.out).mono ?_
        rintro ex v3 ⟨rfl, hF, hB⟩
        have S3 := Lib.hid (T2.out.ins hF hB)
        clear hF hB
        go_wp2_with fail
        refine (shown5_any _ (S3.out.gl HG.out)).mono ?_
        rintro ex v4 ⟨rfl, hF⟩
        have S4 := Lib.hid (S3.out.on hF)
        clear hF
        go_wp2
        go_ret
        exact ⟨rfl, S4.out.fr⟩
      · have hin' : num bad = false := by simpa using hin
        have HI1 : Hid (∀ R X, St w (p + 1) L R X → Calls Tryd.prog 12 #[.pointer (some ⟨p + 1, 0, none⟩), .int .i64 bad, .agg (arr .u8 A)] X fun ex w' => ex = .returned (.int .i64 1) ∧ Fr (· = p + 1) X w' ∧ Blk w' (p + 1) 32 (flat L)) := Lib.hid (fun R X s => by
          have := insert_any (p + 1) L bad A X hAh s.blk HT.out.len (s.gl HG.out)
          have e1 : insE L bad A = 1 := by rw [insE, hin']; rfl
          have e2 : insL L bad A hAh = L := by unfold insL; rw [dif_neg hin]
          rwa [e1, e2] at this)
        have hor : bad < 0 ∨ 0 ≤ bad ∧ 65536 ≤ bad := by
          simp only [num, Bool.and_eq_false_iff, decide_eq_false_iff_not] at hin'
          omega
        clear hin hin' hAe hAh hm1 hlt hN
        rcases hor with h0 | ⟨h0, h2'⟩
        · go_wp2_with fail
          refine (HKN.out _ _ S0.out).mono ?_
          rintro ex v1 ⟨rfl, hF⟩
          have S1 := Lib.hid (S0.out.on hF)
          clear hF
          go_wp2_with (first
            | (refine wpList_load_eq rfl 27 _ rfl (.pointer (some ⟨p, 0, none⟩)) (.agg (arr .u8 h)) rfl (S1.out.load (.head _)) ?_))
          refine (HM1.out _).mono ?_
          rintro ex v2 ⟨rfl, hF⟩
          have S2 := Lib.hid (S1.out.on hF)
          clear hF
          obtain ⟨y2, hY, hS⟩ := S2.out.add A HLA.out
          have Y2 := Lib.hid hY
          have T2 := Lib.hid hS
          clear hY hS
          go_wp2_with (first
            | (refine wpList_store_eq rfl 27 _ _ rfl (.pointer (some ⟨v2.heap.size, 0, none⟩)) (.agg (arr .u8 A)) rfl rfl Y2.out ?_)
            | (refine wpList_load_eq rfl 27 _ rfl (.pointer (some ⟨v2.heap.size, 0, none⟩)) (.agg (arr .u8 A)) rfl (T2.out.load (.head _)) ?_))
          refine (HI1.out _ _ T2.out).mono ?_
          rintro ex v3 ⟨rfl, hF, hB⟩
          have S3 := Lib.hid (T2.out.ins hF hB)
          clear hF hB
          go_wp2_with fail
          refine (HKN.out _ _ S3.out).mono ?_
          rintro ex v4 ⟨rfl, hF⟩
          have S4 := Lib.hid (S3.out.on hF)
          clear hF
          go_wp2_with fail
          refine (shown5_any _ (S4.out.gl HG.out)).mono ?_
          rintro ex v5 ⟨rfl, hF⟩
          have S5 := Lib.hid (S4.out.on hF)
          clear hF
          go_wp2
          go_ret
          exact ⟨rfl, S5.out.fr⟩
        · have h2 : decide (bad < 65536) = false := decide_eq_false (by omega)
          clear h2'
          go_wp2_with fail
          refine (HKN.out _ _ S0.out).mono ?_
          rintro ex v1 ⟨rfl, hF⟩
          have S1 := Lib.hid (S0.out.on hF)
          clear hF
          go_wp2_with (first
            | (refine wpList_load_eq rfl 27 _ rfl (.pointer (some ⟨p, 0, none⟩)) (.agg (arr .u8 h)) rfl (S1.out.load (.head _)) ?_))
          refine (HM1.out _).mono ?_
          rintro ex v2 ⟨rfl, hF⟩
          have S2 := Lib.hid (S1.out.on hF)
          clear hF
          obtain ⟨y2, hY, hS⟩ := S2.out.add A HLA.out
          have Y2 := Lib.hid hY
          have T2 := Lib.hid hS
          clear hY hS
          go_wp2_with (first
            | (refine wpList_store_eq rfl 27 _ _ rfl (.pointer (some ⟨v2.heap.size, 0, none⟩)) (.agg (arr .u8 A)) rfl rfl Y2.out ?_)
            | (refine wpList_load_eq rfl 27 _ rfl (.pointer (some ⟨v2.heap.size, 0, none⟩)) (.agg (arr .u8 A)) rfl (T2.out.load (.head _)) ?_))
          refine (HI1.out _ _ T2.out).mono ?_
          rintro ex v3 ⟨rfl, hF, hB⟩
          have S3 := Lib.hid (T2.out.ins hF hB)
          clear hF hB
          go_wp2_with fail
          refine (HKN.out _ _ S3.out).mono ?_
          rintro ex v4 ⟨rfl, hF⟩
          have S4 := Lib.hid (S3.out.on hF)
          clear hF
          go_wp2_with fail
          refine (shown5_any _ (S4.out.gl HG.out)).mono ?_
          rintro ex v5 ⟨rfl, hF⟩
          have S5 := Lib.hid (S4.out.on hF)
          clear hF
          go_wp2
          go_ret
          exact ⟨rfl, S5.out.fr⟩

theorem twice_walk (h : List UInt8) (a n : Nat) (bad : Int) (w : World) (hh : h.length = 32) (ha : (a : Int) ≤ 65535) (hn : (n : Int) ≤ 255) (hg : Gl w) :
    Calls Tryd.prog 7 #[.agg (h.map u8v).toArray, .int .u16 (a : Int), .int .u8 (n : Int), .int .i64 bad] w fun e w' => e = .returned (.bool true) ∧ Fr No w w' := by
  rw [arr_nb]
  exact twice_ways (nb h) a n bad w ⟨by rw [nb, List.length_map]; exact hh, nb_b8 h⟩ (by omega) (by omega) hg
end Go.Proofs.YtnpgcgemifoddaaDoor
