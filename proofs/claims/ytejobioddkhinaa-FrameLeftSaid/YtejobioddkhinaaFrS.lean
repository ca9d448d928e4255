/- What a splitter is in memory (Sp), and what its functions, and Put, come to. -/
import Derived.Test.YtejobioddkhinaaFsB
namespace Go.Proofs.Ytejobioddkhinaa
open Go.RowKit
set_option linter.unusedVariables false
set_option maxRecDepth 100000

/-- The splitter at p has been given bytes of which r were not told; all of it lies from B on. -/
def Sp (B p : Nat) (r : List UInt8) (w : World) : Prop := B ≤ p ∧ ∃ v k bs, Bu B p v k bs w ∧ k ≤ r.length ∧ bs.drop k = r
/-- What a splitter's functions leave as it lay. -/
structure KSp (B : Nat) (w w' : World) : Prop where
  fr : Fr (fun k => B ≤ k) w w'
  blk : ∀ b cs, Blk w b 9 cs → Blk w' b 9 cs
theorem KSp.trans {B : Nat} {u v w : World} (h : KSp B u v) (k : KSp B v w) : KSp B u w := ⟨h.fr.trans k.fr, fun b cs hb => k.blk b cs (h.blk b cs hb)⟩
theorem KSp.of_no {B : Nat} {w w' : World} (h : Fr No w w') : KSp B w w' := ⟨h.mono (fun _ _ h => h.elim), fun _ _ hb => hb.fr h id⟩

theorem blk_apart {w : World} {a b : Nat} {t t' : TypeId} {xs ys : List Value} (h : Blk w a t xs) (k : Blk w b t' ys) (ht : t ≠ t') : a ≠ b := by
  rintro rfl
  unfold Blk at h k
  rw [h] at k
  injection k with k
  injection k with _ h2 _
  exact ht h2
theorem Bu.ksp {B p k : Nat} {v : Value} {bs : List UInt8} {w w' : World} (h : Bu B p v k bs w) (hB : B ≤ p) (hF : Fr (WS p v) w w') : KSp B w w' :=
  ⟨hF.mono fun b _ hb => by rcases hb with rfl | hb; exact hB; exact (h.own.lt b hb).1, fun b cs hq => hq.fr hF fun hb => by
    rcases hb with rfl | hb
    · exact blk_apart hq h.blk (by decide) rfl
    · exact own_ne h.own hq (by decide) hb⟩

def zeroSp : List Value := [.slice none 0 0, .int .i64 0]
theorem sp_build (w : World) : (Instr.build 29 #[]).run Try.prog w = .ok (.agg zeroSp.toArray) w := by kernel_rfl
theorem Sp.new (B : Nat) (w : World) (hB : B ≤ w.heap.size) : Sp B w.heap.size [] (w.alloc (.cells zeroSp.toArray 29)) :=
  ⟨hB, .slice none 0 0, 0, [], ⟨Blk.new w _ _, World.ownsRow_nil _ _ _ _, Nat.le_refl _⟩, Nat.zero_le _, rfl⟩
theorem Sp.fr {B p : Nat} {r : List UInt8} {w w' : World} (h : Sp B p r w) (hF : Fr No w w') : Sp B p r w' := by
  obtain ⟨hB, v, k, bs, hb, h2⟩ := h
  exact ⟨hB, v, k, bs, hb.fr hF id (fun _ _ => id), h2⟩
/-- A law's own list of texts may grow. -/
theorem Sp.other {B p b : Nat} {r : List UInt8} {w w' : World} {cs : List Value} {t : TypeId} (h : Sp B p r w) (hb : Blk w b t cs) (ht : t = 9) (hF : Fr (· = b) w w') : Sp B p r w' := by
  subst ht
  obtain ⟨hB, v, k, bs, hu, h2⟩ := h
  exact ⟨hB, v, k, bs, hu.fr hF (blk_apart hu.blk hb (by decide)) (fun c hc e => own_ne hu.own hb (by decide) (by rw [hc, e])), h2⟩
theorem sp_lt {B p : Nat} {r : List UInt8} {w : World} (h : Sp B p r w) : p < w.heap.size := by
  obtain ⟨_, v, k, bs, hb, _⟩ := h
  exact hb.blk.lt
theorem sp_B {B p : Nat} {r : List UInt8} {w : World} (h : Sp B p r w) : B ≤ w.heap.size := Nat.le_trans h.1 (Nat.le_of_lt (sp_lt h))

theorem left_no (B p : Nat) (r : List UInt8) (w : World) (h : Sp B p r w) (hr : r.length ≤ 200000) : Calls Try.prog 15 #[.pointer (some ⟨p, 0, none⟩)] w fun e w' => e = .returned (.int .i64 (r.length : Int)) ∧ Fr No w w' := by
  obtain ⟨hB, v, k, bs, hb, hk, hd⟩ := h
  have H := Lib.hid (rest_any B p k v bs w hb)
  have HS : Hid (Sp B p r w) := Lib.hid ⟨hB, v, k, bs, hb, hk, hd⟩
  rw [hd] at H
  clear hb hk hd
  go_enter Try.func15, Try.ntmps15
  go_wp2_with fail
  refine H.out.mono ?_
  rintro e w1 ⟨u, rfl, hR, hF⟩
  obtain ⟨a, c, rfl⟩ := hR.len
  have HF := Lib.hid hF
  clear hR hF H
  go_wp2
  go_ret
  exact ⟨rfl, HF.out⟩

theorem fleft_any (B p : Nat) (r : List UInt8) (w : World) (h : Sp B p r w) (hr : r.length ≤ 200000) : Calls Try.prog 15 #[.pointer (some ⟨p, 0, none⟩)] w fun e w' => e = .returned (.int .i64 (r.length : Int)) ∧ Sp B p r w' ∧ KSp B w w' :=
  (left_no B p r w h hr).mono fun e w' h2 => ⟨h2.1, h.fr h2.2, KSp.of_no h2.2⟩

theorem maybe_any (l : Int) (w : World) : Calls Try.prog 20 #[.int .i64 l] w fun e w' => e = .returned (.bool (decide (0 < l ∧ l ≤ 1024))) ∧ w = w' := by
  by_cases h1 : 0 < l
  · by_cases h2 : l ≤ 1024
    · rw [decide_eq_true ⟨h1, h2⟩]
      go_enter Try.func20, Try.ntmps20
      go_wp2
      go_ret
      exact ⟨rfl, rfl⟩
    · rw [decide_eq_false (fun h => h2 h.2)]
      go_enter Try.func20, Try.ntmps20
      go_wp2
      go_ret
      exact ⟨rfl, rfl⟩
  · rw [decide_eq_false (fun h => h1 h.1)]
    go_enter Try.func20, Try.ntmps20
    go_wp2
    go_ret
    exact ⟨rfl, rfl⟩

/-- What length tells. -/
def lenL (r : List UInt8) : Int := if 0 ≤ lenH r then lenH r else 0
def isL (r : List UInt8) : Bool := decide (0 ≤ lenH r)

theorem length_short (B p : Nat) (r : List UInt8) (w : World) (h : Sp B p r w) (hr : r.length < 2) : Calls Try.prog 19 #[.pointer (some ⟨p, 0, none⟩)] w fun e w' => e = .returned (.tuple #[.int .i64 0, .bool false]) ∧ Fr No w w' := by
  have H := Lib.hid (left_no B p r w h (by omega))
  have hg : (r.length : Int) < 2 := by omega
  clear h
  go_enter Try.func19, Try.ntmps19
  go_wp2_with fail
  refine H.out.mono ?_
  rintro e w1 ⟨rfl, hF⟩
  have HF := Lib.hid hF
  clear hF H
  go_wp2
  go_ret2
  exact ⟨rfl, HF.out⟩

theorem or_byte (a b : Nat) (ha : a < 256) (hb : b < 256) : bits .or .i64 ((a : Int) * 256) (b : Int) = (a : Int) * 256 + (b : Int) := by
  have e : (a : Int) * 256 = ((a * 256 : Nat) : Int) := by simp
  rw [e]
  show IntKind.i64.wrap ((BitVec.ofInt 64 ((a * 256 : Nat) : Int) ||| BitVec.ofInt 64 (b : Int)).toNat : Int) = _
  rw [BitVec.toNat_or, BitVec.ofInt_natCast, BitVec.ofInt_natCast, BitVec.toNat_ofNat, BitVec.toNat_ofNat, Nat.mod_eq_of_lt (by omega), Nat.mod_eq_of_lt (by omega), Nat.mul_comm, ← Nat.two_pow_add_eq_or_of_lt (i := 8) (b := b) (show b < 2 ^ 8 by omega) a]
  rw [IntWalk.i64_in _ (by omega)]
  omega

set_option maxHeartbeats 1000000 in
theorem length_long (B p : Nat) (a b : UInt8) (t : List UInt8) (w : World) (h : Sp B p (a :: b :: t) w) (hr : (a :: b :: t).length ≤ 200000) : Calls Try.prog 19 #[.pointer (some ⟨p, 0, none⟩)] w fun e w' => e = .returned (.tuple #[.int .i64 ((a.toNat : Int) * 256 + (b.toNat : Int)), .bool true]) ∧ Fr No w w' := by
  obtain ⟨r, hr1⟩ : ∃ r, r = a :: b :: t := ⟨_, rfl⟩
  rw [← hr1] at h hr
  have H := Lib.hid (left_no B p r w h (by omega))
  have HS := Lib.hid h
  have hl : r.length = t.length + 2 := by rw [hr1]; rfl
  obtain ⟨x, hx⟩ : ∃ x : Int, x = a.toNat := ⟨_, rfl⟩
  obtain ⟨y, hy⟩ : ∃ y : Int, y = b.toNat := ⟨_, rfl⟩
  have hx1 : 0 ≤ x ∧ x < 256 := by have := a.toNat_lt; omega
  have hy1 : 0 ≤ y ∧ y < 256 := by have := b.toNat_lt; omega
  have HX := Lib.hid hx
  have HY := Lib.hid hy
  have HR := Lib.hid hr1
  obtain ⟨L, hL⟩ : ∃ L, L = r.length := ⟨_, rfl⟩
  have hg : ¬ (L : Int) < 2 := by omega
  have g0 : (0 : Int) < (L : Int) := by omega
  have g1 : (1 : Int) < (L : Int) := by omega
  rw [← hx, ← hy]
  rw [← hL] at H
  have HL := Lib.hid hL
  clear h hL hr hl hx hy hr1
  go_enter Try.func19, Try.ntmps19
  go_wp2_with fail
  refine H.out.mono ?_
  rintro e w1 ⟨rfl, hF⟩
  have HF := Lib.hid hF
  obtain ⟨hB, v, k, bs, hb, hk, hd⟩ := HS.out.fr hF
  have HQ := Lib.hid (rest_any B p k v bs w1 hb)
  rw [hd] at HQ
  clear hF H hb hk hd
  go_wp2_with fail
  refine HQ.out.mono ?_
  rintro e w2 ⟨u, rfl, hR, hF⟩
  have HF2 := Lib.hid (HF.out.trans hF)
  rcases hR with ⟨_, h0⟩ | ⟨g, o, c, rfl, _, hcells⟩
  · rw [HR.out] at h0
    exact absurd h0 (by simp)
  have c0 : w2.cell? ⟨g, o, none⟩ = some (.int .u8 x) := hcells 0 _ (by rw [HR.out, HX.out]; rfl)
  have c1 : w2.cell? ⟨g, o + 1, none⟩ = some (.int .u8 y) := hcells 1 _ (by rw [HR.out, HY.out]; rfl)
  rw [← HL.out]
  clear hcells hF HQ HF
  go_wp2
  go_region
  go_wp2
  go_ret2
  refine ⟨?_, HF2.out.trans (Fr.refl _ _).drew⟩
  change Ending.returned (.tuple #[.int .i64 ?z, .bool true]) = _
  congr 4
  rw [HX.out, HY.out]
  exact congrArg _ (or_byte _ _ a.toNat_lt b.toNat_lt)

theorem flength_any (B p : Nat) (r : List UInt8) (w : World) (h : Sp B p r w) (hr : r.length ≤ 200000) : Calls Try.prog 19 #[.pointer (some ⟨p, 0, none⟩)] w fun e w' => e = .returned (.tuple #[.int .i64 (lenL r), .bool (isL r)]) ∧ Fr No w w' := by
  match r, h, hr with
  | [], h, _ => exact length_short B p [] w h (by decide)
  | [a], h, _ => exact length_short B p [a] w h (by simp)
  | a :: b :: t, h, hr =>
    have e1 : lenH (a :: b :: t) = (a.toNat : Int) * 256 + (b.toNat : Int) := rfl
    have e2 : 0 ≤ lenH (a :: b :: t) := by rw [e1]; omega
    have := length_long B p a b t w h hr
    rwa [lenL, isL, if_pos e2, decide_eq_true e2, e1]

theorem isL_two (r : List UInt8) : isL r = true ↔ 2 ≤ r.length := by
  match r with
  | [] => simp [isL, lenH]
  | [a] => simp [isL, lenH]
  | a :: b :: t =>
    have e1 : lenH (a :: b :: t) = (a.toNat : Int) * 256 + (b.toNat : Int) := rfl
    simp only [isL, e1, decide_eq_true_eq, List.length_cons]
    constructor <;> intro <;> omega

theorem badF_eq (r : List UInt8) : badF r = (isL r && !decide (0 < lenL r ∧ lenL r ≤ 1024)) := by
  have h1 := lenH_le r
  unfold badF isL lenL
  by_cases h : 0 ≤ lenH r
  · rw [if_pos h, decide_eq_true h, Bool.true_and, ← decide_not]
    congr 1
    apply propext
    omega
  · rw [if_neg h, decide_eq_false h, Bool.false_and, decide_eq_false]
    omega

theorem fbad_no (B p : Nat) (r : List UInt8) (w : World) (h : Sp B p r w) (hr : r.length ≤ 200000) : Calls Try.prog 16 #[.pointer (some ⟨p, 0, none⟩)] w fun e w' => e = .returned (.bool (badF r)) ∧ Fr No w w' := by
  have H := Lib.hid (flength_any B p r w h hr)
  rw [badF_eq]
  obtain ⟨l, hl⟩ : ∃ l, l = lenL r := ⟨_, rfl⟩
  obtain ⟨i, hi⟩ : ∃ i, i = isL r := ⟨_, rfl⟩
  rw [← hl, ← hi] at H ⊢
  have HM := Lib.hid (fun X => maybe_any l X)
  obtain ⟨y, hy⟩ : ∃ y, y = decide (0 < l ∧ l ≤ 1024) := ⟨_, rfl⟩
  rw [← hy] at HM ⊢
  clear h hr hl hi hy
  cases i
  · go_enter Try.func16, Try.ntmps16
    go_wp2_with fail
    refine H.out.mono ?_
    rintro e w1 ⟨rfl, hF⟩
    have HF := Lib.hid hF
    clear hF H
    go_wp2
    go_ret
    exact ⟨rfl, HF.out⟩
  · go_enter Try.func16, Try.ntmps16
    go_wp2_with fail
    refine H.out.mono ?_
    rintro e w1 ⟨rfl, hF⟩
    have HF := Lib.hid hF
    clear hF H
    go_wp2_with fail
    refine (HM.out _).mono ?_
    rintro e w2 ⟨rfl, rfl⟩
    clear HM
    go_wp2
    go_ret
    refine ⟨?_, HF.out⟩
    simp

theorem fbad_any (B p : Nat) (r : List UInt8) (w : World) (h : Sp B p r w) (hr : r.length ≤ 200000) : Calls Try.prog 16 #[.pointer (some ⟨p, 0, none⟩)] w fun e w' => e = .returned (.bool (badF r)) ∧ Sp B p r w' ∧ KSp B w w' :=
  (fbad_no B p r w h hr).mono fun e w' h2 => ⟨h2.1, h.fr h2.2, KSp.of_no h2.2⟩
set_option maxHeartbeats 1000000 in
theorem fput_any (s : List UInt8) (hs : s.length ≤ 300000) (w : World) : Calls Try.prog 9 #[.string (str s)] w fun e w' => e = .returned (.tuple #[.string (str (putV s)), .int .i64 (putE s)]) ∧ Fr No w w' := by
  have hsz := str_size s
  obtain ⟨L, hL⟩ : ∃ L, L = s.length := ⟨_, rfl⟩
  have hv : putV s = if L = 0 then [] else if 1024 < L then [] else UInt8.ofNat (L / 256) :: UInt8.ofNat (L % 256) :: s := by rw [hL]; rfl
  have he : putE s = if L = 0 then 1 else if 1024 < L then 80 else 0 := by rw [hL]; rfl
  obtain ⟨T, hT⟩ : ∃ T, T = str s := ⟨_, rfl⟩
  obtain ⟨U, hU⟩ : ∃ T, T = str (putV s) := ⟨_, rfl⟩
  obtain ⟨E, hE⟩ : ∃ E, E = putE s := ⟨_, rfl⟩
  rw [← hT, ← hU, ← hE]
  rw [← hT, ← hL] at hsz
  have hsz2 : (T.size : Int) = (L : Int) := by omega
  by_cases h0 : L = 0
  · obtain rfl : U = ⟨#[]⟩ := by rw [hU, hv, if_pos h0]; rfl
    obtain rfl : E = 1 := by rw [hE, he, if_pos h0]
    obtain rfl : T = ⟨#[]⟩ := by rw [hT, List.eq_nil_of_length_eq_zero (hL.symm.trans h0)]; rfl
    clear hv he hU hE hL hs hsz hsz2 h0
    go_enter Try.func9, Try.ntmps9
    go_wp2
    go_ret2
    exact ⟨rfl, Fr.refl _ _⟩
  have t0 : T.toList.isEmpty = false := by
    have e : T.toList = s := by rw [hT, Lib.toList_data]; rfl
    rw [e]
    cases s
    · exact absurd hL h0
    · rfl
  by_cases h1 : 1024 < L
  · obtain rfl : U = ⟨#[]⟩ := by rw [hU, hv, if_neg h0, if_pos h1]; rfl
    obtain rfl : E = 80 := by rw [hE, he, if_neg h0, if_pos h1]
    have t1 : (1024 : Int) < (L : Int) := by omega
    clear hv he hT hU hE hL hs hsz h0 h1
    go_enter Try.func9, Try.ntmps9
    go_wp2
    go_ret2
    exact ⟨rfl, Fr.refl _ _⟩
  have t1 : ¬ (1024 : Int) < (L : Int) := by omega
  obtain ⟨Q, hQ⟩ : ∃ Q, Q = L / 256 := ⟨_, rfl⟩
  obtain ⟨R, hR⟩ : ∃ Q, Q = L % 256 := ⟨_, rfl⟩
  obtain ⟨H, hH⟩ : ∃ H, H = str [UInt8.ofNat Q, UInt8.ofNat R] := ⟨_, rfl⟩
  have hHT : H ++ T = U := by
    rw [hH, hT, hU, hv, if_neg h0, if_neg h1, str_append, hQ, hR]
    rfl
  obtain rfl : E = 0 := by rw [hE, he, if_neg h0, if_neg h1]
  have q2 : (L : Int) / 256 = (Q : Int) := by omega
  have r2 : (L : Int) % 256 = (R : Int) := by omega
  have wq : IntKind.i64.wrap (Q : Int) = (Q : Int) := IntWalk.i64_in _ (by omega)
  have uq : IntKind.u8.wrap (Q : Int) = (Q : Int) := by
    have h1 : IntKind.u8.wrap (Q : Int) = (Q : Int) % 256 := by simp [IntKind.wrap, IntKind.signed, IntKind.bits]
    omega
  have ur : IntKind.u8.wrap (L : Int) = (R : Int) := by
    have h1 : IntKind.u8.wrap (L : Int) = (L : Int) % 256 := by simp [IntKind.wrap, IntKind.signed, IntKind.bits]
    omega
  have hC : (convert 23 9 (.slice (some ⟨w.heap.size, 0, none⟩) 2 2)).run Try.prog (w.alloc (.cells #[.int .u8 (Q : Int), .int .u8 (R : Int)] 5)) = .ok (.string H) (w.alloc (.cells #[.int .u8 (Q : Int), .int .u8 (R : Int)] 5)) := by
    have hB := Blk.new w 5 [.int .u8 (Q : Int), .int .u8 (R : Int)]
    have e : [Value.int .u8 (Q : Int), .int .u8 (R : Int)] = [UInt8.ofNat Q, UInt8.ofNat R].map u8v := by
      simp only [List.map_cons, List.map_nil, u8v]
      rw [ofNat_toNat Q (by omega), ofNat_toNat R (by omega)]
    rw [hH]
    rw [e] at hB
    have := conv_blk (cap := 2) hB
    rw [← e] at this
    exact this
  have hnc : ¬ 9223372036854775807 < H.size + T.size := by
    have : H.size = 2 := by rw [hH]; rfl
    omega
  have HC := Lib.hid hC
  clear hv he hT hU hE hL hs hsz h0 h1 hC hQ hR hH
  go_enter Try.func9, Try.ntmps9
  go_wp2_with (refine wpList_execG (.string H) (exec_convert 23 9 (.tmp 18) rfl _ _ rfl HC.out) rfl ?_)
  go_ret2
  exact ⟨rfl, (Fr.refl No w).alloc _⟩

theorem lenL_is {r : List UInt8} (h : isL r = true) : lenL r = lenH r := by
  have h2 : 0 ≤ lenH r := by simpa [isL] using h
  rw [lenL, if_pos h2]

theorem isF_parts {r : List UInt8} (h : isF r = true) : 1 ≤ lenH r ∧ lenH r ≤ 1024 ∧ 2 + lenH r ≤ r.length := by simpa [isF] using h
theorem isF_not {r : List UInt8} (h : ¬ (1 ≤ lenH r ∧ lenH r ≤ 1024 ∧ 2 + lenH r ≤ r.length)) : textF r = [] ∧ isF r = false ∧ restF r = r := by
  have e : isF r = false := by rw [isF, decide_eq_false h]
  simp [textF, restF, e]

set_option maxHeartbeats 1000000 in
/-- No frame is there. -/
theorem next_none (B p : Nat) (r : List UInt8) (w : World) (h : Sp B p r w) (hr : r.length ≤ 200000) (hn : ¬ (1 ≤ lenH r ∧ lenH r ≤ 1024 ∧ 2 + lenH r ≤ r.length)) : Calls Try.prog 13 #[.pointer (some ⟨p, 0, none⟩)] w fun e w' => e = .returned (.tuple #[.string ⟨#[]⟩, .bool false]) ∧ Fr No w w' := by
  have H := Lib.hid (flength_any B p r w h hr)
  have HS := Lib.hid h
  have hr2 := hr
  have HB := lenH_le r
  obtain ⟨l, hl⟩ : ∃ l, l = lenL r := ⟨_, rfl⟩
  obtain ⟨i, hi⟩ : ∃ i, i = isL r := ⟨_, rfl⟩
  rw [← hl, ← hi] at H
  have HM := Lib.hid (fun X => maybe_any l X)
  cases i
  · clear hl hi hn hr h hr2 HB
    go_enter Try.func13, Try.ntmps13
    go_wp2_with fail
    refine H.out.mono ?_
    rintro e w1 ⟨rfl, hF⟩
    have HF := Lib.hid hF
    clear hF H
    go_wp2
    go_ret2
    exact ⟨rfl, HF.out⟩
  have e1 : lenH r = l := by rw [hl, lenL_is hi.symm]
  by_cases hm : 0 < l ∧ l ≤ 1024
  · rw [decide_eq_true hm] at HM
    have hlt : (r.length : Int) < 2 + l := by omega
    have a2 : IntKind.i64.wrap (2 + l) = 2 + l := IntWalk.i64_in _ (by omega)
    obtain ⟨q, hq⟩ : ∃ q, q = 2 + l := ⟨_, rfl⟩
    rw [← hq] at a2 hlt
    have a1 : 2 + l = q := hq.symm
    have hlt2 : ¬ q ≤ (r.length : Int) := by omega
    clear hl hi hn hr h HB e1 hm hq
    go_enter Try.func13, Try.ntmps13
    go_wp2_with fail
    refine H.out.mono ?_
    rintro e w1 ⟨rfl, hF⟩
    have HF := Lib.hid hF
    have HL := Lib.hid (left_no B p r w1 (HS.out.fr hF) hr2)
    clear hF H
    go_wp2_with fail
    refine (HM.out _).mono ?_
    rintro e w2 ⟨rfl, rfl⟩
    clear HM
    go_wp2_with fail
    refine HL.out.mono ?_
    rintro e w3 ⟨rfl, hF⟩
    have HF3 := Lib.hid (HF.out.trans hF)
    clear hF HF HL
    go_wp2
    go_ret2
    exact ⟨rfl, HF3.out⟩
  · rw [decide_eq_false hm] at HM
    clear hl hi hn hr h HB e1 hm hr2
    go_enter Try.func13, Try.ntmps13
    go_wp2_with fail
    refine H.out.mono ?_
    rintro e w1 ⟨rfl, hF⟩
    have HF := Lib.hid hF
    clear hF H
    go_wp2_with fail
    refine (HM.out _).mono ?_
    rintro e w2 ⟨rfl, rfl⟩
    clear HM
    go_wp2
    go_ret2
    exact ⟨rfl, HF.out⟩

theorem Bu.sp {B p k : Nat} {v : Value} {bs r : List UInt8} {w : World} (h : Bu B p v k bs w) (hB : B ≤ p) (h1 : bs.drop k = r) (h2 : k ≤ r.length) : Sp B p r w := ⟨hB, v, k, bs, h, h2, h1⟩
theorem Sp.len {B p : Nat} {r : List UInt8} {w : World} (h : Sp B p r w) : ∃ v k bs, Bu B p v k bs w ∧ bs.drop k = r ∧ bs.length = k + r.length ∧ k ≤ r.length := by
  obtain ⟨hB, v, k, bs, hb, hk, hd⟩ := h
  have := hb.le
  refine ⟨v, k, bs, hb, hd, ?_, hk⟩
  rw [← hd, List.length_drop]
  omega

/-- A splitter's take: the first n of what is left. -/
theorem stake_any (B p n : Nat) (r : List UInt8) (w : World) (h : Sp B p r w) (hr : r.length ≤ 200000) (hn : n ≤ r.length) : Calls Try.prog 21 #[.pointer (some ⟨p, 0, none⟩), .int .i64 (n : Int)] w fun e w' => e = .returned (.string (str (r.take n))) ∧ Sp B p (r.drop n) w' ∧ KSp B w w' := by
  obtain ⟨v, k, bs, hb, hd, hl, hk⟩ := h.len
  refine (take_any8 B p k n v bs w hb (sp_B h) (by omega) (by omega)).mono ?_
  rintro e w' ⟨rfl, v', k', bs', hb', hd', hk', hF⟩
  have e2 : bs.drop (k + n) = r.drop n := by rw [← hd, List.drop_drop]
  rw [hd]
  rw [e2] at hd' hk'
  exact ⟨rfl, hb'.sp h.1 hd' hk', hb.ksp h.1 hF⟩

set_option maxHeartbeats 1000000 in
/-- A frame is there. -/
theorem next_some (B p : Nat) (r : List UInt8) (w : World) (h : Sp B p r w) (hr : r.length ≤ 200000) (hn : 1 ≤ lenH r ∧ lenH r ≤ 1024 ∧ 2 + lenH r ≤ r.length) : Calls Try.prog 13 #[.pointer (some ⟨p, 0, none⟩)] w fun e w' => e = .returned (.tuple #[.string (str ((r.drop 2).take (lenH r).toNat)), .bool true]) ∧ Sp B p (r.drop (2 + (lenH r).toNat)) w' ∧ KSp B w w' := by
  have H := Lib.hid (flength_any B p r w h hr)
  have HS := Lib.hid h
  have hr2 := Lib.hid hr
  have hi : isL r = true := by simp [isL]; omega
  rw [lenL_is hi, hi] at H
  obtain ⟨n, hln⟩ : ∃ n : Nat, n = (lenH r).toNat := ⟨_, rfl⟩
  have hl : lenH r = (n : Int) := by omega
  obtain ⟨T, hT⟩ : ∃ T, T = str ((r.drop 2).take n) := ⟨_, rfl⟩
  have HM := Lib.hid (fun X => maybe_any (n : Int) X)
  rw [decide_eq_true (show 0 < (n : Int) ∧ (n : Int) ≤ 1024 by omega)] at HM
  rw [hl] at H
  rw [← hln, ← hT]
  have a1 : 2 + (n : Int) = ((2 + n : Nat) : Int) := by omega
  have a2 : IntKind.i64.wrap ((2 + n : Nat) : Int) = ((2 + n : Nat) : Int) := IntWalk.i64_in _ (by omega)
  obtain ⟨q, hq⟩ : ∃ q, q = 2 + n := ⟨_, rfl⟩
  rw [← hq] at a1 a2
  have hlt : ¬ (r.length : Int) < (q : Int) := by omega
  have hlt2 : (q : Int) ≤ (r.length : Int) := by omega
  have h2 : 2 ≤ r.length := by omega
  have h3 : n ≤ (r.drop 2).length := by simp; omega
  have hl2 : (r.drop 2).length ≤ 200000 := by simp; omega
  have HN := Lib.hid (And.intro h2 (And.intro h3 hl2))
  have HT := Lib.hid hT
  have HQ := Lib.hid hq
  clear hl hi hn hr h hln hT hq h2 h3 hl2
  go_enter Try.func13, Try.ntmps13
  go_wp2_with fail
  refine H.out.mono ?_
  rintro e w1 ⟨rfl, hF⟩
  have S1 := HS.out.fr hF
  have HS1 := Lib.hid S1
  have HF := Lib.hid hF
  have HL := Lib.hid (left_no B p r w1 S1 hr2.out)
  clear hF H S1
  go_wp2_with fail
  refine (HM.out _).mono ?_
  rintro e w2 ⟨rfl, rfl⟩
  clear HM
  go_wp2_with fail
  refine HL.out.mono ?_
  rintro e w3 ⟨rfl, hF⟩
  have K3 := Lib.hid (KSp.of_no (B := B) (HF.out.trans hF))
  have H4 := Lib.hid (stake_any B p 2 r w3 (HS1.out.fr hF) hr2.out HN.out.1)
  clear hF HF HL
  go_wp2_with fail
  refine H4.out.mono ?_
  rintro e w4 ⟨rfl, hS4, hK4⟩
  have K4 := Lib.hid (K3.out.trans hK4)
  have H5 := Lib.hid (stake_any B p n (r.drop 2) w4 hS4 HN.out.2.2 HN.out.2.1)
  rw [← HT.out] at H5
  clear hS4 hK4 K3 H4
  go_wp2_with fail
  refine H5.out.mono ?_
  rintro e w5 ⟨rfl, hS5, hK5⟩
  have E := Lib.hid (And.intro hS5 (K4.out.trans hK5))
  clear hS5 hK5 K4 H5
  go_wp2
  go_ret2
  refine ⟨rfl, ?_, E.out.2⟩
  have := E.out.1
  rwa [List.drop_drop] at this

theorem fnext_any (B p : Nat) (r : List UInt8) (w : World) (h : Sp B p r w) (hr : r.length ≤ 200000) : Calls Try.prog 13 #[.pointer (some ⟨p, 0, none⟩)] w fun e w' => e = .returned (.tuple #[.string (str (textF r)), .bool (isF r)]) ∧ Sp B p (restF r) w' ∧ KSp B w w' := by
  by_cases hn : 1 ≤ lenH r ∧ lenH r ≤ 1024 ∧ 2 + lenH r ≤ r.length
  · have e : isF r = true := by rw [isF, decide_eq_true hn]
    have := next_some B p r w h hr hn
    rwa [textF, restF, e, if_pos rfl, if_pos rfl]
  · obtain ⟨e1, e2, e3⟩ := isF_not hn
    rw [e1, e2, e3]
    exact (next_none B p r w h hr hn).mono fun e w' h2 => ⟨h2.1, h.fr h2.2, KSp.of_no h2.2⟩

set_option maxHeartbeats 1000000 in
theorem fpush_any (B p : Nat) (r s : List UInt8) (w : World) (h : Sp B p r w) (hr : r.length ≤ 200000) (hs : s.length ≤ 100000) : Calls Try.prog 12 #[.pointer (some ⟨p, 0, none⟩), .string (str s)] w fun e w' => e = .returned (.int .i64 (pushE r)) ∧ Sp B p (pushV r s) w' ∧ KSp B w w' := by
  have HB := Lib.hid (fbad_no B p r w h hr)
  have HS := Lib.hid h
  obtain ⟨U, hU⟩ : ∃ T, T = str s := ⟨_, rfl⟩
  rw [← hU]
  have HU := Lib.hid hU
  by_cases hb : badF r = true
  · have e1 : pushE r = 80 := by rw [pushE, if_pos hb]
    have e2 : pushV r s = r := by rw [pushV, if_pos hb]
    rw [e1, e2]
    rw [hb] at HB
    clear h hU hb e1 e2 hr hs
    go_enter Try.func12, Try.ntmps12
    go_wp2_with fail
    refine HB.out.mono ?_
    rintro e w1 ⟨rfl, hF⟩
    have E := Lib.hid (And.intro (HS.out.fr hF) (KSp.of_no (B := B) hF))
    clear hF HB
    go_wp2
    go_ret
    exact ⟨rfl, E.out⟩
  · have hb2 : badF r = false := by simpa using hb
    have e1 : pushE r = 0 := by rw [pushE, if_neg hb]
    have e2 : pushV r s = r ++ s := by rw [pushV, if_neg hb]
    rw [e1, e2]
    rw [hb2] at HB
    have HR := Lib.hid hr
    have HL := Lib.hid hs
    clear h hU hb e1 e2 hr hs hb2
    go_enter Try.func12, Try.ntmps12
    go_wp2_with fail
    refine HB.out.mono ?_
    rintro e w1 ⟨rfl, hF⟩
    have S1 := HS.out.fr hF
    obtain ⟨v, k, bs, hb, hd, hl, hk⟩ := S1.len
    have HA := Lib.hid (add_any8 B p k v bs s w1 hb (sp_B S1) (by have := HR.out; have := HL.out; omega))
    rw [← HU.out] at HA
    have HBu := Lib.hid hb
    have HX := Lib.hid (And.intro hd (And.intro hl hk))
    have HF := Lib.hid hF
    clear hF HB S1 hb hd hl hk
    go_wp2_with fail
    refine HA.out.mono ?_
    rintro e w2 ⟨rfl, v', hb', hF2⟩
    have E : Hid (Sp B p (r ++ s) w2 ∧ KSp B w w2) := Lib.hid (by
      obtain ⟨h1, h2, h3⟩ := HX.out
      refine ⟨hb'.sp HS.out.1 ?_ ?_, (KSp.of_no HF.out).trans (HBu.out.ksp HS.out.1 hF2)⟩
      · rw [List.drop_append_of_le_length HBu.out.le, h1]
      · simp
        omega)
    clear hb' hF2 HA HF HX HBu
    go_wp2
    go_ret
    exact ⟨rfl, E.out⟩
end Go.Proofs.Ytejobioddkhinaa
