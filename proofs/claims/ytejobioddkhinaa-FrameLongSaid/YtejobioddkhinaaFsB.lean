/- A splitter's buffer in memory; what its functions rest, add, bytes.Clone and take come to. -/
import Derived.Test.YtejobioddkhinaaFrP
import Derived.Test.YtejobioddkhinaaOwn
import Derived.Lib.SliceRun
import Derived.Deep.RegionWith
namespace Go.Proofs.Ytejobioddkhinaa
open Go.RowKit
set_option linter.unusedVariables false
set_option maxRecDepth 100000

/-- The buffer at p holds bs, of which k were taken; its slice lies in a block from B on. -/
structure Bu (B p : Nat) (v : Value) (k : Nat) (bs : List UInt8) (w : World) : Prop where
  blk : Blk w p 29 [v, .int .i64 (k : Int)]
  own : w.ownsRow B 5 1 v bs.length (bs.map u8v)
  le : k ≤ bs.length

section
variable {B p k : Nat} {v : Value} {bs : List UInt8} {w w' : World}
theorem Bu.cell0 (h : Bu B p v k bs w) : w.cell? ⟨p, 0, none⟩ = some v := h.blk.cell rfl
theorem Bu.cell1 (h : Bu B p v k bs w) : w.cell? ⟨p, 1, none⟩ = some (.int .i64 (k : Int)) := h.blk.cell rfl
theorem Bu.other (h : Bu B p v k bs w) : v.ownBlock ≠ some p := own_ne h.own h.blk (by decide)
theorem Bu.fr {S : Nat → Prop} (h : Bu B p v k bs w) (hF : Fr S w w') (h1 : ¬ S p) (h2 : ∀ b, v.ownBlock = some b → ¬ S b) : Bu B p v k bs w' :=
  ⟨h.blk.fr hF h1, own_of h.own fun b hb => hF.block b (h.own.lt b hb).2 (h2 b hb), h.le⟩
theorem Bu.taken (h : Bu B p v k bs w) (k' : Nat) (hk : k' ≤ bs.length) : Bu B p v k' bs (w.setCell ⟨p, 1, none⟩ (.int .i64 (k' : Int))) :=
  ⟨h.blk.set 1 _, own_of h.own fun b hb => Below.heap_setCell _ _ _ _ (fun e => h.other (by rw [hb, e])), hk⟩
end

/-- A slice that tells these bytes. -/
def Rs (v : Value) (r : List UInt8) (w : World) : Prop :=
  (v = .slice none 0 0 ∧ r = []) ∨ ∃ g o c, v = .slice (some ⟨g, o, none⟩) r.length c ∧ r.length ≤ c ∧ ∀ j u, (r.map u8v)[j]? = some u → w.cell? ⟨g, o + j, none⟩ = some u

theorem Rs.len {v : Value} {r : List UInt8} {w : World} (h : Rs v r w) : ∃ a c, v = .slice a r.length c := by
  rcases h with ⟨rfl, rfl⟩ | ⟨g, o, c, rfl, _⟩
  · exact ⟨_, _, rfl⟩
  · exact ⟨_, _, rfl⟩

theorem Rs.fr {v : Value} {r : List UInt8} {w w' : World} (h : Rs v r w) (hF : Fr No w w') : Rs v r w' := by
  rcases h with h | ⟨g, o, c, h1, h2, h3⟩
  · exact .inl h
  · exact .inr ⟨g, o, c, h1, h2, fun j u hu => hF.cellB id (h3 j u hu)⟩

/-- The piece from k on. -/
theorem rest_run {B k : Nat} {v : Value} {bs : List UInt8} {w : World} (h : w.ownsRow B 5 1 v bs.length (bs.map u8v)) (hk : k ≤ bs.length) :
    ∃ u, (∀ W : World, (Instr.sliceAt 23 v (some (.int .i64 (k : Int))) none none).run Try.prog W = .ok u W) ∧ Rs u (bs.drop k) w := by
  have hz : ∀ W : World, (sizeOf (Try.prog.elem 23)).run Try.prog W = .ok 1 W := fun W => by kernel_rfl
  rcases own_bytes h with ⟨rfl, rfl⟩ | ⟨g, cap, rfl, hc, hcells⟩
  · have hk0 : k = 0 := by simpa using hk
    subst hk0
    refine ⟨.slice none 0 0, fun W => ?_, .inl ⟨rfl, rfl⟩⟩
    rw [run_sliceAt_slice _ _ _ _ _ _ (by kernel_rfl), run_slice_l _ _ _ _ _ (by kernel_rfl) .i64 _ (by omega) (by simp), hz]
    rfl
  · refine ⟨sliced (some ⟨g, 0, none⟩) k bs.length cap 1, fun W => ?_, .inr ⟨g, if cap = k then 0 else k, cap - k, ?_, by simp; omega, ?_⟩⟩
    · rw [run_sliceAt_slice _ _ _ _ _ _ (by kernel_rfl), run_slice_l _ _ _ _ _ (by kernel_rfl) .i64 _ (by omega) (by omega), hz]
      simp
    · unfold sliced
      by_cases e : cap = k
      · simp [e]
      · simp [e, Addr.add_lit]
    · intro j u hu
      have hj : j < (bs.drop k).length := by
        have := (List.getElem?_eq_some_iff.1 hu).1
        simpa using this
      have hne : cap ≠ k := by
        simp at hj
        omega
      rw [if_neg hne]
      have := hcells (k + j) u (by rw [← hu]; simp)
      rwa [Addr.add_lit, Nat.zero_add] at this

set_option maxHeartbeats 1000000 in
theorem rest_any (B p k : Nat) (v : Value) (bs : List UInt8) (w : World) (h : Bu B p v k bs w) : Calls Try.prog 22 #[.pointer (some ⟨p, 0, none⟩)] w fun e w' => ∃ u, e = .returned u ∧ Rs u (bs.drop k) w' ∧ Fr No w w' := by
  have h0 := h.cell0
  have h1 := h.cell1
  obtain ⟨u, hu, hR⟩ := rest_run h.own h.le
  have HR := Lib.hid hR
  obtain ⟨a', n', c', hv'⟩ := slice_form h.own
  subst hv'
  clear hR h
  go_enter Try.func22, Try.ntmps22
  go_wp2
  go_region
  go_wp2
  go_ret
  exact ⟨u, rfl, HR.out.fr (Fr.refl _ _).drew, (Fr.refl _ _).drew⟩

set_option maxHeartbeats 1000000 in
theorem bclone_any (B : Nat) (v : Value) (r : List UInt8) (w : World) (h : Rs v r w) (hB : B ≤ w.heap.size) (hr : r.length ≤ 1048576) : Calls Try.prog 23 #[v] w fun e w' => ∃ u, e = .returned u ∧ w'.ownsRow B 5 1 u r.length (r.map u8v) ∧ (∀ b, u.ownBlock = some b → w.heap.size ≤ b) ∧ Fr No w w' := by
  obtain ⟨i0, hi, hz0, hz1, hz2⟩ := info_parts Try.infoU8
  have q : ∀ (w : World) (a : Option Addr) (n c n' c' : Nat), (binOp .eql 23 (.slice a n c) (.slice none n' c')).run Try.prog w = .ok (.bool a.isNone) w := fun w a n c n' c' => Lib.run_eql_slice_nil w _ _ a n c n' c' Try.underlying23
  rcases h with ⟨rfl, rfl⟩ | ⟨g, o, c, rfl, hc, hcells⟩
  · go_enter Try.func23, Try.ntmps23
    go_wp2
    go_ret
    exact ⟨_, rfl, World.ownsRow_nil _ _ _ _, by simp [Value.ownBlock], Fr.refl _ _⟩
  · have HC := Lib.hid hcells
    clear hcells
    go_enter Try.func23, Try.ntmps23
    go_wp2_with (at_builtin; refine wpList_append_own _ rfl _ _ 23 rfl w.heap.size 5 i0 (.int .u8 0) 1 1 Try.underlying23 hi hz0 hz1 hz2 rfl (by decide) _ _ _ rfl (World.ownsRow_made w #[] 0 (Nat.le_refl _) (Nat.zero_le _) rfl) ⟨g, o, none⟩ r.length c (r.map u8v) rfl ?c1 ?c2 ?c3 ?c4 ?c5 ?c6 ?c7)
    case c1 => simp
    case c2 => exact fun j u hu => by rw [Addr.add_lit]; exact (World.cell?_alloc_lt _ _ _ (World.block_lt_of_cell? _ _ (HC.out j u hu))).trans (HC.out j u hu)
    case c3 => exact oneCell_u8 _
    case c4 => unfold maxLen; omega
    case c5 => omega
    case c6 => simp
    case c7 =>
      intro v' w1 hown' hgrow _
      obtain ⟨a', n', c', hv'⟩ := slice_form hown'
      have HO := Lib.hid hown'
      have HG := Lib.hid hgrow
      clear hown' hgrow
      subst hv'
      go_wp2
      go_ret
      refine ⟨_, rfl, own_mono (by simpa using HO.out) hB, fun b hb => (HO.out.lt b hb).1, ((Fr.refl (· = w.heap.size) w).alloc _).trans (Fr.of_grown HG.out fun k hk => ?_) |>.mono fun k hk e => by omega⟩
      simpa [Value.ownBlock] using hk.symm

set_option maxHeartbeats 1000000 in
theorem add_any8 (B p k : Nat) (v : Value) (bs s : List UInt8) (w : World) (h : Bu B p v k bs w) (hB : B ≤ w.heap.size) (hn : bs.length + s.length ≤ 1048576) : Calls Try.prog 18 #[.pointer (some ⟨p, 0, none⟩), .string (str s)] w fun e w' => e = .returned (.tuple #[]) ∧ ∃ v', Bu B p v' k (bs ++ s) w' ∧ Fr (WS p v) w w' := by
  obtain ⟨i0, hi, hz0, hz1, hz2⟩ := info_parts Try.infoU8
  have hsz := str_size s
  have hc := h.cell0
  have hown := Lib.hid h.own
  have H := Lib.hid h
  clear h
  obtain ⟨T, hT⟩ : ∃ T, T = str s := ⟨_, rfl⟩
  rw [← hT] at hsz ⊢
  have HT := Lib.hid hT
  clear hT
  go_enter Try.func18, Try.ntmps18
  go_wp2_with (at_builtin; refine Lib.wpList_append_own_string _ rfl _ _ 23 9 rfl B 5 i0 Try.underlying23 Try.underlying9 hi hz0 hz1 hz2 _ _ _ rfl hown.out T rfl ?c1 ?c2 ?c3 ?c4)
  case c1 => unfold maxLen; omega
  case c2 => omega
  case c3 => exact hB
  case c4 =>
    intro v' w1 hown' hgrow _
    have hF := Fr.of_grown (S := fun b => v.ownBlock = some b) hgrow (fun b hb => hb)
    have hb1 := H.out.blk.fr hF H.out.other
    have k1 : w1.cell? ⟨p, 0, none⟩ = some v := hb1.cell rfl
    have k2 : w1.frozen? ⟨p, 0, none⟩ = false := hb1.frozen _
    have e1 : Lib.strCells T = s.map u8v := by rw [HT.out, strCells_eq]; simp [str]
    have e2 : bs.length + s.length = (bs ++ s).length := by simp
    rw [e1, e2, ← List.map_append] at hown'
    obtain ⟨a', n', c', hv'⟩ := slice_form hown'
    have HE : Hid (Bu B p v' k (bs ++ s) (w1.setCell ⟨p, 0, none⟩ v') ∧ Fr (WS p v) w (w1.setCell ⟨p, 0, none⟩ v')) := Lib.hid
      ⟨⟨hb1.set 0 v', own_of hown' fun b hb => Below.heap_setCell _ _ _ _ (fun e => own_ne hown' hb1 (by decide) (by rw [hb, e])), by simp; exact Nat.le_trans H.out.le (Nat.le_add_right _ _)⟩, Fr.setCell (p := ⟨p, 0, none⟩) (hF.mono (T := WS p v) fun b _ hb => Or.inr hb) (.inl (Or.inl rfl)) _⟩
    clear hown' hgrow hF hb1 e1 e2 hc H hown HT
    subst hv'
    go_wp2
    go_end0
    exact ⟨rfl, _, HE.out⟩

/-- The first n of a slice's bytes, as a text. -/
theorem upto_run {v : Value} {r : List UInt8} {w : World} (h : Rs v r w) (n : Nat) (hn : n ≤ r.length) : ∃ x, (∀ W : World, (Instr.sliceAt 23 v none (some (.int .i64 (n : Int))) none).run Try.prog W = .ok x W) ∧ (convert 23 9 x).run Try.prog w = .ok (.string (str (r.take n))) w := by
  have hz : ∀ W : World, (sizeOf (Try.prog.elem 23)).run Try.prog W = .ok 1 W := fun W => by kernel_rfl
  rcases h with ⟨rfl, rfl⟩ | ⟨g, o, c, rfl, hc, hcells⟩
  · have hn0 : n = 0 := by simpa using hn
    subst hn0
    refine ⟨.slice none 0 0, fun W => ?_, ?_⟩
    · rw [run_sliceAt_slice _ _ _ _ _ _ (by kernel_rfl), run_slice_h _ _ _ _ _ (by kernel_rfl) .i64 _ (by omega) (by simp), hz]
      rfl
    · exact Lib.run_convert_nil_bytes w _ _ 5 0 Try.underlying23 Try.underlying5 Try.underlying9
  · refine ⟨.slice (some ⟨g, o, none⟩) n c, fun W => ?_, ?_⟩
    · rw [run_sliceAt_slice _ _ _ _ _ _ (by kernel_rfl), run_slice_h _ _ _ _ _ (by kernel_rfl) .i64 _ (by omega) (by omega), hz]
      have e : (⟨g, o, none⟩ : Addr).add 0 = ⟨g, o, none⟩ := rfl
      simp [sliced, e]
    · have h1 : (r.take n).length = n := by simp; omega
      have := conv_cells (w := w) (ad := ⟨g, o, none⟩) (l := r.take n) c (fun j u hu => (congrArg w.cell? (Addr.add_lit _ _ _)).trans (hcells j u (by
        have hj := (List.getElem?_eq_some_iff.1 hu).1
        simp at hj
        rw [← hu]
        have hj2 : j < n := by omega
        simp [hj2])))
      rwa [h1] at this

set_option maxHeartbeats 2000000 in
theorem take_any8 (B p k n : Nat) (v : Value) (bs : List UInt8) (w : World) (h : Bu B p v k bs w) (hB : B ≤ w.heap.size) (hn : k + n ≤ bs.length) (hm : bs.length ≤ 1048576) : Calls Try.prog 21 #[.pointer (some ⟨p, 0, none⟩), .int .i64 (n : Int)] w fun e w' => e = .returned (.string (str ((bs.drop k).take n))) ∧
    ∃ v' k' bs', Bu B p v' k' bs' w' ∧ bs'.drop k' = bs.drop (k + n) ∧ k' ≤ (bs.drop (k + n)).length ∧ Fr (WS p v) w w' := by
  obtain ⟨T, hT⟩ : ∃ T, T = str ((bs.drop k).take n) := ⟨_, rfl⟩
  obtain ⟨m, hm1⟩ : ∃ m, m = k + n := ⟨_, rfl⟩
  obtain ⟨r, hr⟩ : ∃ r, r = bs.drop m := ⟨_, rfl⟩
  have hrl : r.length = bs.length - m := by rw [hr]; simp
  have a1 : (k : Int) + (n : Int) = (m : Int) := by omega
  have a2 : IntKind.i64.wrap (m : Int) = (m : Int) := IntWalk.i64_in _ (by omega)
  have H := Lib.hid h
  have HT := Lib.hid hT
  have hm2 : m ≤ bs.length := by omega
  have HM := Lib.hid hm1
  have HR := Lib.hid hr
  have HL := Lib.hid hrl
  have HN := Lib.hid hn
  clear h hm1 hr hrl hn
  go_enter Try.func21, Try.ntmps21
  go_wp2_with fail
  refine (rest_any B p k v bs w H.out).mono ?_
  rintro e w1 ⟨u, rfl, hR, hF1⟩
  obtain ⟨x, hx1, hx2⟩ := upto_run hR n (by have := HN.out; simp; omega)
  rw [← hT] at hx2
  have H1 := Lib.hid (H.out.fr hF1 id (fun _ _ => id))
  have F1 := Lib.hid hF1
  have k1 := H1.out.cell1
  have k2 := H1.out.blk.frozen 1
  clear hR hF1 hT
  go_wp2_with fail
  refine wp_world (fun W => Bu B p v m bs W ∧ Fr (WS p v) w W) ⟨H1.out.taken m hm2, (F1.out.mono fun _ _ h => h.elim).setCell (p := ⟨p, 1, none⟩) (.inl (Or.inl rfl)) _⟩ ?_
  rintro w2 ⟨hb2, hF2⟩
  have B2 := Lib.hid hb2
  have F2 := Lib.hid hF2
  have k3 := hb2.cell1
  clear hb2 hF2 k1 k2 hx1 hx2 H1 F1 H
  by_cases hle : r.length ≤ m
  · have hg : (r.length : Int) ≤ (m : Int) := by omega
    go_region_with (go_at_call 22; refine (rest_any B p m v bs w2.drew (B2.out.fr (Fr.refl No _).drew id (fun _ _ => id))).mono ?_; rintro e w3 ⟨u3, rfl, hR3, hF3⟩; rw [← HR.out] at hR3; obtain ⟨a3, c3, e3⟩ := hR3.len; subst e3; have q1 := (B2.out.fr ((Fr.refl No _).drew.trans hF3) id (fun _ _ => id)).cell1; have F3 := Lib.hid ((Fr.refl No w2).drew.trans hF3); clear hR3 hF3)
    all_goals go_wp2_with fail
    all_goals (
      have B3 := B2.out.fr F3.out id (fun _ _ => id)
      refine (rest_any B p m v bs w3 B3).mono ?_
      rintro e w4 ⟨u4, rfl, hR4, hF4⟩
      rw [← HR.out] at hR4
      have B4 := Lib.hid (B3.fr hF4 id (fun _ _ => id))
      have F4 := Lib.hid (F2.out.trans ((F3.out.trans hF4).mono fun _ _ h => h.elim))
      have R4 := Lib.hid hR4
      clear B3 hR4 hF4 F3 F2 B2 q1 k3
      go_wp2_with fail
      refine (bclone_any B u4 r w4 R4.out (Nat.le_trans hB F4.out.size) (by have := HL.out; omega)).mono ?_
      rintro e w5 ⟨u5, rfl, hO5, hn5, hF5⟩
      obtain ⟨a5, n5, c5, e5⟩ := slice_form hO5
      have B5 := B4.out.fr hF5 id (fun _ _ => id)
      have q0 := B5.cell0
      have q1 := B5.cell1
      have q2 := B5.blk.frozen 0
      have q3 := B5.blk.frozen 1
      have hb6 := (B5.blk.set 0 u5).set 1 (.int .i64 0)
      have hne : ∀ b, u5.ownBlock = some b → b ≠ p := fun b hb e => own_ne hO5 B5.blk (by decide) (by rw [hb, e])
      have hE : Bu B p u5 0 r ((w5.setCell ⟨p, 0, none⟩ u5).setCell ⟨p, 1, none⟩ (.int .i64 0)) :=
        ⟨hb6, own_of hO5 fun b hb => (Below.heap_setCell _ _ _ _ (hne b hb)).trans (Below.heap_setCell _ _ _ _ (hne b hb)), Nat.zero_le _⟩
      have HE := Lib.hid hE
      have F6 := Lib.hid (Fr.setCell (p := ⟨p, 1, none⟩) (Fr.setCell (p := ⟨p, 0, none⟩) (F4.out.trans (hF5.mono (T := WS p v) fun _ _ h => h.elim)) (.inl (Or.inl rfl)) u5) (.inl (Or.inl rfl)) (.int .i64 0))
      clear hO5 hn5 hF5 B5 hb6 hne hE F4 B4 R4
      subst e5
      go_wp2
      go_ret
      refine ⟨by rw [HT.out]; rfl, _, _, _, HE.out, ?_, Nat.zero_le _, F6.out⟩
      rw [← HM.out, ← HR.out, List.drop_zero])
  · have hg : ¬ (r.length : Int) ≤ (m : Int) := by omega
    have hg2 : (m : Int) < (r.length : Int) := by omega
    go_region_with (go_at_call 22; refine (rest_any B p m v bs w2.drew (B2.out.fr (Fr.refl No _).drew id (fun _ _ => id))).mono ?_; rintro e w3 ⟨u3, rfl, hR3, hF3⟩; rw [← HR.out] at hR3; obtain ⟨a3, c3, e3⟩ := hR3.len; subst e3; have q1 := (B2.out.fr ((Fr.refl No _).drew.trans hF3) id (fun _ _ => id)).cell1; have F3 := Lib.hid ((Fr.refl No w2).drew.trans hF3); clear hR3 hF3)
    all_goals go_wp2
    all_goals go_ret
    all_goals (
      refine ⟨by rw [HT.out]; rfl, _, _, _, B2.out.fr F3.out id (fun _ _ => id), ?_, ?_, F2.out.trans (F3.out.mono fun _ _ h => h.elim)⟩
      · rw [← HM.out]
      · rw [← HM.out, ← HR.out]
        omega)
end Go.Proofs.Ytejobioddkhinaa
