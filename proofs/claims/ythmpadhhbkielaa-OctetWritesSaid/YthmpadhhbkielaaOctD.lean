import Derived.Test.YthmpadhhbkielaaOctC
import Derived.Deep.RegionWith
import Derived.Deep.RegionHeld
namespace Go.Proofs.Ythmpadhhbkielaa
open Go.RowKit
set_option linter.unusedVariables false

/-- What backOnError has laid: three variables, from block h on. -/
structure Door (b eb h : Nat) (s : ByteArray) (w : World) : Prop where
  c0 : w.cell? ⟨h, 0, none⟩ = some (.pointer (some ⟨b, 0, none⟩))
  c1 : w.cell? ⟨h + 1, 0, none⟩ = some (.pointer (some ⟨eb, 0, none⟩))
  c2 : w.cell? ⟨h + 2, 0, none⟩ = some (.string s)

theorem Door.fr {b eb h : Nat} {s : ByteArray} {S : Nat → Prop} {w w' : World} (d : Door b eb h s w) (hF : Fr S w w') (hS : ∀ k, h ≤ k → ¬ S k) : Door b eb h s w' :=
  ⟨hF.cell (hS _ (by omega)) d.c0, hF.cell (hS _ (by omega)) d.c1, hF.cell (hS _ (by omega)) d.c2⟩

theorem back_R (b eb : Nat) (s : ByteArray) (w : World) (hc : w.cell? ⟨b, 0, none⟩ = some (.string s)) :
    Calls Try.prog 31 #[.pointer (some ⟨b, 0, none⟩), .pointer (some ⟨eb, 0, none⟩)] w fun e w' =>
      e = .returned (.func (.func 34) #[] #[.pointer (some ⟨w.heap.size + 1, 0, none⟩), .pointer (some ⟨w.heap.size, 0, none⟩), .pointer (some ⟨w.heap.size + 2, 0, none⟩)]) ∧
      Door b eb w.heap.size s w' ∧ Fr No w w' := by
  refine (back_any b eb s w hc).mono ?_
  rintro e w' ⟨rfl, rfl⟩
  exact ⟨rfl, ⟨by simp [go_sem], by simp [go_sem], by simp [go_sem]⟩, (((Fr.refl No w).alloc _).alloc _).alloc _⟩

/-- The function ends with an error: the reader is put back. -/
theorem door_err {fn : Func} {tmps : Array Value} {R : Ending → World → Prop} {b eb h : Nat} {k : Int} {s t : ByteArray} {v : Value} {w : World} (d : Door b eb h s w) (hk : (k != 0) = true)
    (ce : w.cell? ⟨eb, 0, none⟩ = some (.int .i64 k)) (cb : w.cell? ⟨b, 0, none⟩ = some (.string t)) (fb : w.frozen? ⟨b, 0, none⟩ = false)
    (hres : (results fn tmps).run Try.prog (w.setCell ⟨b, 0, none⟩ (.string s)) = .ok v (w.setCell ⟨b, 0, none⟩ (.string s))) (hR : R (.returned v) (w.setCell ⟨b, 0, none⟩ (.string s))) :
    Leaves Try.prog fn tmps R [{ target := .fn (.func 34) #[.pointer (some ⟨h + 1, 0, none⟩), .pointer (some ⟨h, 0, none⟩), .pointer (some ⟨h + 2, 0, none⟩)], args := #[] }] .returning w := by
  refine leaves_cons (f := 34) (args := #[.pointer (some ⟨h + 1, 0, none⟩), .pointer (some ⟨h, 0, none⟩), .pointer (some ⟨h + 2, 0, none⟩)]) (by simp) (by simp [go_sem]) ?_
  refine (backon_err b eb h k s t .returning w hk d.c1 d.c0 d.c2 ce cb fb).mono ?_
  rintro e u' w'' ⟨rfl, rfl, rfl⟩
  exact ⟨v, hres, hR⟩

/-- The function ends without an error. -/
theorem door_ok {fn : Func} {tmps : Array Value} {R : Ending → World → Prop} {b eb h : Nat} {s : ByteArray} {v : Value} {w : World} (d : Door b eb h s w)
    (ce : w.cell? ⟨eb, 0, none⟩ = some (.int .i64 0)) (hres : (results fn tmps).run Try.prog w = .ok v w) (hR : R (.returned v) w) :
    Leaves Try.prog fn tmps R [{ target := .fn (.func 34) #[.pointer (some ⟨h + 1, 0, none⟩), .pointer (some ⟨h, 0, none⟩), .pointer (some ⟨h + 2, 0, none⟩)], args := #[] }] .returning w := by
  refine leaves_cons (f := 34) (args := #[.pointer (some ⟨h + 1, 0, none⟩), .pointer (some ⟨h, 0, none⟩), .pointer (some ⟨h + 2, 0, none⟩)]) (by simp) (by simp [go_sem]) ?_
  refine (backon_ok b eb h .returning w d.c1 d.c0 ce).mono ?_
  rintro e u' w'' ⟨rfl, rfl, rfl⟩
  exact ⟨v, hres, hR⟩

theorem Fr.new {S : Nat → Prop} {E : Nat} {a w w' : World} (h : Fr S a w) (k : Fr (· = E) w w') (hE : a.heap.size ≤ E) : Fr S a w' :=
  h.trans' k (fun i hi e => absurd hi (by have : i = E := e; omega))

/-- A variable of this call's, stored to twice, behind a draw. -/
theorem twice {w : World} {E : Nat} {u v x : Value} (h : w.cell? ⟨E, 0, none⟩ = some u) :
    ∃ W, W = ((w.setCell ⟨E, 0, none⟩ v).setCell ⟨E, 0, none⟩ x).drew ∧ W.cell? ⟨E, 0, none⟩ = some x ∧ Fr (· = E) w W :=
  ⟨_, rfl, by rw [World.cell?_drew]; exact World.cell?_setCell_same _ _ _ (World.cell?_setCell_same _ _ _ h), (((Fr.refl (fun k => k = E) w).setCell (.inl rfl) _).setCell (.inl rfl) _).drew⟩

theorem two {w : World} {E : Nat} {u v x : Value} (h : w.cell? ⟨E, 0, none⟩ = some u) :
    ∃ W, W = (w.setCell ⟨E, 0, none⟩ v).setCell ⟨E, 0, none⟩ x ∧ W.cell? ⟨E, 0, none⟩ = some x ∧ Fr (· = E) w W :=
  ⟨_, rfl, World.cell?_setCell_same _ _ _ (World.cell?_setCell_same _ _ _ h), ((Fr.refl (fun k => k = E) w).setCell (.inl rfl) _).setCell (.inl rfl) _⟩

theorem once {w : World} {E : Nat} {u x : Value} (h : w.cell? ⟨E, 0, none⟩ = some u) (hf : w.frozen? ⟨E, 0, none⟩ = false) :
    ∃ W, W = w.setCell ⟨E, 0, none⟩ x ∧ W.cell? ⟨E, 0, none⟩ = some x ∧ Fr (· = E) w W ∧ W.frozen? ⟨E, 0, none⟩ = false :=
  ⟨_, rfl, World.cell?_setCell_same _ _ _ h, (Fr.refl (fun k => k = E) w).setCell (.inl rfl) _, by rw [World.frozen?_setCell]; exact hf⟩

/-- The reader's state behind an error: as it was. -/
theorem rd_back {b E : Nat} {s t : ByteArray} {u : Value} {w w1 w2 : World} (he : w2.cell? ⟨E, 0, none⟩ = some u) (hb : b < w.heap.size) (hE : w.heap.size ≤ E) (h1 : Fr (· = b) w w1) (h2 : Fr (· = E) w1 w2) (cb : w1.cell? ⟨b, 0, none⟩ = some (.string t)) (fb : w1.frozen? ⟨b, 0, none⟩ = false) :
    w2.cell? ⟨b, 0, none⟩ = some (.string t) ∧ w2.frozen? ⟨b, 0, none⟩ = false ∧ (w2.setCell ⟨b, 0, none⟩ (.string s)).cell? ⟨E, 0, none⟩ = some u ∧ Rd b s w (w2.setCell ⟨b, 0, none⟩ (.string s)) := by
  have n : ¬ b = E := by omega
  have c2 := h2.cell n cb
  have f2 := (h2.frozen 0 (lt_cell cb) n).trans fb
  exact ⟨c2, f2, by rw [World.cell?_setCell_far _ _ _ _ n]; exact he, Rd.set (h1.new h2 hE) c2 f2⟩

set_option maxHeartbeats 400000 in
theorem rtext_none (b : Nat) (s : ByteArray) (w : World) (hc : w.cell? ⟨b, 0, none⟩ = some (.string s)) (hf : w.frozen? ⟨b, 0, none⟩ = false) (hs : s.size = 0) :
    Calls Try.prog 23 #[.pointer (some ⟨b, 0, none⟩)] w fun e w' => e = .returned (.tuple #[.string ⟨#[]⟩, .int .i64 10]) ∧ Rd b s w w' := by
  have hb := lt_cell hc
  have HS := Lib.hid hs
  clear hs
  go_enter_defers Try.func23, Try.ntmps23
  go_wp2_with fail
  refine (back_R b w.heap.size s _ (by rw [World.cell?_alloc_lt _ _ _ hb]; exact hc)).mono ?_
  rintro e w1 ⟨rfl, hD, hF⟩
  have ce : w1.cell? ⟨w.heap.size, 0, none⟩ = some (.int .i64 0) := hF.cell id (by simp [go_sem])
  have fe : w1.frozen? ⟨w.heap.size, 0, none⟩ = false := (hF.frozen 0 (by simp) id).trans (by simp [go_sem])
  have hF1 : Fr (· = b) w w1 := ((Fr.refl _ w).alloc _).trans (hF.mono (fun _ _ h => h.elim))
  have cb : w1.cell? ⟨b, 0, none⟩ = some (.string s) := (((Fr.refl No w).alloc _).trans hF).cell id hc
  have fb : w1.frozen? ⟨b, 0, none⟩ = false := ((((Fr.refl No w).alloc _).trans hF).frozen 0 hb id).trans hf
  rw [World.size_alloc] at hD
  have HD := Lib.hid hD
  have HF := Lib.hid hF1
  clear hD hF hF1
  go_wp2_with fail
  refine (take_short b s 1 _ cb (by rw [HS.out]; decide)).mono ?_
  rintro e w2 ⟨rfl, rfl⟩
  go_wp2_with fail
  go_region
  go_wp2
  obtain ⟨W, hW, t1, t2⟩ := twice (v := .int .i64 10) (x := .int .i64 10) ce
  rw [← hW]
  obtain ⟨r1, r2, r3, r4⟩ := rd_back (s := s) t1 hb (Nat.le_refl _) HF.out t2 cb fb
  exact door_err (k := 10) (HD.out.fr t2 (fun k hk => by show ¬ k = _; omega)) (by decide) t1 r1 r2 (by simp [results, Try.results23, go_sem, r3]) ⟨rfl, r4⟩

theorem str_extract0 (l1 l2 : List UInt8) : (str (l1 ++ l2)).extract 0 l1.length = str l1 := by
  apply ByteArray.ext
  simp [str]

theorem str_extract1 (l1 l2 : List UInt8) : (str (l1 ++ l2)).extract l1.length (str (l1 ++ l2)).size = str l2 := by
  apply ByteArray.ext
  apply Array.ext'
  simp [str, ByteArray.size]

/-- 'take' of the first bytes. -/
theorem take_L (b : Nat) (l1 l2 : List UInt8) (w : World) (hc : w.cell? ⟨b, 0, none⟩ = some (.string (str (l1 ++ l2)))) (hf : w.frozen? ⟨b, 0, none⟩ = false) (hm : (l1 ++ l2).length ≤ maxLen) :
    Calls Try.prog 32 #[.pointer (some ⟨b, 0, none⟩), .int .i64 l1.length] w fun e w' => e = .returned (.tuple #[.string (str l1), .int .i64 0]) ∧ Rd b (str l2) w w' := by
  have h := take_okR b (str (l1 ++ l2)) l1.length w hc hf (by rw [str_size]; simp) (by rw [str_size]; exact hm)
  rwa [str_extract0, str_extract1] at h

theorem str_one (c : UInt8) : ∀ h, (str [c])[0]'h = c := fun _ => rfl

set_option maxHeartbeats 400000 in
theorem rtext_wide (b : Nat) (c : UInt8) (l : List UInt8) (w : World) (hc : w.cell? ⟨b, 0, none⟩ = some (.string (str (c :: l)))) (hf : w.frozen? ⟨b, 0, none⟩ = false) (hm : (c :: l).length ≤ maxLen) (hn : 64 < c.toNat) :
    Calls Try.prog 23 #[.pointer (some ⟨b, 0, none⟩)] w fun e w' => e = .returned (.tuple #[.string ⟨#[]⟩, .int .i64 12]) ∧ Rd b (str (c :: l)) w w' := by
  have hb := lt_cell hc
  go_enter_defers Try.func23, Try.ntmps23
  go_wp2_with fail
  refine (back_R b w.heap.size (str (c :: l)) _ (by rw [World.cell?_alloc_lt _ _ _ hb]; exact hc)).mono ?_
  rintro e w1 ⟨rfl, hD, hF⟩
  have ce : w1.cell? ⟨w.heap.size, 0, none⟩ = some (.int .i64 0) := hF.cell id (by simp [go_sem])
  have fe : w1.frozen? ⟨w.heap.size, 0, none⟩ = false := (hF.frozen 0 (by simp) id).trans (by simp [go_sem])
  have hF1 : Fr (· = b) w w1 := ((Fr.refl _ w).alloc _).trans (hF.mono (fun _ _ h => h.elim))
  have cb : w1.cell? ⟨b, 0, none⟩ = some (.string (str (c :: l))) := (((Fr.refl No w).alloc _).trans hF).cell id hc
  have fb : w1.frozen? ⟨b, 0, none⟩ = false := ((((Fr.refl No w).alloc _).trans hF).frozen 0 hb id).trans hf
  rw [World.size_alloc] at hD
  have HD := Lib.hid hD
  have HF := Lib.hid hF1
  clear hD hF hF1
  go_wp2_with fail
  refine (take_L b [c] l _ cb fb hm).mono ?_
  rintro e w2 ⟨rfl, hr⟩
  have ce2 := hr.2.2.cell (Nat.ne_of_gt hb) ce
  have fe2 := (hr.2.2.frozen 0 (lt_cell ce) (Nat.ne_of_gt hb)).trans fe
  have HD2 := Lib.hid (HD.out.fr hr.2.2 (fun k hk => by show ¬ k = _; omega))
  have HF2 := Lib.hid (HF.out.trans hr.2.2)
  have HR := Lib.hid hr
  have h1 := str_one c
  have h2 : (str [c]).size = 1 := rfl
  have h3 : (64 : Int) < (c.toNat : Int) := by omega
  have h4 := c.toNat_lt
  clear hr ce fe cb fb HD HF hc hf
  go_wp2
  obtain ⟨W, hW, t1, t2⟩ := two (v := .int .i64 0) (x := .int .i64 12) ce2
  rw [← hW]
  obtain ⟨r1, r2, r3, r4⟩ := rd_back (s := str (c :: l)) t1 hb (Nat.le_refl _) HF2.out t2 HR.out.1 HR.out.2.1
  exact door_err (k := 12) (HD2.out.fr t2 (fun k hk => by show ¬ k = _; omega)) (by decide) t1 r1 r2 (by simp [results, Try.results23, go_sem, r3]) ⟨rfl, r4⟩

set_option maxHeartbeats 400000 in
theorem rtext_short (b : Nat) (c : UInt8) (l : List UInt8) (w : World) (hc : w.cell? ⟨b, 0, none⟩ = some (.string (str (c :: l)))) (hf : w.frozen? ⟨b, 0, none⟩ = false) (hm : (c :: l).length ≤ maxLen) (hn : c.toNat ≤ 64) (hs : l.length < c.toNat) :
    Calls Try.prog 23 #[.pointer (some ⟨b, 0, none⟩)] w fun e w' => e = .returned (.tuple #[.string ⟨#[]⟩, .int .i64 10]) ∧ Rd b (str (c :: l)) w w' := by
  have hb := lt_cell hc
  go_enter_defers Try.func23, Try.ntmps23
  go_wp2_with fail
  refine (back_R b w.heap.size (str (c :: l)) _ (by rw [World.cell?_alloc_lt _ _ _ hb]; exact hc)).mono ?_
  rintro e w1 ⟨rfl, hD, hF⟩
  have ce : w1.cell? ⟨w.heap.size, 0, none⟩ = some (.int .i64 0) := hF.cell id (by simp [go_sem])
  have fe : w1.frozen? ⟨w.heap.size, 0, none⟩ = false := (hF.frozen 0 (by simp) id).trans (by simp [go_sem])
  have hF1 : Fr (· = b) w w1 := ((Fr.refl _ w).alloc _).trans (hF.mono (fun _ _ h => h.elim))
  have cb : w1.cell? ⟨b, 0, none⟩ = some (.string (str (c :: l))) := (((Fr.refl No w).alloc _).trans hF).cell id hc
  have fb : w1.frozen? ⟨b, 0, none⟩ = false := ((((Fr.refl No w).alloc _).trans hF).frozen 0 hb id).trans hf
  rw [World.size_alloc] at hD
  have HD := Lib.hid hD
  have HF := Lib.hid hF1
  clear hD hF hF1
  go_wp2_with fail
  refine (take_L b [c] l _ cb fb hm).mono ?_
  rintro e w2 ⟨rfl, hr⟩
  have ce2 := hr.2.2.cell (Nat.ne_of_gt hb) ce
  have fe2 := (hr.2.2.frozen 0 (lt_cell ce) (Nat.ne_of_gt hb)).trans fe
  have HD2 := Lib.hid (HD.out.fr hr.2.2 (fun k hk => by show ¬ k = _; omega))
  have HF2 := Lib.hid (HF.out.trans hr.2.2)
  have HR := Lib.hid hr
  have h1 := str_one c
  have h2 : (str [c]).size = 1 := rfl
  have h3 : (c.toNat : Int) ≤ 64 := by omega
  have h4 := c.toNat_lt
  clear hr ce fe cb fb HD HF hc hf
  go_wp2_with fail
  obtain ⟨W, hW, t1, t2, fe3⟩ := once (x := .int .i64 0) ce2 fe2
  rw [← hW]
  have n : ¬ b = w.heap.size := by omega
  have cb3 := t2.cell n HR.out.1
  have fb3 := (t2.frozen 0 (lt_cell HR.out.1) n).trans HR.out.2.1
  have HT := Lib.hid t2
  refine (take_short b (str l) c.toNat _ cb3 (by rw [str_size]; omega)).mono ?_
  rintro e w3 ⟨rfl, rfl⟩
  clear t2 hW ce2 fe2
  go_wp2_with fail
  obtain ⟨V, hV, u1, u2, u3⟩ := once (x := .int .i64 10) t1 fe3
  rw [← hV]
  have HU := Lib.hid u2
  clear hV u2 t1 fe3
  first | go_region_with (go_at_call 33; refine (clone_any _ _ (by decide)).mono ?_; rintro e w4 ⟨rfl, hr4⟩; have q1 := hr4.cell (v := .int .i64 10) (b := w.heap.size) (o := 0) id (by simpa using u1); have q2 := (hr4.frozen 0 (b := w.heap.size) (by simpa using lt_cell u1) id).trans (by simpa using u3)) | fail
  all_goals
    go_wp2
    obtain ⟨Z, hZ, z1, z2, z3⟩ := once (x := .int .i64 10) q1 q2
    rw [← hZ]
    have F4 := ((HT.out.trans HU.out).trans ((Fr.refl (fun k => k = w.heap.size) V).drew.trans (hr4.mono (fun _ _ h => h.elim)))).trans z2
    obtain ⟨r1, r2, r3, r4⟩ := rd_back (s := str (c :: l)) z1 hb (Nat.le_refl _) HF2.out F4 HR.out.1 HR.out.2.1
    exact door_err (k := 10) (HD2.out.fr F4 (fun k hk => by show ¬ k = _; omega)) (by decide) z1 r1 r2 (by simp [results, Try.results23, go_sem, r3]) ⟨rfl, r4⟩

set_option maxHeartbeats 400000 in
theorem rtext_ok (b : Nat) (c : UInt8) (l1 l2 : List UInt8) (w : World) (hc : w.cell? ⟨b, 0, none⟩ = some (.string (str (c :: (l1 ++ l2))))) (hf : w.frozen? ⟨b, 0, none⟩ = false) (hm : (c :: (l1 ++ l2)).length ≤ maxLen) (hn : c.toNat ≤ 64) (hs : c.toNat = l1.length) :
    Calls Try.prog 23 #[.pointer (some ⟨b, 0, none⟩)] w fun e w' => e = .returned (.tuple #[.string (str l1), .int .i64 0]) ∧ Rd b (str l2) w w' := by
  have hb := lt_cell hc
  have HN := Lib.hid hs
  have hm2 : (l1 ++ l2).length ≤ maxLen := by simp only [List.length_cons] at hm; omega
  have hl64 : l1.length ≤ 64 := by omega
  clear hs
  go_enter_defers Try.func23, Try.ntmps23
  go_wp2_with fail
  refine (back_R b w.heap.size (str (c :: (l1 ++ l2))) _ (by rw [World.cell?_alloc_lt _ _ _ hb]; exact hc)).mono ?_
  rintro e w1 ⟨rfl, hD, hF⟩
  have ce : w1.cell? ⟨w.heap.size, 0, none⟩ = some (.int .i64 0) := hF.cell id (by simp [go_sem])
  have fe : w1.frozen? ⟨w.heap.size, 0, none⟩ = false := (hF.frozen 0 (by simp) id).trans (by simp [go_sem])
  have hF1 : Fr (· = b) w w1 := ((Fr.refl _ w).alloc _).trans (hF.mono (fun _ _ h => h.elim))
  have cb : w1.cell? ⟨b, 0, none⟩ = some (.string (str (c :: (l1 ++ l2)))) := (((Fr.refl No w).alloc _).trans hF).cell id hc
  have fb : w1.frozen? ⟨b, 0, none⟩ = false := ((((Fr.refl No w).alloc _).trans hF).frozen 0 hb id).trans hf
  rw [World.size_alloc] at hD
  have HD := Lib.hid hD
  have HF := Lib.hid hF1
  clear hD hF hF1
  go_wp2_with fail
  refine (take_L b [c] (l1 ++ l2) _ cb fb hm).mono ?_
  rintro e w2 ⟨rfl, hr⟩
  have ce2 := hr.2.2.cell (Nat.ne_of_gt hb) ce
  have fe2 := (hr.2.2.frozen 0 (lt_cell ce) (Nat.ne_of_gt hb)).trans fe
  have HD2 := Lib.hid (HD.out.fr hr.2.2 (fun k hk => by show ¬ k = _; omega))
  have HF2 := Lib.hid (HF.out.trans hr.2.2)
  have HR := Lib.hid hr
  have h1 := str_one c
  have h2 : (str [c]).size = 1 := rfl
  have h3 : (c.toNat : Int) ≤ 64 := by omega
  have h4 := c.toNat_lt
  clear hr ce fe cb fb HD HF hc hf
  go_wp2_with fail
  obtain ⟨W, hW, t1, t2, fe3⟩ := once (x := .int .i64 0) ce2 fe2
  rw [← hW]
  have n : ¬ b = w.heap.size := by omega
  have cb3 := t2.cell n HR.out.1
  have fb3 := (t2.frozen 0 (lt_cell HR.out.1) n).trans HR.out.2.1
  have HT := Lib.hid t2
  have hk := take_L b l1 l2 W cb3 fb3 hm2
  rw [← HN.out] at hk
  refine hk.mono ?_
  rintro e w3 ⟨rfl, hr3⟩
  have t3 := hr3.2.2.cell (Nat.ne_of_gt hb) t1
  have f3 := (hr3.2.2.frozen 0 (lt_cell t1) (Nat.ne_of_gt hb)).trans fe3
  have HR3 := Lib.hid hr3
  have hsz : (str l1).size ≤ 64 := by rw [str_size]; exact hl64
  clear t2 hW ce2 fe2 hr3 hk
  go_wp2_with fail
  obtain ⟨V, hV, u1, u2, u3⟩ := once (x := .int .i64 0) t3 f3
  rw [← hV]
  have HU := Lib.hid u2
  clear hV u2 t1 fe3 t3 f3
  first | go_region_with (go_at_call 33; refine (clone_any _ _ (by omega)).mono ?_; rintro e w4 ⟨rfl, hr4⟩; have q1 := hr4.cell (v := .int .i64 0) (b := w.heap.size) (o := 0) id (by simpa using u1); have q2 := (hr4.frozen 0 (b := w.heap.size) (by simpa using lt_cell u1) id).trans (by simpa using u3)) | fail
  all_goals
    go_wp2
    obtain ⟨Z, hZ, z1, z2, z3⟩ := once (x := .int .i64 0) q1 q2
    rw [← hZ]
    have F4 := (HU.out.trans ((Fr.refl (fun k => k = w.heap.size) V).drew.trans (hr4.mono (fun _ _ h => h.elim)))).trans z2
    have F5 : Fr (· = b) w Z := ((HF2.out.new HT.out (Nat.le_refl _)).trans HR3.out.2.2).new F4 (Nat.le_refl _)
    have HRZ : Rd b (str l2) w Z := ⟨F4.cell n HR3.out.1, (F4.frozen 0 (lt_cell HR3.out.1) n).trans HR3.out.2.1, F5⟩
    exact door_ok (((HD2.out.fr HT.out (fun k hk => by show ¬ k = _; omega)).fr HR3.out.2.2 (fun k hk => by show ¬ k = _; omega)).fr F4 (fun k hk => by show ¬ k = _; omega)) z1 (by simp [results, Try.results23, go_sem, z1]) ⟨rfl, HRZ⟩

end Go.Proofs.Ythmpadhhbkielaa
