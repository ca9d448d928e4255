/- One field goes by a carrier. -/
import Derived.Test.YtpdnbjaamgfemaaWpD
namespace Go.Proofs.Ytpdnbjaamgfemaa
open Go.RowKit
set_option linter.unusedVariables false
set_option maxRecDepth 100000

section
variable {t : TypeId} {c0 : Value} {B p q : Nat} {τ : Type} {I : Nat → τ → World → Prop} {j : Nat} {num : Nat → Int → τ → Except Int (Nat × τ)} {hsh : List UInt8 → τ → Except Int (List UInt8 × τ)} {fnum fhash : FuncId}

/-- What stands behind a step. -/
def After (B p q : Nat) {τ : Type} (I : τ → World → Prop) (r : Except Int (Msg × τ)) (w : World) (e : Ending) (w' : World) : Prop :=
  match r with
  | .ok (m, s) => e = .returned (.tuple #[]) ∧ m.Ok ∧ I s w' ∧ Keeps B p q w w' ∧ Blk w' p 27 (cellsM m)
  | .error c => e = wrong c ∧ Keeps B p q w w'

theorem blk_ne {w : World} {b p : Nat} {t : TypeId} {cs : List Value} {m : Msg} (h : Blk w b t cs) (hm : Blk w p 27 (cellsM m)) (ht : t ≠ 27) : b ≠ p := by
  rintro rfl
  unfold Blk at h hm
  rw [h] at hm
  injection hm with hm
  injection hm with _ h2 _
  exact ht h2

/-- What a carrier tells of a number, and where it lies then. -/
def Told (B p q : Nat) {τ : Type} (I : τ → World → Prop) (m : Msg) (r : Except Int (Nat × τ)) (w : World) (n : Nat) (w' : World) : Prop :=
  ∃ s', r = .ok (n, s') ∧ n < 18446744073709551616 ∧ I s' w' ∧ Keeps B p q w w' ∧ Blk w' p 27 (cellsM m)
def Lost (B p q : Nat) {σ : Type} (r : Except Int σ) (w : World) (c : List PanicEntry) (w' : World) : Prop :=
  ∃ e, r = .error e ∧ Ending.panicked c = wrong e ∧ Keeps B p q w w'

theorem Car.tells (C : Car t c0 B p q τ I num hsh fnum fhash) {s : τ} {w : World} {n : Nat} {k : Int} {m : Msg} (hi : I (j + 1) s w) (hn : n < 18446744073709551616) (hm : Blk w p 27 (cellsM m)) :
    Calls Try.prog fnum #[c0, .int .u64 (n : Int), .int .i64 k] w fun e w' => (∃ v : Nat, e = .returned (.int .u64 (v : Int)) ∧ Told B p q (I j) m (num n k s) w v w') ∨ (∃ c, e = .panicked c ∧ Lost B p q (num n k s) w c w') := by
  refine (C.number j s w n k m hi hn hm).mono ?_
  intro e w' h
  cases hr : num n k s with
  | ok x =>
    obtain ⟨v, s'⟩ := x
    rw [hr] at h
    exact .inl ⟨v, h.1, s', rfl, h.2⟩
  | error c =>
    rw [hr] at h
    exact .inr ⟨_, h.1, c, rfl, rfl, h.2⟩

theorem drew_fr (S : Nat → Prop) (w : World) : Fr S w w.drew := (Fr.refl S w).drew

/-- What is laid behind a number that was told. -/
theorem after_num (C : Car t c0 B p q τ I num hsh fnum fhash) {w w1 : World} {m : Msg} {s : τ} {d : Fd} (hd : d ≠ .hash) (ok : m.Ok) {n : Nat} {u : Value} (hu : (cellsM m).set d.off u = cellsM (d.put m n))
    (h : Told B p q (I j) m (num (d.raw m) d.width s) w.drew n w1) : After B p q (I j) (stepF num hsh d (m, s)) w (.returned (.tuple #[])) (w1.setCell ⟨p, d.off, none⟩ u) := by
  obtain ⟨s', hr, hn, hi, hk, hb⟩ := h
  have e : stepF num hsh d (m, s) = .ok (d.put m n, s') := by
    unfold stepF
    rw [if_neg hd]
    simp only [hr]
  rw [e]
  have hF : Fr (· = p) w1 (w1.setCell ⟨p, d.off, none⟩ u) := (Fr.refl (· = p) w1).setCell (.inl rfl) _
  refine ⟨rfl, Fd.put_ok ok hn d, C.frame _ _ _ _ _ hi hb hF, ?_, ?_⟩
  · exact (Keeps.of_fr (drew_fr No w) (fun _ h => h.elim) C.low.1 C.low.2).trans (hk.trans (Keeps.of_fr hF (fun k hk => .inl hk) C.low.1 C.low.2))
  · rw [← hu]
    exact hb.set _ _
theorem after_lost {w w1 : World} {m : Msg} {s : τ} {d : Fd} (hd : d ≠ .hash) (C : Car t c0 B p q τ I num hsh fnum fhash) {c : List PanicEntry} (h : Lost B p q (num (d.raw m) d.width s) w.drew c w1) : After B p q (I j) (stepF num hsh d (m, s)) w (.panicked c) w1 := by
  obtain ⟨e, hr, hc, hF⟩ := h
  have e : stepF num hsh d (m, s) = .error e := by
    unfold stepF
    rw [if_neg hd]
    simp only [hr]
  rw [e]
  exact ⟨hc, (Keeps.of_fr (drew_fr No w) (fun _ h => h.elim) C.low.1 C.low.2).trans hF⟩

theorem u64_of (x : Int) : IntKind.u64.wrap x = ((IntKind.u64.wrap x).toNat : Int) := by have := wrap_u64_range x; omega
theorem u32_of (x : Int) : IntKind.u32.wrap x = ((IntKind.u32.wrap x).toNat : Int) := by have := wrap_u32_range x; omega
theorem u64_id (n : Nat) (h : n < 18446744073709551616) : IntKind.u64.wrap (n : Int) = (n : Int) := by
  have h1 : IntKind.u64.wrap (n : Int) = (n : Int) % 18446744073709551616 := by simp [IntKind.wrap, IntKind.signed, IntKind.bits]
  omega

theorem step_num (C : Car t c0 B p q τ I num hsh fnum fhash) {w : World} {m : Msg} {s : τ} {d : Fd} {b1 b2 : Nat} (hd : d ≠ .hash) (ok : m.Ok) (hf : FdAt w p q d b1 b2) (hm : Blk w p 27 (cellsM m)) (hi : I (j + 1) s w) :
    Calls Try.prog d.fn (#[.iface t c0] ++ d.caps b1 b2) w (After B p q (I j) (stepF num hsh d (m, s)) w) := by
  obtain ⟨h2, nq2⟩ : Blk w b2 3 [.int .i64 d.width] ∧ b2 ≠ q := by
    rcases hf.wide with e | h
    · exact absurd e hd
    · exact h
  have h1 := hf.place
  have nq1 := hf.away
  have n1 : b1 ≠ p := blk_ne h1 hm d.tp_ne.2
  have n2 : b2 ≠ p := blk_ne h2 hm (by decide)
  have hD : Fr (· = p) w w.drew := drew_fr _ w
  have hmD : Blk w.drew p 27 (cellsM m) := hm
  have hc := C.tells (n := d.raw m) (k := d.width) (C.frame _ _ _ _ _ hi hm hD) (Fd.raw_lt ok d) hmD
  have hp : ∀ (n : Nat) (w' : World), Told B p q (I j) m (num (d.raw m) d.width s) w.drew n w' → Blk w' b1 d.tp [.pointer (some ⟨p, d.off, none⟩)] ∧ Blk w' b2 3 [.int .i64 d.width] ∧ Blk w' p 27 (cellsM m) := by
    rintro n w' ⟨s', hr, hn, hi', hk, hb⟩
    exact ⟨hk.blk _ _ _ nq1 n1 d.tp_ne.1 h1, hk.blk _ _ _ nq2 n2 (by decide) h2, hb⟩
  have hl := ok.h
  cases d
  case hash => exact absurd rfl hd
  case kind =>
    refine (numi_any p 0 b1 b2 _ m.k c0 fnum w _ _ t (h1.cell rfl) (h2.cell rfl) (msg_k hm) n1 n2 C.mnum _ (u64_of m.k) hc (fun n w' h => ?_)).mono ?_
    · obtain ⟨k1, k2, k3⟩ := hp n w' h
      exact ⟨k1.cell rfl, k2.cell rfl, msg_k k3, k3.frozen _⟩
    · rintro e w' (⟨n, w1, rfl, hT, rfl⟩ | ⟨c, rfl, hL⟩)
      · exact after_num C (d := .kind) hd ok (cellsM_k m _) hT
      · exact after_lost hd C hL
  case expiry =>
    refine (numi_any p 36 b1 b2 _ m.e c0 fnum w _ _ t (h1.cell rfl) (h2.cell rfl) (msg_e hm hl) n1 n2 C.mnum _ (u64_of m.e) hc (fun n w' h => ?_)).mono ?_
    · obtain ⟨k1, k2, k3⟩ := hp n w' h
      exact ⟨k1.cell rfl, k2.cell rfl, msg_e k3 hl, k3.frozen _⟩
    · rintro e w' (⟨n, w1, rfl, hT, rfl⟩ | ⟨c, rfl, hL⟩)
      · exact after_num C (d := .expiry) hd ok (cellsM_e m hl _) hT
      · exact after_lost hd C hL
  case count =>
    refine (numi_any p 37 b1 b2 _ m.n c0 fnum w _ _ t (h1.cell rfl) (h2.cell rfl) (msg_n hm hl) n1 n2 C.mnum _ (u64_of m.n) hc (fun n w' h => ?_)).mono ?_
    · obtain ⟨k1, k2, k3⟩ := hp n w' h
      exact ⟨k1.cell rfl, k2.cell rfl, msg_n k3 hl, k3.frozen _⟩
    · rintro e w' (⟨n, w1, rfl, hT, rfl⟩ | ⟨c, rfl, hL⟩)
      · exact after_num C (d := .count) hd ok (cellsM_n m hl _) hT
      · exact after_lost hd C hL
  case chan =>
    refine (numw_any p 1 b1 b2 _ (m.c : Int) c0 fnum w _ _ t (h1.cell rfl) (h2.cell rfl) (msg_c hm) n1 n2 C.mnum _ (u64_id m.c (by have := ok.c; omega)) hc (fun n w' h => ?_)).mono ?_
    · obtain ⟨k1, k2, k3⟩ := hp n w' h
      exact ⟨k1.cell rfl, k2.cell rfl, msg_c k3, k3.frozen _⟩
    · rintro e w' (⟨n, w1, rfl, hT, rfl⟩ | ⟨c, rfl, hL⟩)
      · exact after_num C (d := .chan) hd ok (by rw [u32_of]; exact cellsM_c m _) hT
      · exact after_lost hd C hL
  case id =>
    refine (numq_any p 2 b1 b2 _ (m.i : Int) c0 fnum w _ _ t (h1.cell rfl) (h2.cell rfl) (msg_i hm) n1 n2 C.mnum _ rfl hc (fun n w' h => ?_)).mono ?_
    · obtain ⟨k1, k2, k3⟩ := hp n w' h
      exact ⟨k1.cell rfl, k2.cell rfl, msg_i k3, k3.frozen _⟩
    · rintro e w' (⟨n, w1, rfl, hT, rfl⟩ | ⟨c, rfl, hL⟩)
      · exact after_num C (d := .id) hd ok (cellsM_i m _) hT
      · exact after_lost hd C hL
  case amount =>
    refine (numq_any p 3 b1 b2 _ (m.a : Int) c0 fnum w _ _ t (h1.cell rfl) (h2.cell rfl) (msg_a hm) n1 n2 C.mnum _ rfl hc (fun n w' h => ?_)).mono ?_
    · obtain ⟨k1, k2, k3⟩ := hp n w' h
      exact ⟨k1.cell rfl, k2.cell rfl, msg_a k3, k3.frozen _⟩
    · rintro e w' (⟨n, w1, rfl, hT, rfl⟩ | ⟨c, rfl, hL⟩)
      · exact after_num C (d := .amount) hd ok (cellsM_a m _) hT
      · exact after_lost hd C hL

theorem step_hash (C : Car t c0 B p q τ I num hsh fnum fhash) {w : World} {m : Msg} {s : τ} {b1 b2 : Nat} (ok : m.Ok) (hf : FdAt w p q .hash b1 b2) (hm : Blk w p 27 (cellsM m)) (hi : I (j + 1) s w) :
    Calls Try.prog (Fd.hash).fn (#[.iface t c0] ++ Fd.caps b1 b2 .hash) w (After B p q (I j) (stepF num hsh .hash (m, s)) w) := by
  have h1 := hf.place
  have nq1 := hf.away
  have n1 : b1 ≠ p := blk_ne h1 hm Fd.hash.tp_ne.2
  have hmD : Blk w.drew p 27 (cellsM m) := hm
  have hc := C.hash j s w.drew m.h m (C.frame _ _ _ _ _ hi hm (drew_fr _ w)) ok.h hmD
  refine (hashf_any p 4 b1 m.h c0 fhash w (fun g w' => ∃ s', hsh m.h s = .ok (g, s') ∧ g.length = 32 ∧ I j s' w' ∧ Keeps B p q w.drew w' ∧ Blk w' p 27 (cellsM m)) (fun g V => ∃ s', hsh m.h s = .ok (g, s') ∧ g.length = 32 ∧ I j s' V ∧ Keeps B p q w V ∧ Blk V p 27 (cellsM { m with h := g })) (fun c w' => Lost B p q (hsh m.h s) w.drew c w') t (h1.cell rfl) (msg_h hmD ok.h) C.mhash (hc.mono ?_) ?_).mono ?_
  · intro e w' h
    cases hr : hsh m.h s with
    | ok x =>
      obtain ⟨g, s'⟩ := x
      rw [hr] at h
      exact .inl ⟨g, h.1, s', rfl, h.2⟩
    | error c =>
      rw [hr] at h
      exact .inr ⟨_, h.1, c, rfl, rfl, h.2⟩
  · rintro g w' ⟨s', hr, hg, hi', hk, hb⟩
    have hb1 := hk.blk _ _ _ nq1 n1 Fd.hash.tp_ne.1 h1
    have hF : Fr (· = p) w' (w'.setCells p 4 (g.map u8v)) := fr_setCells _ _ _ _ _ (.inl rfl) (Fr.refl _ _)
    refine ⟨hb1.cell rfl, _, store_range (hb.there (by rw [cellsM_len m ok.h, List.length_map, hg]; decide)) (by rw [List.length_map, hg]; kernel_rfl) (u8s_one g) _ rfl, ⟨s', hr, hg, C.frame _ _ _ _ _ hi' hb hF, ?_, ?_⟩, (hb1.fr hF n1).cell rfl⟩
    · exact (Keeps.of_fr (drew_fr No w) (fun _ h => h.elim) C.low.1 C.low.2).trans (hk.trans (Keeps.of_fr hF (fun k hk => .inl hk) C.low.1 C.low.2))
    · rw [← cellsM_h m ok.h g hg]
      exact hb.setCells _ _ _ _
  · rintro e w' (⟨g, rfl, s', hr, hg, hi', hk, hb⟩ | ⟨c, rfl, e, hr, hc', hF⟩)
    · have e : stepF num hsh .hash (m, s) = .ok ({ m with h := g }, s') := by
        unfold stepF
        rw [if_pos rfl]
        simp only [hr]
      rw [e]
      exact ⟨rfl, ⟨ok.c, ok.i, ok.a, hg, ok.k, ok.e, ok.n⟩, hi', hk, hb⟩
    · have e : stepF num hsh .hash (m, s) = .error e := by
        unfold stepF
        rw [if_pos rfl]
        simp only [hr]
      rw [e]
      exact ⟨hc', (Keeps.of_fr (drew_fr No w) (fun _ h => h.elim) C.low.1 C.low.2).trans hF⟩

theorem fstep_any (C : Car t c0 B p q τ I num hsh fnum fhash) {w : World} {m : Msg} {s : τ} {d : Fd} {b1 b2 : Nat} (ok : m.Ok) (hf : FdAt w p q d b1 b2) (hm : Blk w p 27 (cellsM m)) (hi : I (j + 1) s w) :
    Calls Try.prog d.fn (#[.iface t c0] ++ d.caps b1 b2) w (After B p q (I j) (stepF num hsh d (m, s)) w) := by
  by_cases hd : d = .hash
  · subst hd
    exact step_hash C ok hf hm hi
  · exact step_num C hd ok hf hm hi
end
end Go.Proofs.Ytpdnbjaamgfemaa
