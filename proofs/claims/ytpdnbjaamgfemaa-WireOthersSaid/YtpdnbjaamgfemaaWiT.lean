/- Messages: what was encoded is decoded; bytes are of one message alone; cut, and more behind. -/
import Derived.Test.YtpdnbjaamgfemaaWiM
namespace Go.Proofs.Ytpdnbjaamgfemaa
set_option linter.unusedVariables false
set_option maxRecDepth 100000

theorem bb (bs : List UInt8) : ∀ k, bs.length = k → beBytes (beNat bs) k = bs := by
  suffices h : ∀ (r : List UInt8) (k : Nat) (n : Nat), r.length = k → beBytes (n * 256 ^ k + beNat r) k = r by
    intro k hk
    have := h bs k 0 hk
    rwa [Nat.zero_mul, Nat.zero_add] at this
  intro r
  induction r with
  | nil => intro k n hk; subst hk; rfl
  | cons b r ih =>
    intro k n hk
    subst hk
    have e : beNat (b :: r) = b.toNat * 256 ^ r.length + beNat r := by
      have key : ∀ (r : List UInt8) (x : Nat), r.foldl (fun n b => n * 256 + b.toNat) x = x * 256 ^ r.length + r.foldl (fun n b => n * 256 + b.toNat) 0 := by
        intro r
        induction r with
        | nil => intro x; simp
        | cons c r ih =>
          intro x
          rw [List.foldl_cons, List.foldl_cons, ih (x * 256 + c.toNat), ih (0 * 256 + c.toNat), List.length_cons, Nat.pow_succ, Nat.zero_mul, Nat.zero_add, Nat.add_mul, Nat.mul_assoc, Nat.mul_comm 256 (256 ^ r.length), Nat.add_assoc]
      unfold beNat
      rw [List.foldl_cons, key r (0 * 256 + b.toNat), Nat.zero_mul, Nat.zero_add]
    have hl := beNat_lt r
    have hb : b.toNat < 256 := b.toNat_lt
    have hp : 0 < 256 ^ r.length := Nat.pos_of_ne_zero (by simp)
    rw [List.length_cons, beBytes_succ, pow8, e]
    congr 1
    · have h1 : n * 256 ^ (r.length + 1) + (b.toNat * 256 ^ r.length + beNat r) = (n * 256 + b.toNat) * 256 ^ r.length + beNat r := by
        rw [Nat.pow_succ, Nat.add_mul, Nat.mul_assoc, Nat.mul_comm 256 (256 ^ r.length)]
        omega
      rw [h1, Nat.add_comm, Nat.add_mul_div_right _ _ hp, Nat.div_eq_of_lt hl, Nat.zero_add, Nat.add_comm, Nat.mul_comm n 256, Nat.add_mul_mod_self_left, Nat.mod_eq_of_lt hb]
      simp
    · have h1 : n * 256 ^ (r.length + 1) + (b.toNat * 256 ^ r.length + beNat r) = (n * 256 + b.toNat) * 256 ^ r.length + beNat r := by
        rw [Nat.pow_succ, Nat.add_mul, Nat.mul_assoc, Nat.mul_comm 256 (256 ^ r.length)]
        omega
      rw [h1]
      exact ih _ _ rfl

abbrev Lett (c : UInt8) : Prop := c = 105 ∨ c = 97 ∨ c = 104 ∨ c = 101 ∨ c = 110

theorem field_own (m : Msg) {c : UInt8} (hc : Lett c) (bs : List UInt8) (hb : bs.length = widthB c) : fieldOf (setF m c bs) c = bs := by
  rcases hc with rfl | rfl | rfl | rfl | rfl <;> simp [fieldOf, setF, widthB] at hb ⊢
  · exact bb bs 8 hb
  · exact bb bs 8 hb
  · exact bb bs 4 hb
  · exact bb bs 2 hb
theorem field_other (m : Msg) {c d : UInt8} (hc : Lett c) (hd : Lett d) (hn : d ≠ c) (bs : List UInt8) : fieldOf (setF m d bs) c = fieldOf m c := by
  rcases hc with rfl | rfl | rfl | rfl | rfl <;> rcases hd with rfl | rfl | rfl | rfl | rfl <;> first | exact absurd rfl hn | simp [fieldOf, setF]
theorem field_kept {c : UInt8} (hc : Lett c) : ∀ (l : List UInt8) (m : Msg) (s : List UInt8), (∀ d ∈ l, Lett d) → c ∉ l → fieldOf (readF m l s) c = fieldOf m c
  | [], _, _, _, _ => rfl
  | d :: l, m, s, hl, hn => by
    rw [readF, field_kept hc l _ _ (fun x hx => hl x (List.mem_cons_of_mem _ hx)) (fun h => hn (List.mem_cons_of_mem _ h)), field_other m hc (hl d (List.mem_cons_self ..)) (fun h => hn (h ▸ List.mem_cons_self ..))]
theorem all_read : ∀ (l : List UInt8) (m : Msg) (s : List UInt8), (∀ d ∈ l, Lett d) → l.Nodup → s.length = lenB l → allOf (readF m l s) l = s
  | [], _, s, _, _, hs => (List.eq_nil_of_length_eq_zero hs).symm
  | c :: l, m, s, hl, hn, hs => by
    have hc := hl c (List.mem_cons_self ..)
    rw [List.nodup_cons] at hn
    rw [lenB] at hs
    rw [allOf, readF, field_kept hc l _ _ (fun x hx => hl x (List.mem_cons_of_mem _ hx)) hn.1, field_own m hc _ (by rw [List.length_take]; omega), all_read l _ _ (fun x hx => hl x (List.mem_cons_of_mem _ hx)) hn.2 (by rw [List.length_drop]; omega), List.take_append_drop]
theorem fields_nodup (k : Int) : (fieldsB k).Nodup := by
  unfold fieldsB
  repeat' split
  all_goals decide
theorem read_k : ∀ (l : List UInt8) (m : Msg) (s : List UInt8), (readF m l s).k = m.k ∧ (readF m l s).c = m.c
  | [], _, _ => ⟨rfl, rfl⟩
  | d :: l, m, s => by
    have h := read_k l (setF m d (s.take (widthB d))) (s.drop (widthB d))
    have e : (setF m d (s.take (widthB d))).k = m.k ∧ (setF m d (s.take (widthB d))).c = m.c := by
      unfold setF
      repeat' split
      all_goals exact ⟨rfl, rfl⟩
    rw [readF, h.1, h.2, e.1, e.2]
    exact ⟨rfl, rfl⟩
theorem told_k (b : UInt8) (s : List UInt8) : (told b s).k = (b.toNat : Int) := (read_k _ _ _).1
theorem told_c (b : UInt8) (s : List UInt8) : (told b s).c = beNat (s.take 4) := (read_k _ _ _).2
theorem bytes_told (b : UInt8) (s : List UInt8) (hs : s.length + 1 = 5 + lenB (fieldsB (b.toNat : Int))) : bytesM (told b s) = b :: s := by
  unfold bytesM
  rw [told_k, told_c]
  have h1 : allOf (told b s) (fieldsB (b.toNat : Int)) = s.drop 4 := all_read _ _ _ (fields_is _) (fields_nodup _) (by rw [List.length_drop]; omega)
  have h2 : beBytes (beNat (s.take 4)) 4 = s.take 4 := bb _ 4 (by rw [List.length_take]; omega)
  have h3 : beBytes ((b.toNat : Int)).toNat 1 = [b] := by
    rw [Int.toNat_natCast]
    have := bb [b] 1 rfl
    rwa [show beNat [b] = b.toNat by simp [beNat]] at this
  rw [h1, h2, h3, List.append_assoc, List.take_append_drop]
  rfl

theorem decM_ok {l : List UInt8} {m : Msg} (h : decM l = (m, 0)) : may m = true ∧ bytesM m = l := by
  match l, h with
  | [], h => cases h
  | b :: s, h =>
    rw [decM] at h
    split at h
    · cases h
    split at h
    · cases h
    split at h
    · cases h
    split at h
    · rename_i h1 h2 h3 h4
      have e : told b s = m := congrArg Prod.fst h
      rw [← e]
      exact ⟨h4, bytes_told b s (by omega)⟩
    · cases h
theorem decM_err {l : List UInt8} (h : (decM l).2 ≠ 0) : (decM l).1 = zeroM := by
  match l with
  | [] => rfl
  | b :: s =>
    rw [decM] at *
    split
    · rfl
    rename_i h1
    rw [if_neg h1] at h
    split
    · rfl
    rename_i h2
    rw [if_neg h2] at h
    split
    · rfl
    rename_i h3
    rw [if_neg h3] at h
    split
    · rename_i h4
      rw [if_pos h4] at h
      exact absurd rfl h
    · rfl

theorem may_bounds {m : Msg} (h : may m = true) : (1 ≤ m.k ∧ m.k ≤ 9 ∧ 0 ≤ m.e ∧ m.e ≤ 1073741824 ∧ 0 ≤ m.n ∧ m.n ≤ 65535 ∧ m.a ≤ 1125899906842624) ∧ restOk m = true := by
  unfold may boundOk at h
  rw [Bool.and_eq_true, decide_eq_true_eq] at h
  exact h

theorem take_own {A : List UInt8} {n : Nat} (h : A.length = n) (B : List UInt8) : (A ++ B).take n = A := by rw [← h]; exact List.take_left
theorem drop_own {A : List UInt8} {n : Nat} (h : A.length = n) (B : List UInt8) : (A ++ B).drop n = B := by rw [← h]; exact List.drop_left

/-- Read what was written: each field of the list is as in m, the others stay. -/
theorem read_all (m : Msg) (ok : m.Ok) (he : 0 ≤ m.e ∧ m.e ≤ 1073741824) (hn : 0 ≤ m.n ∧ m.n ≤ 65535) : ∀ (l : List UInt8) (x : Msg), (∀ d ∈ l, Lett d) →
    readF x l (allOf m l) = { x with i := if inB l 105 then m.i else x.i, a := if inB l 97 then m.a else x.a, h := if inB l 104 then m.h else x.h, e := if inB l 101 then m.e else x.e, n := if inB l 110 then m.n else x.n }
  | [], x, _ => rfl
  | c :: l, x, hl => by
    have hc := hl c (List.mem_cons_self ..)
    have hw := width_of m ok.h hc
    rw [allOf, readF, take_own hw, drop_own hw, read_all m ok he hn l _ (fun d hd => hl d (List.mem_cons_of_mem _ hd))]
    have e1 : beNat (beBytes m.i 8) = m.i := beNat_all _ 8 (by have := ok.i; omega)
    have e2 : beNat (beBytes m.a 8) = m.a := beNat_all _ 8 (by have := ok.a; omega)
    have e3 : (beNat (beBytes m.e.toNat 4) : Int) = m.e := by rw [beNat_all _ 4 (by omega)]; omega
    have e4 : (beNat (beBytes m.n.toNat 2) : Int) = m.n := by rw [beNat_all _ 2 (by omega)]; omega
    rcases hc with rfl | rfl | rfl | rfl | rfl <;> simp [setF, fieldOf, inB, e1, e2, e3, e4] <;> (intros; simp_all)

theorem ofNat_k {m : Msg} (h1 : 1 ≤ m.k) (h2 : m.k ≤ 9) : ((UInt8.ofNat m.k.toNat).toNat : Int) = m.k := by
  rw [UInt8.toNat_ofNat']
  omega
theorem bytes_cons (m : Msg) (h1 : 1 ≤ m.k) (h2 : m.k ≤ 9) : bytesM m = UInt8.ofNat m.k.toNat :: (beBytes m.c 4 ++ allOf m (fieldsB m.k)) := by
  have h : beBytes m.k.toNat 1 = [UInt8.ofNat m.k.toNat] := by
    rw [beBytes_succ]
    have e : m.k.toNat / 2 ^ (8 * 0) % 256 = m.k.toNat := by simp; omega
    rw [e]
    rfl
  unfold bytesM
  rw [h]
  rfl
theorem told_back (m : Msg) (ok : m.Ok) (hm : may m = true) : told (UInt8.ofNat m.k.toNat) (beBytes m.c 4 ++ allOf m (fieldsB m.k)) = m := by
  obtain ⟨⟨h1, h2, h3, h4, h5, h6, h7⟩, hr⟩ := may_bounds hm
  unfold told
  rw [ofNat_k h1 h2, take_own (beBytes_length _ _), drop_own (beBytes_length _ _), beNat_all _ 4 (by have := ok.c; omega), read_all m ok ⟨h3, h4⟩ ⟨h5, h6⟩ _ _ (fields_is _)]
  unfold restOk at hr
  simp only [Bool.and_eq_true, Bool.or_eq_true, beq_iff_eq] at hr
  obtain ⟨⟨⟨⟨r1, r2⟩, r3⟩, r4⟩, r5⟩ := hr
  have f1 : (if inB (fieldsB m.k) 105 = true then m.i else 0) = m.i := by split; rfl; rcases r1 with h | h; contradiction; exact h.symm
  have f2 : (if inB (fieldsB m.k) 97 = true then m.a else 0) = m.a := by split; rfl; rcases r2 with h | h; contradiction; exact h.symm
  have f3 : (if inB (fieldsB m.k) 104 = true then m.h else zeroH) = m.h := by split; rfl; rcases r3 with h | h; contradiction; exact h.symm
  have f4 : (if inB (fieldsB m.k) 101 = true then m.e else 0) = m.e := by split; rfl; rcases r4 with h | h; contradiction; exact h.symm
  have f5 : (if inB (fieldsB m.k) 110 = true then m.n else 0) = m.n := by split; rfl; rcases r5 with h | h; contradiction; exact h.symm
  rw [f1, f2, f3, f4, f5]

/-- What was encoded is decoded. -/
theorem dec_enc (m : Msg) (ok : m.Ok) (hm : may m = true) : decM (bytesM m) = (m, 0) := by
  obtain ⟨⟨h1, h2, _⟩, _⟩ := may_bounds hm
  have hk := ofNat_k h1 h2
  have hl := bytesM_len m ok.h
  rw [bytes_cons m h1 h2] at hl ⊢
  rw [List.length_cons] at hl
  rw [decM, hk, told_back m ok hm, if_neg (by omega), if_neg (by omega), if_neg (by omega), if_pos hm]

/-- A message that is cut is too short. -/
theorem dec_cut (m : Msg) (ok : m.Ok) (hm : may m = true) (n : Nat) (hn : n < (bytesM m).length) : (decM ((bytesM m).take n)).2 = 10 := by
  obtain ⟨⟨h1, h2, _⟩, _⟩ := may_bounds hm
  have hk := ofNat_k h1 h2
  have hl := bytesM_len m ok.h
  rw [bytes_cons m h1 h2] at hl hn ⊢
  match n with
  | 0 => rfl
  | n + 1 =>
    rw [List.length_cons] at hl hn
    rw [List.take_succ_cons, decM, hk, if_neg (by omega), if_pos (by rw [List.length_take]; omega)]

/-- With more behind it, it is too long. -/
theorem dec_more (m : Msg) (ok : m.Ok) (hm : may m = true) (t : List UInt8) (ht : t ≠ []) : (decM (bytesM m ++ t)).2 = 11 := by
  obtain ⟨⟨h1, h2, _⟩, _⟩ := may_bounds hm
  have hk := ofNat_k h1 h2
  have hl := bytesM_len m ok.h
  have hp := List.length_pos_iff.2 ht
  rw [bytes_cons m h1 h2] at hl ⊢
  rw [List.length_cons] at hl
  rw [List.cons_append, decM, hk, if_neg (by omega), if_neg (by rw [List.length_append]; omega), if_pos (by rw [List.length_append]; omega)]
end Go.Proofs.Ytpdnbjaamgfemaa
