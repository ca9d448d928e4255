/- The document's fields of a kind, which are in them, and how wide they are. -/
import Derived.Test.YtpdnbjaamgfemaaWiR
namespace Go.Proofs.Ytpdnbjaamgfemaa
open Go.RowKit
set_option linter.unusedVariables false
set_option maxRecDepth 100000

theorem rfields_any (k : Int) (w : World) : Calls Try.prog 15 #[.int .i64 k] w fun e w' => e = .returned (.string (str (fieldsB k))) ∧ w' = w := by
  by_cases h1 : k = 1
  · subst h1
    go_enter Try.func15, Try.ntmps15
    go_wp2
    go_ret
    exact ⟨rfl, rfl⟩
  by_cases h3 : k = 3
  · subst h3
    go_enter Try.func15, Try.ntmps15
    go_wp2
    go_ret
    exact ⟨rfl, rfl⟩
  by_cases h4 : k = 4
  · subst h4
    go_enter Try.func15, Try.ntmps15
    go_wp2
    go_ret
    exact ⟨rfl, rfl⟩
  by_cases h5 : k = 5
  · subst h5
    go_enter Try.func15, Try.ntmps15
    go_wp2
    go_ret
    exact ⟨rfl, rfl⟩
  by_cases h6 : k = 6
  · subst h6
    go_enter Try.func15, Try.ntmps15
    go_wp2
    go_ret
    exact ⟨rfl, rfl⟩
  by_cases h7 : k = 7
  · subst h7
    go_enter Try.func15, Try.ntmps15
    go_wp2
    go_ret
    exact ⟨rfl, rfl⟩
  by_cases h9 : k = 9
  · subst h9
    go_enter Try.func15, Try.ntmps15
    go_wp2
    go_ret
    exact ⟨rfl, rfl⟩
  have hf : fieldsB k = [] := by simp [fieldsB, h1, h3, h4, h5, h6, h7, h9]
  rw [hf]
  have g1 : (k == 1) = false := by simpa using h1
  have g3 : (k == 3) = false := by simpa using h3
  have g4 : (k == 4) = false := by simpa using h4
  have g5 : (k == 5) = false := by simpa using h5
  have g6 : (k == 6) = false := by simpa using h6
  have g7 : (k == 7) = false := by simpa using h7
  have g9 : (k == 9) = false := by simpa using h9
  clear h1 h3 h4 h5 h6 h7 h9 hf
  go_enter Try.func15, Try.ntmps15
  go_wp2
  go_ret
  exact ⟨rfl, rfl⟩

theorem inB_snoc (l : List UInt8) (d c : UInt8) : inB (l ++ [d]) c = (inB l c || d == c) := by simp [inB]

theorem rin_any (l : List UInt8) (c : UInt8) (w : World) (hl : l.length ≤ 1000) :
    Calls Try.prog 26 #[.string (str l), .int .u8 (c.toNat : Int)] w fun e w' => e = .returned (.bool (inB l c)) ∧ w' = w := by
  obtain ⟨n, hn⟩ : ∃ n, n = l.length := ⟨_, rfl⟩
  have hsz : (str l).size = n := by rw [str_size, hn]
  obtain ⟨y, hy⟩ : ∃ y, y = inB l c := ⟨_, rfl⟩
  have HY := Lib.hid hy
  have HN := Lib.hid hn
  have HL := Lib.hid hl
  rw [← hy]
  obtain ⟨C, hC⟩ : ∃ C, C = c.toNat := ⟨_, rfl⟩
  have HC := Lib.hid hC
  rw [← hC]
  clear hy hn hl hC
  go_enter Try.func26, Try.ntmps26
  go_wp2
  go_loop [5] (fun i => ∃ k : Nat, k ≤ n ∧ i = .int .i64 k ∧ inB (l.take k) c = false) (fun i => n - (intOf i).toNat)
  case atStart => exact ⟨0, Nat.zero_le _, rfl, by rfl⟩
  case round =>
    obtain ⟨k, hk, rfl, hi⟩ := hrel
    have HI := Lib.hid hi
    clear hi
    by_cases hlt : k < n
    · have hk1 : (k : Int) < (n : Int) := by omega
      have hk2 : k < l.length := by rw [← HN.out]; exact hlt
      have e1 : IntKind.i64.wrap ((k : Int) + 1) = ((k + 1 : Nat) : Int) := IntWalk.i64_in _ (by have := HL.out; omega)
      obtain ⟨d, hd⟩ : ∃ d, d = l[k] := ⟨_, rfl⟩
      have hks : k < (str l).size := by rw [hsz]; exact hlt
      have hg : (str l)[k]'hks = d := by rw [hd]; rfl
      obtain ⟨D, hD0⟩ : ∃ D, D = d.toNat := ⟨_, rfl⟩
      have hD := hD0.symm
      have HX : Hid (n - (k + 1) < n - k) := Lib.hid (by omega)
      have HK : Hid (k + 1 ≤ n) := Lib.hid hlt
      have ht : l.take (k + 1) = l.take k ++ [d] := by rw [hd, List.take_succ_eq_append_getElem hk2]
      by_cases he : D = C
      · have HB : Hid (y = true) := Lib.hid (by
          rw [HY.out]
          have h2 : d = c := UInt8.toNat_inj.1 (by rw [hD, ← HC.out]; exact he)
          unfold inB
          rw [List.any_eq_true]
          exact ⟨d, by rw [hd]; exact List.getElem_mem hk2, by simpa using h2⟩)
        rw [he] at hD
        clear hk hlt hk2 hd ht hD0 he
        go_wp2
        go_ret
        exact ⟨by rw [HB.out]; rfl, rfl⟩
      · have hne : ((D : Int) == (C : Int)) = false := by rw [beq_eq_false_iff_ne]; omega
        have HT : Hid (inB (l.take (k + 1)) c = false) := Lib.hid (by
          rw [ht, inB_snoc, HI.out, Bool.false_or]
          rw [beq_eq_false_iff_ne]
          intro h2
          exact he (by rw [← hD, HC.out, h2]))
        clear hk hlt hk2 hd ht hD0 he
        go_wp2
        exact ⟨⟨k + 1, HK.out, by simp, HT.out⟩, by simpa [intOf] using HX.out⟩
    · have hk1 : ¬ (k : Int) < (n : Int) := by omega
      have HB : Hid (y = false) := Lib.hid (by
        rw [HY.out, ← HI.out, List.take_of_length_le (by rw [← HN.out]; omega)])
      clear hk hlt
      go_wp2
      go_ret
      exact ⟨by rw [HB.out]; rfl, rfl⟩

theorem rwidth_any (c : UInt8) (w : World) : Calls Try.prog 31 #[.int .u8 (c.toNat : Int)] w fun e w' => e = .returned (.int .i64 (widthB c : Int)) ∧ w' = w := by
  by_cases h1 : c = 104
  · subst h1
    go_enter Try.func31, Try.ntmps31
    go_wp2
    go_ret
    exact ⟨rfl, rfl⟩
  by_cases h2 : c = 101
  · subst h2
    go_enter Try.func31, Try.ntmps31
    go_wp2
    go_ret
    exact ⟨rfl, rfl⟩
  by_cases h3 : c = 110
  · subst h3
    go_enter Try.func31, Try.ntmps31
    go_wp2
    go_ret
    exact ⟨rfl, rfl⟩
  have hw : widthB c = 8 := by simp [widthB, h1, h2, h3]
  rw [hw]
  have ne : ∀ x : UInt8, c ≠ x → ((c.toNat : Int) == (x.toNat : Int)) = false := fun x hx => by
    rw [beq_eq_false_iff_ne]
    intro h
    exact hx (UInt8.toNat_inj.1 (by omega))
  have g1 : ((c.toNat : Int) == 104) = false := ne 104 h1
  have g2 : ((c.toNat : Int) == 101) = false := ne 101 h2
  have g3 : ((c.toNat : Int) == 110) = false := ne 110 h3
  obtain ⟨C, hC⟩ : ∃ C, C = c.toNat := ⟨_, rfl⟩
  rw [← hC] at g1 g2 g3 ⊢
  clear hw ne hC h1 h2 h3
  go_enter Try.func31, Try.ntmps31
  go_wp2
  go_ret
  exact ⟨rfl, rfl⟩
end Go.Proofs.Ytpdnbjaamgfemaa
