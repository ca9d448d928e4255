import Derived.Test.YthmpadhhbkielaaOct6
import Derived.Laws.IdiomStrings
import Derived.Lib.BufferRead
import Derived.Lib.AppendStr
namespace Go.Proofs.Ythmpadhhbkielaa
open Go.RowKit
set_option linter.unusedVariables false

/-- The text of some bytes. -/
def str (l : List UInt8) : ByteArray := ⟨l.toArray⟩

theorem own_bytes {w : World} {B : Nat} {v : Value} {bs : List UInt8} (h : w.ownsRow B 5 1 v bs.length (bs.map u8v)) : (v = .slice none 0 0 ∧ bs = []) ∨
    ∃ g cap, v = .slice (some ⟨g, 0, none⟩) bs.length cap ∧ bs.length ≤ cap ∧ ∀ j u, (bs.map u8v)[j]? = some u → w.cell? ((⟨g, 0, none⟩ : Addr).add j) = some u := by
  rcases h.2 with ⟨hv, hn⟩ | ⟨g, cap, cur, hv, _, hg, hc, _⟩
  · exact .inl ⟨hv, List.eq_nil_of_length_eq_zero hn⟩
  · exact .inr ⟨g, cap, hv, hc, h.cells (by rw [hv]; rfl)⟩

theorem conv_cells {w : World} {ad : Addr} {l : List UInt8} (cap : Nat) (h : ∀ j u, (l.map u8v)[j]? = some u → w.cell? (ad.add j) = some u) :
    (convert 25 9 (.slice (some ad) l.length cap)).run Try.prog w = .ok (.string (str l)) w :=
  run_convert_bytes_back w _ _ 5 ad cap l Try.underlying25 Try.underlying5 Try.underlying9 fun j hj => h j _ (by simp [hj])

theorem conv_own {w : World} {B : Nat} {v : Value} {bs : List UInt8} (h : w.ownsRow B 5 1 v bs.length (bs.map u8v)) :
    (convert 25 9 v).run Try.prog w = .ok (.string (str bs)) w := by
  rcases own_bytes h with ⟨rfl, rfl⟩ | ⟨g, cap, rfl, _, hc⟩
  · exact Lib.run_convert_nil_bytes w _ _ 5 0 Try.underlying25 Try.underlying5 Try.underlying9
  · exact conv_cells cap hc

set_option maxHeartbeats 400000 in
theorem bytes_any (B p : Nat) (v : Value) (bs : List UInt8) (w : World) (hw : Wr B p v bs w) :
    Calls Try.prog 16 #[.pointer (some ⟨p, 0, none⟩)] w fun e w' => e = .returned (.string (str bs)) ∧ w = w' := by
  have hc := hw.cell
  have hv := conv_own hw.2
  clear hw
  go_enter Try.func16, Try.ntmps16
  go_wp2
  go_ret
  exact ⟨rfl, rfl⟩

set_option maxHeartbeats 400000 in
theorem whash_any (B p : Nat) (v : Value) (bs hs : List UInt8) (w : World) (hw : Wr B p v bs w) (hB : B ≤ w.heap.size) (hn : bs.length ≤ 1048000) (hl : hs.length = 32) :
    Calls Try.prog 12 #[.pointer (some ⟨p, 0, none⟩), .agg (hs.map u8v).toArray] w fun e w' => e = .returned (.tuple #[]) ∧ ∃ v', Wr B p v' (bs ++ hs) w' ∧ Fr (WS p v) w w' := by
  have HW := Lib.hid hw
  have HL := Lib.hid hl
  clear hw hl
  go_enter Try.func12, Try.ntmps12
  go_wp2_with fail
  have hnews : ∀ j u, (hs.map u8v)[j]? = some u → (w.alloc (.cells (hs.map u8v).toArray 30)).cell? ((⟨w.heap.size, 0, none⟩ : Addr).add j) = some u := by
    intro j u hu
    rw [Addr.add_lit, World.cell?_alloc_at _ _ _ _ rfl]
    simpa using hu
  have hput := put_any B p v bs hs ⟨w.heap.size, 0, none⟩ 32 (w.alloc (.cells (hs.map u8v).toArray 30)) (HW.out.fr (S := No) ((Fr.refl _ _).alloc _) id (fun _ _ => id)) (by simp; omega) (by rw [HL.out]; omega) hnews
  rw [HL.out] at hput
  refine hput.mono ?_
  rintro e w1 ⟨rfl, v', hq1, hq2⟩
  have H1 := Lib.hid hq1
  have H2 := Lib.hid hq2
  clear hq1 hq2 hput hnews
  go_wp2
  go_end0
  exact ⟨rfl, v', H1.out, ((Fr.refl (WS p v) w).alloc _).trans H2.out⟩

theorem strCells_eq (s : ByteArray) : Lib.strCells s = s.data.toList.map u8v := rfl

set_option maxHeartbeats 400000 in
theorem wtext_ok (B p : Nat) (v : Value) (bs : List UInt8) (s : ByteArray) (w : World) (hw : Wr B p v bs w) (hB : B ≤ w.heap.size) (hn : bs.length ≤ 1048000) (hs : s.size ≤ 64) :
    Calls Try.prog 14 #[.pointer (some ⟨p, 0, none⟩), .string s] w fun e w' => e = .returned (.int .i64 0) ∧ ∃ v', Wr B p v' (bs ++ (UInt8.ofNat s.size :: s.data.toList)) w' ∧ Fr (WS p v) w w' := by
  obtain ⟨i0, hi, hz0, hz1, hz2⟩ := info_parts Try.infoU8
  have HW := Lib.hid hw
  clear hw
  go_enter Try.func14, Try.ntmps14
  go_wp2_with (at_builtin; refine Lib.wpList_append_own_string _ rfl _ _ 25 9 rfl w.heap.size 5 i0 Try.underlying25 Try.underlying9 hi hz0 hz1 hz2 _ 1 [.int .u8 (s.size : Int)] rfl ?c0 s rfl ?c1 ?c2 ?c3 ?c4)
  case c0 => exact ⟨rfl, .inr ⟨w.heap.size, 1, #[.int .u8 (s.size : Int)], rfl, Nat.le_refl _, heap_alloc_new w _, Nat.le_refl _, by unfold maxLen; omega, rfl, rfl⟩⟩
  case c1 => unfold maxLen; omega
  case c2 => omega
  case c3 => simp
  case c4 =>
    intro v' w1 hown' hgrow hne
    have e1 : Value.int .u8 (s.size : Int) = u8v (UInt8.ofNat s.size) := by
      simp only [u8v]; congr 1; simp; omega
    have e2 : 1 + s.size = (UInt8.ofNat s.size :: s.data.toList).length := by simp; omega
    rw [e1, strCells_eq, ← List.map_cons, e2] at hown'
    rcases own_bytes hown' with ⟨h0, _⟩ | ⟨g, cap, hv', _, hcells⟩
    · exact absurd h0 hne
    · have hW1 : Wr B p v bs w1 := HW.out.fr (S := (· = w.heap.size)) ((((Fr.refl _ _).alloc _).trans (Fr.of_grown hgrow (fun k hk => by simpa [Value.ownBlock] using hk.symm)))) (Nat.ne_of_lt HW.out.lt) (fun k hk => Nat.ne_of_lt (HW.out.2.lt k hk).2)
      have F1 : Fr (WS p v) w w1 := (((Fr.refl (· = w.heap.size) _).alloc _).trans (Fr.of_grown hgrow (fun k hk => by simpa [Value.ownBlock] using hk.symm))).mono (fun k hk e => absurd hk (by omega))
      have hput := put_any B p v bs (UInt8.ofNat s.size :: s.data.toList) ⟨g, 0, none⟩ cap w1 hW1 (Nat.le_trans hB F1.size) (by rw [← e2]; omega) hcells
      have e3 : (UInt8.ofNat s.size :: s.data.toList).length = s.size + 1 := by simp
      rw [e3] at hput
      have HP := Lib.hid hput
      have HF := Lib.hid F1
      rw [e3] at hv'
      subst hv'
      clear hown' hgrow hne e1 e2 e3 hcells hW1 F1 hput
      go_wp2_with fail
      refine HP.out.mono ?_
      rintro e w2 ⟨rfl, v2, hq1, hq2⟩
      have H1 := Lib.hid hq1
      have H2 := Lib.hid hq2
      clear hq1 hq2 HP
      go_wp2
      go_ret
      exact ⟨rfl, v2, H1.out, HF.out.trans H2.out⟩

set_option maxHeartbeats 400000 in
theorem wtext_long (p : Nat) (s : ByteArray) (w : World) (hs : 64 < s.size) :
    Calls Try.prog 14 #[.pointer (some ⟨p, 0, none⟩), .string s] w fun e w' => e = .returned (.int .i64 12) ∧ w = w' := by
  have h1 : (64 : Int) < s.size := by omega
  go_enter Try.func14, Try.ntmps14
  go_wp2
  go_ret
  exact ⟨rfl, rfl⟩

end Go.Proofs.Ythmpadhhbkielaa
