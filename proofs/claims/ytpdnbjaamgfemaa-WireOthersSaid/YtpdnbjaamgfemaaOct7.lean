import Derived.Test.YtpdnbjaamgfemaaGen
import Derived.Test.YtpdnbjaamgfemaaOct6
import Derived.Laws.IdiomStrings
import Derived.Lib.BufferRead
import Derived.Lib.AppendStr
namespace Go.Proofs.Ytpdnbjaamgfemaa
open Go.RowKit
set_option linter.unusedVariables false
set_option maxRecDepth 100000

theorem own_bytes {w : World} {B : Nat} {v : Value} {bs : List UInt8} (h : w.ownsRow B 5 1 v bs.length (bs.map u8v)) : (v = .slice none 0 0 ∧ bs = []) ∨
    ∃ g cap, v = .slice (some ⟨g, 0, none⟩) bs.length cap ∧ bs.length ≤ cap ∧ ∀ j u, (bs.map u8v)[j]? = some u → w.cell? ((⟨g, 0, none⟩ : Addr).add j) = some u := by
  rcases h.2 with ⟨hv, hn⟩ | ⟨g, cap, cur, hv, _, hg, hc, _⟩
  · exact .inl ⟨hv, List.eq_nil_of_length_eq_zero hn⟩
  · exact .inr ⟨g, cap, hv, hc, h.cells (by rw [hv]; rfl)⟩

theorem conv_cells {w : World} {ad : Addr} {l : List UInt8} (cap : Nat) (h : ∀ j u, (l.map u8v)[j]? = some u → w.cell? (ad.add j) = some u) :
    (convert 48 9 (.slice (some ad) l.length cap)).run Try.prog w = .ok (.string (str l)) w :=
  run_convert_bytes_back w _ _ 5 ad cap l Try.underlying48 Try.underlying5 Try.underlying9 fun j hj => h j _ (by simp [hj])

theorem conv_own {w : World} {B : Nat} {v : Value} {bs : List UInt8} (h : w.ownsRow B 5 1 v bs.length (bs.map u8v)) :
    (convert 48 9 v).run Try.prog w = .ok (.string (str bs)) w := by
  rcases own_bytes h with ⟨rfl, rfl⟩ | ⟨g, cap, rfl, _, hc⟩
  · exact Lib.run_convert_nil_bytes w _ _ 5 0 Try.underlying48 Try.underlying5 Try.underlying9
  · exact conv_cells cap hc

set_option maxHeartbeats 400000 in
theorem bytes_any (B p : Nat) (v : Value) (bs : List UInt8) (w : World) (hw : Wr B p v bs w) :
    Calls Try.prog 22 #[.pointer (some ⟨p, 0, none⟩)] w fun e w' => e = .returned (.string (str bs)) ∧ w = w' := by
  have hc := hw.cell
  have hv := conv_own hw.2
  clear hw
  go_enter Try.func22, Try.ntmps22
  go_wp2
  go_ret
  exact ⟨rfl, rfl⟩

set_option maxHeartbeats 400000 in
theorem whash_any (B p : Nat) (v : Value) (bs hs : List UInt8) (w : World) (hw : Wr B p v bs w) (hB : B ≤ w.heap.size) (hn : bs.length ≤ 1048000) (hl : hs.length = 32) :
    Calls Try.prog 62 #[.pointer (some ⟨p, 0, none⟩), .agg (hs.map u8v).toArray] w fun e w' => e = .returned (.tuple #[]) ∧ ∃ v', Wr B p v' (bs ++ hs) w' ∧ Fr (WS p v) w w' := by
  have HW := Lib.hid hw
  have HL := Lib.hid hl
  clear hw hl
  go_enter Try.func62, Try.ntmps62
  go_wp2_with fail
  have hnews : ∀ j u, (hs.map u8v)[j]? = some u → (w.alloc (.cells (hs.map u8v).toArray 25)).cell? ((⟨w.heap.size, 0, none⟩ : Addr).add j) = some u := by
    intro j u hu
    rw [Addr.add_lit, World.cell?_alloc_at _ _ _ _ rfl]
    simpa using hu
  have hput := put_any B p v bs hs ⟨w.heap.size, 0, none⟩ 32 (w.alloc (.cells (hs.map u8v).toArray 25)) (HW.out.fr (S := No) ((Fr.refl _ _).alloc _) id (fun _ _ => id)) (by simp; omega) (by rw [HL.out]; omega) hnews
  rw [HL.out] at hput
  refine hput.mono ?_
  rintro e w1 ⟨rfl, v', hq1, hq2⟩
  have H1 := Lib.hid hq1
  have H2 := Lib.hid hq2
  clear hq1 hq2 hput hnews
  go_wp2
  go_end0
  exact ⟨rfl, v', H1.out, ((Fr.refl (WS p v) w).alloc _).trans H2.out⟩

theorem strCells_eq (s : ByteArray) : Lib.strCells s = s.data.toList.map u8v := rfl

end Go.Proofs.Ytpdnbjaamgfemaa
