/- What goes through a shelf's places: the iterator. -/
import Derived.Test.YtnpgcgemifoddaaDoorShR
import Derived.Test.YtnpgcgemifoddaaDoorSecP
namespace Go.Proofs.YtnpgcgemifoddaaDoor
open Go.RowKit Go.Shelf
set_option linter.unusedVariables false
attribute [local go_sem] Oper.semAt_some

theorem below_in (s top : Value) (w : World) (b : Nat) (n : Nat) (hs : s = .pointer (some ⟨b, 0, none⟩)) (ht : top = .int .i64 (n : Int)) :
    Calls Tryd.prog 22 #[s, top] w fun e w' => e = .returned (.func (.func 29) #[] #[.pointer (some ⟨w.heap.size, 0, none⟩), .pointer (some ⟨w.heap.size + 1, 0, none⟩)]) ∧
      Fr No w w' ∧ w'.heap.size = w.heap.size + 2 ∧ w'.cell? ⟨w.heap.size, 0, none⟩ = some s ∧ w'.cell? ⟨w.heap.size + 1, 0, none⟩ = some top := by
  subst hs ht
  go_enter Tryd.func22, Tryd.ntmps22
  go_wp2
  go_ret
  refine ⟨rfl, ((Fr.refl No w).alloc _).alloc _, by simp, ?_, ?_⟩
  · simp
  · simp

/-- Behind a round the shelf lies as it lay. -/
def KpS (b : Nat) (W W' : World) : Prop := ∀ o, W.heap[b]? = some o → W'.heap[b]? = some o
theorem KpS.trans {b : Nat} {A B C : World} (h : KpS b A B) (k : KpS b B C) : KpS b A C := fun v hv => k v (h v hv)
theorem KpS.book {b s : Nat} (hb : b < s) (W : World) (l : Nat) (o o' : Obj) (hl : s ≤ l) (h : W.heap[l]? = some o) (_ : o.isCells = false) (_ : o.isWalk = false) : KpS b W (W.putObj l o') :=
  fun v hv => (World.putObj_heap_other (by show b ≠ l; omega)).trans hv

theorem grown_of_fr {w w' : World} (h : Fr No w w') : w.grownBy w' none := ⟨h.os, h.tape, h.output, h.size, fun k hk _ => h.block k hk id⟩

def below (L : List Ent) (top : Nat) : List Ent := (L.take top).filter (·.has)

theorem below_next {L : List Ent} {k : Nat} {e : Ent} (h : L[k]? = some e) : below L (k + 1) = below L k ++ (if e.has then [e] else []) := by
  unfold below
  rw [List.take_add_one, h, List.filter_append]
  congr 1
  cases he : e.has <;> simp [he]
theorem below_prefix {L : List Ent} {k m : Nat} (h : k ≤ m) : below L k <+: below L m := (List.take_prefix_take_left h).filter _
theorem below_len {L : List Ent} {k : Nat} : (below L k).length ≤ k := by
  unfold below
  refine Nat.le_trans (List.length_filter_le ..) ?_
  rw [List.length_take]
  omega

set_option maxRecDepth 100000 in
set_option maxHeartbeats 1000000 in
theorem below1_in (n : Nat) (hn : 1 ≤ n) (l b bs bt top : Nat) (L : List Ent) (B : Nat) (J Jx : List Ent → World → Prop) (hJ : AbidesFrom B J) (hJx : AbidesFrom B Jx)
    (hY0 : ∀ pre x W, J pre W → pre.length < 17 → YieldAt Fence.wide (n - 1) Tryd.prog l #[.agg x.cells.toArray] W fun e W' =>
      (e = .returned (.bool true) ∧ J (pre ++ [x]) W' ∧ KpS b W W') ∨ (e = .returned (.bool false) ∧ Jx (pre ++ [x]) W'))
    (W : World) (ht : W.cell? ⟨bt, 0, none⟩ = some (.int .i64 (top : Int))) (hs : W.cell? ⟨bs, 0, none⟩ = some (.pointer (some ⟨b, 0, none⟩))) (hB : Blk W b 32 (flat L)) (hL : L.length = 17) (ht2 : top ≤ 17) (hbW : b < B) (h0 : J [] W) :
    CallsIn Fence.wide n Tryd.prog 29 #[.func (.yield l) #[] #[], .pointer (some ⟨bs, 0, none⟩), .pointer (some ⟨bt, 0, none⟩)] W fun e W' => (∃ v, e = .returned v) ∧
      ((∃ ys, ys = below L top ∧ J ys W') ∨ (∃ pre, pre <+: below L top ∧ Jx pre W')) := by
  refine callsIn_of_wp Tryd.func29 rfl trivial ?_ rfl
  simp only [Tryd.ntmps29, List.size_toArray, List.length_cons, List.length_nil, Nat.reduceAdd, Nat.reduceSub, Array.replicate_succ, Array.replicate_zero, List.push_toArray, List.append_toArray, List.nil_append, List.cons_append]
  gi_wp2
  have hal : Tryd.prog.arrayLen 30 = 17 := by kernel_rfl
  have ht3 : (top : Int) ≤ 17 := by omega
  gi_region
  clear hal
  gi_wp2
  gi_loopw [14] (fun p wr => ∃ (k : Nat), p = .int .i64 (k : Int) ∧ k ≤ top ∧ J (below L k) wr ∧ Blk wr b 32 (flat L))
    (fun p wr => top - (intOf p).toNat)
  case atStart =>
    exact ⟨0, rfl, by omega, hJ _ _ _ _ h0 (grown_of_fr (Fr.refl No W).drew) (fun r h => by cases h), hB⟩
  case round =>
    obtain ⟨k, rfl, hk, hJs, hBs⟩ := hrel
    by_cases hlt : k < top
    · have h1 : (k : Int) < (top : Int) := by omega
      obtain ⟨e, he⟩ : ∃ e, L[k]? = some e := ⟨_, List.getElem?_eq_getElem (by omega)⟩
      have HL : Hid ((Instr.loadAt 29 (.pointer (some ⟨b, k * 34, none⟩))).run Tryd.prog wr = .ok (.agg e.cells.toArray) wr) := Lib.hid (load_range _ (place_at hBs he) Tryd.underlying29 rfl (by rw [e.size]; kernel_rfl) _ rfl)
      have hA := Blk.new wr 29 Ent.zero.cells
      obtain ⟨Y, hY, hYB, hYF⟩ := hA.stored (P := Tryd.prog) (ty := 29) e.cells (by rw [e.size, Ent.size]) (by rw [e.size]; kernel_rfl) e.one
      have hF : Fr No wr Y := ((Fr.refl No wr).alloc _).trans' hYF (fun i hi h => by omega)
      have HY := Lib.hid hY
      have hBY := hBs.fr hF id
      have hJY := hJ _ _ _ _ hJs (grown_of_fr hF) (fun r h => by cases h)
      have hc := hYB.cell (i := 0) (v := .bool e.has) rfl
      have HE : Hid (below L (k + 1) = below L k ++ (if e.has then [e] else [])) := Lib.hid (below_next he)
      have HPX : Hid (e.has = true → below L k ++ [e] <+: below L top) := Lib.hid (fun h => by
        have h1 := below_next he
        rw [h, if_pos rfl] at h1
        rw [← h1]
        exact below_prefix (by omega))
      have HV : Hid ((Instr.loadAt 29 (.pointer (some ⟨wr.heap.size, 0, none⟩))).run Tryd.prog Y = .ok (.agg e.cells.toArray) Y) := Lib.hid (load_range _ hYB.whole Tryd.underlying29 rfl (by rw [e.size]; kernel_rfl) _ rfl)
      have hlen : (below L k).length < 17 := by have := @below_len L k; omega
      obtain ⟨fn, tmps, assign, body, hy, hR⟩ := hY0 (below L k) e Y hJY hlen
      have HR := Lib.hid hR
      obtain ⟨c, hcE⟩ : ∃ c, c = e.has := ⟨_, rfl⟩
      rw [← hcE] at hc HE HPX
      clear hA hY hYF hJs hBs hR hF hYB hcE
      cases c with
      | true =>
        gi_wp2_with (first
          | (refine wpListIn_load_eq rfl 29 _ rfl (.pointer (some ⟨b, k * 34, none⟩)) (.agg e.cells.toArray) rfl HL.out ?_)
          | (refine wpListIn_store_eq rfl 29 _ _ rfl (.pointer (some ⟨wr.heap.size, 0, none⟩)) (.agg e.cells.toArray) rfl rfl HY.out ?_)
          | (refine wpListIn_load_eqG 29 _ rfl (.pointer (some ⟨wr.heap.size, 0, none⟩)) (.agg e.cells.toArray) rfl HV.out rfl ?_))
        refine HR.out.mono ?_
        rintro e3 W3 (⟨rfl, hJ3, hk3⟩ | ⟨rfl, hJx3⟩)
        · gi_wp2
          go_roundw
          case rel => exact ⟨k + 1, by simp, by omega, by rw [HE.out]; exact hJ3, hk3 _ hBY⟩
          case measure => simp [intOf]; omega
        · gi_wp2
          refine bodyPost_ret (results_none rfl _ _ _) rfl ?_
          exact ⟨⟨_, rfl⟩, .inr ⟨_, HPX.out trivial, hJx3⟩⟩
      | false =>
        gi_wp2_with (first
          | (refine wpListIn_load_eq rfl 29 _ rfl (.pointer (some ⟨b, k * 34, none⟩)) (.agg e.cells.toArray) rfl HL.out ?_)
          | (refine wpListIn_store_eq rfl 29 _ _ rfl (.pointer (some ⟨wr.heap.size, 0, none⟩)) (.agg e.cells.toArray) rfl rfl HY.out ?_))
        refine ⟨fun _ h => (by cases h), ?_⟩
        gi_wp2
        go_roundw
        case rel => exact ⟨k + 1, by simp, by omega, by rw [HE.out]; simpa using hJY, hBY⟩
        case measure => simp [intOf]; omega
    · obtain rfl : k = top := by omega
      gi_wp2
      go_end0
      exact ⟨⟨_, rfl⟩, .inl ⟨_, rfl, hJs⟩⟩

theorem below_stops (n : Nat) (hn : 1 ≤ n) (b bs bt top : Nat) (L : List Ent) (w : World) (hbs : bs < w.heap.size) (hbt : bt < w.heap.size) (hb : b < w.heap.size)
    (hs : w.cell? ⟨bs, 0, none⟩ = some (.pointer (some ⟨b, 0, none⟩))) (ht : w.cell? ⟨bt, 0, none⟩ = some (.int .i64 (top : Int))) (hB : Blk w b 32 (flat L)) (hL : L.length = 17) (ht2 : top ≤ 17) :
    SeqStopsK Fence.wide n Tryd.prog 29 #[.pointer (some ⟨bs, 0, none⟩), .pointer (some ⟨bt, 0, none⟩)] (fun x : Ent => #[Value.agg x.cells.toArray]) (KpS b) (fun ys => ys = below L top) (fun pre => pre <+: below L top) 17 w := fun l J Jx W hW hJ hJx hY h0 =>
  below1_in n hn l b bs bt top L W.heap.size J Jx hJ hJx hY W ((hW.cell (p := ⟨bt, 0, none⟩) hbt).trans ht) ((hW.cell (p := ⟨bs, 0, none⟩) hbs).trans hs) ((hW.block b hb).trans hB) hL ht2 (Nat.lt_of_lt_of_le hb hW.size) h0
end Go.Proofs.YtnpgcgemifoddaaDoor
