/- The closures of a field, over whatever carrier: what stands there is told to it, and what it tells is laid there. -/
import Derived.Test.YtpdnbjaamgfemaaWpA
import Derived.Test.YtpdnbjaamgfemaaTake
namespace Go.Proofs.Ytpdnbjaamgfemaa
open Go.RowKit
set_option linter.unusedVariables false
set_option maxRecDepth 100000

theorem exec_invoke {P : Program} {o : Oper} {ev : Operand → Value} {w : World} {r : Result Next} (rc : Operand) (name : String) (xs : Array Operand) (ts : Array TypeId) (ho : o.op = .call ⟨.invoke rc name, xs, ts⟩) (v : Value) (hv : ev rc = v) (vs : List Value) (hvs : xs.map ev = vs.toArray)
    (hr : (callMethod v name vs.toArray).run P w = r) : (execOp ev o).run P w = r := by
  unfold execOp
  rw [ho]
  subst hv
  have e : (#[ev rc] ++ vs.toArray).extract 1 (vs.length + 1) = vs.toArray := by simp
  simp [resolve, hvs, invoke]
  simpa using hr

theorem exec_mkfunc {P : Program} {o : Oper} {ev : Operand → Value} {w : World} (fn : Fn) (xs : Array Operand) (ho : o.op = .makeFunc fn xs #[]) (vs : Array Value) (hvs : xs.map ev = vs) (v : Value) (hr : (Instr.makeFunc fn vs #[]).run P w = .ok v w) : (execOp ev o).run P w = .ok (.value v) w := by
  unfold execOp
  rw [ho]
  subst hvs
  simp [hr]

theorem exec_nilmeth {P : Program} {o : Oper} {ev : Operand → Value} {w : World} (x : Operand) (ho : o.op = .nilCheck x) (name : String) (t : TypeId) (c : Value) (hx : ev x = .func (.method name) #[.iface t c] #[])
    (hr : ∀ W, (nilAhead (P.types.size + Made.depth) t c name).run P W = .ok (some false) W) : (execOp ev o).run P w = .ok (.value (.func (.method name) #[.iface t c] #[])) w := by
  unfold execOp
  rw [ho]
  simp [hx, hr]

/-- A carrier's method is one function of the program's. -/
structure Meth (t : TypeId) (c : Value) (name : String) (f : FuncId) : Prop where
  call : ∀ (xs : Array Value) (w : World), (callMethod (.iface t c) name xs).run Try.prog w = .ok (.enter f (#[c] ++ xs)) w
  ahead : ∀ w : World, (nilAhead (Try.prog.types.size + Made.depth) t c name).run Try.prog w = .ok (some false) w

set_option maxHeartbeats 2000000 in
theorem numi_any (p q b1 b2 : Nat) (k0 x : Int) (c0 : Value) (f : FuncId) (w : World) (Post : Nat → World → Prop) (Bad : List PanicEntry → World → Prop) (t : TypeId)
    (h1 : w.cell? ⟨b1, 0, none⟩ = some (.pointer (some ⟨p, q, none⟩))) (h2 : w.cell? ⟨b2, 0, none⟩ = some (.int .i64 k0)) (hx : w.cell? ⟨p, q, none⟩ = some (.int .i64 x)) (n1 : b1 ≠ p) (n2 : b2 ≠ p)
    (hm : Meth t c0 "remitter/wire.number" f) (y : Int) (hy : IntKind.u64.wrap x = y)
    (hc : Calls Try.prog f #[c0, .int .u64 y, .int .i64 k0] w.drew fun e w' => (∃ n : Nat, e = .returned (.int .u64 (n : Int)) ∧ Post n w') ∨ (∃ c, e = .panicked c ∧ Bad c w'))
    (hp : ∀ n w', Post n w' → w'.cell? ⟨b1, 0, none⟩ = some (.pointer (some ⟨p, q, none⟩)) ∧ w'.cell? ⟨b2, 0, none⟩ = some (.int .i64 k0) ∧ w'.cell? ⟨p, q, none⟩ = some (.int .i64 x) ∧ w'.frozen? ⟨p, q, none⟩ = false) :
    Calls Try.prog 40 #[.iface t c0, .pointer (some ⟨b1, 0, none⟩), .pointer (some ⟨b2, 0, none⟩)] w fun e w' =>
      (∃ (n : Nat) (w1 : World), e = .returned (.tuple #[]) ∧ Post n w1 ∧ w' = w1.setCell ⟨p, q, none⟩ (.int .i64 (IntKind.i64.wrap (n : Int)))) ∨ (∃ c, e = .panicked c ∧ Bad c w') := by
  have HM := Lib.hid hm
  have HC := Lib.hid hc
  have HP := Lib.hid hp
  have H1 := Lib.hid h1
  have H2 := Lib.hid h2
  have HX := Lib.hid hx
  have HY := Lib.hid hy
  clear hm hc hp h1 h2 hx hy
  go_enter Try.func40, Try.ntmps40
  go_wp2_with fail
  refine wp_region_held_drew (S := (fun X : World => X.cell? ⟨b1, 0, none⟩ = some (.pointer (some ⟨p, q, none⟩)) ∧ X.cell? ⟨b2, 0, none⟩ = some (.int .i64 k0))) (by kernel_rfl) (⟨H1.out, H2.out⟩) (fun hHeld => ?_)
  refine takeD (i := 0) (d := some 4) (v := ?_) rfl (by kernel_rfl) (by kernel_rfl) (by kernel_rfl) (by kernel_rfl) (fun _ _ _ h => h) (Or.inl ⟨by kernel_rfl, fun X hX => Or.inl ?_⟩) (by assumption) ?_
  rotate_left
  · have c1 := hX.1; first | (go_simp; done) | (go_simp; with_reducible rfl)
  (try simp only [Act.put]); (try simp only [List.setIfInBounds_toArray]); (try simp only [List.set_cons_succ]); (try simp only [List.set_cons_zero])
  refine takeD (i := 1) (d := some 5) (v := ?_) rfl (by kernel_rfl) (by kernel_rfl) (by kernel_rfl) (by kernel_rfl) (fun _ _ _ h => h) (Or.inl ⟨by kernel_rfl, fun X hX => Or.inl ?_⟩) (by assumption) ?_
  rotate_left
  · first | (go_simp; done) | (go_simp; with_reducible rfl)
  (try simp only [Act.put]); (try simp only [List.setIfInBounds_toArray]); (try simp only [List.set_cons_succ]); (try simp only [List.set_cons_zero])
  refine takeD (i := 2) (d := some 6) (v := ?_) rfl (by kernel_rfl) (by kernel_rfl) (by kernel_rfl) (by kernel_rfl) (fun _ _ _ h => h) (Or.inl ⟨by kernel_rfl, fun X hX => Or.inl ?_⟩) (by assumption) ?_
  rotate_left
  · have c1 := hX.1; first | (go_simp; done) | (go_simp; with_reducible rfl)
  (try simp only [Act.put]); (try simp only [List.setIfInBounds_toArray]); (try simp only [List.set_cons_succ]); (try simp only [List.set_cons_zero])
  refine takeD (i := 3) (d := some 7) (v := ?_) rfl (by kernel_rfl) (by kernel_rfl) (by kernel_rfl) (by kernel_rfl) (fun _ _ _ h => h) (Or.inl ⟨by kernel_rfl, fun X hX => Or.inl ?_⟩) (by assumption) ?_
  rotate_left
  · first | (go_simp; done) | (go_simp; with_reducible rfl)
  (try simp only [Act.put]); (try simp only [List.setIfInBounds_toArray]); (try simp only [List.set_cons_succ]); (try simp only [List.set_cons_zero])
  refine takeD (i := 6) (d := some 10) (v := ?_) rfl (by kernel_rfl) (by kernel_rfl) (by kernel_rfl) (by kernel_rfl) (fun _ _ _ h => h) (Or.inl ⟨by kernel_rfl, fun X hX => Or.inl ?_⟩) (by assumption) ?_
  rotate_left
  · have c1 := hX.1; have c2 := hX.2; first | (go_simp; done) | (go_simp; with_reducible rfl)
  (try simp only [Act.put]); (try simp only [List.setIfInBounds_toArray]); (try simp only [List.set_cons_succ]); (try simp only [List.set_cons_zero])
  refine takeD (i := 7) (d := some 11) (v := .func (.method "remitter/wire.number") #[.iface t c0] #[]) rfl (by kernel_rfl) (by kernel_rfl) (by kernel_rfl) (by kernel_rfl) (fun _ _ _ h => h) (Or.inl ⟨by kernel_rfl, fun X hX => Or.inl (by exact exec_mkfunc (.method "remitter/wire.number") #[.tmp 5] rfl #[.iface t c0] (by simp [go_sem]) _ rfl)⟩) (by assumption) ?_
  (try simp only [Act.put]); (try simp only [List.setIfInBounds_toArray]); (try simp only [List.set_cons_succ]); (try simp only [List.set_cons_zero])
  refine takeD (i := 8) (d := some 12) (v := .func (.method "remitter/wire.number") #[.iface t c0] #[]) rfl (by kernel_rfl) (by kernel_rfl) (by kernel_rfl) (by kernel_rfl) (fun _ _ _ h => h) (Or.inl ⟨by kernel_rfl, fun X hX => Or.inl (by exact exec_nilmeth (.tmp 11) rfl _ _ _ rfl HM.out.ahead)⟩) (by assumption) ?_
  (try simp only [Act.put]); (try simp only [List.setIfInBounds_toArray]); (try simp only [List.set_cons_succ]); (try simp only [List.set_cons_zero])
  refine takeD (i := 9) (d := some 13) (v := ?_) rfl (by kernel_rfl) (by kernel_rfl) (by kernel_rfl) (by kernel_rfl) (fun _ _ _ h => h) (Or.inl ⟨by kernel_rfl, fun X hX => Or.inl ?_⟩) (by assumption) ?_
  rotate_left
  · first | (go_simp; done) | (go_simp; with_reducible rfl)
  (try simp only [Act.put]); (try simp only [List.setIfInBounds_toArray]); (try simp only [List.set_cons_succ]); (try simp only [List.set_cons_zero])
  refine wpAnyH_ready (rs := [4]) (by kernel_rfl) (by simp) ?_
  refine AllReadyH.cons rfl (fun K hK => ?_) AllReadyH.nil
  rw [if_pos (by kernel_rfl)]
  have cx : w.drew.cell? ⟨p, q, none⟩ = some (.int .i64 x) := HX.out
  go_simp
  refine hK.out _ _ (hHeld) (fun hHeld => ?_)
  clear hK K
  (try simp only [Act.put]); (try simp only [List.setIfInBounds_toArray]); (try simp only [List.set_cons_succ]); (try simp only [List.set_cons_zero])
  refine wpAnyH_ready (rs := [5]) (by kernel_rfl) (by simp) ?_
  refine AllReadyH.cons rfl (fun K hK => ?_) AllReadyH.nil
  rw [if_pos (by kernel_rfl)]
  have cy := HY.out
  go_simp
  refine hK.out _ _ (hHeld) (fun hHeld => ?_)
  clear hK K
  (try simp only [Act.put]); (try simp only [List.setIfInBounds_toArray]); (try simp only [List.set_cons_succ]); (try simp only [List.set_cons_zero])
  refine wpAnyH_ready (rs := [10]) (by kernel_rfl) (by simp) ?_
  refine AllReadyH.cons rfl (fun K hK => ?_) AllReadyH.nil
  rw [if_pos (by kernel_rfl)]
  unfold Oper.wp
  rw [exec_invoke (.tmp 13) "remitter/wire.number" #[.tmp 9, .tmp 10] _ rfl (.iface t c0) rfl [.int .u64 y, .int .i64 k0] (by simp [go_sem]) (HM.out.call _ _), Oper.upon_enter]
  refine HC.out.mono ?_
  rintro e w1 (⟨n, rfl, hP⟩ | ⟨c, rfl, hB⟩)
  case inr => exact ⟨rfl, .inr ⟨c, rfl, hB⟩⟩
  obtain ⟨k1, k2, k3, k4⟩ := HP.out n w1 hP
  refine hK.out _ _ (⟨k1, k2⟩) (fun hHeld => ?_)
  clear hK K
  (try simp only [Act.put]); (try simp only [List.setIfInBounds_toArray]); (try simp only [List.set_cons_succ]); (try simp only [List.set_cons_zero])
  refine wpAnyH_ready (rs := [11]) (by kernel_rfl) (by simp) ?_
  refine AllReadyH.cons rfl (fun K hK => ?_) AllReadyH.nil
  rw [if_pos (by kernel_rfl)]
  go_simp
  refine hK.out _ _ (hHeld) (fun hHeld => ?_)
  clear hK K
  (try simp only [Act.put]); (try simp only [List.setIfInBounds_toArray]); (try simp only [List.set_cons_succ]); (try simp only [List.set_cons_zero])
  refine takeD (i := 12) (d := some 16) (v := ?_) rfl (by kernel_rfl) (by kernel_rfl) (by kernel_rfl) (by kernel_rfl) (fun _ _ _ h => h) (Or.inl ⟨by kernel_rfl, fun X hX => Or.inl ?_⟩) (by assumption) ?_
  rotate_left
  · first | (go_simp; done) | (go_simp; with_reducible rfl)
  (try simp only [Act.put]); (try simp only [List.setIfInBounds_toArray]); (try simp only [List.set_cons_succ]); (try simp only [List.set_cons_zero])
  refine wpAnyH_ready (rs := [13]) (by kernel_rfl) (by simp) ?_
  refine AllReadyH.cons rfl (fun K hK => ?_) AllReadyH.nil
  rw [if_pos (by kernel_rfl)]
  go_simp
  refine hK.out _ _ (⟨by rw [World.cell?_setCell_far _ _ _ _ n1.symm]; exact k1, by rw [World.cell?_setCell_far _ _ _ _ n2.symm]; exact k2⟩) (fun hHeld => ?_)
  clear hK K
  (try simp only [Act.put]); (try simp only [List.setIfInBounds_toArray]); (try simp only [List.set_cons_succ]); (try simp only [List.set_cons_zero])
  refine wpAnyH_done (by kernel_rfl) ?_ _
  go_wp2
  first | go_end0 | skip
  exact .inl ⟨n, w1, rfl, hP, rfl⟩

set_option maxHeartbeats 2000000 in
theorem numw_any (p q b1 b2 : Nat) (k0 x : Int) (c0 : Value) (f : FuncId) (w : World) (Post : Nat → World → Prop) (Bad : List PanicEntry → World → Prop) (t : TypeId)
    (h1 : w.cell? ⟨b1, 0, none⟩ = some (.pointer (some ⟨p, q, none⟩))) (h2 : w.cell? ⟨b2, 0, none⟩ = some (.int .i64 k0)) (hx : w.cell? ⟨p, q, none⟩ = some (.int .u32 x)) (n1 : b1 ≠ p) (n2 : b2 ≠ p)
    (hm : Meth t c0 "remitter/wire.number" f) (y : Int) (hy : IntKind.u64.wrap x = y)
    (hc : Calls Try.prog f #[c0, .int .u64 y, .int .i64 k0] w.drew fun e w' => (∃ n : Nat, e = .returned (.int .u64 (n : Int)) ∧ Post n w') ∨ (∃ c, e = .panicked c ∧ Bad c w'))
    (hp : ∀ n w', Post n w' → w'.cell? ⟨b1, 0, none⟩ = some (.pointer (some ⟨p, q, none⟩)) ∧ w'.cell? ⟨b2, 0, none⟩ = some (.int .i64 k0) ∧ w'.cell? ⟨p, q, none⟩ = some (.int .u32 x) ∧ w'.frozen? ⟨p, q, none⟩ = false) :
    Calls Try.prog 41 #[.iface t c0, .pointer (some ⟨b1, 0, none⟩), .pointer (some ⟨b2, 0, none⟩)] w fun e w' =>
      (∃ (n : Nat) (w1 : World), e = .returned (.tuple #[]) ∧ Post n w1 ∧ w' = w1.setCell ⟨p, q, none⟩ (.int .u32 (IntKind.u32.wrap (n : Int)))) ∨ (∃ c, e = .panicked c ∧ Bad c w') := by
  have HM := Lib.hid hm
  have HC := Lib.hid hc
  have HP := Lib.hid hp
  have H1 := Lib.hid h1
  have H2 := Lib.hid h2
  have HX := Lib.hid hx
  have HY := Lib.hid hy
  clear hm hc hp h1 h2 hx hy
  go_enter Try.func41, Try.ntmps41
  go_wp2_with fail
  refine wp_region_held_drew (S := (fun X : World => X.cell? ⟨b1, 0, none⟩ = some (.pointer (some ⟨p, q, none⟩)) ∧ X.cell? ⟨b2, 0, none⟩ = some (.int .i64 k0))) (by kernel_rfl) (⟨H1.out, H2.out⟩) (fun hHeld => ?_)
  refine takeD (i := 0) (d := some 4) (v := ?_) rfl (by kernel_rfl) (by kernel_rfl) (by kernel_rfl) (by kernel_rfl) (fun _ _ _ h => h) (Or.inl ⟨by kernel_rfl, fun X hX => Or.inl ?_⟩) (by assumption) ?_
  rotate_left
  · have c1 := hX.1; first | (go_simp; done) | (go_simp; with_reducible rfl)
  (try simp only [Act.put]); (try simp only [List.setIfInBounds_toArray]); (try simp only [List.set_cons_succ]); (try simp only [List.set_cons_zero])
  refine takeD (i := 1) (d := some 5) (v := ?_) rfl (by kernel_rfl) (by kernel_rfl) (by kernel_rfl) (by kernel_rfl) (fun _ _ _ h => h) (Or.inl ⟨by kernel_rfl, fun X hX => Or.inl ?_⟩) (by assumption) ?_
  rotate_left
  · first | (go_simp; done) | (go_simp; with_reducible rfl)
  (try simp only [Act.put]); (try simp only [List.setIfInBounds_toArray]); (try simp only [List.set_cons_succ]); (try simp only [List.set_cons_zero])
  refine takeD (i := 2) (d := some 6) (v := ?_) rfl (by kernel_rfl) (by kernel_rfl) (by kernel_rfl) (by kernel_rfl) (fun _ _ _ h => h) (Or.inl ⟨by kernel_rfl, fun X hX => Or.inl ?_⟩) (by assumption) ?_
  rotate_left
  · have c1 := hX.1; first | (go_simp; done) | (go_simp; with_reducible rfl)
  (try simp only [Act.put]); (try simp only [List.setIfInBounds_toArray]); (try simp only [List.set_cons_succ]); (try simp only [List.set_cons_zero])
  refine takeD (i := 3) (d := some 7) (v := ?_) rfl (by kernel_rfl) (by kernel_rfl) (by kernel_rfl) (by kernel_rfl) (fun _ _ _ h => h) (Or.inl ⟨by kernel_rfl, fun X hX => Or.inl ?_⟩) (by assumption) ?_
  rotate_left
  · first | (go_simp; done) | (go_simp; with_reducible rfl)
  (try simp only [Act.put]); (try simp only [List.setIfInBounds_toArray]); (try simp only [List.set_cons_succ]); (try simp only [List.set_cons_zero])
  refine takeD (i := 6) (d := some 10) (v := ?_) rfl (by kernel_rfl) (by kernel_rfl) (by kernel_rfl) (by kernel_rfl) (fun _ _ _ h => h) (Or.inl ⟨by kernel_rfl, fun X hX => Or.inl ?_⟩) (by assumption) ?_
  rotate_left
  · have c1 := hX.1; have c2 := hX.2; first | (go_simp; done) | (go_simp; with_reducible rfl)
  (try simp only [Act.put]); (try simp only [List.setIfInBounds_toArray]); (try simp only [List.set_cons_succ]); (try simp only [List.set_cons_zero])
  refine takeD (i := 7) (d := some 11) (v := .func (.method "remitter/wire.number") #[.iface t c0] #[]) rfl (by kernel_rfl) (by kernel_rfl) (by kernel_rfl) (by kernel_rfl) (fun _ _ _ h => h) (Or.inl ⟨by kernel_rfl, fun X hX => Or.inl (by exact exec_mkfunc (.method "remitter/wire.number") #[.tmp 5] rfl #[.iface t c0] (by simp [go_sem]) _ rfl)⟩) (by assumption) ?_
  (try simp only [Act.put]); (try simp only [List.setIfInBounds_toArray]); (try simp only [List.set_cons_succ]); (try simp only [List.set_cons_zero])
  refine takeD (i := 8) (d := some 12) (v := .func (.method "remitter/wire.number") #[.iface t c0] #[]) rfl (by kernel_rfl) (by kernel_rfl) (by kernel_rfl) (by kernel_rfl) (fun _ _ _ h => h) (Or.inl ⟨by kernel_rfl, fun X hX => Or.inl (by exact exec_nilmeth (.tmp 11) rfl _ _ _ rfl HM.out.ahead)⟩) (by assumption) ?_
  (try simp only [Act.put]); (try simp only [List.setIfInBounds_toArray]); (try simp only [List.set_cons_succ]); (try simp only [List.set_cons_zero])
  refine takeD (i := 9) (d := some 13) (v := ?_) rfl (by kernel_rfl) (by kernel_rfl) (by kernel_rfl) (by kernel_rfl) (fun _ _ _ h => h) (Or.inl ⟨by kernel_rfl, fun X hX => Or.inl ?_⟩) (by assumption) ?_
  rotate_left
  · first | (go_simp; done) | (go_simp; with_reducible rfl)
  (try simp only [Act.put]); (try simp only [List.setIfInBounds_toArray]); (try simp only [List.set_cons_succ]); (try simp only [List.set_cons_zero])
  refine wpAnyH_ready (rs := [4]) (by kernel_rfl) (by simp) ?_
  refine AllReadyH.cons rfl (fun K hK => ?_) AllReadyH.nil
  rw [if_pos (by kernel_rfl)]
  have cx : w.drew.cell? ⟨p, q, none⟩ = some (.int .u32 x) := HX.out
  go_simp
  refine hK.out _ _ (hHeld) (fun hHeld => ?_)
  clear hK K
  (try simp only [Act.put]); (try simp only [List.setIfInBounds_toArray]); (try simp only [List.set_cons_succ]); (try simp only [List.set_cons_zero])
  refine wpAnyH_ready (rs := [5]) (by kernel_rfl) (by simp) ?_
  refine AllReadyH.cons rfl (fun K hK => ?_) AllReadyH.nil
  rw [if_pos (by kernel_rfl)]
  have cy := HY.out
  go_simp
  refine hK.out _ _ (hHeld) (fun hHeld => ?_)
  clear hK K
  (try simp only [Act.put]); (try simp only [List.setIfInBounds_toArray]); (try simp only [List.set_cons_succ]); (try simp only [List.set_cons_zero])
  refine wpAnyH_ready (rs := [10]) (by kernel_rfl) (by simp) ?_
  refine AllReadyH.cons rfl (fun K hK => ?_) AllReadyH.nil
  rw [if_pos (by kernel_rfl)]
  unfold Oper.wp
  rw [exec_invoke (.tmp 13) "remitter/wire.number" #[.tmp 9, .tmp 10] _ rfl (.iface t c0) rfl [.int .u64 y, .int .i64 k0] (by simp [go_sem]) (HM.out.call _ _), Oper.upon_enter]
  refine HC.out.mono ?_
  rintro e w1 (⟨n, rfl, hP⟩ | ⟨c, rfl, hB⟩)
  case inr => exact ⟨rfl, .inr ⟨c, rfl, hB⟩⟩
  obtain ⟨k1, k2, k3, k4⟩ := HP.out n w1 hP
  refine hK.out _ _ (⟨k1, k2⟩) (fun hHeld => ?_)
  clear hK K
  (try simp only [Act.put]); (try simp only [List.setIfInBounds_toArray]); (try simp only [List.set_cons_succ]); (try simp only [List.set_cons_zero])
  refine wpAnyH_ready (rs := [11]) (by kernel_rfl) (by simp) ?_
  refine AllReadyH.cons rfl (fun K hK => ?_) AllReadyH.nil
  rw [if_pos (by kernel_rfl)]
  go_simp
  refine hK.out _ _ (hHeld) (fun hHeld => ?_)
  clear hK K
  (try simp only [Act.put]); (try simp only [List.setIfInBounds_toArray]); (try simp only [List.set_cons_succ]); (try simp only [List.set_cons_zero])
  refine takeD (i := 12) (d := some 16) (v := ?_) rfl (by kernel_rfl) (by kernel_rfl) (by kernel_rfl) (by kernel_rfl) (fun _ _ _ h => h) (Or.inl ⟨by kernel_rfl, fun X hX => Or.inl ?_⟩) (by assumption) ?_
  rotate_left
  · first | (go_simp; done) | (go_simp; with_reducible rfl)
  (try simp only [Act.put]); (try simp only [List.setIfInBounds_toArray]); (try simp only [List.set_cons_succ]); (try simp only [List.set_cons_zero])
  refine wpAnyH_ready (rs := [13]) (by kernel_rfl) (by simp) ?_
  refine AllReadyH.cons rfl (fun K hK => ?_) AllReadyH.nil
  rw [if_pos (by kernel_rfl)]
  go_simp
  refine hK.out _ _ (⟨by rw [World.cell?_setCell_far _ _ _ _ n1.symm]; exact k1, by rw [World.cell?_setCell_far _ _ _ _ n2.symm]; exact k2⟩) (fun hHeld => ?_)
  clear hK K
  (try simp only [Act.put]); (try simp only [List.setIfInBounds_toArray]); (try simp only [List.set_cons_succ]); (try simp only [List.set_cons_zero])
  refine wpAnyH_done (by kernel_rfl) ?_ _
  go_wp2
  first | go_end0 | skip
  exact .inl ⟨n, w1, rfl, hP, rfl⟩

set_option maxHeartbeats 2000000 in
theorem numq_any (p q b1 b2 : Nat) (k0 x : Int) (c0 : Value) (f : FuncId) (w : World) (Post : Nat → World → Prop) (Bad : List PanicEntry → World → Prop) (t : TypeId)
    (h1 : w.cell? ⟨b1, 0, none⟩ = some (.pointer (some ⟨p, q, none⟩))) (h2 : w.cell? ⟨b2, 0, none⟩ = some (.int .i64 k0)) (hx : w.cell? ⟨p, q, none⟩ = some (.int .u64 x)) (n1 : b1 ≠ p) (n2 : b2 ≠ p)
    (hm : Meth t c0 "remitter/wire.number" f) (y : Int) (hy : x = y)
    (hc : Calls Try.prog f #[c0, .int .u64 y, .int .i64 k0] w.drew fun e w' => (∃ n : Nat, e = .returned (.int .u64 (n : Int)) ∧ Post n w') ∨ (∃ c, e = .panicked c ∧ Bad c w'))
    (hp : ∀ n w', Post n w' → w'.cell? ⟨b1, 0, none⟩ = some (.pointer (some ⟨p, q, none⟩)) ∧ w'.cell? ⟨b2, 0, none⟩ = some (.int .i64 k0) ∧ w'.cell? ⟨p, q, none⟩ = some (.int .u64 x) ∧ w'.frozen? ⟨p, q, none⟩ = false) :
    Calls Try.prog 42 #[.iface t c0, .pointer (some ⟨b1, 0, none⟩), .pointer (some ⟨b2, 0, none⟩)] w fun e w' =>
      (∃ (n : Nat) (w1 : World), e = .returned (.tuple #[]) ∧ Post n w1 ∧ w' = w1.setCell ⟨p, q, none⟩ (.int .u64 ((n : Int)))) ∨ (∃ c, e = .panicked c ∧ Bad c w') := by
  have HM := Lib.hid hm
  have HC := Lib.hid hc
  have HP := Lib.hid hp
  have H1 := Lib.hid h1
  have H2 := Lib.hid h2
  have HX := Lib.hid hx
  have HY := Lib.hid hy
  clear hm hc hp h1 h2 hx hy
  go_enter Try.func42, Try.ntmps42
  go_wp2_with fail
  refine wp_region_held_drew (S := (fun X : World => X.cell? ⟨b1, 0, none⟩ = some (.pointer (some ⟨p, q, none⟩)) ∧ X.cell? ⟨b2, 0, none⟩ = some (.int .i64 k0))) (by kernel_rfl) (⟨H1.out, H2.out⟩) (fun hHeld => ?_)
  refine takeD (i := 0) (d := some 4) (v := ?_) rfl (by kernel_rfl) (by kernel_rfl) (by kernel_rfl) (by kernel_rfl) (fun _ _ _ h => h) (Or.inl ⟨by kernel_rfl, fun X hX => Or.inl ?_⟩) (by assumption) ?_
  rotate_left
  · have c1 := hX.1; first | (go_simp; done) | (go_simp; with_reducible rfl)
  (try simp only [Act.put]); (try simp only [List.setIfInBounds_toArray]); (try simp only [List.set_cons_succ]); (try simp only [List.set_cons_zero])
  refine takeD (i := 1) (d := some 5) (v := ?_) rfl (by kernel_rfl) (by kernel_rfl) (by kernel_rfl) (by kernel_rfl) (fun _ _ _ h => h) (Or.inl ⟨by kernel_rfl, fun X hX => Or.inl ?_⟩) (by assumption) ?_
  rotate_left
  · first | (go_simp; done) | (go_simp; with_reducible rfl)
  (try simp only [Act.put]); (try simp only [List.setIfInBounds_toArray]); (try simp only [List.set_cons_succ]); (try simp only [List.set_cons_zero])
  refine takeD (i := 2) (d := some 6) (v := ?_) rfl (by kernel_rfl) (by kernel_rfl) (by kernel_rfl) (by kernel_rfl) (fun _ _ _ h => h) (Or.inl ⟨by kernel_rfl, fun X hX => Or.inl ?_⟩) (by assumption) ?_
  rotate_left
  · have c1 := hX.1; first | (go_simp; done) | (go_simp; with_reducible rfl)
  (try simp only [Act.put]); (try simp only [List.setIfInBounds_toArray]); (try simp only [List.set_cons_succ]); (try simp only [List.set_cons_zero])
  refine takeD (i := 3) (d := some 7) (v := ?_) rfl (by kernel_rfl) (by kernel_rfl) (by kernel_rfl) (by kernel_rfl) (fun _ _ _ h => h) (Or.inl ⟨by kernel_rfl, fun X hX => Or.inl ?_⟩) (by assumption) ?_
  rotate_left
  · first | (go_simp; done) | (go_simp; with_reducible rfl)
  (try simp only [Act.put]); (try simp only [List.setIfInBounds_toArray]); (try simp only [List.set_cons_succ]); (try simp only [List.set_cons_zero])
  refine takeD (i := 5) (d := some 9) (v := ?_) rfl (by kernel_rfl) (by kernel_rfl) (by kernel_rfl) (by kernel_rfl) (fun _ _ _ h => h) (Or.inl ⟨by kernel_rfl, fun X hX => Or.inl ?_⟩) (by assumption) ?_
  rotate_left
  · have c1 := hX.1; have c2 := hX.2; first | (go_simp; done) | (go_simp; with_reducible rfl)
  (try simp only [Act.put]); (try simp only [List.setIfInBounds_toArray]); (try simp only [List.set_cons_succ]); (try simp only [List.set_cons_zero])
  refine takeD (i := 6) (d := some 10) (v := .func (.method "remitter/wire.number") #[.iface t c0] #[]) rfl (by kernel_rfl) (by kernel_rfl) (by kernel_rfl) (by kernel_rfl) (fun _ _ _ h => h) (Or.inl ⟨by kernel_rfl, fun X hX => Or.inl (by exact exec_mkfunc (.method "remitter/wire.number") #[.tmp 5] rfl #[.iface t c0] (by simp [go_sem]) _ rfl)⟩) (by assumption) ?_
  (try simp only [Act.put]); (try simp only [List.setIfInBounds_toArray]); (try simp only [List.set_cons_succ]); (try simp only [List.set_cons_zero])
  refine takeD (i := 7) (d := some 11) (v := .func (.method "remitter/wire.number") #[.iface t c0] #[]) rfl (by kernel_rfl) (by kernel_rfl) (by kernel_rfl) (by kernel_rfl) (fun _ _ _ h => h) (Or.inl ⟨by kernel_rfl, fun X hX => Or.inl (by exact exec_nilmeth (.tmp 10) rfl _ _ _ rfl HM.out.ahead)⟩) (by assumption) ?_
  (try simp only [Act.put]); (try simp only [List.setIfInBounds_toArray]); (try simp only [List.set_cons_succ]); (try simp only [List.set_cons_zero])
  refine takeD (i := 8) (d := some 12) (v := ?_) rfl (by kernel_rfl) (by kernel_rfl) (by kernel_rfl) (by kernel_rfl) (fun _ _ _ h => h) (Or.inl ⟨by kernel_rfl, fun X hX => Or.inl ?_⟩) (by assumption) ?_
  rotate_left
  · first | (go_simp; done) | (go_simp; with_reducible rfl)
  (try simp only [Act.put]); (try simp only [List.setIfInBounds_toArray]); (try simp only [List.set_cons_succ]); (try simp only [List.set_cons_zero])
  refine wpAnyH_ready (rs := [4]) (by kernel_rfl) (by simp) ?_
  refine AllReadyH.cons rfl (fun K hK => ?_) AllReadyH.nil
  rw [if_pos (by kernel_rfl)]
  have cx : w.drew.cell? ⟨p, q, none⟩ = some (.int .u64 x) := HX.out
  have cy := HY.out
  go_simp
  refine hK.out _ _ (hHeld) (fun hHeld => ?_)
  clear hK K
  (try simp only [Act.put]); (try simp only [List.setIfInBounds_toArray]); (try simp only [List.set_cons_succ]); (try simp only [List.set_cons_zero])
  refine wpAnyH_ready (rs := [9]) (by kernel_rfl) (by simp) ?_
  refine AllReadyH.cons rfl (fun K hK => ?_) AllReadyH.nil
  rw [if_pos (by kernel_rfl)]
  unfold Oper.wp
  rw [exec_invoke (.tmp 12) "remitter/wire.number" #[.tmp 8, .tmp 9] _ rfl (.iface t c0) rfl [.int .u64 y, .int .i64 k0] (by simp [go_sem]) (HM.out.call _ _), Oper.upon_enter]
  refine HC.out.mono ?_
  rintro e w1 (⟨n, rfl, hP⟩ | ⟨c, rfl, hB⟩)
  case inr => exact ⟨rfl, .inr ⟨c, rfl, hB⟩⟩
  obtain ⟨k1, k2, k3, k4⟩ := HP.out n w1 hP
  refine hK.out _ _ (⟨k1, k2⟩) (fun hHeld => ?_)
  clear hK K
  (try simp only [Act.put]); (try simp only [List.setIfInBounds_toArray]); (try simp only [List.set_cons_succ]); (try simp only [List.set_cons_zero])
  refine takeD (i := 10) (d := some 14) (v := ?_) rfl (by kernel_rfl) (by kernel_rfl) (by kernel_rfl) (by kernel_rfl) (fun _ _ _ h => h) (Or.inl ⟨by kernel_rfl, fun X hX => Or.inl ?_⟩) (by assumption) ?_
  rotate_left
  · first | (go_simp; done) | (go_simp; with_reducible rfl)
  (try simp only [Act.put]); (try simp only [List.setIfInBounds_toArray]); (try simp only [List.set_cons_succ]); (try simp only [List.set_cons_zero])
  refine wpAnyH_ready (rs := [11]) (by kernel_rfl) (by simp) ?_
  refine AllReadyH.cons rfl (fun K hK => ?_) AllReadyH.nil
  rw [if_pos (by kernel_rfl)]
  go_simp
  refine hK.out _ _ (⟨by rw [World.cell?_setCell_far _ _ _ _ n1.symm]; exact k1, by rw [World.cell?_setCell_far _ _ _ _ n2.symm]; exact k2⟩) (fun hHeld => ?_)
  clear hK K
  (try simp only [Act.put]); (try simp only [List.setIfInBounds_toArray]); (try simp only [List.set_cons_succ]); (try simp only [List.set_cons_zero])
  refine wpAnyH_done (by kernel_rfl) ?_ _
  go_wp2
  first | go_end0 | skip
  exact .inl ⟨n, w1, rfl, hP, rfl⟩

set_option maxHeartbeats 2000000 in
theorem hashf_any (p q b1 : Nat) (h : List UInt8) (c0 : Value) (f : FuncId) (w : World) (Post Done : List UInt8 → World → Prop) (Bad : List PanicEntry → World → Prop) (t : TypeId)
    (h1 : w.cell? ⟨b1, 0, none⟩ = some (.pointer (some ⟨p, q, none⟩))) (hx : (Instr.loadAt 25 (.pointer (some ⟨p, q, none⟩))).run Try.prog w.drew = .ok (arrH h) w.drew)
    (hm : Meth t c0 "remitter/wire.hash" f)
    (hc : Calls Try.prog f #[c0, arrH h] w.drew fun e w' => (∃ g : List UInt8, e = .returned (arrH g) ∧ Post g w') ∨ (∃ c, e = .panicked c ∧ Bad c w'))
    (hp : ∀ g w', Post g w' → w'.cell? ⟨b1, 0, none⟩ = some (.pointer (some ⟨p, q, none⟩)) ∧ ∃ V, (Instr.storeAt 25 (.pointer (some ⟨p, q, none⟩)) (arrH g)).run Try.prog w' = .ok () V ∧ Done g V ∧ V.cell? ⟨b1, 0, none⟩ = some (.pointer (some ⟨p, q, none⟩))) :
    Calls Try.prog 43 #[.iface t c0, .pointer (some ⟨b1, 0, none⟩)] w fun e w' =>
      (∃ g : List UInt8, e = .returned (.tuple #[]) ∧ Done g w') ∨ (∃ c, e = .panicked c ∧ Bad c w') := by
  have HM := Lib.hid hm
  have HC := Lib.hid hc
  have HP := Lib.hid hp
  have H1 := Lib.hid h1
  have HX := Lib.hid hx
  clear hm hc hp h1 hx
  go_enter Try.func43, Try.ntmps43
  go_wp2_with fail
  refine wp_region_held_drew (S := (fun X : World => X.cell? ⟨b1, 0, none⟩ = some (.pointer (some ⟨p, q, none⟩)))) (by kernel_rfl) (H1.out) (fun hHeld => ?_)
  refine takeD (i := 0) (d := some 3) (v := ?_) rfl (by kernel_rfl) (by kernel_rfl) (by kernel_rfl) (by kernel_rfl) (fun _ _ _ h => h) (Or.inl ⟨by kernel_rfl, fun X hX => Or.inl ?_⟩) (by assumption) ?_
  rotate_left
  · have c1 := hX; first | (go_simp; done) | (go_simp; with_reducible rfl)
  (try simp only [Act.put]); (try simp only [List.setIfInBounds_toArray]); (try simp only [List.set_cons_succ]); (try simp only [List.set_cons_zero])
  refine takeD (i := 1) (d := some 4) (v := ?_) rfl (by kernel_rfl) (by kernel_rfl) (by kernel_rfl) (by kernel_rfl) (fun _ _ _ h => h) (Or.inl ⟨by kernel_rfl, fun X hX => Or.inl ?_⟩) (by assumption) ?_
  rotate_left
  · first | (go_simp; done) | (go_simp; with_reducible rfl)
  (try simp only [Act.put]); (try simp only [List.setIfInBounds_toArray]); (try simp only [List.set_cons_succ]); (try simp only [List.set_cons_zero])
  refine takeD (i := 2) (d := some 5) (v := ?_) rfl (by kernel_rfl) (by kernel_rfl) (by kernel_rfl) (by kernel_rfl) (fun _ _ _ h => h) (Or.inl ⟨by kernel_rfl, fun X hX => Or.inl ?_⟩) (by assumption) ?_
  rotate_left
  · have c1 := hX; first | (go_simp; done) | (go_simp; with_reducible rfl)
  (try simp only [Act.put]); (try simp only [List.setIfInBounds_toArray]); (try simp only [List.set_cons_succ]); (try simp only [List.set_cons_zero])
  refine takeD (i := 3) (d := some 6) (v := ?_) rfl (by kernel_rfl) (by kernel_rfl) (by kernel_rfl) (by kernel_rfl) (fun _ _ _ h => h) (Or.inl ⟨by kernel_rfl, fun X hX => Or.inl ?_⟩) (by assumption) ?_
  rotate_left
  · first | (go_simp; done) | (go_simp; with_reducible rfl)
  (try simp only [Act.put]); (try simp only [List.setIfInBounds_toArray]); (try simp only [List.set_cons_succ]); (try simp only [List.set_cons_zero])
  refine takeD (i := 5) (d := some 8) (v := .func (.method "remitter/wire.hash") #[.iface t c0] #[]) rfl (by kernel_rfl) (by kernel_rfl) (by kernel_rfl) (by kernel_rfl) (fun _ _ _ h => h) (Or.inl ⟨by kernel_rfl, fun X hX => Or.inl (by exact exec_mkfunc (.method "remitter/wire.hash") #[.tmp 4] rfl #[.iface t c0] (by simp [go_sem]) _ rfl)⟩) (by assumption) ?_
  (try simp only [Act.put]); (try simp only [List.setIfInBounds_toArray]); (try simp only [List.set_cons_succ]); (try simp only [List.set_cons_zero])
  refine takeD (i := 6) (d := some 9) (v := .func (.method "remitter/wire.hash") #[.iface t c0] #[]) rfl (by kernel_rfl) (by kernel_rfl) (by kernel_rfl) (by kernel_rfl) (fun _ _ _ h => h) (Or.inl ⟨by kernel_rfl, fun X hX => Or.inl (by exact exec_nilmeth (.tmp 8) rfl _ _ _ rfl HM.out.ahead)⟩) (by assumption) ?_
  (try simp only [Act.put]); (try simp only [List.setIfInBounds_toArray]); (try simp only [List.set_cons_succ]); (try simp only [List.set_cons_zero])
  refine takeD (i := 7) (d := some 10) (v := ?_) rfl (by kernel_rfl) (by kernel_rfl) (by kernel_rfl) (by kernel_rfl) (fun _ _ _ h => h) (Or.inl ⟨by kernel_rfl, fun X hX => Or.inl ?_⟩) (by assumption) ?_
  rotate_left
  · first | (go_simp; done) | (go_simp; with_reducible rfl)
  (try simp only [Act.put]); (try simp only [List.setIfInBounds_toArray]); (try simp only [List.set_cons_succ]); (try simp only [List.set_cons_zero])
  refine wpAnyH_ready (rs := [4]) (by kernel_rfl) (by simp) ?_
  refine AllReadyH.cons rfl (fun K hK => ?_) AllReadyH.nil
  rw [if_pos (by kernel_rfl)]
  refine wp_load_eq 25 _ rfl (.pointer (some ⟨p, q, none⟩)) (arrH h) rfl HX.out ?_
  refine hK.out _ _ (hHeld) (fun hHeld => ?_)
  clear hK K
  (try simp only [Act.put]); (try simp only [List.setIfInBounds_toArray]); (try simp only [List.set_cons_succ]); (try simp only [List.set_cons_zero])
  refine wpAnyH_ready (rs := [8]) (by kernel_rfl) (by simp) ?_
  refine AllReadyH.cons rfl (fun K hK => ?_) AllReadyH.nil
  rw [if_pos (by kernel_rfl)]
  unfold Oper.wp
  rw [exec_invoke (.tmp 10) "remitter/wire.hash" #[.tmp 7] _ rfl (.iface t c0) rfl [arrH h] (by simp [go_sem]) (HM.out.call _ _), Oper.upon_enter]
  refine HC.out.mono ?_
  rintro e w1 (⟨g, rfl, hP⟩ | ⟨c, rfl, hB⟩)
  case inr => exact ⟨rfl, .inr ⟨c, rfl, hB⟩⟩
  obtain ⟨k1, V, k2, k3, k4⟩ := HP.out g w1 hP
  refine hK.out _ _ (k1) (fun hHeld => ?_)
  clear hK K
  (try simp only [Act.put]); (try simp only [List.setIfInBounds_toArray]); (try simp only [List.set_cons_succ]); (try simp only [List.set_cons_zero])
  refine takeD (i := 9) (d := some 12) (v := ?_) rfl (by kernel_rfl) (by kernel_rfl) (by kernel_rfl) (by kernel_rfl) (fun _ _ _ h => h) (Or.inl ⟨by kernel_rfl, fun X hX => Or.inl ?_⟩) (by assumption) ?_
  rotate_left
  · first | (go_simp; done) | (go_simp; with_reducible rfl)
  (try simp only [Act.put]); (try simp only [List.setIfInBounds_toArray]); (try simp only [List.set_cons_succ]); (try simp only [List.set_cons_zero])
  refine wpAnyH_ready (rs := [10]) (by kernel_rfl) (by simp) ?_
  refine AllReadyH.cons rfl (fun K hK => ?_) AllReadyH.nil
  rw [if_pos (by kernel_rfl)]
  refine wp_store_eq 25 _ _ rfl (.pointer (some ⟨p, q, none⟩)) (arrH g) rfl rfl k2 ?_
  refine hK.out _ _ (k4) (fun hHeld => ?_)
  clear hK K
  (try simp only [Act.put]); (try simp only [List.setIfInBounds_toArray]); (try simp only [List.set_cons_succ]); (try simp only [List.set_cons_zero])
  refine wpAnyH_done (by kernel_rfl) ?_ _
  go_wp2
  first | go_end0 | skip
  exact .inl ⟨rfl, g, k3⟩

end Go.Proofs.Ytpdnbjaamgfemaa
