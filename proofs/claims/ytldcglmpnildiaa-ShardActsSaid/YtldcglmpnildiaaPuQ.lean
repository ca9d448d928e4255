/- A purse's functions: Reserve, Commit, Release, Move. -/
import Derived.Test.YtldcglmpnildiaaPuP
namespace Go.Proofs.Ytldcglmpnildiaa
open Go.RowKit Go.Maps
set_option linter.unusedVariables false
set_option maxRecDepth 100000

theorem PuAt.putH {p g m cap : Nat} {s : Ps} {w w' : World} {D : DataW Unit} (h : PuAt p g m cap s w) (k : Nat) (x : Nat × Nat) (hl : s.h.length = 32) (hk : k < 32) (hm : PM w' m (fun i => if i = k then x else s.hold i)) (hF : Fr (· = m) w w') : PuAt p g m cap ⟨s.b, s.h.set k x⟩ w' :=
  ⟨h.pg, h.pm, h.gm, h.blk.fr hF h.pm, h.row.fr hF h.gm, hm.congr fun i hi => Ps.hold_set s x s.b (by omega) i⟩

/-- What Reserve, Commit, Release and Move come to. -/
def Act9 (p g m cap : Nat) (w : World) (e : Ending) (E : Int) (s' : Ps) (w' : World) : Prop := e = .returned (.int .i64 E) ∧ PuAt p g m cap s' w' ∧ Fr (PS g m) w w'

theorem ps_g {g m : Nat} {w w' : World} (h : Fr (· = g) w w') : Fr (PS g m) w w' := h.mono fun _ _ e => .inl e
theorem ps_m {g m : Nat} {w w' : World} (h : Fr (· = m) w w') : Fr (PS g m) w w' := h.mono fun _ _ e => .inr e
theorem ps_no {g m : Nat} {w w' : World} (h : Fr No w w') : Fr (PS g m) w w' := h.mono fun _ _ e => e.elim

end Go.Proofs.Ytldcglmpnildiaa
