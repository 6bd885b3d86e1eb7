/- A map from numbers to numbers that a call makes: how many there are of each. -/
import Derived.Test.YtkifihcficobnabPlanShape
import Derived.Test.YtkifihcficobnabProg
import Derived.WalkKit
import Derived.Maps.Own
import Derived.Maps.OwnOps
import Derived.Maps.Views
import Derived.Maps.OwnSet
import Derived.Deep.QuietTactic
import Derived.MapViews
namespace Go.Proofs.Ytkifihcficobnab
open Go.RowKit Go.Gs Go.Maps
set_option linter.unusedVariables false

theorem wpList_lookup_num {H : Type} {P : Program} (w : World) {ops : Array Oper} {rest : List Oper} {o : Oper} {a : Act} {Q : Exit → Act → World → Prop}
    (hg : o.guard = none) (m x : Operand) (t : TypeId) (hop : o.op = Op.lookup t m x false)
    (k e : TypeId) (K : Keyed P k) (ht : P.underlying t = some (.map k e)) (he : P.underlying e = some (.int .i64)) (hz : (zeroValue e).run P w = .ok (.int .i64 0) w) (b n : Nat) (D : DataW H)
    (hm : a.eval m = .map (some b)) (hown : w.ownsMap P k (plainElem P e) b n D) (key : Value) (kl : Lit) (hx : a.eval x = key) (hkey : keyOf P k key = some kl) (c : Int) (hat : D.atKey kl (.lit (.int .i64 0)) = .lit (.int .i64 c))
    (hK : wpList P ops Q rest (a.put o.dst (.int .i64 c)) w) :
    wpList P ops Q (o :: rest) a w := by
  refine wpList_plain hg fun K' hK' => ?_
  obtain ⟨v, ps, hrun, hv⟩ := hown.lookup K ht hz (plainElem_int (H := H) he (a := 0) (by decide)) hkey
  obtain ⟨s, rfl, hs, _⟩ := plainElem_int_inv he hv
  rw [hat] at hs
  have hcs : c = s := by simpa using (Prod.mk.inj hs).1
  subst hcs
  unfold Oper.wp
  simp [execOp, hop, hm, hx, hrun, Result.andThen]
  exact hK' _ _ hK
theorem numKeyed : Keyed Try.prog 3 := int_keyed Try.underlying3
theorem zeroNumG (w : World) : (zeroValue 3).run Try.prog w = .ok (.int .i64 0) w := by kernel_rfl
/-- The map whose block is 'b' holds at each number how many there are of it. -/
def CountIs (w : World) (b n : Nat) (f : Int → Int) : Prop :=
  ∃ D : DataW Unit, w.ownsMap Try.prog 3 (plainElem Try.prog 3) b n D ∧ ∀ k, (Lit.int .i64 k).wf = true → D.atKey (.int .i64 k) (.lit (.int .i64 0)) = .lit (.int .i64 (f k))
theorem CountIs.below {w w' : World} {b n : Nat} {f : Int → Int} (h : CountIs w b n f) (hb : Below w.heap.size w w') : CountIs w' b n f := by
  obtain ⟨D, h1, h2⟩ := h
  exact ⟨D, h1.kept (row := none) ⟨hb.os, hb.tape, hb.output, hb.size, fun k hk _ => hb.block k hk⟩ (by simp), h2⟩
theorem CountIs.put {w w' : World} {b n : Nat} {f g : Int → Int} {D : DataW Unit} {p : Int} (h1 : w.ownsMap Try.prog 3 (plainElem Try.prog 3) b n D) (h2 : ∀ k, (Lit.int .i64 k).wf = true → D.atKey (.int .i64 k) (.lit (.int .i64 0)) = .lit (.int .i64 (f k)))
    (hp : (Lit.int .i64 p).wf = true) (ho : w'.ownsMap Try.prog 3 (plainElem Try.prog 3) b (n + 1) (D.put (.int .i64 p) (.lit (.int .i64 (g p))))) (hg : ∀ k, k ≠ p → g k = f k) : CountIs w' b (n + 1) g := by
  refine ⟨_, ho, fun q hq => ?_⟩
  by_cases e : q = p
  · subst e
    rw [Go.Maps.atKey_put_same h1.isMap (numKeyed.key (keyOf_int_mk Try.underlying3 hq))]
  · rw [Go.Maps.atKey_put_other (fun h => e (by injection h)), h2 q hq, hg q e]
theorem count_made (w : World) : CountIs (w.alloc (.map #[] 0)) w.heap.size 0 (fun _ => 0) :=
  ⟨.map [], World.ownsMap_made w Try.prog 3 (plainElem Try.prog 3), fun p _ => by simp [DataW.atKey]⟩
theorem CountIs.look {w : World} {b n : Nat} {f : Int → Int} (h : CountIs w b n f) {k : Int} (hk : (Lit.int .i64 k).wf = true) : (Instr.lookup 33 (.map (some b)) (.int .i64 k) false).run Try.prog w = .ok (.int .i64 (f k)) w := by
  obtain ⟨D, hown, hat⟩ := h
  obtain ⟨c, hrun, hat', _⟩ := hown.lookup_int numKeyed Try.underlying33 Try.underlying3 (zeroNumG w) (keyOf_int_mk Try.underlying3 hk)
  rw [hat k hk] at hat'
  have e : f k = c := by simpa using hat'
  rw [hrun, e]
theorem CountIs.drewN {w : World} {b n : Nat} {f : Int → Int} (h : CountIs w b n f) (N : Nat) : CountIs (w.drewN N) b n f := h
end Go.Proofs.Ytkifihcficobnab
