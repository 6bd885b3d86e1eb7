/- A map from ports to truths that a call makes: which ports are taken. -/
import Derived.Test.YtkifihcficobnabGreatDoorGraphB
import Derived.Maps.OwnOps
namespace Go.Proofs.YtkifihcficobnabGreatDoor
open Go.RowKit Go.Gs Go.Maps
set_option linter.unusedVariables false

theorem bool_inv {H : Type} {P : Program} {e : TypeId} (he : P.underlying e = some .bool) {v : Value} {z : DataW H × List MemPlace} (h : plainElem P e v = some z) : ∃ x, v = .bool x ∧ z = (.lit (.bool x), []) := by
  cases v <;> simp_all [plainElem]
theorem wpList_lookup_bool {H : Type} {P : Program} (w : World) {ops : Array Oper} {rest : List Oper} {o : Oper} {a : Act} {Q : Exit → Act → World → Prop}
    (hg : o.guard = none) (m x : Operand) (t : TypeId) (hop : o.op = Op.lookup t m x false)
    (k e : TypeId) (K : Keyed P k) (ht : P.underlying t = some (.map k e)) (he : P.underlying e = some .bool) (hz : (zeroValue e).run P w = .ok (.bool false) w) (b n : Nat) (D : DataW H)
    (hm : a.eval m = .map (some b)) (hown : w.ownsMap P k (plainElem P e) b n D) (key : Value) (kl : Lit) (hx : a.eval x = key) (hkey : keyOf P k key = some kl) (c : Bool) (hat : D.atKey kl (.lit (.bool false)) = .lit (.bool c))
    (hK : wpList P ops Q rest (a.put o.dst (.bool c)) w) :
    wpList P ops Q (o :: rest) a w := by
  refine wpList_plain hg fun K' hK' => ?_
  obtain ⟨v, ps, hrun, hv⟩ := hown.lookup K ht hz (plainElem_bool (H := H) he false) hkey
  obtain ⟨s, rfl, hs⟩ := bool_inv he hv
  rw [hat] at hs
  have hcs : c = s := by simpa using (Prod.mk.inj hs).1
  subst hcs
  unfold Oper.wp
  simp [execOp, hop, hm, hx, hrun, Result.andThen]
  exact hK' _ _ hK

/-- The map whose block is 'b' holds 'true' at just the ports of 't'. -/
def TakenIs (w : World) (R : Value → Option (DataW Unit × List MemPlace)) (b n : Nat) (t : List (Int × Int)) : Prop :=
  ∃ D : DataW Unit, w.ownsMap Tryz.prog 98 R b n D ∧ (∀ p, WfP p → D.atKey (portK p) (.lit (.bool false)) = .lit (.bool (decide (p ∈ t)))) ∧ ∀ p ∈ t, WfP p
theorem TakenIs.below {w w' : World} {R : Value → Option (DataW Unit × List MemPlace)} {b n : Nat} {t : List (Int × Int)} (h : TakenIs w R b n t) (hb : Below w.heap.size w w') : TakenIs w' R b n t := by
  obtain ⟨D, h1, h2⟩ := h
  exact ⟨D, h1.kept (grown_none hb) (by simp), h2⟩
theorem TakenIs.put {w w' W : World} {R : Value → Option (DataW Unit × List MemPlace)} {b n : Nat} {t : List (Int × Int)} {D : DataW Unit} {p : Int × Int} (h1 : w.ownsMap Tryz.prog 98 R b n D) (h2 : ∀ p, WfP p → D.atKey (portK p) (.lit (.bool false)) = .lit (.bool (decide (p ∈ t)))) (h4 : ∀ p ∈ t, WfP p)
    (hp : WfP p) (ho : w'.ownsMap Tryz.prog 98 R b (n + 1) (D.put (portK p) (.lit (.bool true)))) : TakenIs w' R b (n + 1) (t ++ [p]) := by
  refine ⟨_, ho, fun q hq => ?_, ?_⟩
  · by_cases e : q = p
    · subst e
      rw [Go.Maps.atKey_put_same h1.isMap (portK_key w q hq)]
      simp
    · rw [Go.Maps.atKey_put_other (fun h => e (portK_inj w hq hp h)), h2 q hq]
      simp [e]
  · intro q hq
    rcases List.mem_append.1 hq with hq | hq
    · exact h4 q hq
    · rw [List.mem_singleton.1 hq]; exact hp
theorem taken_made (w : World) (o : Obj) (R : Value → Option (DataW Unit × List MemPlace)) : TakenIs ((w.alloc o).alloc (.map #[] 0)) R (w.heap.size + 1) 0 [] := by
  refine ⟨.map [], ?_, fun p _ => by simp [DataW.atKey], by simp⟩
  have := World.ownsMap_made (w.alloc o) Tryz.prog 98 R
  simpa using this
theorem zeroBoolG (w : World) : (zeroValue 4).run Tryz.prog w = .ok (.bool false) w := by kernel_rfl
end Go.Proofs.YtkifihcficobnabGreatDoor
