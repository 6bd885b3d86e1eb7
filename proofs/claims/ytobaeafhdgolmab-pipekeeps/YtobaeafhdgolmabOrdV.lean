/- A region that draws its order, walked by what each operation yields. -/
import Derived.Test.YtobaeafhdgolmabOrdInv
namespace Go.Gs
open Go.RowKit
set_option linter.unusedVariables false

def updV (L : Nat → Bool) (i : Nat) : Nat → Bool := fun j => if j = i then true else L j
theorem ev_neV {a : Act} {d s : Nat} {v : Value} (h : s ≠ d) : (a.put (some d) v).eval (.tmp s) = a.eval (.tmp s) := by
  simp only [Act.put, Act.eval]
  rw [Array.getD_eq_getD_getElem?, Array.getD_eq_getD_getElem?, Array.getElem?_setIfInBounds_ne (Ne.symm h)]
theorem ev_eqV {a : Act} {d : Nat} {v : Value} (h : d < a.tmps.size) : (a.put (some d) v).eval (.tmp d) = v := by
  simp only [Act.put, Act.eval]
  rw [Array.getD_eq_getD_getElem?, Array.getElem?_setIfInBounds_self_of_lt h]
  rfl
/-- What stands when the operations of L are done: operation i yields into slot f + i. -/
structure OV (f n : Nat) (V : Nat → Value → World → Prop) (a0 : Act) (W0 : World) (L : Nat → Bool) (a : Act) (W : World) : Prop where
  sz : a.tmps.size = a0.tmps.size
  df : a.defers = a0.defers
  be : Below W0.heap.size W0 W
  vs : ∀ i, i < n → L i = true → V i (a.eval (.tmp (f + i))) W
  fr : ∀ s, s < f ∨ f + n ≤ s → a.tmps[s]? = a0.tmps[s]?
theorem OV.put {f n : Nat} {V : Nat → Value → World → Prop} {a0 : Act} {W0 : World} {L : Nat → Bool} {a : Act} {W W' : World} {v : Value} {i : Nat} (hV : ∀ j x A B, V j x A → Below A.heap.size A B → V j x B) (h : OV f n V a0 W0 L a W) (hi : i < n) (hs : f + n ≤ a0.tmps.size) (hb : Below W.heap.size W W') (hv : V i v W') :
    OV f n V a0 W0 (updV L i) (a.put (some (f + i)) v) W' := by
  refine ⟨?_, ?_, h.be.trans (hb.mono h.be.size), ?_, ?_⟩
  · simp [Act.put, h.sz]
  · exact h.df
  · intro j hj hL
    by_cases e : j = i
    · subst e
      rw [ev_eqV (by rw [h.sz]; omega)]
      exact hv
    · rw [ev_neV (by omega)]
      have : L j = true := by simpa [updV, e] using hL
      exact hV _ _ _ _ (h.vs j hj this) hb
  · intro s hs'
    have : (a.put (some (f + i)) v).tmps[s]? = a.tmps[s]? := by
      simp only [Act.put]
      rw [Array.getElem?_setIfInBounds_ne (by omega)]
    rw [this]
    exact h.fr s hs'
theorem OV.start {f n : Nat} {V : Nat → Value → World → Prop} (a0 : Act) (W0 : World) : OV f n V a0 W0 (fun _ => false) a0 { W0 with drawn := W0.drawn + 1 } :=
  ⟨rfl, rfl, (Below.refl _ _).drew, (fun i _ h => by cases h), (fun s _ => rfl)⟩
theorem OV.old {f n : Nat} {V : Nat → Value → World → Prop} {a0 : Act} {W0 : World} {L : Nat → Bool} {a : Act} {W : World} (h : OV f n V a0 W0 L a W) {s : Nat} (hs : s < f ∨ f + n ≤ s) : a.eval (.tmp s) = a0.eval (.tmp s) := by
  simp only [Act.eval]
  rw [Array.getD_eq_getD_getElem?, Array.getD_eq_getD_getElem?, h.fr s hs]
theorem fold_put (f : Nat) (g : Nat → Value) (a0 : Act) : ∀ m, f + m ≤ a0.tmps.size → ((List.range m).foldl (fun b i => b.put (some (f + i)) (g i)) a0).defers = a0.defers ∧ ((List.range m).foldl (fun b i => b.put (some (f + i)) (g i)) a0).tmps.size = a0.tmps.size ∧
    ∀ s : Nat, ((List.range m).foldl (fun b i => b.put (some (f + i)) (g i)) a0).tmps[s]? = if f ≤ s ∧ s < f + m then some (g (s - f)) else a0.tmps[s]?
  | 0, _ => ⟨rfl, rfl, fun s => by rw [if_neg (by omega)]; rfl⟩
  | m + 1, hm => by
    obtain ⟨h1, h2, h3⟩ := fold_put f g a0 m (by omega)
    rw [List.range_succ, List.foldl_append]
    simp only [List.foldl_cons, List.foldl_nil]
    generalize (List.range m).foldl (fun b i => b.put (some (f + i)) (g i)) a0 = b at *
    refine ⟨h1, by simp [Act.put, h2], fun s => ?_⟩
    simp only [Act.put]
    by_cases e : s = f + m
    · subst e
      rw [Array.getElem?_setIfInBounds_self_of_lt (by omega), if_pos (by omega)]
      congr 2
      omega
    · rw [Array.getElem?_setIfInBounds_ne (by omega), h3 s]
      by_cases e2 : f ≤ s ∧ s < f + m
      · rw [if_pos e2, if_pos (by omega)]
      · rw [if_neg e2, if_neg (by omega)]
theorem OV.form {f n : Nat} {V : Nat → Value → World → Prop} {a0 : Act} {W0 : World} {L : Nat → Bool} {a : Act} {W : World} (h : OV f n V a0 W0 L a W) (hs : f + n ≤ a0.tmps.size) : a = (List.range n).foldl (fun b i => b.put (some (f + i)) (a.eval (.tmp (f + i)))) a0 := by
  obtain ⟨h1, h2, h3⟩ := fold_put f (fun i => a.eval (.tmp (f + i))) a0 n hs
  generalize (List.range n).foldl (fun b i => b.put (some (f + i)) (a.eval (.tmp (f + i)))) a0 = b at *
  have ht : a.tmps = b.tmps := by
    apply Array.ext_getElem?
    intro s
    rw [h3 s]
    by_cases e : f ≤ s ∧ s < f + n
    · rw [if_pos e]
      have hlt : s < a.tmps.size := by rw [h.sz]; omega
      rw [Array.getElem?_eq_getElem hlt]
      simp only [Act.eval]
      rw [show f + (s - f) = s by omega, Array.getD_eq_getD_getElem?, Array.getElem?_eq_getElem hlt]
      rfl
    · rw [if_neg e]
      exact h.fr s (by omega)
  have hd : a.defers = b.defers := by rw [h1, h.df]
  obtain ⟨t1, d1⟩ := a
  obtain ⟨t2, d2⟩ := b
  simp only at ht hd
  subst ht hd
  rfl
theorem wantedV {o : Oper} {ops : Array Oper} {a : Act} {j s : Nat} {b c : Bool} (hg : o.guard = some (j, b)) (hd : ((ops[j]?).bind (·.dst)) = some s) (hs : s < a.tmps.size) (hv : a.eval (.tmp s) = .bool c) : Region.wanted o (yielded ops a.tmps) = (c == b) := by
  have h1 : a.tmps[s]? = some (.bool c) := by
    simp only [Act.eval] at hv
    rw [Array.getD_eq_getD_getElem?, Array.getElem?_eq_getElem hs] at hv
    rw [Array.getElem?_eq_getElem hs]
    exact congrArg some hv
  unfold Region.wanted
  rw [hg]
  simp only
  unfold yielded
  rw [hd]
  simp only [Option.bind_some, h1]
  cases b <;> cases c <;> rfl
end Go.Gs
