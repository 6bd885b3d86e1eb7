/- From the reading of a slice of slices of bytes to one that can be read, and how many bytes each has. -/
import Derived.Test.YtkifihcficobnaaGreatDoorOpenF
import Derived.Test.YtkifihcficobnaaGreatDoorOfF
import Derived.Deep.Slices
namespace Go.Proofs.YtkifihcficobnaaGreatDoor
open Go.RowKit Go.Gs Go.ChangeShapes Go.WideShapes Go.ChangeAt
set_option linter.unusedVariables false
variable {P : Program} {H : Type} {enc : TypeId × Value → H} {W : World} {base : Nat} {held : Bool} {fuel : Nat} {t e q : TypeId} {a : Option Addr} {len cap : Nat} {x : DataW H × List MemPlace}

theorem weights_all_mem {e : TypeId} {d : DataW H} : ∀ {l : List (DataW H)}, d ∈ l → ∀ n ∈ d.weights P e, n ∈ DataW.weightsAll P e l := by
  intro l
  induction l with
  | nil => intro h; cases h
  | cons c l ih =>
    intro h n hn
    rw [DataW.weightsAll, List.mem_append]
    rcases List.mem_cons.1 h with rfl | h
    · exact .inl hn
    · exact .inr (ih h n hn)
/-- How many elements a slice within a slice has. -/
theorem few_within {ts : List TypeId} {ds : List (DataW H)} {elems spare el sp : List (DataW H)} {j : Nat} (hsz : (DataW.weightsEach P ts ds).all (· ≤ reachBytes) = true) (hts : ts[j]? = some t) (hds : ds[j]? = some (.slice elems spare)) (ht : P.underlying t = some (.slice e)) (he : P.underlying e = some (.slice q)) (hb : P.bytesOf q = 1)
    (hd : (.slice el sp : DataW H) ∈ elems) : el.length ≤ 1000000000000000 := by
  have h1 : (el.length + sp.length) * P.bytesOf q ∈ DataW.weights P e (.slice el sp : DataW H) := by simp [DataW.weights, he]
  have h2 := weights_all_mem (P := P) hd _ h1
  have h3 : (el.length + sp.length) * P.bytesOf q ∈ DataW.weights P t (.slice elems spare : DataW H) := by
    simp only [DataW.weights, ht]
    exact List.mem_cons_of_mem _ (List.mem_append_left _ h2)
  have h4 := List.all_eq_true.1 hsz _ (DataW.weights_mem_each hts hds _ h3)
  have h5 : (el.length + sp.length) * P.bytesOf q ≤ reachBytes := by simpa using h4
  rw [hb] at h5
  unfold reachBytes at h5
  omega

theorem lists_of_open (ht : P.underlying t = some (.slice e)) (he : P.underlying e = some (.slice q)) (hq : P.underlying q = some (.int .u8)) (ce : P.cellsOf e = 1) (cq : P.cellsOf q = 1)
    (hf : DataW.trod enc P W base (fun _ => true) held fuel t [.slice a len cap] = some x) :
    ∃ bss : List (List UInt8), bss.length = len ∧ RList W (.slice a len cap) U bss ∧ (len = 0 ∨ ∃ elems spare, x.1 = .slice elems spare ∧ elems.length = len ∧ ∀ (j : Nat) (p : List UInt8), bss[j]? = some p → p.length = 0 ∨ ∃ el sp, (.slice el sp : DataW H) ∈ elems ∧ el.length = p.length) := by
  rcases Deep.open_slice1 ht ce hf with ⟨hcs, _⟩ | ⟨ad, l, c, m, n, V, D, Pl, hcs, hb, hl, hm, hmm, hx, hall⟩
  · simp at hcs
    obtain ⟨rfl, rfl, rfl⟩ := hcs
    exact ⟨[], rfl, ⟨[], ⟨rfl, none, 0, rfl, Nat.le_refl _, by simp, fun h => absurd rfl h⟩, fun j p hj => by simp at hj⟩, .inl rfl⟩
  · simp at hcs
    obtain ⟨rfl, rfl, rfl⟩ := hcs
    simp only [if_true] at hmm
    subst hmm
    have each : ∀ i, i < len → ∃ y : List UInt8, Reads W (V i) y.length (y.map U) ∧ (y.length = 0 ∨ ∃ el sp, D i = .slice el sp ∧ el.length = y.length) := by
      intro i hi
      have hi' := (hall i (by omega)).2
      obtain ⟨a', l', c', hv⟩ : ∃ a' l' c', V i = .slice a' l' c' := by
        rcases open_ints he hq cq hi' with ⟨hcs, _⟩ | ⟨ad', l', c', zs, hcs, _⟩
        · exact ⟨none, 0, 0, by simpa using hcs⟩
        · exact ⟨some ad', l', c', by simpa using hcs⟩
      rw [hv] at hi' ⊢
      obtain ⟨bs, hbl, hr⟩ := bytes_of_open he hq cq hi'
      refine ⟨bs, by rw [← hbl] at hr ⊢; exact hr, ?_⟩
      rcases bytes_datum he hq cq hi' with h | ⟨el, sp, h1, h2⟩
      · exact .inl (by omega)
      · exact .inr ⟨el, sp, h1, by omega⟩
    obtain ⟨Y, hY⟩ := Deep.choose_lt each
    have hget : ∀ (j : Nat) (p : List UInt8), ((List.range len).map Y)[j]? = some p → j < len ∧ p = Y j := by
      intro j p hj
      rw [List.getElem?_map] at hj
      cases hr : (List.range len)[j]? with
      | none => rw [hr] at hj; cases hj
      | some i =>
        rw [hr] at hj
        have h1 := (List.getElem?_eq_some_iff.1 hr).1
        rw [List.length_range] at h1
        rw [List.getElem?_range h1] at hr
        injection hr with hr
        simp only [Option.map_some, Option.some.injEq] at hj
        exact ⟨h1, by rw [← hj, ← hr]⟩
    refine ⟨(List.range len).map Y, by simp, ⟨(List.range len).map V, ⟨by simp, some ad, m, by simp, by simpa using hl, hm, fun h0 => ?_⟩, fun j p hj => ?_⟩, .inr ⟨_, _, by rw [hx], by simp, fun j p hj => ?_⟩⟩
    · have h0' : 0 < len := by
        rcases Nat.eq_zero_or_pos len with h | h
        · subst h; simp at h0
        · exact h
      obtain ⟨b, off, spot⟩ := ad
      have h00 := (hall 0 (by omega)).1
      have hspot : spot = none := by simpa [Addr.add] using World.cell?_spot h00
      subst hspot
      refine ⟨b, off, rfl, fun j u hu => ?_⟩
      rw [List.getElem?_map] at hu
      cases hr : (List.range len)[j]? with
      | none => rw [hr] at hu; cases hu
      | some i =>
        rw [hr] at hu
        have h1 := (List.getElem?_eq_some_iff.1 hr).1
        rw [List.length_range] at h1
        rw [List.getElem?_range h1] at hr
        injection hr with hr
        subst hr
        simp only [Option.map_some, Option.some.injEq] at hu
        have := (hall j (by omega)).1
        rw [Gs.add_plain] at this
        rw [this, hu]
    · obtain ⟨h1, h2⟩ := hget j p hj
      subst h2
      exact ⟨V j, by rw [List.getElem?_map, List.getElem?_range h1]; rfl, (hY j h1).1⟩
    · obtain ⟨h1, h2⟩ := hget j p hj
      subst h2
      rcases (hY j h1).2 with h | ⟨el, sp, h3, h4⟩
      · exact .inl h
      · exact .inr ⟨el, sp, by rw [← h3]; exact List.mem_map.2 ⟨j, List.mem_range.2 h1, rfl⟩, h4⟩
end Go.Proofs.YtkifihcficobnaaGreatDoor
