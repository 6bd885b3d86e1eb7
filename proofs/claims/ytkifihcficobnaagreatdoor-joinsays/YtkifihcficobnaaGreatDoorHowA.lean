/- What the reference's HowFor does. What the reference's HowFor does: the walk. -/
import Derived.Test.YtkifihcficobnaaGreatDoorPlainF
import Derived.Test.YtkifihcficobnaaGreatDoorRefCheck2
import Derived.Test.YtkifihcficobnaaGreatDoorRefCmd1
namespace Go.Proofs.YtkifihcficobnaaGreatDoor
open Go.RowKit Go.Gs Go.Maps
set_option linter.unusedVariables false
set_option linter.unusedSimpArgs false

def v1 (L : Nat → Bool) (k : Int) : Int := if k = 6 then (if L 1 then 2 else 0) else if k = 8 then (if L 2 then 3 else 0) else if k = 7 then (if L 3 then 4 else 0) else if k = 9 then (if L 4 then 4 else 0) else if k = 10 then (if L 5 then 4 else 0) else 0
def c1 (L : Nat → Bool) : Nat := (L 1).toNat + (L 2).toNat + (L 3).toNat + (L 4).toNat + (L 5).toNat
def v2 (L : Nat → Bool) (x : Bool) : Int := if x = true ∧ L 11 = true then 1 else 0
def allL : Nat → Bool := fun _ => true
def upd (L : Nat → Bool) (i : Nat) : Nat → Bool := fun j => if j = i then true else L j
theorem ev_ne {a : Act} {d s : Nat} {v : Value} (h : s ≠ d) : (a.put (some d) v).eval (.tmp s) = a.eval (.tmp s) := by
  simp only [Act.put, Act.eval]
  rw [Array.getD_eq_getD_getElem?, Array.getD_eq_getD_getElem?, Array.getElem?_setIfInBounds_ne (Ne.symm h)]
theorem ev_eq {a : Act} {d : Nat} {v : Value} (h : d < a.tmps.size) : (a.put (some d) v).eval (.tmp d) = v := by
  simp only [Act.put, Act.eval]
  rw [Array.getD_eq_getD_getElem?, Array.getElem?_setIfInBounds_self_of_lt h]
  rfl
theorem ev_const {a : Act} {v : Value} : a.eval (.const v) = v := rfl
theorem ev_none {a : Act} {s : Nat} {v : Value} : (a.put none v).eval (.tmp s) = a.eval (.tmp s) := rfl
theorem sz_put {a : Act} {d : Option Nat} {v : Value} : (a.put d v).tmps.size = a.tmps.size := by cases d <;> simp [Act.put]
theorem df_put {a : Act} {d : Option Nat} {v : Value} : (a.put d v).defers = a.defers := by cases d <;> rfl
theorem isMap_owns {w : World} {k : TypeId} {R : Value → Option (DataW Unit × List MemPlace)} {b n : Nat} {D : DataW Unit} (h : w.ownsMap Tryz.prog k R b n D) : IsMap D := by
  obtain ⟨es, clock, _, _, _, rfl⟩ := h
  exact ⟨_, rfl⟩
theorem map_below {w w' : World} {k : TypeId} {R : Value → Option (DataW Unit × List MemPlace)} {b n : Nat} {D : DataW Unit} (h : w.ownsMap Tryz.prog k R b n D) (hb : Below w.heap.size w w') : w'.ownsMap Tryz.prog k R b n D := by
  have hlt := h.lt
  obtain ⟨es, clock, h1, h2⟩ := h
  exact ⟨es, clock, (hb.block b hlt).trans h1, h2⟩
theorem elemInt (z : Int) (hz : (Lit.int .i64 z).wf = true) : plainElem (H := Unit) Tryz.prog 3 (.int .i64 z) = some (.lit (.int .i64 z), []) := plainElem_int Tryz.underlying3 hz
theorem zeroInt (w : World) : (zeroValue 3).run Tryz.prog w = .ok (.int .i64 0) w := by kernel_rfl
theorem keyBool : Keyed Tryz.prog 4 := bool_keyed Tryz.underlying4

structure HF (w : World) (c : Cmd) (L : Nat → Bool) (a : Act) (W : World) : Prop where
  sz : a.tmps.size = 14
  df : a.defers = []
  e1 : a.eval (.tmp 1) = .pointer (some ⟨w.heap.size, 0, none⟩)
  be : Below (w.heap.size + 1) (w.alloc (.cells #[.int .i64 c.kind, .string ⟨c.word.toArray⟩, .int .i64 c.n] 23)) W
  m1 : L 0 = true → ∃ b D, a.eval (.tmp 3) = .map (some b) ∧ w.heap.size + 1 ≤ b ∧ W.ownsMap Tryz.prog 3 (plainElem (H := Unit) Tryz.prog 3) b (c1 L) D ∧ ∀ k, D.atKey (.int .i64 k) (.lit (.int .i64 0)) = .lit (.int .i64 (v1 L k))
  m2 : L 10 = true → ∃ b D, a.eval (.tmp 8) = .map (some b) ∧ w.heap.size + 1 ≤ b ∧ W.ownsMap Tryz.prog 4 (plainElem (H := Unit) Tryz.prog 3) b (L 11).toNat D ∧ ∀ x, D.atKey (.bool x) (.lit (.int .i64 0)) = .lit (.int .i64 (v2 L x))
  ne : L 0 = true → L 10 = true → a.eval (.tmp 3) ≠ a.eval (.tmp 8)
  n0 : L 0 = false → v1 L = fun _ => 0
  k0 : L 0 = false → c1 L = 0
  n10 : L 10 = false → L 11 = false
  k6 : L 6 = true → L 1 = true ∧ L 2 = true ∧ L 3 = true ∧ L 4 = true ∧ L 5 = true
  k12 : L 12 = true → L 11 = true
  s4 : L 6 = true → L 0 = true ∧ a.eval (.tmp 4) = a.eval (.tmp 3)
  s5 : L 7 = true → a.eval (.tmp 5) = .pointer (some ⟨w.heap.size, 0, none⟩)
  s6 : L 8 = true → a.eval (.tmp 6) = .int .i64 c.kind
  s7 : L 9 = true → a.eval (.tmp 7) = .int .i64 (v1 allL c.kind)
  s9 : L 12 = true → L 10 = true ∧ a.eval (.tmp 9) = a.eval (.tmp 8)
  s10 : L 13 = true → a.eval (.tmp 10) = c.v
  s11 : L 14 = true → a.eval (.tmp 11) = .bool (isEach c.kind)
  s12 : L 15 = true → a.eval (.tmp 12) = .int .i64 (v2 allL (isEach c.kind))
  s13 : L 16 = true → a.eval (.tmp 13) = .int .i64 (v1 allL c.kind + v2 allL (isEach c.kind))
  s2 : L 17 = true → a.eval (.tmp 2) = .int .i64 (v1 allL c.kind + v2 allL (isEach c.kind))
theorem hf0 {w W W' : World} {c : Cmd} {L : Nat → Bool} {a : Act} {v : Value} (h : HF w c L a W) (hL : L 0 = false) (hv : v = .map (some W.heap.size)) (hW : W' = W.alloc (.map #[] 0)) : HF w c (upd L 0) (a.put (some 3) v) W' := by
  subst hv hW
  have u : ∀ j, j ≠ 0 → upd L 0 j = L j := fun j hj => if_neg hj
  have ui : upd L 0 0 = true := if_pos rfl
  have hv1 : v1 (upd L 0) = v1 L := by funext k; simp [v1, upd]
  have hc1 : c1 (upd L 0) = c1 L := by simp [c1, upd]
  have hv2 : v2 (upd L 0) = v2 L := by funext x; simp [v2, upd]
  have hsz : w.heap.size + 1 ≤ W.heap.size := by have := h.be.size; simpa using this
  refine { sz := by rw [sz_put]; exact h.sz, df := by rw [df_put]; exact h.df, e1 := (ev_ne (by decide)).trans h.e1, be := h.be.alloc hsz _, m1 := ?_, m2 := ?_, ne := ?_, n0 := ?_, k0 := ?_, n10 := ?_, k6 := ?_, k12 := ?_, s4 := ?_, s5 := ?_, s6 := ?_, s7 := ?_, s9 := ?_, s10 := ?_, s11 := ?_, s12 := ?_, s13 := ?_, s2 := ?_ }
  · intro _
    refine ⟨W.heap.size, .map [], ev_eq (by rw [h.sz]; decide), hsz, ?_, fun k => ?_⟩
    · rw [hc1, h.k0 hL]; exact World.ownsMap_made W _ _ _
    · rw [hv1, h.n0 hL]; rfl
  · intro h10
    rw [u 10 (by decide)] at h10
    obtain ⟨b2, D2, h1, h2, h3, h4⟩ := h.m2 h10
    exact ⟨b2, D2, (ev_ne (by decide)).trans h1, h2, by rw [u 11 (by decide)]; exact (h3.alloc _), fun x => by rw [hv2]; exact h4 x⟩
  · intro _ h10
    rw [u 10 (by decide)] at h10
    obtain ⟨b2, D2, h1, h2, h3, h4⟩ := h.m2 h10
    rw [ev_eq (by rw [h.sz]; decide), (ev_ne (by decide)), h1]
    intro e
    injection e with e
    injection e with e
    have := h3.lt
    omega
  · intro e; rw [ui] at e; cases e
  · intro e; rw [ui] at e; cases e
  · intro e; rw [u 10 (by decide)] at e; rw [u 11 (by decide)]; exact h.n10 e
  · intro e; rw [u 6 (by decide)] at e; obtain ⟨q1, q2, q3, q4, q5⟩ := h.k6 e; simp [upd, q1, q2, q3, q4, q5]
  · intro e; rw [u 12 (by decide)] at e; have q := h.k12 e; simp [upd, q]
  · intro e; rw [u 6 (by decide)] at e; have := (h.s4 e).1; rw [hL] at this; cases this
  · intro e; rw [u 7 (by decide)] at e; rw [ev_ne (by decide)]; exact h.s5 e
  · intro e; rw [u 8 (by decide)] at e; rw [ev_ne (by decide)]; exact h.s6 e
  · intro e; rw [u 9 (by decide)] at e; rw [ev_ne (by decide)]; exact h.s7 e
  · intro e; rw [u 12 (by decide)] at e; exact ⟨by rw [u 10 (by decide)]; exact (h.s9 e).1, by rw [ev_ne (by decide), ev_ne (by decide)]; exact (h.s9 e).2⟩
  · intro e; rw [u 13 (by decide)] at e; rw [ev_ne (by decide)]; exact h.s10 e
  · intro e; rw [u 14 (by decide)] at e; rw [ev_ne (by decide)]; exact h.s11 e
  · intro e; rw [u 15 (by decide)] at e; rw [ev_ne (by decide)]; exact h.s12 e
  · intro e; rw [u 16 (by decide)] at e; rw [ev_ne (by decide)]; exact h.s13 e
  · intro e; rw [u 17 (by decide)] at e; rw [ev_ne (by decide)]; exact h.s2 e

theorem hf1 {w W W' : World} {c : Cmd} {L : Nat → Bool} {a : Act} {v : Value} (h : HF w c L a W) (hL : L 1 = false) (h0 : L 0 = true) (b : Nat) (D : DataW Unit) (he : a.eval (.tmp 3) = .map (some b)) (hb : w.heap.size + 1 ≤ b) (hD : IsMap D) (hk : ∀ k, D.atKey (.int .i64 k) (.lit (.int .i64 0)) = .lit (.int .i64 (v1 L k))) (ho : W'.ownsMap Tryz.prog 3 (plainElem (H := Unit) Tryz.prog 3) b (c1 L + 1) (D.put (.int .i64 6) (.lit (.int .i64 2)))) (hg : W.grownBy W' (some b)) : HF w c (upd L 1) (a.put none undef) W' := by
  have u : ∀ j, j ≠ 1 → upd L 1 j = L j := fun j hj => if_neg hj
  have ui : upd L 1 1 = true := if_pos rfl
  have hv2 : v2 (upd L 1) = v2 L := by funext x; simp [v2, upd]
  have hsz : w.heap.size + 1 ≤ W.heap.size := by have := h.be.size; simpa using this
  refine { sz := by rw [sz_put]; exact h.sz, df := by rw [df_put]; exact h.df, e1 := (ev_none (a := a) (s := 1) (v := undef)).trans h.e1, be := h.be.grown hg hsz (fun k hk => by injection hk with hk; omega), m1 := ?_, m2 := ?_, ne := ?_, n0 := ?_, k0 := ?_, n10 := ?_, k6 := ?_, k12 := ?_, s4 := ?_, s5 := ?_, s6 := ?_, s7 := ?_, s9 := ?_, s10 := ?_, s11 := ?_, s12 := ?_, s13 := ?_, s2 := ?_ }
  · intro _
    refine ⟨b, D.put (.int .i64 6) (.lit (.int .i64 2)), (ev_none (a := a) (s := 3) (v := undef)).trans he, hb, ?_, fun k => ?_⟩
    · have : c1 (upd L 1) = c1 L + 1 := by simp [c1, upd, hL] <;> omega
      rw [this]; exact ho
    · by_cases hk6 : k = 6
      · subst hk6
        rw [atKey_put_same hD (by trivial)]
        simp [v1, upd]
      · rw [atKey_put_other (by intro e; injection e with _ e; exact hk6 e), hk k]
        have : v1 (upd L 1) k = v1 L k := by simp [v1, upd, hk6]
        rw [this]
  · intro h10
    rw [u 10 (by decide)] at h10
    obtain ⟨b2, D2, h1, h2, h3, h4⟩ := h.m2 h10
    exact ⟨b2, D2, (ev_none (a := a) (s := 8) (v := undef)).trans h1, h2, by rw [u 11 (by decide)]; exact (h3.kept hg (fun e => by injection e with e; exact h.ne h0 h10 (by rw [he, h1, e]))), fun x => by rw [hv2]; exact h4 x⟩
  · intro h0' h10'
    rw [u 0 (by decide)] at h0'
    rw [u 10 (by decide)] at h10'
    rw [(ev_none (a := a) (s := 3) (v := undef)), (ev_none (a := a) (s := 8) (v := undef))]
    exact h.ne h0' h10'
  · intro e; rw [u 0 (by decide), h0] at e; cases e
  · intro e; rw [u 0 (by decide), h0] at e; cases e
  · intro e; rw [u 10 (by decide)] at e; rw [u 11 (by decide)]; exact h.n10 e
  · intro e; rw [u 6 (by decide)] at e; obtain ⟨q1, q2, q3, q4, q5⟩ := h.k6 e; simp [upd, q1, q2, q3, q4, q5]
  · intro e; rw [u 12 (by decide)] at e; have q := h.k12 e; simp [upd, q]
  · intro e; rw [u 6 (by decide)] at e; exact ⟨by rw [u 0 (by decide)]; exact (h.s4 e).1, (h.s4 e).2⟩
  · intro e; rw [u 7 (by decide)] at e; exact h.s5 e
  · intro e; rw [u 8 (by decide)] at e; exact h.s6 e
  · intro e; rw [u 9 (by decide)] at e; exact h.s7 e
  · intro e; rw [u 12 (by decide)] at e; exact ⟨by rw [u 10 (by decide)]; exact (h.s9 e).1, (h.s9 e).2⟩
  · intro e; rw [u 13 (by decide)] at e; exact h.s10 e
  · intro e; rw [u 14 (by decide)] at e; exact h.s11 e
  · intro e; rw [u 15 (by decide)] at e; exact h.s12 e
  · intro e; rw [u 16 (by decide)] at e; exact h.s13 e
  · intro e; rw [u 17 (by decide)] at e; exact h.s2 e

theorem hf2 {w W W' : World} {c : Cmd} {L : Nat → Bool} {a : Act} {v : Value} (h : HF w c L a W) (hL : L 2 = false) (h0 : L 0 = true) (b : Nat) (D : DataW Unit) (he : a.eval (.tmp 3) = .map (some b)) (hb : w.heap.size + 1 ≤ b) (hD : IsMap D) (hk : ∀ k, D.atKey (.int .i64 k) (.lit (.int .i64 0)) = .lit (.int .i64 (v1 L k))) (ho : W'.ownsMap Tryz.prog 3 (plainElem (H := Unit) Tryz.prog 3) b (c1 L + 1) (D.put (.int .i64 8) (.lit (.int .i64 3)))) (hg : W.grownBy W' (some b)) : HF w c (upd L 2) (a.put none undef) W' := by
  have u : ∀ j, j ≠ 2 → upd L 2 j = L j := fun j hj => if_neg hj
  have ui : upd L 2 2 = true := if_pos rfl
  have hv2 : v2 (upd L 2) = v2 L := by funext x; simp [v2, upd]
  have hsz : w.heap.size + 1 ≤ W.heap.size := by have := h.be.size; simpa using this
  refine { sz := by rw [sz_put]; exact h.sz, df := by rw [df_put]; exact h.df, e1 := (ev_none (a := a) (s := 1) (v := undef)).trans h.e1, be := h.be.grown hg hsz (fun k hk => by injection hk with hk; omega), m1 := ?_, m2 := ?_, ne := ?_, n0 := ?_, k0 := ?_, n10 := ?_, k6 := ?_, k12 := ?_, s4 := ?_, s5 := ?_, s6 := ?_, s7 := ?_, s9 := ?_, s10 := ?_, s11 := ?_, s12 := ?_, s13 := ?_, s2 := ?_ }
  · intro _
    refine ⟨b, D.put (.int .i64 8) (.lit (.int .i64 3)), (ev_none (a := a) (s := 3) (v := undef)).trans he, hb, ?_, fun k => ?_⟩
    · have : c1 (upd L 2) = c1 L + 1 := by simp [c1, upd, hL] <;> omega
      rw [this]; exact ho
    · by_cases hk6 : k = 8
      · subst hk6
        rw [atKey_put_same hD (by trivial)]
        simp [v1, upd]
      · rw [atKey_put_other (by intro e; injection e with _ e; exact hk6 e), hk k]
        have : v1 (upd L 2) k = v1 L k := by simp [v1, upd, hk6]
        rw [this]
  · intro h10
    rw [u 10 (by decide)] at h10
    obtain ⟨b2, D2, h1, h2, h3, h4⟩ := h.m2 h10
    exact ⟨b2, D2, (ev_none (a := a) (s := 8) (v := undef)).trans h1, h2, by rw [u 11 (by decide)]; exact (h3.kept hg (fun e => by injection e with e; exact h.ne h0 h10 (by rw [he, h1, e]))), fun x => by rw [hv2]; exact h4 x⟩
  · intro h0' h10'
    rw [u 0 (by decide)] at h0'
    rw [u 10 (by decide)] at h10'
    rw [(ev_none (a := a) (s := 3) (v := undef)), (ev_none (a := a) (s := 8) (v := undef))]
    exact h.ne h0' h10'
  · intro e; rw [u 0 (by decide), h0] at e; cases e
  · intro e; rw [u 0 (by decide), h0] at e; cases e
  · intro e; rw [u 10 (by decide)] at e; rw [u 11 (by decide)]; exact h.n10 e
  · intro e; rw [u 6 (by decide)] at e; obtain ⟨q1, q2, q3, q4, q5⟩ := h.k6 e; simp [upd, q1, q2, q3, q4, q5]
  · intro e; rw [u 12 (by decide)] at e; have q := h.k12 e; simp [upd, q]
  · intro e; rw [u 6 (by decide)] at e; exact ⟨by rw [u 0 (by decide)]; exact (h.s4 e).1, (h.s4 e).2⟩
  · intro e; rw [u 7 (by decide)] at e; exact h.s5 e
  · intro e; rw [u 8 (by decide)] at e; exact h.s6 e
  · intro e; rw [u 9 (by decide)] at e; exact h.s7 e
  · intro e; rw [u 12 (by decide)] at e; exact ⟨by rw [u 10 (by decide)]; exact (h.s9 e).1, (h.s9 e).2⟩
  · intro e; rw [u 13 (by decide)] at e; exact h.s10 e
  · intro e; rw [u 14 (by decide)] at e; exact h.s11 e
  · intro e; rw [u 15 (by decide)] at e; exact h.s12 e
  · intro e; rw [u 16 (by decide)] at e; exact h.s13 e
  · intro e; rw [u 17 (by decide)] at e; exact h.s2 e

theorem hf3 {w W W' : World} {c : Cmd} {L : Nat → Bool} {a : Act} {v : Value} (h : HF w c L a W) (hL : L 3 = false) (h0 : L 0 = true) (b : Nat) (D : DataW Unit) (he : a.eval (.tmp 3) = .map (some b)) (hb : w.heap.size + 1 ≤ b) (hD : IsMap D) (hk : ∀ k, D.atKey (.int .i64 k) (.lit (.int .i64 0)) = .lit (.int .i64 (v1 L k))) (ho : W'.ownsMap Tryz.prog 3 (plainElem (H := Unit) Tryz.prog 3) b (c1 L + 1) (D.put (.int .i64 7) (.lit (.int .i64 4)))) (hg : W.grownBy W' (some b)) : HF w c (upd L 3) (a.put none undef) W' := by
  have u : ∀ j, j ≠ 3 → upd L 3 j = L j := fun j hj => if_neg hj
  have ui : upd L 3 3 = true := if_pos rfl
  have hv2 : v2 (upd L 3) = v2 L := by funext x; simp [v2, upd]
  have hsz : w.heap.size + 1 ≤ W.heap.size := by have := h.be.size; simpa using this
  refine { sz := by rw [sz_put]; exact h.sz, df := by rw [df_put]; exact h.df, e1 := (ev_none (a := a) (s := 1) (v := undef)).trans h.e1, be := h.be.grown hg hsz (fun k hk => by injection hk with hk; omega), m1 := ?_, m2 := ?_, ne := ?_, n0 := ?_, k0 := ?_, n10 := ?_, k6 := ?_, k12 := ?_, s4 := ?_, s5 := ?_, s6 := ?_, s7 := ?_, s9 := ?_, s10 := ?_, s11 := ?_, s12 := ?_, s13 := ?_, s2 := ?_ }
  · intro _
    refine ⟨b, D.put (.int .i64 7) (.lit (.int .i64 4)), (ev_none (a := a) (s := 3) (v := undef)).trans he, hb, ?_, fun k => ?_⟩
    · have : c1 (upd L 3) = c1 L + 1 := by simp [c1, upd, hL] <;> omega
      rw [this]; exact ho
    · by_cases hk6 : k = 7
      · subst hk6
        rw [atKey_put_same hD (by trivial)]
        simp [v1, upd]
      · rw [atKey_put_other (by intro e; injection e with _ e; exact hk6 e), hk k]
        have : v1 (upd L 3) k = v1 L k := by simp [v1, upd, hk6]
        rw [this]
  · intro h10
    rw [u 10 (by decide)] at h10
    obtain ⟨b2, D2, h1, h2, h3, h4⟩ := h.m2 h10
    exact ⟨b2, D2, (ev_none (a := a) (s := 8) (v := undef)).trans h1, h2, by rw [u 11 (by decide)]; exact (h3.kept hg (fun e => by injection e with e; exact h.ne h0 h10 (by rw [he, h1, e]))), fun x => by rw [hv2]; exact h4 x⟩
  · intro h0' h10'
    rw [u 0 (by decide)] at h0'
    rw [u 10 (by decide)] at h10'
    rw [(ev_none (a := a) (s := 3) (v := undef)), (ev_none (a := a) (s := 8) (v := undef))]
    exact h.ne h0' h10'
  · intro e; rw [u 0 (by decide), h0] at e; cases e
  · intro e; rw [u 0 (by decide), h0] at e; cases e
  · intro e; rw [u 10 (by decide)] at e; rw [u 11 (by decide)]; exact h.n10 e
  · intro e; rw [u 6 (by decide)] at e; obtain ⟨q1, q2, q3, q4, q5⟩ := h.k6 e; simp [upd, q1, q2, q3, q4, q5]
  · intro e; rw [u 12 (by decide)] at e; have q := h.k12 e; simp [upd, q]
  · intro e; rw [u 6 (by decide)] at e; exact ⟨by rw [u 0 (by decide)]; exact (h.s4 e).1, (h.s4 e).2⟩
  · intro e; rw [u 7 (by decide)] at e; exact h.s5 e
  · intro e; rw [u 8 (by decide)] at e; exact h.s6 e
  · intro e; rw [u 9 (by decide)] at e; exact h.s7 e
  · intro e; rw [u 12 (by decide)] at e; exact ⟨by rw [u 10 (by decide)]; exact (h.s9 e).1, (h.s9 e).2⟩
  · intro e; rw [u 13 (by decide)] at e; exact h.s10 e
  · intro e; rw [u 14 (by decide)] at e; exact h.s11 e
  · intro e; rw [u 15 (by decide)] at e; exact h.s12 e
  · intro e; rw [u 16 (by decide)] at e; exact h.s13 e
  · intro e; rw [u 17 (by decide)] at e; exact h.s2 e

theorem hf4 {w W W' : World} {c : Cmd} {L : Nat → Bool} {a : Act} {v : Value} (h : HF w c L a W) (hL : L 4 = false) (h0 : L 0 = true) (b : Nat) (D : DataW Unit) (he : a.eval (.tmp 3) = .map (some b)) (hb : w.heap.size + 1 ≤ b) (hD : IsMap D) (hk : ∀ k, D.atKey (.int .i64 k) (.lit (.int .i64 0)) = .lit (.int .i64 (v1 L k))) (ho : W'.ownsMap Tryz.prog 3 (plainElem (H := Unit) Tryz.prog 3) b (c1 L + 1) (D.put (.int .i64 9) (.lit (.int .i64 4)))) (hg : W.grownBy W' (some b)) : HF w c (upd L 4) (a.put none undef) W' := by
  have u : ∀ j, j ≠ 4 → upd L 4 j = L j := fun j hj => if_neg hj
  have ui : upd L 4 4 = true := if_pos rfl
  have hv2 : v2 (upd L 4) = v2 L := by funext x; simp [v2, upd]
  have hsz : w.heap.size + 1 ≤ W.heap.size := by have := h.be.size; simpa using this
  refine { sz := by rw [sz_put]; exact h.sz, df := by rw [df_put]; exact h.df, e1 := (ev_none (a := a) (s := 1) (v := undef)).trans h.e1, be := h.be.grown hg hsz (fun k hk => by injection hk with hk; omega), m1 := ?_, m2 := ?_, ne := ?_, n0 := ?_, k0 := ?_, n10 := ?_, k6 := ?_, k12 := ?_, s4 := ?_, s5 := ?_, s6 := ?_, s7 := ?_, s9 := ?_, s10 := ?_, s11 := ?_, s12 := ?_, s13 := ?_, s2 := ?_ }
  · intro _
    refine ⟨b, D.put (.int .i64 9) (.lit (.int .i64 4)), (ev_none (a := a) (s := 3) (v := undef)).trans he, hb, ?_, fun k => ?_⟩
    · have : c1 (upd L 4) = c1 L + 1 := by simp [c1, upd, hL] <;> omega
      rw [this]; exact ho
    · by_cases hk6 : k = 9
      · subst hk6
        rw [atKey_put_same hD (by trivial)]
        simp [v1, upd]
      · rw [atKey_put_other (by intro e; injection e with _ e; exact hk6 e), hk k]
        have : v1 (upd L 4) k = v1 L k := by simp [v1, upd, hk6]
        rw [this]
  · intro h10
    rw [u 10 (by decide)] at h10
    obtain ⟨b2, D2, h1, h2, h3, h4⟩ := h.m2 h10
    exact ⟨b2, D2, (ev_none (a := a) (s := 8) (v := undef)).trans h1, h2, by rw [u 11 (by decide)]; exact (h3.kept hg (fun e => by injection e with e; exact h.ne h0 h10 (by rw [he, h1, e]))), fun x => by rw [hv2]; exact h4 x⟩
  · intro h0' h10'
    rw [u 0 (by decide)] at h0'
    rw [u 10 (by decide)] at h10'
    rw [(ev_none (a := a) (s := 3) (v := undef)), (ev_none (a := a) (s := 8) (v := undef))]
    exact h.ne h0' h10'
  · intro e; rw [u 0 (by decide), h0] at e; cases e
  · intro e; rw [u 0 (by decide), h0] at e; cases e
  · intro e; rw [u 10 (by decide)] at e; rw [u 11 (by decide)]; exact h.n10 e
  · intro e; rw [u 6 (by decide)] at e; obtain ⟨q1, q2, q3, q4, q5⟩ := h.k6 e; simp [upd, q1, q2, q3, q4, q5]
  · intro e; rw [u 12 (by decide)] at e; have q := h.k12 e; simp [upd, q]
  · intro e; rw [u 6 (by decide)] at e; exact ⟨by rw [u 0 (by decide)]; exact (h.s4 e).1, (h.s4 e).2⟩
  · intro e; rw [u 7 (by decide)] at e; exact h.s5 e
  · intro e; rw [u 8 (by decide)] at e; exact h.s6 e
  · intro e; rw [u 9 (by decide)] at e; exact h.s7 e
  · intro e; rw [u 12 (by decide)] at e; exact ⟨by rw [u 10 (by decide)]; exact (h.s9 e).1, (h.s9 e).2⟩
  · intro e; rw [u 13 (by decide)] at e; exact h.s10 e
  · intro e; rw [u 14 (by decide)] at e; exact h.s11 e
  · intro e; rw [u 15 (by decide)] at e; exact h.s12 e
  · intro e; rw [u 16 (by decide)] at e; exact h.s13 e
  · intro e; rw [u 17 (by decide)] at e; exact h.s2 e

theorem hf5 {w W W' : World} {c : Cmd} {L : Nat → Bool} {a : Act} {v : Value} (h : HF w c L a W) (hL : L 5 = false) (h0 : L 0 = true) (b : Nat) (D : DataW Unit) (he : a.eval (.tmp 3) = .map (some b)) (hb : w.heap.size + 1 ≤ b) (hD : IsMap D) (hk : ∀ k, D.atKey (.int .i64 k) (.lit (.int .i64 0)) = .lit (.int .i64 (v1 L k))) (ho : W'.ownsMap Tryz.prog 3 (plainElem (H := Unit) Tryz.prog 3) b (c1 L + 1) (D.put (.int .i64 10) (.lit (.int .i64 4)))) (hg : W.grownBy W' (some b)) : HF w c (upd L 5) (a.put none undef) W' := by
  have u : ∀ j, j ≠ 5 → upd L 5 j = L j := fun j hj => if_neg hj
  have ui : upd L 5 5 = true := if_pos rfl
  have hv2 : v2 (upd L 5) = v2 L := by funext x; simp [v2, upd]
  have hsz : w.heap.size + 1 ≤ W.heap.size := by have := h.be.size; simpa using this
  refine { sz := by rw [sz_put]; exact h.sz, df := by rw [df_put]; exact h.df, e1 := (ev_none (a := a) (s := 1) (v := undef)).trans h.e1, be := h.be.grown hg hsz (fun k hk => by injection hk with hk; omega), m1 := ?_, m2 := ?_, ne := ?_, n0 := ?_, k0 := ?_, n10 := ?_, k6 := ?_, k12 := ?_, s4 := ?_, s5 := ?_, s6 := ?_, s7 := ?_, s9 := ?_, s10 := ?_, s11 := ?_, s12 := ?_, s13 := ?_, s2 := ?_ }
  · intro _
    refine ⟨b, D.put (.int .i64 10) (.lit (.int .i64 4)), (ev_none (a := a) (s := 3) (v := undef)).trans he, hb, ?_, fun k => ?_⟩
    · have : c1 (upd L 5) = c1 L + 1 := by simp [c1, upd, hL] <;> omega
      rw [this]; exact ho
    · by_cases hk6 : k = 10
      · subst hk6
        rw [atKey_put_same hD (by trivial)]
        simp [v1, upd]
      · rw [atKey_put_other (by intro e; injection e with _ e; exact hk6 e), hk k]
        have : v1 (upd L 5) k = v1 L k := by simp [v1, upd, hk6]
        rw [this]
  · intro h10
    rw [u 10 (by decide)] at h10
    obtain ⟨b2, D2, h1, h2, h3, h4⟩ := h.m2 h10
    exact ⟨b2, D2, (ev_none (a := a) (s := 8) (v := undef)).trans h1, h2, by rw [u 11 (by decide)]; exact (h3.kept hg (fun e => by injection e with e; exact h.ne h0 h10 (by rw [he, h1, e]))), fun x => by rw [hv2]; exact h4 x⟩
  · intro h0' h10'
    rw [u 0 (by decide)] at h0'
    rw [u 10 (by decide)] at h10'
    rw [(ev_none (a := a) (s := 3) (v := undef)), (ev_none (a := a) (s := 8) (v := undef))]
    exact h.ne h0' h10'
  · intro e; rw [u 0 (by decide), h0] at e; cases e
  · intro e; rw [u 0 (by decide), h0] at e; cases e
  · intro e; rw [u 10 (by decide)] at e; rw [u 11 (by decide)]; exact h.n10 e
  · intro e; rw [u 6 (by decide)] at e; obtain ⟨q1, q2, q3, q4, q5⟩ := h.k6 e; simp [upd, q1, q2, q3, q4, q5]
  · intro e; rw [u 12 (by decide)] at e; have q := h.k12 e; simp [upd, q]
  · intro e; rw [u 6 (by decide)] at e; exact ⟨by rw [u 0 (by decide)]; exact (h.s4 e).1, (h.s4 e).2⟩
  · intro e; rw [u 7 (by decide)] at e; exact h.s5 e
  · intro e; rw [u 8 (by decide)] at e; exact h.s6 e
  · intro e; rw [u 9 (by decide)] at e; exact h.s7 e
  · intro e; rw [u 12 (by decide)] at e; exact ⟨by rw [u 10 (by decide)]; exact (h.s9 e).1, (h.s9 e).2⟩
  · intro e; rw [u 13 (by decide)] at e; exact h.s10 e
  · intro e; rw [u 14 (by decide)] at e; exact h.s11 e
  · intro e; rw [u 15 (by decide)] at e; exact h.s12 e
  · intro e; rw [u 16 (by decide)] at e; exact h.s13 e
  · intro e; rw [u 17 (by decide)] at e; exact h.s2 e

theorem hf6 {w W W' : World} {c : Cmd} {L : Nat → Bool} {a : Act} {v : Value} (h : HF w c L a W) (hL : L 6 = false) (h0 : L 0 = true) (hd : L 1 = true ∧ L 2 = true ∧ L 3 = true ∧ L 4 = true ∧ L 5 = true) (hv : v = a.eval (.tmp 3)) : HF w c (upd L 6) (a.put (some 4) v) W := by
  subst hv
  have u : ∀ j, j ≠ 6 → upd L 6 j = L j := fun j hj => if_neg hj
  have ui : upd L 6 6 = true := if_pos rfl
  have hv1 : v1 (upd L 6) = v1 L := by funext k; simp [v1, upd]
  have hc1 : c1 (upd L 6) = c1 L := by simp [c1, upd]
  have hv2 : v2 (upd L 6) = v2 L := by funext x; simp [v2, upd]
  refine { sz := by rw [sz_put]; exact h.sz, df := by rw [df_put]; exact h.df, e1 := (ev_ne (by decide)).trans h.e1, be := h.be, m1 := ?_, m2 := ?_, ne := ?_, n0 := ?_, k0 := ?_, n10 := ?_, k6 := ?_, k12 := ?_, s4 := ?_, s5 := ?_, s6 := ?_, s7 := ?_, s9 := ?_, s10 := ?_, s11 := ?_, s12 := ?_, s13 := ?_, s2 := ?_ }
  · intro h0
    rw [u 0 (by decide)] at h0
    obtain ⟨b1, D1, h1, h2, h3, h4⟩ := h.m1 h0
    exact ⟨b1, D1, (ev_ne (by decide)).trans h1, h2, by rw [hc1]; exact h3, fun k => by rw [hv1]; exact h4 k⟩
  · intro h10
    rw [u 10 (by decide)] at h10
    obtain ⟨b2, D2, h1, h2, h3, h4⟩ := h.m2 h10
    exact ⟨b2, D2, (ev_ne (by decide)).trans h1, h2, by rw [u 11 (by decide)]; exact h3, fun x => by rw [hv2]; exact h4 x⟩
  · intro h0' h10'
    rw [u 0 (by decide)] at h0'
    rw [u 10 (by decide)] at h10'
    rw [(ev_ne (by decide)), (ev_ne (by decide))]
    exact h.ne h0' h10'
  · intro e; rw [u 0 (by decide)] at e; rw [hv1]; exact h.n0 e
  · intro e; rw [u 0 (by decide)] at e; rw [hc1]; exact h.k0 e
  · intro e; rw [u 10 (by decide)] at e; rw [u 11 (by decide)]; exact h.n10 e
  · intro _; obtain ⟨q1, q2, q3, q4, q5⟩ := hd; simp [upd, q1, q2, q3, q4, q5]
  · intro e; rw [u 12 (by decide)] at e; have q := h.k12 e; simp [upd, q]
  · intro _; exact ⟨by rw [u 0 (by decide)]; exact h0, (ev_eq (by rw [h.sz]; decide)).trans (ev_ne (by decide)).symm⟩
  · intro e; rw [u 7 (by decide)] at e; rw [ev_ne (by decide)]; exact h.s5 e
  · intro e; rw [u 8 (by decide)] at e; rw [ev_ne (by decide)]; exact h.s6 e
  · intro e; rw [u 9 (by decide)] at e; rw [ev_ne (by decide)]; exact h.s7 e
  · intro e; rw [u 12 (by decide)] at e; exact ⟨by rw [u 10 (by decide)]; exact (h.s9 e).1, by rw [ev_ne (by decide), ev_ne (by decide)]; exact (h.s9 e).2⟩
  · intro e; rw [u 13 (by decide)] at e; rw [ev_ne (by decide)]; exact h.s10 e
  · intro e; rw [u 14 (by decide)] at e; rw [ev_ne (by decide)]; exact h.s11 e
  · intro e; rw [u 15 (by decide)] at e; rw [ev_ne (by decide)]; exact h.s12 e
  · intro e; rw [u 16 (by decide)] at e; rw [ev_ne (by decide)]; exact h.s13 e
  · intro e; rw [u 17 (by decide)] at e; rw [ev_ne (by decide)]; exact h.s2 e

theorem hf7 {w W W' : World} {c : Cmd} {L : Nat → Bool} {a : Act} {v : Value} (h : HF w c L a W) (hL : L 7 = false) (hv : v = .pointer (some ⟨w.heap.size, 0, none⟩)) : HF w c (upd L 7) (a.put (some 5) v) W := by
  subst hv
  have u : ∀ j, j ≠ 7 → upd L 7 j = L j := fun j hj => if_neg hj
  have ui : upd L 7 7 = true := if_pos rfl
  have hv1 : v1 (upd L 7) = v1 L := by funext k; simp [v1, upd]
  have hc1 : c1 (upd L 7) = c1 L := by simp [c1, upd]
  have hv2 : v2 (upd L 7) = v2 L := by funext x; simp [v2, upd]
  refine { sz := by rw [sz_put]; exact h.sz, df := by rw [df_put]; exact h.df, e1 := (ev_ne (by decide)).trans h.e1, be := h.be, m1 := ?_, m2 := ?_, ne := ?_, n0 := ?_, k0 := ?_, n10 := ?_, k6 := ?_, k12 := ?_, s4 := ?_, s5 := ?_, s6 := ?_, s7 := ?_, s9 := ?_, s10 := ?_, s11 := ?_, s12 := ?_, s13 := ?_, s2 := ?_ }
  · intro h0
    rw [u 0 (by decide)] at h0
    obtain ⟨b1, D1, h1, h2, h3, h4⟩ := h.m1 h0
    exact ⟨b1, D1, (ev_ne (by decide)).trans h1, h2, by rw [hc1]; exact h3, fun k => by rw [hv1]; exact h4 k⟩
  · intro h10
    rw [u 10 (by decide)] at h10
    obtain ⟨b2, D2, h1, h2, h3, h4⟩ := h.m2 h10
    exact ⟨b2, D2, (ev_ne (by decide)).trans h1, h2, by rw [u 11 (by decide)]; exact h3, fun x => by rw [hv2]; exact h4 x⟩
  · intro h0' h10'
    rw [u 0 (by decide)] at h0'
    rw [u 10 (by decide)] at h10'
    rw [(ev_ne (by decide)), (ev_ne (by decide))]
    exact h.ne h0' h10'
  · intro e; rw [u 0 (by decide)] at e; rw [hv1]; exact h.n0 e
  · intro e; rw [u 0 (by decide)] at e; rw [hc1]; exact h.k0 e
  · intro e; rw [u 10 (by decide)] at e; rw [u 11 (by decide)]; exact h.n10 e
  · intro e; rw [u 6 (by decide)] at e; obtain ⟨q1, q2, q3, q4, q5⟩ := h.k6 e; simp [upd, q1, q2, q3, q4, q5]
  · intro e; rw [u 12 (by decide)] at e; have q := h.k12 e; simp [upd, q]
  · intro e; rw [u 6 (by decide)] at e; exact ⟨by rw [u 0 (by decide)]; exact (h.s4 e).1, by rw [ev_ne (by decide), ev_ne (by decide)]; exact (h.s4 e).2⟩
  · intro _; exact ev_eq (by rw [h.sz]; decide)
  · intro e; rw [u 8 (by decide)] at e; rw [ev_ne (by decide)]; exact h.s6 e
  · intro e; rw [u 9 (by decide)] at e; rw [ev_ne (by decide)]; exact h.s7 e
  · intro e; rw [u 12 (by decide)] at e; exact ⟨by rw [u 10 (by decide)]; exact (h.s9 e).1, by rw [ev_ne (by decide), ev_ne (by decide)]; exact (h.s9 e).2⟩
  · intro e; rw [u 13 (by decide)] at e; rw [ev_ne (by decide)]; exact h.s10 e
  · intro e; rw [u 14 (by decide)] at e; rw [ev_ne (by decide)]; exact h.s11 e
  · intro e; rw [u 15 (by decide)] at e; rw [ev_ne (by decide)]; exact h.s12 e
  · intro e; rw [u 16 (by decide)] at e; rw [ev_ne (by decide)]; exact h.s13 e
  · intro e; rw [u 17 (by decide)] at e; rw [ev_ne (by decide)]; exact h.s2 e

theorem hf8 {w W W' : World} {c : Cmd} {L : Nat → Bool} {a : Act} {v : Value} (h : HF w c L a W) (hL : L 8 = false) (hv : v = .int .i64 c.kind) : HF w c (upd L 8) (a.put (some 6) v) W := by
  subst hv
  have u : ∀ j, j ≠ 8 → upd L 8 j = L j := fun j hj => if_neg hj
  have ui : upd L 8 8 = true := if_pos rfl
  have hv1 : v1 (upd L 8) = v1 L := by funext k; simp [v1, upd]
  have hc1 : c1 (upd L 8) = c1 L := by simp [c1, upd]
  have hv2 : v2 (upd L 8) = v2 L := by funext x; simp [v2, upd]
  refine { sz := by rw [sz_put]; exact h.sz, df := by rw [df_put]; exact h.df, e1 := (ev_ne (by decide)).trans h.e1, be := h.be, m1 := ?_, m2 := ?_, ne := ?_, n0 := ?_, k0 := ?_, n10 := ?_, k6 := ?_, k12 := ?_, s4 := ?_, s5 := ?_, s6 := ?_, s7 := ?_, s9 := ?_, s10 := ?_, s11 := ?_, s12 := ?_, s13 := ?_, s2 := ?_ }
  · intro h0
    rw [u 0 (by decide)] at h0
    obtain ⟨b1, D1, h1, h2, h3, h4⟩ := h.m1 h0
    exact ⟨b1, D1, (ev_ne (by decide)).trans h1, h2, by rw [hc1]; exact h3, fun k => by rw [hv1]; exact h4 k⟩
  · intro h10
    rw [u 10 (by decide)] at h10
    obtain ⟨b2, D2, h1, h2, h3, h4⟩ := h.m2 h10
    exact ⟨b2, D2, (ev_ne (by decide)).trans h1, h2, by rw [u 11 (by decide)]; exact h3, fun x => by rw [hv2]; exact h4 x⟩
  · intro h0' h10'
    rw [u 0 (by decide)] at h0'
    rw [u 10 (by decide)] at h10'
    rw [(ev_ne (by decide)), (ev_ne (by decide))]
    exact h.ne h0' h10'
  · intro e; rw [u 0 (by decide)] at e; rw [hv1]; exact h.n0 e
  · intro e; rw [u 0 (by decide)] at e; rw [hc1]; exact h.k0 e
  · intro e; rw [u 10 (by decide)] at e; rw [u 11 (by decide)]; exact h.n10 e
  · intro e; rw [u 6 (by decide)] at e; obtain ⟨q1, q2, q3, q4, q5⟩ := h.k6 e; simp [upd, q1, q2, q3, q4, q5]
  · intro e; rw [u 12 (by decide)] at e; have q := h.k12 e; simp [upd, q]
  · intro e; rw [u 6 (by decide)] at e; exact ⟨by rw [u 0 (by decide)]; exact (h.s4 e).1, by rw [ev_ne (by decide), ev_ne (by decide)]; exact (h.s4 e).2⟩
  · intro e; rw [u 7 (by decide)] at e; rw [ev_ne (by decide)]; exact h.s5 e
  · intro _; exact ev_eq (by rw [h.sz]; decide)
  · intro e; rw [u 9 (by decide)] at e; rw [ev_ne (by decide)]; exact h.s7 e
  · intro e; rw [u 12 (by decide)] at e; exact ⟨by rw [u 10 (by decide)]; exact (h.s9 e).1, by rw [ev_ne (by decide), ev_ne (by decide)]; exact (h.s9 e).2⟩
  · intro e; rw [u 13 (by decide)] at e; rw [ev_ne (by decide)]; exact h.s10 e
  · intro e; rw [u 14 (by decide)] at e; rw [ev_ne (by decide)]; exact h.s11 e
  · intro e; rw [u 15 (by decide)] at e; rw [ev_ne (by decide)]; exact h.s12 e
  · intro e; rw [u 16 (by decide)] at e; rw [ev_ne (by decide)]; exact h.s13 e
  · intro e; rw [u 17 (by decide)] at e; rw [ev_ne (by decide)]; exact h.s2 e

theorem hf9 {w W W' : World} {c : Cmd} {L : Nat → Bool} {a : Act} {v : Value} (h : HF w c L a W) (hL : L 9 = false) (hv : v = .int .i64 (v1 allL c.kind)) : HF w c (upd L 9) (a.put (some 7) v) W := by
  subst hv
  have u : ∀ j, j ≠ 9 → upd L 9 j = L j := fun j hj => if_neg hj
  have ui : upd L 9 9 = true := if_pos rfl
  have hv1 : v1 (upd L 9) = v1 L := by funext k; simp [v1, upd]
  have hc1 : c1 (upd L 9) = c1 L := by simp [c1, upd]
  have hv2 : v2 (upd L 9) = v2 L := by funext x; simp [v2, upd]
  refine { sz := by rw [sz_put]; exact h.sz, df := by rw [df_put]; exact h.df, e1 := (ev_ne (by decide)).trans h.e1, be := h.be, m1 := ?_, m2 := ?_, ne := ?_, n0 := ?_, k0 := ?_, n10 := ?_, k6 := ?_, k12 := ?_, s4 := ?_, s5 := ?_, s6 := ?_, s7 := ?_, s9 := ?_, s10 := ?_, s11 := ?_, s12 := ?_, s13 := ?_, s2 := ?_ }
  · intro h0
    rw [u 0 (by decide)] at h0
    obtain ⟨b1, D1, h1, h2, h3, h4⟩ := h.m1 h0
    exact ⟨b1, D1, (ev_ne (by decide)).trans h1, h2, by rw [hc1]; exact h3, fun k => by rw [hv1]; exact h4 k⟩
  · intro h10
    rw [u 10 (by decide)] at h10
    obtain ⟨b2, D2, h1, h2, h3, h4⟩ := h.m2 h10
    exact ⟨b2, D2, (ev_ne (by decide)).trans h1, h2, by rw [u 11 (by decide)]; exact h3, fun x => by rw [hv2]; exact h4 x⟩
  · intro h0' h10'
    rw [u 0 (by decide)] at h0'
    rw [u 10 (by decide)] at h10'
    rw [(ev_ne (by decide)), (ev_ne (by decide))]
    exact h.ne h0' h10'
  · intro e; rw [u 0 (by decide)] at e; rw [hv1]; exact h.n0 e
  · intro e; rw [u 0 (by decide)] at e; rw [hc1]; exact h.k0 e
  · intro e; rw [u 10 (by decide)] at e; rw [u 11 (by decide)]; exact h.n10 e
  · intro e; rw [u 6 (by decide)] at e; obtain ⟨q1, q2, q3, q4, q5⟩ := h.k6 e; simp [upd, q1, q2, q3, q4, q5]
  · intro e; rw [u 12 (by decide)] at e; have q := h.k12 e; simp [upd, q]
  · intro e; rw [u 6 (by decide)] at e; exact ⟨by rw [u 0 (by decide)]; exact (h.s4 e).1, by rw [ev_ne (by decide), ev_ne (by decide)]; exact (h.s4 e).2⟩
  · intro e; rw [u 7 (by decide)] at e; rw [ev_ne (by decide)]; exact h.s5 e
  · intro e; rw [u 8 (by decide)] at e; rw [ev_ne (by decide)]; exact h.s6 e
  · intro _; exact ev_eq (by rw [h.sz]; decide)
  · intro e; rw [u 12 (by decide)] at e; exact ⟨by rw [u 10 (by decide)]; exact (h.s9 e).1, by rw [ev_ne (by decide), ev_ne (by decide)]; exact (h.s9 e).2⟩
  · intro e; rw [u 13 (by decide)] at e; rw [ev_ne (by decide)]; exact h.s10 e
  · intro e; rw [u 14 (by decide)] at e; rw [ev_ne (by decide)]; exact h.s11 e
  · intro e; rw [u 15 (by decide)] at e; rw [ev_ne (by decide)]; exact h.s12 e
  · intro e; rw [u 16 (by decide)] at e; rw [ev_ne (by decide)]; exact h.s13 e
  · intro e; rw [u 17 (by decide)] at e; rw [ev_ne (by decide)]; exact h.s2 e

theorem hf10 {w W W' : World} {c : Cmd} {L : Nat → Bool} {a : Act} {v : Value} (h : HF w c L a W) (hL : L 10 = false) (hv : v = .map (some W.heap.size)) (hW : W' = W.alloc (.map #[] 0)) : HF w c (upd L 10) (a.put (some 8) v) W' := by
  subst hv hW
  have u : ∀ j, j ≠ 10 → upd L 10 j = L j := fun j hj => if_neg hj
  have ui : upd L 10 10 = true := if_pos rfl
  have hv1 : v1 (upd L 10) = v1 L := by funext k; simp [v1, upd]
  have hc1 : c1 (upd L 10) = c1 L := by simp [c1, upd]
  have hv2 : v2 (upd L 10) = v2 L := by funext x; simp [v2, upd]
  have hsz : w.heap.size + 1 ≤ W.heap.size := by have := h.be.size; simpa using this
  refine { sz := by rw [sz_put]; exact h.sz, df := by rw [df_put]; exact h.df, e1 := (ev_ne (by decide)).trans h.e1, be := h.be.alloc hsz _, m1 := ?_, m2 := ?_, ne := ?_, n0 := ?_, k0 := ?_, n10 := ?_, k6 := ?_, k12 := ?_, s4 := ?_, s5 := ?_, s6 := ?_, s7 := ?_, s9 := ?_, s10 := ?_, s11 := ?_, s12 := ?_, s13 := ?_, s2 := ?_ }
  · intro h0
    rw [u 0 (by decide)] at h0
    obtain ⟨b1, D1, h1, h2, h3, h4⟩ := h.m1 h0
    exact ⟨b1, D1, (ev_ne (by decide)).trans h1, h2, by rw [hc1]; exact (h3.alloc _), fun k => by rw [hv1]; exact h4 k⟩
  · intro _
    refine ⟨W.heap.size, .map [], ev_eq (by rw [h.sz]; decide), hsz, ?_, fun x => ?_⟩
    · rw [u 11 (by decide), h.n10 hL]; exact World.ownsMap_made W _ _ _
    · have : v2 (upd L 10) x = 0 := by rw [hv2]; unfold v2; rw [h.n10 hL]; simp
      rw [this]; rfl
  · intro h0 _
    rw [u 0 (by decide)] at h0
    obtain ⟨b1, D1, h1, h2, h3, h4⟩ := h.m1 h0
    rw [ev_eq (by rw [h.sz]; decide), (ev_ne (by decide)), h1]
    intro e
    injection e with e
    injection e with e
    have := h3.lt
    omega
  · intro e; rw [u 0 (by decide)] at e; rw [hv1]; exact h.n0 e
  · intro e; rw [u 0 (by decide)] at e; rw [hc1]; exact h.k0 e
  · intro e; rw [ui] at e; cases e
  · intro e; rw [u 6 (by decide)] at e; obtain ⟨q1, q2, q3, q4, q5⟩ := h.k6 e; simp [upd, q1, q2, q3, q4, q5]
  · intro e; rw [u 12 (by decide)] at e; have q := h.k12 e; simp [upd, q]
  · intro e; rw [u 6 (by decide)] at e; exact ⟨by rw [u 0 (by decide)]; exact (h.s4 e).1, by rw [ev_ne (by decide), ev_ne (by decide)]; exact (h.s4 e).2⟩
  · intro e; rw [u 7 (by decide)] at e; rw [ev_ne (by decide)]; exact h.s5 e
  · intro e; rw [u 8 (by decide)] at e; rw [ev_ne (by decide)]; exact h.s6 e
  · intro e; rw [u 9 (by decide)] at e; rw [ev_ne (by decide)]; exact h.s7 e
  · intro e; rw [u 12 (by decide)] at e; have := (h.s9 e).1; rw [hL] at this; cases this
  · intro e; rw [u 13 (by decide)] at e; rw [ev_ne (by decide)]; exact h.s10 e
  · intro e; rw [u 14 (by decide)] at e; rw [ev_ne (by decide)]; exact h.s11 e
  · intro e; rw [u 15 (by decide)] at e; rw [ev_ne (by decide)]; exact h.s12 e
  · intro e; rw [u 16 (by decide)] at e; rw [ev_ne (by decide)]; exact h.s13 e
  · intro e; rw [u 17 (by decide)] at e; rw [ev_ne (by decide)]; exact h.s2 e

theorem hf11 {w W W' : World} {c : Cmd} {L : Nat → Bool} {a : Act} {v : Value} (h : HF w c L a W) (hL : L 11 = false) (h10 : L 10 = true) (b : Nat) (D : DataW Unit) (he : a.eval (.tmp 8) = .map (some b)) (hb : w.heap.size + 1 ≤ b) (hD : IsMap D) (hk : ∀ x, D.atKey (.bool x) (.lit (.int .i64 0)) = .lit (.int .i64 (v2 L x))) (ho : W'.ownsMap Tryz.prog 4 (plainElem (H := Unit) Tryz.prog 3) b ((L 11).toNat + 1) (D.put (.bool true) (.lit (.int .i64 1)))) (hg : W.grownBy W' (some b)) : HF w c (upd L 11) (a.put none undef) W' := by
  have u : ∀ j, j ≠ 11 → upd L 11 j = L j := fun j hj => if_neg hj
  have ui : upd L 11 11 = true := if_pos rfl
  have hv1 : v1 (upd L 11) = v1 L := by funext k; simp [v1, upd]
  have hc1 : c1 (upd L 11) = c1 L := by simp [c1, upd]
  have hsz : w.heap.size + 1 ≤ W.heap.size := by have := h.be.size; simpa using this
  refine { sz := by rw [sz_put]; exact h.sz, df := by rw [df_put]; exact h.df, e1 := (ev_none (a := a) (s := 1) (v := undef)).trans h.e1, be := h.be.grown hg hsz (fun k hk => by injection hk with hk; omega), m1 := ?_, m2 := ?_, ne := ?_, n0 := ?_, k0 := ?_, n10 := ?_, k6 := ?_, k12 := ?_, s4 := ?_, s5 := ?_, s6 := ?_, s7 := ?_, s9 := ?_, s10 := ?_, s11 := ?_, s12 := ?_, s13 := ?_, s2 := ?_ }
  · intro h0
    rw [u 0 (by decide)] at h0
    obtain ⟨b1, D1, h1, h2, h3, h4⟩ := h.m1 h0
    exact ⟨b1, D1, (ev_none (a := a) (s := 3) (v := undef)).trans h1, h2, by rw [hc1]; exact (h3.kept hg (fun e => by injection e with e; exact h.ne h0 h10 (by rw [h1, he, e]))), fun k => by rw [hv1]; exact h4 k⟩
  · intro _
    refine ⟨b, D.put (.bool true) (.lit (.int .i64 1)), (ev_none (a := a) (s := 8) (v := undef)).trans he, hb, ?_, fun x => ?_⟩
    · rw [ui]; rw [hL] at ho; exact ho
    · cases x with
      | true => rw [atKey_put_same hD (by trivial)]; simp [v2, upd]
      | false => rw [atKey_put_other (by intro e; cases e), hk false]; simp [v2]
  · intro h0' h10'
    rw [u 0 (by decide)] at h0'
    rw [u 10 (by decide)] at h10'
    rw [(ev_none (a := a) (s := 3) (v := undef)), (ev_none (a := a) (s := 8) (v := undef))]
    exact h.ne h0' h10'
  · intro e; rw [u 0 (by decide)] at e; rw [hv1]; exact h.n0 e
  · intro e; rw [u 0 (by decide)] at e; rw [hc1]; exact h.k0 e
  · intro e; rw [u 10 (by decide), h10] at e; cases e
  · intro e; rw [u 6 (by decide)] at e; obtain ⟨q1, q2, q3, q4, q5⟩ := h.k6 e; simp [upd, q1, q2, q3, q4, q5]
  · intro e; rw [u 12 (by decide)] at e; have q := h.k12 e; simp [upd, q]
  · intro e; rw [u 6 (by decide)] at e; exact ⟨by rw [u 0 (by decide)]; exact (h.s4 e).1, (h.s4 e).2⟩
  · intro e; rw [u 7 (by decide)] at e; exact h.s5 e
  · intro e; rw [u 8 (by decide)] at e; exact h.s6 e
  · intro e; rw [u 9 (by decide)] at e; exact h.s7 e
  · intro e; rw [u 12 (by decide)] at e; exact ⟨by rw [u 10 (by decide)]; exact (h.s9 e).1, (h.s9 e).2⟩
  · intro e; rw [u 13 (by decide)] at e; exact h.s10 e
  · intro e; rw [u 14 (by decide)] at e; exact h.s11 e
  · intro e; rw [u 15 (by decide)] at e; exact h.s12 e
  · intro e; rw [u 16 (by decide)] at e; exact h.s13 e
  · intro e; rw [u 17 (by decide)] at e; exact h.s2 e

theorem hf12 {w W W' : World} {c : Cmd} {L : Nat → Bool} {a : Act} {v : Value} (h : HF w c L a W) (hL : L 12 = false) (h10 : L 10 = true) (hd : L 11 = true) (hv : v = a.eval (.tmp 8)) : HF w c (upd L 12) (a.put (some 9) v) W := by
  subst hv
  have u : ∀ j, j ≠ 12 → upd L 12 j = L j := fun j hj => if_neg hj
  have ui : upd L 12 12 = true := if_pos rfl
  have hv1 : v1 (upd L 12) = v1 L := by funext k; simp [v1, upd]
  have hc1 : c1 (upd L 12) = c1 L := by simp [c1, upd]
  have hv2 : v2 (upd L 12) = v2 L := by funext x; simp [v2, upd]
  refine { sz := by rw [sz_put]; exact h.sz, df := by rw [df_put]; exact h.df, e1 := (ev_ne (by decide)).trans h.e1, be := h.be, m1 := ?_, m2 := ?_, ne := ?_, n0 := ?_, k0 := ?_, n10 := ?_, k6 := ?_, k12 := ?_, s4 := ?_, s5 := ?_, s6 := ?_, s7 := ?_, s9 := ?_, s10 := ?_, s11 := ?_, s12 := ?_, s13 := ?_, s2 := ?_ }
  · intro h0
    rw [u 0 (by decide)] at h0
    obtain ⟨b1, D1, h1, h2, h3, h4⟩ := h.m1 h0
    exact ⟨b1, D1, (ev_ne (by decide)).trans h1, h2, by rw [hc1]; exact h3, fun k => by rw [hv1]; exact h4 k⟩
  · intro h10
    rw [u 10 (by decide)] at h10
    obtain ⟨b2, D2, h1, h2, h3, h4⟩ := h.m2 h10
    exact ⟨b2, D2, (ev_ne (by decide)).trans h1, h2, by rw [u 11 (by decide)]; exact h3, fun x => by rw [hv2]; exact h4 x⟩
  · intro h0' h10'
    rw [u 0 (by decide)] at h0'
    rw [u 10 (by decide)] at h10'
    rw [(ev_ne (by decide)), (ev_ne (by decide))]
    exact h.ne h0' h10'
  · intro e; rw [u 0 (by decide)] at e; rw [hv1]; exact h.n0 e
  · intro e; rw [u 0 (by decide)] at e; rw [hc1]; exact h.k0 e
  · intro e; rw [u 10 (by decide)] at e; rw [u 11 (by decide)]; exact h.n10 e
  · intro e; rw [u 6 (by decide)] at e; obtain ⟨q1, q2, q3, q4, q5⟩ := h.k6 e; simp [upd, q1, q2, q3, q4, q5]
  · intro _; simp [upd, hd]
  · intro e; rw [u 6 (by decide)] at e; exact ⟨by rw [u 0 (by decide)]; exact (h.s4 e).1, by rw [ev_ne (by decide), ev_ne (by decide)]; exact (h.s4 e).2⟩
  · intro e; rw [u 7 (by decide)] at e; rw [ev_ne (by decide)]; exact h.s5 e
  · intro e; rw [u 8 (by decide)] at e; rw [ev_ne (by decide)]; exact h.s6 e
  · intro e; rw [u 9 (by decide)] at e; rw [ev_ne (by decide)]; exact h.s7 e
  · intro _; exact ⟨by rw [u 10 (by decide)]; exact h10, (ev_eq (by rw [h.sz]; decide)).trans (ev_ne (by decide)).symm⟩
  · intro e; rw [u 13 (by decide)] at e; rw [ev_ne (by decide)]; exact h.s10 e
  · intro e; rw [u 14 (by decide)] at e; rw [ev_ne (by decide)]; exact h.s11 e
  · intro e; rw [u 15 (by decide)] at e; rw [ev_ne (by decide)]; exact h.s12 e
  · intro e; rw [u 16 (by decide)] at e; rw [ev_ne (by decide)]; exact h.s13 e
  · intro e; rw [u 17 (by decide)] at e; rw [ev_ne (by decide)]; exact h.s2 e

theorem hf13 {w W W' : World} {c : Cmd} {L : Nat → Bool} {a : Act} {v : Value} (h : HF w c L a W) (hL : L 13 = false) (hv : v = c.v) : HF w c (upd L 13) (a.put (some 10) v) W := by
  subst hv
  have u : ∀ j, j ≠ 13 → upd L 13 j = L j := fun j hj => if_neg hj
  have ui : upd L 13 13 = true := if_pos rfl
  have hv1 : v1 (upd L 13) = v1 L := by funext k; simp [v1, upd]
  have hc1 : c1 (upd L 13) = c1 L := by simp [c1, upd]
  have hv2 : v2 (upd L 13) = v2 L := by funext x; simp [v2, upd]
  refine { sz := by rw [sz_put]; exact h.sz, df := by rw [df_put]; exact h.df, e1 := (ev_ne (by decide)).trans h.e1, be := h.be, m1 := ?_, m2 := ?_, ne := ?_, n0 := ?_, k0 := ?_, n10 := ?_, k6 := ?_, k12 := ?_, s4 := ?_, s5 := ?_, s6 := ?_, s7 := ?_, s9 := ?_, s10 := ?_, s11 := ?_, s12 := ?_, s13 := ?_, s2 := ?_ }
  · intro h0
    rw [u 0 (by decide)] at h0
    obtain ⟨b1, D1, h1, h2, h3, h4⟩ := h.m1 h0
    exact ⟨b1, D1, (ev_ne (by decide)).trans h1, h2, by rw [hc1]; exact h3, fun k => by rw [hv1]; exact h4 k⟩
  · intro h10
    rw [u 10 (by decide)] at h10
    obtain ⟨b2, D2, h1, h2, h3, h4⟩ := h.m2 h10
    exact ⟨b2, D2, (ev_ne (by decide)).trans h1, h2, by rw [u 11 (by decide)]; exact h3, fun x => by rw [hv2]; exact h4 x⟩
  · intro h0' h10'
    rw [u 0 (by decide)] at h0'
    rw [u 10 (by decide)] at h10'
    rw [(ev_ne (by decide)), (ev_ne (by decide))]
    exact h.ne h0' h10'
  · intro e; rw [u 0 (by decide)] at e; rw [hv1]; exact h.n0 e
  · intro e; rw [u 0 (by decide)] at e; rw [hc1]; exact h.k0 e
  · intro e; rw [u 10 (by decide)] at e; rw [u 11 (by decide)]; exact h.n10 e
  · intro e; rw [u 6 (by decide)] at e; obtain ⟨q1, q2, q3, q4, q5⟩ := h.k6 e; simp [upd, q1, q2, q3, q4, q5]
  · intro e; rw [u 12 (by decide)] at e; have q := h.k12 e; simp [upd, q]
  · intro e; rw [u 6 (by decide)] at e; exact ⟨by rw [u 0 (by decide)]; exact (h.s4 e).1, by rw [ev_ne (by decide), ev_ne (by decide)]; exact (h.s4 e).2⟩
  · intro e; rw [u 7 (by decide)] at e; rw [ev_ne (by decide)]; exact h.s5 e
  · intro e; rw [u 8 (by decide)] at e; rw [ev_ne (by decide)]; exact h.s6 e
  · intro e; rw [u 9 (by decide)] at e; rw [ev_ne (by decide)]; exact h.s7 e
  · intro e; rw [u 12 (by decide)] at e; exact ⟨by rw [u 10 (by decide)]; exact (h.s9 e).1, by rw [ev_ne (by decide), ev_ne (by decide)]; exact (h.s9 e).2⟩
  · intro _; exact ev_eq (by rw [h.sz]; decide)
  · intro e; rw [u 14 (by decide)] at e; rw [ev_ne (by decide)]; exact h.s11 e
  · intro e; rw [u 15 (by decide)] at e; rw [ev_ne (by decide)]; exact h.s12 e
  · intro e; rw [u 16 (by decide)] at e; rw [ev_ne (by decide)]; exact h.s13 e
  · intro e; rw [u 17 (by decide)] at e; rw [ev_ne (by decide)]; exact h.s2 e

theorem hf14 {w W W' : World} {c : Cmd} {L : Nat → Bool} {a : Act} {v : Value} (h : HF w c L a W) (hL : L 14 = false) (hv : v = .bool (isEach c.kind)) (hbb : Below W.heap.size W W') : HF w c (upd L 14) (a.put (some 11) v) W' := by
  subst hv
  have u : ∀ j, j ≠ 14 → upd L 14 j = L j := fun j hj => if_neg hj
  have ui : upd L 14 14 = true := if_pos rfl
  have hv1 : v1 (upd L 14) = v1 L := by funext k; simp [v1, upd]
  have hc1 : c1 (upd L 14) = c1 L := by simp [c1, upd]
  have hv2 : v2 (upd L 14) = v2 L := by funext x; simp [v2, upd]
  have hsz : w.heap.size + 1 ≤ W.heap.size := by have := h.be.size; simpa using this
  refine { sz := by rw [sz_put]; exact h.sz, df := by rw [df_put]; exact h.df, e1 := (ev_ne (by decide)).trans h.e1, be := h.be.trans (hbb.mono hsz), m1 := ?_, m2 := ?_, ne := ?_, n0 := ?_, k0 := ?_, n10 := ?_, k6 := ?_, k12 := ?_, s4 := ?_, s5 := ?_, s6 := ?_, s7 := ?_, s9 := ?_, s10 := ?_, s11 := ?_, s12 := ?_, s13 := ?_, s2 := ?_ }
  · intro h0
    rw [u 0 (by decide)] at h0
    obtain ⟨b1, D1, h1, h2, h3, h4⟩ := h.m1 h0
    exact ⟨b1, D1, (ev_ne (by decide)).trans h1, h2, by rw [hc1]; exact (map_below h3 hbb), fun k => by rw [hv1]; exact h4 k⟩
  · intro h10
    rw [u 10 (by decide)] at h10
    obtain ⟨b2, D2, h1, h2, h3, h4⟩ := h.m2 h10
    exact ⟨b2, D2, (ev_ne (by decide)).trans h1, h2, by rw [u 11 (by decide)]; exact (map_below h3 hbb), fun x => by rw [hv2]; exact h4 x⟩
  · intro h0' h10'
    rw [u 0 (by decide)] at h0'
    rw [u 10 (by decide)] at h10'
    rw [(ev_ne (by decide)), (ev_ne (by decide))]
    exact h.ne h0' h10'
  · intro e; rw [u 0 (by decide)] at e; rw [hv1]; exact h.n0 e
  · intro e; rw [u 0 (by decide)] at e; rw [hc1]; exact h.k0 e
  · intro e; rw [u 10 (by decide)] at e; rw [u 11 (by decide)]; exact h.n10 e
  · intro e; rw [u 6 (by decide)] at e; obtain ⟨q1, q2, q3, q4, q5⟩ := h.k6 e; simp [upd, q1, q2, q3, q4, q5]
  · intro e; rw [u 12 (by decide)] at e; have q := h.k12 e; simp [upd, q]
  · intro e; rw [u 6 (by decide)] at e; exact ⟨by rw [u 0 (by decide)]; exact (h.s4 e).1, by rw [ev_ne (by decide), ev_ne (by decide)]; exact (h.s4 e).2⟩
  · intro e; rw [u 7 (by decide)] at e; rw [ev_ne (by decide)]; exact h.s5 e
  · intro e; rw [u 8 (by decide)] at e; rw [ev_ne (by decide)]; exact h.s6 e
  · intro e; rw [u 9 (by decide)] at e; rw [ev_ne (by decide)]; exact h.s7 e
  · intro e; rw [u 12 (by decide)] at e; exact ⟨by rw [u 10 (by decide)]; exact (h.s9 e).1, by rw [ev_ne (by decide), ev_ne (by decide)]; exact (h.s9 e).2⟩
  · intro e; rw [u 13 (by decide)] at e; rw [ev_ne (by decide)]; exact h.s10 e
  · intro _; exact ev_eq (by rw [h.sz]; decide)
  · intro e; rw [u 15 (by decide)] at e; rw [ev_ne (by decide)]; exact h.s12 e
  · intro e; rw [u 16 (by decide)] at e; rw [ev_ne (by decide)]; exact h.s13 e
  · intro e; rw [u 17 (by decide)] at e; rw [ev_ne (by decide)]; exact h.s2 e

theorem hf15 {w W W' : World} {c : Cmd} {L : Nat → Bool} {a : Act} {v : Value} (h : HF w c L a W) (hL : L 15 = false) (hv : v = .int .i64 (v2 allL (isEach c.kind))) : HF w c (upd L 15) (a.put (some 12) v) W := by
  subst hv
  have u : ∀ j, j ≠ 15 → upd L 15 j = L j := fun j hj => if_neg hj
  have ui : upd L 15 15 = true := if_pos rfl
  have hv1 : v1 (upd L 15) = v1 L := by funext k; simp [v1, upd]
  have hc1 : c1 (upd L 15) = c1 L := by simp [c1, upd]
  have hv2 : v2 (upd L 15) = v2 L := by funext x; simp [v2, upd]
  refine { sz := by rw [sz_put]; exact h.sz, df := by rw [df_put]; exact h.df, e1 := (ev_ne (by decide)).trans h.e1, be := h.be, m1 := ?_, m2 := ?_, ne := ?_, n0 := ?_, k0 := ?_, n10 := ?_, k6 := ?_, k12 := ?_, s4 := ?_, s5 := ?_, s6 := ?_, s7 := ?_, s9 := ?_, s10 := ?_, s11 := ?_, s12 := ?_, s13 := ?_, s2 := ?_ }
  · intro h0
    rw [u 0 (by decide)] at h0
    obtain ⟨b1, D1, h1, h2, h3, h4⟩ := h.m1 h0
    exact ⟨b1, D1, (ev_ne (by decide)).trans h1, h2, by rw [hc1]; exact h3, fun k => by rw [hv1]; exact h4 k⟩
  · intro h10
    rw [u 10 (by decide)] at h10
    obtain ⟨b2, D2, h1, h2, h3, h4⟩ := h.m2 h10
    exact ⟨b2, D2, (ev_ne (by decide)).trans h1, h2, by rw [u 11 (by decide)]; exact h3, fun x => by rw [hv2]; exact h4 x⟩
  · intro h0' h10'
    rw [u 0 (by decide)] at h0'
    rw [u 10 (by decide)] at h10'
    rw [(ev_ne (by decide)), (ev_ne (by decide))]
    exact h.ne h0' h10'
  · intro e; rw [u 0 (by decide)] at e; rw [hv1]; exact h.n0 e
  · intro e; rw [u 0 (by decide)] at e; rw [hc1]; exact h.k0 e
  · intro e; rw [u 10 (by decide)] at e; rw [u 11 (by decide)]; exact h.n10 e
  · intro e; rw [u 6 (by decide)] at e; obtain ⟨q1, q2, q3, q4, q5⟩ := h.k6 e; simp [upd, q1, q2, q3, q4, q5]
  · intro e; rw [u 12 (by decide)] at e; have q := h.k12 e; simp [upd, q]
  · intro e; rw [u 6 (by decide)] at e; exact ⟨by rw [u 0 (by decide)]; exact (h.s4 e).1, by rw [ev_ne (by decide), ev_ne (by decide)]; exact (h.s4 e).2⟩
  · intro e; rw [u 7 (by decide)] at e; rw [ev_ne (by decide)]; exact h.s5 e
  · intro e; rw [u 8 (by decide)] at e; rw [ev_ne (by decide)]; exact h.s6 e
  · intro e; rw [u 9 (by decide)] at e; rw [ev_ne (by decide)]; exact h.s7 e
  · intro e; rw [u 12 (by decide)] at e; exact ⟨by rw [u 10 (by decide)]; exact (h.s9 e).1, by rw [ev_ne (by decide), ev_ne (by decide)]; exact (h.s9 e).2⟩
  · intro e; rw [u 13 (by decide)] at e; rw [ev_ne (by decide)]; exact h.s10 e
  · intro e; rw [u 14 (by decide)] at e; rw [ev_ne (by decide)]; exact h.s11 e
  · intro _; exact ev_eq (by rw [h.sz]; decide)
  · intro e; rw [u 16 (by decide)] at e; rw [ev_ne (by decide)]; exact h.s13 e
  · intro e; rw [u 17 (by decide)] at e; rw [ev_ne (by decide)]; exact h.s2 e

theorem hf16 {w W W' : World} {c : Cmd} {L : Nat → Bool} {a : Act} {v : Value} (h : HF w c L a W) (hL : L 16 = false) (hv : v = .int .i64 (v1 allL c.kind + v2 allL (isEach c.kind))) : HF w c (upd L 16) (a.put (some 13) v) W := by
  subst hv
  have u : ∀ j, j ≠ 16 → upd L 16 j = L j := fun j hj => if_neg hj
  have ui : upd L 16 16 = true := if_pos rfl
  have hv1 : v1 (upd L 16) = v1 L := by funext k; simp [v1, upd]
  have hc1 : c1 (upd L 16) = c1 L := by simp [c1, upd]
  have hv2 : v2 (upd L 16) = v2 L := by funext x; simp [v2, upd]
  refine { sz := by rw [sz_put]; exact h.sz, df := by rw [df_put]; exact h.df, e1 := (ev_ne (by decide)).trans h.e1, be := h.be, m1 := ?_, m2 := ?_, ne := ?_, n0 := ?_, k0 := ?_, n10 := ?_, k6 := ?_, k12 := ?_, s4 := ?_, s5 := ?_, s6 := ?_, s7 := ?_, s9 := ?_, s10 := ?_, s11 := ?_, s12 := ?_, s13 := ?_, s2 := ?_ }
  · intro h0
    rw [u 0 (by decide)] at h0
    obtain ⟨b1, D1, h1, h2, h3, h4⟩ := h.m1 h0
    exact ⟨b1, D1, (ev_ne (by decide)).trans h1, h2, by rw [hc1]; exact h3, fun k => by rw [hv1]; exact h4 k⟩
  · intro h10
    rw [u 10 (by decide)] at h10
    obtain ⟨b2, D2, h1, h2, h3, h4⟩ := h.m2 h10
    exact ⟨b2, D2, (ev_ne (by decide)).trans h1, h2, by rw [u 11 (by decide)]; exact h3, fun x => by rw [hv2]; exact h4 x⟩
  · intro h0' h10'
    rw [u 0 (by decide)] at h0'
    rw [u 10 (by decide)] at h10'
    rw [(ev_ne (by decide)), (ev_ne (by decide))]
    exact h.ne h0' h10'
  · intro e; rw [u 0 (by decide)] at e; rw [hv1]; exact h.n0 e
  · intro e; rw [u 0 (by decide)] at e; rw [hc1]; exact h.k0 e
  · intro e; rw [u 10 (by decide)] at e; rw [u 11 (by decide)]; exact h.n10 e
  · intro e; rw [u 6 (by decide)] at e; obtain ⟨q1, q2, q3, q4, q5⟩ := h.k6 e; simp [upd, q1, q2, q3, q4, q5]
  · intro e; rw [u 12 (by decide)] at e; have q := h.k12 e; simp [upd, q]
  · intro e; rw [u 6 (by decide)] at e; exact ⟨by rw [u 0 (by decide)]; exact (h.s4 e).1, by rw [ev_ne (by decide), ev_ne (by decide)]; exact (h.s4 e).2⟩
  · intro e; rw [u 7 (by decide)] at e; rw [ev_ne (by decide)]; exact h.s5 e
  · intro e; rw [u 8 (by decide)] at e; rw [ev_ne (by decide)]; exact h.s6 e
  · intro e; rw [u 9 (by decide)] at e; rw [ev_ne (by decide)]; exact h.s7 e
  · intro e; rw [u 12 (by decide)] at e; exact ⟨by rw [u 10 (by decide)]; exact (h.s9 e).1, by rw [ev_ne (by decide), ev_ne (by decide)]; exact (h.s9 e).2⟩
  · intro e; rw [u 13 (by decide)] at e; rw [ev_ne (by decide)]; exact h.s10 e
  · intro e; rw [u 14 (by decide)] at e; rw [ev_ne (by decide)]; exact h.s11 e
  · intro e; rw [u 15 (by decide)] at e; rw [ev_ne (by decide)]; exact h.s12 e
  · intro _; exact ev_eq (by rw [h.sz]; decide)
  · intro e; rw [u 17 (by decide)] at e; rw [ev_ne (by decide)]; exact h.s2 e

theorem hf17 {w W W' : World} {c : Cmd} {L : Nat → Bool} {a : Act} {v : Value} (h : HF w c L a W) (hL : L 17 = false) (hv : v = .int .i64 (v1 allL c.kind + v2 allL (isEach c.kind))) : HF w c (upd L 17) (a.put (some 2) v) W := by
  subst hv
  have u : ∀ j, j ≠ 17 → upd L 17 j = L j := fun j hj => if_neg hj
  have ui : upd L 17 17 = true := if_pos rfl
  have hv1 : v1 (upd L 17) = v1 L := by funext k; simp [v1, upd]
  have hc1 : c1 (upd L 17) = c1 L := by simp [c1, upd]
  have hv2 : v2 (upd L 17) = v2 L := by funext x; simp [v2, upd]
  refine { sz := by rw [sz_put]; exact h.sz, df := by rw [df_put]; exact h.df, e1 := (ev_ne (by decide)).trans h.e1, be := h.be, m1 := ?_, m2 := ?_, ne := ?_, n0 := ?_, k0 := ?_, n10 := ?_, k6 := ?_, k12 := ?_, s4 := ?_, s5 := ?_, s6 := ?_, s7 := ?_, s9 := ?_, s10 := ?_, s11 := ?_, s12 := ?_, s13 := ?_, s2 := ?_ }
  · intro h0
    rw [u 0 (by decide)] at h0
    obtain ⟨b1, D1, h1, h2, h3, h4⟩ := h.m1 h0
    exact ⟨b1, D1, (ev_ne (by decide)).trans h1, h2, by rw [hc1]; exact h3, fun k => by rw [hv1]; exact h4 k⟩
  · intro h10
    rw [u 10 (by decide)] at h10
    obtain ⟨b2, D2, h1, h2, h3, h4⟩ := h.m2 h10
    exact ⟨b2, D2, (ev_ne (by decide)).trans h1, h2, by rw [u 11 (by decide)]; exact h3, fun x => by rw [hv2]; exact h4 x⟩
  · intro h0' h10'
    rw [u 0 (by decide)] at h0'
    rw [u 10 (by decide)] at h10'
    rw [(ev_ne (by decide)), (ev_ne (by decide))]
    exact h.ne h0' h10'
  · intro e; rw [u 0 (by decide)] at e; rw [hv1]; exact h.n0 e
  · intro e; rw [u 0 (by decide)] at e; rw [hc1]; exact h.k0 e
  · intro e; rw [u 10 (by decide)] at e; rw [u 11 (by decide)]; exact h.n10 e
  · intro e; rw [u 6 (by decide)] at e; obtain ⟨q1, q2, q3, q4, q5⟩ := h.k6 e; simp [upd, q1, q2, q3, q4, q5]
  · intro e; rw [u 12 (by decide)] at e; have q := h.k12 e; simp [upd, q]
  · intro e; rw [u 6 (by decide)] at e; exact ⟨by rw [u 0 (by decide)]; exact (h.s4 e).1, by rw [ev_ne (by decide), ev_ne (by decide)]; exact (h.s4 e).2⟩
  · intro e; rw [u 7 (by decide)] at e; rw [ev_ne (by decide)]; exact h.s5 e
  · intro e; rw [u 8 (by decide)] at e; rw [ev_ne (by decide)]; exact h.s6 e
  · intro e; rw [u 9 (by decide)] at e; rw [ev_ne (by decide)]; exact h.s7 e
  · intro e; rw [u 12 (by decide)] at e; exact ⟨by rw [u 10 (by decide)]; exact (h.s9 e).1, by rw [ev_ne (by decide), ev_ne (by decide)]; exact (h.s9 e).2⟩
  · intro e; rw [u 13 (by decide)] at e; rw [ev_ne (by decide)]; exact h.s10 e
  · intro e; rw [u 14 (by decide)] at e; rw [ev_ne (by decide)]; exact h.s11 e
  · intro e; rw [u 15 (by decide)] at e; rw [ev_ne (by decide)]; exact h.s12 e
  · intro e; rw [u 16 (by decide)] at e; rw [ev_ne (by decide)]; exact h.s13 e
  · intro _; exact ev_eq (by rw [h.sz]; decide)

end Go.Proofs.YtkifihcficobnaaGreatDoor
namespace Go.Proofs.YtkifihcficobnaaGreatDoor
open Go.RowKit Go.Gs Go.Maps
set_option linter.unusedVariables false
set_option linter.unusedSimpArgs false

theorem c1_le (L : Nat → Bool) : c1 L ≤ 5 := by
  unfold c1
  have h := fun i => Bool.toNat_le (L i)
  have h1 := h 1; have h2 := h 2; have h3 := h 3; have h4 := h 4; have h5 := h 5
  omega
theorem v_bounds (k : Int) : 0 ≤ v1 allL k ∧ v1 allL k ≤ 4 ∧ 0 ≤ v2 allL (isEach k) ∧ v2 allL (isEach k) ≤ 1 := by
  unfold v1 v2 allL
  refine ⟨?_, ?_, ?_, ?_⟩
  all_goals (simp only [if_true]; repeat (split <;> try omega))
theorem v_how (c : Cmd) (h : chk c = 0) : v1 allL c.kind + v2 allL (isEach c.kind) = howFor c.kind := by
  have hk := chk_kinds c h
  have : c.kind = 1 ∨ c.kind = 2 ∨ c.kind = 3 ∨ c.kind = 4 ∨ c.kind = 5 ∨ c.kind = 6 ∨ c.kind = 7 ∨ c.kind = 8 ∨ c.kind = 9 ∨ c.kind = 10 := by omega
  rcases this with e | e | e | e | e | e | e | e | e | e <;> simp [e, v1, v2, allL, isEach, howFor]

set_option maxRecDepth 100000 in
set_option maxHeartbeats 4000000 in
theorem howFor_ref (c : Cmd) (w : World) (hkw : (Lit.int .i64 c.kind).wf = true) :
    Calls Tryz.prog 35 #[c.v] w fun e w' => e = .returned (.int .i64 (v1 allL c.kind + v2 allL (isEach c.kind))) ∧ Below w.heap.size w w' := by
  unfold Cmd.v
  go_enter Tryz.func35, Tryz.ntmps35
  go_wp2_with fail
  rename_i K hK
  refine wp_region_inv (by kernel_rfl) (by kernel_rfl) (fun L a W => HF w c L a W) ?hs ?he ?h0
  case he =>
    intro L a W hall hI
    refine hK a W ?_
    go_wp2_with fail
    refine bodyPost_ret (results_tmp rfl _ _ _) hI.df ⟨?_, below_box hI.be⟩
    have := hI.s2 (hall 17 (by decide))
    simp only [Act.eval] at this
    rw [this]
  case h0 =>
    refine { sz := rfl, df := rfl, e1 := rfl, be := (Below.refl _ _).drew, m1 := ?_, m2 := ?_, ne := ?_, n0 := ?_, k0 := ?_, n10 := ?_, k6 := ?_, k12 := ?_, s4 := ?_, s5 := ?_, s6 := ?_, s7 := ?_, s9 := ?_, s10 := ?_, s11 := ?_, s12 := ?_, s13 := ?_, s2 := ?_ }
    all_goals first | (intro h; cases h; done) | (intro h1 h2; cases h1; done) | (intro _; rfl) | (intro _; funext k; simp [v1])
  case hs =>
  intro L i o a W ho hL hdep hI
  have hi : i < 18 := by have := (Array.getElem?_eq_some_iff.1 ho).1; simpa using this
  have hcase : i = 0 ∨ i = 1 ∨ i = 2 ∨ i = 3 ∨ i = 4 ∨ i = 5 ∨ i = 6 ∨ i = 7 ∨ i = 8 ∨ i = 9 ∨ i = 10 ∨ i = 11 ∨ i = 12 ∨ i = 13 ∨ i = 14 ∨ i = 15 ∨ i = 16 ∨ i = 17 := by omega
  clear hi
  rcases hcase with rfl | rfl | rfl | rfl | rfl | rfl | rfl | rfl | rfl | rfl | rfl | rfl | rfl | rfl | rfl | rfl | rfl | rfl
  · obtain rfl : o = _ := (Option.some.inj ho).symm
    show wpOp _ _ _ 0 (fun a' W' => HF w c (upd L 0) a' W') a W
    unfold wpOp
    rw [ho]
    simp only
    rw [if_pos (by simp [Region.wanted])]
    refine Or.inl ?_
    unfold Oper.wp
    simp [execOp, run_makeMap, Result.andThen]
    exact hf0 hI hL rfl rfl
  · obtain rfl : o = _ := (Option.some.inj ho).symm
    have d0 : L 0 = true := hdep ⟨0, .data⟩ (by simp) rfl
    show wpOp _ _ _ 1 (fun a' W' => HF w c (upd L 1) a' W') a W
    unfold wpOp
    rw [ho]
    simp only
    rw [if_pos (by simp [Region.wanted])]
    refine Or.inl ?_
    unfold Oper.wp
    obtain ⟨b, D, h1, h2, h3, h4⟩ := hI.m1 d0
    obtain ⟨w', hrun, r1, r2⟩ := h3.update keyInt Tryz.underlying94 (show c1 L < maxLen by have := c1_le L; unfold maxLen; omega) (keyOf_int_mk Tryz.underlying3 wf6) (elemInt 2 wf2)
    simp [execOp, h1, ev_const, hrun, Result.andThen]
    exact hf1 (v := undef) hI hL d0 b D h1 h2 (isMap_owns h3) h4 r1 r2
  · obtain rfl : o = _ := (Option.some.inj ho).symm
    have d0 : L 0 = true := hdep ⟨0, .data⟩ (by simp) rfl
    show wpOp _ _ _ 2 (fun a' W' => HF w c (upd L 2) a' W') a W
    unfold wpOp
    rw [ho]
    simp only
    rw [if_pos (by simp [Region.wanted])]
    refine Or.inl ?_
    unfold Oper.wp
    obtain ⟨b, D, h1, h2, h3, h4⟩ := hI.m1 d0
    obtain ⟨w', hrun, r1, r2⟩ := h3.update keyInt Tryz.underlying94 (show c1 L < maxLen by have := c1_le L; unfold maxLen; omega) (keyOf_int_mk Tryz.underlying3 wf8) (elemInt 3 wf3)
    simp [execOp, h1, ev_const, hrun, Result.andThen]
    exact hf2 (v := undef) hI hL d0 b D h1 h2 (isMap_owns h3) h4 r1 r2
  · obtain rfl : o = _ := (Option.some.inj ho).symm
    have d0 : L 0 = true := hdep ⟨0, .data⟩ (by simp) rfl
    show wpOp _ _ _ 3 (fun a' W' => HF w c (upd L 3) a' W') a W
    unfold wpOp
    rw [ho]
    simp only
    rw [if_pos (by simp [Region.wanted])]
    refine Or.inl ?_
    unfold Oper.wp
    obtain ⟨b, D, h1, h2, h3, h4⟩ := hI.m1 d0
    obtain ⟨w', hrun, r1, r2⟩ := h3.update keyInt Tryz.underlying94 (show c1 L < maxLen by have := c1_le L; unfold maxLen; omega) (keyOf_int_mk Tryz.underlying3 wf7) (elemInt 4 wf4)
    simp [execOp, h1, ev_const, hrun, Result.andThen]
    exact hf3 (v := undef) hI hL d0 b D h1 h2 (isMap_owns h3) h4 r1 r2
  · obtain rfl : o = _ := (Option.some.inj ho).symm
    have d0 : L 0 = true := hdep ⟨0, .data⟩ (by simp) rfl
    show wpOp _ _ _ 4 (fun a' W' => HF w c (upd L 4) a' W') a W
    unfold wpOp
    rw [ho]
    simp only
    rw [if_pos (by simp [Region.wanted])]
    refine Or.inl ?_
    unfold Oper.wp
    obtain ⟨b, D, h1, h2, h3, h4⟩ := hI.m1 d0
    obtain ⟨w', hrun, r1, r2⟩ := h3.update keyInt Tryz.underlying94 (show c1 L < maxLen by have := c1_le L; unfold maxLen; omega) (keyOf_int_mk Tryz.underlying3 wf9) (elemInt 4 wf4)
    simp [execOp, h1, ev_const, hrun, Result.andThen]
    exact hf4 (v := undef) hI hL d0 b D h1 h2 (isMap_owns h3) h4 r1 r2
  · obtain rfl : o = _ := (Option.some.inj ho).symm
    have d0 : L 0 = true := hdep ⟨0, .data⟩ (by simp) rfl
    show wpOp _ _ _ 5 (fun a' W' => HF w c (upd L 5) a' W') a W
    unfold wpOp
    rw [ho]
    simp only
    rw [if_pos (by simp [Region.wanted])]
    refine Or.inl ?_
    unfold Oper.wp
    obtain ⟨b, D, h1, h2, h3, h4⟩ := hI.m1 d0
    obtain ⟨w', hrun, r1, r2⟩ := h3.update keyInt Tryz.underlying94 (show c1 L < maxLen by have := c1_le L; unfold maxLen; omega) (keyOf_int_mk Tryz.underlying3 wf10) (elemInt 4 wf4)
    simp [execOp, h1, ev_const, hrun, Result.andThen]
    exact hf5 (v := undef) hI hL d0 b D h1 h2 (isMap_owns h3) h4 r1 r2
  · obtain rfl : o = _ := (Option.some.inj ho).symm
    have d0 : L 0 = true := hdep ⟨0, .data⟩ (by simp) rfl
    have d1 : L 1 = true := hdep ⟨1, .data⟩ (by simp) rfl
    have d2 : L 2 = true := hdep ⟨2, .data⟩ (by simp) rfl
    have d3 : L 3 = true := hdep ⟨3, .data⟩ (by simp) rfl
    have d4 : L 4 = true := hdep ⟨4, .data⟩ (by simp) rfl
    have d5 : L 5 = true := hdep ⟨5, .data⟩ (by simp) rfl
    show wpOp _ _ _ 6 (fun a' W' => HF w c (upd L 6) a' W') a W
    unfold wpOp
    rw [ho]
    simp only
    rw [if_pos (by simp [Region.wanted])]
    refine Or.inl ?_
    unfold Oper.wp
    simp [execOp, Result.andThen]
    exact hf6 (W' := W) hI hL d0 ⟨d1, d2, d3, d4, d5⟩ rfl
  · obtain rfl : o = _ := (Option.some.inj ho).symm
    show wpOp _ _ _ 7 (fun a' W' => HF w c (upd L 7) a' W') a W
    unfold wpOp
    rw [ho]
    simp only
    rw [if_pos (by simp [Region.wanted])]
    refine Or.inl ?_
    unfold Oper.wp
    have e1 := hI.e1
    simp only [Act.eval, Array.getD_eq_getD_getElem?] at e1
    go_simp
    exact hf7 (W' := W) hI hL rfl
  · obtain rfl : o = _ := (Option.some.inj ho).symm
    have d7 : L 7 = true := hdep ⟨7, .data⟩ (by simp) rfl
    show wpOp _ _ _ 8 (fun a' W' => HF w c (upd L 8) a' W') a W
    unfold wpOp
    rw [ho]
    simp only
    rw [if_pos (by simp [Region.wanted])]
    refine Or.inl ?_
    unfold Oper.wp
    have e5 := hI.s5 d7
    obtain ⟨x0, x1, x2⟩ := box_cells hI.be
    simp only [Act.eval, Array.getD_eq_getD_getElem?] at e5
    go_simp
    exact hf8 (W' := W) hI hL rfl
  · obtain rfl : o = _ := (Option.some.inj ho).symm
    have d6 : L 6 = true := hdep ⟨6, .data⟩ (by simp) rfl
    have d8 : L 8 = true := hdep ⟨8, .data⟩ (by simp) rfl
    show wpOp _ _ _ 9 (fun a' W' => HF w c (upd L 9) a' W') a W
    unfold wpOp
    rw [ho]
    simp only
    rw [if_pos (by simp [Region.wanted])]
    refine Or.inl ?_
    unfold Oper.wp
    obtain ⟨h0, e4⟩ := hI.s4 d6
    obtain ⟨d1, d2, d3, d4, d5⟩ := hI.k6 d6
    obtain ⟨b, D, h1, h2, h3, h4⟩ := hI.m1 h0
    obtain ⟨z, hrun, hat, _⟩ := h3.lookup_int keyInt Tryz.underlying94 Tryz.underlying3 (zeroInt W) (keyOf_int_mk Tryz.underlying3 hkw)
    have e6 := hI.s6 d8
    have hz : z = v1 allL c.kind := by
      rw [h4] at hat
      injection hat with hat
      injection hat with _ hat
      rw [← hat]
      simp [v1, allL, d1, d2, d3, d4, d5]
    rw [h1] at e4
    simp [execOp, e4, e6, hrun, Result.andThen]
    exact hf9 (W' := W) hI hL (by rw [hz])
  · obtain rfl : o = _ := (Option.some.inj ho).symm
    show wpOp _ _ _ 10 (fun a' W' => HF w c (upd L 10) a' W') a W
    unfold wpOp
    rw [ho]
    simp only
    rw [if_pos (by simp [Region.wanted])]
    refine Or.inl ?_
    unfold Oper.wp
    simp [execOp, run_makeMap, Result.andThen]
    exact hf10 hI hL rfl rfl
  · obtain rfl : o = _ := (Option.some.inj ho).symm
    have d10 : L 10 = true := hdep ⟨10, .data⟩ (by simp) rfl
    show wpOp _ _ _ 11 (fun a' W' => HF w c (upd L 11) a' W') a W
    unfold wpOp
    rw [ho]
    simp only
    rw [if_pos (by simp [Region.wanted])]
    refine Or.inl ?_
    unfold Oper.wp
    obtain ⟨b, D, h1, h2, h3, h4⟩ := hI.m2 d10
    obtain ⟨w', hrun, r1, r2⟩ := h3.update keyBool Tryz.underlying95 (show (L 11).toNat < maxLen by have := Bool.toNat_le (L 11); unfold maxLen; omega) (keyOf_bool_mk Tryz.underlying4 true) (elemInt 1 wf1)
    simp [execOp, h1, ev_const, hrun, Result.andThen]
    exact hf11 (v := undef) hI hL d10 b D h1 h2 (isMap_owns h3) h4 r1 r2
  · obtain rfl : o = _ := (Option.some.inj ho).symm
    have d10 : L 10 = true := hdep ⟨10, .data⟩ (by simp) rfl
    have d11 : L 11 = true := hdep ⟨11, .data⟩ (by simp) rfl
    show wpOp _ _ _ 12 (fun a' W' => HF w c (upd L 12) a' W') a W
    unfold wpOp
    rw [ho]
    simp only
    rw [if_pos (by simp [Region.wanted])]
    refine Or.inl ?_
    unfold Oper.wp
    simp [execOp, Result.andThen]
    exact hf12 (W' := W) hI hL d10 d11 rfl
  · obtain rfl : o = _ := (Option.some.inj ho).symm
    show wpOp _ _ _ 13 (fun a' W' => HF w c (upd L 13) a' W') a W
    unfold wpOp
    rw [ho]
    simp only
    rw [if_pos (by simp [Region.wanted])]
    refine Or.inl ?_
    unfold Oper.wp
    have e1 := hI.e1
    obtain ⟨x0, x1, x2⟩ := box_cells hI.be
    simp only [Act.eval, Array.getD_eq_getD_getElem?] at e1
    go_simp
    exact hf13 (W' := W) hI hL rfl
  · obtain rfl : o = _ := (Option.some.inj ho).symm
    have d13 : L 13 = true := hdep ⟨13, .data⟩ (by simp) rfl
    show wpOp _ _ _ 14 (fun a' W' => HF w c (upd L 14) a' W') a W
    unfold wpOp
    rw [ho]
    simp only
    rw [if_pos (by simp [Region.wanted])]
    refine Or.inl ?_
    unfold Oper.wp
    have e10 := hI.s10 d13
    unfold Cmd.v at e10
    simp only [Act.eval, Array.getD_eq_getD_getElem?] at e10
    go_simp
    refine (isEach_ref c W).mono ?_
    rintro e w' ⟨rfl, hb⟩
    exact hf14 hI hL rfl hb
  · obtain rfl : o = _ := (Option.some.inj ho).symm
    have d12 : L 12 = true := hdep ⟨12, .data⟩ (by simp) rfl
    have d14 : L 14 = true := hdep ⟨14, .data⟩ (by simp) rfl
    show wpOp _ _ _ 15 (fun a' W' => HF w c (upd L 15) a' W') a W
    unfold wpOp
    rw [ho]
    simp only
    rw [if_pos (by simp [Region.wanted])]
    refine Or.inl ?_
    unfold Oper.wp
    obtain ⟨h0, e9⟩ := hI.s9 d12
    have d11 := hI.k12 d12
    obtain ⟨b, D, h1, h2, h3, h4⟩ := hI.m2 h0
    obtain ⟨z, hrun, hat, _⟩ := h3.lookup_int keyBool Tryz.underlying95 Tryz.underlying3 (zeroInt W) (keyOf_bool_mk Tryz.underlying4 (isEach c.kind))
    have e11 := hI.s11 d14
    have hz : z = v2 allL (isEach c.kind) := by
      rw [h4] at hat
      injection hat with hat
      injection hat with _ hat
      rw [← hat]
      simp [v2, allL, d11]
    rw [h1] at e9
    simp [execOp, e9, e11, hrun, Result.andThen]
    exact hf15 (W' := W) hI hL (by rw [hz])
  · obtain rfl : o = _ := (Option.some.inj ho).symm
    have d9 : L 9 = true := hdep ⟨9, .data⟩ (by simp) rfl
    have d15 : L 15 = true := hdep ⟨15, .data⟩ (by simp) rfl
    show wpOp _ _ _ 16 (fun a' W' => HF w c (upd L 16) a' W') a W
    unfold wpOp
    rw [ho]
    simp only
    rw [if_pos (by simp [Region.wanted])]
    refine Or.inl ?_
    unfold Oper.wp
    have e7 := hI.s7 d9
    have e12 := hI.s12 d15
    have hb := v_bounds c.kind
    simp only [Act.eval, Array.getD_eq_getD_getElem?] at e7 e12
    go_simp
    exact hf16 (W' := W) hI hL (by rw [IntKind.wrap_i64]; congr 1; omega)
  · obtain rfl : o = _ := (Option.some.inj ho).symm
    have d16 : L 16 = true := hdep ⟨16, .data⟩ (by simp) rfl
    show wpOp _ _ _ 17 (fun a' W' => HF w c (upd L 17) a' W') a W
    unfold wpOp
    rw [ho]
    simp only
    rw [if_pos (by simp [Region.wanted])]
    refine Or.inl ?_
    unfold Oper.wp
    have e13 := hI.s13 d16
    simp [execOp, Result.andThen]
    exact hf17 (W' := W) hI hL e13
end Go.Proofs.YtkifihcficobnaaGreatDoor
