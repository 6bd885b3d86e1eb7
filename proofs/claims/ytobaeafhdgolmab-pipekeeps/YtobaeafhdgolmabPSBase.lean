/- What walks over many pipes stand on: boxes, and bytes that can be read. -/
import Derived.Test.YtobaeafhdgolmabDevPipe4
import Derived.Test.YtobaeafhdgolmabRefPipe1
import Derived.Test.YtobaeafhdgolmabRefPipe2
namespace Go.Proofs.Ytobaeafhdgolmab
open Go.RowKit Go.Gs
set_option linter.unusedVariables false

theorem set4P {w : World} {k : Nat} {a b c d a' b' c' d' : Value} {t : TypeId} (h : w.heap[k]? = some (.cells #[a, b, c, d] t (0, 0))) :
    ((((w.setCell ⟨k, 0, none⟩ a').setCell ⟨k, 1, none⟩ b').setCell ⟨k, 2, none⟩ c').setCell ⟨k, 3, none⟩ d').heap[k]? = some (.cells #[a', b', c', d'] t (0, 0)) := by
  have h1 : (w.setCell ⟨k, 0, none⟩ a').heap[k]? = some (.cells #[a', b, c, d] t (0, 0)) := by rw [heap_setCell_same _ _ _ _ _ _ h]; rfl
  have h2 : ((w.setCell ⟨k, 0, none⟩ a').setCell ⟨k, 1, none⟩ b').heap[k]? = some (.cells #[a', b', c, d] t (0, 0)) := by rw [heap_setCell_same _ _ _ _ _ _ h1]; rfl
  have h3 : (((w.setCell ⟨k, 0, none⟩ a').setCell ⟨k, 1, none⟩ b').setCell ⟨k, 2, none⟩ c').heap[k]? = some (.cells #[a', b', c', d] t (0, 0)) := by rw [heap_setCell_same _ _ _ _ _ _ h2]; rfl
  rw [heap_setCell_same _ _ _ _ _ _ h3]
  rfl
theorem size4P {w : World} {k : Nat} {a b c d : Value} : ((((w.setCell ⟨k, 0, none⟩ a).setCell ⟨k, 1, none⟩ b).setCell ⟨k, 2, none⟩ c).setCell ⟨k, 3, none⟩ d).heap.size = w.heap.size := by simp
theorem PB.set4P {w w' : World} {ar : Option Addr} {cr : Nat} {bs : List UInt8} (h : PB w w' ar cr bs) {k : Nat} (hk : k < w.heap.size) (a b c d : Value) : PB w ((((w'.setCell ⟨k, 0, none⟩ a).setCell ⟨k, 1, none⟩ b).setCell ⟨k, 2, none⟩ c).setCell ⟨k, 3, none⟩ d) ar cr bs :=
  PB.setP (PB.setP (PB.setP (PB.setP h hk a) hk b) hk c) hk d
theorem PB.belP {w w' w'' : World} {ar : Option Addr} {cr : Nat} {bs : List UInt8} (h : PB w w' ar cr bs) (hb : Below w'.heap.size w' w'') : PB w w'' ar cr bs := ⟨Reads.below h.1 hb, h.2⟩
theorem over_eqP {N : Nat} : decide (N = 0) = ((N : Int) == 0) := by
  by_cases h : N = 0
  · subst h; rfl
  · rw [decide_eq_false h]; symm; simpa using h
theorem pairZP {a : List UInt8} {b : Int} {c d : Bool} {e r : Int} (h : ((⟨a, b, c, d⟩ : SPipe), e) = (zeroP, r)) : a = [] ∧ b = 0 ∧ c = false ∧ d = false ∧ e = r := by
  injection h with h1 h2
  injection h1 with h1 h3 h4 h5
  exact ⟨h1, h3, h4, h5, h2⟩
theorem pairOP {a a' : List UInt8} {b b' : Int} {c d c' d' : Bool} {e r : Int} (h : ((⟨a, b, c, d⟩ : SPipe), e) = (⟨a', b', c', d'⟩, r)) : a = a' ∧ b = b' ∧ c = c' ∧ d = d' ∧ e = r := by
  injection h with h1 h2
  injection h1 with h1 h3 h4 h5
  exact ⟨h1, h3, h4, h5, h2⟩
theorem tripZP {a : List UInt8} {b : Int} {c d : Bool} {n : Nat} {e r : Int} (h : ((⟨a, b, c, d⟩ : SPipe), n, e) = (zeroP, 0, r)) : a = [] ∧ b = 0 ∧ c = false ∧ d = false ∧ n = 0 ∧ e = r := by
  injection h with h1 h2
  injection h1 with h1 h3 h4 h5
  injection h2 with h2 h6
  exact ⟨h1, h3, h4, h5, h2, h6⟩
theorem tripRP {a : List UInt8} {b : Int} {c d : Bool} {g : List UInt8} {e r : Int} (h : ((⟨a, b, c, d⟩ : SPipe), g, e) = (zeroP, [], r)) : a = [] ∧ b = 0 ∧ c = false ∧ d = false ∧ g = [] ∧ e = r := by
  injection h with h1 h2
  injection h1 with h1 h3 h4 h5
  injection h2 with h2 h6
  exact ⟨h1, h3, h4, h5, h2, h6⟩
theorem tripOP {a a' : List UInt8} {b b' : Int} {c d c' d' : Bool} {g g' : List UInt8} {e r : Int} (h : ((⟨a, b, c, d⟩ : SPipe), g, e) = (⟨a', b', c', d'⟩, g', r)) : a = a' ∧ b = b' ∧ c = c' ∧ d = d' ∧ g = g' ∧ e = r := by
  injection h with h1 h2
  injection h1 with h1 h3 h4 h5
  injection h2 with h2 h6
  exact ⟨h1, h3, h4, h5, h2, h6⟩
theorem pnew_rangeP {room : Int} (h : room < 0 ∨ 1000 < room) : pnew room = (zeroP, 3) := by unfold pnew; rw [if_pos h]
theorem pnew_okP {room : Int} (h : ¬ (room < 0 ∨ 1000 < room)) : pnew room = (⟨[], room, false, false⟩, 0) := by unfold pnew; rw [if_neg h]
theorem pwrite_errP {p : SPipe} {cs : List UInt8} {r : Int} (h : pchk p = r) (h0 : r ≠ 0) : pwrite p cs = (zeroP, 0, r) := by unfold pwrite; rw [h, if_pos h0]
theorem pread_errP {p : SPipe} {m r : Int} (h : pchk p = r) (h0 : r ≠ 0) : pread p m = (zeroP, [], r) := by unfold pread; rw [h, if_pos h0]
theorem pclose_errP {p : SPipe} {r : Int} (h : pchk p = r) (h0 : r ≠ 0) : pclose p = (zeroP, r) := by unfold pclose; rw [h, if_pos h0]
theorem pshut_errP {p : SPipe} {r : Int} (h : pchk p = r) (h0 : r ≠ 0) : pshut p = (zeroP, r) := by unfold pshut; rw [h, if_pos h0]
theorem pclose_lateP {b : List UInt8} {r : Int} {s : Bool} (h : pchk ⟨b, r, true, s⟩ = 0) : pclose ⟨b, r, true, s⟩ = (zeroP, 7) := by unfold pclose; rw [if_neg (fun e => e h), if_pos rfl]
theorem pclose_goodP {b : List UInt8} {r : Int} {s : Bool} (h : pchk ⟨b, r, false, s⟩ = 0) : pclose ⟨b, r, false, s⟩ = (⟨b, r, true, s⟩, 0) := by unfold pclose; rw [if_neg (fun e => e h), if_neg (by simp)]
theorem pairSP {a a' : List UInt8} {b b' : Int} {c d c' d' : Bool} {e r : Int} (h : ((⟨a, b, c, d⟩ : SPipe), e) = (⟨a', b', c', d'⟩, r)) : a' = a ∧ b' = b ∧ c' = c ∧ d' = d ∧ r = e := by
  obtain ⟨h1, h2, h3, h4, h5⟩ := pairOP h
  exact ⟨h1.symm, h2.symm, h3.symm, h4.symm, h5.symm⟩
theorem tripSP {a a' : List UInt8} {b b' : Int} {c d c' d' : Bool} {g g' : List UInt8} {e r : Int} (h : ((⟨a, b, c, d⟩ : SPipe), g, e) = (⟨a', b', c', d'⟩, g', r)) : a' = a ∧ b' = b ∧ c' = c ∧ d' = d ∧ g' = g ∧ r = e := by
  obtain ⟨h1, h2, h3, h4, h5, h6⟩ := tripOP h
  exact ⟨h1.symm, h2.symm, h3.symm, h4.symm, h5.symm, h6.symm⟩
theorem pshut_okP {b : List UInt8} {r : Int} {c s : Bool} (h : pchk ⟨b, r, c, s⟩ = 0) : pshut ⟨b, r, c, s⟩ = (⟨[], r, c, true⟩, 0) := pshut_ok h
theorem pread_okP {b : List UInt8} {r : Int} {c s : Bool} {m : Int} (h : pchk ⟨b, r, c, s⟩ = 0) (h2 : ¬ (m < 0 ∨ 4000 < m)) : pread ⟨b, r, c, s⟩ m = (⟨b.drop (min m.toNat b.length), r, c, s⟩, b.take (min m.toNat b.length), 0) := pread_ok h h2
structure PA (w W : World) (L : List (Nat × Array Value)) (R : List (Option Addr × Nat × List UInt8)) : Prop where
  bel : Below w.heap.size w W
  box : ∀ x ∈ L, W.heap[x.1]? = some (.cells x.2 42 (0, 0))
  rds : ∀ r ∈ R, Reads W (.slice r.1 r.2.2.length r.2.1) r.2.2.length (r.2.2.map U)
theorem heap_ltP {W : World} {k : Nat} {o : Obj} (h : W.heap[k]? = some o) : k < W.heap.size := by
  rcases Nat.lt_or_ge k W.heap.size with h1 | h1
  · exact h1
  · rw [Array.getElem?_eq_none h1] at h; cases h
theorem PA.below {w W W' : World} {L : List (Nat × Array Value)} {R : List (Option Addr × Nat × List UInt8)} (h : PA w W L R) (hb : Below W.heap.size W W') : PA w W' L R :=
  ⟨h.bel.trans (hb.mono h.bel.size), fun x hx => (hb.block _ (heap_ltP (h.box x hx))).trans (h.box x hx), fun r hr => Reads.below (h.rds r hr) hb⟩
theorem PA.alloc {w W : World} {L : List (Nat × Array Value)} {R : List (Option Addr × Nat × List UInt8)} (h : PA w W L R) (cs : Array Value) : PA w (W.alloc (.cells cs 42)) ((W.heap.size, cs) :: L) R := by
  have h' := h.below (boxrP (w := W) (o := .cells cs 42))
  refine ⟨h'.bel, fun x hx => ?_, h'.rds⟩
  rcases List.mem_cons.1 hx with rfl | hx
  · exact heap_alloc_new W _
  · exact h'.box x hx
theorem PA.read {w W : World} {L : List (Nat × Array Value)} {R : List (Option Addr × Nat × List UInt8)} (h : PA w W L R) {a : Option Addr} {c : Nat} {bs : List UInt8} (hr : Reads W (.slice a bs.length c) bs.length (bs.map U)) : PA w W L ((a, c, bs) :: R) := by
  refine ⟨h.bel, h.box, fun r hr' => ?_⟩
  rcases List.mem_cons.1 hr' with rfl | hr'
  · exact hr
  · exact h.rds r hr'
theorem PA.start (w : World) : PA w w [] [] := ⟨Below.refl _ _, (fun x hx => by simp at hx), (fun r hr => by simp at hr)⟩

/-- 'string(b)' of any slice of bytes that can be read. -/
theorem convP {w : World} {v : Value} {bs : List UInt8} (h : Reads w v bs.length (bs.map U)) :
    (convert 40 9 v).run Try.prog w = .ok (.string ⟨bs.toArray⟩) w := by
  obtain ⟨hl, ao, cap, rfl, h2, h3, h4⟩ := h
  by_cases h0 : bs.length = 0
  · have hb : bs = [] := List.eq_nil_of_length_eq_zero h0
    subst hb
    cases ao with
    | none => exact run_convert_bytes_nil (P := Try.prog) w 40 5 Try.underlying40 Try.underlying5 _ _ 9 Try.underlying9
    | some a => exact run_convert_bytes_back (P := Try.prog) w 40 9 5 a cap [] Try.underlying40 Try.underlying5 Try.underlying9 (fun j hj => absurd hj (Nat.not_lt_zero _))
  · obtain ⟨b, off, rfl, hc⟩ := h4 h0
    refine run_convert_bytes_back (P := Try.prog) w 40 9 5 ⟨b, off, none⟩ cap bs Try.underlying40 Try.underlying5 Try.underlying9 (fun j hj => ?_)
    rw [addP, hc j (U bs[j]) (by simp [hj])]
    simp [U]
end Go.Proofs.Ytobaeafhdgolmab
