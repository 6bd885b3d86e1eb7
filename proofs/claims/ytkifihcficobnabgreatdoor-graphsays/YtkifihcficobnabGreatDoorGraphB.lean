/- What the developers' hasPort does. Ports as keys of a map that a call makes. What the developers' Check of graphs does. -/
import Derived.Test.YtkifihcficobnabGreatDoorGraphA
import Derived.Lib.QuietBelow
import Derived.BigQuiet
import Derived.Deep.QuietTactic
import Derived.Test.YtkifihcficobnabGreatDoorPlainE
import Derived.Test.YtkifihcficobnabGreatDoorProg
import Derived.WalkKit
import Derived.Maps.Own
import Derived.Maps.OwnOps
import Derived.Maps.OwnSet
import Derived.Maps.Views
import Derived.DeepKeys4
import Derived.MapViews
import Derived.ChangeSame
namespace Go.Proofs.YtkifihcficobnabGreatDoor
open Go.RowKit Go.Gs
set_option linter.unusedVariables false

theorem below_drewG (n k : Nat) (w : World) : Below n w (w.drewN k) := by
  induction k with
  | zero => exact Below.refl _ _
  | succ k ih => exact ih.drew
theorem pbox_cells {w w' : World} {a b : Value} {t : TypeId} (hb : Below (w.alloc (.cells #[a, b] t)).heap.size (w.alloc (.cells #[a, b] t)) w') : w'.cell? ⟨w.heap.size, 0, none⟩ = some a ∧ w'.cell? ⟨w.heap.size, 1, none⟩ = some b := by
  refine ⟨?_, ?_⟩
  all_goals
    rw [hb.cell (by simp), cell_of_row _ _ _ _ _ _ (heap_alloc_new w _)]
    rfl
theorem portOk_neg {ns : List SNode} {p : Int × Int} (h : ¬ 0 ≤ p.1) : portOk ns p = false := by unfold portOk; rw [decide_eq_false h]; rfl
theorem portOk_far {ns : List SNode} {p : Int × Int} (h : ¬ p.1 < ns.length) : portOk ns p = false := by unfold portOk; rw [decide_eq_false h]; simp
theorem portOk_out {ns : List SNode} {p : Int × Int} (h : ¬ 0 ≤ p.2) : portOk ns p = false := by unfold portOk; rw [decide_eq_false h]; simp
theorem portOk_at {ns : List SNode} {i : Nat} {q : Int} {n : SNode} (hn : ns[i]? = some n) (h : 0 ≤ q) : portOk ns ((i : Int), q) = decide (q < nouts n) := by
  have hi : i < ns.length := (List.getElem?_eq_some_iff.1 hn).1
  unfold portOk
  simp only [Int.toNat_natCast, hn, Option.map_some, Option.getD_some]
  rw [decide_eq_true (by omega : (0 : Int) ≤ (i : Int)), decide_eq_true (by omega : (i : Int) < (ns.length : Int)), decide_eq_true h]
  simp

set_option maxRecDepth 100000 in
set_option maxHeartbeats 8000000 in
theorem hasPort_is (ns : List SNode) (ao : Option Addr) (cap : Nat) (p q : Int) (w : World) (hr : RNodes w (.slice ao ns.length cap) ns) :
    Calls Tryz.prog 76 #[.slice ao ns.length cap, .agg #[.int .i64 p, .int .i64 q]] w fun e w' => e = .returned (.bool (portOk ns (p, q))) ∧ Below w.heap.size w w' := by
  have hle := rnodes_le hr
  have HR : Hid (RNodes w (.slice ao ns.length cap) ns) := hr
  obtain ⟨N, hN⟩ : ∃ N, N = ns.length := ⟨_, rfl⟩
  have HN : Hid (N = ns.length) := hN
  obtain ⟨r, hrr⟩ : ∃ r, r = portOk ns (p, q) := ⟨_, rfl⟩
  have HRR : Hid (r = portOk ns (p, q)) := hrr
  rw [← hN, ← hrr]
  rw [← hN] at HR hle
  clear hr hN hrr
  by_cases h0 : 0 ≤ p
  · by_cases hlt : p < N
    · by_cases hq : 0 ≤ q
      · obtain ⟨i, rfl⟩ := Int.eq_ofNat_of_zero_le h0
        obtain ⟨n, hn⟩ : ∃ n, ns[i]? = some n := ⟨_, List.getElem?_eq_getElem (by have := HN.out; omega)⟩
        obtain ⟨b, off, ai, ci, rfl, ⟨c0, c1, c2, c3, c4, c5, c6, c7⟩, _⟩ := HR.out.at hn
        have hrv : r = decide (q < nouts n) := by rw [HRR.out, portOk_at hn hq]
        have g0 : decide ((0 : Int) ≤ (i : Int)) = true := decide_eq_true h0
        have g1 : decide ((i : Int) < (N : Int)) = true := decide_eq_true hlt
        have g2 : decide (0 ≤ q) = true := decide_eq_true hq
        have cF : ∀ d os, Calls Tryz.prog 38 #[nodeV n ai n.ins.length ci] (Go.Sort.grow (redrawn (w.alloc (.cells #[.int .i64 (i : Int), .int .i64 q] 98)) d) os) fun e w'' => e = .returned (.int .i64 (nouts n)) ∧ ∃ p : Regrown, w'' = Go.Sort.grow (redrawn (w.alloc (.cells #[.int .i64 (i : Int), .int .i64 q] 98)) p.d) p.os := fun d os => Calls.regrown_of (outs_is n ai n.ins.length ci _)
        have hbx : ∀ {a : Addr} {v : Value}, w.cell? a = some v → ∀ d os, (Go.Sort.grow (redrawn (w.alloc (.cells #[.int .i64 (i : Int), .int .i64 q] 98)) d) os).cell? a = some v := fun h d os => cell_regrown ((box_of.cell (World.block_lt_of_cell? w _ h)).trans h) d os
        have k0 := hbx c0
        have k1 := hbx c1
        have k2 := hbx c2
        have k3 := hbx c3
        have k4 := hbx c4
        have k5 := hbx c5
        have k6 := hbx c6
        have k7 := hbx c7
        obtain ⟨y0, y1⟩ := pbox_cells (w := w) (a := .int .i64 (i : Int)) (b := .int .i64 q) (t := 98) (Below.refl _ _)
        have z0 := fun d os => cell_regrown y0 d os
        have z1 := fun d os => cell_regrown y1 d os
        unfold nodeV at cF
        generalize nouts n = no at *
        generalize (⟨n.file.toArray⟩ : ByteArray) = fx at *
        generalize (⟨n.c.word.toArray⟩ : ByteArray) = wx at *
        generalize n.c.kind = ck at *
        generalize n.c.n = cn at *
        generalize n.how = hw at *
        generalize n.wide = wd at *
        generalize n.kind = k at *
        generalize n.ins.length = ni at *
        clear c0 c1 c2 c3 c4 c5 c6 c7 hbx HR HRR hn
        subst hrv
        go_enter Tryz.func76, Tryz.ntmps76
        go_wp2_with fail
        refine wp_region_quiet_below (by kernel_rfl) (by kernel_rfl) ?_
        repeat (first | go_big_quiet_step (exact cF _ _) | quiet_step (exact cF _ _))
        refine wpQuiet_nil ?_
        intro _ hw'
        obtain ⟨⟨dq, osq⟩, hw''⟩ := hw'
        subst hw''
        clear cF k0 k1 k2 k3 k4 k5 k6 k7 z0 z1 y0 y1
        go_wp2_with fail
        go_ret
        exact ⟨rfl, box_of.trans ((below_regrown _ dq osq).mono (by simp))⟩
      · have hrf : r = false := by rw [HRR.out, portOk_out hq]
        subst hrf
        have g0 : decide (0 ≤ p) = true := decide_eq_true h0
        have g1 : decide (p < (N : Int)) = true := decide_eq_true hlt
        have g2 : decide (0 ≤ q) = false := decide_eq_false hq
        clear HR HRR
        go_enter Tryz.func76, Tryz.ntmps76
        go_wp2_with fail
        go_quiet (fail)
        go_wp2_with fail
        go_ret
        exact ⟨rfl, box_of.trans (below_drewG _ _ _)⟩
    · have hrf : r = false := by rw [HRR.out, portOk_far (by rw [← HN.out]; exact hlt)]
      subst hrf
      have g0 : decide (0 ≤ p) = true := decide_eq_true h0
      have g1 : decide (p < (N : Int)) = false := decide_eq_false hlt
      clear HR HRR
      go_enter Tryz.func76, Tryz.ntmps76
      go_wp2_with fail
      go_quiet (fail)
      go_wp2_with fail
      go_ret
      exact ⟨rfl, box_of.trans (below_drewG _ _ _)⟩
  · have hrf : r = false := by rw [HRR.out, portOk_neg h0]
    subst hrf
    have g0 : decide (0 ≤ p) = false := decide_eq_false h0
    clear HR HRR
    go_enter Tryz.func76, Tryz.ntmps76
    go_wp2_with fail
    go_quiet (fail)
    go_wp2_with fail
    go_ret
    exact ⟨rfl, box_of.trans (below_drewG _ _ _)⟩
end Go.Proofs.YtkifihcficobnabGreatDoor
namespace Go.Proofs.YtkifihcficobnabGreatDoor
open Go.RowKit Go.Gs Go.Maps Go.ChangeShapes Go.WideShapes
set_option linter.unusedVariables false

theorem laidOutG : laidOutB Tryz.prog = true := by kernel_rfl
theorem portRow : (98 : TypeId) < Tryz.prog.types.size := of_decide_eq_true (by kernel_rfl)
theorem portWide : (match Tryz.prog.underlying 98 with | some (.array _ _) | some (.struct _) => true | _ => false) = true := by rw [Tryz.underlying98]
theorem portAt2 : Tryz.prog.keyTypeAt 2 98 = true := by kernel_rfl
theorem portTiled : Tryz.prog.tiled 2 98 = true := by kernel_rfl
set_option maxRecDepth 100000 in
theorem portLaw : Go.WideMaps.KeyLaw Tryz.prog 98 := deep_law (m := 2) (by omega) portAt2 portTiled portWide
theorem portKeyed : Keyed Tryz.prog 98 := Keyed.of_law portLaw
set_option maxRecDepth 100000 in
theorem portDeep : Tryz.prog.keyTypeAt (Tryz.prog.types.size + 1) 98 = true := by kernel_rfl
theorem portCells : Tryz.prog.cellsOf 98 = 2 := by kernel_rfl
/-- A port as a value. -/
def portV (p : Int × Int) : Value := .agg #[.int .i64 p.1, .int .i64 p.2]
theorem portFormed (p : Int × Int) : (portV p).formed Tryz.prog 98 = true := by simp [portV, Value.formed, Tryz.underlying98, portCells]
def WfP (p : Int × Int) : Prop := (Lit.int .i64 p.1).wf = true ∧ (Lit.int .i64 p.2).wf = true
theorem intCells : Tryz.prog.cellsOf 3 = 1 := by kernel_rfl
theorem port_trod (w : World) (p : Int × Int) (h : WfP p) : DataW.Trod (H := Unit) (fun _ => ()) Tryz.prog w 0 (fun _ => true) false 98 (portV p) (.agg [.lit (.int .i64 p.1), .lit (.int .i64 p.2)]) [] := by
  refine ⟨2, ?_⟩
  have := trod_struct2_mk (H := Unit) (enc := fun _ => ()) (P := Tryz.prog) (w := w) (base := 0) (spare := fun _ => true) (held := false) (n := 1) (cs := [.int .i64 p.1, .int .i64 p.2]) (y0 := (.lit (.int .i64 p.1), [])) (y1 := (.lit (.int .i64 p.2), [])) Tryz.underlying98 (by rw [portCells]; rfl)
    (by simp only [intCells]; exact trod_int_mk 0 Tryz.underlying3 h.1) (by simp only [intCells]; exact trod_int_mk 0 Tryz.underlying3 h.2)
  simpa [portV, Value.cells] using this
/-- A port as a key. -/
def portK (p : Int × Int) : Lit := (DataW.agg [.lit (.int .i64 p.1), .lit (.int .i64 p.2)] : DataW Unit).asKey
set_option maxRecDepth 100000 in
theorem port_key (w : World) (p : Int × Int) (h : WfP p) : keyOf Tryz.prog 98 (portV p) = some (portK p) := (keyOf_asKey portDeep portWide (portFormed p) (port_trod w p h)).1
set_option maxRecDepth 100000 in
theorem portK_inj (w : World) {p q : Int × Int} (hp : WfP p) (hq : WfP q) (h : portK p = portK q) : p = q := by
  have h1 := port_key w p hp
  have h2 := port_key w q hq
  rw [← h] at h2
  have := keyOf_inj_deep portTiled portWide h1 h2
  simp only [portV, Value.agg.injEq, Array.mk.injEq, List.cons.injEq, Value.int.injEq, true_and, and_true] at this
  exact Prod.ext this.1 this.2
set_option maxRecDepth 100000 in
theorem portK_key (w : World) (p : Int × Int) (h : WfP p) : WideAt.IsKeyLit (portK p) := portKeyed.key (port_key w p h)

/-- The map whose block is 'b' holds just the ports of 't' as keys. -/
def PortsAre (w : World) (R : Value → Option (DataW Unit × List MemPlace)) (b n : Nat) (t : List (Int × Int)) : Prop :=
  ∃ D : DataW Unit, w.ownsMap Tryz.prog 98 R b n D ∧ (∀ p, WfP p → Go.Maps.has D (portK p) = decide (p ∈ t)) ∧ Go.Maps.size D = t.length ∧ ∀ p ∈ t, WfP p
end Go.Proofs.YtkifihcficobnabGreatDoor
namespace Go.Proofs.YtkifihcficobnabGreatDoor
open Go.RowKit Go.Gs
set_option linter.unusedVariables false

theorem grown_none {w w' : World} (hb : Below w.heap.size w w') : w.grownBy w' none := ⟨hb.os, hb.tape, hb.output, hb.size, fun k hk _ => hb.block k hk⟩
theorem PortsAre.below {w w' : World} {R : Value → Option (DataW Unit × List MemPlace)} {b n : Nat} {t : List (Int × Int)} (h : PortsAre w R b n t) (hb : Below w.heap.size w w') : PortsAre w' R b n t := by
  obtain ⟨D, h1, h2⟩ := h
  exact ⟨D, h1.kept (grown_none hb) (by simp), h2⟩
theorem PortsAre.put {w w' W : World} {R : Value → Option (DataW Unit × List MemPlace)} {b n : Nat} {t : List (Int × Int)} {D d : DataW Unit} {p : Int × Int} (h1 : w.ownsMap Tryz.prog 98 R b n D) (h2 : ∀ p, WfP p → Go.Maps.has D (portK p) = decide (p ∈ t)) (h3 : Go.Maps.size D = t.length) (h4 : ∀ p ∈ t, WfP p)
    (hp : WfP p) (hn : p ∉ t) (ho : w'.ownsMap Tryz.prog 98 R b (n + 1) (D.put (portK p) d)) : PortsAre w' R b (n + 1) (t ++ [p]) := by
  refine ⟨_, ho, fun q hq => ?_, ?_, ?_⟩
  · by_cases e : q = p
    · subst e
      rw [Go.Maps.has_put_same h1.isMap (portK_key w q hq)]
      simp
    · rw [Go.Maps.has_put_other (fun h => e (portK_inj w hq hp h)), h2 q hq]
      simp [e]
  · rw [Go.Maps.size_put (h1.tidy portKeyed), h2 p hp, decide_eq_false hn, h3]
    simp
  · intro q hq
    rcases List.mem_append.1 hq with hq | hq
    · exact h4 q hq
    · rw [List.mem_singleton.1 hq]; exact hp
theorem ports_made (w : World) (o : Obj) (R : Value → Option (DataW Unit × List MemPlace)) : PortsAre ((w.alloc o).alloc (.map #[] 0)) R (w.heap.size + 1) 0 [] := by
  refine ⟨.map [], ?_, fun p _ => by simp [Go.Maps.has], by simp [Go.Maps.size], by simp⟩
  have := World.ownsMap_made (w.alloc o) Tryz.prog 98 R
  simpa using this
theorem ins_below {w w1 w2 : World} {o : Obj} (h : Below (w.heap.size + 1) (w.alloc o) w1) (hg : w1.grownBy w2 (some (w.heap.size + 1))) : Below (w.heap.size + 1) (w.alloc o) w2 :=
  h.grown hg (by have := h.size; simpa using this) (fun k hk => by simp only [Option.some.injEq] at hk; omega)
theorem gbox_cell {w w' : World} {a : Value} {t : TypeId} (hb : Below (w.heap.size + 1) (w.alloc (.cells #[a] t)) w') : w'.cell? ⟨w.heap.size, 0, none⟩ = some a := by
  rw [hb.cell (by simp), cell_of_row _ _ _ _ _ _ (heap_alloc_new w _)]
  rfl
/-- Eight cells of a block. -/
def Cells8 (w : World) (b : Nat) (x0 x1 x2 x3 x4 x5 x6 x7 : Value) : Prop :=
  w.cell? ⟨b, 0, none⟩ = some x0 ∧ w.cell? ⟨b, 1, none⟩ = some x1 ∧ w.cell? ⟨b, 2, none⟩ = some x2 ∧ w.cell? ⟨b, 3, none⟩ = some x3 ∧ w.cell? ⟨b, 4, none⟩ = some x4 ∧ w.cell? ⟨b, 5, none⟩ = some x5 ∧ w.cell? ⟨b, 6, none⟩ = some x6 ∧ w.cell? ⟨b, 7, none⟩ = some x7
theorem Cells8.grown {w w' : World} {b : Nat} {x0 x1 x2 x3 x4 x5 x6 x7 : Value} {row : Option Nat} (h : Cells8 w b x0 x1 x2 x3 x4 x5 x6 x7) (hg : w.grownBy w' row) (hne : some b ≠ row) : Cells8 w' b x0 x1 x2 x3 x4 x5 x6 x7 := by
  obtain ⟨a0, a1, a2, a3, a4, a5, a6, a7⟩ := h
  have hlt : b < w.heap.size := World.block_lt_of_cell? w _ a0
  have k : ∀ (i : Nat) (v : Value), w.cell? ⟨b, i, none⟩ = some v → w'.cell? ⟨b, i, none⟩ = some v := fun i v hv => (show w'.cell? ⟨b, i, none⟩ = w.cell? ⟨b, i, none⟩ from World.cell?_of_block (hg.block b hlt hne)).trans hv
  exact ⟨k 0 _ a0, k 1 _ a1, k 2 _ a2, k 3 _ a3, k 4 _ a4, k 5 _ a5, k 6 _ a6, k 7 _ a7⟩
theorem Cells8.below {w w' : World} {b : Nat} {x0 x1 x2 x3 x4 x5 x6 x7 : Value} (h : Cells8 w b x0 x1 x2 x3 x4 x5 x6 x7) (hb : Below w.heap.size w w') : Cells8 w' b x0 x1 x2 x3 x4 x5 x6 x7 := h.grown (grown_none hb) (by simp)

theorem allOuts_take {ns : List SNode} {k : Nat} {n : SNode} (h : ns[k]? = some n) : allOuts (ns.take (k + 1)) = allOuts (ns.take k) + nouts n := by
  unfold allOuts
  rw [take_node h, List.map_append, List.sum_append]
  simp
theorem nouts_small {n : SNode} (h : nodeChk n = 0) : 0 ≤ nouts n ∧ nouts n ≤ 5 := by
  obtain ⟨h1, _, _⟩ := node_kinds h
  unfold nouts
  rcases used_kinds h1 with ⟨h3 | h3, _⟩ | ⟨h3, h4, h5⟩ | ⟨h3, h4⟩ | ⟨h3, h4⟩
  · rw [if_neg (by omega), if_neg (by omega)]; omega
  · rw [if_neg (by omega), if_pos h3]; omega
  · rw [if_pos h3]; omega
  · rw [if_neg (by omega), if_neg (by omega)]; omega
  · rw [if_neg (by omega), if_neg (by omega)]; omega
theorem ins_small {n : SNode} (h : nodeChk n = 0) : n.ins.length ≤ 5 := by
  obtain ⟨h1, h2, _⟩ := node_kinds h
  unfold mayHave at h2
  by_cases g1 : n.kind = 1
  · rw [if_pos g1] at h2; have := of_decide_eq_true h2; omega
  · rw [if_neg g1] at h2
    by_cases g4 : n.kind = 4
    · rw [if_pos g4] at h2; exact (of_decide_eq_true h2).2
    · rw [if_neg g4] at h2; have := of_decide_eq_true h2; omega

/-! ### One step of what is reckoned -/

theorem chk_node {ns ahead r : List SNode} {n : SNode} {t : List (Int × Int)} (h : gchkL [] ns [] = gchkL ahead (n :: r) t) (hn : nodeChk n ≠ 0) : (gchkL [] ns []).1 = nodeChk n := by
  rw [h]; unfold gchkL; rw [if_pos hn]
theorem chk_ins {ns ahead r : List SNode} {n : SNode} {t : List (Int × Int)} (h : gchkL [] ns [] = gchkL ahead (n :: r) t) (hn : nodeChk n = 0) (hi : (insChk ahead n.ins t).1 ≠ 0) : (gchkL [] ns []).1 = (insChk ahead n.ins t).1 := by
  rw [h]; unfold gchkL; rw [if_neg (by simp [hn]), if_pos hi]
theorem chk_last {ns ahead r : List SNode} {n : SNode} {t : List (Int × Int)} (h : gchkL [] ns [] = gchkL ahead (n :: r) t) (hn : nodeChk n = 0) (hi : (insChk ahead n.ins t).1 = 0) (hl : r.isEmpty ≠ decide (n.kind = 5)) : (gchkL [] ns []).1 = 4 := by
  rw [h]; unfold gchkL; rw [if_neg (by simp [hn]), if_neg (by simp [hi]), if_pos hl]
theorem chk_next {ns ahead r : List SNode} {n : SNode} {t : List (Int × Int)} (h : gchkL [] ns [] = gchkL ahead (n :: r) t) (hn : nodeChk n = 0) (hi : (insChk ahead n.ins t).1 = 0) (hl : r.isEmpty = decide (n.kind = 5)) : gchkL [] ns [] = gchkL (ahead ++ [n]) r (insChk ahead n.ins t).2 := by
  rw [h]; conv => lhs; unfold gchkL
  rw [if_neg (by simp [hn]), if_neg (by simp [hi]), if_neg (by simp [hl])]
theorem ins_who {ahead : List SNode} {ps t t' r : List (Int × Int)} {p : Int × Int} (h : insChk ahead ps t = insChk ahead (p :: r) t') (hp : portOk ahead p = false) : (insChk ahead ps t).1 = 5 := by
  rw [h]; unfold insChk; rw [if_pos hp]
theorem ins_twice {ahead : List SNode} {ps t t' r : List (Int × Int)} {p : Int × Int} (h : insChk ahead ps t = insChk ahead (p :: r) t') (hp : portOk ahead p = true) (ht : p ∈ t') : (insChk ahead ps t).1 = 6 := by
  rw [h]; unfold insChk; rw [if_neg (by simp [hp]), if_pos ht]
theorem ins_next {ahead : List SNode} {ps t t' r : List (Int × Int)} {p : Int × Int} (h : insChk ahead ps t = insChk ahead (p :: r) t') (hp : portOk ahead p = true) (ht : p ∉ t') : insChk ahead ps t = insChk ahead r (t' ++ [p]) := by
  rw [h]; conv => lhs; unfold insChk
  rw [if_neg (by simp [hp]), if_neg ht]
theorem ins_done {ahead : List SNode} {ps t t' : List (Int × Int)} (h : insChk ahead ps t = insChk ahead [] t') : insChk ahead ps t = (0, t') := by
  rw [h]; rfl
theorem gchk_many {ns : List SNode} (h : 60 < ns.length) : gchk ns = 2 := by unfold gchk; rw [if_pos h]
theorem gchk_bad {ns : List SNode} (h : ns.length ≤ 60) {r : Int} (hr : (gchkL [] ns []).1 = r) (h0 : r ≠ 0) : gchk ns = r := by unfold gchk; rw [if_neg (by omega), if_pos (by rw [hr]; exact h0), hr]
theorem gchk_end {ns : List SNode} (h : ns.length ≤ 60) {t : List (Int × Int)} (hr : gchkL [] ns [] = (0, t)) : gchk ns = if ns.length = 0 ∨ (t.length : Int) ≠ allOuts ns then 4 else 0 := by
  unfold gchk
  rw [if_neg (by omega), hr]
  simp
theorem drop_port {ps : List (Int × Int)} {k : Nat} {p : Int × Int} (h : ps[k]? = some p) : ps.drop k = p :: ps.drop (k + 1) := by
  obtain ⟨hk, e⟩ := List.getElem?_eq_some_iff.1 h
  rw [← e, ← List.drop_eq_getElem_cons hk]
end Go.Proofs.YtkifihcficobnabGreatDoor
