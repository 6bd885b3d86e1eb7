/- slices.DeleteFunc at files in a row of one's own, by ShellParts' closure. -/
import Derived.Test.YtkifihcficobnabGreatDoorShP1
import Derived.Lib.SliceRun
namespace Go.Proofs.YtkifihcficobnabGreatDoor
open Go.RowKit Go.Gs
set_option linter.unusedVariables false

theorem run_clear_row {P : Program} (w : World) (t e ty : TypeId) (z : Value) (ht : P.underlying t = some (.slice e)) (hv : ∀ w, (zeroValue e).run P w = .ok z w) (g o n c : Nat) (hn : 0 < n) (cur : Array Value) (te : TypeId) (hg : w.heap[g]? = some (.cells cur te (0, 0))) (hfit : o + (Builtin.zeroCells z.cells n).size ≤ cur.size) (h1 : ∀ v ∈ (Builtin.zeroCells z.cells n).toList, v.oneCell' = true) :
    (Builtin.clear_ #[t] ty #[.slice (some ⟨g, o, none⟩) n c]).run P w = .ok (.tuple #[]) (w.setRow g (cur.toList.take o ++ (Builtin.zeroCells z.cells n).toList ++ cur.toList.drop (o + (Builtin.zeroCells z.cells n).size)).toArray) := by
  have hst := run_storeCells_at P g o te (Builtin.zeroCells z.cells n).toList 0 cur w hg (by simpa using hfit) h1
  obtain ⟨m, rfl⟩ : ∃ m, n = m + 1 := ⟨n - 1, by omega⟩
  simp [Builtin.clear_, run_underlying ht, hv, hst]
theorem zeroF_one (n : Nat) : ∀ v ∈ (Builtin.zeroCells (Value.agg #[.string ⟨#[]⟩, .slice none 0 0]).cells n).toList, v.oneCell' = true := by
  intro v hv
  simp [Builtin.zeroCells] at hv
  obtain ⟨i, _, rfl⟩ := hv
  have h2 : (Value.agg #[.string ⟨#[]⟩, .slice none 0 0]).cells.size = 2 := rfl
  rw [h2]
  rcases Nat.mod_two_eq_zero_or_one i with h | h <;> rw [h] <;> rfl
theorem wpList_clear_run {P : Program} (w : World) {ops : Array Oper} {rest : List Oper} {o : Oper} {a : Act} {Q : Exit → Act → World → Prop} (hgd : o.guard = none) (d : Operand) (t : TypeId)
    (ho : o.op = .call { callee := .builtin .clear, args := #[d], argTypes := #[t] }) (v : Value) (hd : a.eval d = v) {v' : Value} {w' : World}
    (hr : (Builtin.clear_ #[t] o.type #[v]).run P w = .ok v' w') (h : wpList P ops Q rest (a.put o.dst v') w') : wpList P ops Q (o :: rest) a w := by
  refine wpList_plain hgd fun K hK => ?_
  unfold Oper.wp
  simp [execOp, ho, resolve, invoke, builtin, hd, hr, Result.andThen]
  exact hK _ _ h
/-- A whole file put at a place of the row. -/
theorem _root_.Go.Gs.FO.put {w : World} {B : Nat} {e : TypeId} {g n cap : Nat} {rows : List FRow} (h : FO w B e (.slice (some ⟨g, 0, none⟩) n cap) rows) {k : Nat} (hk : k < rows.length) {r : FRow} (hr : GoodO w (some g) r) :
    FO ((w.setCell ⟨g, k * 2, none⟩ (.string ⟨r.1.name.toArray⟩)).setCell ⟨g, k * 2 + 1, none⟩ (.slice r.2.1 r.2.2.1 r.2.2.2)) B e (.slice (some ⟨g, 0, none⟩) n cap) (rows.set k r) := by
  have hnn : n = rows.length := by
    rcases h.own.2 with ⟨h2, _⟩ | ⟨_, _, _, h2, _⟩
    · cases h2
    · injection h2
  subst hnn
  have h1 := owns_set h.own (k * 2) (by omega) (.string ⟨r.1.name.toArray⟩)
  have h2 := owns_set h1 (k * 2 + 1) (by omega) (.slice r.2.1 r.2.2.1 r.2.2.2)
  have hcells : ∀ (l : List FRow) (k : Nat), k < l.length → ((rowCells l).set (k * 2) (.string ⟨r.1.name.toArray⟩)).set (k * 2 + 1) (.slice r.2.1 r.2.2.1 r.2.2.2) = rowCells (l.set k r) := by
    intro l
    induction l with
    | nil => intro k hk; simp at hk
    | cons d l ih =>
      intro k hk
      cases k with
      | zero => simp [rowCells, encF]
      | succ k =>
        rw [List.set_cons_succ, rowCells_cons, rowCells_cons, ← ih k (by simpa using hk), List.set_append_right _ _ (by simp [encF]; omega), List.set_append_right _ _ (by simp [encF]; omega), show (k + 1) * 2 - (encF d).length = k * 2 by simp [encF]; omega, show (k + 1) * 2 + 1 - (encF d).length = k * 2 + 1 by simp [encF]; omega]
  have hkeep : ∀ q, q < w.heap.size → some g ≠ some q → ((w.setCell ⟨g, k * 2, none⟩ (.string ⟨r.1.name.toArray⟩)).setCell ⟨g, k * 2 + 1, none⟩ (.slice r.2.1 r.2.2.1 r.2.2.2)).heap[q]? = w.heap[q]? := fun q _ hq => by
    rw [Below.heap_setCell _ _ _ _ (fun e => hq (by rw [e])), Below.heap_setCell _ _ _ _ (fun e => hq (by rw [e]))]
  refine ⟨by rw [List.length_set, ← hcells rows k hk]; exact h2, fun x hx => ?_⟩
  rcases List.mem_or_eq_of_mem_set hx with hx | rfl
  · exact (h.good x hx).keep hkeep
  · exact hr.keep hkeep
/-- What DeleteFunc keeps. -/
def keptF (fr : List (List UInt8)) (fs : List SFile) : List SFile := fs.filter (fun f => amongB fr f.name)
theorem kept_all {fr : List (List UInt8)} {fs : List SFile} (h : ∀ f ∈ fs, amongB fr f.name = true) : keptF fr fs = fs := List.filter_eq_self.2 h
theorem kept_snoc (fr : List (List UInt8)) (fs : List SFile) (f : SFile) : keptF fr (fs ++ [f]) = keptF fr fs ++ (if amongB fr f.name = true then [f] else []) := by
  unfold keptF
  rw [List.filter_append]
  cases h : amongB fr f.name <;> simp [h]
/-- The row in the midst of DeleteFunc. -/
structure DelAt (w0 wr : World) (g N cap i j : Nat) (fr : List (List UInt8)) (rows rows' : List FRow) : Prop where
  fo : FO wr w0.heap.size 45 (.slice (some ⟨g, 0, none⟩) N cap) rows'
  len : rows'.length = N
  ij : i < j
  jN : j ≤ N
  head : (rows'.take i).map (·.1) = keptF fr ((rows.take j).map (·.1))
  tail : rows'.drop j = rows.drop j
  bel : Below w0.heap.size w0 wr
theorem DelAt.skip {w0 wr w' : World} {g N cap i j : Nat} {fr : List (List UInt8)} {rows rows' : List FRow} {r : FRow} (h : DelAt w0 wr g N cap i j fr rows rows') (hb : Below wr.heap.size wr w') (hr : rows[j]? = some r) (hn : amongB fr r.1.name = false) (hj : j < N) : DelAt w0 w' g N cap i (j + 1) fr rows rows' :=
  ⟨h.fo.below hb, h.len, by have := h.ij; omega, by omega, by rw [List.take_add_one, hr, Option.toList_some, List.map_append, List.map_singleton, kept_snoc, hn, if_neg (by simp), List.append_nil]; exact h.head, by rw [← List.drop_drop, h.tail, List.drop_drop], h.bel.trans (hb.mono h.bel.size)⟩
theorem DelAt.at {w0 wr : World} {g N cap i j : Nat} {fr : List (List UInt8)} {rows rows' : List FRow} (h : DelAt w0 wr g N cap i j fr rows rows') (hj : j < N) : ∃ r, rows'[j]? = some r ∧ rows[j]? = some r := by
  have h1 : rows'[j]? = some (rows'[j]'(by rw [h.len]; exact hj)) := List.getElem?_eq_getElem _
  refine ⟨_, h1, ?_⟩
  have h2 := congrArg (fun l => l[0]?) h.tail
  simp only [List.getElem?_drop, Nat.add_zero] at h2
  rw [← h2, h1]
theorem DelAt.take {w0 wr w' : World} {g N cap i j : Nat} {fr : List (List UInt8)} {rows rows' : List FRow} {r : FRow} (h : DelAt w0 wr g N cap i j fr rows rows') (hb : Below wr.heap.size wr w') (hr' : rows'[j]? = some r) (hr : rows[j]? = some r) (hn : amongB fr r.1.name = true) (hj : j < N) (hg : w0.heap.size ≤ g) :
    DelAt w0 ((w'.setCell ⟨g, i * 2, none⟩ (.string ⟨r.1.name.toArray⟩)).setCell ⟨g, i * 2 + 1, none⟩ (.slice r.2.1 r.2.2.1 r.2.2.2)) g N cap (i + 1) (j + 1) fr rows (rows'.set i r) := by
  have hij := h.ij
  have hl := h.len
  refine ⟨(h.fo.below hb).put (by omega) ((h.fo.below hb).good r (List.mem_of_getElem? hr')), by rw [List.length_set]; exact hl, by omega, by omega, ?_, ?_, ((h.bel.trans (hb.mono h.bel.size)).setCell (p := ⟨g, i * 2, none⟩) hg _).setCell (p := ⟨g, i * 2 + 1, none⟩) hg _⟩
  · rw [List.take_add_one (l := rows), hr, Option.toList_some, List.map_append, List.map_singleton, kept_snoc, hn, if_pos rfl, ← h.head, List.take_add_one, List.take_set_of_le (Nat.le_refl _), List.getElem?_set_self (by omega), Option.toList_some, List.map_append]
    rfl
  · rw [List.drop_set_of_lt (by omega), ← List.drop_drop, h.tail, List.drop_drop]
theorem DelAt.done {w0 wr w' : World} {g N cap i j : Nat} {fr : List (List UInt8)} {rows rows' : List FRow} (h : DelAt w0 wr g N cap i j fr rows rows') (hj : j = N) (hN : rows.length = N) (cs : Array Value) (hw : w' = wr.setRow g cs) (hcs : ∀ q, q < i * 2 → cs[q]? = wr.cell? ⟨g, q, none⟩) (hg : w0.heap.size ≤ g) : RFiles w' (.slice (some ⟨g, 0, none⟩) i cap) (keptF fr (rows.map (·.1))) ∧ Below w0.heap.size w0 w' := by
  subst hw
  have hij := h.ij
  have hl := h.len
  have hd : keptF fr (rows.map (·.1)) = (rows'.take i).map (·.1) := by rw [h.head, hj, List.take_of_length_le (by omega)]
  obtain ⟨cur, hcur, hcap1, hcap2⟩ : ∃ cur : Array Value, wr.heap[g]? = some (.cells cur 45 (0, 0)) ∧ N ≤ cap ∧ cap ≤ maxLen := by
    rcases h.fo.own.2 with ⟨h2, _⟩ | ⟨g', c', cur, h2, _, hg', h3, h4, _⟩
    · cases h2
    · injection h2 with e1 e2 e3
      injection e1 with e1
      injection e1 with e1
      subst e1 e3
      exact ⟨cur, hg', by omega, h4⟩
  refine ⟨?_, h.bel.trans ⟨rfl, rfl, rfl, by simp, fun k hk => setRow_other _ _ _ _ (by omega)⟩⟩
  rw [hd]
  have hlen : ((rows'.take i).map (·.1)).length = i := by rw [List.length_map, List.length_take]; omega
  refine ⟨_, cap, by rw [hlen], by omega, hcap2, fun _ => ⟨g, 0, rfl, fun q f hq => ?_⟩⟩
  rw [List.getElem?_map] at hq
  cases hr : (rows'.take i)[q]? with
  | none => rw [hr] at hq; cases hq
  | some r =>
    rw [hr] at hq
    simp only [Option.map_some, Option.some.injEq] at hq
    subst hq
    have hqi : q < i := by
      have := (List.getElem?_eq_some_iff.1 hr).1
      rw [List.length_take] at this
      omega
    rw [List.getElem?_take, if_pos hqi] at hr
    obtain ⟨c0, c1, _⟩ := h.fo.cells2 hr
    have hgd := (h.fo.good r (List.mem_of_getElem? hr)).keep (w' := wr.setRow g cs) (fun k _ hk => setRow_other _ _ _ _ (fun e => hk (by rw [e]; rfl)))
    refine ⟨_, ?_, ?_, hgd.2.1⟩
    · rw [Nat.zero_add, cell_setRow_same _ _ _ _ _ _ _ hcur, hcs _ (by omega)]; exact c0
    · rw [Nat.zero_add, cell_setRow_same _ _ _ _ _ _ _ hcur, hcs _ (by omega)]; exact c1

set_option maxRecDepth 100000 in
set_option maxHeartbeats 8000000 in
theorem deleteF_is (v : Value) (rows : List FRow) (bx : Nat) (af : Option Addr) (cf : Nat) (fr : List (List UInt8)) (w0 w : World) (hFO : FO w w0.heap.size 45 v rows) (hn12 : rows.length ≤ 12) (hbel : Below w0.heap.size w0 w) (hb : w0.cell? ⟨bx, 0, none⟩ = some (.slice af fr.length cf)) (hf : Reads w0 (.slice af fr.length cf) fr.length (fr.map S)) :
    Calls Tryz.prog 28 #[v, .func (.func 30) #[] #[.pointer (some ⟨bx, 0, none⟩)]] w fun e w' => ∃ a n c, e = .returned (.slice a n c) ∧ n = (keptF fr (rows.map (·.1))).length ∧ RFiles w' (.slice a n c) (keptF fr (rows.map (·.1))) ∧ Below w0.heap.size w0 w' := by
  have hfiles := hFO.files
  obtain ⟨ao, cap, rfl, hc1, hc2⟩ := hFO.shape
  have hml : (rows.map (·.1)).length = rows.length := List.length_map _
  have HI : Hid _ := findexF_is ao cap (rows.map (·.1)) bx af cf fr w (by rw [hml]; exact hfiles) ((hbel.cell (World.block_lt_of_cell? w0 _ hb)).trans hb) (hf.below hbel)
  have HCL : Hid _ := fun (W : World) (h : Below w0.heap.size w0 W) (f : List UInt8) (ab : Option Addr) (nb cb : Nat) => shp1_is f ab nb cb bx af cf fr W ((h.cell (World.block_lt_of_cell? w0 _ hb)).trans hb) (hf.below h)
  rw [hml] at HI
  have HFO : Hid _ := hFO
  have HBEL : Hid _ := hbel
  have HFI : Hid (RFiles w (.slice ao rows.length cap) (rows.map (·.1))) := hfiles
  obtain ⟨N, hN⟩ : ∃ N, N = rows.length := ⟨_, rfl⟩
  have HN : Hid (N = rows.length) := hN
  rw [← hN] at HI HFO HFI hn12 hc1 ⊢
  unfold maxLen at hc2
  clear hFO hbel hb hf hfiles hml hN
  go_enter Tryz.func28, Tryz.ntmps28
  go_wp2_with fail
  refine Calls.mono HI.out ?_
  rintro e w1 ⟨⟨rfl, hall⟩ | ⟨k, hkN, rfl, hall, gf, hgk, hgn⟩, hb1⟩
  · have HE : Hid (keptF fr (rows.map (·.1)) = rows.map (·.1)) := kept_all hall
    have HB1 : Hid (Below w0.heap.size w0 w1) := HBEL.out.trans (hb1.mono HBEL.out.size)
    have HF1 : Hid (RFiles w1 (.slice ao N cap) (rows.map (·.1))) := HFI.out.below hb1
    clear hb1 hall HI
    go_wp2_with fail
    go_ret
    exact ⟨ao, N, cap, rfl, by rw [HE.out, List.length_map]; exact HN.out, by rw [HE.out]; exact HF1.out, HB1.out⟩
  · obtain ⟨r0, hr0, hr0f⟩ : ∃ r0, rows[k]? = some r0 ∧ r0.1 = gf := by
      rw [List.getElem?_map] at hgk
      cases h : rows[k]? with
      | none => rw [h] at hgk; cases hgk
      | some r0 => rw [h] at hgk; exact ⟨r0, rfl, by simpa using hgk⟩
    obtain ⟨g, cg, hv, hBg⟩ := HFO.out.form (by have := HN.out; omega)
    rw [← HN.out] at hv
    injection hv with e1 e2 e3
    subst e1 e3
    have HG : Hid (w0.heap.size ≤ g) := hBg
    have HD : Hid (DelAt w0 w1 g N cap k (k + 1) fr rows rows) := ⟨HFO.out.below hb1, HN.out.symm, Nat.lt_succ_self _, by omega, by
      rw [List.take_add_one, hr0, Option.toList_some, List.map_append, List.map_singleton, kept_snoc, hr0f, hgn, if_neg (by simp), List.append_nil]
      rw [← List.map_take] at hall
      exact (kept_all hall).symm, rfl, HBEL.out.trans (hb1.mono HBEL.out.size)⟩
    clear hb1 hall hgk hgn hr0 hr0f HI HFO HBEL HFI hBg
    go_wp2_with fail
    go_loopw [5, 6] (fun iv jv wr => ∃ i j : Nat, ∃ rows' : List FRow, iv = .int .i64 i ∧ jv = .int .i64 j ∧ i < j ∧ j ≤ N ∧ Hid (DelAt w0 wr g N cap i j fr rows rows')) (fun _ jv _ => N - (intOf jv).toNat)
    case atStart => exact ⟨k, k + 1, rows, rfl, by go_num, Nat.lt_succ_self _, by omega, HD⟩
    case round =>
      clear HD
      obtain ⟨i, j, rows', rfl, rfl, hij, hjN, HD⟩ := hrel
      by_cases hlt : j < N
      · obtain ⟨r, hr', hr⟩ := HD.out.at hlt
        have HR' : Hid (rows'[j]? = some r) := hr'
        have HR : Hid (rows[j]? = some r) := hr
        obtain ⟨hc0, hc1, _⟩ := HD.out.fo.cells2 hr'
        obtain ⟨rx, hrx⟩ : ∃ rx : ByteArray, rx = ⟨r.1.name.toArray⟩ := ⟨_, rfl⟩
        have HRX : Hid (rx = ⟨r.1.name.toArray⟩) := hrx
        obtain ⟨r1, hr1⟩ : ∃ x, x = r.2.1 := ⟨_, rfl⟩
        obtain ⟨r2, hr2⟩ : ∃ x, x = r.2.2.1 := ⟨_, rfl⟩
        obtain ⟨r3, hr3⟩ : ∃ x, x = r.2.2.2 := ⟨_, rfl⟩
        have HR1 : Hid (r1 = r.2.1 ∧ r2 = r.2.2.1 ∧ r3 = r.2.2.2) := ⟨hr1, hr2, hr3⟩
        rw [← hrx] at hc0
        rw [← hr1, ← hr2, ← hr3] at hc1
        clear hr' hr hrx hr1 hr2 hr3
        have hbx : Below wr.heap.size wr (wr.alloc (.cells #[.string rx, .slice r1 r2 r3] 45)) := boxr_of
        have hC := HCL.out _ (HD.out.bel.trans (hbx.mono HD.out.bel.size)) r.1.name r1 r2 r3
        rw [← HRX.out] at hC
        have HC : Hid _ := hC
        have HBX : Hid _ := hbx
        obtain ⟨d, hdd⟩ : ∃ d, d = amongB fr r.1.name := ⟨_, rfl⟩
        have HDD : Hid (d = amongB fr r.1.name) := hdd
        rw [← hdd] at HC
        clear hC hbx hdd
        go_wp2_with fail
        refine Calls.mono HC.out ?_
        rintro e w3 ⟨rfl, hb3⟩
        have HB13 : Hid (Below wr.heap.size wr w3) := HBX.out.trans (hb3.mono HBX.out.size)
        obtain ⟨hx0, hx1⟩ := box2_cells hb3
        clear hb3 HC HBX hc0 hc1
        cases d with
        | false =>
          have HD2 : Hid _ := HD.out.skip HB13.out HR.out HDD.out.symm hlt
          clear HD
          go_wp2_with fail
          go_roundw
          case rel =>
            refine ⟨_, _, _, _, _, _, _, _, _, _, _, _, _, _, _, _, _, _, _, _, _, _, _, ⟨i, j + 1, rows', ?ra, ?rb, by omega, by omega, HD2⟩, rfl⟩
            case ra => rfl
            case rb => go_num
          case measure => simp [intOf]; omega
        | true =>
          have HD2 : Hid _ := HD.out.take HB13.out HR'.out HR.out HDD.out.symm hlt HG.out
          rw [← HRX.out, ← HR1.out.1, ← HR1.out.2.1, ← HR1.out.2.2] at HD2
          have hfo3 := HD.out.fo.below HB13.out
          have hi2 : i * 2 < N * 2 := by omega
          obtain ⟨q0, hq0⟩ : ∃ q0, rows'[i]? = some q0 := ⟨_, List.getElem?_eq_getElem (by rw [HD.out.len]; omega)⟩
          obtain ⟨hd0, hd1, hdz⟩ := hfo3.cells2 hq0
          have hdz0 : w3.frozen? ⟨g, i * 2, none⟩ = false := by
            have h := hfo3.own
            rw [HD.out.len] at h
            exact h.frozenAt (i * 2)
          clear HD hfo3 hq0
          go_wp2_with fail
          go_roundw
          case rel =>
            refine ⟨_, _, _, _, _, _, _, _, _, _, _, _, _, _, _, _, _, _, _, _, _, _, _, ⟨i + 1, j + 1, _, ?ra, ?rb, by omega, by omega, HD2⟩, rfl⟩
            case ra => go_num
            case rb => go_num
          case measure => simp [intOf]; omega
      · obtain rfl : j = N := by omega
        have hd := HD.out
        obtain ⟨cur, hcur, hcs⟩ : ∃ cur : Array Value, wr.heap[g]? = some (.cells cur 45 (0, 0)) ∧ cur.size = cap * 2 := by
          rcases hd.fo.own.2 with ⟨h2, _⟩ | ⟨g', c', cur, h2, _, hg', _, _, h5, _⟩
          · cases h2
          · injection h2 with e1 e2 e3
            injection e1 with e1
            injection e1 with e1
            subst e1 e3
            exact ⟨cur, hg', h5⟩
        have hzs : (Builtin.zeroCells (Value.agg #[.string ⟨#[]⟩, .slice none 0 0]).cells (j - i)).size = (j - i) * 2 := size_zeroCells _ _
        have hcl : ∀ ty, (Builtin.clear_ #[22] ty #[.slice (some ⟨g, i * 2, none⟩) (j - i) (cap - i)]).run Tryz.prog wr = .ok (.tuple #[]) (wr.setRow g (cur.toList.take (i * 2) ++ (Builtin.zeroCells (Value.agg #[.string ⟨#[]⟩, .slice none 0 0]).cells (j - i)).toList ++ cur.toList.drop (i * 2 + (Builtin.zeroCells (Value.agg #[.string ⟨#[]⟩, .slice none 0 0]).cells (j - i)).size)).toArray) := fun ty =>
          run_clear_row wr _ _ ty _ Tryz.underlying22 (fun w => by obtain ⟨i0, q1, q2, q3, q4⟩ := info_parts infoFile; simp [zeroValue, typeInfo, q1, q2]) g (i * 2) (j - i) (cap - i) (by omega) cur _ hcur (by rw [hzs, hcs]; omega) (zeroF_one _)
        have HF : Hid _ := hd.done rfl HN.out.symm (hw := rfl) (hcs := fun q hq => by
          rw [cell_of_row _ _ _ _ _ _ hcur]
          simp only [List.append_assoc, List.getElem?_toArray]
          rw [List.getElem?_append_left (by rw [List.length_take, Array.length_toList (xs := cur), hcs]; omega), List.getElem?_take, if_pos hq]
          simp) (hg := HG.out) (cs := (cur.toList.take (i * 2) ++ (Builtin.zeroCells (Value.agg #[.string ⟨#[]⟩, .slice none 0 0]).cells (j - i)).toList ++ cur.toList.drop (i * 2 + (Builtin.zeroCells (Value.agg #[.string ⟨#[]⟩, .slice none 0 0]).cells (j - i)).size)).toArray)
        have HLEN : Hid (i = (keptF fr (rows.map (·.1))).length) := (show _ = _ by
          have h1 := congrArg List.length hd.head
          rw [List.length_map, List.length_take, hd.len, List.take_of_length_le (by have := HN.out; omega)] at h1
          omega)
        have hcapi : ¬ (cap = i) := by omega
        obtain ⟨CS, hCS⟩ : ∃ CS : Array Value, CS = (cur.toList.take (i * 2) ++ (Builtin.zeroCells (Value.agg #[.string ⟨#[]⟩, .slice none 0 0]).cells (j - i)).toList ++ cur.toList.drop (i * 2 + (Builtin.zeroCells (Value.agg #[.string ⟨#[]⟩, .slice none 0 0]).cells (j - i)).size)).toArray := ⟨_, rfl⟩
        rw [← hCS] at hcl HF
        clear hd HD hcur hcs hzs hCS
        go_wp2_with (at_builtin; refine wpList_clear_run _ rfl _ 22 rfl _ rfl (hcl _) ?_)
        go_ret
        exact ⟨_, i, cap, rfl, HLEN.out, HF.out.1, HF.out.2⟩

end Go.Proofs.YtkifihcficobnabGreatDoor
