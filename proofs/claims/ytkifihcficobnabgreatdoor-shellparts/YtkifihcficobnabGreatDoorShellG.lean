/- slices.Insert of one file into a row of one's own. slices.Insert of one file where there is no room; whatever there is. What Put does. -/
import Derived.Test.YtkifihcficobnabGreatDoorShellF
import Derived.Maps.AppendAt
import Derived.Shelf.Spec.SlicesInsertGrow
namespace Go.Proofs.YtkifihcficobnabGreatDoor
open Go.RowKit Go.Gs
set_option linter.unusedVariables false

theorem szFile : (Tryz.prog.info? 45).map (·.size) = some 2 := by kernel_rfl
/-- The cells of the one file that is put in. -/
theorem box2_new {w : World} {vb : Nat} {r : FRow} (h : w.heap[vb]? = some (.cells #[.string ⟨r.1.name.toArray⟩, .slice r.2.1 r.2.2.1 r.2.2.2] 45 (0, 0))) : ∀ j u, (encF r)[j]? = some u → w.cell? ((⟨vb, 0, none⟩ : Addr).add j) = some u := by
  intro j u hj
  rw [addF]
  simp only [World.cell?, h]
  match j, hj with
  | 0, hj => simp [encF] at hj; subst hj; rfl
  | 1, hj => simp [encF] at hj; subst hj; rfl

set_option maxRecDepth 100000 in
set_option maxHeartbeats 4000000 in
theorem insert_end (v : Value) (rows : List FRow) (r : FRow) (vb B : Nat) (w : World) (hFO : FO w B 45 v rows) (hn : rows.length ≤ 12) (hB : B ≤ w.heap.size) (hvb : w.heap[vb]? = some (.cells #[.string ⟨r.1.name.toArray⟩, .slice r.2.1 r.2.2.1 r.2.2.2] 45 (0, 0))) (hr : ∀ (W : World) (go : Option Nat), GoodO W go r) :
    Calls Tryz.prog 50 #[v, .int .i64 rows.length, .slice (some ⟨vb, 0, none⟩) 1 1] w fun e w' => ∃ v', e = .returned v' ∧ FO w' B 45 v' (insR rows rows.length r) ∧ Below B w w' := by
  obtain ⟨i0, hi, hi0, hi1, hi2⟩ := info_parts infoFile
  have HFO : Hid _ := hFO
  have HBX : Hid _ := box2_new hvb
  have HR : Hid _ := hr
  obtain ⟨ao, cap, rfl, hc1, hc2⟩ := hFO.shape
  obtain ⟨N, hN⟩ : ∃ N, N = rows.length := ⟨_, rfl⟩
  have HN : Hid (N = rows.length) := hN
  rw [← hN] at HFO hn hc1 ⊢
  unfold maxLen at hc2
  obtain ⟨xs, hxs⟩ : ∃ xs, xs = encF r := ⟨_, rfl⟩
  have HX : Hid (xs = encF r) := hxs
  clear hFO hvb hr hN hxs
  by_cases hcn : N = cap
  · subst hcn
    go_enter Tryz.func50, Tryz.ntmps50
    go_wp2_with (at_builtin; refine wpList_append_own_at _ rfl _ _ 22 rfl B 45 i0 (.agg #[.string ⟨#[]⟩, .slice none 0 0]) 2 40 Tryz.underlying22 hi hi0 hi1 hi2 rfl (by decide) _ N (rowCells rows) rfl ?o1 ⟨vb, 0, none⟩ 1 1 xs rfl ?c0 ?c1 ?c2 ?c3 ?c4 ?c5 ?_)
    case o1 => have h := HFO.out.own; rw [← HN.out] at h; exact h
    case c0 => rw [HX.out]; rfl
    case c1 => rw [HX.out]; exact HBX.out
    case c2 => rw [HX.out]; exact encF_one r
    case c3 => unfold maxLen; omega
    case c4 => omega
    case c5 => exact hB
    intro v' w1 hown hg hnil hat
    have HE : Hid (FO w1 B 45 v' (insR rows N r)) := HFO.out.move (by
      rw [insR_length _ _ _ (by rw [← HN.out]; exact Nat.le_refl _), ← HN.out]
      have e : insR rows N r = rows ++ [r] := by rw [HN.out]; exact insR_end rows r
      rw [e, rowCells_app, ← HX.out]
      exact hown) (fun k hk hne => hg.block k hk (fun e => hne e.symm)) hat (fun x hx => insR_mem hx) HR.out
    have HB : Hid (Below B w w1) := (Below.refl B w).grown hg hB (fun k hk => (HFO.out.own.lt k hk).1)
    clear hown hg hnil hat
    go_wp2
    go_ret
    exact ⟨v', rfl, HE.out, HB.out⟩
  · have hcn' : ¬ cap = N := fun e => hcn e.symm
    go_enter Tryz.func50, Tryz.ntmps50
    go_wp2_with (at_builtin; refine wpList_append_own_at _ rfl _ _ 22 rfl B 45 i0 (.agg #[.string ⟨#[]⟩, .slice none 0 0]) 2 40 Tryz.underlying22 hi hi0 hi1 hi2 rfl (by decide) _ N (rowCells rows) rfl ?o1 ⟨vb, 0, none⟩ 1 1 xs rfl ?c0 ?c1 ?c2 ?c3 ?c4 ?c5 ?_)
    case o1 => have h := HFO.out.own; rw [← HN.out] at h; exact h
    case c0 => rw [HX.out]; rfl
    case c1 => rw [HX.out]; exact HBX.out
    case c2 => rw [HX.out]; exact encF_one r
    case c3 => unfold maxLen; omega
    case c4 => omega
    case c5 => exact hB
    intro v' w1 hown hg hnil hat
    have HE : Hid (FO w1 B 45 v' (insR rows N r)) := HFO.out.move (by
      rw [insR_length _ _ _ (by rw [← HN.out]; exact Nat.le_refl _), ← HN.out]
      have e : insR rows N r = rows ++ [r] := by rw [HN.out]; exact insR_end rows r
      rw [e, rowCells_app, ← HX.out]
      exact hown) (fun k hk hne => hg.block k hk (fun e => hne e.symm)) hat (fun x hx => insR_mem hx) HR.out
    have HB : Hid (Below B w w1) := (Below.refl B w).grown hg hB (fun k hk => (HFO.out.own.lt k hk).1)
    clear hown hg hnil hat
    go_wp2
    go_ret
    exact ⟨v', rfl, HE.out, HB.out⟩

set_option maxRecDepth 100000 in
set_option maxHeartbeats 4000000 in
theorem insert_shift (g cap : Nat) (rows : List FRow) (i : Nat) (r : FRow) (vb B : Nat) (w : World) (hFO : FO w B 45 (.slice (some ⟨g, 0, none⟩) rows.length cap) rows) (hn : rows.length ≤ 12) (hin : i < rows.length) (hroom : rows.length + 1 ≤ cap) (hB : B ≤ w.heap.size) (hne : vb ≠ g) (hvb : w.heap[vb]? = some (.cells #[.string ⟨r.1.name.toArray⟩, .slice r.2.1 r.2.2.1 r.2.2.2] 45 (0, 0))) (hr : ∀ (W : World) (go : Option Nat), GoodO W go r) :
    Calls Tryz.prog 50 #[.slice (some ⟨g, 0, none⟩) rows.length cap, .int .i64 i, .slice (some ⟨vb, 0, none⟩) 1 1] w fun e w' => ∃ v', e = .returned v' ∧ FO w' B 45 v' (insR rows i r) ∧ Below B w w' := by
  obtain ⟨hBg, cur, hg, hcm, hcs, htake⟩ : B ≤ g ∧ ∃ cur : Array Value, w.heap[g]? = some (.cells cur 45 (0, 0)) ∧ cap ≤ maxLen ∧ cur.size = cap * 2 ∧ cur.toList.take (rows.length * 2) = rowCells rows := by
    rcases hFO.own.2 with ⟨h, _⟩ | ⟨g', cap', cur, h, hb, hg, h1, h2, h3, h4⟩
    · cases h
    · injection h with e1 e2 e3
      injection e1 with e1
      injection e1 with e1
      subst e1 e3
      exact ⟨hb, cur, hg, h2, h3, h4⟩
  obtain ⟨c1, hc1⟩ : ∃ c1, c1 = cur.toList.take (i * 2 + 2) ++ rowCells (rows.drop i) ++ cur.toList.drop (i * 2 + 2 + (rowCells (rows.drop i)).length) := ⟨_, rfl⟩
  obtain ⟨hl1, hl2, ht2⟩ := ins_shift cur.toList rows i r (by omega) htake (by rw [Array.length_toList (xs := cur), hcs]; omega) c1 hc1
  obtain ⟨c2, hc2⟩ : ∃ c2, c2 = c1.take (i * 2) ++ encF r ++ c1.drop (i * 2 + (encF r).length) := ⟨_, rfl⟩
  rw [← hc2] at hl2 ht2
  have hdl : (rowCells (rows.drop i)).length = (rows.length - i) * 2 := by rw [rowCells_length, List.length_drop]
  have hcp1 : ∀ ty dc sc, (Builtin.copy_ #[22, 22] ty #[.slice (some ⟨g, (i + 1) * 2, none⟩) (rows.length - i) dc, .slice (some ⟨g, i * 2, none⟩) (rows.length + 1 - i) sc]).run Tryz.prog w.drew = .ok (goInt ((rows.length - i : Nat) : Int)) (w.drew.setRow g c1.toArray) := fun ty dc sc => by
    have h := run_copy_rowK (P := Tryz.prog) w.drew 22 22 ty 45 g (i * 2 + 2) (rows.length - i) dc ⟨g, i * 2, none⟩ (rows.length + 1 - i) sc cur 45 (rowCells (rows.drop i)) 2 (rows.length - i) Tryz.underlying22 szFile hg (by simp only [Nat.min_def]; split <;> omega) hdl
      (fun j v hj => by
        rw [addF, ← rowCells_drop _ _ (by omega), List.getElem?_drop] at *
        have hlt : i * 2 + j < (rowCells rows).length := (List.getElem?_eq_some_iff.1 hj).1
        rw [rowCells_length] at hlt
        have := hFO.own.cellAt (i * 2 + j) hlt
        rw [hj] at this
        exact this)
      (by rw [hdl, hcs]; omega) (rowCells_one _)
    rw [← hc1] at h
    rw [show (i + 1) * 2 = i * 2 + 2 by omega]
    exact h
  have hg1 : (w.drew.setRow g c1.toArray).heap[g]? = some (.cells c1.toArray 45 (0, 0)) := setRow_heap w.drew g cur _ _ _ hg
  have hcp2 : ∀ (W : World), W.heap = (w.drew.setRow g c1.toArray).heap → ∀ ty dc, (Builtin.copy_ #[22, 22] ty #[.slice (some ⟨g, i * 2, none⟩) (rows.length + 1 - i) dc, .slice (some ⟨vb, 0, none⟩) 1 1]).run Tryz.prog W = .ok (goInt 1) (W.setRow g c2.toArray) := fun W hW ty dc => by
    have h := run_copy_rowK (P := Tryz.prog) W 22 22 ty 45 g (i * 2) (rows.length + 1 - i) dc ⟨vb, 0, none⟩ 1 1 c1.toArray 45 (encF r) 2 1 Tryz.underlying22 szFile (by rw [hW]; exact hg1) (by simp only [Nat.min_def]; split <;> omega) rfl
      (fun j v hj => box2_new (by rw [hW, setRow_other _ _ _ _ hne]; exact hvb) j v hj)
      (by simp [encF]; rw [hl1, Array.length_toList (xs := cur), hcs]; omega) (encF_one _)
    rw [show c1.toArray.toList = c1 by simp, ← hc2] at h
    exact h
  have hov : ∀ lb cb, (callFunc 89 #[.slice (some ⟨vb, 0, none⟩) 1 1, .slice (some ⟨g, (i + 1) * 2, none⟩) lb cb]).run Tryz.prog w = .ok (.value (.bool false)) w := fun lb cb => by
    rw [run_callFunc_extern Tryz.func89 (by kernel_rfl) (by kernel_rfl) (by kernel_rfl) (e := Extern.SlicesOverlaps.overlaps #[22, 22] #[4]) (by kernel_rfl),
      Lib.run_overlaps_apart w 22 4 45 Tryz.underlying22 2 (fun w => by obtain ⟨i0, hi, _, hi1, _⟩ := info_parts infoFile; simp [Go.sizeOf, typeInfo, hi, hi1]) ⟨vb, 0, none⟩ ⟨g, (i + 1) * 2, none⟩ 1 1 lb cb hne 45 45 2 (cap * 2) (by simp [World.shape?, hvb]) (by simp [World.shape?, hg, hcs]) (by omega) (by simp [World.frozen?, hvb]) (by simp [World.frozen?, hvb])]
    rfl
  have HE : Hid (∀ W' : World, W'.heap = ((w.drew.setRow g c1.toArray).setRow g c2.toArray).heap → W'.os = w.os → W'.tape = w.tape → W'.output = w.output → FO W' B 45 (.slice (some ⟨g, 0, none⟩) (rows.length + 1) cap) (insR rows i r) ∧ Below B w W') := (show ∀ W' : World, _ from by
    intro W' hW h1 h2 h3
    have hk : ∀ k, k ≠ g → W'.heap[k]? = w.heap[k]? := fun k hk => by rw [hW, setRow_other _ _ _ _ hk, setRow_other _ _ _ _ hk]; rfl
    refine ⟨hFO.move (v' := .slice (some ⟨g, 0, none⟩) (rows.length + 1) cap) ?_ (fun k _ hne => hk k (fun e => hne (by rw [e]; rfl))) (.inl rfl) (fun x hx => insR_mem hx) hr, ⟨h1, h2, h3, by rw [hW]; simp, fun k hkB => hk k (by omega)⟩⟩
    rw [insR_length _ _ _ (by omega)]
    refine ⟨by rw [rowCells_length, insR_length _ _ _ (by omega)], .inr ⟨g, cap, c2.toArray, rfl, hBg, ?_, hroom, hcm, ?_, ?_⟩⟩
    · rw [hW]; exact setRow_heap _ g _ _ _ _ hg1
    · rw [List.size_toArray, hl2, Array.length_toList (xs := cur), hcs]
    · exact ht2)
  obtain ⟨N, hN⟩ : ∃ N, N = rows.length := ⟨_, rfl⟩
  rw [← hN] at hcp1 hcp2 HE hn hin hroom ⊢
  unfold maxLen at hcm
  obtain ⟨W1, hW1⟩ : ∃ W1, W1 = w.drew.setRow g c1.toArray := ⟨_, rfl⟩
  rw [← hW1] at hcp1 hcp2 HE
  have HW1 : Hid (W1.os = w.os ∧ W1.tape = w.tape ∧ W1.output = w.output) := (show _ ∧ _ ∧ _ by rw [hW1]; exact ⟨rfl, rfl, rfl⟩)
  have mixed : Tryz.prog.follows Departure.mixedOrders = true := by kernel_rfl
  have hw1 : IntKind.i64.wrap ((i : Int) + 1) = (i : Int) + 1 := by rw [IntKind.wrap_i64]; omega
  have hb1 : (0 : Int) ≤ (i : Int) + 1 := by omega
  have hin2 : i ≤ N := by omega
  have htn : ((i : Int) + 1).toNat = i + 1 := by omega
  have hb2 : ¬ (cap = i + 1) := by omega
  have hb3 : (i : Int) ≤ (N : Int) + 1 := by omega
  have hb4 : ¬ (cap = i) := by omega
  have hz2 : ¬ ((i : Int) = (N : Int)) := by omega
  clear hFO hvb hr hg hcs htake hc1 hl1 hl2 ht2 hc2 hdl hg1 hN hW1 hBg
  go_enter Tryz.func50, Tryz.ntmps50
  go_wp2_with (simp only [hov])
  go_region_law_o (refine step_copy_runI rfl _ _ 22 22 rfl _ _ (by simp [Act.eval, Act.put]) (by simp [Act.eval, Act.put]) (hcp1 _ _ _) ?_)
  go_wp2_with (at_builtin; refine wpList_copy_runI _ rfl _ _ 22 22 rfl _ _ rfl rfl (hcp2 _ rfl _ _) ?_)
  go_ret
  obtain ⟨h1, h2⟩ := HE.out _ rfl HW1.out.1 HW1.out.2.1 HW1.out.2.2
  exact ⟨_, rfl, h1, h2⟩
end Go.Proofs.YtkifihcficobnabGreatDoor
namespace Go.Proofs.YtkifihcficobnabGreatDoor
open Go.RowKit Go.Gs
set_option linter.unusedVariables false

set_option maxRecDepth 100000 in
set_option maxHeartbeats 4000000 in
theorem insert_grow (g cap : Nat) (rows : List FRow) (i : Nat) (r : FRow) (vb B : Nat) (w : World) (hFO : FO w B 45 (.slice (some ⟨g, 0, none⟩) rows.length cap) rows) (hn : rows.length ≤ 12) (hin : i < rows.length) (hroom : ¬ rows.length + 1 ≤ cap) (hB : B ≤ w.heap.size) (hvb : w.heap[vb]? = some (.cells #[.string ⟨r.1.name.toArray⟩, .slice r.2.1 r.2.2.1 r.2.2.2] 45 (0, 0))) (hr : ∀ (W : World) (go : Option Nat), GoodO W go r) :
    Calls Tryz.prog 50 #[.slice (some ⟨g, 0, none⟩) rows.length cap, .int .i64 i, .slice (some ⟨vb, 0, none⟩) 1 1] w fun e w' => ∃ v', e = .returned v' ∧ FO w' B 45 v' (insR rows i r) ∧ Below B w w' := by
  obtain ⟨i0, hi0, hz0, hzs, hzb⟩ := info_parts infoFile
  have hgw : g < w.heap.size := (hFO.own.lt g rfl).2
  have hvw : vb < w.heap.size := (Array.getElem?_eq_some_iff.1 hvb).1
  have hnc : rows.length ≤ cap := by
    rcases hFO.own.2 with ⟨h, _⟩ | ⟨g', cap', cur, h, hb, hg, h1, h2, h3, h4⟩
    · cases h
    · injection h with e1 e2 e3
      omega
  obtain ⟨z, hz⟩ : ∃ z, z = Value.agg #[.string ⟨#[]⟩, .slice none 0 0] := ⟨_, rfl⟩
  have hz2 : z.cells.size = 2 := by rw [hz]; rfl
  rw [← hz] at hz0
  have hkk : (rows.length : Int) + 1 - (i : Int) = ((rows.length + 1 - i : Nat) : Int) := by omega
  have hik : i + (rows.length + 1 - i) = rows.length + 1 := by omega
  have htl : (rowCells (rows.take i)).length = i * 2 := by rw [rowCells_length, List.length_take, Nat.min_eq_left (by omega)]
  have hold : (Builtin.firstCells i0.size i (.slice (some ⟨g, 0, none⟩) i cap)).run Tryz.prog w.drew = .ok (rowCells (rows.take i)).toArray w.drew := by
    rw [hzs]
    exact run_firstCells_some w.drew 2 i ⟨g, 0, none⟩ i cap _ htl (fun j v hj => by
      rw [addF, Nat.zero_add]
      have hlt := (List.getElem?_eq_some_iff.1 hj).1
      rw [htl] at hlt
      rw [← rowCells_take, List.getElem?_take, if_pos hlt] at hj
      have := hFO.own.cellAt j (by omega)
      rw [hj] at this
      exact this)
  have hrz : ∀ ty, (Builtin.append_ #[22, 3] ty #[.slice (some ⟨g, 0, none⟩) i cap, .int .i64 ((rows.length : Int) + 1 - (i : Int))]).run Tryz.prog w =
      .ok (.slice (some ⟨w.heap.size, 0, none⟩) (rows.length + 1) (grownCap w (rows.length + 1) cap 45)) (w.drew.alloc (.cells ((rowCells (rows.take i)).toArray ++ Builtin.zeroCells z.cells (rows.length + 1 - i) ++ Builtin.zeroCells z.cells (grownCap w (rows.length + 1) cap 45 - (rows.length + 1))) 45)) := fun ty => by
    have h := Lib.run_append_grow_zeros w 22 3 ty 45 i0 z .i64 .i64 Tryz.underlying22 Tryz.underlying3 hi0 hz0 (some ⟨g, 0, none⟩) i cap (rowCells (rows.take i)) hold (rows.length + 1 - i) (by omega) (by omega) (by omega) (by omega) (by rw [hzb]; omega) (by rw [hzb, hik]; exact growslice_fits (by omega) (by omega))
    rw [hik] at h
    rw [hkk]
    exact h
  obtain ⟨G, hG⟩ : ∃ G, G = grownCap w (rows.length + 1) cap 45 := ⟨_, rfl⟩
  have hGn : rows.length + 1 ≤ G := by rw [hG]; exact grownCap_ge w _ _ _
  have hGm : G ≤ maxLen := by rw [hG]; exact grownCap_le_maxLen w _ _ _ (by unfold maxLen; omega)
  rw [← hG] at hrz
  obtain ⟨ROW, hROW⟩ : ∃ ROW : Array Value, ROW = (rowCells (rows.take i)).toArray ++ Builtin.zeroCells z.cells (rows.length + 1 - i) ++ Builtin.zeroCells z.cells (G - (rows.length + 1)) := ⟨_, rfl⟩
  rw [← hROW] at hrz
  have hRl : ROW.size = G * 2 := by
    rw [hROW, Array.size_append, Array.size_append, List.size_toArray, size_zeroCells, size_zeroCells, hz2, htl]
    omega
  have hRt : ROW.toList.take (i * 2) = rowCells (rows.take i) := by
    rw [hROW, Array.toList_append, Array.toList_append, List.append_assoc, ← htl]
    simp
  obtain ⟨c1, hc1⟩ : ∃ c1, c1 = ROW.toList.take (i * 2) ++ encF r ++ ROW.toList.drop (i * 2 + (encF r).length) := ⟨_, rfl⟩
  obtain ⟨hl1, hl2, ht2⟩ := ins_grow ROW.toList rows i r (by omega) hRt (by rw [Array.length_toList (xs := ROW), hRl]; omega) c1 hc1
  obtain ⟨c2, hc2⟩ : ∃ c2, c2 = c1.take (i * 2 + 2) ++ rowCells (rows.drop i) ++ c1.drop (i * 2 + 2 + (rowCells (rows.drop i)).length) := ⟨_, rfl⟩
  rw [← hc2] at hl2 ht2
  have hdl : (rowCells (rows.drop i)).length = (rows.length - i) * 2 := by rw [rowCells_length, List.length_drop]
  have hh1 : (w.drew.alloc (.cells ROW 45)).heap[w.heap.size]? = some (.cells ROW 45 (0, 0)) := heap_alloc_new w.drew _
  have hold2 : ∀ k, k < w.heap.size → (w.drew.alloc (.cells ROW 45)).heap[k]? = w.heap[k]? := fun k hk => (boxr_of (w := w.drew) (o := .cells ROW 45)).block k hk
  have hcpA : ∀ (W : World), W.heap = (w.drew.alloc (.cells ROW 45)).heap → ∀ ty dc, (Builtin.copy_ #[22, 22] ty #[.slice (some ⟨w.heap.size, i * 2, none⟩) (rows.length + 1 - i) dc, .slice (some ⟨vb, 0, none⟩) 1 1]).run Tryz.prog W = .ok (goInt 1) (W.setRow w.heap.size c1.toArray) := fun W hW ty dc => by
    have h := run_copy_rowK (P := Tryz.prog) W 22 22 ty 45 w.heap.size (i * 2) (rows.length + 1 - i) dc ⟨vb, 0, none⟩ 1 1 ROW 45 (encF r) 2 1 Tryz.underlying22 szFile (by rw [hW]; exact hh1) (by simp only [Nat.min_def]; split <;> omega) rfl
      (fun j v hj => box2_new (by rw [hW, hold2 _ hvw]; exact hvb) j v hj)
      (by simp [encF]; rw [hRl]; omega) (encF_one _)
    rw [← hc1] at h
    exact h
  have hh2 : ((w.drew.alloc (.cells ROW 45)).setRow w.heap.size c1.toArray).heap[w.heap.size]? = some (.cells c1.toArray 45 (0, 0)) := setRow_heap _ _ _ _ _ _ hh1
  have hcpB : ∀ (W : World), W.heap = ((w.drew.alloc (.cells ROW 45)).setRow w.heap.size c1.toArray).heap → ∀ ty dc sc, (Builtin.copy_ #[22, 22] ty #[.slice (some ⟨w.heap.size, (i + 1) * 2, none⟩) (rows.length - i) dc, .slice (some ⟨g, i * 2, none⟩) (rows.length - i) sc]).run Tryz.prog W = .ok (goInt ((rows.length - i : Nat) : Int)) (W.setRow w.heap.size c2.toArray) := fun W hW ty dc sc => by
    have h := run_copy_rowK (P := Tryz.prog) W 22 22 ty 45 w.heap.size (i * 2 + 2) (rows.length - i) dc ⟨g, i * 2, none⟩ (rows.length - i) sc c1.toArray 45 (rowCells (rows.drop i)) 2 (rows.length - i) Tryz.underlying22 szFile (by rw [hW]; exact hh2) (by simp only [Nat.min_def]; split <;> omega) hdl
      (fun j v hj => by
        rw [addF, ← rowCells_drop _ _ (by omega), List.getElem?_drop] at *
        have hlt : i * 2 + j < (rowCells rows).length := (List.getElem?_eq_some_iff.1 hj).1
        rw [rowCells_length] at hlt
        have := hFO.own.cellAt (i * 2 + j) hlt
        rw [hj] at this
        have hk : W.heap[g]? = w.heap[g]? := by rw [hW, setRow_other _ _ _ _ (by omega), hold2 _ hgw]
        simp only [World.cell?] at this ⊢
        rw [hk]; exact this)
      (by rw [hdl]; simp; rw [hl1, Array.length_toList (xs := ROW), hRl]; omega) (rowCells_one _)
    rw [show c1.toArray.toList = c1 by simp, ← hc2] at h
    rw [show (i + 1) * 2 = i * 2 + 2 by omega]
    exact h
  have HE : Hid (∀ W' : World, W'.heap = (((w.drew.alloc (.cells ROW 45)).setRow w.heap.size c1.toArray).setRow w.heap.size c2.toArray).heap → W'.os = w.os → W'.tape = w.tape → W'.output = w.output → FO W' B 45 (.slice (some ⟨w.heap.size, 0, none⟩) (rows.length + 1) G) (insR rows i r) ∧ Below B w W') := (show ∀ W' : World, _ from by
    intro W' hW h1 h2 h3
    have hk : ∀ k, k < w.heap.size → W'.heap[k]? = w.heap[k]? := fun k hk => by rw [hW, setRow_other _ _ _ _ (by omega), setRow_other _ _ _ _ (by omega)]; exact hold2 k hk
    refine ⟨hFO.move (v' := .slice (some ⟨w.heap.size, 0, none⟩) (rows.length + 1) G) ?_ (fun k hkl _ => hk k hkl) (.inr rfl) (fun x hx => insR_mem hx) hr, ⟨h1, h2, h3, by rw [hW]; simp, fun k hkB => hk k (by omega)⟩⟩
    rw [insR_length _ _ _ (by omega)]
    refine ⟨by rw [rowCells_length, insR_length _ _ _ (by omega)], .inr ⟨w.heap.size, G, c2.toArray, rfl, hB, ?_, hGn, hGm, ?_, ?_⟩⟩
    · rw [hW]; exact setRow_heap _ _ _ _ _ _ hh2
    · rw [List.size_toArray, hl2, Array.length_toList (xs := ROW), hRl]
    · exact ht2)
  obtain ⟨W1, hW1⟩ : ∃ W1, W1 = w.drew.alloc (.cells ROW 45) := ⟨_, rfl⟩
  have HW1 : Hid (W1.os = w.os ∧ W1.tape = w.tape ∧ W1.output = w.output) := (show _ ∧ _ ∧ _ by rw [hW1]; exact ⟨rfl, rfl, rfl⟩)
  rw [← hW1] at hrz hcpA hcpB HE
  obtain ⟨N, hN⟩ : ∃ N, N = rows.length := ⟨_, rfl⟩
  rw [← hN] at hrz hcpA hcpB HE hn hin hroom hnc hGn ⊢
  obtain ⟨Q, hQ⟩ : ∃ Q, Q = w.heap.size := ⟨_, rfl⟩
  have HQ : Hid (Q = w.heap.size) := hQ
  rw [← hQ] at hrz hcpA hcpB HE
  unfold maxLen at hGm
  have hz2' : ¬ ((i : Int) = (N : Int)) := by omega
  have hz3 : (cap : Int) < (N : Int) + 1 := by omega
  have hGi : ¬ (G = i) := by omega
  have hGim : ¬ (G = i + 1) := by omega
  have hci : ¬ (cap = i) := by omega
  have mixed : Tryz.prog.follows Departure.mixedOrders = true := by kernel_rfl
  have hw1 : IntKind.i64.wrap ((i : Int) + 1) = (i : Int) + 1 := by rw [IntKind.wrap_i64]; omega
  have hb1 : (0 : Int) ≤ (i : Int) + 1 := by omega
  have hin2 : i ≤ N := by omega
  have htn : ((i : Int) + 1).toNat = i + 1 := by omega
  have hb3 : (i : Int) ≤ (N : Int) := by omega
  clear hFO hvb hr hold hROW hRl hRt hG hkk hik htl hc1 hl1 hl2 ht2 hc2 hdl hh1 hh2 hold2 hz hz0 hN hW1 hQ hz2
  go_enter Tryz.func50, Tryz.ntmps50
  go_wp2_with (first
    | (at_builtin; refine Lib.wpList_append_run _ rfl _ _ _ _ rfl _ _ rfl rfl _ _ (hrz _) ?_)
    | (at_builtin; refine wpList_copy_runI _ rfl _ _ 22 22 rfl _ _ rfl rfl (hcpA _ rfl _ _) ?_)
    | (at_builtin; refine wpList_copy_runI _ rfl _ _ 22 22 rfl _ _ rfl rfl (hcpB _ rfl _ _ _) ?_))
  go_region_law_o (refine step_copy_runI rfl _ _ 22 22 rfl (.slice (some ⟨Q, (i + 1) * 2, none⟩) (N - i) (G - (i + 1))) (.slice (some ⟨g, i * 2, none⟩) (N - i) (cap - i)) (by simp [Act.eval, Act.put]) (by simp [Act.eval, Act.put]) (hcpB ((W1.setRow Q c1.toArray).drew) rfl 3 (G - (i + 1)) (cap - i)) ?_)
  go_wp2
  go_ret
  refine ⟨_, rfl, ?_⟩
  refine HE.out _ ?_ ?_ ?_ ?_
  · rfl
  · exact HW1.out.1
  · exact HW1.out.2.1
  · exact HW1.out.2.2

/-- slices.Insert of one file, at whatever place. -/
theorem insert_is (v : Value) (rows : List FRow) (i : Nat) (r : FRow) (vb B : Nat) (w : World) (hFO : FO w B 45 v rows) (hn : rows.length ≤ 12) (hin : i ≤ rows.length) (hB : B ≤ w.heap.size) (hne : v.ownBlock ≠ some vb) (hvb : w.heap[vb]? = some (.cells #[.string ⟨r.1.name.toArray⟩, .slice r.2.1 r.2.2.1 r.2.2.2] 45 (0, 0))) (hr : ∀ (W : World) (go : Option Nat), GoodO W go r) :
    Calls Tryz.prog 50 #[v, .int .i64 i, .slice (some ⟨vb, 0, none⟩) 1 1] w fun e w' => ∃ v', e = .returned v' ∧ FO w' B 45 v' (insR rows i r) ∧ Below B w w' := by
  by_cases he : i = rows.length
  · subst he
    exact insert_end v rows r vb B w hFO hn hB hvb hr
  · obtain ⟨g, cap, rfl, hBg⟩ := hFO.form (by omega)
    by_cases hroom : rows.length + 1 ≤ cap
    · exact insert_shift g cap rows i r vb B w hFO hn (by omega) hroom hB (fun e => hne (by rw [e]; rfl)) hvb hr
    · exact insert_grow g cap rows i r vb B w hFO hn (by omega) hroom hB hvb hr
end Go.Proofs.YtkifihcficobnabGreatDoor
namespace Go.Proofs.YtkifihcficobnabGreatDoor
open Go.RowKit Go.Gs
set_option linter.unusedVariables false

/-- Put. -/
def putT (fs : List SFile) (n b : List UInt8) : List SFile × Int := if fchk fs = 0 then putS fs n b else ([], fchk fs)
theorem insR_at {rows : List FRow} {p : Nat} {r : FRow} (hp : p ≤ rows.length) : (insR rows p r)[p]? = some r := by
  unfold insR
  rw [List.getElem?_append_right (by rw [List.length_take]; omega), List.length_take, Nat.min_eq_left hp, Nat.sub_self]
  rfl
theorem insR_set {rows : List FRow} {p : Nat} {r r' : FRow} (hp : p ≤ rows.length) : ((insR rows p r).set p r').map (·.1) = (rows.map (·.1)).take p ++ r'.1 :: (rows.map (·.1)).drop p := by
  unfold insR
  rw [List.set_append_right _ _ (by rw [List.length_take]; omega), List.length_take, Nat.min_eq_left hp, Nat.sub_self, List.set_cons_zero]
  simp [List.map_take, List.map_drop]
theorem putEnd_fo {w w' : World} {B : Nat} {ty : TypeId} {res : List SFile × Int} {v : Value} {rows : List FRow} {e : Ending} {fs : List SFile} (h : FO w' B ty v rows) (hm : rows.map (·.1) = fs) (hr : res = (fs, 0)) (he : e = .returned (.tuple #[v, .int .i64 0])) (hb : Below w.heap.size w w') : PutEnd w res e w' := by
  subst hr
  have hf := h.files
  rw [hm] at hf
  obtain ⟨ao, cap, hv, _⟩ := hf.shape
  rw [hv] at he hf
  exact ⟨ao, cap, he, hf, hb⟩

set_option maxRecDepth 100000 in
set_option maxHeartbeats 8000000 in
theorem put_is (ao ab : Option Addr) (cap cb : Nat) (fs : List SFile) (n b : List UInt8) (w : World) (hf : RFiles w (.slice ao fs.length cap) fs) (hfit : ∀ f ∈ fs, FitsF f) (hb : Reads w (.slice ab b.length cb) b.length (b.map U)) (hnl : n.length ≤ 9223372036854775807) :
    Calls Tryz.prog 10 #[.slice ao fs.length cap, .string ⟨n.toArray⟩, .slice ab b.length cb] w fun e w' => PutEnd w (putT fs n b) e w' := by
  have HC : Hid _ := fcheck_is ao cap fs w hf hfit
  have HF : Hid (RFiles w (.slice ao fs.length cap) fs) := hf
  have HBR : Hid (Reads w (.slice ab b.length cb) b.length (b.map U)) := hb
  have hbl := reads_le' hb
  obtain ⟨N, hN⟩ : ∃ N, N = fs.length := ⟨_, rfl⟩
  have HN : Hid (N = fs.length) := hN
  obtain ⟨L, hL⟩ : ∃ L, L = b.length := ⟨_, rfl⟩
  have HL : Hid (L = b.length) := hL
  obtain ⟨iw, hiw⟩ : ∃ d, d = isWord n := ⟨_, rfl⟩
  have HIW : Hid (iw = isWord n) := hiw
  have HW : Hid _ := fun (W : World) => wordb_is n W hnl iw hiw.symm
  obtain ⟨nx, hnx⟩ : ∃ nx : ByteArray, nx = ⟨n.toArray⟩ := ⟨_, rfl⟩
  have HNX : Hid (nx = ⟨n.toArray⟩) := hnx
  obtain ⟨ck, hck⟩ : ∃ ck, ck = fchk fs := ⟨_, rfl⟩
  have HCK : Hid (ck = fchk fs) := hck
  rw [← hN, ← hck] at HC
  rw [← hnx] at HW
  rw [← hN, ← hnx, ← hL]
  rw [← hL] at hbl
  clear hf hfit hb hnl hN hnx hck hL hiw
  by_cases h0 : ck = 0
  · subst h0
    have HPT : Hid (putT fs n b = putS fs n b) := (show _ = _ by unfold putT; rw [if_pos HCK.out.symm])
    obtain ⟨hl12, hri⟩ := fchk_zero HCK.out.symm
    have HRI : Hid _ := hri
    have HFI : Hid _ := fun (W : World) (hb : Below w.heap.size w W) => find_is ao cap fs n W (HF.out.below hb) hri hl12
    have HCL : Hid _ := fun (W : World) (hb : Below w.heap.size w W) => cloned_is ao cap fs W (HF.out.below hb) hl12 (fun f hf => (from_all hri f hf).2)
    have HBC : Hid _ := fun (W : World) (hb : Below w.heap.size w W) (h4 : b.length ≤ 100000) => bclone_is ab cb b W (HBR.out.below hb) h4
    rw [← HN.out, ← HNX.out] at HFI
    rw [← HN.out] at HCL
    rw [← HL.out] at HBC
    rw [← HN.out] at hl12
    have hpl := pos_le fs n
    obtain ⟨p, hp⟩ : ∃ p, p = posOf fs n := ⟨_, rfl⟩
    have HP : Hid (p = posOf fs n) := hp
    obtain ⟨t, ht⟩ : ∃ t, t = thereOf fs n := ⟨_, rfl⟩
    have HT : Hid (t = thereOf fs n) := ht
    rw [← hp, ← ht] at HFI
    rw [← hp, ← HN.out] at hpl
    clear hri hp ht
    cases iw with
    | false =>
      have HR : Hid (putT fs n b = ([], 1)) := (show _ = _ by rw [HPT.out]; exact putS_word HIW.out.symm)
      clear HFI HCL HBC
      go_enter Tryz.func10, Tryz.ntmps10
      go_wp2_with fail
      refine Calls.mono HC.out ?_
      rintro e w1 ⟨rfl, hb1⟩
      have HB1 : Hid (Below w.heap.size w w1) := hb1
      clear hb1 HC
      go_wp2_with fail
      refine Calls.mono (HW.out w1) ?_
      rintro e w2 ⟨rfl, hb2⟩
      have HB2 : Hid (Below w.heap.size w w2) := HB1.out.trans (hb2.mono HB1.out.size)
      clear hb2 HW HB1
      go_wp2_with fail
      go_ret2
      exact putEnd_err HR.out rfl HB2.out
    | true =>
      go_enter Tryz.func10, Tryz.ntmps10
      go_wp2_with fail
      refine Calls.mono HC.out ?_
      rintro e w1 ⟨rfl, hb1⟩
      have HB1 : Hid (Below w.heap.size w w1) := hb1
      clear hb1 HC
      go_wp2_with fail
      refine Calls.mono (HW.out w1) ?_
      rintro e w2 ⟨rfl, hb2⟩
      have HB2 : Hid (Below w.heap.size w w2) := HB1.out.trans (hb2.mono HB1.out.size)
      clear hb2 HW HB1
      go_wp2_with fail
      have hQ := HFI.out w2 HB2.out
      refine Calls.mono hQ ?_
      rintro e w3 ⟨rfl, hb3⟩
      have HB3 : Hid (Below w.heap.size w w3) := HB2.out.trans (hb3.mono HB2.out.size)
      clear hb3 hQ HFI HB2
      by_cases hl4 : 4000 < L
      · have HR : Hid (putT fs n b = ([], 2)) := (show _ = _ by rw [HPT.out]; exact putS_long HIW.out.symm (by have := HL.out; omega))
        have hq : (4000 : Int) < L := by omega
        clear HCL HBC
        go_wp2_with fail
        go_ret2
        exact putEnd_err HR.out rfl HB3.out
      · have hq : ¬ (4000 : Int) < L := by omega
        cases t with
        | true =>
          obtain ⟨f, hfk, hfn⟩ := there_get HT.out.symm
          have HPF : Hid (putT fs n b = (fs.set p ⟨n, b⟩, 0)) := (show _ = _ by
            rw [HPT.out, putS_ok HIW.out.symm (by have := HL.out; omega) (by rw [put_len_there b HRI.out HT.out.symm, ← HN.out]; omega), put_there b HRI.out HT.out.symm, HP.out])
          rw [← HP.out] at hfk
          have hpN : p < N := by have := (List.getElem?_eq_some_iff.1 hfk).1; rw [HN.out]; exact this
          have HFK : Hid (fs[p]? = some f) := hfk
          have HFN : Hid (f.name = n) := hfn
          clear hfk hfn
          go_wp2_with fail
          have hQ := HCL.out w3 HB3.out
          refine Calls.mono hQ ?_
          rintro e w4 ⟨v', rows, rfl, hfo, hmap, hb4⟩
          have HB4 : Hid (Below w.heap.size w w4) := HB3.out.trans (hb4.mono HB3.out.size)
          have HLR : rows.length = N := by rw [HN.out, ← hmap, List.length_map]
          obtain ⟨g, cg, hv, hBg⟩ := hfo.form (by omega)
          rw [HLR] at hv
          subst hv
          have HFO : Hid _ := hfo
          have HM : Hid _ := hmap
          have HG : Hid (w.heap.size ≤ g) := Nat.le_trans HB3.out.size hBg
          clear hfo hmap hb4 hQ HCL HB3 hBg
          go_wp2_with fail
          have hQ := HBC.out w4 HB4.out (by have := HL.out; omega)
          refine Calls.mono hQ ?_
          rintro e w5 ⟨ar, cr, rfl, hrd5, hnew, hb5⟩
          have HB5 : Hid (Below w.heap.size w w5) := HB4.out.trans (hb5.mono HB4.out.size)
          have HFO5 : Hid (FO w5 w3.heap.size 45 (.slice (some ⟨g, 0, none⟩) N cg) rows) := HFO.out.below hb5
          obtain ⟨r, hr⟩ : ∃ r, rows[p]? = some r := ⟨_, List.getElem?_eq_getElem (by omega)⟩
          have hrf : r.1 = f := by
            have h1 := HFK.out
            rw [← HM.out, List.getElem?_map, hr] at h1
            simpa using h1
          obtain ⟨hd0, hd1, hdz⟩ := HFO5.out.cells2 hr
          have hgl := (HFO.out.own.lt g rfl).2
          have HGO : Hid (GoodO w5 (some g) (⟨n, b⟩, ar, L, cr)) := ⟨HL.out, by show Reads w5 (.slice ar L cr) _ _; rw [HL.out] at hrd5 ⊢; exact hrd5, fun _ a ha he => by
            have := hnew a ha
            injection he with he
            omega⟩
          have HFS : Hid _ := HFO5.out.set hr (r' := (⟨n, b⟩, ar, L, cr)) (by show n = r.1.name; rw [hrf]; exact HFN.out.symm) HGO.out
          have HMS : Hid ((rows.set p (⟨n, b⟩, ar, L, cr)).map (·.1) = fs.set p ⟨n, b⟩) := (show _ = _ by rw [List.map_set, HM.out])
          clear hQ hrd5 hnew hb5 HBC hr hrf hgl hd0 HLR
          go_wp2_with fail
          go_ret2
          exact putEnd_fo HFS.out HMS.out HPF.out rfl (HB5.out.setCell (p := ⟨g, p * 2 + 1, none⟩) HG.out _)
        | false =>
          by_cases hN12 : N = 12
          · have HR : Hid (putT fs n b = ([], 2)) := (show _ = _ by rw [HPT.out]; exact putS_many HIW.out.symm (by have := HL.out; omega) (by rw [put_len_not b HRI.out HT.out.symm, ← HN.out]; omega))
            subst hN12
            clear HCL HBC
            go_wp2_with fail
            go_ret2
            exact putEnd_err HR.out rfl HB3.out
          · have hqN : ¬ (N : Int) = 12 := by omega
            have hdd : (decide ((4000 : Int) < (L : Int)) || ((N : Int) == 12)) = false := by simp [hq, hqN]
            have HPF : Hid (putT fs n b = (fs.take p ++ ⟨n, b⟩ :: fs.drop p, 0)) := (show _ = _ by
              rw [HPT.out, putS_ok HIW.out.symm (by have := HL.out; omega) (by rw [put_len_not b HRI.out HT.out.symm, ← HN.out]; omega), put_not b HRI.out HT.out.symm, HP.out])
            go_wp2_with fail
            have hQ := HCL.out w3 HB3.out
            refine Calls.mono hQ ?_
            rintro e w4 ⟨v', rows, rfl, hfo, hmap, hb4⟩
            have HB4 : Hid (Below w.heap.size w w4) := HB3.out.trans (hb4.mono HB3.out.size)
            have HLR : rows.length = N := by rw [HN.out, ← hmap, List.length_map]
            obtain ⟨av, cv, hv, _, _⟩ := hfo.shape
            rw [HLR] at hv
            subst hv
            have HFO : Hid _ := hfo
            have HM : Hid _ := hmap
            have HS34 : Hid (w3.heap.size ≤ w4.heap.size) := hb4.size
            have HW3 : Hid (w.heap.size ≤ w3.heap.size) := HB3.out.size
            have HIN : Hid _ := fun (W : World) (hFW : FO W w3.heap.size 45 (.slice av N cv) rows) => insert_is (.slice av N cv) rows p (⟨n, []⟩, none, 0, 0) w4.heap.size w3.heap.size W hFW (by omega) (by omega)
            clear hfo hmap hb4 hQ HCL HB3
            go_wp2_with fail
            have hb41 : Below w4.heap.size w4 (w4.alloc (.cells #[.string nx, .slice none 0 0] 45)) := boxr_of
            have hQ := HIN.out _ (HFO.out.below hb41) (by simp; exact Nat.le_succ_of_le HS34.out) (fun e => by
              have := (HFO.out.own.lt _ e).2
              omega) (by rw [HNX.out]; exact heap_alloc_new w4 _) (good_empty n)
            refine Calls.mono hQ ?_
            rintro e w5 ⟨v5, rfl, hfo5, hb5⟩
            have HB5 : Hid (Below w.heap.size w w5) := (HB4.out.trans (hb41.mono HB4.out.size)).trans (hb5.mono HW3.out)
            have hil := insR_length rows p ((⟨n, []⟩, none, 0, 0) : FRow) (by omega)
            obtain ⟨g, cg, hv, hBg⟩ := hfo5.form (by omega)
            rw [hil, HLR] at hv
            subst hv
            have HFO5 : Hid _ := hfo5
            have HG : Hid (w.heap.size ≤ g) := Nat.le_trans HW3.out hBg
            have HLR' : Hid (rows.length = N) := HLR
            clear hQ hb5 hfo5 hb41 HIN HFO hil hBg HLR
            go_wp2_with fail
            have hQ := HBC.out w5 HB5.out (by have := HL.out; omega)
            refine Calls.mono hQ ?_
            rintro e w6 ⟨ar, cr, rfl, hrd6, hnew, hb6⟩
            have HB6 : Hid (Below w.heap.size w w6) := HB5.out.trans (hb6.mono HB5.out.size)
            have HFO6 : Hid (FO w6 w3.heap.size 45 (.slice (some ⟨g, 0, none⟩) (N + 1) cg) (insR rows p (⟨n, []⟩, none, 0, 0))) := HFO5.out.below hb6
            have hr := insR_at (rows := rows) (p := p) (r := (⟨n, []⟩, none, 0, 0)) (by have := HLR'.out; omega)
            obtain ⟨hd0, hd1, hdz⟩ := HFO6.out.cells2 hr
            have hgl := (HFO5.out.own.lt g rfl).2
            have HGO : Hid (GoodO w6 (some g) (⟨n, b⟩, ar, L, cr)) := ⟨HL.out, by show Reads w6 (.slice ar L cr) _ _; rw [HL.out] at hrd6 ⊢; exact hrd6, fun _ a ha he => by
              have := hnew a ha
              injection he with he
              omega⟩
            have HFS : Hid _ := HFO6.out.set hr (r' := (⟨n, b⟩, ar, L, cr)) rfl HGO.out
            have HMS : Hid (((insR rows p (⟨n, []⟩, none, 0, 0)).set p (⟨n, b⟩, ar, L, cr)).map (·.1) = fs.take p ++ ⟨n, b⟩ :: fs.drop p) := (show _ = _ by rw [insR_set (by have := HLR'.out; omega), HM.out])
            clear hQ hrd6 hnew hb6 HBC hr hgl hd0
            go_wp2_with fail
            go_ret2
            exact putEnd_fo HFS.out HMS.out HPF.out rfl (HB6.out.setCell (p := ⟨g, p * 2 + 1, none⟩) HG.out _)
  · have HR : Hid (putT fs n b = ([], ck)) := (show _ = _ by unfold putT; rw [← HCK.out, if_neg h0])
    clear HW
    go_enter Tryz.func10, Tryz.ntmps10
    go_wp2_with fail
    refine Calls.mono HC.out ?_
    rintro e w1 ⟨rfl, hb1⟩
    have HB1 : Hid (Below w.heap.size w w1) := hb1
    clear hb1 HC
    go_wp2_with fail
    go_ret2
    exact putEnd_err HR.out rfl HB1.out
end Go.Proofs.YtkifihcficobnabGreatDoor
