/- bytes.Clone, slices.Clone at files; what cloned and Get do. -/
import Derived.Test.YtkifihcficobnabGreatDoorDevShell2b
import Derived.Test.YtkifihcficobnabGreatDoorPlainC
import Derived.Lib.SliceRun
namespace Go.Proofs.YtkifihcficobnabGreatDoor
open Go.RowKit Go.Gs
set_option linter.unusedVariables false

theorem infoU8 : (Tryz.prog.info? 5).map (fun i => (i.zero, i.size, i.bytes)) = some (some (.int .u8 0), 1, 1) := by kernel_rfl
theorem reads_none0 (w : World) : Reads w (.slice none 0 0) 0 [] := ⟨rfl, none, 0, rfl, Nat.le_refl _, by simp [maxLen], fun h => absurd rfl h⟩
theorem U_one {bs : List UInt8} : ∀ u ∈ bs.map U, u.oneCell' = true := by
  intro u hu
  obtain ⟨x, _, rfl⟩ := List.mem_map.1 hu
  rfl

set_option maxRecDepth 100000 in
set_option maxHeartbeats 2000000 in
theorem bclone_is (ab : Option Addr) (cb : Nat) (bs : List UInt8) (w : World) (hr : Reads w (.slice ab bs.length cb) bs.length (bs.map U)) (hl : bs.length ≤ 100000) :
    Calls Tryz.prog 47 #[.slice ab bs.length cb] w fun e w' => ∃ ar cr, e = .returned (.slice ar bs.length cr) ∧ Reads w' (.slice ar bs.length cr) bs.length (bs.map U) ∧ (∀ a, ar = some a → w.heap.size ≤ a.block) ∧ Below w.heap.size w w' := by
  obtain ⟨i0, hi, hi0, hi1, hi2⟩ := info_parts infoU8
  have hq : ∀ (w : World) (a : Option Addr) (n c n' c' : Nat), (binOp .eql 24 (.slice a n c) (.slice none n' c')).run Tryz.prog w = .ok (.bool a.isNone) w := fun w a n c n' c' => Lib.run_eql_slice_nil w _ _ a n c n' c' Tryz.underlying24
  obtain ⟨h1, ao, cap, e, h2, h3, h4⟩ := hr
  injection e with e1 e2 e3
  subst e1 e3
  cases ab with
  | none =>
    have h0 : bs = [] := by
      cases bs with
      | nil => rfl
      | cons x r => obtain ⟨b, off, e, _⟩ := h4 (by simp); cases e
    subst h0
    clear h4 h1
    go_enter Tryz.func47, Tryz.ntmps47
    go_wp2_with fail
    go_ret
    exact ⟨none, 0, rfl, reads_none0 _, (fun a h => by cases h), Below.refl _ _⟩
  | some a =>
    have hcell : ∀ j u, (bs.map U)[j]? = some u → w.cell? (a.add j) = some u := by
      intro j u hj
      have : 0 < bs.length := by
        have := (List.getElem?_eq_some_iff.1 hj).1
        simp at this
        omega
      obtain ⟨b, off, e, hc⟩ := h4 (by omega)
      injection e with e
      subst e
      rw [addF]
      exact hc j u hj
    have HC : Hid _ := hcell
    obtain ⟨xs, hxs⟩ : ∃ xs, xs = bs.map U := ⟨_, rfl⟩
    have HX : Hid (xs = bs.map U) := hxs
    obtain ⟨N, hN⟩ : ∃ N, N = bs.length := ⟨_, rfl⟩
    have HN : Hid (N = bs.length) := hN
    have HXL : Hid (xs.length = N) := (show _ = _ by rw [hxs, hN, List.length_map])
    rw [← hxs] at HC
    rw [← hxs, ← hN]
    rw [← hN] at hl
    clear h4 h1 hcell hxs hN h2 h3
    go_enter Tryz.func47, Tryz.ntmps47
    go_wp2_with (at_builtin; refine wpList_append_own _ rfl _ _ 24 rfl w.heap.size 5 i0 (.int .u8 0) 1 1 Tryz.underlying24 hi hi0 hi1 hi2 rfl (by decide) _ _ _ rfl (World.ownsRow_made w #[] 0 (Nat.le_refl _) (Nat.zero_le _) rfl) a N cb xs rfl ?qc1 ?qc2 ?qc3 ?qc4 ?qc5 ?qc6 ?_)
    case qc1 => first | (rw [HXL.out]; done) | (rw [HXL.out, Nat.mul_one])
    case qc2 =>
      intro j u hj
      have h := HC.out j u hj
      rw [boxr_of.cell (World.block_lt_of_cell? w _ h)]
      exact h
    case qc3 => rw [HX.out]; exact U_one
    case qc4 => unfold maxLen; omega
    case qc5 => omega
    all_goals try (case qc6 => simp)
    · intro v' w1 hown hg hnil
      have HB : Hid (Below w.heap.size w w1) := boxr_of.grown hg (by simp) (fun k hk => by injection hk with hk; subst hk; exact Nat.le_refl _)
      have hown' : w1.ownsRow w.heap.size 5 1 v' N xs := by simpa using hown
      have HO : Hid (w1.ownsRow w.heap.size 5 1 v' N xs) := hown'
      have HR : Hid (∃ ar cr, v' = .slice ar N cr ∧ ∀ a, ar = some a → w.heap.size ≤ a.block) := (show ∃ ar cr, v' = .slice ar N cr ∧ ∀ a, ar = some a → w.heap.size ≤ a.block by
        rcases hown'.2 with ⟨rfl, h0⟩ | ⟨g, cap, cur, rfl, hb, _⟩
        · exact ⟨none, 0, by rw [h0], fun a h => by cases h⟩
        · exact ⟨_, cap, rfl, fun a h => by injection h with h; subst h; exact hb⟩)
      clear hown hg hnil hown'
      go_wp2
      go_ret
      obtain ⟨ar, cr, hv, hn⟩ := HR.out
      refine ⟨ar, cr, by rw [← hv]; rfl, ?_, hn, HB.out⟩
      rw [← hv]
      exact Reads.of_owns HO.out

set_option maxRecDepth 100000 in
set_option maxHeartbeats 2000000 in
theorem fclone_is (ao : Option Addr) (N c : Nat) (xs : List Value) (w : World) (hl : xs.length = N * 2) (hn : N ≤ 100000) (h0 : ao = none → N = 0) (hc : ∀ a, ao = some a → ∀ j u, xs[j]? = some u → w.cell? (a.add j) = some u) (h1 : ∀ u ∈ xs, u.oneCell' = true) :
    Calls Tryz.prog 29 #[.slice ao N c] w fun e w' => ∃ v', e = .returned v' ∧ w'.ownsRow w.heap.size 45 2 v' N xs ∧ Below w.heap.size w w' := by
  obtain ⟨i0, hi, hi0, hi1, hi2⟩ := info_parts infoFile
  have hq : ∀ (w : World) (a : Option Addr) (n c n' c' : Nat), (binOp .eql 22 (.slice a n c) (.slice none n' c')).run Tryz.prog w = .ok (.bool a.isNone) w := fun w a n c n' c' => Lib.run_eql_slice_nil w _ _ a n c n' c' Tryz.underlying22
  have HC : Hid _ := hc
  have H1 : Hid _ := h1
  have HL : Hid _ := hl
  have H0 : Hid _ := h0
  clear hc h1 hl h0
  cases ao with
  | none =>
    obtain rfl := H0.out rfl
    have hx : xs = [] := List.eq_nil_of_length_eq_zero (by have := HL.out; omega)
    have HX : Hid (xs = []) := hx
    go_enter Tryz.func29, Tryz.ntmps29
    go_wp2_with fail
    go_ret
    exact ⟨_, rfl, by first | exact World.ownsRow_nil _ _ _ _ | (rw [HX.out]; exact World.ownsRow_nil _ _ _ _), Below.refl _ _⟩
  | some a =>
    go_enter Tryz.func29, Tryz.ntmps29
    go_wp2_with (at_builtin; refine wpList_append_own _ rfl _ _ 22 rfl w.heap.size 45 i0 (.agg #[.string ⟨#[]⟩, .slice none 0 0]) 2 40 Tryz.underlying22 hi hi0 hi1 hi2 rfl (by decide) _ _ _ rfl (World.ownsRow_made w #[] 0 (Nat.le_refl _) (Nat.zero_le _) rfl) a N c xs rfl ?qc1 ?qc2 ?qc3 ?qc4 ?qc5 ?qc6 ?_)
    case qc1 => exact HL.out
    case qc2 =>
      intro j u hj
      have h := HC.out a rfl j u hj
      rw [boxr_of.cell (World.block_lt_of_cell? w _ h)]
      exact h
    case qc3 => exact H1.out
    case qc4 => unfold maxLen; omega
    case qc5 => omega
    all_goals try (case qc6 => simp)
    · intro v' w1 hown hg hnil
      have HB : Hid (Below w.heap.size w w1) := boxr_of.grown hg (by simp) (fun k hk => by injection hk with hk; subst hk; exact Nat.le_refl _)
      have HO : Hid (w1.ownsRow w.heap.size 45 2 v' N xs) := (show w1.ownsRow w.heap.size 45 2 v' N xs by simpa using hown)
      clear hown hg hnil
      go_wp2
      go_ret
      exact ⟨v', rfl, HO.out, HB.out⟩
/-- slices.Clone of files: a row of one's own with the same slices of bytes. -/
theorem fclone_fo (ao : Option Addr) (cap : Nat) (fs : List SFile) (w : World) (hf : RFiles w (.slice ao fs.length cap) fs) (hn : fs.length ≤ 100000) :
    Calls Tryz.prog 29 #[.slice ao fs.length cap] w fun e w' => ∃ v' rows, e = .returned v' ∧ FO w' w.heap.size 45 v' rows ∧ rows.map (·.1) = fs ∧ Below w.heap.size w w' := by
  obtain ⟨rows, hrows, hrc⟩ := rows_of hf
  have hlen : rows.length = fs.length := by rw [← hrows, List.length_map]
  have h0 : ao = none → fs.length = 0 := by
    intro h
    subst h
    rcases Nat.eq_zero_or_pos fs.length with h | h
    · exact h
    · obtain ⟨f, hfk⟩ : ∃ f, fs[0]? = some f := ⟨_, List.getElem?_eq_getElem h⟩
      obtain ⟨_, _, _, _, e, _⟩ := hf.at hfk
      cases e
  refine (fclone_is ao fs.length cap (rowCells rows) w (by rw [rowCells_length, hlen]) hn h0 ?_ (rowCells_one rows)).mono ?_
  · intro a ha j u hu
    have hne : 0 < rows.length := by
      have := (List.getElem?_eq_some_iff.1 hu).1
      rw [rowCells_length] at this
      omega
    obtain ⟨⟨b, off, e, _⟩, _⟩ := hrc 0 rows[0] (List.getElem?_eq_getElem hne)
    rw [ha] at e
    injection e with e
    subst e
    rw [addF]
    refine rows_cells (fun k r hk => ?_) j u hu
    obtain ⟨⟨b', off', e, c0, c1⟩, _⟩ := hrc k r hk
    rw [ha] at e
    injection e with e
    injection e with e1 e2
    subst e1 e2
    exact ⟨c0, c1⟩
  · rintro e w' ⟨v', rfl, hown, hb⟩
    refine ⟨v', rows, rfl, ⟨by rw [hlen]; exact hown, fun r hr => ?_⟩, hrows, hb⟩
    obtain ⟨j, hj, e⟩ := List.mem_iff_getElem.1 hr
    obtain ⟨_, g1, g2⟩ := hrc j r (by rw [List.getElem?_eq_getElem hj, e])
    refine ⟨g1, g2.below hb, fun hne a ha hg => ?_⟩
    have hlt := (hown.lt a.block hg).1
    obtain ⟨h1, ao', cap', e', h2, h3, h4⟩ := g2
    obtain ⟨b, off, rfl, hc⟩ := h4 hne
    injection e' with e1 e2 e3
    rw [ha] at e1
    injection e1 with e1
    subst e1
    have hl : 0 < (r.1.b.map U).length := by rw [h1]; omega
    have := World.block_lt_of_cell? w _ (hc 0 _ (List.getElem?_eq_getElem hl))
    simp only at this hlt
    omega
end Go.Proofs.YtkifihcficobnabGreatDoor
