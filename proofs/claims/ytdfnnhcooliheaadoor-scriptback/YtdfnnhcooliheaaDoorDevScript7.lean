/- What Check does to the lines that are found; slices.Clone at lines; strings.Clone. -/
import Derived.Test.YtdfnnhcooliheaaDoorDevScript6
import Derived.Lib.SliceRun
namespace Go.Proofs.YtdfnnhcooliheaaDoor
open Go.RowKit Go.Gs
set_option linter.unusedVariables false

set_option maxRecDepth 100000 in
set_option maxHeartbeats 4000000 in
theorem scheck_many (ao : Option Addr) (N cap : Nat) (w : World) (h : 6 < N) (hN : N ≤ 9223372036854775807) :
    Calls Tryd.prog 44 #[.slice ao N cap] w fun e w' => e = .returned (.int .i64 2) ∧ Below w.heap.size w w' := by
  have hq : (6 : Int) < N := by omega
  go_enter Tryd.func44, Tryd.ntmps44
  go_wp2_with fail
  go_ret
  exact ⟨rfl, Below.refl _ _⟩
theorem FA.fits {w wr : World} {r : Nat} {rows : List (Value × Value × Value)} {ls : List SLine} (h : Rows wr r rows ls) : ∀ x ∈ ls, FitsL x := by
  intro x hx
  obtain ⟨j, hj, e⟩ := List.mem_iff_getElem.1 hx
  have h1 : ls[j]? = some x := by rw [List.getElem?_eq_getElem hj, e]
  have h2 : rows[j]? = some (rows[j]'(by rw [h.1]; exact hj)) := List.getElem?_eq_getElem _
  exact (h.2 j _ x h2 h1).fit
theorem FA.lines {w wr : World} {r g n cap : Nat} {ls : List SLine} (h : FA w wr r g n cap ls) (hn : n ≤ 6) : ∃ rows, RLines wr (.slice (some ⟨g, 0, none⟩) n cap) ls ∧ (∀ j u, (tri rows)[j]? = some u → wr.cell? ⟨g, 0 + j, none⟩ = some u) ∧ Rows wr r rows ls ∧ n ≤ cap := by
  obtain ⟨h1, h2, h3, h4, h5⟩ := h
  rcases h5 with ⟨a1, rfl, rfl, a4, rows, a5, a6⟩ | ⟨b1, _⟩
  · have hc : ∀ j u, (tri rows)[j]? = some u → wr.cell? ⟨g, 0 + j, none⟩ = some u := fun j u hu => by rw [Nat.zero_add]; exact a5 j u hu
    exact ⟨rows, rlines_of a6 h4.symm a1 (by simp [maxLen]) hc, hc, a6, a1⟩
  · omega
theorem scheck_fa {w wr : World} {r g n cap : Nat} {ls : List SLine} (h : FA w wr r g n cap ls) (hn : n ≤ 100000) :
    Calls Tryd.prog 44 #[.slice (some ⟨g, 0, none⟩) n cap] wr fun e w' => e = .returned (.int .i64 (schk ls)) ∧ Below wr.heap.size wr w' := by
  by_cases h6 : n ≤ 6
  · obtain ⟨rows, hl, _, hr, _⟩ := h.lines h6
    have e := h.2.2.2.1
    have := scheck_is (some ⟨g, 0, none⟩) cap ls wr (by rw [e]; exact hl) (FA.fits (w := w) hr)
    rw [e] at this
    exact this
  · rw [schk_many (by rw [h.2.2.2.1]; omega)]
    exact scheck_many _ n cap wr (by omega) (by omega)

set_option maxRecDepth 100000 in
set_option maxHeartbeats 4000000 in
theorem lclone_is (b off n c : Nat) (xs : List Value) (w : World) (hl : xs.length = n * 3) (hn : n ≤ 100000) (hc : ∀ j u, xs[j]? = some u → w.cell? ⟨b, off + j, none⟩ = some u) (h1 : ∀ u ∈ xs, u.oneCell' = true) :
    Calls Tryd.prog 55 #[.slice (some ⟨b, off, none⟩) n c] w fun e w' => ∃ v', e = .returned v' ∧ w'.ownsRow w.heap.size 78 3 v' n xs ∧ v' ≠ .slice none 0 0 ∧ Below w.heap.size w w' := by
  obtain ⟨i0, hi, hi0, hi1, hi2⟩ := info_parts infoLine
  have hq : ∀ (w : World) (a : Option Addr) (n c n' c' : Nat), (binOp .eql 51 (.slice a n c) (.slice none n' c')).run Tryd.prog w = .ok (.bool a.isNone) w := fun w a n c n' c' => Lib.run_eql_slice_nil w _ _ a n c n' c' Tryd.underlying51
  have HC : Hid _ := hc
  have H1 : Hid _ := h1
  have HL : Hid _ := hl
  clear hc h1 hl
  go_enter Tryd.func55, Tryd.ntmps55
  go_wp2_with (at_builtin; refine wpList_append_own _ rfl _ _ 51 rfl w.heap.size 78 i0 (.agg #[.slice none 0 0, .slice none 0 0, .string ⟨#[]⟩]) 3 64 Tryd.underlying51 hi hi0 hi1 hi2 rfl (by decide) _ _ _ rfl (World.ownsRow_made w #[] 0 (Nat.le_refl _) (Nat.zero_le _) rfl) ⟨b, off, none⟩ n c xs rfl ?qc1 ?qc2 ?qc3 ?qc4 ?qc5 ?qc6 ?_)
  case qc1 => exact HL.out
  case qc2 =>
    intro j u hj
    have hadd : (⟨b, off, none⟩ : Addr).add j = ⟨b, off + j, none⟩ := by unfold Addr.add; split <;> simp_all
    have h := HC.out j u hj
    rw [hadd, box_of.cell (World.block_lt_of_cell? w _ h)]
    exact h
  case qc3 => exact H1.out
  case qc4 => unfold maxLen; omega
  case qc5 => omega
  case qc6 => simp
  · intro v' w1 hown hg hnil
    have HB : Hid (Below w.heap.size w w1) := box_of.grown hg (by simp) (fun k hk => by injection hk with hk; subst hk; exact Nat.le_refl _)
    have HO : Hid (w1.ownsRow w.heap.size 78 3 v' n xs) := (show w1.ownsRow w.heap.size 78 3 v' n xs by simpa using hown)
    have HN : Hid _ := hnil
    clear hown hg hnil
    go_wp2
    go_ret
    refine ⟨v', rfl, ?_, fun e => ?_, HB.out⟩
    · exact HO.out
    · exact HN.out e

theorem sclone_is (s : ByteArray) (w : World) (hs : s.size ≤ 100000) :
    Calls Tryd.prog 51 #[.string s] w fun e w' => e = .returned (.string s) ∧ Below w.heap.size w w' := by
  go_enter Tryd.func51, Tryd.ntmps51
  go_wp2_with fail
  refine (Tryd.stringslite_Clone s w (by omega)).mono ?_
  rintro e w1 ⟨rfl, hb1⟩
  have HB : Hid (Below w.heap.size w w1) := hb1
  clear hb1
  go_wp2_with fail
  go_ret
  exact ⟨rfl, HB.out⟩

/-! Plainly: one line of what is left. -/
theorem rest_nil {f : Nat} {ls : List SLine} : parseRest (f + 1) [] ls = parseFin ls := by unfold parseRest; rw [if_pos rfl]
theorem rest_bad {f : Nat} {rest : List UInt8} {ls : List SLine} (h : rest ≠ []) (hb : (Lib.cut rest [10]).2.2 = false ∨ parseLine (Lib.cut rest [10]).1 = none) : parseRest (f + 1) rest ls = ([], ls.length, 1) := by
  unfold parseRest
  rw [if_neg h]
  split
  · rename_i x h1 h2
    rcases hb with hb | hb
    · rw [h1] at hb; cases hb
    · rw [h2] at hb; cases hb
  · rfl
theorem rest_err {f : Nat} {rest : List UInt8} {ls : List SLine} {x : SLine} (h : rest ≠ []) (h1 : (Lib.cut rest [10]).2.2 = true) (h2 : parseLine (Lib.cut rest [10]).1 = some x) (hx : lchk x ≠ 0) : parseRest (f + 1) rest ls = ([], ls.length, lchk x) := by
  unfold parseRest
  rw [if_neg h, h1, h2]
  simp only
  rw [if_neg hx]
theorem rest_go {f : Nat} {rest : List UInt8} {ls : List SLine} {x : SLine} (h : rest ≠ []) (h1 : (Lib.cut rest [10]).2.2 = true) (h2 : parseLine (Lib.cut rest [10]).1 = some x) (hx : lchk x = 0) : parseRest (f + 1) rest ls = parseRest f (Lib.cut rest [10]).2.1 (ls ++ [x]) := by
  conv => lhs; unfold parseRest
  rw [if_neg h, h1, h2]
  simp only
  rw [if_pos hx]
theorem cut_less {rest : List UInt8} (h1 : (Lib.cut rest [10]).2.2 = true) : (Lib.cut rest [10]).2.1.length + 1 ≤ rest.length := by
  have := congrArg List.length (cut_true h1)
  simp at this
  omega
theorem parsed_is (row : List UInt8) (w : World) (hs : row.length ≤ 100000) (hE : KnownS w) :
    Calls Tryd.prog 53 #[.string ⟨row.toArray⟩] w fun e w' => ∃ af nf cf ad nd cd tx b, e = .returned (.tuple #[.agg #[.slice af nf cf, .slice ad nd cd, .string tx], .bool b]) ∧
      ((b = false ∧ parseLine row = none) ∨ (b = true ∧ ∃ x, parseLine row = some x ∧ tx = ⟨x.to.toArray⟩ ∧ nf = x.fr.length ∧ nd = x.cs.length ∧ Reads w' (.slice af nf cf) x.fr.length (x.fr.map S) ∧ RCmds w' (.slice ad nd cd) x.cs ∧ FitsL x ∧ New w.heap.size (.slice af nf cf) ∧ New w.heap.size (.slice ad nd cd))) ∧ Below w.heap.size w w' := by
  cases h : (Lib.cut row [32, 62, 32]).2.2 with
  | true => exact parsed_yes row w hs hE h
  | false =>
    refine (parsed_no row w hs hE h).mono ?_
    rintro e w' ⟨rfl, hb⟩
    exact ⟨_, _, _, _, _, _, _, _, rfl, .inl ⟨rfl, parseLine_no h⟩, hb⟩
end Go.Proofs.YtdfnnhcooliheaaDoor
