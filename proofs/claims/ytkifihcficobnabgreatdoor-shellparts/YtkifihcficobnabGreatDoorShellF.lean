/- bytes.Clone, slices.Clone at files; what cloned and Get do. What cloned and Get do. -/
import Derived.Test.YtkifihcficobnabGreatDoorShellE
import Derived.Test.YtkifihcficobnabGreatDoorPlainE
import Derived.Lib.SliceRun
namespace Go.Proofs.YtkifihcficobnabGreatDoor
open Go.RowKit Go.Gs
set_option linter.unusedVariables false

theorem infoU8 : (Tryz.prog.info? 5).map (fun i => (i.zero, i.size, i.bytes)) = some (some (.int .u8 0), 1, 1) := by kernel_rfl
theorem reads_none0 (w : World) : Reads w (.slice none 0 0) 0 [] := ⟨rfl, none, 0, rfl, Nat.le_refl _, by simp [maxLen], fun h => absurd rfl h⟩
theorem U_one {bs : List UInt8} : ∀ u ∈ bs.map U, u.oneCell' = true := by
  intro u hu
  obtain ⟨x, _, rfl⟩ := List.mem_map.1 hu
  rfl

set_option maxRecDepth 100000 in
set_option maxHeartbeats 2000000 in
theorem bclone_is (ab : Option Addr) (cb : Nat) (bs : List UInt8) (w : World) (hr : Reads w (.slice ab bs.length cb) bs.length (bs.map U)) (hl : bs.length ≤ 100000) :
    Calls Tryz.prog 47 #[.slice ab bs.length cb] w fun e w' => ∃ ar cr, e = .returned (.slice ar bs.length cr) ∧ Reads w' (.slice ar bs.length cr) bs.length (bs.map U) ∧ (∀ a, ar = some a → w.heap.size ≤ a.block) ∧ Below w.heap.size w w' := by
  obtain ⟨i0, hi, hi0, hi1, hi2⟩ := info_parts infoU8
  have hq : ∀ (w : World) (a : Option Addr) (n c n' c' : Nat), (binOp .eql 24 (.slice a n c) (.slice none n' c')).run Tryz.prog w = .ok (.bool a.isNone) w := fun w a n c n' c' => Lib.run_eql_slice_nil w _ _ a n c n' c' Tryz.underlying24
  obtain ⟨h1, ao, cap, e, h2, h3, h4⟩ := hr
  injection e with e1 e2 e3
  subst e1 e3
  cases ab with
  | none =>
    have h0 : bs = [] := by
      cases bs with
      | nil => rfl
      | cons x r => obtain ⟨b, off, e, _⟩ := h4 (by simp); cases e
    subst h0
    clear h4 h1
    go_enter Tryz.func47, Tryz.ntmps47
    go_wp2_with fail
    go_ret
    exact ⟨none, 0, rfl, reads_none0 _, (fun a h => by cases h), Below.refl _ _⟩
  | some a =>
    have hcell : ∀ j u, (bs.map U)[j]? = some u → w.cell? (a.add j) = some u := by
      intro j u hj
      have : 0 < bs.length := by
        have := (List.getElem?_eq_some_iff.1 hj).1
        simp at this
        omega
      obtain ⟨b, off, e, hc⟩ := h4 (by omega)
      injection e with e
      subst e
      rw [addF]
      exact hc j u hj
    have HC : Hid _ := hcell
    obtain ⟨xs, hxs⟩ : ∃ xs, xs = bs.map U := ⟨_, rfl⟩
    have HX : Hid (xs = bs.map U) := hxs
    obtain ⟨N, hN⟩ : ∃ N, N = bs.length := ⟨_, rfl⟩
    have HN : Hid (N = bs.length) := hN
    have HXL : Hid (xs.length = N) := (show _ = _ by rw [hxs, hN, List.length_map])
    rw [← hxs] at HC
    rw [← hxs, ← hN]
    rw [← hN] at hl
    clear h4 h1 hcell hxs hN h2 h3
    go_enter Tryz.func47, Tryz.ntmps47
    go_wp2_with (at_builtin; refine wpList_append_own _ rfl _ _ 24 rfl w.heap.size 5 i0 (.int .u8 0) 1 1 Tryz.underlying24 hi hi0 hi1 hi2 rfl (by decide) _ _ _ rfl (World.ownsRow_made w #[] 0 (Nat.le_refl _) (Nat.zero_le _) rfl) a N cb xs rfl ?qc1 ?qc2 ?qc3 ?qc4 ?qc5 ?qc6 ?_)
    case qc1 => first | (rw [HXL.out]; done) | (rw [HXL.out, Nat.mul_one])
    case qc2 =>
      intro j u hj
      have h := HC.out j u hj
      rw [boxr_of.cell (World.block_lt_of_cell? w _ h)]
      exact h
    case qc3 => rw [HX.out]; exact U_one
    case qc4 => unfold maxLen; omega
    case qc5 => omega
    all_goals try (case qc6 => simp)
    · intro v' w1 hown hg hnil
      have HB : Hid (Below w.heap.size w w1) := boxr_of.grown hg (by simp) (fun k hk => by injection hk with hk; subst hk; exact Nat.le_refl _)
      have hown' : w1.ownsRow w.heap.size 5 1 v' N xs := by simpa using hown
      have HO : Hid (w1.ownsRow w.heap.size 5 1 v' N xs) := hown'
      have HR : Hid (∃ ar cr, v' = .slice ar N cr ∧ ∀ a, ar = some a → w.heap.size ≤ a.block) := (show ∃ ar cr, v' = .slice ar N cr ∧ ∀ a, ar = some a → w.heap.size ≤ a.block by
        rcases hown'.2 with ⟨rfl, h0⟩ | ⟨g, cap, cur, rfl, hb, _⟩
        · exact ⟨none, 0, by rw [h0], fun a h => by cases h⟩
        · exact ⟨_, cap, rfl, fun a h => by injection h with h; subst h; exact hb⟩)
      clear hown hg hnil hown'
      go_wp2
      go_ret
      obtain ⟨ar, cr, hv, hn⟩ := HR.out
      refine ⟨ar, cr, by rw [← hv]; rfl, ?_, hn, HB.out⟩
      rw [← hv]
      exact Reads.of_owns HO.out

set_option maxRecDepth 100000 in
set_option maxHeartbeats 2000000 in
theorem fclone_is (ao : Option Addr) (N c : Nat) (xs : List Value) (w : World) (hl : xs.length = N * 2) (hn : N ≤ 100000) (h0 : ao = none → N = 0) (hc : ∀ a, ao = some a → ∀ j u, xs[j]? = some u → w.cell? (a.add j) = some u) (h1 : ∀ u ∈ xs, u.oneCell' = true) :
    Calls Tryz.prog 29 #[.slice ao N c] w fun e w' => ∃ v', e = .returned v' ∧ w'.ownsRow w.heap.size 45 2 v' N xs ∧ Below w.heap.size w w' := by
  obtain ⟨i0, hi, hi0, hi1, hi2⟩ := info_parts infoFile
  have hq : ∀ (w : World) (a : Option Addr) (n c n' c' : Nat), (binOp .eql 22 (.slice a n c) (.slice none n' c')).run Tryz.prog w = .ok (.bool a.isNone) w := fun w a n c n' c' => Lib.run_eql_slice_nil w _ _ a n c n' c' Tryz.underlying22
  have HC : Hid _ := hc
  have H1 : Hid _ := h1
  have HL : Hid _ := hl
  have H0 : Hid _ := h0
  clear hc h1 hl h0
  cases ao with
  | none =>
    obtain rfl := H0.out rfl
    have hx : xs = [] := List.eq_nil_of_length_eq_zero (by have := HL.out; omega)
    have HX : Hid (xs = []) := hx
    go_enter Tryz.func29, Tryz.ntmps29
    go_wp2_with fail
    go_ret
    exact ⟨_, rfl, by first | exact World.ownsRow_nil _ _ _ _ | (rw [HX.out]; exact World.ownsRow_nil _ _ _ _), Below.refl _ _⟩
  | some a =>
    go_enter Tryz.func29, Tryz.ntmps29
    go_wp2_with (at_builtin; refine wpList_append_own _ rfl _ _ 22 rfl w.heap.size 45 i0 (.agg #[.string ⟨#[]⟩, .slice none 0 0]) 2 40 Tryz.underlying22 hi hi0 hi1 hi2 rfl (by decide) _ _ _ rfl (World.ownsRow_made w #[] 0 (Nat.le_refl _) (Nat.zero_le _) rfl) a N c xs rfl ?qc1 ?qc2 ?qc3 ?qc4 ?qc5 ?qc6 ?_)
    case qc1 => exact HL.out
    case qc2 =>
      intro j u hj
      have h := HC.out a rfl j u hj
      rw [boxr_of.cell (World.block_lt_of_cell? w _ h)]
      exact h
    case qc3 => exact H1.out
    case qc4 => unfold maxLen; omega
    case qc5 => omega
    all_goals try (case qc6 => simp)
    · intro v' w1 hown hg hnil
      have HB : Hid (Below w.heap.size w w1) := boxr_of.grown hg (by simp) (fun k hk => by injection hk with hk; subst hk; exact Nat.le_refl _)
      have HO : Hid (w1.ownsRow w.heap.size 45 2 v' N xs) := (show w1.ownsRow w.heap.size 45 2 v' N xs by simpa using hown)
      clear hown hg hnil
      go_wp2
      go_ret
      exact ⟨v', rfl, HO.out, HB.out⟩
/-- slices.Clone of files: a row of one's own with the same slices of bytes. -/
theorem fclone_fo (ao : Option Addr) (cap : Nat) (fs : List SFile) (w : World) (hf : RFiles w (.slice ao fs.length cap) fs) (hn : fs.length ≤ 100000) :
    Calls Tryz.prog 29 #[.slice ao fs.length cap] w fun e w' => ∃ v' rows, e = .returned v' ∧ FO w' w.heap.size 45 v' rows ∧ rows.map (·.1) = fs ∧ Below w.heap.size w w' := by
  obtain ⟨rows, hrows, hrc⟩ := rows_of hf
  have hlen : rows.length = fs.length := by rw [← hrows, List.length_map]
  have h0 : ao = none → fs.length = 0 := by
    intro h
    subst h
    rcases Nat.eq_zero_or_pos fs.length with h | h
    · exact h
    · obtain ⟨f, hfk⟩ : ∃ f, fs[0]? = some f := ⟨_, List.getElem?_eq_getElem h⟩
      obtain ⟨_, _, _, _, e, _⟩ := hf.at hfk
      cases e
  refine (fclone_is ao fs.length cap (rowCells rows) w (by rw [rowCells_length, hlen]) hn h0 ?_ (rowCells_one rows)).mono ?_
  · intro a ha j u hu
    have hne : 0 < rows.length := by
      have := (List.getElem?_eq_some_iff.1 hu).1
      rw [rowCells_length] at this
      omega
    obtain ⟨⟨b, off, e, _⟩, _⟩ := hrc 0 rows[0] (List.getElem?_eq_getElem hne)
    rw [ha] at e
    injection e with e
    subst e
    rw [addF]
    refine rows_cells (fun k r hk => ?_) j u hu
    obtain ⟨⟨b', off', e, c0, c1⟩, _⟩ := hrc k r hk
    rw [ha] at e
    injection e with e
    injection e with e1 e2
    subst e1 e2
    exact ⟨c0, c1⟩
  · rintro e w' ⟨v', rfl, hown, hb⟩
    refine ⟨v', rows, rfl, ⟨by rw [hlen]; exact hown, fun r hr => ?_⟩, hrows, hb⟩
    obtain ⟨j, hj, e⟩ := List.mem_iff_getElem.1 hr
    obtain ⟨_, g1, g2⟩ := hrc j r (by rw [List.getElem?_eq_getElem hj, e])
    refine ⟨g1, g2.below hb, fun hne a ha hg => ?_⟩
    have hlt := (hown.lt a.block hg).1
    obtain ⟨h1, ao', cap', e', h2, h3, h4⟩ := g2
    obtain ⟨b, off, rfl, hc⟩ := h4 hne
    injection e' with e1 e2 e3
    rw [ha] at e1
    injection e1 with e1
    subst e1
    have hl : 0 < (r.1.b.map U).length := by rw [h1]; omega
    have := World.block_lt_of_cell? w _ (hc 0 _ (List.getElem?_eq_getElem hl))
    simp only at this hlt
    omega
end Go.Proofs.YtkifihcficobnabGreatDoor
namespace Go.Proofs.YtkifihcficobnabGreatDoor
open Go.RowKit Go.Gs
set_option linter.unusedVariables false

theorem set_fst {rows : List FRow} {k : Nat} {r r' : FRow} (h : rows[k]? = some r) (e : r'.1 = r.1) : (rows.set k r').map (·.1) = rows.map (·.1) := by
  rw [List.map_set, e]
  apply List.ext_getElem?
  intro j
  rw [List.getElem?_set]
  split
  · rename_i hj
    subst hj
    rw [List.getElem?_map, h]
    simp
    exact (List.getElem?_eq_some_iff.1 h).1
  · rfl
theorem _root_.Go.Gs.FO.cells2 {w : World} {B : Nat} {e : TypeId} {g n cap : Nat} {rows : List FRow} (h : FO w B e (.slice (some ⟨g, 0, none⟩) n cap) rows) {k : Nat} {r : FRow} (hk : rows[k]? = some r) : w.cell? ⟨g, k * 2, none⟩ = some (.string ⟨r.1.name.toArray⟩) ∧ w.cell? ⟨g, k * 2 + 1, none⟩ = some (.slice r.2.1 r.2.2.1 r.2.2.2) ∧ w.frozen? ⟨g, k * 2 + 1, none⟩ = false := by
  have hkl : k < rows.length := (List.getElem?_eq_some_iff.1 hk).1
  have hnn : n = rows.length := by
    rcases h.own.2 with ⟨h2, _⟩ | ⟨_, _, _, h2, _⟩
    · cases h2
    · injection h2
  subst hnn
  obtain ⟨a1, a2⟩ := rowCells_at rows k r hk
  have c1 := h.own.cellAt (k * 2) (by omega)
  have c2 := h.own.cellAt (k * 2 + 1) (by omega)
  rw [a1] at c1
  rw [a2] at c2
  exact ⟨c1, c2, h.own.frozenAt _⟩

set_option maxRecDepth 100000 in
set_option maxHeartbeats 4000000 in
theorem cloned_is (ao : Option Addr) (cap : Nat) (fs : List SFile) (w : World) (hf : RFiles w (.slice ao fs.length cap) fs) (hn : fs.length ≤ 12) (hb4 : ∀ f ∈ fs, f.b.length ≤ 4000) :
    Calls Tryz.prog 49 #[.slice ao fs.length cap] w fun e w' => ∃ v' rows, e = .returned v' ∧ FO w' w.heap.size 45 v' rows ∧ rows.map (·.1) = fs ∧ Below w.heap.size w w' := by
  have hC := fclone_fo ao cap fs w hf (by omega)
  have H4 : Hid _ := hb4
  have HC : Hid _ := hC
  obtain ⟨N, hN⟩ : ∃ N, N = fs.length := ⟨_, rfl⟩
  have HN : Hid (N = fs.length) := hN
  rw [← hN] at HC hn ⊢
  clear hf hC hb4 hN
  go_enter Tryz.func49, Tryz.ntmps49
  go_wp2_with fail
  refine Calls.mono HC.out ?_
  rintro e w1 ⟨v', rows, rfl, hfo, hmap, hb1⟩
  have HLR : rows.length = N := by rw [HN.out, ← hmap, List.length_map]
  by_cases h0 : N = 0
  · obtain ⟨a0, c0, hv, _, _⟩ := hfo.shape
    rw [HLR, h0] at hv
    subst hv
    subst h0
    have HE : Hid _ := And.intro hfo (And.intro hmap hb1)
    clear hfo hmap hb1 HC HLR
    go_wp2_with fail
    go_loopw [10] (fun i wr => i = .int .i64 0 ∧ wr = w1) (fun i _ => 0)
    case atStart => exact ⟨rfl, rfl⟩
    case round =>
      obtain ⟨rfl, rfl⟩ := hrel
      go_wp2_with fail
      go_ret
      exact ⟨_, rows, rfl, HE.out.1, HE.out.2.1, HE.out.2.2⟩
  · obtain ⟨g, cg, hv, hBg⟩ := hfo.form (by omega)
    rw [HLR] at hv
    subst hv
    have HFO : Hid _ := hfo
    have HM : Hid _ := hmap
    have HB1 : Hid _ := hb1
    have HW : Hid (w.heap.size ≤ g) := hBg
    clear hfo hmap hb1 HC HLR hBg
    go_wp2_with fail
    go_loopw [10] (fun i wr => ∃ k : Nat, ∃ rows : List FRow, k ≤ N ∧ i = .int .i64 k ∧ Hid (FO wr w.heap.size 45 (.slice (some ⟨g, 0, none⟩) N cg) rows) ∧ Hid (rows.map (·.1) = fs) ∧ Hid (Below w.heap.size w wr)) (fun i _ => N - (intOf i).toNat)
    case atStart => exact ⟨0, rows, Nat.zero_le _, rfl, HFO, HM, HB1⟩
    case round =>
      clear HFO HM HB1
      obtain ⟨k, rows, hk, rfl, HFO, HM, hbel⟩ := hrel
      by_cases hlt : k < N
      · obtain ⟨r, hr⟩ : ∃ r, rows[k]? = some r := ⟨_, List.getElem?_eq_getElem (by have h1 := congrArg List.length HM.out; rw [List.length_map] at h1; have := HN.out; omega)⟩
        have HK : Hid (rows[k]? = some r) := hr
        obtain ⟨hc0, hc1, hfz⟩ := HFO.out.cells2 hr
        have hgd := HFO.out.good r (List.mem_of_getElem? hr)
        have hr4 : r.1.b.length ≤ 4000 := H4.out r.1 (by rw [← HM.out]; exact List.mem_map.2 ⟨r, List.mem_of_getElem? hr, rfl⟩)
        have HG : Hid _ := hgd
        have hrd := hgd.2.1
        rw [hgd.1] at hrd hc1
        have HQ : Hid _ := fun (W : World) (hb : Below wr.heap.size wr W) => bclone_is r.2.1 r.2.2.2 r.1.b W (Reads.below hrd hb) (by omega)
        obtain ⟨rx, hrx⟩ : ∃ rx : ByteArray, rx = ⟨r.1.name.toArray⟩ := ⟨_, rfl⟩
        rw [← hrx] at hc0
        obtain ⟨r1, hr1⟩ : ∃ x, x = r.2.1 := ⟨_, rfl⟩
        obtain ⟨r2, hr2⟩ : ∃ x, x = r.1.b.length := ⟨_, rfl⟩
        obtain ⟨r3, hr3⟩ : ∃ x, x = r.2.2.2 := ⟨_, rfl⟩
        have HR2 : Hid (r2 = r.1.b.length) := hr2
        rw [← hr1, ← hr2, ← hr3] at hc1 HQ
        clear hr hgd hrd hr4 hrx hr1 hr2 hr3
        go_wp2_with fail
        have hQ := HQ.out _ (boxr_of (w := wr) (o := .cells #[.string rx, .slice r1 r2 r3] 45))
        refine Calls.mono hQ ?_
        rintro e w2 ⟨ar, cr, rfl, hrd2, hnew, hb2⟩
        have HB12 : Below wr.heap.size wr w2 := boxr_of.trans (hb2.mono boxr_of.size)
        have HFO2 : Hid (FO w2 w.heap.size 45 (.slice (some ⟨g, 0, none⟩) N cg) rows) := HFO.out.below HB12
        have HB2 : Hid (Below w.heap.size w w2) := hbel.out.trans (HB12.mono hbel.out.size)
        obtain ⟨hd0, hd1, hdz⟩ := HFO2.out.cells2 HK.out
        have hgl := (HFO.out.own.lt g rfl).2
        have HGO : Hid (GoodO w2 (some g) (r.1, ar, r2, cr)) := ⟨HR2.out, by show Reads w2 (.slice ar r2 cr) _ _; rw [HR2.out] at hrd2 ⊢; exact hrd2, fun _ a ha he => by
          have := hnew a ha
          injection he with he
          simp at this
          omega⟩
        have HFS : Hid _ := HFO2.out.set HK.out (r' := (r.1, ar, r2, cr)) rfl HGO.out
        clear hQ hrd2 hnew hb2 HB12 HQ hc0 hc1 hfz hgl hd0
        go_wp2_with fail
        go_roundw
        case rel => exact ⟨k + 1, _, by omega, by go_num, HFS, (show _ = _ by rw [set_fst (r' := (r.1, ar, r2, cr)) HK.out rfl]; exact HM.out), HB2.out.setCell (p := ⟨g, k * 2 + 1, none⟩) HW.out _⟩
        case measure => simp [intOf]; omega
      · go_wp2_with fail
        go_ret
        exact ⟨_, rows, rfl, HFO.out, HM.out, hbel.out⟩

/-- Get. -/
def getS (fs : List SFile) (n : List UInt8) : List UInt8 × Int := if fchk fs = 0 then (fileOf fs n, 0) else ([], fchk fs)
def GetEnd (w : World) (res : List UInt8 × Int) (e : Ending) (w' : World) : Prop := ∃ ar cr, e = .returned (.tuple #[.slice ar res.1.length cr, .int .i64 res.2]) ∧ Reads w' (.slice ar res.1.length cr) res.1.length (res.1.map U) ∧ Below w.heap.size w w'
theorem getEnd_none {w w' : World} {res : List UInt8 × Int} {e : Ending} {r : Int} (h : res = ([], r)) (he : e = .returned (.tuple #[.slice none 0 0, .int .i64 r])) (hb : Below w.heap.size w w') : GetEnd w res e w' := by
  subst h
  exact ⟨none, 0, he, reads_none0 w', hb⟩

set_option maxRecDepth 100000 in
set_option maxHeartbeats 4000000 in
theorem get_is (ao : Option Addr) (cap : Nat) (fs : List SFile) (n : List UInt8) (w : World) (hf : RFiles w (.slice ao fs.length cap) fs) (hfit : ∀ f ∈ fs, FitsF f) :
    Calls Tryz.prog 9 #[.slice ao fs.length cap, .string ⟨n.toArray⟩] w fun e w' => GetEnd w (getS fs n) e w' := by
  have hC := fcheck_is ao cap fs w hf hfit
  have HC : Hid _ := hC
  have HF : Hid (RFiles w (.slice ao fs.length cap) fs) := hf
  obtain ⟨N, hN⟩ : ∃ N, N = fs.length := ⟨_, rfl⟩
  have HN : Hid (N = fs.length) := hN
  obtain ⟨nx, hnx⟩ : ∃ nx : ByteArray, nx = ⟨n.toArray⟩ := ⟨_, rfl⟩
  have HNX : Hid (nx = ⟨n.toArray⟩) := hnx
  obtain ⟨ck, hck⟩ : ∃ ck, ck = fchk fs := ⟨_, rfl⟩
  have HCK : Hid (ck = fchk fs) := hck
  rw [← hN, ← hck] at HC
  rw [← hN, ← hnx]
  rw [← hN] at HF
  clear hf hfit hC hN hnx hck
  by_cases h0 : ck = 0
  · subst h0
    obtain ⟨hl12, hri⟩ := fchk_zero HCK.out.symm
    have HRI : Hid _ := hri
    have HFI : Hid _ := fun (W : World) (hb : Below w.heap.size w W) => find_is ao cap fs n W (by rw [← HN.out]; exact HF.out.below hb) hri hl12
    rw [← HN.out, ← HNX.out] at HFI
    have HGS : Hid (getS fs n = (fileOf fs n, 0)) := (show _ = _ by unfold getS; rw [if_pos HCK.out.symm])
    rw [← HN.out] at hl12
    have hpl := pos_le fs n
    obtain ⟨p, hp⟩ : ∃ p, p = posOf fs n := ⟨_, rfl⟩
    have HP : Hid (p = posOf fs n) := hp
    obtain ⟨t, ht⟩ : ∃ t, t = thereOf fs n := ⟨_, rfl⟩
    have HT : Hid (t = thereOf fs n) := ht
    rw [← hp, ← ht] at HFI
    rw [← hp, ← HN.out] at hpl
    clear hri hp ht
    go_enter Tryz.func9, Tryz.ntmps9
    go_wp2_with fail
    refine Calls.mono HC.out ?_
    rintro e w1 ⟨rfl, hb1⟩
    have HB1 : Hid (Below w.heap.size w w1) := hb1
    clear hb1 HC
    go_wp2_with fail
    have hQ := HFI.out w1 HB1.out
    refine Calls.mono hQ ?_
    rintro e w2 ⟨rfl, hb2⟩
    have HB2 : Hid (Below w.heap.size w w2) := HB1.out.trans (hb2.mono HB1.out.size)
    clear hb2 hQ HFI HB1
    cases t with
    | false =>
      have HGN : Hid (getS fs n = ([], 0)) := (show _ = _ by rw [HGS.out, file_not HRI.out HT.out.symm])
      go_wp2_with fail
      go_ret2
      exact getEnd_none HGN.out rfl HB2.out
    | true =>
      obtain ⟨f, hfk, hfn⟩ := there_get HT.out.symm
      have HGF : Hid (getS fs n = (f.b, 0)) := (show _ = _ by rw [HGS.out, file_there HRI.out HT.out.symm hfk])
      rw [← HP.out] at hfk
      have hpN : p < N := by have := (List.getElem?_eq_some_iff.1 hfk).1; rw [HN.out]; exact this
      obtain ⟨b, off, ab, cb, rfl, hc0, hc1, hrr⟩ := (RFiles.below HF.out HB2.out).at hfk
      have hb4 := (from_all HRI.out f (List.mem_of_getElem? hfk)).2
      have HQ : Hid _ := fun (W : World) (hb : Below w2.heap.size w2 W) => bclone_is ab cb f.b W (Reads.below hrr hb) (by omega)
      obtain ⟨L, hL⟩ : ∃ L, L = f.b.length := ⟨_, rfl⟩
      have HL : Hid (L = f.b.length) := hL
      rw [← hL] at hc1 HQ
      generalize (⟨f.name.toArray⟩ : ByteArray) = fx at *
      clear hfk hfn hrr hb4 hL
      go_wp2_with fail
      have hQ := HQ.out w2 (Below.refl _ _)
      refine Calls.mono hQ ?_
      rintro e w3 ⟨ar, cr, rfl, hrd3, hnew, hb3⟩
      have HB3 : Hid (Below w.heap.size w w3) := HB2.out.trans (hb3.mono HB2.out.size)
      have HR3 : Hid _ := hrd3
      clear hQ HQ hrd3 hnew hb3
      go_wp2_with fail
      go_ret2
      refine ⟨ar, cr, ?_, ?_, HB3.out⟩
      · rw [HGF.out, ← HL.out]; rfl
      · rw [HGF.out]; have := HR3.out; rw [HL.out] at this; exact this
  · have HGS : Hid (getS fs n = ([], ck)) := (show _ = _ by unfold getS; rw [← HCK.out, if_neg h0])
    go_enter Tryz.func9, Tryz.ntmps9
    go_wp2_with fail
    refine Calls.mono HC.out ?_
    rintro e w1 ⟨rfl, hb1⟩
    have HB1 : Hid (Below w.heap.size w w1) := hb1
    clear hb1 HC
    go_wp2_with fail
    go_ret2
    exact getEnd_none HGS.out rfl HB1.out
end Go.Proofs.YtkifihcficobnabGreatDoor
