/- The law ShellParts, walked. -/
import Derived.Test.YtkifihcficobnabGreatDoorShP2
import Derived.Test.YtkifihcficobnabGreatDoorShelled
import Derived.Test.YtkifihcficobnabGreatDoorFEq
import Derived.Test.YtkifihcficobnabGreatDoorAt
import Derived.Deep.DeepCutAuto
namespace Go.Proofs.YtkifihcficobnabGreatDoor
open Go.RowKit Go.Gs
set_option linter.unusedVariables false

theorem lineT_zero {fs : List SFile} {x : SLine} (h : (lineT fs x).2 = 0) : lchk x = 0 ∧ fchk fs = 0 ∧ lineT fs x = lineOf fs x := by
  by_cases h0 : lchk x = 0
  · by_cases h1 : fchk fs = 0
    · exact ⟨h0, h1, lineT_lineOf h0 h1⟩
    · unfold lineT at h; rw [if_pos h0, if_neg h1] at h; exact absurd h h1
  · rw [lineT_bad h0] at h; exact absurd h h0

theorem rc_take {w : World} {ao : Option Addr} {n m cap : Nat} {cs : List Cmd} (h : RCmds w (.slice ao n cap) cs) (hm : m ≤ n) : RCmds w (.slice ao m cap) (cs.take m) := by
  obtain ⟨ao', cap', e, h1, h2, h3⟩ := h
  injection e with e1 e2 e3
  subst e1 e2 e3
  have hl : (cs.take m).length = m := by rw [List.length_take]; omega
  refine ⟨ao, cap, by rw [hl], by omega, h2, fun hn => ?_⟩
  obtain ⟨b, off, rfl, hc⟩ := h3 (by omega)
  refine ⟨b, off, rfl, fun j x hj => ?_⟩
  rw [List.getElem?_take] at hj
  split at hj
  · exact hc j x hj
  · cases hj
theorem rc_drop {w : World} {b off n m cap : Nat} {cs : List Cmd} (h : RCmds w (.slice (some ⟨b, off, none⟩) n cap) cs) (hm : m ≤ n) : RCmds w (.slice (some ⟨b, off + m * 3, none⟩) (n - m) (cap - m)) (cs.drop m) := by
  obtain ⟨ao', cap', e, h1, h2, h3⟩ := h
  injection e with e1 e2 e3
  subst e1 e2 e3
  have hl : (cs.drop m).length = cs.length - m := List.length_drop
  refine ⟨_, _, by rw [hl], by omega, by omega, fun hn => ?_⟩
  obtain ⟨b', off', e, hc⟩ := h3 (by omega)
  injection e with e
  injection e with e1 e2
  subst e1 e2
  refine ⟨_, _, rfl, fun j x hj => ?_⟩
  rw [List.getElem?_drop] at hj
  have := hc (m + j) x hj
  rw [show off + (m + j) * 3 = off + m * 3 + j * 3 by omega] at this
  exact this
theorem rc_none {w : World} {ao : Option Addr} {n cap : Nat} {cs : List Cmd} (h : cs = []) (hn : n = 0) (hm : cap ≤ maxLen) : RCmds w (.slice ao n cap) cs := by
  subst h hn
  exact ⟨ao, cap, rfl, Nat.zero_le _, hm, fun h => absurd rfl h⟩
def btw : List UInt8 := [98, 101, 116, 119, 101, 101, 110]
theorem lchk_part {x : SLine} (h : lchk x = 0) {cs : List Cmd} (hc : ∀ c ∈ cs, c ∈ x.cs) (hl : cs.length ≤ 6) : lchk ⟨x.fr, cs, x.to⟩ = 0 ∧ lchk ⟨[btw], cs, x.to⟩ = 0 := by
  obtain ⟨h1, h2, h3, h4, h5, h6⟩ := lchk_zero h
  have hb : ∀ l : List Cmd, (∀ c ∈ l, chk c = 0) → firstBad (l.map chk) = 0 := by
    intro l
    induction l with
    | nil => intro _; rfl
    | cons c r ih => intro hh; rw [List.map_cons, firstBad, if_pos (hh c (by simp))]; exact ih (fun d hd => hh d (by simp [hd]))
  have h7 := hb cs (fun c hcc => h6 c (hc c hcc))
  refine ⟨?_, ?_⟩
  · unfold lchk
    rw [if_neg (by simp only; omega), if_neg (by simp [h4]), if_neg (by simp [h5])]
    exact h7
  · unfold lchk
    rw [if_neg (by simp; omega), if_neg (by show ¬ ([btw].all isWord = false); decide), if_neg (by simp [h5])]
    exact h7
theorem put_btw {b : List UInt8} (h : b.length ≤ 4000) : putT [] btw b = ([⟨btw, b⟩], 0) ∧ fchk [⟨btw, b⟩] = 0 := by
  have e1 : fchk [] = 0 := rfl
  have e2 : fchk [⟨btw, b⟩] = 0 := by
    refine fchk_of (by simp) (from_cons.2 ⟨fbad_of (by show isWord btw = true; decide) h (by intro q hq; cases hq), rfl⟩)
  refine ⟨?_, e2⟩
  rw [putT_putS e1, putS_ok (by decide) (by omega) (by simp [putF])]
  rfl
theorem line_kept {fs : List SFile} {x : SLine} (hl : lchk x = 0) (hf : fchk fs = 0) : lineT (keptF x.fr fs) x = lineOf fs x := by
  have h1 : fchk (keptF x.fr fs) = 0 := filter_right hf
  rw [lineT_lineOf hl h1]
  exact line_same (fun s hs => fileOf_filter (fun f hfn => by rw [hfn]; exact among_mem hs))

set_option maxRecDepth 100000 in
set_option maxHeartbeats 8000000 in
theorem shp_some (x : SLine) (ao af : Option Addr) (b off cap cf cd : Nat) (fs : List SFile) (k : Int) (w : World) (hf : RFiles w (.slice ao fs.length cap) fs) (hfit : ∀ f ∈ fs, FitsF f) (hfr : Reads w (.slice af x.fr.length cf) x.fr.length (x.fr.map S)) (hcs : RCmds w (.slice (some ⟨b, off, none⟩) x.cs.length cd) x.cs) (hfx : FitsL x) (hK : Known w) (hk1 : -9223372036854775808 ≤ k) (hk2 : k ≤ 9223372036854775807) :
    Calls Tryz.prog 5 #[.slice ao fs.length cap, .agg #[.slice af x.fr.length cf, .slice (some ⟨b, off, none⟩) x.cs.length cd, .string ⟨x.to.toArray⟩], .int .i64 k] w fun e w' => e = .returned (.bool true) ∧ Below w.heap.size w w' := by
  obtain ⟨_, _, e0, hcd1, hcd2⟩ := hcs.shape
  injection e0 with e1 e2 e3
  subst e3
  unfold maxLen at hcd2
  have hcap := rfiles_le hf
  have HLI : Hid _ := fun (W : World) (h : Below w.heap.size w W) => line_is x ao af (some ⟨b, off, none⟩) cap cf cd fs W (hf.below h) hfit (hfr.below h) (hcs.below h) hfx (hK.below h)
  have HLX : Hid (∀ (cs : List Cmd) (hcx : ∀ c ∈ cs, c ∈ x.cs) (W : World) (h : Below w.heap.size w W) (ad' : Option Addr) (n' cd' : Nat) (hn : n' = cs.length) (hc : RCmds W (.slice ad' n' cd') cs), Calls Tryz.prog 22 #[.slice ao fs.length cap, .agg #[.slice af x.fr.length cf, .slice ad' n' cd', .string ⟨x.to.toArray⟩]] W fun e w' => GetEnd W (lineT fs ⟨x.fr, cs, x.to⟩) e w') := fun cs hcx W h ad' n' cd' hn hc => by
    subst hn
    exact line_is ⟨x.fr, cs, x.to⟩ ao af ad' cap cf cd' fs W (hf.below h) hfit (hfr.below h) hc ⟨hfx.1, fun c hcc => hfx.2.1 c (hcx c hcc), hfx.2.2⟩ (hK.below h)
  have HLY : Hid (∀ (cs : List Cmd) (hcx : ∀ c ∈ cs, c ∈ x.cs) (W : World) (h : Below w.heap.size w W) (ad' : Option Addr) (n' cd' : Nat) (hn : n' = cs.length) (hc : RCmds W (.slice ad' n' cd') cs) (P : List SFile) (ap av : Option Addr) (cp : Nat) (hP : RFiles W (.slice ap P.length cp) P) (hr : fchk P = 0) (hs : Reads W (.slice av 1 1) 1 ([btw].map S)), Calls Tryz.prog 22 #[.slice ap P.length cp, .agg #[.slice av 1 1, .slice ad' n' cd', .string ⟨x.to.toArray⟩]] W fun e w' => GetEnd W (lineT P ⟨[btw], cs, x.to⟩) e w') := fun cs hcx W h ad' n' cd' hn hc P ap av cp hP hr hs => by
    subst hn
    exact line_is ⟨[btw], cs, x.to⟩ ap av ad' cp 1 cd' P W hP (right_fits hr) hs hc ⟨by intro s hs; simp at hs; subst hs; decide, fun c hcc => hfx.2.1 c (hcx c hcc), hfx.2.2⟩ (hK.below h)
  have HLF : Hid _ := fun (W : World) (h : Below w.heap.size w W) (P : List SFile) (ap : Option Addr) (cp : Nat) (hP : RFiles W (.slice ap P.length cp) P) (hr : fchk P = 0) => line_is x ap af (some ⟨b, off, none⟩) cp cf cd P W hP (right_fits hr) (hfr.below h) (hcs.below h) hfx (hK.below h)
  have HSH : Hid _ := fun (W : World) (h : Below w.heap.size w W) => shelled_true W (hK.below h)
  have HA : Hid _ := fun (W : World) (h6 : x.cs.length ≤ 6) => at_is k (x.cs.length + 1) W hk1 hk2 (by omega) (by omega)
  have HF : Hid (RFiles w (.slice ao fs.length cap) fs) := hf
  have HFR : Hid (Reads w (.slice af x.fr.length cf) x.fr.length (x.fr.map S)) := hfr
  have HCS : Hid (RCmds w (.slice (some ⟨b, off, none⟩) x.cs.length cd) x.cs) := hcs
  obtain ⟨N, hN⟩ : ∃ N, N = fs.length := ⟨_, rfl⟩
  have HN : Hid (N = fs.length) := hN
  obtain ⟨NF, hNF⟩ : ∃ N, N = x.fr.length := ⟨_, rfl⟩
  have HNF : Hid (NF = x.fr.length) := hNF
  obtain ⟨ND, hND⟩ : ∃ N, N = x.cs.length := ⟨_, rfl⟩
  have HND : Hid (ND = x.cs.length) := hND
  obtain ⟨tx, htx⟩ : ∃ tx : ByteArray, tx = ⟨x.to.toArray⟩ := ⟨_, rfl⟩
  have HTX : Hid (tx = ⟨x.to.toArray⟩) := htx
  rw [← hN, ← hNF, ← hND, ← htx] at HLI
  rw [← hN, ← hNF, ← htx] at HLX
  rw [← htx] at HLY
  rw [← hNF, ← hND, ← htx] at HLF
  rw [← hND] at HA hcd1 HCS
  rw [← hN] at HF hcap
  rw [← hN, ← hNF, ← hND, ← htx]
  clear hf hfit hfr hcs hfx hK hN hNF hND htx hk1 hk2 e1 e2
  go_enter Tryz.func5, Tryz.ntmps5
  go_wp2_with fail
  have hbx : Below w.heap.size w (w.alloc (.cells #[.slice af NF cf, .slice (some ⟨b, off, none⟩) ND cd, .string tx] 40)) := boxr_of
  have hQ := HLI.out _ hbx
  refine Calls.mono hQ ?_
  rintro e w1 ⟨al, cl, rfl, hrl, hb1⟩
  have HB1 : Hid (Below w.heap.size w w1) := hbx.trans (hb1.mono hbx.size)
  obtain ⟨hx0, hx1, hx2⟩ := box3_keep hb1
  have HRL : Hid (Reads w1 (.slice al (lineT fs x).1.length cl) (lineT fs x).1.length ((lineT fs x).1.map U)) := hrl
  obtain ⟨LN, hLN⟩ : ∃ LN, LN = (lineT fs x).1.length := ⟨_, rfl⟩
  have HLN : Hid (LN = (lineT fs x).1.length) := hLN
  obtain ⟨le, hle⟩ : ∃ le, le = (lineT fs x).2 := ⟨_, rfl⟩
  have HLE : Hid (le = (lineT fs x).2) := hle
  rw [← hLN, ← hle]
  rw [← hLN] at HRL
  clear hQ hrl hb1 hbx hLN hle
  go_wp2_with fail
  have hQ := HSH.out w1 HB1.out
  refine Calls.mono hQ ?_
  rintro e w2 ⟨rfl, hb2⟩
  have HB2 : Hid (Below w.heap.size w w2) := HB1.out.trans (hb2.mono HB1.out.size)
  have hy0 := (hb2.cell (World.block_lt_of_cell? w1 _ hx0)).trans hx0
  have hy1 := (hb2.cell (World.block_lt_of_cell? w1 _ hx1)).trans hx1
  have hy2 := (hb2.cell (World.block_lt_of_cell? w1 _ hx2)).trans hx2
  have HY : Hid _ := And.intro hy0 (And.intro hy1 hy2)
  have HRL2 : Hid (Reads w2 (.slice al LN cl) LN ((lineT fs x).1.map U)) := HRL.out.below hb2
  have HBX2 : Hid (w.heap.size < w2.heap.size) := World.block_lt_of_cell? w2 _ hy0
  clear hQ hb2 hx0 hx1 hx2 HRL HB1
  by_cases hle0 : le = 0
  · subst hle0
    obtain ⟨hlc, hfc, hlt⟩ := lineT_zero HLE.out.symm
    have hn6 := (lchk_zero hlc).2.2.1
    rw [← HND.out] at hn6
    have HLC : Hid (lchk x = 0) := hlc
    have HFC : Hid (fchk fs = 0) := hfc
    have HLT : Hid (lineT fs x = lineOf fs x) := hlt
    clear hlc hfc hlt
    go_wp2_with fail
    have hQ := HA.out w2 hn6
    refine Calls.mono hQ ?_
    rintro e w2' ⟨m, hm, rfl, hw2⟩
    obtain rfl : w2 = w2' := hw2.symm
    have hmN : m ≤ ND := by omega
    clear hQ hw2
    have ha0 : ∀ o : Obj, (w2.alloc o).cell? ⟨w.heap.size, 0, none⟩ = some (.slice af NF cf) := fun o => ((boxr_of (w := w2) (o := o)).cell (World.block_lt_of_cell? w2 _ hy0)).trans hy0
    have ha1 : ∀ o : Obj, (w2.alloc o).cell? ⟨w.heap.size, 1, none⟩ = some (.slice (some ⟨b, off, none⟩) ND cd) := fun o => ((boxr_of (w := w2) (o := o)).cell (World.block_lt_of_cell? w2 _ hy1)).trans hy1
    have ha2 : ∀ o : Obj, (w2.alloc o).cell? ⟨w.heap.size, 2, none⟩ = some (.string tx) := fun o => ((boxr_of (w := w2) (o := o)).cell (World.block_lt_of_cell? w2 _ hy2)).trans hy2
    have hb0 : ∀ o p : Obj, ((w2.alloc o).alloc p).cell? ⟨w.heap.size, 0, none⟩ = some (.slice af NF cf) := fun o p => ((boxr_of (w := w2.alloc o) (o := p)).cell (World.block_lt_of_cell? _ _ (ha0 o))).trans (ha0 o)
    have hb1 : ∀ o p : Obj, ((w2.alloc o).alloc p).cell? ⟨w.heap.size, 1, none⟩ = some (.slice (some ⟨b, off, none⟩) ND cd) := fun o p => ((boxr_of (w := w2.alloc o) (o := p)).cell (World.block_lt_of_cell? _ _ (ha1 o))).trans (ha1 o)
    have hb2 : ∀ o p : Obj, ((w2.alloc o).alloc p).cell? ⟨w.heap.size, 2, none⟩ = some (.string tx) := fun o p => ((boxr_of (w := w2.alloc o) (o := p)).cell (World.block_lt_of_cell? _ _ (ha2 o))).trans (ha2 o)
    have hc1 : ∀ o p q : Obj, (((w2.alloc o).alloc p).alloc q).cell? ⟨w.heap.size, 1, none⟩ = some (.slice (some ⟨b, off, none⟩) ND cd) := fun o p q => ((boxr_of (w := (w2.alloc o).alloc p) (o := q)).cell (World.block_lt_of_cell? _ _ (hb1 o p))).trans (hb1 o p)
    go_upto_region 5 with fail
    go_cut [9, 10] (fun p9 p10 wc => ∃ b9 b10, p9 = .pointer (some ⟨b9, 0, none⟩) ∧ p10 = .pointer (some ⟨b10, 0, none⟩) ∧ ((b9 = w2.heap.size ∧ b10 = w2.heap.size + 1) ∨ (b9 = w2.heap.size + 1 ∧ b10 = w2.heap.size)) ∧ wc = ((w2.alloc (.cells #[.slice af NF cf, .slice (some ⟨b, off, none⟩) ND cd, .string tx] 40)).alloc (.cells #[.slice af NF cf, .slice (some ⟨b, off, none⟩) ND cd, .string tx] 40)).drew)
    case first =>
      go_region
      · go_wp2_with fail
        go_meet
        exact ⟨_, _, rfl, rfl, .inl ⟨rfl, rfl⟩, rfl⟩
      · go_wp2_with fail
        go_meet
        exact ⟨_, _, rfl, rfl, .inr ⟨rfl, rfl⟩, rfl⟩
    case rest =>
      obtain ⟨b9, b10, rfl, rfl, hor, rfl⟩ := hcut
      rcases hor with ⟨rfl, rfl⟩ | ⟨rfl, rfl⟩
      · skip
        have mixed : Tryz.prog.follows Departure.mixedOrders = true := by kernel_rfl
        have hcdm : ¬ cd < m := by omega
        have hmd : (m : Int) ≤ cd := by omega
        go_wp2_with fail
        go_region
        obtain ⟨adv, hadv⟩ : ∃ adv, adv = (if cd = m then some (⟨b, off, none⟩ : Addr) else some ⟨b, off + m * 3, none⟩) := ⟨_, rfl⟩
        rw [← hadv]
        obtain ⟨w3, hw3⟩ : ∃ w3, w3 = (((w2.alloc (.cells #[.slice af NF cf, .slice (some ⟨b, off, none⟩) m cd, .string tx] 40)).alloc (.cells #[.slice (some ⟨w2.heap.size + 1 + 1, 0, none⟩) 1 1, .slice adv (ND - m) (cd - m), .string tx] 40)).alloc (.cells #[.string ⟨#[98, 101, 116, 119, 101, 101, 110]⟩] 9)).drew.drew := ⟨_, rfl⟩
        rw [← hw3]
        have hb3 : Below w2.heap.size w2 w3 := by rw [hw3]; exact ((allocs_below [(.cells #[.slice af NF cf, .slice (some ⟨b, off, none⟩) m cd, .string tx] 40), (.cells #[.slice (some ⟨w2.heap.size + 1 + 1, 0, none⟩) 1 1, .slice adv (ND - m) (cd - m), .string tx] 40), (.cells #[.string ⟨#[98, 101, 116, 119, 101, 101, 110]⟩] 9)] w2).drew).drew
        have h9 : w3.heap[w2.heap.size]? = some (.cells #[.slice af NF cf, .slice (some ⟨b, off, none⟩) m cd, .string tx] 40 (0, 0)) := by rw [hw3]; exact allocs_at [(.cells #[.slice af NF cf, .slice (some ⟨b, off, none⟩) m cd, .string tx] 40), (.cells #[.slice (some ⟨w2.heap.size + 1 + 1, 0, none⟩) 1 1, .slice adv (ND - m) (cd - m), .string tx] 40), (.cells #[.string ⟨#[98, 101, 116, 119, 101, 101, 110]⟩] 9)] w2 0 _ rfl
        have h10 : w3.heap[w2.heap.size + 1]? = some (.cells #[.slice (some ⟨w2.heap.size + 1 + 1, 0, none⟩) 1 1, .slice adv (ND - m) (cd - m), .string tx] 40 (0, 0)) := by rw [hw3]; exact allocs_at [(.cells #[.slice af NF cf, .slice (some ⟨b, off, none⟩) m cd, .string tx] 40), (.cells #[.slice (some ⟨w2.heap.size + 1 + 1, 0, none⟩) 1 1, .slice adv (ND - m) (cd - m), .string tx] 40), (.cells #[.string ⟨#[98, 101, 116, 119, 101, 101, 110]⟩] 9)] w2 1 _ rfl
        have h11 : w3.heap[w2.heap.size + 1 + 1]? = some (.cells #[.string ⟨#[98, 101, 116, 119, 101, 101, 110]⟩] 9) := by rw [hw3]; exact allocs_at [(.cells #[.slice af NF cf, .slice (some ⟨b, off, none⟩) m cd, .string tx] 40), (.cells #[.slice (some ⟨w2.heap.size + 1 + 1, 0, none⟩) 1 1, .slice adv (ND - m) (cd - m), .string tx] 40), (.cells #[.string ⟨#[98, 101, 116, 119, 101, 101, 110]⟩] 9)] w2 2 _ rfl
        have HB3 : Hid (Below w.heap.size w w3) := HB2.out.trans (hb3.mono HB2.out.size)
        have k90 : w3.cell? ⟨w2.heap.size, 0, none⟩ = some (.slice af NF cf) := (cell_of_row _ _ _ _ _ _ h9).trans rfl
        have k91 : w3.cell? ⟨w2.heap.size, 1, none⟩ = some (.slice (some ⟨b, off, none⟩) m cd) := (cell_of_row _ _ _ _ _ _ h9).trans rfl
        have k92 : w3.cell? ⟨w2.heap.size, 2, none⟩ = some (.string tx) := (cell_of_row _ _ _ _ _ _ h9).trans rfl
        have HK10 : Hid (w3.cell? ⟨w2.heap.size + 1, 0, none⟩ = some (.slice (some ⟨w2.heap.size + 1 + 1, 0, none⟩) 1 1) ∧ w3.cell? ⟨w2.heap.size + 1, 1, none⟩ = some (.slice adv (ND - m) (cd - m)) ∧ w3.cell? ⟨w2.heap.size + 1, 2, none⟩ = some (.string tx)) := ⟨(cell_of_row _ _ _ _ _ _ h10).trans rfl, (cell_of_row _ _ _ _ _ _ h10).trans rfl, (cell_of_row _ _ _ _ _ _ h10).trans rfl⟩
        have HBT : Hid (Reads w3 (.slice (some ⟨w2.heap.size + 1 + 1, 0, none⟩) 1 1) 1 ([btw].map S)) := reads_al h11 rfl (by decide)
        have HDV : Hid (RCmds w3 (.slice adv (ND - m) (cd - m)) (x.cs.drop m)) := (show RCmds w3 (.slice adv (ND - m) (cd - m)) (x.cs.drop m) by
          by_cases hcm : cd = m
          · rw [if_pos hcm] at hadv
            exact rc_none (List.drop_of_length_le (by rw [← HND.out]; omega)) (by omega) (by unfold maxLen; omega)
          · rw [if_neg hcm] at hadv
            rw [hadv]
            exact (rc_drop HCS.out hmN).below HB3.out)
        have HTK : Hid (RCmds w3 (.slice (some ⟨b, off, none⟩) m cd) (x.cs.take m)) := (rc_take HCS.out hmN).below HB3.out
        have HY3 : Hid _ := And.intro ((hb3.cell (World.block_lt_of_cell? w2 _ HY.out.1)).trans HY.out.1) (And.intro ((hb3.cell (World.block_lt_of_cell? w2 _ HY.out.2.1)).trans HY.out.2.1) ((hb3.cell (World.block_lt_of_cell? w2 _ HY.out.2.2)).trans HY.out.2.2))
        have HRL3 : Hid (Reads w3 (.slice al LN cl) LN ((lineT fs x).1.map U)) := HRL2.out.below hb3
        have htl : (x.cs.take m).length = m := by rw [List.length_take, ← HND.out]; omega
        have hdl : (x.cs.drop m).length = ND - m := by rw [List.length_drop, ← HND.out]
        have hl6 := (lchk_zero HLC.out).2.2.1
        obtain ⟨hz1, hz2, hz3⟩ := line_two (n := btw) m (lchk_zero HLC.out).2.2.2.2.2 (by rw [← HLT.out]; exact HLE.out.symm)
        have hp1 := (lchk_part HLC.out (cs := x.cs.take m) (fun c hc => List.mem_of_mem_take hc) (by omega)).1
        have hp2 := (lchk_part HLC.out (cs := x.cs.drop m) (fun c hc => List.mem_of_mem_drop hc) (by omega)).2
        obtain ⟨B1, hB1⟩ : ∃ B1, B1 = (lineOf fs ⟨x.fr, x.cs.take m, x.to⟩).1 := ⟨_, rfl⟩
        rw [← hB1] at hz2 hz3
        obtain ⟨hpb, hpf⟩ := put_btw hz2
        have hX1 : lineT fs ⟨x.fr, x.cs.take m, x.to⟩ = (B1, 0) := by rw [lineT_lineOf hp1 HFC.out, hB1]; exact Prod.ext rfl hz1
        have hX2 : lineT [⟨btw, B1⟩] ⟨[btw], x.cs.drop m, x.to⟩ = ((lineT fs x).1, 0) := by rw [lineT_lineOf hp2 hpf, hz3, HLT.out]
        have HX2 : Hid _ := hX2
        have HPB : Hid _ := hpb
        have HPF : Hid _ := hpf
        have HB1 : Hid (B1.length ≤ 4000) := hz2
        have hQ1 := HLX.out (x.cs.take m) (fun c hc => List.mem_of_mem_take hc) w3 HB3.out (some ⟨b, off, none⟩) m cd htl.symm HTK.out
        rw [hX1] at hQ1
        have HQ1 : Hid _ := hQ1
        have HDL : Hid (ND - m = (x.cs.drop m).length) := hdl.symm
        clear hadv hw3 hb3 h9 h10 h11 htl hdl hl6 hz1 hz2 hz3 hp1 hp2 hB1 hpb hpf hX1 hX2 hQ1 ha0 ha1 ha2 hb0 hb1 hb2 hc1 hy0 hy1 hy2 HB2 HRL2 HLX HLI HSH HA hcdm
        go_wp2_with fail
        refine Calls.mono HQ1.out ?_
        rintro e w4 ⟨a4, c4, rfl, hr4, hb4⟩
        have HB4 : Hid (Below w.heap.size w w4) := HB3.out.trans (hb4.mono HB3.out.size)
        obtain ⟨n40, n41, n42⟩ := HK10.out
        have HK4 : Hid (w4.cell? ⟨w2.heap.size + 1, 0, none⟩ = some (.slice (some ⟨w2.heap.size + 1 + 1, 0, none⟩) 1 1) ∧ w4.cell? ⟨w2.heap.size + 1, 1, none⟩ = some (.slice adv (ND - m) (cd - m)) ∧ w4.cell? ⟨w2.heap.size + 1, 2, none⟩ = some (.string tx)) := ⟨(hb4.cell (World.block_lt_of_cell? w3 _ n40)).trans n40, (hb4.cell (World.block_lt_of_cell? w3 _ n41)).trans n41, (hb4.cell (World.block_lt_of_cell? w3 _ n42)).trans n42⟩
        have HBT4 : Hid (Reads w4 (.slice (some ⟨w2.heap.size + 1 + 1, 0, none⟩) 1 1) 1 ([btw].map S)) := HBT.out.below hb4
        have HDV4 : Hid (RCmds w4 (.slice adv (ND - m) (cd - m)) (x.cs.drop m)) := HDV.out.below hb4
        have HY4 : Hid _ := And.intro ((hb4.cell (World.block_lt_of_cell? w3 _ HY3.out.1)).trans HY3.out.1) (And.intro ((hb4.cell (World.block_lt_of_cell? w3 _ HY3.out.2.1)).trans HY3.out.2.1) ((hb4.cell (World.block_lt_of_cell? w3 _ HY3.out.2.2)).trans HY3.out.2.2))
        have HRL4 : Hid (Reads w4 (.slice al LN cl) LN ((lineT fs x).1.map U)) := HRL3.out.below hb4
        simp only at hr4 ⊢
        have hQ2 : Calls Tryz.prog 10 #[.slice none 0 0, .string ⟨#[98, 101, 116, 119, 101, 101, 110]⟩, .slice a4 B1.length c4] w4 fun e w' => PutEnd w4 (putT [] btw B1) e w' := put_is none a4 0 c4 [] btw B1 w4 (rfiles_nil w4) (fun f hf => by cases hf) hr4 (by decide)
        rw [HPB.out] at hQ2
        have HQ2 : Hid _ := hQ2
        generalize B1.length = L4 at *
        clear hr4 hb4 n40 n41 n42 hQ2 HQ1 HK10 HBT HDV HY3 HRL3 HB3 k90 k91 k92
        go_wp2_with fail
        refine Calls.mono HQ2.out ?_
        rintro e w5 ⟨a5, c5, rfl, hr5, hb5⟩
        have HB5 : Hid (Below w.heap.size w w5) := HB4.out.trans (hb5.mono HB4.out.size)
        obtain ⟨n40, n41, n42⟩ := HK4.out
        have k0 := (hb5.cell (World.block_lt_of_cell? w4 _ n40)).trans n40
        have k1 := (hb5.cell (World.block_lt_of_cell? w4 _ n41)).trans n41
        have k2 := (hb5.cell (World.block_lt_of_cell? w4 _ n42)).trans n42
        have HY5 : Hid _ := And.intro ((hb5.cell (World.block_lt_of_cell? w4 _ HY4.out.1)).trans HY4.out.1) (And.intro ((hb5.cell (World.block_lt_of_cell? w4 _ HY4.out.2.1)).trans HY4.out.2.1) ((hb5.cell (World.block_lt_of_cell? w4 _ HY4.out.2.2)).trans HY4.out.2.2))
        have HRL5 : Hid (Reads w5 (.slice al LN cl) LN ((lineT fs x).1.map U)) := HRL4.out.below hb5
        have hQ3 := HLY.out (x.cs.drop m) (fun c hc => List.mem_of_mem_drop hc) w5 HB5.out adv (ND - m) (cd - m) HDL.out (HDV4.out.below hb5) [⟨btw, B1⟩] a5 (some ⟨w2.heap.size + 1 + 1, 0, none⟩) c5 hr5 HPF.out (HBT4.out.below hb5)
        rw [HX2.out] at hQ3
        have HQ3 : Hid _ := hQ3
        simp only [List.length_cons, List.length_nil, Nat.zero_add] at HQ3 ⊢
        clear hr5 hb5 n40 n41 n42 hQ3 HQ2 HK4 HBT4 HDV4 HY4 HRL4 HB4 HLY
        go_wp2_with fail
        refine Calls.mono HQ3.out ?_
        rintro e w6 ⟨a6, c6, rfl, hr6, hb6⟩
        have HB6 : Hid (Below w.heap.size w w6) := HB5.out.trans (hb6.mono HB5.out.size)
        have HY6 : Hid _ := And.intro ((hb6.cell (World.block_lt_of_cell? w5 _ HY5.out.1)).trans HY5.out.1) (And.intro ((hb6.cell (World.block_lt_of_cell? w5 _ HY5.out.2.1)).trans HY5.out.2.1) ((hb6.cell (World.block_lt_of_cell? w5 _ HY5.out.2.2)).trans HY5.out.2.2))
        have HRL6 : Hid (Reads w6 (.slice al LN cl) LN ((lineT fs x).1.map U)) := HRL5.out.below hb6
        have HR6 : Hid (Reads w6 (.slice a6 (lineT fs x).1.length c6) (lineT fs x).1.length ((lineT fs x).1.map U)) := hr6
        simp only
        rw [← HLN.out]
        rw [← HLN.out] at HR6
        have hQ4 := fclone_fo ao cap fs w6 (by rw [← HN.out]; exact HF.out.below HB6.out) (by have := (fchk_zero HFC.out).1; omega)
        rw [← HN.out] at hQ4
        have HQ4 : Hid _ := hQ4
        clear hr6 hb6 hQ4 HQ3 HY5 HRL5 HB5 k0 k1 k2
        go_wp2_with fail
        refine Calls.mono HQ4.out ?_
        rintro e w7 ⟨v7, rows7, rfl, hfo, hmap, hb7⟩
        have hl7 : rows7.length ≤ 12 := by
          have h1 := congrArg List.length hmap
          rw [List.length_map] at h1
          have := (fchk_zero HFC.out).1
          omega
        have hQ5 := deleteF_is v7 rows7 w.heap.size af cf x.fr w6 w7 hfo hl7 hb7 (by have h := HY6.out.1; rw [HNF.out] at h; exact h) (HFR.out.below HB6.out)
        rw [hmap] at hQ5
        have HQ5 : Hid _ := hQ5
        have HB7 : Hid (Below w6.heap.size w6 w7) := hb7
        clear hfo hmap hb7 hl7 hQ5 HQ4
        go_wp2_with fail
        refine Calls.mono HQ5.out ?_
        rintro e w8 ⟨a8, n8, c8, rfl, hn8, hr8, hb8⟩
        have HB8 : Hid (Below w.heap.size w w8) := HB6.out.trans (hb8.mono HB6.out.size)
        have k0 := (hb8.cell (World.block_lt_of_cell? w6 _ HY6.out.1)).trans HY6.out.1
        have k1 := (hb8.cell (World.block_lt_of_cell? w6 _ HY6.out.2.1)).trans HY6.out.2.1
        have k2 := (hb8.cell (World.block_lt_of_cell? w6 _ HY6.out.2.2)).trans HY6.out.2.2
        have HRL8 : Hid (Reads w8 (.slice al LN cl) LN ((lineT fs x).1.map U)) := HRL6.out.below hb8
        have HR68 : Hid (Reads w8 (.slice a6 LN c6) LN ((lineT fs x).1.map U)) := HR6.out.below hb8
        have hQ6 := HLF.out w8 HB8.out (keptF x.fr fs) a8 c8 (by rw [← hn8]; exact hr8) (filter_right HFC.out)
        rw [line_kept HLC.out HFC.out, ← HLT.out, ← hn8] at hQ6
        have HQ6 : Hid _ := hQ6
        clear hr8 hb8 hn8 hQ6 HQ5 HY6 HRL6 HR6 HB7 HB6 HLF
        go_wp2_with fail
        refine Calls.mono HQ6.out ?_
        rintro e w9 ⟨a9, c9, rfl, hr9, hb9⟩
        have HB9 : Hid (Below w.heap.size w w9) := HB8.out.trans (hb9.mono HB8.out.size)
        have HR9 : Hid (Reads w9 (.slice a9 (lineT fs x).1.length c9) (lineT fs x).1.length ((lineT fs x).1.map U)) := hr9
        have hE1 := eqbyte_is al a6 cl c6 (lineT fs x).1 (lineT fs x).1 w9 (by rw [← HLN.out]; exact HRL8.out.below hb9) (by rw [← HLN.out]; exact HR68.out.below hb9)
        rw [← HLN.out, decide_eq_true (rfl : (lineT fs x).1 = (lineT fs x).1)] at hE1
        have HE2 : Hid _ := fun (W : World) (h : Below w9.heap.size w9 W) => eqbyte_is al a9 cl c9 (lineT fs x).1 (lineT fs x).1 W (by rw [← HLN.out]; exact (HRL8.out.below hb9).below h) (HR9.out.below h)
        rw [← HLN.out, decide_eq_true (rfl : (lineT fs x).1 = (lineT fs x).1)] at HE2
        have HE1 : Hid _ := hE1
        rw [← HLE.out, ← HLN.out]
        clear hr9 hb9 hE1 HQ6 HRL8 HR68 HR9 HB8 k0 k1 k2
        go_wp2_with fail
        refine Calls.mono HE1.out ?_
        rintro e w10 ⟨rfl, hb10⟩
        have HB10 : Hid (Below w.heap.size w w10) := HB9.out.trans (hb10.mono HB9.out.size)
        have hQ7 := HE2.out w10 hb10
        clear hb10 HE1 HE2 HB9
        go_wp2_with fail
        refine Calls.mono hQ7 ?_
        rintro e w11 ⟨rfl, hb11⟩
        have HB11 : Hid (Below w.heap.size w w11) := HB10.out.trans (hb11.mono HB10.out.size)
        clear hb11 hQ7 HB10
        go_wp2_with fail
        go_ret
        exact ⟨rfl, HB11.out⟩
      · skip
        have mixed : Tryz.prog.follows Departure.mixedOrders = true := by kernel_rfl
        have hcdm : ¬ cd < m := by omega
        have hmd : (m : Int) ≤ cd := by omega
        go_wp2_with fail
        go_region
        obtain ⟨adv, hadv⟩ : ∃ adv, adv = (if cd = m then some (⟨b, off, none⟩ : Addr) else some ⟨b, off + m * 3, none⟩) := ⟨_, rfl⟩
        rw [← hadv]
        obtain ⟨w3, hw3⟩ : ∃ w3, w3 = (((w2.alloc (.cells #[.slice (some ⟨w2.heap.size + 1 + 1, 0, none⟩) 1 1, .slice adv (ND - m) (cd - m), .string tx] 40)).alloc (.cells #[.slice af NF cf, .slice (some ⟨b, off, none⟩) m cd, .string tx] 40)).alloc (.cells #[.string ⟨#[98, 101, 116, 119, 101, 101, 110]⟩] 9)).drew.drew := ⟨_, rfl⟩
        rw [← hw3]
        have hb3 : Below w2.heap.size w2 w3 := by rw [hw3]; exact ((allocs_below [(.cells #[.slice (some ⟨w2.heap.size + 1 + 1, 0, none⟩) 1 1, .slice adv (ND - m) (cd - m), .string tx] 40), (.cells #[.slice af NF cf, .slice (some ⟨b, off, none⟩) m cd, .string tx] 40), (.cells #[.string ⟨#[98, 101, 116, 119, 101, 101, 110]⟩] 9)] w2).drew).drew
        have h9 : w3.heap[w2.heap.size + 1]? = some (.cells #[.slice af NF cf, .slice (some ⟨b, off, none⟩) m cd, .string tx] 40 (0, 0)) := by rw [hw3]; exact allocs_at [(.cells #[.slice (some ⟨w2.heap.size + 1 + 1, 0, none⟩) 1 1, .slice adv (ND - m) (cd - m), .string tx] 40), (.cells #[.slice af NF cf, .slice (some ⟨b, off, none⟩) m cd, .string tx] 40), (.cells #[.string ⟨#[98, 101, 116, 119, 101, 101, 110]⟩] 9)] w2 1 _ rfl
        have h10 : w3.heap[w2.heap.size]? = some (.cells #[.slice (some ⟨w2.heap.size + 1 + 1, 0, none⟩) 1 1, .slice adv (ND - m) (cd - m), .string tx] 40 (0, 0)) := by rw [hw3]; exact allocs_at [(.cells #[.slice (some ⟨w2.heap.size + 1 + 1, 0, none⟩) 1 1, .slice adv (ND - m) (cd - m), .string tx] 40), (.cells #[.slice af NF cf, .slice (some ⟨b, off, none⟩) m cd, .string tx] 40), (.cells #[.string ⟨#[98, 101, 116, 119, 101, 101, 110]⟩] 9)] w2 0 _ rfl
        have h11 : w3.heap[w2.heap.size + 1 + 1]? = some (.cells #[.string ⟨#[98, 101, 116, 119, 101, 101, 110]⟩] 9) := by rw [hw3]; exact allocs_at [(.cells #[.slice (some ⟨w2.heap.size + 1 + 1, 0, none⟩) 1 1, .slice adv (ND - m) (cd - m), .string tx] 40), (.cells #[.slice af NF cf, .slice (some ⟨b, off, none⟩) m cd, .string tx] 40), (.cells #[.string ⟨#[98, 101, 116, 119, 101, 101, 110]⟩] 9)] w2 2 _ rfl
        have HB3 : Hid (Below w.heap.size w w3) := HB2.out.trans (hb3.mono HB2.out.size)
        have k90 : w3.cell? ⟨w2.heap.size + 1, 0, none⟩ = some (.slice af NF cf) := (cell_of_row _ _ _ _ _ _ h9).trans rfl
        have k91 : w3.cell? ⟨w2.heap.size + 1, 1, none⟩ = some (.slice (some ⟨b, off, none⟩) m cd) := (cell_of_row _ _ _ _ _ _ h9).trans rfl
        have k92 : w3.cell? ⟨w2.heap.size + 1, 2, none⟩ = some (.string tx) := (cell_of_row _ _ _ _ _ _ h9).trans rfl
        have HK10 : Hid (w3.cell? ⟨w2.heap.size, 0, none⟩ = some (.slice (some ⟨w2.heap.size + 1 + 1, 0, none⟩) 1 1) ∧ w3.cell? ⟨w2.heap.size, 1, none⟩ = some (.slice adv (ND - m) (cd - m)) ∧ w3.cell? ⟨w2.heap.size, 2, none⟩ = some (.string tx)) := ⟨(cell_of_row _ _ _ _ _ _ h10).trans rfl, (cell_of_row _ _ _ _ _ _ h10).trans rfl, (cell_of_row _ _ _ _ _ _ h10).trans rfl⟩
        have HBT : Hid (Reads w3 (.slice (some ⟨w2.heap.size + 1 + 1, 0, none⟩) 1 1) 1 ([btw].map S)) := reads_al h11 rfl (by decide)
        have HDV : Hid (RCmds w3 (.slice adv (ND - m) (cd - m)) (x.cs.drop m)) := (show RCmds w3 (.slice adv (ND - m) (cd - m)) (x.cs.drop m) by
          by_cases hcm : cd = m
          · rw [if_pos hcm] at hadv
            exact rc_none (List.drop_of_length_le (by rw [← HND.out]; omega)) (by omega) (by unfold maxLen; omega)
          · rw [if_neg hcm] at hadv
            rw [hadv]
            exact (rc_drop HCS.out hmN).below HB3.out)
        have HTK : Hid (RCmds w3 (.slice (some ⟨b, off, none⟩) m cd) (x.cs.take m)) := (rc_take HCS.out hmN).below HB3.out
        have HY3 : Hid _ := And.intro ((hb3.cell (World.block_lt_of_cell? w2 _ HY.out.1)).trans HY.out.1) (And.intro ((hb3.cell (World.block_lt_of_cell? w2 _ HY.out.2.1)).trans HY.out.2.1) ((hb3.cell (World.block_lt_of_cell? w2 _ HY.out.2.2)).trans HY.out.2.2))
        have HRL3 : Hid (Reads w3 (.slice al LN cl) LN ((lineT fs x).1.map U)) := HRL2.out.below hb3
        have htl : (x.cs.take m).length = m := by rw [List.length_take, ← HND.out]; omega
        have hdl : (x.cs.drop m).length = ND - m := by rw [List.length_drop, ← HND.out]
        have hl6 := (lchk_zero HLC.out).2.2.1
        obtain ⟨hz1, hz2, hz3⟩ := line_two (n := btw) m (lchk_zero HLC.out).2.2.2.2.2 (by rw [← HLT.out]; exact HLE.out.symm)
        have hp1 := (lchk_part HLC.out (cs := x.cs.take m) (fun c hc => List.mem_of_mem_take hc) (by omega)).1
        have hp2 := (lchk_part HLC.out (cs := x.cs.drop m) (fun c hc => List.mem_of_mem_drop hc) (by omega)).2
        obtain ⟨B1, hB1⟩ : ∃ B1, B1 = (lineOf fs ⟨x.fr, x.cs.take m, x.to⟩).1 := ⟨_, rfl⟩
        rw [← hB1] at hz2 hz3
        obtain ⟨hpb, hpf⟩ := put_btw hz2
        have hX1 : lineT fs ⟨x.fr, x.cs.take m, x.to⟩ = (B1, 0) := by rw [lineT_lineOf hp1 HFC.out, hB1]; exact Prod.ext rfl hz1
        have hX2 : lineT [⟨btw, B1⟩] ⟨[btw], x.cs.drop m, x.to⟩ = ((lineT fs x).1, 0) := by rw [lineT_lineOf hp2 hpf, hz3, HLT.out]
        have HX2 : Hid _ := hX2
        have HPB : Hid _ := hpb
        have HPF : Hid _ := hpf
        have HB1 : Hid (B1.length ≤ 4000) := hz2
        have hQ1 := HLX.out (x.cs.take m) (fun c hc => List.mem_of_mem_take hc) w3 HB3.out (some ⟨b, off, none⟩) m cd htl.symm HTK.out
        rw [hX1] at hQ1
        have HQ1 : Hid _ := hQ1
        have HDL : Hid (ND - m = (x.cs.drop m).length) := hdl.symm
        clear hadv hw3 hb3 h9 h10 h11 htl hdl hl6 hz1 hz2 hz3 hp1 hp2 hB1 hpb hpf hX1 hX2 hQ1 ha0 ha1 ha2 hb0 hb1 hb2 hc1 hy0 hy1 hy2 HB2 HRL2 HLX HLI HSH HA hcdm
        go_wp2_with fail
        refine Calls.mono HQ1.out ?_
        rintro e w4 ⟨a4, c4, rfl, hr4, hb4⟩
        have HB4 : Hid (Below w.heap.size w w4) := HB3.out.trans (hb4.mono HB3.out.size)
        obtain ⟨n40, n41, n42⟩ := HK10.out
        have HK4 : Hid (w4.cell? ⟨w2.heap.size, 0, none⟩ = some (.slice (some ⟨w2.heap.size + 1 + 1, 0, none⟩) 1 1) ∧ w4.cell? ⟨w2.heap.size, 1, none⟩ = some (.slice adv (ND - m) (cd - m)) ∧ w4.cell? ⟨w2.heap.size, 2, none⟩ = some (.string tx)) := ⟨(hb4.cell (World.block_lt_of_cell? w3 _ n40)).trans n40, (hb4.cell (World.block_lt_of_cell? w3 _ n41)).trans n41, (hb4.cell (World.block_lt_of_cell? w3 _ n42)).trans n42⟩
        have HBT4 : Hid (Reads w4 (.slice (some ⟨w2.heap.size + 1 + 1, 0, none⟩) 1 1) 1 ([btw].map S)) := HBT.out.below hb4
        have HDV4 : Hid (RCmds w4 (.slice adv (ND - m) (cd - m)) (x.cs.drop m)) := HDV.out.below hb4
        have HY4 : Hid _ := And.intro ((hb4.cell (World.block_lt_of_cell? w3 _ HY3.out.1)).trans HY3.out.1) (And.intro ((hb4.cell (World.block_lt_of_cell? w3 _ HY3.out.2.1)).trans HY3.out.2.1) ((hb4.cell (World.block_lt_of_cell? w3 _ HY3.out.2.2)).trans HY3.out.2.2))
        have HRL4 : Hid (Reads w4 (.slice al LN cl) LN ((lineT fs x).1.map U)) := HRL3.out.below hb4
        simp only at hr4 ⊢
        have hQ2 : Calls Tryz.prog 10 #[.slice none 0 0, .string ⟨#[98, 101, 116, 119, 101, 101, 110]⟩, .slice a4 B1.length c4] w4 fun e w' => PutEnd w4 (putT [] btw B1) e w' := put_is none a4 0 c4 [] btw B1 w4 (rfiles_nil w4) (fun f hf => by cases hf) hr4 (by decide)
        rw [HPB.out] at hQ2
        have HQ2 : Hid _ := hQ2
        generalize B1.length = L4 at *
        clear hr4 hb4 n40 n41 n42 hQ2 HQ1 HK10 HBT HDV HY3 HRL3 HB3 k90 k91 k92
        go_wp2_with fail
        refine Calls.mono HQ2.out ?_
        rintro e w5 ⟨a5, c5, rfl, hr5, hb5⟩
        have HB5 : Hid (Below w.heap.size w w5) := HB4.out.trans (hb5.mono HB4.out.size)
        obtain ⟨n40, n41, n42⟩ := HK4.out
        have k0 := (hb5.cell (World.block_lt_of_cell? w4 _ n40)).trans n40
        have k1 := (hb5.cell (World.block_lt_of_cell? w4 _ n41)).trans n41
        have k2 := (hb5.cell (World.block_lt_of_cell? w4 _ n42)).trans n42
        have HY5 : Hid _ := And.intro ((hb5.cell (World.block_lt_of_cell? w4 _ HY4.out.1)).trans HY4.out.1) (And.intro ((hb5.cell (World.block_lt_of_cell? w4 _ HY4.out.2.1)).trans HY4.out.2.1) ((hb5.cell (World.block_lt_of_cell? w4 _ HY4.out.2.2)).trans HY4.out.2.2))
        have HRL5 : Hid (Reads w5 (.slice al LN cl) LN ((lineT fs x).1.map U)) := HRL4.out.below hb5
        have hQ3 := HLY.out (x.cs.drop m) (fun c hc => List.mem_of_mem_drop hc) w5 HB5.out adv (ND - m) (cd - m) HDL.out (HDV4.out.below hb5) [⟨btw, B1⟩] a5 (some ⟨w2.heap.size + 1 + 1, 0, none⟩) c5 hr5 HPF.out (HBT4.out.below hb5)
        rw [HX2.out] at hQ3
        have HQ3 : Hid _ := hQ3
        simp only [List.length_cons, List.length_nil, Nat.zero_add] at HQ3 ⊢
        clear hr5 hb5 n40 n41 n42 hQ3 HQ2 HK4 HBT4 HDV4 HY4 HRL4 HB4 HLY
        go_wp2_with fail
        refine Calls.mono HQ3.out ?_
        rintro e w6 ⟨a6, c6, rfl, hr6, hb6⟩
        have HB6 : Hid (Below w.heap.size w w6) := HB5.out.trans (hb6.mono HB5.out.size)
        have HY6 : Hid _ := And.intro ((hb6.cell (World.block_lt_of_cell? w5 _ HY5.out.1)).trans HY5.out.1) (And.intro ((hb6.cell (World.block_lt_of_cell? w5 _ HY5.out.2.1)).trans HY5.out.2.1) ((hb6.cell (World.block_lt_of_cell? w5 _ HY5.out.2.2)).trans HY5.out.2.2))
        have HRL6 : Hid (Reads w6 (.slice al LN cl) LN ((lineT fs x).1.map U)) := HRL5.out.below hb6
        have HR6 : Hid (Reads w6 (.slice a6 (lineT fs x).1.length c6) (lineT fs x).1.length ((lineT fs x).1.map U)) := hr6
        simp only
        rw [← HLN.out]
        rw [← HLN.out] at HR6
        have hQ4 := fclone_fo ao cap fs w6 (by rw [← HN.out]; exact HF.out.below HB6.out) (by have := (fchk_zero HFC.out).1; omega)
        rw [← HN.out] at hQ4
        have HQ4 : Hid _ := hQ4
        clear hr6 hb6 hQ4 HQ3 HY5 HRL5 HB5 k0 k1 k2
        go_wp2_with fail
        refine Calls.mono HQ4.out ?_
        rintro e w7 ⟨v7, rows7, rfl, hfo, hmap, hb7⟩
        have hl7 : rows7.length ≤ 12 := by
          have h1 := congrArg List.length hmap
          rw [List.length_map] at h1
          have := (fchk_zero HFC.out).1
          omega
        have hQ5 := deleteF_is v7 rows7 w.heap.size af cf x.fr w6 w7 hfo hl7 hb7 (by have h := HY6.out.1; rw [HNF.out] at h; exact h) (HFR.out.below HB6.out)
        rw [hmap] at hQ5
        have HQ5 : Hid _ := hQ5
        have HB7 : Hid (Below w6.heap.size w6 w7) := hb7
        clear hfo hmap hb7 hl7 hQ5 HQ4
        go_wp2_with fail
        refine Calls.mono HQ5.out ?_
        rintro e w8 ⟨a8, n8, c8, rfl, hn8, hr8, hb8⟩
        have HB8 : Hid (Below w.heap.size w w8) := HB6.out.trans (hb8.mono HB6.out.size)
        have k0 := (hb8.cell (World.block_lt_of_cell? w6 _ HY6.out.1)).trans HY6.out.1
        have k1 := (hb8.cell (World.block_lt_of_cell? w6 _ HY6.out.2.1)).trans HY6.out.2.1
        have k2 := (hb8.cell (World.block_lt_of_cell? w6 _ HY6.out.2.2)).trans HY6.out.2.2
        have HRL8 : Hid (Reads w8 (.slice al LN cl) LN ((lineT fs x).1.map U)) := HRL6.out.below hb8
        have HR68 : Hid (Reads w8 (.slice a6 LN c6) LN ((lineT fs x).1.map U)) := HR6.out.below hb8
        have hQ6 := HLF.out w8 HB8.out (keptF x.fr fs) a8 c8 (by rw [← hn8]; exact hr8) (filter_right HFC.out)
        rw [line_kept HLC.out HFC.out, ← HLT.out, ← hn8] at hQ6
        have HQ6 : Hid _ := hQ6
        clear hr8 hb8 hn8 hQ6 HQ5 HY6 HRL6 HR6 HB7 HB6 HLF
        go_wp2_with fail
        refine Calls.mono HQ6.out ?_
        rintro e w9 ⟨a9, c9, rfl, hr9, hb9⟩
        have HB9 : Hid (Below w.heap.size w w9) := HB8.out.trans (hb9.mono HB8.out.size)
        have HR9 : Hid (Reads w9 (.slice a9 (lineT fs x).1.length c9) (lineT fs x).1.length ((lineT fs x).1.map U)) := hr9
        have hE1 := eqbyte_is al a6 cl c6 (lineT fs x).1 (lineT fs x).1 w9 (by rw [← HLN.out]; exact HRL8.out.below hb9) (by rw [← HLN.out]; exact HR68.out.below hb9)
        rw [← HLN.out, decide_eq_true (rfl : (lineT fs x).1 = (lineT fs x).1)] at hE1
        have HE2 : Hid _ := fun (W : World) (h : Below w9.heap.size w9 W) => eqbyte_is al a9 cl c9 (lineT fs x).1 (lineT fs x).1 W (by rw [← HLN.out]; exact (HRL8.out.below hb9).below h) (HR9.out.below h)
        rw [← HLN.out, decide_eq_true (rfl : (lineT fs x).1 = (lineT fs x).1)] at HE2
        have HE1 : Hid _ := hE1
        rw [← HLE.out, ← HLN.out]
        clear hr9 hb9 hE1 HQ6 HRL8 HR68 HR9 HB8 k0 k1 k2
        go_wp2_with fail
        refine Calls.mono HE1.out ?_
        rintro e w10 ⟨rfl, hb10⟩
        have HB10 : Hid (Below w.heap.size w w10) := HB9.out.trans (hb10.mono HB9.out.size)
        have hQ7 := HE2.out w10 hb10
        clear hb10 HE1 HE2 HB9
        go_wp2_with fail
        refine Calls.mono hQ7 ?_
        rintro e w11 ⟨rfl, hb11⟩
        have HB11 : Hid (Below w.heap.size w w11) := HB10.out.trans (hb11.mono HB10.out.size)
        clear hb11 hQ7 HB10
        go_wp2_with fail
        go_ret
        exact ⟨rfl, HB11.out⟩
  · go_wp2_with fail
    have hQ := HSH.out w2 HB2.out
    refine Calls.mono hQ ?_
    rintro e w3 ⟨rfl, hb3⟩
    have HB3 : Hid (Below w.heap.size w w3) := HB2.out.trans (hb3.mono HB2.out.size)
    clear hQ hb3
    go_wp2_with fail
    go_ret
    exact ⟨rfl, HB3.out⟩
end Go.Proofs.YtkifihcficobnabGreatDoor
