/- The reference's SameScript. -/
import Derived.Test.YtdfnnhcooliheaaDoorRefScript
namespace Go.Proofs.YtdfnnhcooliheaaDoor
open Go.RowKit Go.Gs
set_option linter.unusedVariables false

theorem blk3' {w : World} {p : Nat} {a b c : Value} {t : TypeId} (h : w.heap[p]? = some (.cells #[a, b, c] t (0, 0))) :
    w.cell? ⟨p, 0, none⟩ = some a ∧ w.cell? ⟨p, 1, none⟩ = some b ∧ w.cell? ⟨p, 2, none⟩ = some c := by
  simp [World.cell?, h]
theorem box2_of {w : World} {o p : Obj} : Below w.heap.size w ((w.alloc o).alloc p) := (box_of (w := w) (o := o)).alloc (by simp) p

variable [DecidableEq Cmd] [DecidableEq SLine]
set_option maxRecDepth 100000 in
set_option maxHeartbeats 4000000 in
theorem same1_is (x y : SLine) (af ad bf bd : Option Addr) (cf cd ef ed : Nat) (w : World) (hx : Reads w (.slice af x.fr.length cf) x.fr.length (x.fr.map S)) (hxd : RCmds w (.slice ad x.cs.length cd) x.cs) (hy : Reads w (.slice bf y.fr.length ef) y.fr.length (y.fr.map S)) (hyd : RCmds w (.slice bd y.cs.length ed) y.cs) :
    Calls Tryd.prog 49 #[.agg #[.slice af x.fr.length cf, .slice ad x.cs.length cd, .string ⟨x.to.toArray⟩], .agg #[.slice bf y.fr.length ef, .slice bd y.cs.length ed, .string ⟨y.to.toArray⟩]] w fun e w' => e = .returned (.bool (decide (x = y))) ∧ Below w.heap.size w w' := by
  have HE1 : Hid _ := fun (W : World) (hb : Below w.heap.size w W) => eqstr_is af bf cf ef x.fr y.fr W (Reads.below hx hb) (Reads.below hy hb)
  have HE2 : Hid _ := fun (W : World) (hb : Below w.heap.size w W) => eqcmd_is ad bd cd ed x.cs y.cs W (RCmds.below hxd hb) (RCmds.below hyd hb)
  have hse := str_eq' x.to y.to
  have HXY : Hid (x = y ↔ x.to = y.to ∧ x.fr = y.fr ∧ x.cs = y.cs) := (show x = y ↔ _ from ⟨fun h => by subst h; exact ⟨rfl, rfl, rfl⟩, fun ⟨h1, h2, h3⟩ => by
    obtain ⟨a1, a2, a3⟩ := x
    obtain ⟨b1, b2, b3⟩ := y
    simp only at h1 h2 h3
    subst h1 h2 h3
    rfl⟩)
  obtain ⟨d0, hd0⟩ : ∃ d, d = decide (x.to = y.to) := ⟨_, rfl⟩
  obtain ⟨d1, hd1⟩ : ∃ d, d = decide (x.fr = y.fr) := ⟨_, rfl⟩
  obtain ⟨d2, hd2⟩ : ∃ d, d = decide (x.cs = y.cs) := ⟨_, rfl⟩
  have HD : Hid (decide (x = y) = (d0 && (d1 && d2))) := (show _ = _ by
    rw [hd0, hd1, hd2, ← Bool.decide_and, ← Bool.decide_and]
    exact decide_eq_decide.2 HXY.out)
  rw [← hd0] at hse
  rw [← hd1] at HE1
  rw [← hd2] at HE2
  generalize (⟨x.to.toArray⟩ : ByteArray) = tx at *
  generalize (⟨y.to.toArray⟩ : ByteArray) = ty at *
  generalize x.fr.length = NF at *
  generalize y.fr.length = MF at *
  generalize x.cs.length = ND at *
  generalize y.cs.length = MD at *
  clear hx hxd hy hyd hd0 hd1 hd2 HXY
  cases d0 with
  | false =>
    have hse' : ¬ tx.toList = ty.toList := by simpa using hse
    clear hse
    go_enter Tryd.func49, Tryd.ntmps49
    go_wp2_with fail
    go_ret
    exact ⟨by rw [HD.out]; rfl, box2_of⟩
  | true =>
    have hse' : tx.toList = ty.toList := by simpa using hse
    clear hse
    go_enter Tryd.func49, Tryd.ntmps49
    go_wp2_with fail
    refine Calls.mono (HE1.out _ box2_of) ?_
    rintro e w3 ⟨rfl, hb3⟩
    have HB3 : Hid (Below w.heap.size w w3) := box2_of.trans (hb3.mono box2_of.size)
    have hk1 : w3.heap[w.heap.size]? = some (.cells #[.slice af NF cf, .slice ad ND cd, .string tx] 78 (0, 0)) := (hb3.block _ (by simp; omega)).trans ((Below.heap_alloc _ _ _ (by simp)).trans (heap_alloc_new w _))
    have hk2 : w3.heap[w.heap.size + 1]? = some (.cells #[.slice bf MF ef, .slice bd MD ed, .string ty] 78 (0, 0)) := (hb3.block _ (by simp)).trans (by
      have := heap_alloc_new (w.alloc (.cells #[.slice af NF cf, .slice ad ND cd, .string tx] 78)) (.cells #[.slice bf MF ef, .slice bd MD ed, .string ty] 78)
      rw [show (w.alloc (.cells #[.slice af NF cf, .slice ad ND cd, .string tx] 78)).heap.size = w.heap.size + 1 by simp] at this
      exact this)
    obtain ⟨hp0, hp1, hp2⟩ := blk3' hk1
    obtain ⟨hq0, hq1, hq2⟩ := blk3' hk2
    clear hb3 HE1 hk1 hk2
    cases d1 with
    | false =>
      go_wp2_with fail
      go_ret
      exact ⟨by rw [HD.out]; rfl, HB3.out⟩
    | true =>
      go_wp2_with fail
      refine Calls.mono (HE2.out _ HB3.out) ?_
      rintro e w4 ⟨rfl, hb4⟩
      have HB4 : Hid (Below w.heap.size w w4) := HB3.out.trans (hb4.mono HB3.out.size)
      clear hb4 HE2
      go_wp2_with fail
      go_ret
      exact ⟨by rw [HD.out]; rfl, HB4.out⟩

set_option maxRecDepth 100000 in
set_option maxHeartbeats 4000000 in
theorem eqline_is (au av : Option Addr) (cu cv : Nat) (a b : List SLine) (w : World) (ha : RLines w (.slice au a.length cu) a) (hb : RLines w (.slice av b.length cv) b) :
    Calls Tryd.prog 48 #[.slice au a.length cu, .slice av b.length cv, .func (.func 49) #[] #[]] w fun e w' => e = .returned (.bool (decide (a = b))) ∧ Below w.heap.size w w' := by
  have m2 := rlines_le ha
  have m4 := rlines_le hb
  have HA : Hid (RLines w (.slice au a.length cu) a) := ha
  have HB : Hid (RLines w (.slice av b.length cv) b) := hb
  obtain ⟨NA, hNA⟩ : ∃ N, N = a.length := ⟨_, rfl⟩
  obtain ⟨NB, hNB⟩ : ∃ N, N = b.length := ⟨_, rfl⟩
  have HNA : Hid (NA = a.length) := hNA
  have HNB : Hid (NB = b.length) := hNB
  have hA1 : NA ≤ 9223372036854775807 := by omega
  have hB1 : NB ≤ 9223372036854775807 := by omega
  rw [← hNA, ← hNB]
  rw [← hNA] at HA
  rw [← hNB] at HB
  clear ha hb m2 m4 hNA hNB
  by_cases hne : NA = NB
  · subst hne
    go_enter Tryd.func48, Tryd.ntmps48
    go_wp2_with fail
    go_loopw [17] (fun i wr => ∃ k : Nat, k ≤ NA ∧ i = .int .i64 k ∧ Hid (Below w.heap.size w wr) ∧ Hid (a.take k = b.take k)) (fun i _ => NA - (intOf i).toNat)
    case atStart => exact ⟨0, Nat.zero_le _, rfl, Below.refl _ _, (show _ = _ by simp)⟩
    case round =>
      obtain ⟨k, hk, rfl, hbel, hall⟩ := hrel
      by_cases hlt : k < NA
      · obtain ⟨x, hx⟩ : ∃ x, a[k]? = some x := ⟨_, List.getElem?_eq_getElem (by have := HNA.out; omega)⟩
        obtain ⟨y, hy⟩ : ∃ y, b[k]? = some y := ⟨_, List.getElem?_eq_getElem (by have := HNB.out; omega)⟩
        have HX : Hid (a[k]? = some x) := hx
        have HY : Hid (b[k]? = some y) := hy
        obtain ⟨b1, o1, af, cf, ad, cd, rfl, hc10, hc11, hc12, hrx, hdx⟩ := (RLines.below HA.out hbel.out).at hx
        obtain ⟨b2, o2, bf, ef, bd, ed, rfl, hc20, hc21, hc22, hry, hdy⟩ := (RLines.below HB.out hbel.out).at hy
        have HS : Hid _ := fun (W : World) (hb : Below wr.heap.size wr W) => same1_is x y af ad bf bd cf cd ef ed W (Reads.below hrx hb) (RCmds.below hdx hb) (Reads.below hry hb) (RCmds.below hdy hb)
        obtain ⟨d, hd⟩ : ∃ d, d = decide (x = y) := ⟨_, rfl⟩
        have HDD : Hid (d = decide (x = y)) := hd
        rw [← hd] at HS
        have hg20 := (box_of (w := wr) (o := .cells #[.slice af x.fr.length cf, .slice ad x.cs.length cd, .string ⟨x.to.toArray⟩] 78)).cell (World.block_lt_of_cell? wr _ hc20)
        have hg21 := (box_of (w := wr) (o := .cells #[.slice af x.fr.length cf, .slice ad x.cs.length cd, .string ⟨x.to.toArray⟩] 78)).cell (World.block_lt_of_cell? wr _ hc21)
        have hg22 := (box_of (w := wr) (o := .cells #[.slice af x.fr.length cf, .slice ad x.cs.length cd, .string ⟨x.to.toArray⟩] 78)).cell (World.block_lt_of_cell? wr _ hc22)
        rw [hc20] at hg20
        rw [hc21] at hg21
        rw [hc22] at hg22
        generalize (⟨x.to.toArray⟩ : ByteArray) = tx at *
        generalize (⟨y.to.toArray⟩ : ByteArray) = ty at *
        generalize x.fr.length = NF at *
        generalize y.fr.length = MF at *
        generalize x.cs.length = ND at *
        generalize y.cs.length = MD at *
        clear hx hy hd hrx hdx hry hdy hc20 hc21 hc22
        go_wp2_with fail
        refine Calls.mono (HS.out _ box2_of) ?_
        rintro e w3 ⟨rfl, hb3⟩
        have HB3 : Hid (Below w.heap.size w w3) := (hbel.out.trans (box2_of.mono hbel.out.size)).trans (hb3.mono (Nat.le_trans hbel.out.size box2_of.size))
        clear hb3 HS hg20 hg21 hg22 hc10 hc11 hc12
        cases d with
        | true =>
          have hxy : x = y := of_decide_eq_true HDD.out.symm
          have HE : Hid (a.take (k + 1) = b.take (k + 1)) := take_eq hall.out HX.out (by rw [hxy]; exact HY.out)
          clear hxy hall
          go_wp2_with fail
          go_roundw
          case rel => exact ⟨k + 1, by omega, by go_num, HB3, HE⟩
          case measure => simp [intOf]; omega
        | false =>
          have HE : Hid (a ≠ b) := ne_at HX.out HY.out (of_decide_eq_false HDD.out.symm)
          clear hall
          go_wp2_with fail
          go_ret
          exact ⟨by rw [decide_eq_false HE.out]; rfl, HB3.out⟩
      · have HE : Hid (a = b) := (show _ = _ by
          have h := hall.out
          rw [List.take_of_length_le (by have := HNA.out; omega), List.take_of_length_le (by have := HNB.out; omega)] at h
          exact h)
        clear hall
        go_wp2_with fail
        go_ret
        exact ⟨by rw [decide_eq_true HE.out]; rfl, hbel.out⟩
  · have HE : Hid (a ≠ b) := (show a ≠ b from fun e => hne (by rw [HNA.out, HNB.out, e]))
    have hq : ¬ (NA : Int) = NB := by omega
    go_enter Tryd.func48, Tryd.ntmps48
    go_wp2_with fail
    go_ret
    exact ⟨by rw [decide_eq_false HE.out]; rfl, Below.refl _ _⟩

theorem same_is (au av : Option Addr) (cu cv : Nat) (a b : List SLine) (w : World) (ha : RLines w (.slice au a.length cu) a) (hb : RLines w (.slice av b.length cv) b) :
    Calls Tryd.prog 28 #[.slice au a.length cu, .slice av b.length cv] w fun e w' => e = .returned (.bool (decide (a = b))) ∧ Below w.heap.size w w' := by
  have hE := eqline_is au av cu cv a b w ha hb
  obtain ⟨d, hd⟩ : ∃ d, d = decide (a = b) := ⟨_, rfl⟩
  rw [← hd] at hE ⊢
  generalize a.length = NA at *
  generalize b.length = NB at *
  clear ha hb hd
  go_enter Tryd.func28, Tryd.ntmps28
  go_wp2_with fail
  refine Calls.mono hE ?_
  rintro e w1 ⟨rfl, hb1⟩
  have HB : Hid (Below w.heap.size w w1) := hb1
  clear hb1 hE
  go_wp2_with fail
  go_ret
  exact ⟨rfl, HB.out⟩
end Go.Proofs.YtdfnnhcooliheaaDoor
