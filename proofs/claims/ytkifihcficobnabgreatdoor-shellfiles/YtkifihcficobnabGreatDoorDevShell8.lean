/- What Same does. -/
import Derived.Test.YtkifihcficobnabGreatDoorFBase
import Derived.Test.YtkifihcficobnabGreatDoorOfE
namespace Go.Proofs.YtkifihcficobnabGreatDoor
open Go.RowKit Go.Gs
set_option linter.unusedVariables false

set_option maxRecDepth 100000 in
set_option maxHeartbeats 2000000 in
theorem bequal_is (au av : Option Addr) (cu cv : Nat) (a b : List UInt8) (w : World) (ha : Reads w (.slice au a.length cu) a.length (a.map U)) (hb : Reads w (.slice av b.length cv) b.length (b.map U)) :
    Calls Tryz.prog 55 #[.slice au a.length cu, .slice av b.length cv] w fun e w' => e = .returned (.bool (decide (a = b))) ∧ Below w.heap.size w w' := by
  have h1 := conv_any ha
  have h2 := conv_any hb
  have hse := str_eq2 a b
  obtain ⟨d, hd⟩ : ∃ d, d = decide (a = b) := ⟨_, rfl⟩
  rw [← hd] at hse ⊢
  generalize (⟨a.toArray⟩ : ByteArray) = xa at *
  generalize (⟨b.toArray⟩ : ByteArray) = xb at *
  generalize a.length = NA at *
  generalize b.length = NB at *
  clear ha hb hd
  go_enter Tryz.func55, Tryz.ntmps55
  go_wp2_with fail
  go_ret
  exact ⟨rfl, Below.refl _ _⟩

variable [DecidableEq SFile]
set_option maxRecDepth 100000 in
set_option maxHeartbeats 4000000 in
theorem sameD1_is (x y : SFile) (ab bb : Option Addr) (cb eb : Nat) (w : World) (hx : Reads w (.slice ab x.b.length cb) x.b.length (x.b.map U)) (hy : Reads w (.slice bb y.b.length eb) y.b.length (y.b.map U)) :
    Calls Tryz.prog 54 #[.agg #[.string ⟨x.name.toArray⟩, .slice ab x.b.length cb], .agg #[.string ⟨y.name.toArray⟩, .slice bb y.b.length eb]] w fun e w' => e = .returned (.bool (decide (x = y))) ∧ Below w.heap.size w w' := by
  have HE1 : Hid _ := fun (W : World) (hb : Below w.heap.size w W) => bequal_is ab bb cb eb x.b y.b W (Reads.below hx hb) (Reads.below hy hb)
  have hse := str_eq2 x.name y.name
  have HXY : Hid (x = y ↔ x.name = y.name ∧ x.b = y.b) := (show x = y ↔ _ from ⟨fun h => by subst h; exact ⟨rfl, rfl⟩, fun ⟨h1, h2⟩ => by
    obtain ⟨a1, a2⟩ := x
    obtain ⟨b1, b2⟩ := y
    simp only at h1 h2
    subst h1 h2
    rfl⟩)
  obtain ⟨d0, hd0⟩ : ∃ d, d = decide (x.name = y.name) := ⟨_, rfl⟩
  obtain ⟨d1, hd1⟩ : ∃ d, d = decide (x.b = y.b) := ⟨_, rfl⟩
  have HD : Hid (decide (x = y) = (d0 && d1)) := (show _ = _ by
    rw [hd0, hd1, ← Bool.decide_and]
    exact decide_eq_decide.2 HXY.out)
  rw [← hd0] at hse
  rw [← hd1] at HE1
  generalize (⟨x.name.toArray⟩ : ByteArray) = tx at *
  generalize (⟨y.name.toArray⟩ : ByteArray) = ty at *
  generalize x.b.length = NF at *
  generalize y.b.length = MF at *
  clear hx hy hd0 hd1 HXY
  cases d0 with
  | false =>
    have hse' : ¬ tx.toList = ty.toList := by simpa using hse
    clear hse
    go_enter Tryz.func54, Tryz.ntmps54
    go_wp2_with fail
    go_ret
    exact ⟨by rw [HD.out]; rfl, boxr2_of⟩
  | true =>
    have hse' : tx.toList = ty.toList := by simpa using hse
    clear hse
    go_enter Tryz.func54, Tryz.ntmps54
    go_wp2_with fail
    refine Calls.mono (HE1.out _ boxr2_of) ?_
    rintro e w3 ⟨rfl, hb3⟩
    have HB3 : Hid (Below w.heap.size w w3) := boxr2_of.trans (hb3.mono boxr2_of.size)
    clear hb3 HE1
    go_wp2_with fail
    go_ret
    exact ⟨by rw [HD.out]; rfl, HB3.out⟩
set_option maxRecDepth 100000 in
set_option maxHeartbeats 4000000 in
theorem eqfileD_is (au av : Option Addr) (cu cv : Nat) (a b : List SFile) (w : World) (ha : RFiles w (.slice au a.length cu) a) (hb : RFiles w (.slice av b.length cv) b) :
    Calls Tryz.prog 53 #[.slice au a.length cu, .slice av b.length cv, .func (.func 54) #[] #[]] w fun e w' => e = .returned (.bool (decide (a = b))) ∧ Below w.heap.size w w' := by
  have m2 := rfiles_le ha
  have m4 := rfiles_le hb
  have HA : Hid (RFiles w (.slice au a.length cu) a) := ha
  have HB : Hid (RFiles w (.slice av b.length cv) b) := hb
  obtain ⟨NA, hNA⟩ : ∃ N, N = a.length := ⟨_, rfl⟩
  obtain ⟨NB, hNB⟩ : ∃ N, N = b.length := ⟨_, rfl⟩
  have HNA : Hid (NA = a.length) := hNA
  have HNB : Hid (NB = b.length) := hNB
  have hA1 : NA ≤ 9223372036854775807 := by omega
  have hB1 : NB ≤ 9223372036854775807 := by omega
  rw [← hNA, ← hNB]
  rw [← hNA] at HA
  rw [← hNB] at HB
  clear ha hb m2 m4 hNA hNB
  by_cases hne : NA = NB
  · subst hne
    go_enter Tryz.func53, Tryz.ntmps53
    go_wp2_with fail
    go_loopw [17] (fun i wr => ∃ k : Nat, k ≤ NA ∧ i = .int .i64 k ∧ Hid (Below w.heap.size w wr) ∧ Hid (a.take k = b.take k)) (fun i _ => NA - (intOf i).toNat)
    case atStart => exact ⟨0, Nat.zero_le _, rfl, Below.refl _ _, (show _ = _ by simp)⟩
    case round =>
      obtain ⟨k, hk, rfl, hbel, hall⟩ := hrel
      by_cases hlt : k < NA
      · obtain ⟨x, hx⟩ : ∃ x, a[k]? = some x := ⟨_, List.getElem?_eq_getElem (by have := HNA.out; omega)⟩
        obtain ⟨y, hy⟩ : ∃ y, b[k]? = some y := ⟨_, List.getElem?_eq_getElem (by have := HNB.out; omega)⟩
        have HX : Hid (a[k]? = some x) := hx
        have HY : Hid (b[k]? = some y) := hy
        obtain ⟨b1, o1, ab, cb, rfl, hc10, hc11, hrx⟩ := (RFiles.below HA.out hbel.out).at hx
        obtain ⟨b2, o2, bb, eb, rfl, hc20, hc21, hry⟩ := (RFiles.below HB.out hbel.out).at hy
        have HS : Hid _ := fun (W : World) (hb : Below wr.heap.size wr W) => sameD1_is x y ab bb cb eb W (Reads.below hrx hb) (Reads.below hry hb)
        obtain ⟨d, hd⟩ : ∃ d, d = decide (x = y) := ⟨_, rfl⟩
        have HDD : Hid (d = decide (x = y)) := hd
        rw [← hd] at HS
        have hg20 := (boxr_of (w := wr) (o := .cells #[.string ⟨x.name.toArray⟩, .slice ab x.b.length cb] 45)).cell (World.block_lt_of_cell? wr _ hc20)
        have hg21 := (boxr_of (w := wr) (o := .cells #[.string ⟨x.name.toArray⟩, .slice ab x.b.length cb] 45)).cell (World.block_lt_of_cell? wr _ hc21)
        rw [hc20] at hg20
        rw [hc21] at hg21
        generalize (⟨x.name.toArray⟩ : ByteArray) = tx at *
        generalize (⟨y.name.toArray⟩ : ByteArray) = ty at *
        generalize x.b.length = NF at *
        generalize y.b.length = MF at *
        clear hx hy hd hrx hry hc20 hc21
        go_wp2_with fail
        refine Calls.mono (HS.out _ boxr2_of) ?_
        rintro e w3 ⟨rfl, hb3⟩
        have HB3 : Hid (Below w.heap.size w w3) := (hbel.out.trans (boxr2_of.mono hbel.out.size)).trans (hb3.mono (Nat.le_trans hbel.out.size boxr2_of.size))
        clear hb3 HS hg20 hg21 hc10 hc11
        cases d with
        | true =>
          have hxy : x = y := of_decide_eq_true HDD.out.symm
          have HE : Hid (a.take (k + 1) = b.take (k + 1)) := take_eq2 hall.out HX.out (by rw [hxy]; exact HY.out)
          clear hxy hall
          go_wp2_with fail
          go_roundw
          case rel => exact ⟨k + 1, by omega, by go_num, HB3, HE⟩
          case measure => simp [intOf]; omega
        | false =>
          have HE : Hid (a ≠ b) := ne_at2 HX.out HY.out (of_decide_eq_false HDD.out.symm)
          clear hall
          go_wp2_with fail
          go_ret
          exact ⟨by rw [decide_eq_false HE.out]; rfl, HB3.out⟩
      · have HE : Hid (a = b) := (show _ = _ by
          have h := hall.out
          rw [List.take_of_length_le (by have := HNA.out; omega), List.take_of_length_le (by have := HNB.out; omega)] at h
          exact h)
        clear hall
        go_wp2_with fail
        go_ret
        exact ⟨by rw [decide_eq_true HE.out]; rfl, hbel.out⟩
  · have HE : Hid (a ≠ b) := (show a ≠ b from fun e => hne (by rw [HNA.out, HNB.out, e]))
    have hq : ¬ (NA : Int) = NB := by omega
    go_enter Tryz.func53, Tryz.ntmps53
    go_wp2_with fail
    go_ret
    exact ⟨by rw [decide_eq_false HE.out]; rfl, Below.refl _ _⟩

theorem same_is (au av : Option Addr) (cu cv : Nat) (a b : List SFile) (w : World) (ha : RFiles w (.slice au a.length cu) a) (hb : RFiles w (.slice av b.length cv) b) :
    Calls Tryz.prog 15 #[.slice au a.length cu, .slice av b.length cv] w fun e w' => e = .returned (.bool (decide (a = b))) ∧ Below w.heap.size w w' := by
  have hE := eqfileD_is au av cu cv a b w ha hb
  obtain ⟨d, hd⟩ : ∃ d, d = decide (a = b) := ⟨_, rfl⟩
  rw [← hd] at hE ⊢
  generalize a.length = NA at *
  generalize b.length = NB at *
  clear ha hb hd
  go_enter Tryz.func15, Tryz.ntmps15
  go_wp2_with fail
  refine Calls.mono hE ?_
  rintro e w1 ⟨rfl, hb1⟩
  have HB : Hid (Below w.heap.size w w1) := hb1
  clear hb1 hE
  go_wp2_with fail
  go_ret
  exact ⟨rfl, HB.out⟩
end Go.Proofs.YtkifihcficobnabGreatDoor
