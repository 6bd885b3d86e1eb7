/- Facts of no function that walks over pipes use; bytes.Clone, slices.Equal at bytes. -/
import Derived.Test.YtobaeafhdgolmabPipePlain
import Derived.Test.YtobaeafhdgolmabProg
import Derived.WalkKit
import Derived.WalkLawsBesides
import Derived.WalkSpells
import Derived.Deep.Draws
import Derived.Deep.RegionWith
import Derived.Deep.DeepCutAuto
import Derived.Deep.Cut
import Derived.Deep.QuietTactic
import Derived.Deep.RegionLaw
import Derived.BigQuiet
import Derived.ChangeAgain
import Derived.Outline
import Derived.Lib.SliceRun
import Derived.Lib.QuietBelow
namespace Go.Proofs.Ytobaeafhdgolmab
open Go.RowKit Go.Gs
set_option linter.unusedVariables false

theorem boxrP {w : World} {o : Obj} : Below w.heap.size w (w.alloc o) := (Below.refl _ w).alloc (Nat.le_refl _) o
theorem boxr2P {w : World} {o p : Obj} : Below w.heap.size w ((w.alloc o).alloc p) := (boxrP (w := w) (o := o)).alloc (by simp) p
theorem reads_formP {w : World} {v : Value} {n : Nat} {xs : List Value} (h : Reads w v n xs) : ∃ ao cap, v = .slice ao n cap ∧ n ≤ cap ∧ cap ≤ maxLen := by
  obtain ⟨_, ao, cap, rfl, h2, h3, _⟩ := h
  exact ⟨ao, cap, rfl, h2, h3⟩
theorem reads_leP {w : World} {ao : Option Addr} {n cap : Nat} {xs : List Value} (h : Reads w (.slice ao n cap) n xs) : n ≤ 9223372036854775807 ∧ n ≤ cap ∧ cap ≤ 9223372036854775807 := by
  obtain ⟨_, c, e, h1, h2⟩ := reads_formP h
  injection e with e1 e2 e3
  subst e3
  unfold maxLen at h2
  omega
theorem ne_atP {α : Type} {a b : List α} {k : Nat} {x y : α} (ha : a[k]? = some x) (hb : b[k]? = some y) (h : x ≠ y) : a ≠ b := by
  intro e
  rw [e, hb] at ha
  injection ha with ha
  exact h ha.symm
theorem take_eqP {α : Type} {a b : List α} {k : Nat} {x : α} (h : a.take k = b.take k) (ha : a[k]? = some x) (hb : b[k]? = some x) : a.take (k + 1) = b.take (k + 1) := by
  rw [List.take_add_one, List.take_add_one, h, ha, hb]
theorem reads_byteP {w : World} {ao : Option Addr} {n cap : Nat} {bs : List UInt8} (h : Reads w (.slice ao n cap) n (bs.map U)) {k : Nat} {c : UInt8} (hk : bs[k]? = some c) :
    ∃ b off, ao = some ⟨b, off, none⟩ ∧ w.cell? ⟨b, off + k, none⟩ = some (.int .u8 (c.toNat : Int)) := by
  obtain ⟨h1, ao', cap', e, _, _, h5⟩ := h
  injection e with e1 e2 e3
  subst e1
  obtain ⟨hkl, _⟩ := List.getElem?_eq_some_iff.1 hk
  rw [List.length_map] at h1
  obtain ⟨b, off, hao, hc⟩ := h5 (by omega)
  exact ⟨b, off, hao, hc k (U c) (by rw [List.getElem?_map, hk]; rfl)⟩
theorem addP {b off j : Nat} : (⟨b, off, none⟩ : Addr).add j = ⟨b, off + j, none⟩ := by unfold Addr.add; split <;> simp_all
theorem infoU8P : (Try.prog.info? 5).map (fun i => (i.zero, i.size, i.bytes)) = some (some (.int .u8 0), 1, 1) := by kernel_rfl
theorem infoPipeP : (Try.prog.info? 42).map (fun i => (i.zero, i.size, i.bytes)) = some (some (.agg #[.slice none 0 0, .int .i64 0, .bool false, .bool false]), 4, 40) := by kernel_rfl
theorem U_oneP {bs : List UInt8} : ∀ u ∈ bs.map U, u.oneCell' = true := by
  intro u hu
  obtain ⟨x, _, rfl⟩ := List.mem_map.1 hu
  rfl
/-- The cells of a box of four. -/
theorem box4P {w w' : World} {a b c d : Value} {t : TypeId} (h : Below (w.alloc (.cells #[a, b, c, d] t)).heap.size (w.alloc (.cells #[a, b, c, d] t)) w') :
    w'.heap[w.heap.size]? = some (.cells #[a, b, c, d] t (0, 0)) := (h.block _ (by simp)).trans (heap_alloc_new w _)
theorem cells4P {w : World} {k : Nat} {a b c d : Value} {t : TypeId} (h : w.heap[k]? = some (.cells #[a, b, c, d] t (0, 0))) :
    w.cell? ⟨k, 0, none⟩ = some a ∧ w.cell? ⟨k, 1, none⟩ = some b ∧ w.cell? ⟨k, 2, none⟩ = some c ∧ w.cell? ⟨k, 3, none⟩ = some d := by
  refine ⟨?_, ?_, ?_, ?_⟩
  all_goals
    rw [cell_of_row _ _ _ _ _ _ h]
    rfl
theorem frz4P {w : World} {k : Nat} {a b c d : Value} {t : TypeId} (h : w.heap[k]? = some (.cells #[a, b, c, d] t (0, 0))) :
    w.frozen? ⟨k, 0, none⟩ = false ∧ w.frozen? ⟨k, 1, none⟩ = false ∧ w.frozen? ⟨k, 2, none⟩ = false ∧ w.frozen? ⟨k, 3, none⟩ = false :=
  ⟨frozen_of_row _ _ _ _ _ h, frozen_of_row _ _ _ _ _ h, frozen_of_row _ _ _ _ _ h, frozen_of_row _ _ _ _ _ h⟩
theorem below_set4P {B : Nat} {w w1 : World} (h : Below B w w1) {k : Nat} (hk : B ≤ k) (a b c d : Value) : Below B w ((((w1.setCell ⟨k, 0, none⟩ a).setCell ⟨k, 1, none⟩ b).setCell ⟨k, 2, none⟩ c).setCell ⟨k, 3, none⟩ d) :=
  (((h.setCell hk a).setCell hk b).setCell hk c).setCell hk d
theorem readsSetP {w : World} {ao : Option Addr} {n cap : Nat} {xs : List Value} (h : Reads w (.slice ao n cap) n xs) {k off : Nat} (hk : ∀ a, ao = some a → a.block ≠ k) (v : Value) : Reads (w.setCell ⟨k, off, none⟩ v) (.slice ao n cap) n xs := by
  obtain ⟨h1, ao', cap', e, h2, h3, h4⟩ := h
  injection e with e1 e2 e3
  subst e1 e3
  refine ⟨h1, _, _, rfl, h2, h3, fun hn => ?_⟩
  obtain ⟨b, o, rfl, hc⟩ := h4 hn
  refine ⟨b, o, rfl, fun j u hu => ?_⟩
  have hne : b ≠ k := hk _ rfl
  rw [World.cell?_setCell_other _ _ _ _ (by intro e; injection e with e1; omega)]
  exact hc j u hu
theorem PB.setP {w w' : World} {ar : Option Addr} {cr : Nat} {bs : List UInt8} (h : PB w w' ar cr bs) {k off : Nat} (hk : k < w.heap.size) (v : Value) : PB w (w'.setCell ⟨k, off, none⟩ v) ar cr bs :=
  ⟨readsSetP h.1 (fun a ha => by have := h.2.1 a ha; omega) v, h.2⟩
theorem PB.fromP {w w1 w' : World} {ar : Option Addr} {cr : Nat} {bs : List UInt8} (h : PB w1 w' ar cr bs) (hs : w.heap.size ≤ w1.heap.size) : PB w w' ar cr bs := ⟨h.1, fun a ha => Nat.le_trans hs (h.2.1 a ha), h.2.2⟩
theorem results_cell_tmp2P {fn : Func} {p u x : Tmp} {ty : TypeId} (h : fn.results = #[.cell p ty, .tmp u, .tmp x]) (tmps : Array Value) (P : Program) (w : World) :
    (results fn tmps).run P w =
      ((asAddr (tmps.getD p undef)).run P w).andThen fun a w₁ => ((loadVar ty a).run P w₁).andThen fun v w₂ => .ok (.tuple #[v, tmps.getD u undef, tmps.getD x undef]) w₂ := by
  simp only [results, h]
  simp [Sem.run_bind, Result.andThen]
/-- The cells of two boxes of four. -/
theorem box44P {w w' : World} {a b c d a' b' c' d' : Value} {t t' : TypeId} (h : Below ((w.alloc (.cells #[a, b, c, d] t)).alloc (.cells #[a', b', c', d'] t')).heap.size ((w.alloc (.cells #[a, b, c, d] t)).alloc (.cells #[a', b', c', d'] t')) w') :
    w'.heap[w.heap.size]? = some (.cells #[a, b, c, d] t (0, 0)) ∧ w'.heap[w.heap.size + 1]? = some (.cells #[a', b', c', d'] t' (0, 0)) := by
  refine ⟨(h.block _ (by simp; omega)).trans ?_, (h.block _ (by simp)).trans ?_⟩
  · rw [boxrP.block _ (by simp)]
    exact heap_alloc_new w _
  · have := heap_alloc_new (w.alloc (.cells #[a, b, c, d] t)) (.cells #[a', b', c', d'] t')
    simpa using this

set_option maxRecDepth 100000 in
set_option maxHeartbeats 4000000 in
theorem eqP_is (au av : Option Addr) (cu cv : Nat) (a b : List UInt8) (w : World) (ha : Reads w (.slice au a.length cu) a.length (a.map U)) (hb : Reads w (.slice av b.length cv) b.length (b.map U)) :
    Calls Try.prog 19 #[.slice au a.length cu, .slice av b.length cv] w fun e w' => e = .returned (.bool (decide (a = b))) ∧ Below w.heap.size w w' := by
  have m2 := (reads_leP ha).1
  have m4 := (reads_leP hb).1
  have HA : Hid (Reads w (.slice au a.length cu) a.length (a.map U)) := ha
  have HB : Hid (Reads w (.slice av b.length cv) b.length (b.map U)) := hb
  obtain ⟨NA, hNA⟩ : ∃ N, N = a.length := ⟨_, rfl⟩
  obtain ⟨NB, hNB⟩ : ∃ N, N = b.length := ⟨_, rfl⟩
  have HNA : Hid (NA = a.length) := hNA
  have HNB : Hid (NB = b.length) := hNB
  have hA1 : NA ≤ 9223372036854775807 := by omega
  have hB1 : NB ≤ 9223372036854775807 := by omega
  rw [← hNA, ← hNB]
  rw [← hNA] at HA
  rw [← hNB] at HB
  clear ha hb m2 m4 hNA hNB
  by_cases hne : NA = NB
  · subst hne
    go_enter Try.func19, Try.ntmps19
    go_wp2_with fail
    go_loopw [13] (fun i wr => ∃ k : Nat, k ≤ NA ∧ i = .int .i64 k ∧ Hid (Below w.heap.size w wr) ∧ Hid (a.take k = b.take k)) (fun i _ => NA - (intOf i).toNat)
    case atStart => exact ⟨0, Nat.zero_le _, rfl, Below.refl _ _, (show _ = _ by simp)⟩
    case round =>
      obtain ⟨k, hk, rfl, hbel, hall⟩ := hrel
      by_cases hlt : k < NA
      · obtain ⟨x, hx⟩ : ∃ x, a[k]? = some x := ⟨_, List.getElem?_eq_getElem (by have := HNA.out; omega)⟩
        obtain ⟨y, hy⟩ : ∃ y, b[k]? = some y := ⟨_, List.getElem?_eq_getElem (by have := HNB.out; omega)⟩
        have HX : Hid (a[k]? = some x) := hx
        have HY : Hid (b[k]? = some y) := hy
        obtain ⟨b1, o1, rfl, hc1⟩ := reads_byteP (Reads.below HA.out hbel.out) hx
        obtain ⟨b2, o2, rfl, hc2⟩ := reads_byteP (Reads.below HB.out hbel.out) hy
        by_cases hxy : x = y
        · subst hxy
          have HE : Hid (a.take (k + 1) = b.take (k + 1)) := take_eqP hall.out hx hy
          generalize (x.toNat : Int) = xi at *
          clear hx hy hall
          go_wp2_with fail
          go_region
          all_goals go_wp2_with fail
          all_goals go_roundw
          case rel => exact ⟨k + 1, by omega, by go_num, hbel.out.drew, HE⟩
          case measure => simp [intOf]; omega
        · have HE : Hid (a ≠ b) := ne_atP hx hy hxy
          have hxi : ¬ (x.toNat : Int) = (y.toNat : Int) := fun h => hxy (UInt8.toNat_inj.1 (by omega))
          generalize (x.toNat : Int) = xi at *
          generalize (y.toNat : Int) = yi at *
          clear hx hy hall hxy
          go_wp2_with fail
          go_region
          all_goals go_wp2_with fail
          all_goals go_ret
          all_goals exact ⟨by rw [decide_eq_false HE.out]; rfl, hbel.out.drew⟩
      · have HE : Hid (a = b) := (show _ = _ by
          have h := hall.out
          rw [List.take_of_length_le (by have := HNA.out; omega), List.take_of_length_le (by have := HNB.out; omega)] at h
          exact h)
        clear hall
        go_wp2_with fail
        go_ret
        exact ⟨by rw [decide_eq_true HE.out]; rfl, hbel.out⟩
  · have HE : Hid (a ≠ b) := (show a ≠ b from fun e => hne (by rw [HNA.out, HNB.out, e]))
    have hq : ¬ (NA : Int) = NB := by omega
    go_enter Try.func19, Try.ntmps19
    go_wp2_with fail
    go_ret
    exact ⟨by rw [decide_eq_false HE.out]; rfl, Below.refl _ _⟩

set_option maxRecDepth 100000 in
set_option maxHeartbeats 2000000 in
theorem bcloneP (ab : Option Addr) (cb : Nat) (bs : List UInt8) (w : World) (hr : Reads w (.slice ab bs.length cb) bs.length (bs.map U)) (hl : bs.length ≤ 100000) :
    Calls Try.prog 30 #[.slice ab bs.length cb] w fun e w' => ∃ ar cr, e = .returned (.slice ar bs.length cr) ∧ PB w w' ar cr bs ∧ Below w.heap.size w w' := by
  obtain ⟨i0, hi, hi0, hi1, hi2⟩ := info_parts infoU8P
  have hq : ∀ (w : World) (a : Option Addr) (n c n' c' : Nat), (binOp .eql 40 (.slice a n c) (.slice none n' c')).run Try.prog w = .ok (.bool a.isNone) w := fun w a n c n' c' => Lib.run_eql_slice_nil w _ _ a n c n' c' Try.underlying40
  obtain ⟨h1, ao, cap, e, h2, h3, h4⟩ := hr
  injection e with e1 e2 e3
  subst e1 e3
  cases ab with
  | none =>
    have h0 : bs = [] := by
      cases bs with
      | nil => rfl
      | cons x r => obtain ⟨b, off, e, _⟩ := h4 (by simp); cases e
    subst h0
    clear h4 h1
    go_enter Try.func30, Try.ntmps30
    go_wp2_with fail
    go_ret
    exact ⟨none, 0, rfl, PB.none _ _, Below.refl _ _⟩
  | some a =>
    have hcell : ∀ j u, (bs.map U)[j]? = some u → w.cell? (a.add j) = some u := by
      intro j u hj
      have : 0 < bs.length := by
        have := (List.getElem?_eq_some_iff.1 hj).1
        simp at this
        omega
      obtain ⟨b, off, e, hc⟩ := h4 (by omega)
      injection e with e
      subst e
      rw [addP]
      exact hc j u hj
    have HC : Hid _ := hcell
    obtain ⟨xs, hxs⟩ : ∃ xs, xs = bs.map U := ⟨_, rfl⟩
    have HX : Hid (xs = bs.map U) := hxs
    obtain ⟨N, hN⟩ : ∃ N, N = bs.length := ⟨_, rfl⟩
    have HN : Hid (N = bs.length) := hN
    have HXL : Hid (xs.length = N) := (show _ = _ by rw [hxs, hN, List.length_map])
    rw [← hxs] at HC
    unfold PB
    rw [← hxs, ← hN]
    rw [← hN] at hl
    clear h4 h1 hcell hxs hN h2 h3
    go_enter Try.func30, Try.ntmps30
    go_wp2_with (at_builtin; refine wpList_append_own _ rfl _ _ 40 rfl w.heap.size 5 i0 (.int .u8 0) 1 1 Try.underlying40 hi hi0 hi1 hi2 rfl (by decide) _ _ _ rfl (World.ownsRow_made w #[] 0 (Nat.le_refl _) (Nat.zero_le _) rfl) a N cb xs rfl ?qc1 ?qc2 ?qc3 ?qc4 ?qc5 ?qc6 ?_)
    case qc1 => first | (rw [HXL.out]; done) | (rw [HXL.out, Nat.mul_one])
    case qc2 =>
      intro j u hj
      have h := HC.out j u hj
      rw [boxrP.cell (World.block_lt_of_cell? w _ h)]
      exact h
    case qc3 => rw [HX.out]; exact U_oneP
    case qc4 => unfold maxLen; omega
    case qc5 => omega
    all_goals try (case qc6 => simp)
    · intro v' w1 hown hg hnil
      have HB : Hid (Below w.heap.size w w1) := boxrP.grown hg (by simp) (fun k hk => by injection hk with hk; subst hk; exact Nat.le_refl _)
      have hown' : w1.ownsRow w.heap.size 5 1 v' N xs := by simpa using hown
      have HO : Hid (w1.ownsRow w.heap.size 5 1 v' N xs) := hown'
      have HR : Hid (∃ ar cr, v' = .slice ar N cr ∧ (∀ a, ar = some a → w.heap.size ≤ a.block) ∧ (ar = none → cr = 0)) := (show ∃ ar cr, v' = .slice ar N cr ∧ (∀ a, ar = some a → w.heap.size ≤ a.block) ∧ (ar = none → cr = 0) by
        rcases hown'.2 with ⟨rfl, h0⟩ | ⟨g, cap, cur, rfl, hb, _⟩
        · exact ⟨none, 0, by rw [h0], (fun a h => by cases h), fun _ => rfl⟩
        · exact ⟨_, cap, rfl, (fun a h => by injection h with h; subst h; exact hb), fun h => by cases h⟩)
      clear hown hg hnil hown'
      go_wp2
      go_ret
      obtain ⟨ar, cr, hv, hn⟩ := HR.out
      refine ⟨ar, cr, by rw [← hv]; rfl, ⟨?_, hn⟩, HB.out⟩
      rw [← hv]
      exact Reads.of_owns HO.out
end Go.Proofs.Ytobaeafhdgolmab
