/- What the developers' each does with a function that makes bytes of a line's bytes. -/
import Derived.Test.YtkifihcficobnaaDoorDevOver3
import Derived.Laws.IdiomStrings
namespace Go.Proofs.YtkifihcficobnaaDoor
open Go.RowKit Go.Gs
set_option linter.unusedVariables false

/-- A function value that makes 'F' of the bytes that it is handed: they lie in a row of their own, which it may write. -/
def FnLine (g : Nat) (lb : Array Value) (F : List UInt8 → List UInt8) (blk : Option Nat) (w : World) : Prop :=
  ∀ (W : World) (b cap : Nat) (x : List UInt8), w.grownBy W blk → w.heap.size ≤ b → b < W.heap.size → x.length ≤ cap → cap ≤ maxLen → x.length ≤ 300000 → Sort.Holds U W b 0 x.toArray →
    Calls Tryd.prog g (#[.slice (some ⟨b, 0, none⟩) x.length cap] ++ lb) W fun e w' => ∃ r, e = .returned r ∧ (convert 22 9 r).run Tryd.prog w' = .ok (.string ⟨(F x).toArray⟩) w' ∧ Below b W w'

theorem grown_of {w W : World} {blk : Option Nat} (h : Below w.heap.size w W) : w.grownBy W blk := ⟨h.os, h.tape, h.output, h.size, fun k hk _ => h.block k hk⟩
theorem grown_trans {w w1 w2 : World} {blk : Option Nat} (h : w.grownBy w1 blk) (k : w1.grownBy w2 blk) : w.grownBy w2 blk :=
  ⟨k.os.trans h.os, k.tape.trans h.tape, k.output.trans h.output, Nat.le_trans h.size k.size, fun j hj hne => (k.block j (Nat.lt_of_lt_of_le hj h.size) hne).trans (h.block j hj hne)⟩
theorem grown_set {w : World} {g k : Nat} {u : Value} : w.grownBy (w.setCell ⟨g, k, none⟩ u) (some g) :=
  ⟨rfl, rfl, rfl, by simp, fun j hj hne => Below.heap_setCell w _ u j (fun e => hne (by rw [e]))⟩
theorem grown_below {w W : World} {g B : Nat} (h : w.grownBy W (some g)) (hB : B ≤ w.heap.size) (hg : B ≤ g) : Below B w W :=
  ⟨h.os, h.tape, h.output, h.size, fun k hk => h.block k (by omega) (fun e => by cases e; omega)⟩
theorem grown_cell {w W : World} {blk : Option Nat} {a : Addr} {u : Value} (h : w.grownBy W blk) (hc : w.cell? a = some u) (hne : some a.block ≠ blk) : W.cell? a = some u :=
  (World.cell?_of_block (h.block a.block (World.block_lt_of_cell? w _ hc) hne)).trans hc

/-- '[]byte(s)': where it lies. -/
theorem holds_conv (w : World) (s : ByteArray) (cap : Nat) (fr : Nat × Nat) (l : List UInt8) (hl : s.data.toList = l) (hfr : l.length ≤ fr.1) (hcap : l.length ≤ cap) : Sort.Holds U (w.alloc (.cells (bytesRow s cap) 5 fr)) w.heap.size 0 l.toArray := by
  subst hl
  intro j hj
  have hj' : j < s.data.size := by simpa using hj
  have hnew : (w.alloc (.cells (bytesRow s cap) 5 fr)).heap[w.heap.size]? = some (.cells (bytesRow s cap) 5 fr) := heap_alloc_new w _
  constructor
  · rw [cell_of_row _ _ _ _ _ _ hnew, Nat.zero_add]
    unfold bytesRow
    rw [Array.getElem?_append_left (by simpa using hj'), Array.getElem?_map, Array.getElem?_eq_getElem hj']
    show some (U s.data[j]) = some (U (s.data.toList.toArray)[j]!)
    rw [getElem!_pos _ j hj]
  · simp only [World.frozen?, hnew]
    have : s.data.size ≤ fr.1 := by simpa using hfr
    simp
    omega

theorem step_list (ls : List (List UInt8)) (F : List UInt8 → List UInt8) (k : Nat) (x : List UInt8) (hx : ls[k]? = some x) : (((ls.take k).map F ++ ls.drop k).map S).set k (S (F x)) = ((ls.take (k + 1)).map F ++ ls.drop (k + 1)).map S := by
  obtain ⟨hk, he⟩ := List.getElem?_eq_some_iff.1 hx
  have h1 : ls.drop k = x :: ls.drop (k + 1) := by rw [List.drop_eq_getElem_cons hk, he]
  have h2 : ls.take (k + 1) = ls.take k ++ [x] := by rw [List.take_add_one, hx]; rfl
  have h3 : ((ls.take k).map F).length = k := by simp; omega
  rw [h1, h2]
  simp only [List.map_append, List.map_cons, List.map_nil, List.append_assoc, List.cons_append, List.nil_append]
  rw [List.set_append_right _ _ (by simp; omega)]
  simp [Nat.min_eq_left (Nat.le_of_lt hk)]

theorem start_own {w : World} {B g cap L : Nat} {ls : List (List UInt8)} {F : List UInt8 → List UInt8} (hL : L = ls.length) (h : w.ownsRow B 9 1 (.slice (some ⟨g, 0, none⟩) ls.length cap) ls.length (ls.map S)) : w.ownsRow B 9 1 (.slice (some ⟨g, 0, none⟩) L cap) L (((ls.take 0).map F ++ ls.drop 0).map S) := by
  rw [hL]
  exact h

theorem line_call {w wr : World} {g gf : Nat} {lb : Array Value} {F : List UInt8 → List UInt8} {x : List UInt8} {sx : ByteArray} (hF : FnLine gf lb F (some g) w) (hgr : w.grownBy wr (some g)) (hsx : sx = ⟨x.toArray⟩) (hx : x.length ≤ 300000) :
    Calls Tryd.prog gf (#[.slice (some ⟨wr.heap.size, 0, none⟩) sx.size (grownCap wr sx.size 0 5)] ++ lb) (wr.alloc (.cells (bytesRow sx (grownCap wr sx.size 0 5)) 5 ((bytesRow sx (grownCap wr sx.size 0 5)).size, (bytesRow sx (grownCap wr sx.size 0 5)).size + 1))).drew
      fun e w' => ∃ r, e = .returned r ∧ (convert 22 9 r).run Tryd.prog w' = .ok (.string ⟨(F x).toArray⟩) w' ∧ Below wr.heap.size wr w' := by
  have hs : sx.size = x.length := by subst hsx; simp [ByteArray.size]
  have hd : sx.data.toList = x := by subst hsx; rfl
  have hc1 : x.length ≤ grownCap wr sx.size 0 5 := by rw [← hs]; exact grownCap_ge _ _ _ _
  have hc2 : grownCap wr sx.size 0 5 ≤ maxLen := grownCap_le_maxLen _ _ _ _ (by rw [hs]; unfold maxLen; omega)
  have hrow : x.length ≤ (bytesRow sx (grownCap wr sx.size 0 5)).size := by
    unfold bytesRow
    have : sx.data.size = x.length := hs
    simp
    omega
  have hB : Below wr.heap.size wr (wr.alloc (.cells (bytesRow sx (grownCap wr sx.size 0 5)) 5 ((bytesRow sx (grownCap wr sx.size 0 5)).size, (bytesRow sx (grownCap wr sx.size 0 5)).size + 1))).drew :=
    ((Below.refl _ wr).alloc (Nat.le_refl _) _).drew
  have h := hF (wr.alloc (.cells (bytesRow sx (grownCap wr sx.size 0 5)) 5 ((bytesRow sx (grownCap wr sx.size 0 5)).size, (bytesRow sx (grownCap wr sx.size 0 5)).size + 1))).drew wr.heap.size (grownCap wr sx.size 0 5) x
    (grown_trans hgr (grown_of hB)) hgr.size (by simp) hc1 hc2 hx (holds_conv wr sx _ _ x hd hrow hc1)
  rw [← hs] at h
  refine h.mono ?_
  rintro e w' ⟨r, rfl, h1, h2⟩
  exact ⟨r, rfl, h1, hB.trans h2⟩

theorem after_line {w wr w1 : World} {B g cap L k : Nat} {ls : List (List UInt8)} {F : List UInt8 → List UInt8} {x : List UInt8} (hown : wr.ownsRow B 9 1 (.slice (some ⟨g, 0, none⟩) L cap) L (((ls.take k).map F ++ ls.drop k).map S)) (hgr : w.grownBy wr (some g)) (hb : Below wr.heap.size wr w1) (hx : ls[k]? = some x) :
    (w1.setCell ⟨g, k, none⟩ (.string ⟨(F x).toArray⟩)).ownsRow B 9 1 (.slice (some ⟨g, 0, none⟩) L cap) L (((ls.take (k + 1)).map F ++ ls.drop (k + 1)).map S) ∧ w.grownBy (w1.setCell ⟨g, k, none⟩ (.string ⟨(F x).toArray⟩)) (some g) := by
  have h1 := ((owns_below hown hb).stored k (S (F x))).1
  rw [step_list ls F k x hx] at h1
  exact ⟨h1, grown_trans (grown_trans hgr (grown_of hb)) grown_set⟩

theorem end_each {wr : World} {B g cap L k : Nat} {ls : List (List UInt8)} {F : List UInt8 → List UInt8} (hk : k = L) (hL : L = ls.length) (hown : wr.ownsRow B 9 1 (.slice (some ⟨g, 0, none⟩) L cap) L (((ls.take k).map F ++ ls.drop k).map S)) :
    Reads wr (.slice (some ⟨g, 0, none⟩) L cap) (ls.map F).length ((ls.map F).map S) := by
  have h := Reads.of_owns hown
  rw [hk, hL, List.take_length, List.drop_length, List.append_nil] at h
  rw [hL, List.length_map]
  exact h

set_option maxRecDepth 100000 in
set_option maxHeartbeats 4000000 in
theorem each_some (g cap gf : Nat) (lb : Array Value) (F : List UInt8 → List UInt8) (eg : ∀ args w, (callFunc gf args).run Tryd.prog w = .ok (.enter gf args) w) (ls : List (List UInt8)) (w : World) (B : Nat) (hB : B ≤ w.heap.size) (hown : w.ownsRow B 9 1 (.slice (some ⟨g, 0, none⟩) ls.length cap) ls.length (ls.map S)) (hl : ls.length ≤ 300000) (hsz : ∀ s ∈ ls, s.length ≤ 300000) (hF : FnLine gf lb F (some g) w) :
    Calls Tryd.prog 68 #[.slice (some ⟨g, 0, none⟩) ls.length cap, .func (.func gf) #[] lb] w fun e w' => ∃ r, e = .returned r ∧ Reads w' r (ls.map F).length ((ls.map F).map S) ∧ Below B w w' := by
  have hg := hown.lt g rfl
  have hcv := fun (W : World) (s : ByteArray) => run_bytes_of_string (P := Tryd.prog) W 9 22 5 s Tryd.underlying9 Tryd.underlying22 Tryd.underlying5
  have hcap : ls.length ≤ cap ∧ cap ≤ maxLen := by
    rcases hown.2 with ⟨e0, _⟩ | ⟨g', cap', cur, e0, _, _, h1, h2, _⟩
    · cases e0
    · cases e0
      exact ⟨h1, h2⟩
  obtain ⟨L, hL⟩ : ∃ L, L = ls.length := ⟨_, rfl⟩
  have HL : Hid (L = ls.length) := hL
  have Ho : Hid _ := hown
  have HF : Hid _ := hF
  have hL4 : L ≤ 300000 := by omega
  rw [← hL]
  clear hF hown
  rw [← hL] at hcap
  clear hL hl
  have hcm' : cap ≤ 9223372036854775807 := by simpa [maxLen] using hcap.2
  have hcap1 := hcap.1
  go_enter Tryd.func68, Tryd.ntmps68
  go_wp2_with fail
  go_loopw [9] (fun i wr => ∃ k : Nat, k ≤ L ∧ i = .int .i64 k ∧ Hid (wr.ownsRow B 9 1 (.slice (some ⟨g, 0, none⟩) L cap) L (((ls.take k).map F ++ ls.drop k).map S)) ∧ Hid (w.grownBy wr (some g)))
    (fun i _ => L - (intOf i).toNat)
  case atStart => exact ⟨0, Nat.zero_le _, rfl, start_own HL.out Ho.out, grown_of (Below.refl _ _)⟩
  case round =>
    obtain ⟨k, hk, rfl, hown, hgr⟩ := hrel
    by_cases hlt : k < L
    · obtain ⟨x, hx⟩ : ∃ x, ls[k]? = some x := ⟨_, List.getElem?_eq_getElem (by have := HL.out; omega)⟩
      have hxl : x.length ≤ 300000 := hsz x (List.mem_of_getElem? hx)
      have hcell0 : wr.cell? ⟨g, k, none⟩ = some (.string ⟨x.toArray⟩) := by
        rw [hown.out.cellAt k (by omega), List.getElem?_map, List.getElem?_append_right (by simp; omega)]
        simp only [List.length_map, List.length_take]
        rw [Nat.min_eq_left (by have := HL.out; omega), Nat.sub_self, List.getElem?_drop, Nat.add_zero, hx]
        rfl
      obtain ⟨sx, hsx, hcell⟩ : ∃ sx : ByteArray, Hid (sx = ⟨x.toArray⟩) ∧ wr.cell? ⟨g, k, none⟩ = some (.string sx) := ⟨_, rfl, hcell0⟩
      have Hx : Hid _ := hx
      clear hcell0 hx hcv
      have hcv := run_bytes_of_string (P := Tryd.prog) wr 9 22 5 sx Tryd.underlying9 Tryd.underlying22 Tryd.underlying5
      go_wp2_with fail
      refine (line_call HF.out hgr.out hsx.out hxl).mono ?_
      rintro e w1 ⟨r, rfl, hcb, hb1⟩
      have hcell1 : w1.cell? ⟨g, k, none⟩ = some (.string sx) := (hb1.cell (World.block_lt_of_cell? wr _ hcell)).trans hcell
      have hfro1 : w1.frozen? ⟨g, k, none⟩ = false := (owns_below hown.out hb1).frozenAt k
      have HA : Hid _ := after_line (w := w) hown.out hgr.out hb1 Hx.out
      clear hcv hcell hown hgr hb1
      go_wp2_with fail
      go_roundw
      case rel => exact ⟨k + 1, by omega, by go_num, HA.out.1, HA.out.2⟩
      case measure => simp [intOf]; omega
    · have hkL : k = L := by omega
      have HR : Hid _ := end_each hkL HL.out hown.out
      have HB : Hid _ := grown_below hgr.out hB hg.1
      clear hown hgr
      go_wp2_with fail
      go_ret
      exact ⟨_, rfl, HR.out, HB.out⟩

theorem each_own (v : Value) (gf : Nat) (lb : Array Value) (F : List UInt8 → List UInt8) (eg : ∀ args w, (callFunc gf args).run Tryd.prog w = .ok (.enter gf args) w) (ls : List (List UInt8)) (w : World) (B : Nat) (hB : B ≤ w.heap.size) (hown : w.ownsRow B 9 1 v ls.length (ls.map S)) (hl : ls.length ≤ 300000) (hsz : ∀ s ∈ ls, s.length ≤ 300000) (hF : ∀ g, v.ownBlock = some g → FnLine gf lb F (some g) w) :
    Calls Tryd.prog 68 #[v, .func (.func gf) #[] lb] w fun e w' => ∃ r, e = .returned r ∧ Reads w' r (ls.map F).length ((ls.map F).map S) ∧ Below B w w' := by
  rcases own_cases hown with ⟨rfl, rfl⟩ | ⟨g, cap, rfl, hBg, hgw, hcap, hcm, hH⟩
  · go_enter Tryd.func68, Tryd.ntmps68
    go_wp2_with fail
    go_loopw [9] (fun i wr => i = .int .i64 0 ∧ wr = w) (fun _ _ => 0)
    case atStart => exact ⟨rfl, rfl⟩
    case round =>
      obtain ⟨rfl, rfl⟩ := hrel
      go_wp2_with fail
      go_ret
      exact ⟨_, rfl, ⟨rfl, none, 0, rfl, Nat.le_refl _, by simp, fun h => absurd rfl h⟩, Below.refl _ _⟩
  · exact each_some g cap gf lb F eg ls w B hB hown hl hsz (hF g rfl)
end Go.Proofs.YtkifihcficobnaaDoor
