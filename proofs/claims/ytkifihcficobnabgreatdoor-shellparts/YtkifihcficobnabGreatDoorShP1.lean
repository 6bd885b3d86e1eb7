/- slices.Contains at strings; the closure of ShellParts; slices.IndexFunc at files by it. -/
import Derived.Test.YtkifihcficobnabGreatDoorDevShell11
namespace Go.Proofs.YtkifihcficobnabGreatDoor
open Go.RowKit Go.Gs
set_option linter.unusedVariables false

def amongB (fr : List (List UInt8)) (n : List UInt8) : Bool := fr.any (fun s => decide (s = n))
theorem among_at {fr : List (List UInt8)} {n s : List UInt8} {k : Nat} (h : fr[k]? = some s) (e : n = s) : amongB fr n = true := List.any_eq_true.2 ⟨s, List.mem_of_getElem? h, decide_eq_true e.symm⟩
theorem among_none {fr : List (List UInt8)} {n : List UInt8} (h : ∀ s ∈ fr, n ≠ s) : amongB fr n = false := by
  unfold amongB
  rw [List.any_eq_false]
  intro s hs e
  exact h s hs (of_decide_eq_true e).symm
theorem among_mem {fr : List (List UInt8)} {s : List UInt8} (h : s ∈ fr) : amongB fr s = true := List.any_eq_true.2 ⟨s, h, decide_eq_true rfl⟩

set_option maxRecDepth 100000 in
set_option maxHeartbeats 4000000 in
theorem sindex_is (af : Option Addr) (cf : Nat) (fr : List (List UInt8)) (n : List UInt8) (w : World) (hf : Reads w (.slice af fr.length cf) fr.length (fr.map S)) :
    Calls Tryz.prog 69 #[.slice af fr.length cf, .string ⟨n.toArray⟩] w fun e w' => ∃ i : Int, e = .returned (.int .i64 i) ∧ (amongB fr n = true ↔ 0 ≤ i) ∧ Below w.heap.size w w' := by
  have hle := reads_le' hf
  have HF : Hid (Reads w (.slice af fr.length cf) fr.length (fr.map S)) := hf
  obtain ⟨M, hM⟩ : ∃ M, M = fr.length := ⟨_, rfl⟩
  have HM : Hid (M = fr.length) := hM
  obtain ⟨nx, hnx⟩ : ∃ nx : ByteArray, nx = ⟨n.toArray⟩ := ⟨_, rfl⟩
  have HNX : Hid (nx = ⟨n.toArray⟩) := hnx
  rw [← hM] at HF hle
  rw [← hM, ← hnx]
  clear hf hM hnx
  go_enter Tryz.func69, Tryz.ntmps69
  go_wp2_with fail
  go_loopw [8] (fun i wr => ∃ k : Nat, k ≤ M ∧ i = .int .i64 k ∧ Hid (Below w.heap.size w wr) ∧ Hid (∀ s ∈ fr.take k, n ≠ s)) (fun i _ => M - (intOf i).toNat)
  case atStart => exact ⟨0, Nat.zero_le _, rfl, Below.refl _ _, (show ∀ s ∈ fr.take 0, n ≠ s by simp)⟩
  case round =>
    obtain ⟨k, hk, rfl, hbel, hno⟩ := hrel
    by_cases hlt : k < M
    · obtain ⟨s, hs⟩ : ∃ s, fr[k]? = some s := ⟨_, List.getElem?_eq_getElem (by have := HM.out; omega)⟩
      have HS : Hid (fr[k]? = some s) := hs
      obtain ⟨b, off, rfl, hc⟩ := (Reads.below HF.out hbel.out).at hs
      have hse := str_eq2 n s
      rw [← HNX.out] at hse
      generalize (⟨s.toArray⟩ : ByteArray) = sx at *
      clear hs
      by_cases hns : n = s
      · have hse' : (nx.toList == sx.toList) = true := by rw [hse]; exact decide_eq_true hns
        have HW : Hid (amongB fr n = true) := among_at HS.out hns
        clear hno hse hns
        go_wp2_with fail
        go_ret
        exact ⟨k, rfl, ⟨fun _ => by omega, fun _ => HW.out⟩, hbel.out⟩
      · have hse' : (nx.toList == sx.toList) = false := by rw [hse]; exact decide_eq_false hns
        have HNo : Hid (∀ y ∈ fr.take (k + 1), n ≠ y) := (show ∀ y ∈ fr.take (k + 1), n ≠ y from by
          intro y hy
          rw [List.take_add_one, HS.out] at hy
          simp only [Option.toList_some, List.mem_append, List.mem_singleton] at hy
          rcases hy with hy | rfl
          · exact hno.out y hy
          · exact hns)
        clear hno hse hns
        go_wp2_with fail
        go_roundw
        case rel => exact ⟨k + 1, by omega, by go_num, hbel, HNo⟩
        case measure => simp [intOf]; omega
    · have HW : Hid (amongB fr n = false) := among_none (by
        have e := hno.out
        rw [List.take_of_length_le (by have := HM.out; omega)] at e
        exact e)
      clear hno
      go_wp2_with fail
      go_ret
      exact ⟨-1, rfl, ⟨fun h => (by rw [HW.out] at h; cases h), fun h => absurd h (by decide)⟩, hbel.out⟩

set_option maxRecDepth 100000 in
set_option maxHeartbeats 2000000 in
theorem scontains_is (af : Option Addr) (cf : Nat) (fr : List (List UInt8)) (n : List UInt8) (w : World) (hf : Reads w (.slice af fr.length cf) fr.length (fr.map S)) :
    Calls Tryz.prog 31 #[.slice af fr.length cf, .string ⟨n.toArray⟩] w fun e w' => e = .returned (.bool (amongB fr n)) ∧ Below w.heap.size w w' := by
  have HI : Hid _ := sindex_is af cf fr n w hf
  generalize amongB fr n = d at *
  generalize fr.length = M at *
  generalize (⟨n.toArray⟩ : ByteArray) = nx at *
  clear hf
  go_enter Tryz.func31, Tryz.ntmps31
  go_wp2_with fail
  refine Calls.mono HI.out ?_
  rintro e w1 ⟨i, rfl, hi, hb1⟩
  have HB : Hid (Below w.heap.size w w1) := hb1
  have HE : Hid (d = decide (0 ≤ i)) := (show _ = _ by cases d <;> simp_all)
  clear hb1 HI hi
  go_wp2_with fail
  go_ret
  exact ⟨by rw [HE.out]; rfl, HB.out⟩

set_option maxRecDepth 100000 in
set_option maxHeartbeats 2000000 in
theorem shp1_is (f : List UInt8) (ab : Option Addr) (nb cb bx : Nat) (af : Option Addr) (cf : Nat) (fr : List (List UInt8)) (w : World) (hb : w.cell? ⟨bx, 0, none⟩ = some (.slice af fr.length cf)) (hf : Reads w (.slice af fr.length cf) fr.length (fr.map S)) :
    Calls Tryz.prog 30 #[.agg #[.string ⟨f.toArray⟩, .slice ab nb cb], .pointer (some ⟨bx, 0, none⟩)] w fun e w' => e = .returned (.bool (!amongB fr f)) ∧ Below w.heap.size w w' := by
  have hbx : Below w.heap.size w (w.alloc (.cells #[.string ⟨f.toArray⟩, .slice ab nb cb] 45)) := boxr_of
  have HC : Hid _ := scontains_is af cf fr f _ (hf.below hbx)
  have hb2 := hbx.cell (World.block_lt_of_cell? w _ hb)
  rw [hb] at hb2
  have HBX : Hid _ := hbx
  generalize amongB fr f = d at *
  generalize fr.length = M at *
  generalize (⟨f.toArray⟩ : ByteArray) = fx at *
  clear hf hbx
  go_enter Tryz.func30, Tryz.ntmps30
  go_wp2_with fail
  refine Calls.mono HC.out ?_
  rintro e w1 ⟨rfl, hb1⟩
  have HB : Hid (Below w.heap.size w w1) := HBX.out.trans (hb1.mono HBX.out.size)
  clear hb1 HC HBX hb2
  go_wp2_with fail
  go_ret
  exact ⟨rfl, HB.out⟩

set_option maxRecDepth 100000 in
set_option maxHeartbeats 4000000 in
theorem findexF_is (ao : Option Addr) (cap : Nat) (fs : List SFile) (bx : Nat) (af : Option Addr) (cf : Nat) (fr : List (List UInt8)) (w : World) (hfs : RFiles w (.slice ao fs.length cap) fs) (hb : w.cell? ⟨bx, 0, none⟩ = some (.slice af fr.length cf)) (hf : Reads w (.slice af fr.length cf) fr.length (fr.map S)) :
    Calls Tryz.prog 68 #[.slice ao fs.length cap, .func (.func 30) #[] #[.pointer (some ⟨bx, 0, none⟩)]] w fun e w' =>
      ((e = .returned (.int .i64 (-1)) ∧ ∀ f ∈ fs, amongB fr f.name = true) ∨ (∃ k : Nat, k < fs.length ∧ e = .returned (.int .i64 k) ∧ (∀ f ∈ fs.take k, amongB fr f.name = true) ∧ ∃ g, fs[k]? = some g ∧ amongB fr g.name = false)) ∧ Below w.heap.size w w' := by
  have hle := rfiles_le hfs
  have HFS : Hid (RFiles w (.slice ao fs.length cap) fs) := hfs
  have HBX : Hid (w.cell? ⟨bx, 0, none⟩ = some (.slice af fr.length cf)) := hb
  have HFR : Hid (Reads w (.slice af fr.length cf) fr.length (fr.map S)) := hf
  obtain ⟨M, hM⟩ : ∃ M, M = fs.length := ⟨_, rfl⟩
  have HM : Hid (M = fs.length) := hM
  rw [← hM] at HFS hle ⊢
  clear hfs hb hf hM
  go_enter Tryz.func68, Tryz.ntmps68
  go_wp2_with fail
  go_loopw [8] (fun i wr => ∃ k : Nat, k ≤ M ∧ i = .int .i64 k ∧ Hid (Below w.heap.size w wr) ∧ Hid (∀ f ∈ fs.take k, amongB fr f.name = true)) (fun i _ => M - (intOf i).toNat)
  case atStart => exact ⟨0, Nat.zero_le _, rfl, Below.refl _ _, (show ∀ f ∈ fs.take 0, amongB fr f.name = true by simp)⟩
  case round =>
    obtain ⟨k, hk, rfl, hbel, hno⟩ := hrel
    by_cases hlt : k < M
    · obtain ⟨f, hfk⟩ : ∃ f, fs[k]? = some f := ⟨_, List.getElem?_eq_getElem (by have := HM.out; omega)⟩
      have HX : Hid (fs[k]? = some f) := hfk
      obtain ⟨b, off, ab, cb, rfl, hc0, hc1, hr⟩ := (RFiles.below HFS.out hbel.out).at hfk
      have HC : Hid _ := shp1_is f.name ab f.b.length cb bx af cf fr wr ((hbel.out.cell (World.block_lt_of_cell? w _ HBX.out)).trans HBX.out) (HFR.out.below hbel.out)
      obtain ⟨d, hdd⟩ : ∃ d, d = amongB fr f.name := ⟨_, rfl⟩
      have HD : Hid (d = amongB fr f.name) := hdd
      rw [← hdd] at HC
      generalize (⟨f.name.toArray⟩ : ByteArray) = fx at *
      generalize f.b.length = NB at *
      clear hfk hr hdd
      go_wp2_with fail
      refine Calls.mono HC.out ?_
      rintro e w3 ⟨rfl, hb3⟩
      have HB3 : Hid (Below w.heap.size w w3) := hbel.out.trans (hb3.mono hbel.out.size)
      clear hb3 HC hc0 hc1
      cases d with
      | false =>
        have HN : Hid _ := hno.out
        clear hno
        go_wp2_with fail
        go_ret
        exact ⟨.inr ⟨k, hlt, rfl, HN.out, f, HX.out, HD.out.symm⟩, HB3.out⟩
      | true =>
        have HNo : Hid (∀ y ∈ fs.take (k + 1), amongB fr y.name = true) := (show ∀ y ∈ fs.take (k + 1), amongB fr y.name = true from by
          intro y hy
          rw [List.take_add_one, HX.out] at hy
          simp only [Option.toList_some, List.mem_append, List.mem_singleton] at hy
          rcases hy with hy | rfl
          · exact hno.out y hy
          · exact HD.out.symm)
        clear hno
        go_wp2_with fail
        go_roundw
        case rel => exact ⟨k + 1, by omega, by go_num, HB3, HNo⟩
        case measure => simp [intOf]; omega
    · have HW : Hid (∀ f ∈ fs, amongB fr f.name = true) := (show ∀ f ∈ fs, amongB fr f.name = true by
        have e := hno.out
        rw [List.take_of_length_le (by have := HM.out; omega)] at e
        exact e)
      clear hno
      go_wp2_with fail
      go_ret
      exact ⟨.inl ⟨rfl, HW.out⟩, hbel.out⟩
end Go.Proofs.YtkifihcficobnabGreatDoor
