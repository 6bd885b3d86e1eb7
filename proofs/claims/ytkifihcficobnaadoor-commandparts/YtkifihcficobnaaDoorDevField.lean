/- What the developers' field's function on one line's bytes does. -/
import Derived.Test.YtkifihcficobnaaDoorDevLines
import Derived.Lib.SliceRun
namespace Go.Proofs.YtkifihcficobnaaDoor
open Go.RowKit Go.Gs
set_option linter.unusedVariables false

def nums8 (x : List UInt8) : List Int := x.map fun c => (c.toNat : Int)
theorem nums8_bytes (x : List UInt8) : Lib.bytesOf (nums8 x) = x := by
  unfold Lib.bytesOf nums8
  rw [List.map_map]
  conv => rhs; rw [← List.map_id x]
  apply List.map_congr_left
  intro c _
  simp
theorem nums8_range (x : List UInt8) : ∀ n ∈ nums8 x, 0 ≤ n ∧ n < 256 := by
  intro n hn
  obtain ⟨c, _, rfl⟩ := List.mem_map.1 hn
  have := c.toNat_lt
  omega

theorem field_some (n : Int) (x p : List UInt8) (h1 : 1 ≤ n) (hp : (Lib.split x [32])[(n - 1).toNat]? = some p) : fieldOf n x = p := by
  unfold fieldOf
  rw [hp]
  rfl
theorem field_none (n : Int) (x : List UInt8) (h : (Lib.split x [32]).length < n) : fieldOf n x = [] := by
  unfold fieldOf
  rw [List.getElem?_eq_none (by omega)]
  rfl
theorem split_len (x : List UInt8) : (Lib.split x [32]).length = Lib.count x [32] + 1 := by
  have h := Lib.splitB_all ⟨#[32]⟩ (by decide) 0 _ ⟨x.toArray⟩ rfl
  have h2 := congrArg List.length (Lib.splitB_data ⟨#[32]⟩ 0 (Lib.countB ⟨x.toArray⟩ ⟨#[32]⟩) ⟨x.toArray⟩)
  rw [List.length_map, h] at h2
  exact h2.symm
theorem count_le (x : List UInt8) : Lib.count x [32] ≤ x.length := by
  have h := Lib.countB_le ⟨#[32]⟩ (by decide) _ ⟨x.toArray⟩ (Nat.le_refl _)
  simpa [ByteArray.size] using h

/-- bytes.Split at a blank: the pieces lie in the line's own row. -/
theorem split_blank (W : World) (b cap b2 : Nat) (x : List UInt8) (m : Int) (h1 : x.length ≤ cap) (h2 : cap ≤ maxLen) (hx : x.length ≤ 300000) (hH : Sort.Holds U W b 0 x.toArray) (hs : W.cell? ⟨b2, 0, none⟩ = some (.int .u8 32)) (hm : W.cell? ⟨1, 0, none⟩ = some (.int .i64 m)) :
    Calls Tryd.prog 96 #[.slice (some ⟨b, 0, none⟩) x.length cap, .slice (some ⟨b2, 0, none⟩) 1 1] W fun e w' =>
      e = .returned (.slice (some ⟨W.heap.size, 0, none⟩) (Lib.split x [32]).length (Lib.split x [32]).length) ∧ Below W.heap.size W w' ∧
        ∀ j p, (Lib.split x [32])[j]? = some p → ∃ v, w'.cell? ⟨W.heap.size, j, none⟩ = some v ∧ (convert 22 9 v).run Tryd.prog w' = .ok (.string ⟨p.toArray⟩) w' := by
  have hadd : ∀ (b o i : Nat), (⟨b, o, none⟩ : Addr).add i = ⟨b, o + i, none⟩ := fun b o i => by unfold Addr.add; split <;> simp_all
  have hc1 : ∀ i, i < x.length → W.cell? ((⟨b, 0, none⟩ : Addr).add i) = some (.int .u8 ((nums8 x).getD i 0)) := by
    intro i hi
    rw [hadd, (hH i (by simpa using hi)).1]
    simp [nums8, U, getElem!_pos, hi]
  have hc2 : ∀ i, i < 1 → W.cell? ((⟨b2, 0, none⟩ : Addr).add i) = some (.int .u8 (([32] : List Int).getD i 0)) := by
    intro i hi
    obtain rfl : i = 0 := by omega
    rw [hadd]
    exact hs
  have h := Tryd.bytes_Split ⟨b, 0, none⟩ ⟨b2, 0, none⟩ x.length cap 1 1 (nums8 x) [32] m W (by simp [nums8]) rfl (nums8_range x) (by decide) hc1 hc2 h1 (by omega) (by omega) (by unfold maxLen at h2; omega) (Nat.le_refl _) hm
  rw [nums8_bytes, show Lib.bytesOf [32] = [32] from rfl] at h
  refine h.mono ?_
  rintro e w' ⟨rfl, q, rfl⟩
  have hl := split_len x
  refine ⟨by rw [hl], below_drewN' ((Below.refl _ W).alloc (Nat.le_refl _) _) q, ?_⟩
  intro j p hj
  have hlen := Lib.splitV_length [32] 0 (Lib.count x [32]) ⟨b, 0, none⟩ cap x
  have hjl : j < (Lib.splitV [32] 0 (Lib.count x [32]) ⟨b, 0, none⟩ cap x).length := by
    rw [hlen]
    exact (List.getElem?_eq_some_iff.1 hj).1
  obtain ⟨v, hv⟩ : ∃ v, (Lib.splitV [32] 0 (Lib.count x [32]) ⟨b, 0, none⟩ cap x)[j]? = some v := ⟨_, List.getElem?_eq_getElem hjl⟩
  obtain ⟨a', off, len, cp, rfl, h3, h4, h5, h6⟩ := Lib.splitV_spec [32] 0 (by decide) (by decide) (Lib.count x [32]) ⟨b, 0, none⟩ cap x h1 j v hv
  have hp : p = (x.drop off).take len := by
    have : (Lib.split x [32])[j]? = some ((x.drop off).take len) := h5
    rw [hj] at this
    exact Option.some.inj this
  refine ⟨.slice (some a') len cp, ?_, ?_⟩
  · show (W.alloc _).cell? _ = _
    rw [cell_of_row _ _ _ _ _ _ (heap_alloc_new W _)]
    simpa using hv
  · have hpl : p.length = len := by rw [hp]; simp; omega
    have := run_convert_bytes_back (P := Tryd.prog) ((W.alloc (.cells (Lib.splitV [32] 0 (Lib.count x [32]) ⟨b, 0, none⟩ cap x).toArray 22)).drewN q) 22 9 5 a' cp p Tryd.underlying22 Tryd.underlying5 Tryd.underlying9 (fun i hi => by
      rw [h6 i (by omega), hadd]
      have hox : off + i < x.length := by omega
      have hcx := (hH (off + i) (by simpa using hox)).1
      show (W.alloc _).cell? _ = _
      rw [Lib.cell?_alloc_some _ (by simpa using hcx)]
      subst hp
      simp [U, hox])
    rw [hpl] at this
    exact this

set_option maxRecDepth 100000 in
set_option maxHeartbeats 2000000 in
theorem field_line (w : World) (blk : Option Nat) (bn : Nat) (n m : Int) (hn1 : 1 ≤ n) (hn2 : n ≤ 1000) (hbn : w.cell? ⟨bn, 0, none⟩ = some (.int .i64 n)) (hnb : some bn ≠ blk) (hm : w.cell? ⟨1, 0, none⟩ = some (.int .i64 m)) (hnm : some 1 ≠ blk) :
    FnLine 95 #[.pointer (some ⟨bn, 0, none⟩)] (fieldOf n) blk w := by
  intro W b cap x hgr hb1 hb2 hc1 hc2 hx hH
  have hn0 : W.cell? ⟨bn, 0, none⟩ = some (.int .i64 n) := grown_cell hgr hbn hnb
  have hm0 : W.cell? ⟨1, 0, none⟩ = some (.int .i64 m) := grown_cell hgr hm hnm
  have hmb : 1 < W.heap.size := World.block_lt_of_cell? W _ hm0
  have hbw : bn < W.heap.size := World.block_lt_of_cell? W _ hn0
  clear hgr hbn hm
  have hsp := split_blank (W.alloc (.cells #[.int .u8 32] 5)) b cap W.heap.size x m hc1 hc2 hx
    (fun j hj => ⟨Lib.cell?_alloc_some _ (hH j hj).1, by rw [World.frozen?_alloc_old _ _ _ (by show b ≠ W.heap.size; omega)]; exact (hH j hj).2⟩) (by simp) (Lib.cell?_alloc_some _ hm0)
  have hPl := split_len x
  have hPc := count_le x
  have HF1 := field_some n x
  have HF2 := field_none n x
  generalize hP : Lib.split x [32] = P at *
  clear hH hP
  show Calls Tryd.prog 95 #[.slice (some ⟨b, 0, none⟩) x.length cap, .pointer (some ⟨bn, 0, none⟩)] W _
  obtain ⟨N, hN⟩ : ∃ N, N = P.length := ⟨_, rfl⟩
  have hN4 : N ≤ 300001 := by omega
  have hN1 : 1 ≤ N := by omega
  rw [← hN] at hsp HF2
  by_cases hnN : n ≤ N
  · obtain ⟨p, hp⟩ : ∃ p, P[(n - 1).toNat]? = some p := ⟨_, List.getElem?_eq_getElem (by omega)⟩
    have HE : Hid _ := HF1 p hn1 hp
    have Hp : Hid _ := hp
    clear HF1 HF2 hp hPl hPc hN
    go_enter Tryd.func95, Tryd.ntmps95
    go_wp2_with fail
    refine hsp.mono ?_
    rintro e w1 ⟨rfl, hbel, hpc⟩
    obtain ⟨v, hv, hcv⟩ := hpc _ _ Hp.out
    have hn1' : w1.cell? ⟨bn, 0, none⟩ = some (.int .i64 n) := (hbel.cell (by show bn < _; simp; omega)).trans (Lib.cell?_alloc_some _ hn0)
    have HB : Hid (Below b W w1) := (((Below.refl _ W).alloc (Nat.le_refl _) _).trans (hbel.mono (by simp))).mono (by omega)
    have hidx : ((n - 1).toNat : Int) = n - 1 := by omega
    obtain ⟨i, hi⟩ : ∃ i : Nat, i = (n - 1).toNat := ⟨_, rfl⟩
    have hni : n = (i : Int) + 1 := by omega
    rw [← hi] at hv
    have HC : Hid _ := hcv
    clear hsp hpc hbel hcv hidx hi hn0 hm0
    subst hni
    have hv' : w1.cell? ⟨W.heap.size + 1, i, none⟩ = some v := by simpa using hv
    clear hv
    go_wp2_with fail
    go_ret
    exact ⟨_, rfl, by rw [HE.out]; exact HC.out, HB.out⟩
  · have HE : Hid _ := HF2 (by omega)
    clear HF1 HF2 hPl hPc hN
    go_enter Tryd.func95, Tryd.ntmps95
    go_wp2_with fail
    refine hsp.mono ?_
    rintro e w1 ⟨rfl, hbel, hpc⟩
    have hn1' : w1.cell? ⟨bn, 0, none⟩ = some (.int .i64 n) := (hbel.cell (by show bn < _; simp; omega)).trans (Lib.cell?_alloc_some _ hn0)
    have HB : Hid (Below b W w1) := (((Below.refl _ W).alloc (Nat.le_refl _) _).trans (hbel.mono (by simp))).mono (by omega)
    clear hsp hpc hbel hn0 hm0
    go_wp2_with fail
    go_ret
    refine ⟨_, rfl, ?_, HB.out⟩
    rw [HE.out]
    exact run_convert_bytes_nil (P := Tryd.prog) _ 22 5 Tryd.underlying22 Tryd.underlying5 _ _ 9 Tryd.underlying9
end Go.Proofs.YtkifihcficobnaaDoor
