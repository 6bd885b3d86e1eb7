/- The walk of the reference's SplitOf. -/
import Derived.Test.YtkifihcficobnaaDoorRefSplit
namespace Go.Proofs.YtkifihcficobnaaDoor
open Go.RowKit Go.Gs
open Go.Lib (wpList_append_own_string)
set_option linter.unusedVariables false

theorem wrap_mid (n : Int) (h : 0 ≤ n ∧ n ≤ 1000000000) : IntKind.i64.wrap n = n := by rw [IntKind.wrap_i64]; omega

theorem src_cell {w : World} {B g n cap : Nat} {ls : List (List UInt8)} (h : ReadsB B w (.slice (some ⟨g, 0, none⟩) n cap) n (ls.map S)) (i : Nat) (hi : i < ls.length) : w.cell? ⟨g, i, none⟩ = some (.string ⟨ls[i].toArray⟩) := by
  have := reads_cells0 h.1 i (S ls[i]) (by simp [hi])
  rw [this]
  rfl

theorem World.grownBy_refl (w : World) (row : Option Nat) : w.grownBy w row := ⟨rfl, rfl, rfl, Nat.le_refl _, fun _ _ _ => rfl⟩

theorem srel_cells {w wr w1 : World} {bs : List UInt8} {p G g cap i k B : Nat} {vs : List Value} {vk : Value} (h : SRel w bs p G g cap i k wr B vs vk) (hk : k < p) (hg : wr.grownBy w1 vk.ownBlock) :
    w1.cell? ⟨G, k, none⟩ = some vk ∧ w1.frozen? ⟨G, k, none⟩ = false := by
  have hGne : some G ≠ vk.ownBlock := fun e => by have := (h.row.lt G e.symm).1; have := h.gB; omega
  have ho1 : w1.ownsRow w.heap.size 22 1 (.slice (some ⟨G, 0, none⟩) p p) p vs := h.own.kept hg (Or.inr hGne)
  exact ⟨(ho1.cellAt k (by omega)).trans h.now, ho1.frozenAt k⟩

set_option maxRecDepth 100000 in
set_option maxHeartbeats 1000000 in
theorem splitOf (v : Value) (bs : List UInt8) (p : Nat) (w : World) (hr : Reads w v bs.length (bs.map U)) (hsh : w.ShapedOpen Tryd.prog) (hle : bs.length ≤ 4000) (hp1 : 1 ≤ p) (hp5 : p ≤ 5) :
    Calls Tryd.prog 16 #[v, .int .i64 (p : Int)] w fun e w' => ∃ G, e = .returned (.slice (some ⟨G, 0, none⟩) p p) ∧ Grid w' G 0 ((List.range p).map (part bs p)) ∧ Below w.heap.size w w' := by
  obtain ⟨i0, hi, hz0, hz1, hz2⟩ := info_parts infoBs
  obtain ⟨i1, hi1, hy0, hy1, hy2⟩ := info_parts infoU8
  have hb2 : i0.bytes * p ≤ 281474976710656 := by rw [hz2]; omega
  have hb3 : p ≤ maxLen := by unfold maxLen; omega
  have hn4 : (lines bs).length ≤ 4000 := Nat.le_trans (lines_length bs) hle
  have Hend : Hid ((ended (lines bs)).length ≤ 4001) := Nat.le_trans (ended_lines bs) (by omega)
  go_enter Tryd.func16, Tryd.ntmps16
  go_wp2_with (first | (go_at_call 14; refine (linesOf v bs _ hr hsh (by omega)).mono ?_; rintro e w1 ⟨g, cap, rfl, hl, hbel⟩) | (at_make; refine wpList_make_full _ rfl (.tmp 12) (.tmp 12) 29 rfl w.heap.size 22 i0 (.slice none 0 0) 1 Tryd.underlying29 hi hz0 hz1 .i64 .i64 _ _ p rfl rfl rfl rfl hb2 hb3 ?hsz ?_))
  case hsz => exact hbel.size
  intro w2 hout hgrow2
  have hrel0 : ∃ vs, SRel w bs p w1.heap.size g cap 0 0 w2 w2.heap.size vs (.slice none 0 0) := by
    have hb12 : Below w1.heap.size w1 w2 := ⟨hgrow2.os, hgrow2.tape, hgrow2.output, hgrow2.size, fun k hk => hgrow2.block k hk (by simp)⟩
    refine ⟨_, hout, (hout.lt _ rfl).2, Nat.le_refl _, fun j hj => absurd hj (Nat.not_lt_zero _), ?_, by simpa [ended] using World.ownsRow_nil _ _ _ _, fun j _ hj => ?_, ReadsB.of_reads (hl.below hb12), hbel.trans (hb12.mono hbel.size)⟩
    · rw [toList_madeCells_one, List.getElem?_replicate, if_pos (by omega)]
    · rw [toList_madeCells_one, List.getElem?_replicate, if_pos hj]
  generalize hG : w1.heap.size = G at *
  clear hG hout hgrow2 hl hbel hsh hr
  go_wp2_with fail
  go_loopw [7, 16] (fun s7 s16 wr => ∃ (i k B : Nat) (vs : List Value) (vk : Value), i ≤ (lines bs).length ∧ k < p ∧ s16 = .int .i64 i ∧ s7 = .int .i64 k ∧ k * (lines bs).length / p ≤ i ∧ i ≤ (k + 1) * (lines bs).length / p ∧ SRel w bs p G g cap i k wr B vs vk)
    (fun _ s16 _ => (lines bs).length - (intOf s16).toNat)
  case atStart =>
    obtain ⟨vs, h⟩ := hrel0
    exact ⟨0, 0, _, vs, _, Nat.zero_le _, by omega, rfl, rfl, by simp, Nat.zero_le _, h⟩
  case round =>
    obtain ⟨i, k, B, vs, vk, hin, hkp, rfl, rfl, hlo, hhi, hS⟩ := hrel
    by_cases hlt : i < (lines bs).length
    · obtain ⟨sx, Hsx, hcell⟩ : ∃ sx : ByteArray, Hid (sx = ⟨((lines bs)[i]).toArray⟩) ∧ wr.cell? ⟨g, i, none⟩ = some (.string sx) := ⟨⟨((lines bs)[i]).toArray⟩, rfl, src_cell hS.src i hlt⟩
      have hrel1 : ∃ (k B : Nat) (vs : List Value) (vk : Value), k < p ∧ (Value.int .i64 (k : Int)) = .int .i64 (k : Int) ∧ k * (lines bs).length / p ≤ i ∧ i ≤ (k + 1) * (lines bs).length / p ∧ SRel w bs p G g cap i k wr B vs vk := ⟨k, B, vs, vk, hkp, rfl, hlo, hhi, hS⟩
      clear hrel0
      go_wp2_with fail
      go_loopw [7] (fun s7 wx => wx = wr ∧ ∃ (k B : Nat) (vs : List Value) (vk : Value), k < p ∧ s7 = .int .i64 k ∧ k * (lines bs).length / p ≤ i ∧ i ≤ (k + 1) * (lines bs).length / p ∧ SRel w bs p G g cap i k wr B vs vk) (fun s7 _ => p - (intOf s7).toNat)
      case atStart => exact ⟨rfl, k, B, vs, vk, hkp, rfl, hlo, hhi, hS⟩
      case round =>
        clear hrel1 hS hlo hhi
        obtain ⟨rfl, k2, B2, vs2, vk2, hkp2, rfl, hlo2, hhi2, hS2⟩ := hrel
        obtain ⟨-, -, hm3, hm4, -, hq2, -, hq4⟩ := nums k2 (lines bs).length p hkp2 hp5 hn4
        have HN : Hid _ := And.intro hlo2 (And.intro hhi2 (And.intro hS2 (fun h : k2 + 1 < p => srel_next hS2 h)))
        have hk5 : k2 ≤ 4 := by omega
        have hlast : k2 + 1 = p → (k2 + 1) * (lines bs).length / p = (lines bs).length := fun e => by rw [e]; exact lo_full _ _ (by omega)
        have Hlast : Hid _ := hlast
        clear hlo2 hS2 hlast
        generalize hH : (k2 + 1) * (lines bs).length / p = hi' at *
        have HH : Hid _ := hH
        clear hH
        have hw4 : IntKind.i64.wrap ((k2 : Int) + 1) = (k2 : Int) + 1 := wrap_mid _ (by omega)
        have hw5 : IntKind.i64.wrap (((k2 : Int) + 1) * ((lines bs).length : Int)) = ((k2 : Int) + 1) * ((lines bs).length : Int) := wrap_mid _ ⟨hm3, by omega⟩
        have hp0 : ¬ p = 0 := by omega
        have hhb : hi' ≤ 20000 := by
          rw [← HH.out]
          have h1 : (k2 + 1) * (lines bs).length ≤ 5 * 4000 := Nat.mul_le_mul (by omega) hn4
          exact Nat.le_trans (Nat.div_le_self _ _) h1
        have hw3 : IntKind.i64.wrap (hi' : Int) = (hi' : Int) := wrap_mid _ (by omega)
        by_cases hge : hi' ≤ i
        · have hie : i = hi' := by omega
          have Hie : Hid _ := hie
          clear hie
          have Hk : Hid (k2 + 1 < p) := by
            show k2 + 1 < p
            rcases Nat.lt_or_ge (k2 + 1) p with h | h
            · exact h
            · have := Hlast.out (by omega); have := Hie.out; omega
          go_wp2_with fail
          go_roundw
          case rel =>
            have h1 := HN.out.2.2.2 Hk.out Hie.out
            refine ⟨(by first | exact rfl | trivial), k2 + 1, _, vs2, _, Hk.out, by go_num, ?_, ?_, h1⟩
            · rw [HH.out]; exact hge
            · have := HH.out
              have h2 : (k2 + 1) * (lines bs).length / p ≤ (k2 + 1 + 1) * (lines bs).length / p := Nat.div_le_div_right (Nat.mul_le_mul_right _ (by omega))
              have := Hie.out
              omega
          case measure => simp [intOf]; omega
        · have hge' : i < hi' := by omega
          have hS2 := HN.out.2.2.1
          obtain ⟨hcG, hfG⟩ := srel_cells hS2 hkp2 (World.grownBy_refl wr _)
          have Hcf : Hid _ := fun (w3 : World) (hg : wr.grownBy w3 vk2.ownBlock) => srel_cells hS2 hkp2 hg
          have hrow := hS2.row
          have Hst : Hid _ := fun (w3 : World) (v3 : Value) => srel_step (w1 := w3) (v' := v3) hS2 hkp2 hlt HN.out.1
          have hbW := hS2.bW
          have Hen : Hid ((ended (((lines bs).take i).drop (k2 * (lines bs).length / p))).length + (((lines bs)[i]).length + 1) ≤ 4001) := by
            show _ ≤ 4001
            have h1 := ended_next (lines bs) i (k2 * (lines bs).length / p) hlt HN.out.1
            have h2 := ended_length_sub (lines bs) (k2 * (lines bs).length / p) (i + 1)
            rw [h1] at h2
            simp only [List.length_append, List.length_cons, List.length_nil] at h2
            have := Hend.out
            omega
          have hsz : sx.size = ((lines bs)[i]).length := by rw [Hsx.out]; simp [ByteArray.size]
          have hlen : (ended (((lines bs).take i).drop (k2 * (lines bs).length / p))).length + (sx.size + 1) ≤ 4001 := by rw [hsz]; exact Hen.out
          have hcs : Lib.strCells (sx ++ ⟨#[10]⟩) = ((lines bs)[i] ++ [10]).map U := by
            rw [Hsx.out]
            unfold Lib.strCells
            rw [data_feed]
            rfl
          have hss : (sx ++ (⟨#[10]⟩ : ByteArray)).size = sx.size + 1 := by rw [ByteArray.size_append]; rfl
          have Hsz : Hid _ := hsz
          have Hcs : Hid _ := hcs
          have Hss : Hid _ := hss
          generalize hX : (ended (((lines bs).take i).drop (k2 * (lines bs).length / p))).length = m at *
          have HX : Hid _ := hX
          clear hX hsz hcs hss hge hS2
          have hlen' : m + (sx ++ (⟨#[10]⟩ : ByteArray)).size ≤ 4001 := by rw [Hss.out]; exact hlen
          go_wp2_with (at_builtin; refine wpList_append_own_string _ rfl (.tmp 37) (.tmp 39) 22 9 rfl B2 5 i1 Tryd.underlying22 Tryd.underlying9 hi1 hy0 hy1 hy2 _ _ _ rfl hrow (sx ++ ⟨#[10]⟩) rfl (by unfold maxLen; omega) (by omega) hbW ?_; intro v3 w3 hown3 hgrow3 _; obtain ⟨hc3, hf3⟩ := Hcf.out w3 hgrow3; obtain ⟨g3, c3, rfl⟩ := owns_shape hown3 (by rw [Hss.out]; omega))
          rw [Hss.out, Hcs.out] at hown3
          have R : Hid _ := Hst.out w3 (.slice (some ⟨g3, 0, none⟩) (m + (sx.size + 1)) c3) (by rw [← Hsz.out]; exact hown3) hgrow3
          have Hlo : Hid _ := HN.out.1
          clear hown3 hgrow3 hc3 hf3 hrow hcG hfG Hcf Hst hbW HN
          go_roundw
          case rel =>
            refine ⟨i + 1, k2, B2, _, _, by omega, hkp2, by go_num, rfl, ?_, ?_, R.out⟩
            · have := Hlo.out; omega
            · rw [HH.out]; omega
          case measure => simp [intOf]; omega
    · have hkn : i = (lines bs).length := by omega
      subst hkn
      have hlast : (lines bs).length = (k + 1) * (lines bs).length / p := by
        have : (k + 1) * (lines bs).length / p ≤ (lines bs).length := by
          have h1 : (k + 1) * (lines bs).length ≤ p * (lines bs).length := Nat.mul_le_mul_right _ (by omega)
          have h2 := Nat.div_le_div_right (c := p) h1
          rw [lo_full _ _ (by omega)] at h2
          exact h2
        omega
      have R : Hid _ := And.intro (srel_end hS hkp hlast) hS.bel
      clear hlast hS hlo hhi hrel0
      go_wp2_with fail
      go_ret
      exact ⟨G, rfl, R.out.1, R.out.2⟩
end Go.Proofs.YtkifihcficobnaaDoor
