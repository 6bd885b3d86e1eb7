/- What the reference's SplitOf does, of however many bytes a graph may have. -/
import Derived.Test.YtkifihcficobnabGreatDoorFnsE
import Derived.Test.YtkifihcficobnabGreatDoorParts
import Derived.Test.YtkifihcficobnabGreatDoorOfE
import Derived.Test.YtkifihcficobnabGreatDoorPlainE
import Derived.Deep.RegionWith
import Derived.Laws.BitsLemmas
import Derived.Deep.DeepFit
namespace Go.Proofs.YtkifihcficobnabGreatDoor
open Go.RowKit Go.Gs
open Go.Lib (wpList_append_own_string)
set_option linter.unusedVariables false

theorem data_feedG (J : List UInt8) : ((⟨J.toArray⟩ : ByteArray) ++ ⟨#[10]⟩).data.toList = J ++ [10] := by
  simp [ByteArray.data_append]
theorem lo_full (n p : Nat) (h : 0 < p) : p * n / p = n := Nat.mul_div_cancel_left n h

theorem part_empty (bs : List UInt8) (p k : Nat) (h : k < p) (hn : ¬ 0 < (lines bs).length) : partOf bs p k = [] := by
  have : lines bs = [] := List.eq_nil_of_length_eq_zero (by omega)
  simp [partOf, this, ended]

theorem reads_cells0 {w : World} {g n cap : Nat} {xs : List Value} (h : Reads w (.slice (some ⟨g, 0, none⟩) n cap) n xs) : ∀ j u, xs[j]? = some u → w.cell? ⟨g, j, none⟩ = some u := by
  intro j u hj
  obtain ⟨hl, _, _, e, _, _, h4⟩ := h
  simp only [Value.slice.injEq, true_and] at e
  obtain ⟨rfl, rfl⟩ := e
  have hjl : j < xs.length := (List.getElem?_eq_some_iff.1 hj).1
  obtain ⟨b', off', e, hcc⟩ := h4 (by omega)
  simp only [Option.some.injEq, Addr.mk.injEq, and_true] at e
  obtain ⟨rfl, rfl⟩ := e
  have := hcc j u hj
  rwa [Nat.zero_add] at this

/-- A slice that can be read and lies below block B. -/
def ReadsB (B : Nat) (w : World) (v : Value) (n : Nat) (xs : List Value) : Prop :=
  Reads w v n xs ∧ ∀ b off c, v = .slice (some ⟨b, off, none⟩) n c → n ≠ 0 → b < B

theorem ReadsB.mono {B B' : Nat} {w : World} {v : Value} {n : Nat} {xs : List Value} (h : ReadsB B w v n xs) (hB : B ≤ B') : ReadsB B' w v n xs :=
  ⟨h.1, fun b off c e hn => Nat.lt_of_lt_of_le (h.2 b off c e hn) hB⟩

theorem ReadsB.of_reads {w : World} {v : Value} {n : Nat} {xs : List Value} (h : Reads w v n xs) : ReadsB w.heap.size w v n xs := by
  refine ⟨h, fun b off c e hn => ?_⟩
  obtain ⟨hl, ao, cap, e', _, _, h4⟩ := h
  obtain ⟨b', off', rfl, hc⟩ := h4 hn
  rw [e] at e'
  simp only [Value.slice.injEq, Option.some.injEq, Addr.mk.injEq, and_true, true_and] at e'
  obtain ⟨⟨rfl, rfl⟩, rfl⟩ := e'
  have h0 : 0 < xs.length := by omega
  exact World.block_lt_of_cell? w _ (hc 0 xs[0] (by simp [h0]))

theorem ReadsB.grown {B : Nat} {w w' : World} {row : Option Nat} {v : Value} {n : Nat} {xs : List Value} (h : ReadsB B w v n xs) (hg : w.grownBy w' row) (hr : ∀ k, row = some k → B ≤ k) : ReadsB B w' v n xs := by
  refine ⟨?_, h.2⟩
  obtain ⟨⟨hl, ao, cap, rfl, h2, h3, h4⟩, hlow⟩ := h
  refine ⟨hl, ao, cap, rfl, h2, h3, fun hn => ?_⟩
  obtain ⟨b, off, rfl, hc⟩ := h4 hn
  have hb := hlow b off cap rfl hn
  refine ⟨b, off, rfl, fun j u hu => hg.cell (hc j u hu) ?_⟩
  intro e
  have := hr b e.symm
  omega

theorem ReadsB.setCell {B : Nat} {w : World} {v : Value} {n : Nat} {xs : List Value} (h : ReadsB B w v n xs) {a : Addr} {old : Value} (ha : w.cell? a = some old) (x : Value) (hne : old ∉ xs) : ReadsB B (w.setCell a x) v n xs :=
  ⟨h.1.setCell ha x hne, h.2⟩

structure SplR (w : World) (bs : List UInt8) (p G g cap i k : Nat) (wr : World) (B : Nat) (vs : List Value) (vk : Value) : Prop where
  own : wr.ownsRow w.heap.size 24 1 (.slice (some ⟨G, 0, none⟩) p p) p vs
  gB : G < B
  bW : B ≤ wr.heap.size
  done : ∀ j, j < k → ∃ u, vs[j]? = some u ∧ ReadsB B wr u (partOf bs p j).length ((partOf bs p j).map U) ∧ NewIn w.heap.size u
  now : vs[k]? = some vk
  row : wr.ownsRow B 5 1 vk (ended (((lines bs).take i).drop (k * (lines bs).length / p))).length ((ended (((lines bs).take i).drop (k * (lines bs).length / p))).map U)
  rest : ∀ j, k < j → j < p → vs[j]? = some (.slice none 0 0)
  src : ReadsB B wr (.slice (some ⟨g, 0, none⟩) (lines bs).length cap) (lines bs).length ((lines bs).map S)
  bel : Below w.heap.size w wr

theorem owns_slice {w : World} {base : Nat} {e : TypeId} {v : Value} {n : Nat} {xs : List Value} (h : w.ownsRow base e 1 v n xs) : ∃ ao cap, v = .slice ao n cap := by
  rcases h.2 with ⟨rfl, rfl⟩ | ⟨g, cap, cur, rfl, _⟩
  · exact ⟨_, _, rfl⟩
  · exact ⟨_, _, rfl⟩

theorem not_U (ao : Option Addr) (n cap : Nat) (l : List UInt8) : Value.slice ao n cap ∉ l.map U := by intro h; simp [U] at h
theorem not_S (ao : Option Addr) (n cap : Nat) (l : List (List UInt8)) : Value.slice ao n cap ∉ l.map S := by intro h; simp [S] at h

theorem ended_next (ls : List (List UInt8)) (i lo : Nat) (h : i < ls.length) (hlo : lo ≤ i) : ended ((ls.take (i + 1)).drop lo) = ended ((ls.take i).drop lo) ++ ls[i] ++ [10] := by
  rw [List.take_succ_eq_append_getElem h, List.drop_append_of_le_length (by simp; omega), ended_append]
  simp [ended]

theorem srel_step {w wr w1 : World} {bs : List UInt8} {p G g cap i k B : Nat} {vs : List Value} {vk v' : Value} (h : SplR w bs p G g cap i k wr B vs vk) (hk : k < p) (hi : i < (lines bs).length) (hlo : k * (lines bs).length / p ≤ i)
    (hown1 : w1.ownsRow B 5 1 v' ((ended (((lines bs).take i).drop (k * (lines bs).length / p))).length + (((lines bs)[i]).length + 1)) ((ended (((lines bs).take i).drop (k * (lines bs).length / p))).map U ++ ((lines bs)[i] ++ [10]).map U)) (hg : wr.grownBy w1 vk.ownBlock) :
    SplR w bs p G g cap (i + 1) k (w1.setCell ⟨G, k, none⟩ v') B (vs.set k v') v' := by
  have hvl : vs.length = p := by simpa using h.own.1
  have hrow : ∀ j, vk.ownBlock = some j → B ≤ j := fun j hj => (h.row.lt j hj).1
  have hGne : some G ≠ vk.ownBlock := fun e => by have := hrow G e.symm; have := h.gB; omega
  have ho1 : w1.ownsRow w.heap.size 24 1 (.slice (some ⟨G, 0, none⟩) p p) p vs := h.own.kept hg (Or.inr hGne)
  have hst := ho1.stored k v'
  have hc1 : w1.cell? ⟨G, k, none⟩ = some vk := (ho1.cellAt k (by omega)).trans h.now
  obtain ⟨ao, cp, hvk⟩ := owns_slice h.row
  rw [hvk] at hc1
  refine ⟨hst.1, h.gB, by have := hg.size; have := h.bW; simp; omega, ?_, by simp [hvl, hk], ?_, ?_, ?_, ?_⟩
  · intro j hj
    obtain ⟨u, h1, h2, h3⟩ := h.done j hj
    exact ⟨u, by rw [List.getElem?_set_ne (by omega)]; exact h1, (h2.grown hg hrow).setCell hc1 _ (not_U _ _ _ _), h3⟩
  · have := ownsRow_setCell_below hown1 (a := ⟨G, k, none⟩) h.gB v'
    have e := ended_next (lines bs) i (k * (lines bs).length / p) hi hlo
    rw [e]
    simpa [Nat.add_assoc] using this
  · intro j h1 h2
    rw [List.getElem?_set_ne (by omega)]
    exact h.rest j h1 h2
  · exact (h.src.grown hg hrow).setCell hc1 _ (not_S _ _ _ _)
  · exact (h.bel.grown hg h.bel.size (fun j hj => Nat.le_trans (Nat.le_trans (h.own.lt G rfl).1 (Nat.le_of_lt h.gB)) (hrow j hj))).setCell (h.own.lt G rfl).1 _

theorem srel_next {w wr : World} {bs : List UInt8} {p G g cap i k B : Nat} {vs : List Value} {vk : Value} (h : SplR w bs p G g cap i k wr B vs vk) (hk : k + 1 < p) (hi : i = (k + 1) * (lines bs).length / p) :
    SplR w bs p G g cap i (k + 1) wr wr.heap.size vs (.slice none 0 0) := by
  have hGs : G < wr.heap.size := Nat.lt_of_lt_of_le h.gB h.bW
  have hpk : ended (((lines bs).take i).drop (k * (lines bs).length / p)) = partOf bs p k := by rw [hi]; rfl
  refine ⟨h.own, hGs, Nat.le_refl _, ?_, h.rest (k + 1) (by omega) hk, ?_, fun j h1 h2 => h.rest j (by omega) h2, h.src.mono h.bW, h.bel⟩
  · intro j hj
    by_cases e : j = k
    · subst e
      refine ⟨vk, h.now, ?_⟩
      have := h.row
      rw [hpk] at this
      exact ⟨ReadsB.of_reads (Reads.of_owns this), (owns_new this).mono (Nat.le_trans (h.own.lt G rfl).1 (Nat.le_of_lt h.gB))⟩
    · obtain ⟨u, h1, h2, h3⟩ := h.done j (by omega)
      exact ⟨u, h1, h2.mono h.bW, h3⟩
  · have : ((lines bs).take i).drop ((k + 1) * (lines bs).length / p) = [] := by rw [hi]; simp
    rw [this]
    exact World.ownsRow_nil _ _ _ _

theorem srel_end {w wr : World} {bs : List UInt8} {p G g cap k B : Nat} {vs : List Value} {vk : Value} (h : SplR w bs p G g cap (lines bs).length k wr B vs vk) (hk : k < p) (hp5 : p ≤ 5) (hlast : (lines bs).length = (k + 1) * (lines bs).length / p) :
    RNew w.heap.size wr (.slice (some ⟨G, 0, none⟩) p p) ((List.range p).map (partOf bs p)) := by
  have hvl : vs.length = p := by simpa using h.own.1
  have hl : ((List.range p).map (partOf bs p)).length = p := by simp
  refine ⟨vs, ⟨by rw [hl]; exact hvl, _, _, by rw [hl], by rw [hl]; exact Nat.le_refl _, by unfold maxLen; omega, fun _ => ⟨G, 0, rfl, fun j u hu => ?_⟩⟩, fun j q hj => ?_⟩
  · have hjl : j < p := by have := (List.getElem?_eq_some_iff.1 hu).1; omega
    rw [Nat.zero_add]
    exact (h.own.cellAt j (by omega)).trans hu
  · rw [List.getElem?_map] at hj
    have hj' : j < p := by
      rcases Nat.lt_or_ge j p with h1 | h1
      · exact h1
      · rw [List.getElem?_eq_none (by simpa using h1)] at hj; cases hj
    rw [List.getElem?_range hj'] at hj
    simp only [Option.map_some, Option.some.injEq] at hj
    subst hj
    by_cases h1 : j < k
    · obtain ⟨u, hu, hr, hn⟩ := h.done j h1
      exact ⟨u, hu, hr.1, hn⟩
    · by_cases h2 : j = k
      · subst h2
        refine ⟨vk, h.now, ?_⟩
        have hr := Reads.of_owns h.row
        have e : ended (((lines bs).take (lines bs).length).drop (j * (lines bs).length / p)) = partOf bs p j := by
          unfold partOf
          rw [← hlast]
        rw [e] at hr
        exact ⟨hr, (owns_new h.row).mono (Nat.le_trans (h.own.lt G rfl).1 (Nat.le_of_lt h.gB))⟩
      · refine ⟨_, h.rest j (by omega) hj', ?_⟩
        have hz : partOf bs p j = [] := by
          apply part_empty bs p j hj'
          intro hn
          have h3 := lo_factsP (k + 1) (lines bs).length p (by omega) hn
          omega
        rw [hz]
        exact ⟨⟨rfl, none, 0, rfl, Nat.le_refl _, by simp, fun h => absurd rfl h⟩, none_new _ _ _⟩
theorem wrap_mid (n : Int) (h : 0 ≤ n ∧ n ≤ 1000000000) : IntKind.i64.wrap n = n := by rw [IntKind.wrap_i64]; omega

theorem src_cell {w : World} {B g n cap : Nat} {ls : List (List UInt8)} (h : ReadsB B w (.slice (some ⟨g, 0, none⟩) n cap) n (ls.map S)) (i : Nat) (hi : i < ls.length) : w.cell? ⟨g, i, none⟩ = some (.string ⟨ls[i].toArray⟩) := by
  have := reads_cells0 h.1 i (S ls[i]) (by simp [hi])
  rw [this]
  rfl

theorem World.grownBy_refl (w : World) (row : Option Nat) : w.grownBy w row := ⟨rfl, rfl, rfl, Nat.le_refl _, fun _ _ _ => rfl⟩

theorem srel_cells {w wr w1 : World} {bs : List UInt8} {p G g cap i k B : Nat} {vs : List Value} {vk : Value} (h : SplR w bs p G g cap i k wr B vs vk) (hk : k < p) (hg : wr.grownBy w1 vk.ownBlock) :
    w1.cell? ⟨G, k, none⟩ = some vk ∧ w1.frozen? ⟨G, k, none⟩ = false := by
  have hGne : some G ≠ vk.ownBlock := fun e => by have := (h.row.lt G e.symm).1; have := h.gB; omega
  have ho1 : w1.ownsRow w.heap.size 24 1 (.slice (some ⟨G, 0, none⟩) p p) p vs := h.own.kept hg (Or.inr hGne)
  exact ⟨(ho1.cellAt k (by omega)).trans h.now, ho1.frozenAt k⟩

set_option maxRecDepth 100000 in
set_option maxHeartbeats 8000000 in
theorem splitOf_ref (v : Value) (bs : List UInt8) (p : Nat) (w : World) (hr : Reads w v bs.length (bs.map U)) (hsh : w.ShapedOpen Tryz.prog) (hle : bs.length ≤ 250000) (hp1 : 1 ≤ p) (hp5 : p ≤ 5) :
    Calls Tryz.prog 114 #[v, .int .i64 (p : Int)] w fun e w' => ∃ r, e = .returned r ∧ RNew w.heap.size w' r ((List.range p).map (partOf bs p)) ∧ Below w.heap.size w w' := by
  obtain ⟨i0, hi, hz0, hz1, hz2⟩ := info_parts infoBsP
  obtain ⟨i1, hi1, hy0, hy1, hy2⟩ := info_parts infoU8
  have hb2 : i0.bytes * p ≤ 281474976710656 := by rw [hz2]; omega
  have hb3 : p ≤ maxLen := by unfold maxLen; omega
  have hn4 : (lines bs).length ≤ 300000 := Nat.le_trans (lines_length bs) (by omega)
  have Hend : Hid ((ended (lines bs)).length ≤ 250001) := Nat.le_trans (ended_lines bs) (by omega)
  go_enter Tryz.func114, Tryz.ntmps114
  go_wp2_with (first | (go_at_call 62; refine (linesOf v bs _ hr hsh (by omega)).mono ?_; rintro e w1 ⟨g, cap, rfl, hl, hbel⟩) | (at_make; refine wpList_make_full _ rfl (.tmp 12) (.tmp 12) 96 rfl w.heap.size 24 i0 (.slice none 0 0) 1 Tryz.underlying96 hi hz0 hz1 .i64 .i64 _ _ p rfl rfl rfl rfl hb2 hb3 ?hsz ?_))
  case hsz => exact hbel.size
  intro w2 hout hgrow2
  have hrel0 : ∃ vs, SplR w bs p w1.heap.size g cap 0 0 w2 w2.heap.size vs (.slice none 0 0) := by
    have hb12 : Below w1.heap.size w1 w2 := ⟨hgrow2.os, hgrow2.tape, hgrow2.output, hgrow2.size, fun k hk => hgrow2.block k hk (by simp)⟩
    refine ⟨_, hout, (hout.lt _ rfl).2, Nat.le_refl _, fun j hj => absurd hj (Nat.not_lt_zero _), ?_, by simpa [ended] using World.ownsRow_nil _ _ _ _, fun j _ hj => ?_, ReadsB.of_reads (hl.below hb12), hbel.trans (hb12.mono hbel.size)⟩
    · rw [toList_madeCells_one, List.getElem?_replicate, if_pos (by omega)]
    · rw [toList_madeCells_one, List.getElem?_replicate, if_pos hj]
  generalize hG : w1.heap.size = G at *
  clear hG hout hgrow2 hl hbel hsh hr
  go_wp2_with fail
  go_loopw [7, 16] (fun s7 s16 wr => ∃ (i k B : Nat) (vs : List Value) (vk : Value), i ≤ (lines bs).length ∧ k < p ∧ s16 = .int .i64 i ∧ s7 = .int .i64 k ∧ k * (lines bs).length / p ≤ i ∧ i ≤ (k + 1) * (lines bs).length / p ∧ SplR w bs p G g cap i k wr B vs vk)
    (fun _ s16 _ => (lines bs).length - (intOf s16).toNat)
  case atStart =>
    obtain ⟨vs, h⟩ := hrel0
    exact ⟨0, 0, _, vs, _, Nat.zero_le _, by omega, rfl, rfl, by simp, Nat.zero_le _, h⟩
  case round =>
    obtain ⟨i, k, B, vs, vk, hin, hkp, rfl, rfl, hlo, hhi, hS⟩ := hrel
    by_cases hlt : i < (lines bs).length
    · obtain ⟨sx, Hsx, hcell⟩ : ∃ sx : ByteArray, Hid (sx = ⟨((lines bs)[i]).toArray⟩) ∧ wr.cell? ⟨g, i, none⟩ = some (.string sx) := ⟨⟨((lines bs)[i]).toArray⟩, rfl, src_cell hS.src i hlt⟩
      have hrel1 : ∃ (k B : Nat) (vs : List Value) (vk : Value), k < p ∧ (Value.int .i64 (k : Int)) = .int .i64 (k : Int) ∧ k * (lines bs).length / p ≤ i ∧ i ≤ (k + 1) * (lines bs).length / p ∧ SplR w bs p G g cap i k wr B vs vk := ⟨k, B, vs, vk, hkp, rfl, hlo, hhi, hS⟩
      clear hrel0
      go_wp2_with fail
      go_loopw [7] (fun s7 wx => wx = wr ∧ ∃ (k B : Nat) (vs : List Value) (vk : Value), k < p ∧ s7 = .int .i64 k ∧ k * (lines bs).length / p ≤ i ∧ i ≤ (k + 1) * (lines bs).length / p ∧ SplR w bs p G g cap i k wr B vs vk) (fun s7 _ => p - (intOf s7).toNat)
      case atStart => exact ⟨rfl, k, B, vs, vk, hkp, rfl, hlo, hhi, hS⟩
      case round =>
        clear hrel1 hS hlo hhi
        obtain ⟨rfl, k2, B2, vs2, vk2, hkp2, rfl, hlo2, hhi2, hS2⟩ := hrel
        obtain ⟨-, -, hm3, hm4, -, hq2, -, hq4⟩ := numsP k2 (lines bs).length p hkp2 hp5 hn4
        have HN : Hid _ := And.intro hlo2 (And.intro hhi2 (And.intro hS2 (fun h : k2 + 1 < p => srel_next hS2 h)))
        have hk5 : k2 ≤ 4 := by omega
        have hlast : k2 + 1 = p → (k2 + 1) * (lines bs).length / p = (lines bs).length := fun e => by rw [e]; exact lo_full _ _ (by omega)
        have Hlast : Hid _ := hlast
        clear hlo2 hS2 hlast
        generalize hH : (k2 + 1) * (lines bs).length / p = hi' at *
        have HH : Hid _ := hH
        clear hH
        have hw4 : IntKind.i64.wrap ((k2 : Int) + 1) = (k2 : Int) + 1 := wrap_mid _ (by omega)
        have hw5 : IntKind.i64.wrap (((k2 : Int) + 1) * ((lines bs).length : Int)) = ((k2 : Int) + 1) * ((lines bs).length : Int) := wrap_mid _ ⟨hm3, by omega⟩
        have hp0 : ¬ p = 0 := by omega
        have hhb : hi' ≤ 1500000 := by
          rw [← HH.out]
          have h1 : (k2 + 1) * (lines bs).length ≤ 5 * 300000 := Nat.mul_le_mul (by omega) hn4
          exact Nat.le_trans (Nat.div_le_self _ _) h1
        have hw3 : IntKind.i64.wrap (hi' : Int) = (hi' : Int) := wrap_mid _ (by omega)
        by_cases hge : hi' ≤ i
        · have hie : i = hi' := by omega
          have Hie : Hid _ := hie
          clear hie
          have Hk : Hid (k2 + 1 < p) := by
            show k2 + 1 < p
            rcases Nat.lt_or_ge (k2 + 1) p with h | h
            · exact h
            · have := Hlast.out (by omega); have := Hie.out; omega
          go_wp2_with fail
          go_roundw
          case rel =>
            have h1 := HN.out.2.2.2 Hk.out Hie.out
            refine ⟨(by first | exact rfl | trivial), k2 + 1, _, vs2, _, Hk.out, by go_num, ?_, ?_, h1⟩
            · rw [HH.out]; exact hge
            · have := HH.out
              have h2 : (k2 + 1) * (lines bs).length / p ≤ (k2 + 1 + 1) * (lines bs).length / p := Nat.div_le_div_right (Nat.mul_le_mul_right _ (by omega))
              have := Hie.out
              omega
          case measure => simp [intOf]; omega
        · have hge' : i < hi' := by omega
          have hS2 := HN.out.2.2.1
          obtain ⟨hcG, hfG⟩ := srel_cells hS2 hkp2 (World.grownBy_refl wr _)
          have Hcf : Hid _ := fun (w3 : World) (hg : wr.grownBy w3 vk2.ownBlock) => srel_cells hS2 hkp2 hg
          have hrow := hS2.row
          have Hst : Hid _ := fun (w3 : World) (v3 : Value) => srel_step (w1 := w3) (v' := v3) hS2 hkp2 hlt HN.out.1
          have hbW := hS2.bW
          have Hen : Hid ((ended (((lines bs).take i).drop (k2 * (lines bs).length / p))).length + (((lines bs)[i]).length + 1) ≤ 250001) := by
            show _ ≤ 250001
            have h1 := ended_next (lines bs) i (k2 * (lines bs).length / p) hlt HN.out.1
            have h2 := ended_length_sub (lines bs) (k2 * (lines bs).length / p) (i + 1)
            rw [h1] at h2
            simp only [List.length_append, List.length_cons, List.length_nil] at h2
            have := Hend.out
            omega
          have hsz : sx.size = ((lines bs)[i]).length := by rw [Hsx.out]; simp [ByteArray.size]
          have hlen : (ended (((lines bs).take i).drop (k2 * (lines bs).length / p))).length + (sx.size + 1) ≤ 250001 := by rw [hsz]; exact Hen.out
          have hcs : Lib.strCells (sx ++ ⟨#[10]⟩) = ((lines bs)[i] ++ [10]).map U := by
            rw [Hsx.out]
            unfold Lib.strCells
            rw [data_feedG]
            rfl
          have hss : (sx ++ (⟨#[10]⟩ : ByteArray)).size = sx.size + 1 := by rw [ByteArray.size_append]; rfl
          have Hsz : Hid _ := hsz
          have Hcs : Hid _ := hcs
          have Hss : Hid _ := hss
          generalize hX : (ended (((lines bs).take i).drop (k2 * (lines bs).length / p))).length = m at *
          have HX : Hid _ := hX
          clear hX hsz hcs hss hge hS2
          have hlen' : m + (sx ++ (⟨#[10]⟩ : ByteArray)).size ≤ 250001 := by rw [Hss.out]; exact hlen
          go_wp2_with (at_builtin; refine wpList_append_own_string _ rfl (.tmp 37) (.tmp 39) 24 9 rfl B2 5 i1 Tryz.underlying24 Tryz.underlying9 hi1 hy0 hy1 hy2 _ _ _ rfl hrow (sx ++ ⟨#[10]⟩) rfl (by unfold maxLen; omega) (by omega) hbW ?_; intro v3 w3 hown3 hgrow3 _; obtain ⟨hc3, hf3⟩ := Hcf.out w3 hgrow3; obtain ⟨g3, c3, rfl⟩ := owns_shape hown3 (by rw [Hss.out]; omega))
          rw [Hss.out, Hcs.out] at hown3
          have R : Hid _ := Hst.out w3 (.slice (some ⟨g3, 0, none⟩) (m + (sx.size + 1)) c3) (by rw [← Hsz.out]; exact hown3) hgrow3
          have Hlo : Hid _ := HN.out.1
          clear hown3 hgrow3 hc3 hf3 hrow hcG hfG Hcf Hst hbW HN
          go_roundw
          case rel =>
            refine ⟨i + 1, k2, B2, _, _, by omega, hkp2, by go_num, rfl, ?_, ?_, R.out⟩
            · have := Hlo.out; omega
            · rw [HH.out]; omega
          case measure => simp [intOf]; omega
    · have hkn : i = (lines bs).length := by omega
      subst hkn
      have hlast : (lines bs).length = (k + 1) * (lines bs).length / p := by
        have : (k + 1) * (lines bs).length / p ≤ (lines bs).length := by
          have h1 : (k + 1) * (lines bs).length ≤ p * (lines bs).length := Nat.mul_le_mul_right _ (by omega)
          have h2 := Nat.div_le_div_right (c := p) h1
          rw [lo_full _ _ (by omega)] at h2
          exact h2
        omega
      have R : Hid _ := And.intro (srel_end hS hkp hp5 hlast) hS.bel
      clear hlast hS hlo hhi hrel0
      go_wp2_with fail
      go_ret
      exact ⟨_, rfl, R.out.1, R.out.2⟩
end Go.Proofs.YtkifihcficobnabGreatDoor
