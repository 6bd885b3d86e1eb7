/- What the library's slices.Concat does with some slices of bytes (beside no lines). -/
import Derived.Test.YtobaeafhdgolmabRefPipe2
import Derived.Test.YtobaeafhdgolmabShelf3
namespace Go.Proofs.Ytobaeafhdgolmab
open Go.RowKit Go.Gs
set_option linter.unusedVariables false

/-- Slices, one beside the other, that can be read. -/
def ListsP {α : Type} (w : World) (G : Nat) (f : α → Value) (pss : List (List α)) : Prop := ∀ j p, pss[j]? = some p → ∃ u, w.cell? ⟨G, j, none⟩ = some u ∧ Reads w u p.length (p.map f)
theorem ListsP.below {α : Type} {w w' : World} {G : Nat} {f : α → Value} {pss : List (List α)} (h : ListsP w G f pss) (hb : Below w.heap.size w w') : ListsP w' G f pss := by
  intro j p hj
  obtain ⟨u, h1, h2⟩ := h j p hj
  exact ⟨u, (hb.cell (World.block_lt_of_cell? w _ h1)).trans h1, h2.below hb⟩
theorem flat_stepP {α : Type} {pss : List (List α)} {k : Nat} {p : List α} (h : pss[k]? = some p) : (pss.take (k + 1)).flatten = (pss.take k).flatten ++ p := by
  rw [List.take_add_one, h]
  simp
theorem flat_nilP {α : Type} {w : World} {B : Nat} {t : TypeId} {v : Value} {A A' : List α} {f : α → Value} (h : w.ownsRow B t 1 v A.length (A.map f)) (hA : A' = A ++ []) : w.ownsRow B t 1 v A'.length (A'.map f) := by
  rw [hA, List.append_nil]
  exact h
theorem flat_appP {α : Type} {w w1 w3 : World} {t : TypeId} {v v' : Value} {A A' p : List α} {f : α → Value} (h : w1.ownsRow w.heap.size t 1 v A.length (A.map f)) (hb : Below w.heap.size w w1) (hA : A' = A ++ p) (h3 : w3.ownsRow w.heap.size t 1 v' (A.length + p.length) (A.map f ++ p.map f)) (hg : w1.grownBy w3 v.ownBlock) :
    w3.ownsRow w.heap.size t 1 v' A'.length (A'.map f) ∧ Below w.heap.size w w3 := by
  rw [hA, List.length_append, List.map_append]
  exact ⟨h3, hb.grown hg hb.size (fun k hk => (h.lt k hk).1)⟩
theorem flat_endP {α : Type} {w : World} {B N k : Nat} {t : TypeId} {v : Value} {pss : List (List α)} {f : α → Value} (hk : k = N) (hN : N = pss.length) (h : w.ownsRow B t 1 v ((pss.take k).flatten).length (((pss.take k).flatten).map f)) : w.ownsRow B t 1 v (pss.flatten).length ((pss.flatten).map f) := by
  rw [hk, hN, List.take_length] at h
  exact h
theorem flat_leP {α : Type} (pss : List (List α)) (k : Nat) : ((pss.take k).flatten).length ≤ (pss.flatten).length := by
  conv => rhs; rw [← List.take_append_drop k pss, List.flatten_append]
  simp
theorem grow_bytesP (n : Nat) (w : World) (hn : n ≤ 1000000) :
    Calls Try.prog 31 #[.slice none 0 0, .int .i64 n] w fun e w' => ∃ r, e = .returned r ∧ w'.ownsRow w.heap.size 5 1 r 0 [] ∧ Below w.heap.size w w' := by
  by_cases h0 : n = 0
  · subst h0
    have h := Any8.slices_Grow_room Try.laysGrowB none 0 0 0 w (Nat.le_refl _) (by omega) (by omega) (Nat.le_refl _)
    change Calls Try.prog 31 _ _ _ at h
    refine h.mono ?_
    rintro e w' ⟨rfl, rfl⟩
    exact ⟨_, rfl, World.ownsRow_nil _ _ _ _, Below.refl _ _⟩
  · obtain ⟨i0, hi, hz0, hz1, hz2⟩ := info_parts infoU8P
    have h := Any8.slices_Grow_grow Try.laysGrowB i0 (.int .u8 0) hi hz0 (by rw [hz1]; decide) none 0 0 n [] w (Nat.le_refl _) (by omega) (by rw [hz2]; omega) (by omega) (by simp) (fun _ => rfl) (fun a ha => by cases ha)
    change Calls Try.prog 31 _ _ _ at h
    simp only [show Try.laysGrowB_ren.t 25 = 5 from rfl] at h
    refine h.mono ?_
    rintro e w' ⟨rfl, rfl⟩
    refine ⟨_, rfl, ?_, ((Below.refl _ w).drew.alloc (by simp) _)⟩
    have hc1 : 0 + n ≤ grownCap w (0 + n) 0 5 := grownCap_ge _ _ _ _
    have hc2 : grownCap w (0 + n) 0 5 ≤ maxLen := grownCap_le_maxLen _ _ _ _ (by unfold maxLen; omega)
    refine ⟨rfl, .inr ⟨w.heap.size, grownCap w (0 + n) 0 5, _, rfl, Nat.le_refl _, heap_alloc_new w.drew _, Nat.zero_le _, hc2, ?_, by simp⟩⟩
    have hz : ∀ k, (Builtin.zeroCells (Value.cells (.int .u8 0)) k).size = k := by intro k; simp [Builtin.zeroCells, Value.cells]
    simp only [Array.size_append, hz, List.size_toArray, List.length_nil]
    omega

set_option maxRecDepth 100000 in
set_option maxHeartbeats 4000000 in
theorem concat_bytesP (G : Nat) (pss : List (List (UInt8))) (w : World) (hp : ListsP w G U pss) (hn : pss.length ≤ 1000) (hlen : (pss.flatten).length ≤ 1000000) :
    Calls Try.prog 21 #[.slice (some ⟨G, 0, none⟩) pss.length pss.length] w fun e w' => ∃ r, e = .returned r ∧ w'.ownsRow w.heap.size 5 1 r (pss.flatten).length ((pss.flatten).map U) ∧ Below w.heap.size w w' := by
  obtain ⟨i0, hi, hz0, hz1, hz2⟩ := info_parts infoU8P
  have HP : Hid (ListsP w G U pss) := hp
  obtain ⟨N, hN⟩ : ∃ N, N = pss.length := ⟨_, rfl⟩
  have HN : Hid (N = pss.length) := hN
  obtain ⟨M, hM⟩ : ∃ M, M = (pss.flatten).length := ⟨_, rfl⟩
  have HM : Hid (M = (pss.flatten).length) := hM
  have hN4 : N ≤ 1000 := by omega
  have hM4 : M ≤ 1000000 := by omega
  rw [← hN]
  clear hN hM hp hn hlen
  go_enter Try.func21, Try.ntmps21
  go_wp2_with fail
  go_loopw [3, 11] (fun s i wr => ∃ k : Nat, ∃ m : Nat, k ≤ N ∧ m ≤ 1000000 ∧ i = .int .i64 k ∧ s = .int .i64 m ∧ wr = w ∧ Hid (m = ((pss.take k).flatten).length))
    (fun _ i _ => N - (intOf i).toNat)
  case atStart => exact ⟨0, 0, Nat.zero_le _, by omega, rfl, rfl, rfl, (show _ = _ from by simp)⟩
  case round =>
    obtain ⟨k, m, hk, hm, rfl, rfl, hw, hmk⟩ := hrel
    obtain rfl : w = wr := hw.symm
    clear hw
    by_cases hlt : k < N
    · obtain ⟨p, hpk⟩ : ∃ p, pss[k]? = some p := ⟨_, List.getElem?_eq_getElem (by have := HN.out; omega)⟩
      obtain ⟨u, hu, hru⟩ := HP.out k p hpk
      obtain ⟨_, ao, cap, rfl, _⟩ := hru
      have HS : Hid (m + p.length = ((pss.take (k + 1)).flatten).length) := (show _ = _ from by rw [flat_stepP hpk, List.length_append, ← hmk.out])
      have hmp : m + p.length ≤ 1000000 := by
        have h1 := flat_leP pss (k + 1)
        have h2 := HS.out
        have h3 := HM.out
        omega
      have hnn : ¬ ((m : Int) + (p.length : Int) < 0) := by omega
      go_wp2_with fail
      go_roundw
      case rel => exact ⟨k + 1, m + p.length, by omega, hmp, by go_num, by go_num, by simp, HS.out⟩
      case measure => simp [intOf]; omega
    · have hkN : k = N := by omega
      have hmM : m = M := by rw [hmk.out, hkN, HN.out, List.take_length, ← HM.out]
      subst hmM
      clear hmk
      go_wp2_with fail
      refine (grow_bytesP m w hM4).mono ?_
      rintro e w1 ⟨r1, rfl, hown1, hb1⟩
      have HO1 : Hid (w1.ownsRow w.heap.size 5 1 r1 0 []) := hown1
      have HB1 : Hid (Below w.heap.size w w1) := hb1
      clear hown1 hb1
      go_wp2_with fail
      go_loopw [6, 27] (fun v i w2 => ∃ k : Nat, k ≤ N ∧ i = .int .i64 k ∧ Hid (w2.ownsRow w.heap.size 5 1 v ((pss.take k).flatten).length (((pss.take k).flatten).map U)) ∧ Hid (Below w.heap.size w w2))
        (fun _ i _ => N - (intOf i).toNat)
      case atStart => exact ⟨0, Nat.zero_le _, rfl, HO1.out, HB1.out⟩
      case round =>
        obtain ⟨k, hk, rfl, hown, hbel⟩ := hrel
        by_cases hlt : k < N
        · obtain ⟨p, hpk⟩ : ∃ p, pss[k]? = some p := ⟨_, List.getElem?_eq_getElem (by have := HN.out; omega)⟩
          obtain ⟨u, hu, hru⟩ := HP.out.below hbel.out k p hpk
          obtain ⟨hpl, ao, cap, rfl, h2, h3, h4⟩ := hru
          have hlenk : ((pss.take k).flatten).length + p.length ≤ 1000000 := by
            have h1 := flat_leP pss (k + 1)
            rw [flat_stepP hpk, List.length_append] at h1
            have h3 := HM.out
            omega
          have HF : Hid ((pss.take (k + 1)).flatten = (pss.take k).flatten ++ p) := flat_stepP hpk
          have hbs : w.heap.size ≤ wr.heap.size := hbel.out.size
          cases ao with
          | none =>
            have hp0 : p.length = 0 := by
              by_cases h0 : p.length = 0
              · exact h0
              · obtain ⟨b, off, e, _⟩ := h4 h0
                cases e
            have hpe : p = [] := List.eq_nil_of_length_eq_zero hp0
            subst hpe
            have HO : Hid _ := flat_nilP hown.out HF.out
            have hown' := hown.out
            clear h4 hpl h2 h3 hp0
            go_wp2_with (at_builtin; refine append_nil_ownP rfl (.tmp 31) (.tmp 32) 40 rfl w.heap.size 5 i0 1 cap Try.underlying40 hi _ _ _ rfl hown' rfl ?_)
            clear hown'
            go_wp2_with fail
            go_roundw
            case rel => exact ⟨k + 1, by omega, by go_num, HO.out, hbel.out⟩
            case measure => simp [intOf]; omega
          | some ad =>
            have hnews : ∀ j u, (p.map U)[j]? = some u → wr.cell? (ad.add j) = some u := by
              intro j u hj
              have hj' : j < p.length := by have := (List.getElem?_eq_some_iff.1 hj).1; simpa using this
              obtain ⟨b, off, e, hc⟩ := h4 (by omega)
              cases e
              have hadd : (⟨b, off, none⟩ : Addr).add j = ⟨b, off + j, none⟩ := by unfold Addr.add; split <;> simp_all
              rw [hadd]
              exact hc j u hj
            have HNW : Hid _ := hnews
            have hown' := hown.out
            have hF' := HF.out
            clear h4 hnews h2 h3 hown HF
            generalize (pss.take k).flatten = A at *
            have HF : Hid _ := hF'
            have HW : Hid _ := hown'
            clear hF'
            go_wp2_with (at_builtin; refine wpList_append_own _ rfl (.tmp 31) (.tmp 32) 40 rfl w.heap.size 5 i0 (.int .u8 0) 1 1 Try.underlying40 hi hz0 hz1 hz2 rfl (by decide) _ _ _ rfl hown' ad p.length cap (p.map U) rfl ?c1 ?c2 ?c3 ?c4 ?c5 ?c6 ?_)
            case c1 => simp
            case c2 => exact HNW.out
            case c3 => intro u hu; obtain ⟨x, _, rfl⟩ := List.mem_map.1 hu; rfl
            case c4 => unfold maxLen; omega
            case c5 => omega
            case c6 => exact hbs
            intro v' w3 hown3 hgrow3 _
            have HO : Hid _ := flat_appP (v := _) HW.out hbel.out HF.out hown3 hgrow3
            clear hown3 hgrow3 hown' HW hbel hu
            go_wp2_with fail
            go_roundw
            case rel => exact ⟨k + 1, by omega, by go_num, HO.out.1, HO.out.2⟩
            case measure => simp [intOf]; omega
        · have hkN : k = N := by omega
          have HO : Hid _ := flat_endP hkN HN.out hown.out
          clear hown
          go_wp2_with fail
          go_ret
          exact ⟨_, rfl, HO.out, hbel.out⟩
end Go.Proofs.Ytobaeafhdgolmab
