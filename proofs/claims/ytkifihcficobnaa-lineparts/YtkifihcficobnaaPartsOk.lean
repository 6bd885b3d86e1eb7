/- The walk of gangsawlaw.LineParts where the parts are made. -/
import Derived.Test.YtkifihcficobnaaPartsErr
import Derived.Laws.AppendOwnNone
namespace Go.Proofs.Ytkifihcficobnaa
open Go.RowKit Go.Gs
set_option linter.unusedVariables false

/-- What has been put together of k parts. -/
def T (bs : List UInt8) (p k : Nat) : List (List UInt8) := (lines bs).take (k * (lines bs).length / p)

theorem T_zero (bs : List UInt8) (p : Nat) : T bs p 0 = [] := by simp [T]
theorem T_all (bs : List UInt8) (p : Nat) (h : 1 ≤ p) : T bs p p = lines bs := by
  unfold T
  rw [lo_full _ _ (by omega), List.take_length]
theorem T_succ (bs : List UInt8) (p k : Nat) (h : k < p) : T bs p k ++ lines (part bs p k) = T bs p (k + 1) := back_step bs p k h
theorem T_len (bs : List UInt8) (p k : Nat) : (T bs p k).length ≤ (lines bs).length := by simp [T]; omega

/-- What is known of the parts, in the world where the loop begins. -/
structure Laid (bs : List UInt8) (p G : Nat) (w : World) : Prop where
  cell : ∀ k, k < p → ∃ u, w.cell? ⟨G, k, none⟩ = some u ∧ Reads w u (part bs p k).length ((part bs p k).map U)

theorem Laid.at {bs : List UInt8} {p G : Nat} {w w' : World} (h : Laid bs p G w) (hb : Below w.heap.size w w') {k : Nat} (hk : k < p) :
    ∃ u, w'.cell? ⟨G, k, none⟩ = some u ∧ Reads w' u (part bs p k).length ((part bs p k).map U) := by
  obtain ⟨u, h1, h2⟩ := h.cell k hk
  exact ⟨u, (hb.cell (World.block_lt_of_cell? w _ h1)).trans h1, h2.below hb⟩

theorem Laid.below {bs : List UInt8} {p G : Nat} {w w' : World} (h : Laid bs p G w) (hb : Below w.heap.size w w') : Laid bs p G w' := ⟨fun _ hk => h.at hb hk⟩

theorem laid_of {bs : List UInt8} {p G cG base : Nat} {w : World} {vs : List Value} (hown : w.ownsRow base 27 1 (.slice (some ⟨G, 0, none⟩) p cG) p vs) (h : ∀ k, k < p → ∃ u, vs[k]? = some u ∧ Reads w u (part bs p k).length ((part bs p k).map U)) : Laid bs p G w := by
  refine ⟨fun k hk => ?_⟩
  obtain ⟨u, h1, h2⟩ := h k hk
  exact ⟨u, (hown.cellAt k (by omega)).trans h1, h2⟩

theorem last_cell {w : World} {b off cap : Nat} {bs : List UInt8} (h : Reads w (.slice (some ⟨b, off, none⟩) bs.length cap) bs.length (bs.map U)) {hl : bs.length - 1 < bs.length} (h10 : bs[bs.length - 1] = 10) :
    w.cell? ⟨b, off + (bs.length - 1), none⟩ = some (.int .u8 10) := by
  obtain ⟨_, ao, cap', e, _, _, h4⟩ := h
  simp only [Value.slice.injEq, true_and] at e
  obtain ⟨rfl, rfl⟩ := e
  obtain ⟨b', off', e, hc⟩ := h4 (by omega)
  simp only [Option.some.injEq, Addr.mk.injEq, and_true] at e
  obtain ⟨rfl, rfl⟩ := e
  have := hc (bs.length - 1) (U (bs[bs.length - 1])) (by simp [hl])
  rw [this, h10]
  rfl

theorem vint {k : IntKind} {a b : Int} (h : a = b) : Value.int k a = .int k b := by rw [h]

/-- What the append of a part's lines leaves. -/
theorem rel_back {w4 w5 w6 : World} {v v' : Value} {A B C : List (List UInt8)} (hown5 : w5.ownsRow w4.heap.size 9 1 v A.length (A.map S)) (hbel5 : Below w4.heap.size w4 w5) (hT : A ++ B = C)
    (hown6 : w6.ownsRow w4.heap.size 9 1 v' (A.length + B.length) (A.map S ++ B.map S)) (hgrow : w5.grownBy w6 v.ownBlock) :
    w6.ownsRow w4.heap.size 9 1 v' C.length (C.map S) ∧ Below w4.heap.size w4 w6 := by
  refine ⟨by rw [← hT]; simpa using hown6, hbel5.grown hgrow hbel5.size (fun k hk => (hown5.lt k hk).1)⟩

theorem reads_cells {w : World} {g n cap : Nat} {xs : List Value} (h : Reads w (.slice (some ⟨g, 0, none⟩) n cap) n xs) : ∀ j u, xs[j]? = some u → w.cell? ((⟨g, 0, none⟩ : Addr).add j) = some u := by
  intro j u hj
  obtain ⟨hl, _, _, e, _, _, h4⟩ := h
  simp only [Value.slice.injEq, true_and] at e
  obtain ⟨rfl, rfl⟩ := e
  have hjl : j < xs.length := (List.getElem?_eq_some_iff.1 hj).1
  obtain ⟨b', off', e, hcc⟩ := h4 (by omega)
  simp only [Option.some.injEq, Addr.mk.injEq, and_true] at e
  obtain ⟨rfl, rfl⟩ := e
  have hadd : (⟨g, 0, none⟩ : Addr).add j = ⟨g, 0 + j, none⟩ := by unfold Addr.add; split <;> simp_all
  rw [hadd]
  exact hcc j u hj

set_option maxRecDepth 100000 in
set_option maxHeartbeats 4000000 in
theorem parts_ok0 (vb vl : Value) (bs : List UInt8) (ls : List (List UInt8)) (p : Nat) (w : World) (hb : Reads w vb bs.length (bs.map U)) (hl : Reads w vl ls.length (ls.map S)) (hsz : ∀ s ∈ ls, s.length ≤ 9223372036854775807) (hbad : bad 4000 ls ≠ 0) (hn : bs.length ≤ 4000) (hp1 : 1 ≤ p) (hp5 : p ≤ 5) :
    Calls Try.prog 4 #[vb, .int .i64 (p : Int), vl] w fun e w' => e = .returned (.bool true) ∧ Below w.heap.size w w' := by
  have hbd : (bad 4000 ls == 0) = false := by simp [hbad]
  have Hbad : Hid _ := hbad
  clear hbad
  go_enter Try.func4, Try.ntmps4
  go_wp2_with fail
  refine (bytes_err vl ls _ hl hsz Hbad.out).mono ?_
  rintro e w1 ⟨rfl, hw1⟩
  have hB1 : Below w.heap.size w w1 := by rw [hw1]; exact Below.refl _ _
  clear hw1
  generalize bad 4000 ls = ec at hbd
  have hb1 := hb.below hB1
  clear hl hsz
  go_wp2_with fail
  refine (split_ok vb bs p _ hb1 hn hp1 hp5).mono ?_
  rintro e w2 ⟨r, vs, rfl, hown, hpr, hb2⟩
  obtain ⟨G, cG, rfl⟩ := owns_shape hown (by omega)
  have hlaid2 := laid_of hown hpr
  have hB2 : Below w.heap.size w w2 := hB1.trans (hb2.mono hB1.size)
  have hbr2 := hb1.below hb2
  clear hown hpr hb2 hB1 hb1
  go_wp2_with fail
  refine (lined_true _).mono ?_
  rintro e w3 ⟨rfl, hb3⟩
  have hlaid3 := hlaid2.below hb3
  have hbr3 := hbr2.below hb3
  have hB3 := hB2.trans (hb3.mono hB2.size)
  clear hb3 hlaid2 hbr2 hB2
  go_wp2_with fail
  refine (of_fine vb bs _ hbr3 hn).mono ?_
  rintro e w4 ⟨ao, cap, rfl, hall, hb4⟩
  have hlaid := hlaid3.below hb4
  have hB4 := hB3.trans (hb4.mono hB3.size)
  have hnl := lines_length bs
  clear hb4 hlaid3 hbr3 hB3
  obtain ⟨i0, hi, hz0, hz1, hz2⟩ := info_parts infoStr
  go_wp2_with fail
  go_loopw [14, 15, 16, 63] (fun v14 s15 s16 i wr => ∃ (k m1 m2 : Nat), k ≤ p ∧ i = .int .i64 k ∧ s15 = .int .i64 m1 ∧ s16 = .int .i64 m2 ∧ (lines bs).length / p ≤ m1 ∧ m1 ≤ 4000 ∧ m2 ≤ (lines bs).length / p + 1 ∧ wr.ownsRow w4.heap.size 9 1 v14 (T bs p k).length ((T bs p k).map S) ∧ Below w4.heap.size w4 wr)
    (fun _ _ _ i _ => p - (intOf i).toNat)
  case atStart => exact ⟨0, (lines bs).length, 0, Nat.zero_le _, rfl, rfl, rfl, Nat.div_le_self _ _, by omega, Nat.zero_le _, by rw [T_zero]; exact World.ownsRow_nil _ _ _ _, Below.refl _ _⟩
  case round =>
    obtain ⟨k, m1, m2, hk, rfl, rfl, rfl, hm1, hm1', hm2, hown, hbel⟩ := hrel
    by_cases hlt : k < p
    · obtain ⟨u, hcu, hru⟩ := hlaid.at hbel hlt
      obtain ⟨hc1, hc2, hc3⟩ := count_facts bs p k hlt
      have HT : Hid _ := T_succ bs p k hlt
      have hTl := T_len bs p k
      have hpl := part_len bs p k
      by_cases hL0 : (part bs p k).length = 0
      · have hp0 : part bs p k = [] := List.eq_nil_of_length_eq_zero hL0
        have hl0 : lines (part bs p k) = [] := by rw [hp0]; rfl
        have HT' : Hid (T bs p k = T bs p (k + 1)) := by
          have := HT.out
          rw [hl0, List.append_nil] at this
          exact this
        rw [hl0] at hc1 hc2 hc3
        rw [hL0] at hru
        obtain ⟨-, ao', c', rfl, -⟩ := hru
        simp only [List.length_nil] at hc1 hc2 hc3
        clear HT hp0 hl0 hL0 hall hlaid hpl
        go_wp2_with fail
        refine (of_none ao' c' _).mono ?_
        rintro e w5 ⟨rfl, hw5⟩
        have hown5 : w5.ownsRow w4.heap.size 9 1 u14 (T bs p k).length ((T bs p k).map S) := by rw [hw5]; exact hown
        have hbel5 : Below w4.heap.size w4 w5 := by rw [hw5]; exact hbel
        clear hw5 hown hbel hcu
        go_wp2_with (at_builtin; refine wpList_append_own_none rfl (.tmp 95) (.tmp 96) 28 rfl w4.heap.size 9 i0 1 Try.underlying28 hi _ _ _ rfl hown5 rfl ?_)
        go_roundw
        case rel => exact ⟨k + 1, 0, m2, by omega, by go_num, vint (by omega), rfl, by omega, by omega, hm2, by rw [← HT'.out]; exact hown5, hbel5⟩
        case measure => simp [intOf]; omega
      · obtain ⟨b, off, c', rfl⟩ := reads_shape hru hL0
        have hlast : wr.cell? ⟨b, off + ((part bs p k).length - 1), none⟩ = some (.int .u8 10) := last_cell hru (part_last bs p k (by omega))
        have Hlast : Hid _ := hlast
        clear hlast
        by_cases hL : (part bs p k).length ≤ 4000
        · have Hne : Hid (part bs p k ≠ []) := fun e => hL0 (by rw [e]; rfl)
          generalize hP : part bs p k = P at *
          clear hP hall hlaid
          go_wp2_with fail
          refine (of_shape _ P _ hru hL Hne.out).mono ?_
          rintro e w5 ⟨g, cp, rfl, _, _, hr5, hb5⟩
          have hown5 : w5.ownsRow w4.heap.size 9 1 u14 (T bs p k).length ((T bs p k).map S) := owns_below hown hb5
          have hbel5 : Below w4.heap.size w4 w5 := hbel.trans (hb5.mono hbel.size)
          have hlast5 : w5.cell? ⟨b, off + (P.length - 1), none⟩ = some (.int .u8 10) := (hb5.cell (World.block_lt_of_cell? wr _ Hlast.out)).trans Hlast.out
          clear hb5 hown hbel hcu Hlast
          go_wp2_with (at_builtin; refine wpList_append_own _ rfl (.tmp 95) (.tmp 96) 28 rfl w4.heap.size 9 i0 (.string ⟨#[]⟩) 1 16 Try.underlying28 hi hz0 hz1 hz2 rfl (by decide) _ _ _ rfl hown5 ⟨g, 0, none⟩ _ _ ((lines P).map S) rfl ?c1 ?c2 ?c3 ?c4 ?c5 ?c6 ?_)
          case c1 => simp
          case c2 => exact reads_cells hr5
          case c3 => intro u hu; simp only [List.mem_map] at hu; obtain ⟨l, _, rfl⟩ := hu; rfl
          case c4 => unfold maxLen; omega
          case c5 => omega
          case c6 => exact hbel5.size
          · intro v' w6 hown6 hgrow6 _
            have R : Hid _ := rel_back hown5 hbel5 HT.out hown6 hgrow6
            clear hown6 hgrow6 hown5 hbel5 hr5 hru hlast5
            go_wp2_with fail
            go_roundw
            case rel => exact ⟨k + 1, min m1 (lines P).length, max m2 (lines P).length, by omega, by go_num, vint (by omega), vint (by omega), by omega, by omega, by omega, R.out.1, R.out.2⟩
            case measure => simp [intOf]; omega
        · generalize hP : part bs p k = P at *
          clear hP hall hlaid
          go_wp2_with fail
          refine (of_over _ _ _ _ hru (by omega)).mono ?_
          rintro e w5 ⟨rfl, hw5⟩
          have hbel5 : Below w4.heap.size w4 w5 := by rw [hw5]; exact hbel
          have hlast5 : w5.cell? ⟨b, off + (P.length - 1), none⟩ = some (.int .u8 10) := by rw [hw5]; exact Hlast.out
          have hB5 : Hid _ := hB4.trans (hbel5.mono hB4.size)
          clear hw5 hown hbel hcu Hlast hru
          go_wp2_with fail
          go_ret
          exact ⟨rfl, hB5.out⟩
    · have hkp : k = p := by omega
      subst hkp
      rw [T_all bs k hp1] at hown
      have hr1 := Reads.of_owns hown
      have hr2 := hall.below hbel
      have hd : m2 ≤ m1 + 1 := by omega
      clear hown hall hlaid hm1 hm2
      go_wp2_with fail
      refine (equal_same _ _ (lines bs) (lines bs) _ hr1 hr2 rfl).mono ?_
      rintro e w5 ⟨rfl, hb5⟩
      have hB5 : Hid _ := hB4.trans ((hbel.trans (hb5.mono hbel.size)).mono hB4.size)
      clear hb5 hbel hr1 hr2
      go_wp2_with fail
      go_ret
      exact ⟨by simp; omega, hB5.out⟩


set_option maxRecDepth 100000 in
set_option maxHeartbeats 4000000 in
theorem parts_ok1 (vb vl : Value) (bs : List UInt8) (ls : List (List UInt8)) (p : Nat) (w : World) (hb : Reads w vb bs.length (bs.map U)) (hl : Reads w vl ls.length (ls.map S)) (hsz : ∀ s ∈ ls, s.length ≤ 9223372036854775807) (hbad : bad 4000 ls = 0) (hn : bs.length ≤ 4000) (hp1 : 1 ≤ p) (hp5 : p ≤ 5) :
    Calls Try.prog 4 #[vb, .int .i64 (p : Int), vl] w fun e w' => e = .returned (.bool true) ∧ Below w.heap.size w w' := by
  have Hbad : Hid _ := hbad
  have HK : Hid _ := bad_ok ls 4000 hbad
  clear hbad
  go_enter Try.func4, Try.ntmps4
  go_wp2_with fail
  refine (bytes_fine vl ls _ hl hsz Hbad.out).mono ?_
  rintro e wa ⟨x, rfl, hx, hBa⟩
  go_wp2_with fail
  refine (of_fine x (ended ls) _ hx HK.out.1).mono ?_
  rintro e wb ⟨yo, yc, rfl, hy, hBb⟩
  have HL : Hid _ := (hl.below hBa).below hBb
  clear hx
  go_wp2_with fail
  refine (equal_same _ vl (lines (ended ls)) ls _ hy HL.out (lines_ended ls HK.out.2)).mono ?_
  rintro e w1 ⟨rfl, hBc⟩
  have hB1 : Below w.heap.size w w1 := (hBa.trans (hBb.mono hBa.size)).trans (hBc.mono (Nat.le_trans hBa.size hBb.size))
  have hb1 := hb.below hB1
  clear hl hsz hBa hBb hBc hy HL
  go_wp2_with fail
  refine (split_ok vb bs p _ hb1 hn hp1 hp5).mono ?_
  rintro e w2 ⟨r, vs, rfl, hown, hpr, hb2⟩
  obtain ⟨G, cG, rfl⟩ := owns_shape hown (by omega)
  have hlaid2 := laid_of hown hpr
  have hB2 : Below w.heap.size w w2 := hB1.trans (hb2.mono hB1.size)
  have hbr2 := hb1.below hb2
  clear hown hpr hb2 hB1 hb1
  go_wp2_with fail
  refine (lined_true _).mono ?_
  rintro e w3 ⟨rfl, hb3⟩
  have hlaid3 := hlaid2.below hb3
  have hbr3 := hbr2.below hb3
  have hB3 := hB2.trans (hb3.mono hB2.size)
  clear hb3 hlaid2 hbr2 hB2
  go_wp2_with fail
  refine (of_fine vb bs _ hbr3 hn).mono ?_
  rintro e w4 ⟨ao, cap, rfl, hall, hb4⟩
  have hlaid := hlaid3.below hb4
  have hB4 := hB3.trans (hb4.mono hB3.size)
  have hnl := lines_length bs
  clear hb4 hlaid3 hbr3 hB3
  obtain ⟨i0, hi, hz0, hz1, hz2⟩ := info_parts infoStr
  go_wp2_with fail
  go_loopw [14, 15, 16, 63] (fun v14 s15 s16 i wr => ∃ (k m1 m2 : Nat), k ≤ p ∧ i = .int .i64 k ∧ s15 = .int .i64 m1 ∧ s16 = .int .i64 m2 ∧ (lines bs).length / p ≤ m1 ∧ m1 ≤ 4000 ∧ m2 ≤ (lines bs).length / p + 1 ∧ wr.ownsRow w4.heap.size 9 1 v14 (T bs p k).length ((T bs p k).map S) ∧ Below w4.heap.size w4 wr)
    (fun _ _ _ i _ => p - (intOf i).toNat)
  case atStart => exact ⟨0, (lines bs).length, 0, Nat.zero_le _, rfl, rfl, rfl, Nat.div_le_self _ _, by omega, Nat.zero_le _, by rw [T_zero]; exact World.ownsRow_nil _ _ _ _, Below.refl _ _⟩
  case round =>
    obtain ⟨k, m1, m2, hk, rfl, rfl, rfl, hm1, hm1', hm2, hown, hbel⟩ := hrel
    by_cases hlt : k < p
    · obtain ⟨u, hcu, hru⟩ := hlaid.at hbel hlt
      obtain ⟨hc1, hc2, hc3⟩ := count_facts bs p k hlt
      have HT : Hid _ := T_succ bs p k hlt
      have hTl := T_len bs p k
      have hpl := part_len bs p k
      by_cases hL0 : (part bs p k).length = 0
      · have hp0 : part bs p k = [] := List.eq_nil_of_length_eq_zero hL0
        have hl0 : lines (part bs p k) = [] := by rw [hp0]; rfl
        have HT' : Hid (T bs p k = T bs p (k + 1)) := by
          have := HT.out
          rw [hl0, List.append_nil] at this
          exact this
        rw [hl0] at hc1 hc2 hc3
        rw [hL0] at hru
        obtain ⟨-, ao', c', rfl, -⟩ := hru
        simp only [List.length_nil] at hc1 hc2 hc3
        clear HT hp0 hl0 hL0 hall hlaid hpl
        go_wp2_with fail
        refine (of_none ao' c' _).mono ?_
        rintro e w5 ⟨rfl, hw5⟩
        have hown5 : w5.ownsRow w4.heap.size 9 1 u14 (T bs p k).length ((T bs p k).map S) := by rw [hw5]; exact hown
        have hbel5 : Below w4.heap.size w4 w5 := by rw [hw5]; exact hbel
        clear hw5 hown hbel hcu
        go_wp2_with (at_builtin; refine wpList_append_own_none rfl (.tmp 95) (.tmp 96) 28 rfl w4.heap.size 9 i0 1 Try.underlying28 hi _ _ _ rfl hown5 rfl ?_)
        go_roundw
        case rel => exact ⟨k + 1, 0, m2, by omega, by go_num, vint (by omega), rfl, by omega, by omega, hm2, by rw [← HT'.out]; exact hown5, hbel5⟩
        case measure => simp [intOf]; omega
      · obtain ⟨b, off, c', rfl⟩ := reads_shape hru hL0
        have hlast : wr.cell? ⟨b, off + ((part bs p k).length - 1), none⟩ = some (.int .u8 10) := last_cell hru (part_last bs p k (by omega))
        have Hlast : Hid _ := hlast
        clear hlast
        by_cases hL : (part bs p k).length ≤ 4000
        · have Hne : Hid (part bs p k ≠ []) := fun e => hL0 (by rw [e]; rfl)
          generalize hP : part bs p k = P at *
          clear hP hall hlaid
          go_wp2_with fail
          refine (of_shape _ P _ hru hL Hne.out).mono ?_
          rintro e w5 ⟨g, cp, rfl, _, _, hr5, hb5⟩
          have hown5 : w5.ownsRow w4.heap.size 9 1 u14 (T bs p k).length ((T bs p k).map S) := owns_below hown hb5
          have hbel5 : Below w4.heap.size w4 w5 := hbel.trans (hb5.mono hbel.size)
          have hlast5 : w5.cell? ⟨b, off + (P.length - 1), none⟩ = some (.int .u8 10) := (hb5.cell (World.block_lt_of_cell? wr _ Hlast.out)).trans Hlast.out
          clear hb5 hown hbel hcu Hlast
          go_wp2_with (at_builtin; refine wpList_append_own _ rfl (.tmp 95) (.tmp 96) 28 rfl w4.heap.size 9 i0 (.string ⟨#[]⟩) 1 16 Try.underlying28 hi hz0 hz1 hz2 rfl (by decide) _ _ _ rfl hown5 ⟨g, 0, none⟩ _ _ ((lines P).map S) rfl ?c1 ?c2 ?c3 ?c4 ?c5 ?c6 ?_)
          case c1 => simp
          case c2 => exact reads_cells hr5
          case c3 => intro u hu; simp only [List.mem_map] at hu; obtain ⟨l, _, rfl⟩ := hu; rfl
          case c4 => unfold maxLen; omega
          case c5 => omega
          case c6 => exact hbel5.size
          · intro v' w6 hown6 hgrow6 _
            have R : Hid _ := rel_back hown5 hbel5 HT.out hown6 hgrow6
            clear hown6 hgrow6 hown5 hbel5 hr5 hru hlast5
            go_wp2_with fail
            go_roundw
            case rel => exact ⟨k + 1, min m1 (lines P).length, max m2 (lines P).length, by omega, by go_num, vint (by omega), vint (by omega), by omega, by omega, by omega, R.out.1, R.out.2⟩
            case measure => simp [intOf]; omega
        · generalize hP : part bs p k = P at *
          clear hP hall hlaid
          go_wp2_with fail
          refine (of_over _ _ _ _ hru (by omega)).mono ?_
          rintro e w5 ⟨rfl, hw5⟩
          have hbel5 : Below w4.heap.size w4 w5 := by rw [hw5]; exact hbel
          have hlast5 : w5.cell? ⟨b, off + (P.length - 1), none⟩ = some (.int .u8 10) := by rw [hw5]; exact Hlast.out
          have hB5 : Hid _ := hB4.trans (hbel5.mono hB4.size)
          clear hw5 hown hbel hcu Hlast hru
          go_wp2_with fail
          go_ret
          exact ⟨rfl, hB5.out⟩
    · have hkp : k = p := by omega
      subst hkp
      rw [T_all bs k hp1] at hown
      have hr1 := Reads.of_owns hown
      have hr2 := hall.below hbel
      have hd : m2 ≤ m1 + 1 := by omega
      clear hown hall hlaid hm1 hm2
      go_wp2_with fail
      refine (equal_same _ _ (lines bs) (lines bs) _ hr1 hr2 rfl).mono ?_
      rintro e w5 ⟨rfl, hb5⟩
      have hB5 : Hid _ := hB4.trans ((hbel.trans (hb5.mono hbel.size)).mono hB4.size)
      clear hb5 hbel hr1 hr2
      go_wp2_with fail
      go_ret
      exact ⟨by simp; omega, hB5.out⟩


end Go.Proofs.Ytkifihcficobnaa
