/- What line.Of does, for every slice of bytes: the lines, or the error of too many bytes. -/
import Derived.Test.YtkifihcficobnaaDoorPlain
import Derived.Test.YtkifihcficobnaaDoorProg
import Derived.WalkKit
import Derived.WalkLawsBesides
import Derived.Laws.IdiomStrings
import Derived.Outline
namespace Go.Proofs.YtkifihcficobnaaDoor
open Go.RowKit Go.Gs
set_option linter.unusedVariables false

theorem infoStr : (Tryd.prog.info? 9).map (fun i => (i.zero, i.size, i.bytes)) = some (some (.string ⟨#[]⟩), 1, 16) := by kernel_rfl

set_option maxRecDepth 100000 in
set_option maxHeartbeats 400000 in
theorem all_none (ao : Option Addr) (cap : Nat) (w : World) :
    Calls Tryd.prog 30 #[.slice ao 0 cap] w fun e w' => e = .returned (.slice none 0 0) ∧ w' = w := by
  go_enter Tryd.func30, Tryd.ntmps30
  go_wp2
  go_loopw [3, 4, 9] (fun v4 s i wr => v4 = .slice none 0 0 ∧ s = .int .i64 0 ∧ i = .int .i64 0 ∧ wr = w) (fun _ _ _ _ => 0)
  case atStart => exact ⟨rfl, rfl, rfl, rfl⟩
  case round =>
    obtain ⟨rfl, rfl, rfl, rfl⟩ := hrel
    go_wp2
    go_ret
    exact ⟨rfl, rfl⟩

theorem lines_step (bs : List UInt8) (k st : Nat) (D : List (List UInt8)) (h : k < bs.length) (hst : st ≤ k) (he : D ++ linesAux ((bs.take k).drop st) (bs.drop k) = lines bs) :
    (bs[k] = 10 → (D ++ [(bs.take k).drop st]) ++ linesAux ((bs.take (k + 1)).drop (k + 1)) (bs.drop (k + 1)) = lines bs) ∧
    (bs[k] ≠ 10 → D ++ linesAux ((bs.take (k + 1)).drop st) (bs.drop (k + 1)) = lines bs) := by
  have hd : bs.drop k = bs[k] :: bs.drop (k + 1) := (List.drop_eq_getElem_cons h)
  rw [hd, linesAux] at he
  constructor
  · intro e
    rw [if_pos e] at he
    rw [← he]
    simp
  · intro e
    rw [if_neg e] at he
    rw [← he, List.take_succ_eq_append_getElem h, List.drop_append_of_le_length (by simp; omega)]

theorem lines_end (bs : List UInt8) (st : Nat) (D : List (List UInt8)) (he : D ++ linesAux ((bs.take bs.length).drop st) (bs.drop bs.length) = lines bs) :
    (st < bs.length → D ++ [bs.drop st] = lines bs) ∧ (¬ st < bs.length → D = lines bs) := by
  simp only [List.take_length, List.drop_length] at he
  unfold linesAux at he
  constructor
  · intro h
    rw [if_neg (by simp; omega)] at he
    exact he
  · intro h
    rw [if_pos (by simp; omega)] at he
    simpa using he

/-- 'string(b[st:en])', b a slice of bytes that can be read. -/
theorem conv_run (w : World) (b off st en cap : Nat) (bs : List UInt8) (hse : st ≤ en) (hen : en ≤ bs.length)
    (hc : ∀ j u, (bs.map U)[j]? = some u → w.cell? ⟨b, off + j, none⟩ = some u) :
    (convert 22 9 (.slice (some ⟨b, off + st, none⟩) (en - st) cap)).run Tryd.prog w = .ok (S ((bs.take en).drop st)) w := by
  have hl : ((bs.take en).drop st).length = en - st := by simp; omega
  have := run_convert_bytes_back (P := Tryd.prog) w 22 9 5 ⟨b, off + st, none⟩ cap ((bs.take en).drop st) Tryd.underlying22 Tryd.underlying5 Tryd.underlying9 (fun j hj => by
    have hadd : (⟨b, off + st, none⟩ : Addr).add j = ⟨b, off + (st + j), none⟩ := by unfold Addr.add; split <;> simp_all [Nat.add_assoc]
    rw [hadd]
    have hj' : st + j < bs.length := by omega
    rw [hc (st + j) (U bs[st + j]) (by simp [hj'])]
    simp [U])
  rw [hl] at this
  exact this

/-- What an append of one line leaves. -/
theorem rel_app {w wr w1 : World} {v v' : Value} {D : List (List UInt8)} {l : List UInt8} {sx : ByteArray} {o : Obj} (hown : wr.ownsRow w.heap.size 9 1 v D.length (D.map S)) (hbel : Below w.heap.size w wr) (hsx : Value.string sx = S l)
    (hown' : w1.ownsRow w.heap.size 9 1 v' (D.length + 1) (D.map S ++ [.string sx])) (hgrow : (wr.alloc o).grownBy w1 v.ownBlock) :
    w1.ownsRow w.heap.size 9 1 v' (D ++ [l]).length ((D ++ [l]).map S) ∧ Below w.heap.size w w1 := by
  refine ⟨by simpa [← hsx] using hown', ?_⟩
  exact (hbel.alloc (by have := hbel.size; omega) o).grown hgrow (by have := hbel.size; simp; omega) (fun k hk => (hown.lt k hk).1)

set_option maxRecDepth 100000 in
set_option maxHeartbeats 1000000 in
theorem all_some (b off cap : Nat) (bs : List UInt8) (w : World) (h0 : 0 < bs.length) (hle : bs.length ≤ 1000000) (hcap : bs.length ≤ cap) (hcm : cap ≤ 9223372036854775807)
    (hc : ∀ j u, (bs.map U)[j]? = some u → w.cell? ⟨b, off + j, none⟩ = some u) :
    Calls Tryd.prog 30 #[.slice (some ⟨b, off, none⟩) bs.length cap] w fun e w' => ∃ r, e = .returned r ∧
      w'.ownsRow w.heap.size 9 1 r (lines bs).length ((lines bs).map S) ∧ Below w.heap.size w w' := by
  obtain ⟨i0, hi, hz0, hz1, hz2⟩ := info_parts infoStr
  have hbB : b < w.heap.size := World.block_lt_of_cell? w _ (hc 0 (U bs[0]) (by simp [h0]))
  generalize hn : bs.length = n at *
  go_enter Tryd.func30, Tryd.ntmps30
  go_wp2
  go_loopw [3, 4, 9] (fun v4 s i wr => ∃ (k st : Nat) (D : List (List UInt8)), st ≤ k ∧ k ≤ n ∧ i = .int .i64 k ∧ s = .int .i64 st ∧ wr.ownsRow w.heap.size 9 1 v4 D.length (D.map S) ∧ Below w.heap.size w wr ∧ D.length ≤ k ∧ Hid (D ++ linesAux ((bs.take k).drop st) (bs.drop k) = lines bs))
    (fun _ _ i _ => n - (intOf i).toNat)
  case atStart => exact ⟨0, 0, [], Nat.le_refl _, Nat.zero_le _, rfl, rfl, World.ownsRow_nil _ _ _ _, Below.refl _ _, Nat.le_refl _, by simp [Hid, lines]⟩
  case round =>
    obtain ⟨k, st, D, hsk, hk, rfl, rfl, hown, hbel, hDk, hrest⟩ := hrel
    have hcr : ∀ j u, (bs.map U)[j]? = some u → wr.cell? ⟨b, off + j, none⟩ = some u := fun j u hu => (hbel.cell (by exact hbB)).trans (hc j u hu)
    by_cases hlt : k < n
    · have hcell : wr.cell? ⟨b, off + k, none⟩ = some (.int .u8 ((bs[k]'(by omega)).toNat : Int)) := hcr k _ (by simp [U, hn, hlt])
      have hstep := lines_step bs k st D (by omega) hsk hrest.out
      have Hstep : Hid _ := hstep
      clear hstep
      obtain ⟨sx, hsx, hconv⟩ : ∃ sx, Hid (Value.string sx = S ((bs.take k).drop st)) ∧ (convert 22 9 (.slice (some ⟨b, off + st, none⟩) (k - st) (cap - st))).run Tryd.prog wr = .ok (.string sx) wr :=
        ⟨_, rfl, conv_run wr b off st k (cap - st) bs hsk (by omega) hcr⟩
      clear hcr hc hrest
      by_cases hc10 : bs[k]'(by omega) = 10
      · have hcell' : wr.cell? ⟨b, off + k, none⟩ = some (.int .u8 10) := by rw [hcell, hc10]; rfl
        have Hr : Hid _ := (Hstep.out).1 hc10
        clear hcell Hstep hc10
        go_wp2_with (at_builtin; refine wpList_append_own _ rfl _ _ 23 rfl w.heap.size 9 i0 (.string ⟨#[]⟩) 1 16 Tryd.underlying23 hi hz0 hz1 hz2 rfl (by decide) _ _ _ rfl (hown.alloc _) ⟨wr.heap.size, 0, none⟩ 1 1 [.string sx] rfl rfl ?c1 ?c2 ?c3 ?c4 ?c5 ?_)
        case c1 =>
          intro j u hj
          match j, hj with
          | 0, hj => simp at hj; subst hj; simp [Addr.add]
        case c2 => intro u hu; simp at hu; subst hu; rfl
        case c3 => unfold maxLen; omega
        case c4 => omega
        case c5 => have := hbel.size; simp; omega
        · intro v' w1 hown' hgrow _
          have R := rel_app hown hbel hsx.out hown' hgrow
          clear hown' hgrow hown hbel hsx hconv hcell'
          go_wp2
          go_roundw
          case rel => exact ⟨k + 1, k + 1, D ++ [(bs.take k).drop st], Nat.le_refl _, by omega, by go_num, by go_num, R.1, R.2, by simp; omega, Hr.out⟩
          case measure => simp [intOf]; omega
      · have hne : (((bs[k]'(by omega)).toNat : Int) == 10) = false := by
          rw [beq_eq_false_iff_ne]
          intro e
          exact hc10 (UInt8.toNat_inj.1 (show _ = 10 by omega))
        have Hr : Hid _ := (Hstep.out).2 hc10
        clear Hstep hc10 hconv hsx
        go_wp2
        go_roundw
        case rel => exact ⟨k + 1, st, D, by omega, by omega, by go_num, rfl, hown, hbel, by omega, Hr.out⟩
        case measure => simp [intOf]; omega
    · have hkn : k = n := by omega
      subst hkn
      subst hn
      have He : Hid _ := lines_end bs st D hrest.out
      clear hrest hc
      by_cases hst : st < bs.length
      · obtain ⟨sx, hsx, hconv⟩ : ∃ sx, Hid (Value.string sx = S (bs.drop st)) ∧ (convert 22 9 (.slice (some ⟨b, off + st, none⟩) (bs.length - st) (cap - st))).run Tryd.prog wr = .ok (.string sx) wr :=
          ⟨_, rfl, by have := conv_run wr b off st bs.length (cap - st) bs (by omega) (Nat.le_refl _) hcr; rwa [List.take_length] at this⟩
        have Hr : Hid _ := (He.out).1 hst
        clear hcr He
        go_wp2_with (at_builtin; refine wpList_append_own _ rfl _ _ 23 rfl w.heap.size 9 i0 (.string ⟨#[]⟩) 1 16 Tryd.underlying23 hi hz0 hz1 hz2 rfl (by decide) _ _ _ rfl (hown.alloc _) ⟨wr.heap.size, 0, none⟩ 1 1 [.string sx] rfl rfl ?d1 ?d2 ?d3 ?d4 ?d5 ?_)
        case d1 =>
          intro j u hj
          match j, hj with
          | 0, hj => simp at hj; subst hj; simp [Addr.add]
        case d2 => intro u hu; simp at hu; subst hu; rfl
        case d3 => unfold maxLen; omega
        case d4 => omega
        case d5 => have := hbel.size; simp; omega
        · intro v' w1 hown' hgrow _
          have R := rel_app hown hbel hsx.out hown' hgrow
          clear hown' hgrow hown hbel hsx hconv
          go_wp2
          go_ret
          rw [Hr.out] at R
          exact ⟨v', rfl, R.1, R.2⟩
      · have Hr : Hid _ := (He.out).2 hst
        clear hcr He
        go_wp2
        go_ret
        rw [Hr.out] at hown
        exact ⟨_, rfl, hown, hbel⟩

theorem all_reads (v : Value) (bs : List UInt8) (w : World) (hr : Reads w v bs.length (bs.map U)) (hle : bs.length ≤ 1000000) :
    Calls Tryd.prog 30 #[v] w fun e w' => ∃ r, e = .returned r ∧
      w'.ownsRow w.heap.size 9 1 r (lines bs).length ((lines bs).map S) ∧ Below w.heap.size w w' := by
  obtain ⟨_, ao, cap, rfl, h2, h3, h4⟩ := hr
  by_cases h0 : bs.length = 0
  · have hb : bs = [] := List.eq_nil_of_length_eq_zero h0
    subst hb
    refine (all_none ao cap w).mono ?_
    rintro e w' ⟨rfl, rfl⟩
    exact ⟨_, rfl, by simpa [lines, linesAux] using World.ownsRow_nil _ _ _ _, Below.refl _ _⟩
  · obtain ⟨b, off, rfl, hc⟩ := h4 h0
    exact all_some b off cap bs w (by omega) hle h2 (by simpa [maxLen] using h3) hc

set_option maxRecDepth 100000 in
set_option maxHeartbeats 400000 in
theorem of_many (ao : Option Addr) (n cap : Nat) (w : World) (h : 4000 < n) (hm : n ≤ 9223372036854775807) :
    Calls Tryd.prog 6 #[.slice ao n cap] w fun e w' => e = .returned (.tuple #[.slice none 0 0, .int .i64 2]) ∧ w' = w := by
  go_enter Tryd.func6, Tryd.ntmps6
  go_wp2
  go_ret2
  exact ⟨rfl, rfl⟩

set_option maxRecDepth 100000 in
set_option maxHeartbeats 400000 in
theorem of_none (ao : Option Addr) (cap : Nat) (w : World) :
    Calls Tryd.prog 6 #[.slice ao 0 cap] w fun e w' => e = .returned (.tuple #[.slice none 0 0, .int .i64 0]) ∧ w' = w := by
  go_enter Tryd.func6, Tryd.ntmps6
  go_wp2_with fail
  refine (all_none ao cap _).mono ?_
  rintro e w1 ⟨rfl, rfl⟩
  go_wp2_with fail
  go_ret2
  exact ⟨rfl, rfl⟩

set_option maxRecDepth 100000 in
set_option maxHeartbeats 400000 in
theorem of_reads (v : Value) (bs : List UInt8) (w : World) (hr : Reads w v bs.length (bs.map U)) (hle : bs.length ≤ 4000) :
    Calls Tryd.prog 6 #[v] w fun e w' => ∃ r, e = .returned (.tuple #[r, .int .i64 0]) ∧
      w'.ownsRow w.heap.size 9 1 r (lines bs).length ((lines bs).map S) ∧ Below w.heap.size w w' := by
  have hA := fun (W : World) (h : Reads W v bs.length (bs.map U)) => all_reads v bs W h (by omega)
  obtain ⟨_, ao, cap, rfl, h2, h3, h4⟩ := id hr
  have HA : Hid _ := hA
  have HR : Hid (Reads w (.slice ao bs.length cap) bs.length (bs.map U)) := hr
  obtain ⟨N, hN⟩ : ∃ N, N = (lines bs).length := ⟨_, rfl⟩
  generalize bs.length = n at *
  clear hr hA h3 h4 hN
  go_enter Tryd.func6, Tryd.ntmps6
  go_wp2_with fail
  refine (HA.out _ HR.out).mono ?_
  rintro e w1 ⟨r, rfl, h5, h6⟩
  have H5 : Hid _ := h5
  have H6 : Hid (Below w.heap.size w w1) := h6
  clear h5 h6 HA HR
  go_wp2_with fail
  go_ret2
  exact ⟨r, rfl, H5.out, H6.out⟩

theorem of_over (v : Value) (n : Nat) (xs : List Value) (w : World) (hr : Reads w v n xs) (hle : 4000 < n) :
    Calls Tryd.prog 6 #[v] w fun e w' => e = .returned (.tuple #[.slice none 0 0, .int .i64 2]) ∧ w' = w := by
  obtain ⟨_, ao, cap, rfl, h2, h3, h4⟩ := hr
  exact of_many ao n cap w hle (by have : cap ≤ 9223372036854775807 := by simpa [maxLen] using h3
                                   omega)
end Go.Proofs.YtkifihcficobnaaDoor
