/- What line.Of does, for every slice of bytes: the lines, or the error of too many bytes. Facts on slices that can be read, of no function. Slices, one beside the other. Slices of slices that can be read. What line.ended does: the lines one behind the other, each ended by a line feed. Slices that stay beside one that is appended to. -/
import Derived.Test.YtkifihcficobnaaGreatDoorPlainF
import Derived.Test.YtkifihcficobnaaGreatDoorProg
import Derived.WalkKit
import Derived.WalkLawsBesides
import Derived.Laws.IdiomStrings
import Derived.Outline
import Derived.ChangeAgain
import Derived.Laws.Strings3
import Derived.Lib.SlBytesConst
import Derived.WalkSpells
import Derived.Lib.AppendStr
namespace Go.Proofs.YtkifihcficobnaaGreatDoor
open Go.RowKit Go.Gs
set_option linter.unusedVariables false

theorem infoStr : (Tryz.prog.info? 9).map (fun i => (i.zero, i.size, i.bytes)) = some (some (.string ⟨#[]⟩), 1, 16) := by kernel_rfl

set_option maxRecDepth 100000 in
set_option maxHeartbeats 400000 in
theorem all_none (ao : Option Addr) (cap : Nat) (w : World) :
    Calls Tryz.prog 63 #[.slice ao 0 cap] w fun e w' => e = .returned (.slice none 0 0) ∧ w' = w := by
  go_enter Tryz.func63, Tryz.ntmps63
  go_wp2
  go_loopw [3, 4, 9] (fun v4 s i wr => v4 = .slice none 0 0 ∧ s = .int .i64 0 ∧ i = .int .i64 0 ∧ wr = w) (fun _ _ _ _ => 0)
  case atStart => exact ⟨rfl, rfl, rfl, rfl⟩
  case round =>
    obtain ⟨rfl, rfl, rfl, rfl⟩ := hrel
    go_wp2
    go_ret
    exact ⟨rfl, rfl⟩

theorem lines_step (bs : List UInt8) (k st : Nat) (D : List (List UInt8)) (h : k < bs.length) (hst : st ≤ k) (he : D ++ linesAux ((bs.take k).drop st) (bs.drop k) = lines bs) :
    (bs[k] = 10 → (D ++ [(bs.take k).drop st]) ++ linesAux ((bs.take (k + 1)).drop (k + 1)) (bs.drop (k + 1)) = lines bs) ∧
    (bs[k] ≠ 10 → D ++ linesAux ((bs.take (k + 1)).drop st) (bs.drop (k + 1)) = lines bs) := by
  have hd : bs.drop k = bs[k] :: bs.drop (k + 1) := (List.drop_eq_getElem_cons h)
  rw [hd, linesAux] at he
  constructor
  · intro e
    rw [if_pos e] at he
    rw [← he]
    simp
  · intro e
    rw [if_neg e] at he
    rw [← he, List.take_succ_eq_append_getElem h, List.drop_append_of_le_length (by simp; omega)]

theorem lines_end (bs : List UInt8) (st : Nat) (D : List (List UInt8)) (he : D ++ linesAux ((bs.take bs.length).drop st) (bs.drop bs.length) = lines bs) :
    (st < bs.length → D ++ [bs.drop st] = lines bs) ∧ (¬ st < bs.length → D = lines bs) := by
  simp only [List.take_length, List.drop_length] at he
  unfold linesAux at he
  constructor
  · intro h
    rw [if_neg (by simp; omega)] at he
    exact he
  · intro h
    rw [if_pos (by simp; omega)] at he
    simpa using he

/-- 'string(b[st:en])', b a slice of bytes that can be read. -/
theorem conv_run (w : World) (b off st en cap : Nat) (bs : List UInt8) (hse : st ≤ en) (hen : en ≤ bs.length)
    (hc : ∀ j u, (bs.map U)[j]? = some u → w.cell? ⟨b, off + j, none⟩ = some u) :
    (convert 24 9 (.slice (some ⟨b, off + st, none⟩) (en - st) cap)).run Tryz.prog w = .ok (S ((bs.take en).drop st)) w := by
  have hl : ((bs.take en).drop st).length = en - st := by simp; omega
  have := run_convert_bytes_back (P := Tryz.prog) w 24 9 5 ⟨b, off + st, none⟩ cap ((bs.take en).drop st) Tryz.underlying24 Tryz.underlying5 Tryz.underlying9 (fun j hj => by
    have hadd : (⟨b, off + st, none⟩ : Addr).add j = ⟨b, off + (st + j), none⟩ := by unfold Addr.add; split <;> simp_all [Nat.add_assoc]
    rw [hadd]
    have hj' : st + j < bs.length := by omega
    rw [hc (st + j) (U bs[st + j]) (by simp [hj'])]
    simp [U])
  rw [hl] at this
  exact this

/-- What an append of one line leaves. -/
theorem rel_app {w wr w1 : World} {v v' : Value} {D : List (List UInt8)} {l : List UInt8} {sx : ByteArray} {o : Obj} (hown : wr.ownsRow w.heap.size 9 1 v D.length (D.map S)) (hbel : Below w.heap.size w wr) (hsx : Value.string sx = S l)
    (hown' : w1.ownsRow w.heap.size 9 1 v' (D.length + 1) (D.map S ++ [.string sx])) (hgrow : (wr.alloc o).grownBy w1 v.ownBlock) :
    w1.ownsRow w.heap.size 9 1 v' (D ++ [l]).length ((D ++ [l]).map S) ∧ Below w.heap.size w w1 := by
  refine ⟨by simpa [← hsx] using hown', ?_⟩
  exact (hbel.alloc (by have := hbel.size; omega) o).grown hgrow (by have := hbel.size; simp; omega) (fun k hk => (hown.lt k hk).1)

set_option maxRecDepth 100000 in
set_option maxHeartbeats 1000000 in
theorem all_some (b off cap : Nat) (bs : List UInt8) (w : World) (h0 : 0 < bs.length) (hle : bs.length ≤ 1000000) (hcap : bs.length ≤ cap) (hcm : cap ≤ 9223372036854775807)
    (hc : ∀ j u, (bs.map U)[j]? = some u → w.cell? ⟨b, off + j, none⟩ = some u) :
    Calls Tryz.prog 63 #[.slice (some ⟨b, off, none⟩) bs.length cap] w fun e w' => ∃ r, e = .returned r ∧
      w'.ownsRow w.heap.size 9 1 r (lines bs).length ((lines bs).map S) ∧ Below w.heap.size w w' := by
  obtain ⟨i0, hi, hz0, hz1, hz2⟩ := info_parts infoStr
  have hbB : b < w.heap.size := World.block_lt_of_cell? w _ (hc 0 (U bs[0]) (by simp [h0]))
  generalize hn : bs.length = n at *
  go_enter Tryz.func63, Tryz.ntmps63
  go_wp2
  go_loopw [3, 4, 9] (fun v4 s i wr => ∃ (k st : Nat) (D : List (List UInt8)), st ≤ k ∧ k ≤ n ∧ i = .int .i64 k ∧ s = .int .i64 st ∧ wr.ownsRow w.heap.size 9 1 v4 D.length (D.map S) ∧ Below w.heap.size w wr ∧ D.length ≤ k ∧ Hid (D ++ linesAux ((bs.take k).drop st) (bs.drop k) = lines bs))
    (fun _ _ i _ => n - (intOf i).toNat)
  case atStart => exact ⟨0, 0, [], Nat.le_refl _, Nat.zero_le _, rfl, rfl, World.ownsRow_nil _ _ _ _, Below.refl _ _, Nat.le_refl _, by simp [Hid, lines]⟩
  case round =>
    obtain ⟨k, st, D, hsk, hk, rfl, rfl, hown, hbel, hDk, hrest⟩ := hrel
    have hcr : ∀ j u, (bs.map U)[j]? = some u → wr.cell? ⟨b, off + j, none⟩ = some u := fun j u hu => (hbel.cell (by exact hbB)).trans (hc j u hu)
    by_cases hlt : k < n
    · have hcell : wr.cell? ⟨b, off + k, none⟩ = some (.int .u8 ((bs[k]'(by omega)).toNat : Int)) := hcr k _ (by simp [U, hn, hlt])
      have hstep := lines_step bs k st D (by omega) hsk hrest.out
      have Hstep : Hid _ := hstep
      clear hstep
      obtain ⟨sx, hsx, hconv⟩ : ∃ sx, Hid (Value.string sx = S ((bs.take k).drop st)) ∧ (convert 24 9 (.slice (some ⟨b, off + st, none⟩) (k - st) (cap - st))).run Tryz.prog wr = .ok (.string sx) wr :=
        ⟨_, rfl, conv_run wr b off st k (cap - st) bs hsk (by omega) hcr⟩
      clear hcr hc hrest
      by_cases hc10 : bs[k]'(by omega) = 10
      · have hcell' : wr.cell? ⟨b, off + k, none⟩ = some (.int .u8 10) := by rw [hcell, hc10]; rfl
        have Hr : Hid _ := (Hstep.out).1 hc10
        clear hcell Hstep hc10
        go_wp2_with (at_builtin; refine wpList_append_own _ rfl _ _ 34 rfl w.heap.size 9 i0 (.string ⟨#[]⟩) 1 16 Tryz.underlying34 hi hz0 hz1 hz2 rfl (by decide) _ _ _ rfl (hown.alloc _) ⟨wr.heap.size, 0, none⟩ 1 1 [.string sx] rfl rfl ?c1 ?c2 ?c3 ?c4 ?c5 ?_)
        case c1 =>
          intro j u hj
          match j, hj with
          | 0, hj => simp at hj; subst hj; simp [Addr.add]
        case c2 => intro u hu; simp at hu; subst hu; rfl
        case c3 => unfold maxLen; omega
        case c4 => omega
        case c5 => have := hbel.size; simp; omega
        · intro v' w1 hown' hgrow _
          have R := rel_app hown hbel hsx.out hown' hgrow
          clear hown' hgrow hown hbel hsx hconv hcell'
          go_wp2
          go_roundw
          case rel => exact ⟨k + 1, k + 1, D ++ [(bs.take k).drop st], Nat.le_refl _, by omega, by go_num, by go_num, R.1, R.2, by simp; omega, Hr.out⟩
          case measure => simp [intOf]; omega
      · have hne : (((bs[k]'(by omega)).toNat : Int) == 10) = false := by
          rw [beq_eq_false_iff_ne]
          intro e
          exact hc10 (UInt8.toNat_inj.1 (show _ = 10 by omega))
        have Hr : Hid _ := (Hstep.out).2 hc10
        clear Hstep hc10 hconv hsx
        go_wp2
        go_roundw
        case rel => exact ⟨k + 1, st, D, by omega, by omega, by go_num, rfl, hown, hbel, by omega, Hr.out⟩
        case measure => simp [intOf]; omega
    · have hkn : k = n := by omega
      subst hkn
      subst hn
      have He : Hid _ := lines_end bs st D hrest.out
      clear hrest hc
      by_cases hst : st < bs.length
      · obtain ⟨sx, hsx, hconv⟩ : ∃ sx, Hid (Value.string sx = S (bs.drop st)) ∧ (convert 24 9 (.slice (some ⟨b, off + st, none⟩) (bs.length - st) (cap - st))).run Tryz.prog wr = .ok (.string sx) wr :=
          ⟨_, rfl, by have := conv_run wr b off st bs.length (cap - st) bs (by omega) (Nat.le_refl _) hcr; rwa [List.take_length] at this⟩
        have Hr : Hid _ := (He.out).1 hst
        clear hcr He
        go_wp2_with (at_builtin; refine wpList_append_own _ rfl _ _ 34 rfl w.heap.size 9 i0 (.string ⟨#[]⟩) 1 16 Tryz.underlying34 hi hz0 hz1 hz2 rfl (by decide) _ _ _ rfl (hown.alloc _) ⟨wr.heap.size, 0, none⟩ 1 1 [.string sx] rfl rfl ?d1 ?d2 ?d3 ?d4 ?d5 ?_)
        case d1 =>
          intro j u hj
          match j, hj with
          | 0, hj => simp at hj; subst hj; simp [Addr.add]
        case d2 => intro u hu; simp at hu; subst hu; rfl
        case d3 => unfold maxLen; omega
        case d4 => omega
        case d5 => have := hbel.size; simp; omega
        · intro v' w1 hown' hgrow _
          have R := rel_app hown hbel hsx.out hown' hgrow
          clear hown' hgrow hown hbel hsx hconv
          go_wp2
          go_ret
          rw [Hr.out] at R
          exact ⟨v', rfl, R.1, R.2⟩
      · have Hr : Hid _ := (He.out).2 hst
        clear hcr He
        go_wp2
        go_ret
        rw [Hr.out] at hown
        exact ⟨_, rfl, hown, hbel⟩

theorem all_reads (v : Value) (bs : List UInt8) (w : World) (hr : Reads w v bs.length (bs.map U)) (hle : bs.length ≤ 1000000) :
    Calls Tryz.prog 63 #[v] w fun e w' => ∃ r, e = .returned r ∧
      w'.ownsRow w.heap.size 9 1 r (lines bs).length ((lines bs).map S) ∧ Below w.heap.size w w' := by
  obtain ⟨_, ao, cap, rfl, h2, h3, h4⟩ := hr
  by_cases h0 : bs.length = 0
  · have hb : bs = [] := List.eq_nil_of_length_eq_zero h0
    subst hb
    refine (all_none ao cap w).mono ?_
    rintro e w' ⟨rfl, rfl⟩
    exact ⟨_, rfl, by simpa [lines, linesAux] using World.ownsRow_nil _ _ _ _, Below.refl _ _⟩
  · obtain ⟨b, off, rfl, hc⟩ := h4 h0
    exact all_some b off cap bs w (by omega) hle h2 (by simpa [maxLen] using h3) hc

set_option maxRecDepth 100000 in
set_option maxHeartbeats 400000 in
theorem of_many (ao : Option Addr) (n cap : Nat) (w : World) (h : 4000 < n) (hm : n ≤ 9223372036854775807) :
    Calls Tryz.prog 26 #[.slice ao n cap] w fun e w' => e = .returned (.tuple #[.slice none 0 0, .int .i64 2]) ∧ w' = w := by
  go_enter Tryz.func26, Tryz.ntmps26
  go_wp2
  go_ret2
  exact ⟨rfl, rfl⟩

set_option maxRecDepth 100000 in
set_option maxHeartbeats 400000 in
theorem of_none (ao : Option Addr) (cap : Nat) (w : World) :
    Calls Tryz.prog 26 #[.slice ao 0 cap] w fun e w' => e = .returned (.tuple #[.slice none 0 0, .int .i64 0]) ∧ w' = w := by
  go_enter Tryz.func26, Tryz.ntmps26
  go_wp2_with fail
  refine (all_none ao cap _).mono ?_
  rintro e w1 ⟨rfl, rfl⟩
  go_wp2_with fail
  go_ret2
  exact ⟨rfl, rfl⟩

set_option maxRecDepth 100000 in
set_option maxHeartbeats 400000 in
theorem of_reads (v : Value) (bs : List UInt8) (w : World) (hr : Reads w v bs.length (bs.map U)) (hle : bs.length ≤ 4000) :
    Calls Tryz.prog 26 #[v] w fun e w' => ∃ r, e = .returned (.tuple #[r, .int .i64 0]) ∧
      w'.ownsRow w.heap.size 9 1 r (lines bs).length ((lines bs).map S) ∧ Below w.heap.size w w' := by
  have hA := fun (W : World) (h : Reads W v bs.length (bs.map U)) => all_reads v bs W h (by omega)
  obtain ⟨_, ao, cap, rfl, h2, h3, h4⟩ := id hr
  have HA : Hid _ := hA
  have HR : Hid (Reads w (.slice ao bs.length cap) bs.length (bs.map U)) := hr
  obtain ⟨N, hN⟩ : ∃ N, N = (lines bs).length := ⟨_, rfl⟩
  generalize bs.length = n at *
  clear hr hA h3 h4 hN
  go_enter Tryz.func26, Tryz.ntmps26
  go_wp2_with fail
  refine (HA.out _ HR.out).mono ?_
  rintro e w1 ⟨r, rfl, h5, h6⟩
  have H5 : Hid _ := h5
  have H6 : Hid (Below w.heap.size w w1) := h6
  clear h5 h6 HA HR
  go_wp2_with fail
  go_ret2
  exact ⟨r, rfl, H5.out, H6.out⟩

theorem of_over (v : Value) (n : Nat) (xs : List Value) (w : World) (hr : Reads w v n xs) (hle : 4000 < n) :
    Calls Tryz.prog 26 #[v] w fun e w' => e = .returned (.tuple #[.slice none 0 0, .int .i64 2]) ∧ w' = w := by
  obtain ⟨_, ao, cap, rfl, h2, h3, h4⟩ := hr
  exact of_many ao n cap w hle (by have : cap ≤ 9223372036854775807 := by simpa [maxLen] using h3
                                   omega)
end Go.Proofs.YtkifihcficobnaaGreatDoor
namespace Go.Proofs.YtkifihcficobnaaGreatDoor
open Go.RowKit Go.Gs
set_option linter.unusedVariables false

/-- A slice's part reads as the list's part. -/
theorem reads_sub {w : World} {g n cap lo hi : Nat} {xs : List Value} (h : Reads w (.slice (some ⟨g, 0, none⟩) n cap) n xs) (h1 : lo ≤ hi) (h2 : hi ≤ n) :
    Reads w (.slice (some ⟨g, lo, none⟩) (hi - lo) (cap - lo)) (hi - lo) ((xs.take hi).drop lo) := by
  obtain ⟨hl, ao, cap', e, h3, h4, h5⟩ := h
  simp only [Value.slice.injEq, true_and] at e
  obtain ⟨rfl, rfl⟩ := e
  refine ⟨by simp; omega, _, _, rfl, by omega, by omega, fun hn => ?_⟩
  obtain ⟨b, off, e, hc⟩ := h5 (by omega)
  simp only [Option.some.injEq, Addr.mk.injEq, and_true] at e
  obtain ⟨rfl, rfl⟩ := e
  refine ⟨g, lo, rfl, fun j u hu => ?_⟩
  rw [List.getElem?_drop, List.getElem?_take] at hu
  split at hu
  · have := hc _ _ hu
    rwa [Nat.zero_add] at this
  · cases hu

theorem owns_below {w w' : World} {base : Nat} {e : TypeId} {size : Nat} {v : Value} {n : Nat} {xs : List Value} (h : w.ownsRow base e size v n xs) (hb : Below w.heap.size w w') : w'.ownsRow base e size v n xs :=
  h.kept (row := none) ⟨hb.os, hb.tape, hb.output, hb.size, fun k hk _ => hb.block k hk⟩ (by cases hv : v.ownBlock <;> simp)

theorem reads_new (w : World) (C : Array Value) (e : TypeId) (fr : Nat × Nat) (n : Nat) (hn : C.size = n) (hm : n ≤ 1000000) : Reads (w.alloc (.cells C e fr)) (.slice (some ⟨w.heap.size, 0, none⟩) n n) n C.toList := by
  refine ⟨by simpa using hn, _, n, rfl, Nat.le_refl _, by unfold maxLen; omega, fun _ => ⟨w.heap.size, 0, rfl, fun j u hu => ?_⟩⟩
  rw [cell_of_row _ _ _ _ _ _ (heap_alloc_new w _)]
  simpa using hu

theorem owns_shape {w : World} {base : Nat} {e : TypeId} {v : Value} {n : Nat} {xs : List Value} (h : w.ownsRow base e 1 v n xs) (hn : n ≠ 0) : ∃ g cap, v = .slice (some ⟨g, 0, none⟩) n cap := by
  rcases h.2 with ⟨_, h0⟩ | ⟨g, cap, cur, rfl, _⟩
  · exact absurd h0 hn
  · exact ⟨g, cap, rfl⟩

theorem reads_shape {w : World} {v : Value} {n : Nat} {xs : List Value} (h : Reads w v n xs) (hn : n ≠ 0) : ∃ b off cap, v = .slice (some ⟨b, off, none⟩) n cap := by
  obtain ⟨_, ao, cap, rfl, _, _, h4⟩ := h
  obtain ⟨b, off, rfl, _⟩ := h4 hn
  exact ⟨b, off, cap, rfl⟩

/-- 'string(b)' of bytes that can be read. -/
theorem conv_reads {w : World} {b off n cap : Nat} {bs : List UInt8} (h : Reads w (.slice (some ⟨b, off, none⟩) n cap) n (bs.map U)) (hn : n ≠ 0) :
    (convert 24 9 (.slice (some ⟨b, off, none⟩) n cap)).run Tryz.prog w = .ok (.string ⟨bs.toArray⟩) w := by
  obtain ⟨hl, ao, cap', e, _, _, h4⟩ := h
  simp only [Value.slice.injEq, true_and] at e
  obtain ⟨rfl, rfl⟩ := e
  obtain ⟨b', off', e, hc⟩ := h4 hn
  simp only [Option.some.injEq, Addr.mk.injEq, and_true] at e
  obtain ⟨rfl, rfl⟩ := e
  have hl' : bs.length = n := by simpa using hl
  have := conv_run w b off 0 n cap bs (Nat.zero_le _) (by omega) hc
  simpa [← hl', S] using this

theorem sh_below {w w' : World} (h : w.ShapedOpen Tryz.prog) (hb : Below w.heap.size w w') : w'.ShapedOpen Tryz.prog :=
  h.keptBut (hb.frame (fun _ => False)) (fun _ hp => hp.elim)

/-- 'string(b)' of any slice of bytes that can be read. -/
theorem conv_any {w : World} {v : Value} {bs : List UInt8} (h : Reads w v bs.length (bs.map U)) :
    (convert 24 9 v).run Tryz.prog w = .ok (.string ⟨bs.toArray⟩) w := by
  obtain ⟨hl, ao, cap, rfl, h2, h3, h4⟩ := h
  by_cases h0 : bs.length = 0
  · have hb : bs = [] := List.eq_nil_of_length_eq_zero h0
    subst hb
    cases ao with
    | none => exact run_convert_bytes_nil (P := Tryz.prog) w 24 5 Tryz.underlying24 Tryz.underlying5 _ _ 9 Tryz.underlying9
    | some a => exact run_convert_bytes_back (P := Tryz.prog) w 24 9 5 a cap [] Tryz.underlying24 Tryz.underlying5 Tryz.underlying9 (fun j hj => absurd hj (Nat.not_lt_zero _))
  · obtain ⟨b, off, rfl, hc⟩ := h4 h0
    exact conv_reads ⟨hl, _, cap, rfl, h2, h3, fun _ => ⟨b, off, rfl, hc⟩⟩ h0

theorem map_str_S (l : List ByteArray) : l.map Value.string = (l.map (·.data.toList)).map S := by
  rw [List.map_map]
  apply List.map_congr_left
  intro s _
  simp [S]

theorem reads_take {w : World} {g n cap m : Nat} {xs : List Value} (h : Reads w (.slice (some ⟨g, 0, none⟩) n cap) n xs) (h1 : m ≤ n) : Reads w (.slice (some ⟨g, 0, none⟩) m cap) m (xs.take m) := by
  have := reads_sub h (Nat.zero_le m) h1
  simpa using this

theorem reads_bytes (w : World) (s : ByteArray) (cap : Nat) (fr : Nat × Nat) (hcap : s.size ≤ cap) (hm : cap ≤ maxLen) :
    Reads (w.alloc (.cells (bytesRow s cap) 5 fr)) (.slice (some ⟨w.heap.size, 0, none⟩) s.size cap) s.size (s.data.toList.map U) := by
  refine ⟨by rw [List.length_map]; exact Array.length_toList, _, cap, rfl, hcap, hm, fun _ => ⟨w.heap.size, 0, rfl, fun j u hu => ?_⟩⟩
  rw [cell_of_row _ _ _ _ _ _ (heap_alloc_new w _)]
  have hj : j < s.data.size := by
    have := (List.getElem?_eq_some_iff.1 hu).1
    simpa using this
  rw [Nat.zero_add]
  unfold bytesRow
  rw [Array.getElem?_append_left (by simpa using hj)]
  simp only [List.getElem?_map, Array.getElem?_toList] at hu
  rw [Array.getElem?_map]
  exact hu

def str (l : List UInt8) : ByteArray := ⟨l.toArray⟩
theorem str_inj {a b : List UInt8} (h : str a = str b) : a = b := by
  simp only [str, ByteArray.mk.injEq] at h
  simpa using congrArg Array.toList h

theorem map_str_inj (a b : List (List UInt8)) : a.map str = b.map str ↔ a = b := by
  constructor
  · intro h
    induction a generalizing b with
    | nil => cases b with
      | nil => rfl
      | cons _ _ => cases h
    | cons x a ih => cases b with
      | nil => cases h
      | cons y b =>
        simp only [List.map_cons, List.cons.injEq] at h
        rw [str_inj h.1, ih b h.2]
  · rintro rfl; rfl

theorem cells_str {w : World} {b off : Nat} {ls : List (List UInt8)} (hc : ∀ j u, (ls.map S)[j]? = some u → w.cell? ⟨b, off + j, none⟩ = some u) :
    ∀ j, j < (ls.map str).length → w.cell? ⟨b, off + j, none⟩ = some (.string ((ls.map str).getD j ByteArray.empty)) := by
  intro j hj
  have hj' : j < ls.length := by simpa using hj
  rw [hc j (S ls[j]) (by simp [hj'])]
  simp [S, str, hj']
end Go.Proofs.YtkifihcficobnaaGreatDoor
namespace Go.Proofs.YtkifihcficobnaaGreatDoor
open Go.RowKit Go.Gs
set_option linter.unusedVariables false

/-- Slices, one beside the other, that can be read. -/
def Lists {α : Type} (w : World) (G : Nat) (f : α → Value) (pss : List (List α)) : Prop := ∀ j p, pss[j]? = some p → ∃ u, w.cell? ⟨G, j, none⟩ = some u ∧ Reads w u p.length (p.map f)
theorem Lists.below {α : Type} {w w' : World} {G : Nat} {f : α → Value} {pss : List (List α)} (h : Lists w G f pss) (hb : Below w.heap.size w w') : Lists w' G f pss := by
  intro j p hj
  obtain ⟨u, h1, h2⟩ := h j p hj
  exact ⟨u, (hb.cell (World.block_lt_of_cell? w _ h1)).trans h1, h2.below hb⟩
theorem run_append_nil {P : Program} {w : World} (base : Nat) (t ty e : TypeId) (i : TypeInfo) (size c : Nat) (ht : P.underlying t = some (.slice e)) (hi : P.info? e = some i) (v : Value) (n : Nat) (xs : List Value) (hown : w.ownsRow base e size v n xs) :
    (Builtin.append_ #[t, t] ty #[v, .slice none 0 c]).run P w = .ok v w := by
  rcases hown.2 with ⟨rfl, rfl⟩ | ⟨g, cap, cur, rfl, _, _, hnc, _⟩
  · simp [Builtin.append_, run_underlying ht, sizeOf, typeInfo, hi, Builtin.lenOf, Builtin.firstCells]
  · simp [Builtin.append_, run_underlying ht, sizeOf, typeInfo, hi, Builtin.lenOf, Builtin.firstCells, hnc, storeCells]
theorem append_nil_own {P : Program} {w : World} {ops : Array Oper} {rest : List Oper} {o : Oper} {a : Act} {Q : Exit → Act → World → Prop} (hgd : o.guard = none) (s x : Operand) (t : TypeId)
    (ho : o.op = .call { callee := .builtin .append, args := #[s, x], argTypes := #[t, t] }) (base : Nat) (e : TypeId) (i : TypeInfo) (size c : Nat) (ht : P.underlying t = some (.slice e)) (hi : P.info? e = some i)
    (v : Value) (n : Nat) (xs : List Value) (hs : a.eval s = v) (hown : w.ownsRow base e size v n xs) (hx : a.eval x = .slice none 0 c) (h : wpList P ops Q rest (a.put o.dst v) w) : wpList P ops Q (o :: rest) a w := by
  refine wpList_plain hgd fun K hK => ?_
  have hrun := run_append_nil (P := P) (w := w) base t o.type e i size c ht hi v n xs hown
  unfold Oper.wp
  simp [execOp, ho, resolve, invoke, builtin, hs, hx, hrun, Result.andThen]
  exact hK _ _ h
theorem flat_step {α : Type} {pss : List (List α)} {k : Nat} {p : List α} (h : pss[k]? = some p) : (pss.take (k + 1)).flatten = (pss.take k).flatten ++ p := by
  rw [List.take_add_one, h]
  simp
theorem flat_nil {α : Type} {w : World} {B : Nat} {t : TypeId} {v : Value} {A A' : List α} {f : α → Value} (h : w.ownsRow B t 1 v A.length (A.map f)) (hA : A' = A ++ []) : w.ownsRow B t 1 v A'.length (A'.map f) := by
  rw [hA, List.append_nil]
  exact h
theorem flat_app {α : Type} {w w1 w3 : World} {t : TypeId} {v v' : Value} {A A' p : List α} {f : α → Value} (h : w1.ownsRow w.heap.size t 1 v A.length (A.map f)) (hb : Below w.heap.size w w1) (hA : A' = A ++ p) (h3 : w3.ownsRow w.heap.size t 1 v' (A.length + p.length) (A.map f ++ p.map f)) (hg : w1.grownBy w3 v.ownBlock) :
    w3.ownsRow w.heap.size t 1 v' A'.length (A'.map f) ∧ Below w.heap.size w w3 := by
  rw [hA, List.length_append, List.map_append]
  exact ⟨h3, hb.grown hg hb.size (fun k hk => (h.lt k hk).1)⟩
theorem flat_end {α : Type} {w : World} {B N k : Nat} {t : TypeId} {v : Value} {pss : List (List α)} {f : α → Value} (hk : k = N) (hN : N = pss.length) (h : w.ownsRow B t 1 v ((pss.take k).flatten).length (((pss.take k).flatten).map f)) : w.ownsRow B t 1 v (pss.flatten).length ((pss.flatten).map f) := by
  rw [hk, hN, List.take_length] at h
  exact h
theorem flat_le {α : Type} (pss : List (List α)) (k : Nat) : ((pss.take k).flatten).length ≤ (pss.flatten).length := by
  conv => rhs; rw [← List.take_append_drop k pss, List.flatten_append]
  simp
end Go.Proofs.YtkifihcficobnaaGreatDoor
namespace Go.Proofs.YtkifihcficobnaaGreatDoor
open Go.RowKit Go.Gs
set_option linter.unusedVariables false

/-- 'v' is a slice of slices that can be read; they read as 'pss'. -/
def RList {α : Type} (w : World) (v : Value) (f : α → Value) (pss : List (List α)) : Prop :=
  ∃ us : List Value, Reads w v pss.length us ∧ ∀ (j : Nat) (p : List α), pss[j]? = some p → ∃ u, us[j]? = some u ∧ Reads w u p.length (p.map f)
theorem RList.below {α : Type} {w w' : World} {v : Value} {f : α → Value} {pss : List (List α)} (h : RList w v f pss) (hb : Below w.heap.size w w') : RList w' v f pss := by
  obtain ⟨us, h1, h2⟩ := h
  refine ⟨us, h1.below hb, fun j p hj => ?_⟩
  obtain ⟨u, h3, h4⟩ := h2 j p hj
  exact ⟨u, h3, h4.below hb⟩
theorem RList.shape {α : Type} {w : World} {v : Value} {f : α → Value} {pss : List (List α)} (h : RList w v f pss) : ∃ ao cap, v = .slice ao pss.length cap ∧ pss.length ≤ cap ∧ cap ≤ maxLen := by
  obtain ⟨us, ⟨_, ao, cap, h2, h3, h4, _⟩, _⟩ := h
  exact ⟨ao, cap, h2, h3, h4⟩
/-- One of them: where it lies. -/
theorem RList.at {α : Type} {w : World} {ao : Option Addr} {n cap : Nat} {f : α → Value} {pss : List (List α)} (h : RList w (.slice ao n cap) f pss) {k : Nat} {p : List α} (hk : pss[k]? = some p) :
    ∃ b off au cu, ao = some ⟨b, off, none⟩ ∧ w.cell? ⟨b, off + k, none⟩ = some (.slice au p.length cu) ∧ Reads w (.slice au p.length cu) p.length (p.map f) := by
  obtain ⟨us, ⟨h1, ao', cap', e, _, _, h5⟩, h2⟩ := h
  injection e with e1 e2 e3
  subst e1
  obtain ⟨u, hu, hr⟩ := h2 k p hk
  obtain ⟨hkl, _⟩ := List.getElem?_eq_some_iff.1 hk
  obtain ⟨b, off, hao, hc⟩ := h5 (by omega)
  obtain ⟨hl, au, cu, rfl, hr'⟩ := hr
  exact ⟨b, off, au, cu, hao, hc k _ hu, hl, au, cu, rfl, hr'⟩
theorem flat_mem_le {α : Type} {pss : List (List α)} {p : List α} (h : p ∈ pss) : p.length ≤ pss.flatten.length := by
  obtain ⟨s, t, rfl⟩ := List.append_of_mem h
  simp
  omega
theorem flat_at_le {α : Type} {pss : List (List α)} {k : Nat} {p : List α} (h : pss[k]? = some p) : ((pss.take k).flatten).length + p.length ≤ pss.flatten.length := by
  have := flat_le pss (k + 1)
  rw [flat_step h, List.length_append] at this
  exact this
end Go.Proofs.YtkifihcficobnaaGreatDoor
namespace Go.Proofs.YtkifihcficobnaaGreatDoor
open Go.RowKit Go.Gs Go.Lib
set_option linter.unusedVariables false

theorem infoU8 : (Tryz.prog.info? 5).map (fun i => (i.zero, i.size, i.bytes)) = some (some (.int .u8 0), 1, 1) := by kernel_rfl

set_option maxRecDepth 100000 in
set_option maxHeartbeats 400000 in
theorem ended_none (ao : Option Addr) (cap : Nat) (w : World) :
    Calls Tryz.prog 50 #[.slice ao 0 cap] w fun e w' => e = .returned (.slice none 0 0) ∧ w' = w := by
  go_enter Tryz.func50, Tryz.ntmps50
  go_wp2
  go_loopw [3, 8] (fun v3 i wr => v3 = .slice none 0 0 ∧ i = .int .i64 0 ∧ wr = w) (fun _ _ _ => 0)
  case atStart => exact ⟨rfl, rfl, rfl⟩
  case round =>
    obtain ⟨rfl, rfl, rfl⟩ := hrel
    go_wp2
    go_ret
    exact ⟨rfl, rfl⟩

theorem ended_take_succ (ls : List (List UInt8)) (k : Nat) (h : k < ls.length) : ended (ls.take (k + 1)) = ended (ls.take k) ++ ls[k] ++ [10] := by
  rw [List.take_succ_eq_append_getElem h, ended_append]
  simp [ended]

theorem ended_take_le (ls : List (List UInt8)) (k : Nat) : (ended (ls.take k)).length ≤ (ended ls).length := by
  have := ended_length_sub ls 0 k
  simpa using this

/-- What the two appends of a round leave. -/
theorem rel_end {w wr w1 w2 : World} {v v1 v2 : Value} {n : Nat} {E l : List UInt8} {o : Obj}
    (hown : wr.ownsRow w.heap.size 5 1 v n (E.map U)) (hbel : Below w.heap.size w wr)
    (hown1 : w1.ownsRow w.heap.size 5 1 v1 (n + l.length) (E.map U ++ l.map U)) (hgrow1 : wr.grownBy w1 v.ownBlock)
    (hown2 : w2.ownsRow w.heap.size 5 1 v2 (n + l.length + 1) (E.map U ++ (l.map U ++ [.int .u8 10]))) (hgrow2 : (w1.alloc o).grownBy w2 v1.ownBlock) :
    w2.ownsRow w.heap.size 5 1 v2 (n + l.length + 1) ((E ++ l ++ [10]).map U) ∧ Below w.heap.size w w2 := by
  have hb1 : Below w.heap.size w w1 := hbel.grown hgrow1 (by have := hbel.size; omega) (fun k hk => (hown.lt k hk).1)
  refine ⟨by simpa [U] using hown2, ?_⟩
  exact (hb1.alloc (by have := hb1.size; omega) o).grown hgrow2 (by have := hb1.size; simp; omega) (fun k hk => (hown1.lt k hk).1)

set_option maxRecDepth 100000 in
set_option maxHeartbeats 1000000 in
theorem ended_some (b off cap : Nat) (ls : List (List UInt8)) (w : World) (h0 : 0 < ls.length) (hle : (ended ls).length ≤ 1000000)
    (hc : ∀ j u, (ls.map S)[j]? = some u → w.cell? ⟨b, off + j, none⟩ = some u) :
    Calls Tryz.prog 50 #[.slice (some ⟨b, off, none⟩) ls.length cap] w fun e w' => ∃ r, e = .returned r ∧
      w'.ownsRow w.heap.size 5 1 r (ended ls).length ((ended ls).map U) ∧ Below w.heap.size w w' := by
  obtain ⟨i0, hi, hz0, hz1, hz2⟩ := info_parts infoU8
  have hbB : b < w.heap.size := World.block_lt_of_cell? w _ (hc 0 (S ls[0]) (by simp [h0]))
  have hnl : ls.length ≤ 1000000 := Nat.le_trans (ended_length_ge ls) hle
  generalize hn : ls.length = n at *
  go_enter Tryz.func50, Tryz.ntmps50
  go_wp2
  go_loopw [3, 8] (fun v3 i wr => ∃ (k m : Nat), k ≤ n ∧ i = .int .i64 k ∧ Hid (m = (ended (ls.take k)).length) ∧ wr.ownsRow w.heap.size 5 1 v3 m ((ended (ls.take k)).map U) ∧ Below w.heap.size w wr)
    (fun _ i _ => n - (intOf i).toNat)
  case atStart => exact ⟨0, 0, Nat.zero_le _, rfl, by simp [Hid, ended], by simpa [ended] using World.ownsRow_nil _ _ _ _, Below.refl _ _⟩
  case round =>
    obtain ⟨k, m, hk, rfl, hm, hown, hbel⟩ := hrel
    by_cases hlt : k < n
    · have hcell : wr.cell? ⟨b, off + k, none⟩ = some (.string ⟨(ls[k]'(by omega)).toArray⟩) := (hbel.cell (by exact hbB)).trans (hc k _ (by simp [S, hn, hlt]))
      have Hs : Hid _ := ended_take_succ ls k (by omega)
      have hle1 := ended_take_le ls (k + 1)
      have hlen : m + (ls[k]'(by omega)).length + 1 ≤ 1000000 := by
        rw [Hs.out] at hle1
        simp only [List.length_append, List.length_cons, List.length_nil, hm.out] at *
        omega
      clear hle1 hc
      generalize hl : ls[k]'(by omega) = l at *
      have Hl : Hid _ := hl
      clear hl
      obtain ⟨sx, hsx⟩ : ∃ sx : ByteArray, sx = ⟨l.toArray⟩ := ⟨_, rfl⟩
      have hsz : sx.size = l.length := by rw [hsx]; simp [ByteArray.size]
      have hcs : strCells sx = l.map U := by rw [hsx]; simp [strCells, U]
      rw [← hsx] at hcell
      have Hsx : Hid _ := hsx
      have Hsz : Hid _ := hsz
      have Hcs : Hid _ := hcs
      have hb63 : m + sx.size + 1 ≤ 1000000 := by omega
      clear hsx hsz hcs
      generalize hE : (ended (ls.take k)) = E at *
      have HE : Hid _ := hE
      clear hE
      have hsz0 := hbel.size
      go_wp2_with (first | (at_builtin; refine wpList_append_own_string _ rfl (.tmp 12) (.tmp 13) 24 9 rfl w.heap.size 5 i0 Tryz.underlying24 Tryz.underlying9 hi hz0 hz1 hz2 _ _ _ rfl hown sx rfl (by unfold maxLen; omega) (by omega) (by omega) ?_; intro v1 w1 hown1 hgrow1 _) | (at_builtin; refine wpList_append_own _ rfl (.tmp 15) (.tmp 16) 24 rfl w.heap.size 5 i0 (.int .u8 0) 1 1 Tryz.underlying24 hi hz0 hz1 hz2 rfl (by decide) _ _ _ rfl (hown1.alloc _) ⟨w1.heap.size, 0, none⟩ 1 1 [.int .u8 10] rfl rfl ?c1 ?c2 ?c3 ?c4 ?c5 ?_))
      case c1 =>
        intro j u hj
        match j, hj with
        | 0, hj => simp at hj; subst hj; simp [Addr.add]
      case c2 => intro u hu; simp at hu; subst hu; rfl
      case c3 => unfold maxLen; omega
      case c4 => omega
      case c5 => have := hgrow1.size; simp; omega
      · intro v2 w2 hown2 hgrow2 _
        rw [Hcs.out, Hsz.out] at hown1 hown2
        have R := rel_end hown hbel hown1 hgrow1 hown2 hgrow2
        rw [← Hs.out] at R
        have hm2 : m + l.length + 1 = (ended (ls.take (k + 1))).length := by rw [Hs.out, hm.out]; simp; omega
        have Hm2 : Hid _ := hm2
        clear hm2 hown1 hown2 hgrow1 hgrow2 hown hbel hcell
        go_wp2
        go_roundw
        case rel => exact ⟨k + 1, m + l.length + 1, by omega, by go_num, Hm2, R.1, R.2⟩
        case measure => simp [intOf]; omega
    · have hkn : k = n := by omega
      subst hkn
      subst hn
      rw [List.take_length] at hm hown
      clear hc
      go_wp2
      go_ret
      rw [hm.out] at hown
      exact ⟨_, rfl, hown, hbel⟩

theorem ended_reads (v : Value) (ls : List (List UInt8)) (w : World) (hr : Reads w v ls.length (ls.map S)) (hle : (ended ls).length ≤ 1000000) :
    Calls Tryz.prog 50 #[v] w fun e w' => ∃ r, e = .returned r ∧
      w'.ownsRow w.heap.size 5 1 r (ended ls).length ((ended ls).map U) ∧ Below w.heap.size w w' := by
  obtain ⟨_, ao, cap, rfl, h2, h3, h4⟩ := hr
  by_cases h0 : ls.length = 0
  · have hb : ls = [] := List.eq_nil_of_length_eq_zero h0
    subst hb
    refine (ended_none ao cap w).mono ?_
    rintro e w' ⟨rfl, rfl⟩
    exact ⟨_, rfl, by simpa [ended] using World.ownsRow_nil _ _ _ _, Below.refl _ _⟩
  · obtain ⟨b, off, rfl, hc⟩ := h4 h0
    exact ended_some b off cap ls w (by omega) hle hc
end Go.Proofs.YtkifihcficobnaaGreatDoor
namespace Go.Proofs.YtkifihcficobnaaGreatDoor
open Go.RowKit Go.Gs
set_option linter.unusedVariables false

def far (u v : Value) : Prop := ∀ g, u.ownBlock = some g → v.ownBlock ≠ some g
theorem far_symm {u v : Value} (h : far u v) : far v u := fun g hg hu => h g hu hg
theorem reads_grown {w w' : World} {u v : Value} {n : Nat} {xs : List Value} (h : Reads w u n xs) (hg : w.grownBy w' v.ownBlock) (hf : far u v) : Reads w' u n xs := by
  obtain ⟨h1, ao, cap, rfl, h2, h3, h4⟩ := h
  refine ⟨h1, ao, cap, rfl, h2, h3, fun hn => ?_⟩
  obtain ⟨b, off, rfl, hc⟩ := h4 hn
  refine ⟨b, off, rfl, fun j x hx => ?_⟩
  have hcj := hc j x hx
  have hlt := World.block_lt_of_cell? w _ hcj
  rw [← hcj]
  exact World.cell?_of_block (hg.block b hlt (fun e => hf b rfl e.symm))
theorem owns_grown {w w' : World} {B : Nat} {e : TypeId} {u v : Value} {n : Nat} {xs : List Value} (h : w.ownsRow B e 1 u n xs) (hg : w.grownBy w' v.ownBlock) (hf : far u v) : w'.ownsRow B e 1 u n xs := by
  have hl := h.lt
  refine ⟨h.1, ?_⟩
  rcases h.2 with h0 | ⟨g, cap, cur, rfl, h2, h3, h4⟩
  · exact .inl h0
  · refine .inr ⟨g, cap, cur, rfl, h2, ?_, h4⟩
    rw [hg.block g (hl g rfl).2 (fun e => hf g rfl e.symm)]
    exact h3
theorem reads_block {w : World} {u : Value} {n : Nat} {xs : List Value} (h : w.ownsRow 0 5 1 u n xs) : ∀ g, u.ownBlock = some g → g < w.heap.size := fun g hg => (h.lt g hg).2
end Go.Proofs.YtkifihcficobnaaGreatDoor
