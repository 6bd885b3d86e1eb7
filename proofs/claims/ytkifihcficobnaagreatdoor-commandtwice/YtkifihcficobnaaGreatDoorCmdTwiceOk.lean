/- The walk of the sentence on doing twice, where all is right. -/
import Derived.Test.YtkifihcficobnaaGreatDoorCmdTwice
import Derived.Test.YtkifihcficobnaaGreatDoorConcatS
import Derived.Test.YtkifihcficobnaaGreatDoorBytes
import Derived.Deep.CutBlock
import Derived.Deep.QuietTactic
namespace Go.Proofs.YtkifihcficobnaaGreatDoor
open Go.RowKit Go.Gs
set_option linter.unusedVariables false

theorem eq_twice {w : World} {o1 o2 : Option Addr} {c1 c2 : Nat} {x y : List UInt8} (he : y = x) (h1 : Reads w (.slice o1 x.length c1) x.length (x.map U)) (h2 : Reads w (.slice o2 y.length c2) y.length (y.map U)) :
    Calls Tryz.prog 18 #[.slice o1 x.length c1, .slice o2 y.length c2] w fun e w' => e = .returned (.bool true) ∧ Below w.heap.size w w' := by
  subst he
  exact eqb_same _ _ y w h1 h2

theorem eq_turn {w : World} {o1 : Option Addr} {c1 : Nat} {x y : List UInt8} {v : Value} (he : x = y) (h1 : Reads w (.slice o1 x.length c1) x.length (x.map U)) (h2 : Reads w v y.length (y.map U)) :
    Calls Tryz.prog 18 #[.slice o1 x.length c1, v] w fun e w' => e = .returned (.bool true) ∧ Below w.heap.size w w' := by
  subst he
  exact eqb_same _ _ x w h1 h2

theorem at_plus (kk : Int) (L : Nat) (w : World) (hk1 : -9223372036854775808 ≤ kk) (hk2 : kk ≤ 9223372036854775807) (hL : L ≤ 10000) :
    Calls Tryz.prog 27 #[.int .i64 kk, .int .i64 ((L : Int) + 1)] w fun e w' => ∃ m : Nat, m < L + 1 ∧ e = .returned (.int .i64 m) ∧ w' = w := by
  have h := at_is kk (L + 1) w hk1 hk2 (by omega) (by omega)
  rw [Int.natCast_add] at h
  exact h
theorem turned_fine (b : List UInt8) (m : Nat) (hb : b.length ≤ 2000) : bad 4000 ((lines b).drop m ++ (lines b).take m) = 0 ∧ (∀ s ∈ (lines b).drop m ++ (lines b).take m, s.length ≤ 4000) ∧ ((lines b).drop m ++ (lines b).take m).length ≤ 4000 := by
  have hp : ((lines b).drop m ++ (lines b).take m).Perm (lines b) := List.perm_append_comm.trans (by rw [List.take_append_drop])
  have h1 := ended_len_perm hp
  have h2 := ended_lines b
  refine ⟨bad_zero _ _ (by omega) (fun s hs => lines_noFeed b s (hp.mem_iff.1 hs)), fun s hs => lines_short (hp.mem_iff.1 hs) (by omega), ?_⟩
  have := lines_length b
  rw [hp.length_eq]
  omega
theorem turned_cases {w : World} {B : Nat} {t : TypeId} {ol : Option Addr} {L cl : Nat} {ls : List (List UInt8)} (h : w.ownsRow B t 1 (.slice ol L cl) L (ls.map S)) (hL : L = ls.length) : (ol = none ∧ cl = 0 ∧ L = 0) ∨ ∃ g, ol = some ⟨g, 0, none⟩ ∧ L ≤ cl ∧ cl ≤ maxLen := by
  rcases h.2 with ⟨e, _⟩ | ⟨g, cap, cur, e, _, _, h1, h2, _⟩
  · injection e with e1 e2 e3
    exact .inl ⟨e1, e3, e2⟩
  · injection e with e1 e2 e3
    exact .inr ⟨g, e1, by omega, by omega⟩
theorem nil_reads {w : World} {ls : List (List UInt8)} (hL : 0 = ls.length) : Reads w (.slice none 0 0) (ls.drop 0).length ((ls.drop 0).map S) := by
  have : ls = [] := List.eq_nil_of_length_eq_zero hL.symm
  subst this
  exact ⟨rfl, none, 0, rfl, Nat.le_refl _, by simp, fun h => absurd rfl h⟩
theorem nil_reads' {w : World} (ls : List (List UInt8)) : Reads w (.slice none 0 0) (ls.take 0).length ((ls.take 0).map S) := ⟨by simp, none, 0, by simp, by simp, by simp, fun h => absurd (by simp) h⟩
theorem take_reads {w : World} {B : Nat} {t : TypeId} {g L cl m : Nat} {ls : List (List UInt8)} (h : w.ownsRow B t 1 (.slice (some ⟨g, 0, none⟩) L cl) L (ls.map S)) (hL : L = ls.length) (hm : m ≤ L) : Reads w (.slice (some ⟨g, 0, none⟩) m cl) m ((ls.take m).map S) := by
  have h1 := reads_take (m := m) (Reads.of_owns h) hm
  rwa [List.map_take]
theorem drop_reads {w : World} {B : Nat} {t : TypeId} {g L cl m : Nat} {ls : List (List UInt8)} (h : w.ownsRow B t 1 (.slice (some ⟨g, 0, none⟩) L cl) L (ls.map S)) (hL : L = ls.length) (hm : m ≤ L) : Reads w (.slice (some ⟨g, m, none⟩) (L - m) (cl - m)) (L - m) ((ls.drop m).map S) := by
  have h1 := reads_sub (lo := m) (hi := L) (Reads.of_owns h) hm (Nat.le_refl _)
  rw [List.take_of_length_le (by simp; omega)] at h1
  rwa [List.map_drop]
theorem drop_reads0 {w : World} {g m : Nat} {ls : List (List UInt8)} (hm : ls.length ≤ m) : Reads w (.slice (some ⟨g, 0, none⟩) 0 0) (ls.drop m).length ((ls.drop m).map S) := by
  rw [List.drop_eq_nil_of_le hm]
  exact ⟨rfl, _, 0, rfl, Nat.le_refl _, by simp, fun h => absurd rfl h⟩
theorem turned_len {b : List UInt8} {L m : Nat} (hL : L = (lines b).length) (hm : m ≤ L) : ((lines b).take m).length = m ∧ ((lines b).drop m).length = L - m := by
  constructor
  · rw [List.length_take]; omega
  · rw [List.length_drop, hL]
theorem len_reads {w : World} {v : Value} {n : Nat} {ls : List (List UInt8)} (hn : ls.length = n) (h : Reads w v n (ls.map S)) : Reads w v ls.length (ls.map S) := by
  rw [hn]
  exact h
theorem box_cells3 {w w' : World} {a b c : Value} {t : TypeId} (h : Below (w.alloc (.cells #[a, b, c] t)).heap.size (w.alloc (.cells #[a, b, c] t)) w') : w'.cell? ⟨w.heap.size, 0, none⟩ = some a ∧ w'.cell? ⟨w.heap.size, 1, none⟩ = some b ∧ w'.cell? ⟨w.heap.size, 2, none⟩ = some c := by
  refine ⟨?_, ?_, ?_⟩
  all_goals
    rw [h.cell (by simp), cell_of_row _ _ _ _ _ _ (heap_alloc_new w _)]
    rfl
theorem eq_any2 {w : World} {u v : Value} {x y : List UInt8} (he : y = x) (h1 : Reads w u x.length (x.map U)) (h2 : Reads w v y.length (y.map U)) :
    Calls Tryz.prog 18 #[u, v] w fun e w' => e = .returned (.bool true) ∧ Below w.heap.size w w' := by
  subst he
  exact eqb_same _ _ y w h1 h2
theorem cat_strs {w : World} {o1 o2 : Option Addr} {n1 n2 c1 c2 : Nat} {x y : List (List UInt8)} (h1 : Reads w (.slice o1 n1 c1) x.length (x.map S)) (h2 : Reads w (.slice o2 n2 c2) y.length (y.map S)) (hl : (x ++ y).length ≤ 4000) :
    Calls Tryz.prog 29 #[.slice (some ⟨w.heap.size, 0, none⟩) 2 2] (w.alloc (.cells #[.slice o1 n1 c1, .slice o2 n2 c2] 34)).drew fun e w' => ∃ o cp N, e = .returned (.slice o N cp) ∧ Hid (Reads w' (.slice o N cp) (x ++ y).length ((x ++ y).map S)) ∧ Hid (Below w.heap.size w w') := by
  have hn : Lists (w.alloc (.cells #[.slice o1 n1 c1, .slice o2 n2 c2] 34)).drew w.heap.size S [x, y] := (new_two h1 h2).below (Below.refl _ _).drew
  have hC := concat_strs w.heap.size [x, y] _ hn (by simp) (by simp only [List.flatten_cons, List.flatten_nil, List.append_nil]; omega)
  have e1 : [x, y].flatten = x ++ y := by simp
  rw [e1] at hC
  refine hC.mono ?_
  rintro e w' ⟨r, rfl, h3, h4⟩
  have h3' := Reads.of_owns h3
  obtain ⟨_, o2, cp2, rfl, _⟩ := id h3'
  exact ⟨o2, cp2, _, rfl, h3', box_of.drew.trans (h4.mono (by simp))⟩
theorem bytes_turned {w w10 : World} {o : Option Addr} {N c : Nat} {ls : List (List UInt8)} (h : Reads w10 (.slice o N c) ls.length (ls.map S)) (hb : bad 4000 ls = 0) (hs : ∀ s ∈ ls, s.length ≤ 4000) (hB : Below w.heap.size w w10) :
    Calls Tryz.prog 28 #[.slice o N c] w10 fun e w' => ∃ o cp N, e = .returned (.tuple #[.slice o N cp, .int .i64 0]) ∧ Hid (Reads w' (.slice o N cp) (ended ls).length ((ended ls).map U)) ∧ Hid (Below w.heap.size w w') := by
  refine (bytes_reads _ ls w10 h (fun s hs' => Nat.le_trans (hs s hs') (by omega))).mono ?_
  rintro e w' (⟨h0, _⟩ | ⟨_, r, rfl, h1, h2⟩)
  · exact absurd hb h0
  · have h3 := Reads.of_owns h1
    obtain ⟨_, o2, cp2, rfl, _⟩ := id h3
    exact ⟨o2, cp2, _, rfl, h3, hB.trans (h2.mono hB.size)⟩

set_option maxRecDepth 100000 in
set_option maxHeartbeats 8000000 in
theorem twice_ok (k n : Int) (word : List UInt8) (kk : Int) (hk1 : -9223372036854775808 ≤ kk) (hk2 : kk ≤ 9223372036854775807) (ob : Option Addr) (cb : Nat) (b : List UInt8) (w : World) (hw : word.length ≤ 9223372036854775807) (h2 : Reads w (.slice ob b.length cb) b.length (b.map U)) (h3 : Known w) (h4 : w.ShapedOpen Tryz.prog) (hr : chk ⟨k, word, n⟩ = 0) (hsm : b.length ≤ 2000) :
    Calls Tryz.prog 5 #[.agg #[.int .i64 k, .string ⟨word.toArray⟩, .int .i64 n], .slice ob b.length cb, .int .i64 kk] w fun e w' => e = .returned (.bool true) ∧ Below w.heap.size w w' := by
  have E0 : Hid (EachAt _ _ _ _ _ _ _) := each_start (c := ⟨k, word, n⟩) h2 h2 h3 h4
  have hC : ∀ W, Calls Tryz.prog 13 #[.agg #[.int .i64 k, .string ⟨word.toArray⟩, .int .i64 n]] W fun e w' => e = .returned (.int .i64 0) ∧ Below W.heap.size W w' := fun W => by rw [← hr]; exact check_is ⟨k, word, n⟩ W hw
  have HL : Hid _ := do_lay ⟨k, word, n⟩ hw hr
  have HC : Hid (chk ⟨k, word, n⟩ = 0) := hr
  have hlen : (doOut ⟨k, word, n⟩ b).length ≤ 2006 := by have := doOut_len ⟨k, word, n⟩ hr b (by omega); omega
  clear h2 h3 h4 hr hw
  go_enter Tryz.func5, Tryz.ntmps5
  go_wp2_with fail
  refine (did_true _ E0.out.known).mono ?_
  rintro e w1 ⟨rfl, hb1⟩
  have E1 : Hid (EachAt w1 w.heap.size ⟨k, word, n⟩ (.slice ob b.length cb) (.slice ob b.length cb) b b) := E0.out.below hb1
  have HB1 : Hid (Below w.heap.size w w1) := box_of.trans (hb1.mono (by simp))
  obtain ⟨x0, x1, x2⟩ := eachat_cells (w' := w) E1.out
  clear hb1 E0
  go_wp2_with fail
  refine (hC _).mono ?_
  rintro e w3 ⟨rfl, hb3⟩
  have E3 : Hid (EachAt w3 w.heap.size ⟨k, word, n⟩ (.slice ob b.length cb) (.slice ob b.length cb) b b) := E1.out.below hb3
  have HB3 : Hid (Below w.heap.size w w3) := HB1.out.trans (hb3.mono HB1.out.size)
  clear hb3 x0 x1 x2 hC E1 HB1
  go_wp2_with fail
  refine (small_one E3.out (by omega)).mono ?_
  rintro e w4 ⟨rfl, hb4⟩
  have E4 : Hid (EachAt w4 w.heap.size ⟨k, word, n⟩ (.slice ob b.length cb) (.slice ob b.length cb) b b) := E3.out.below hb4
  have HB4 : Hid (Below w.heap.size w w4) := HB3.out.trans (hb4.mono HB3.out.size)
  have hd : decide (b.length ≤ 2000) = true := decide_eq_true hsm
  rw [hd]
  clear hb4 hd E3 HB3
  obtain ⟨x0, x1, x2⟩ := eachat_cells (w' := w) E4.out
  go_wp2_with fail
  refine (HL.out (.slice ob b.length cb) b w4 E4.out.2.2.2.1 (by omega) E4.out.known).mono ?_
  rintro e w5 ⟨ox, cx, rfl, hx5, hb5⟩
  have E5 : Hid (EachAt w5 w.heap.size ⟨k, word, n⟩ (.slice ob b.length cb) (.slice ob b.length cb) b b) := E4.out.below hb5
  have HB5 : Hid (Below w.heap.size w w5) := HB4.out.trans (hb5.mono HB4.out.size)
  have HX5 : Hid (Reads w5 (.slice ox (doOut ⟨k, word, n⟩ b).length cx) (doOut ⟨k, word, n⟩ b).length ((doOut ⟨k, word, n⟩ b).map U)) := hx5
  clear hb5 hx5 x0 x1 x2 E4 HB4
  obtain ⟨x0, x1, x2⟩ := eachat_cells (w' := w) E5.out
  go_wp2_with fail
  refine (HL.out (.slice ox (doOut ⟨k, word, n⟩ b).length cx) (doOut ⟨k, word, n⟩ b) w5 HX5.out (by omega) E5.out.known).mono ?_
  rintro e w6 ⟨oy, cy, rfl, hy6, hb6⟩
  have E6 : Hid (EachAt w6 w.heap.size ⟨k, word, n⟩ (.slice ob b.length cb) (.slice ob b.length cb) b b) := E5.out.below hb6
  have HB6 : Hid (Below w.heap.size w w6) := HB5.out.trans (hb6.mono HB5.out.size)
  have HX6 : Hid (Reads w6 (.slice ox (doOut ⟨k, word, n⟩ b).length cx) (doOut ⟨k, word, n⟩ b).length ((doOut ⟨k, word, n⟩ b).map U)) := HX5.out.below hb6
  have HY6 : Hid (Reads w6 (.slice oy (doOut ⟨k, word, n⟩ (doOut ⟨k, word, n⟩ b)).length cy) (doOut ⟨k, word, n⟩ (doOut ⟨k, word, n⟩ b)).length ((doOut ⟨k, word, n⟩ (doOut ⟨k, word, n⟩ b)).map U)) := hy6
  clear hb6 hy6 x0 x1 x2 E5 HX5 HB5
  obtain ⟨x0, x1, x2⟩ := eachat_cells (w' := w) E6.out
  go_upto_block 0 with fail
  go_cut [] (fun wc => Hid (EachAt wc w.heap.size ⟨k, word, n⟩ (.slice ob b.length cb) (.slice ob b.length cb) b b) ∧ Hid (Below w.heap.size w wc))
  case first =>
    have hks := chk_kinds _ HC.out
    simp only at hks
    have hkk : k = 1 ∨ k = 2 ∨ k = 3 ∨ k = 4 ∨ k = 5 ∨ k = 6 ∨ k = 7 ∨ k = 8 ∨ k = 9 ∨ k = 10 := by omega
    have HSame : Hid (k = 6 ∨ k = 7 ∨ k = 1 ∨ k = 2 ∨ k = 9 ∨ k = 10 → doOut ⟨k, word, n⟩ (doOut ⟨k, word, n⟩ b) = doOut ⟨k, word, n⟩ b) := fun h => twice_same _ HC.out h b
    clear hks
    rcases hkk with rfl | rfl | rfl | rfl | rfl | rfl | rfl | rfl | rfl | rfl
    · go_wp2_with fail
      refine (eq_twice (HSame.out (by decide)) HX6.out HY6.out).mono ?_
      rintro e w7 ⟨rfl, hb7⟩
      have E7 : Hid _ := E6.out.below hb7
      have HB7 : Hid _ := HB6.out.trans (hb7.mono HB6.out.size)
      clear hb7
      go_wp2_with fail
      go_meet
      exact ⟨E7, HB7⟩
    · go_wp2_with fail
      refine (eq_twice (HSame.out (by decide)) HX6.out HY6.out).mono ?_
      rintro e w7 ⟨rfl, hb7⟩
      have E7 : Hid _ := E6.out.below hb7
      have HB7 : Hid _ := HB6.out.trans (hb7.mono HB6.out.size)
      clear hb7
      go_wp2_with fail
      go_meet
      exact ⟨E7, HB7⟩
    · obtain ⟨a, c, rfl⟩ := two_word (chk_le HC.out rfl).1
      by_cases hac : a = c
      · subst hac
        have hg : (((ByteArray.mk #[a, a])[0]'(Nat.succ_pos 1) |>.toNat : Int) != ((ByteArray.mk #[a, a])[1]'(Nat.lt_succ_self 1) |>.toNat : Int)) = false := bne_self_eq_false (a.toNat : Int)
        go_wp2_with fail
        go_quiet (fail)
        go_wp2_with fail
        go_meet
        exact ⟨E6.out.below (below_drewN' (Below.refl _ _) _), below_drewN' HB6.out _⟩
      · have hg : (((ByteArray.mk #[a, c])[0]'(Nat.succ_pos 1) |>.toNat : Int) != ((ByteArray.mk #[a, c])[1]'(Nat.lt_succ_self 1) |>.toNat : Int)) = true :=
          bne_iff_ne.2 (fun h => hac (UInt8.toNat_inj.1 (by
            have h' : (a.toNat : Int) = (c.toNat : Int) := h
            omega)))
        have HN : Hid (a ∉ doOut ⟨3, [a, c], n⟩ b) := swap_gone _ HC.out rfl (by simpa using hac) b
        go_wp2_with fail
        go_quiet (first | (go_at_call 25; refine Calls.quiet_of_same (contains_no _ _ a _ ?_ HN.out); exact HX6.out.below (below_drewN' (Below.refl _ _) _)))
        go_wp2_with fail
        go_meet
        exact ⟨E6.out.below (below_drewN' (Below.refl _ _) _), below_drewN' HB6.out _⟩
    · go_wp2_with fail
      go_meet
      exact ⟨E6, HB6⟩
    · go_wp2_with fail
      refine (whole_is (.slice ob b.length cb) b _ E6.out.2.2.2.1 E6.out.2.2.2.2.2.2 (by omega)).mono ?_
      rintro e w7 ⟨r7, rfl, hr7, hb7⟩
      have HR7 : Hid (Reads w7 r7 (ended (lines b)).length ((ended (lines b)).map U)) := hr7
      have HY7 : Hid (Reads w7 (.slice oy (doOut ⟨5, word, n⟩ (doOut ⟨5, word, n⟩ b)).length cy) (doOut ⟨5, word, n⟩ (doOut ⟨5, word, n⟩ b)).length ((doOut ⟨5, word, n⟩ (doOut ⟨5, word, n⟩ b)).map U)) := HY6.out.below hb7
      have E7 : Hid (EachAt w7 w.heap.size ⟨5, word, n⟩ (.slice ob b.length cb) (.slice ob b.length cb) b b) := E6.out.below hb7
      have HB7 : Hid (Below w.heap.size w w7) := HB6.out.trans (hb7.mono HB6.out.size)
      clear hr7 hb7 x0 x1 x2
      go_wp2_with fail
      refine (eq_turn (twice_turn _ rfl b) HY7.out HR7.out).mono ?_
      rintro e w8 ⟨rfl, hb8⟩
      have E8 : Hid _ := E7.out.below hb8
      have HB8 : Hid _ := HB7.out.trans (hb8.mono HB7.out.size)
      clear hb8
      go_wp2_with fail
      go_meet
      exact ⟨E8, HB8⟩
    · go_wp2_with fail
      refine (eq_twice (HSame.out (by decide)) HX6.out HY6.out).mono ?_
      rintro e w7 ⟨rfl, hb7⟩
      have E7 : Hid _ := E6.out.below hb7
      have HB7 : Hid _ := HB6.out.trans (hb7.mono HB6.out.size)
      clear hb7
      go_wp2_with fail
      go_meet
      exact ⟨E7, HB7⟩
    · go_wp2_with fail
      refine (eq_twice (HSame.out (by decide)) HX6.out HY6.out).mono ?_
      rintro e w7 ⟨rfl, hb7⟩
      have E7 : Hid _ := E6.out.below hb7
      have HB7 : Hid _ := HB6.out.trans (hb7.mono HB6.out.size)
      clear hb7
      go_wp2_with fail
      go_meet
      exact ⟨E7, HB7⟩
    · go_wp2_with fail
      go_meet
      exact ⟨E6, HB6⟩
    · go_wp2_with fail
      refine (eq_twice (HSame.out (by decide)) HX6.out HY6.out).mono ?_
      rintro e w7 ⟨rfl, hb7⟩
      have E7 : Hid _ := E6.out.below hb7
      have HB7 : Hid _ := HB6.out.trans (hb7.mono HB6.out.size)
      clear hb7
      go_wp2_with fail
      go_meet
      exact ⟨E7, HB7⟩
    · go_wp2_with fail
      refine (eq_twice (HSame.out (by decide)) HX6.out HY6.out).mono ?_
      rintro e w7 ⟨rfl, hb7⟩
      have E7 : Hid _ := E6.out.below hb7
      have HB7 : Hid _ := HB6.out.trans (hb7.mono HB6.out.size)
      clear hb7
      go_wp2_with fail
      go_meet
      exact ⟨E7, HB7⟩
  case rest =>
    obtain ⟨E7, HB7⟩ := hcut
    clear x0 x1 x2 HX6 HY6 E6 HB6
    go_wp2_with fail
    refine (of_reads (.slice ob b.length cb) b wc E7.out.2.2.2.1 (by omega)).mono ?_
    rintro e w8 ⟨l, rfl, hown8, hb8⟩
    have E8 : Hid (EachAt w8 w.heap.size ⟨k, word, n⟩ (.slice ob b.length cb) (.slice ob b.length cb) b b) := E7.out.below hb8
    have HB8 : Hid (Below w.heap.size w w8) := HB7.out.trans (hb8.mono HB7.out.size)
    obtain ⟨L, hL⟩ : ∃ L, L = (lines b).length := ⟨_, rfl⟩
    have hL4 : L ≤ 2000 := by have := lines_length b; omega
    have HL0 : Hid (L = (lines b).length) := hL
    have HO8 : Hid (∃ ol cl, l = .slice ol L cl) := by
      obtain ⟨_, ol, cl, h, _⟩ := Reads.of_owns hown8
      exact ⟨ol, cl, by rw [hL]; exact h⟩
    obtain ⟨ol, cl, rfl⟩ := HO8.out
    have HW8 : Hid (w8.ownsRow wc.heap.size 9 1 (.slice ol L cl) L ((lines b).map S)) := by
      rw [← hL] at hown8
      exact hown8
    clear hb8 hown8 E7 HB7 HO8 hL
    go_wp2_with fail
    refine (at_plus kk L w8 hk1 hk2 (by omega)).mono ?_
    rintro e w9 ⟨m, hm, rfl, hw9⟩
    obtain rfl : w8 = w9 := hw9.symm
    clear hw9
    have hm' : m ≤ L := by omega
    go_upto_region 26 with fail
    go_cut [12, 8] (fun t s wx => s = .int .i64 0 ∧ ∃ o c N, t = .slice o N c ∧ Hid (Reads wx (.slice o N c) (ended ((lines b).drop m ++ (lines b).take m)).length ((ended ((lines b).drop m ++ (lines b).take m)).map U)) ∧ Hid (Below w8.heap.size w8 wx))
    case first =>
      have HBad : Hid (bad 4000 ((lines b).drop m ++ (lines b).take m) = 0 ∧ (∀ s ∈ (lines b).drop m ++ (lines b).take m, s.length ≤ 4000) ∧ ((lines b).drop m ++ (lines b).take m).length ≤ 4000) := turned_fine b m (by omega)
      have HTl : Hid (((lines b).take m).length = m ∧ ((lines b).drop m).length = L - m) := turned_len HL0.out hm'
      rcases turned_cases HW8.out HL0.out with ⟨rfl, rfl, hl0⟩ | ⟨g, rfl, hLc, hcm⟩
      · obtain rfl : L = 0 := hl0
        obtain rfl : m = 0 := by omega
        have RD : Hid (Reads w8 (.slice none 0 0) ((lines b).drop 0).length (((lines b).drop 0).map S)) := nil_reads HL0.out
        have RT : Hid (Reads w8 (.slice none 0 0) ((lines b).take 0).length (((lines b).take 0).map S)) := nil_reads' _
        go_region_with (first
          | (go_at_call 29; refine (cat_strs RD.out RT.out HBad.out.2.2).mono ?_; rintro e w10 ⟨o10, c10, N10, rfl, R10, B10⟩)
          | (go_at_call 28; refine (bytes_turned R10.out HBad.out.1 HBad.out.2.1 B10.out).mono ?_; rintro e w11 ⟨o11, c11, N11, rfl, R11, B11⟩))
        all_goals (go_wp2_with fail; go_meet; exact ⟨rfl, o11, c11, N11, rfl, R11, B11⟩)
      · have hcm' : cl ≤ 9223372036854775807 := by simpa [maxLen] using hcm
        have RT : Hid (Reads w8 (.slice (some ⟨g, 0, none⟩) m cl) ((lines b).take m).length (((lines b).take m).map S)) := len_reads HTl.out.1 (take_reads HW8.out HL0.out hm')
        by_cases hcz : cl = m
        · subst hcz
          have RD : Hid (Reads w8 (.slice (some ⟨g, 0, none⟩) 0 0) ((lines b).drop cl).length (((lines b).drop cl).map S)) := drop_reads0 (by have := HL0.out; omega)
          go_region_with (first
            | (go_at_call 29; refine (cat_strs RD.out RT.out HBad.out.2.2).mono ?_; rintro e w10 ⟨o10, c10, N10, rfl, R10, B10⟩)
            | (go_at_call 28; refine (bytes_turned R10.out HBad.out.1 HBad.out.2.1 B10.out).mono ?_; rintro e w11 ⟨o11, c11, N11, rfl, R11, B11⟩))
          all_goals (go_wp2_with fail; go_meet; exact ⟨rfl, o11, c11, N11, rfl, R11, B11⟩)
        · have hcz' : ¬ (cl - m = 0) := by omega
          have RD : Hid (Reads w8 (.slice (some ⟨g, m, none⟩) (L - m) (cl - m)) ((lines b).drop m).length (((lines b).drop m).map S)) := len_reads HTl.out.2 (drop_reads HW8.out HL0.out hm')
          go_region_with (first
            | (go_at_call 29; refine (cat_strs RD.out RT.out HBad.out.2.2).mono ?_; rintro e w10 ⟨o10, c10, N10, rfl, R10, B10⟩)
            | (go_at_call 28; refine (bytes_turned R10.out HBad.out.1 HBad.out.2.1 B10.out).mono ?_; rintro e w11 ⟨o11, c11, N11, rfl, R11, B11⟩))
          all_goals (go_wp2_with fail; go_meet; exact ⟨rfl, o11, c11, N11, rfl, R11, B11⟩)
    case rest =>
      obtain ⟨rfl, o11, c11, N11, rfl, R11, B11⟩ := hcut
      have E11 : Hid (EachAt wc w.heap.size ⟨k, word, n⟩ (.slice ob b.length cb) (.slice ob b.length cb) b b) := E8.out.below B11.out
      have HB11 : Hid (Below w.heap.size w wc) := HB8.out.trans (B11.out.mono HB8.out.size)
      have HS : Hid _ := do_lay ⟨6, [], 0⟩ (by decide) (by decide)
      have hpl : (ended ((lines b).drop m ++ (lines b).take m)).length ≤ 4000 := by have h := turned_fine b m (by omega); exact (bad_ok _ 4000 h.1).1
      have HPL : Hid _ := hpl
      have HEQ : Hid (doOut ⟨6, [], 0⟩ (ended ((lines b).drop m ++ (lines b).take m)) = doOut ⟨6, [], 0⟩ b) := sort_turned ⟨6, [], 0⟩ rfl b m
      clear hpl E8 HB8 B11 HW8 HL HC
      go_wp2_with fail
      refine (HS.out (.slice ob b.length cb) b _ (E11.out.2.2.2.1.below box_of) (by omega) (E11.out.known.below box_of)).mono ?_
      rintro e w12 ⟨op, cp, rfl, hp12, hb12⟩
      have hx12 := box_cells3 hb12
      have HB12 : Hid (Below wc.heap.size wc w12) := box_of.trans (hb12.mono (by simp))
      have R12 : Hid (Reads w12 (.slice o11 N11 c11) (ended ((lines b).drop m ++ (lines b).take m)).length ((ended ((lines b).drop m ++ (lines b).take m)).map U)) := R11.out.below HB12.out
      have K12 : Hid (Known w12) := E11.out.known.below HB12.out
      have P12 : Hid (Reads w12 (.slice op (doOut ⟨6, [], 0⟩ b).length cp) (doOut ⟨6, [], 0⟩ b).length ((doOut ⟨6, [], 0⟩ b).map U)) := hp12
      have HB12' : Hid (Below w.heap.size w w12) := HB11.out.trans (HB12.out.mono HB11.out.size)
      obtain ⟨x0, x1, x2⟩ := hx12
      clear hb12 hp12 R11 E11 HB11 HB12
      go_wp2_with fail
      refine (HS.out (.slice o11 N11 c11) (ended ((lines b).drop m ++ (lines b).take m)) w12 R12.out HPL.out K12.out).mono ?_
      rintro e w13 ⟨oq, cq, rfl, hq13, hb13⟩
      have P13 : Hid (Reads w13 (.slice op (doOut ⟨6, [], 0⟩ b).length cp) (doOut ⟨6, [], 0⟩ b).length ((doOut ⟨6, [], 0⟩ b).map U)) := P12.out.below hb13
      have Q13 : Hid (Reads w13 (.slice oq (doOut ⟨6, [], 0⟩ (ended ((lines b).drop m ++ (lines b).take m))).length cq) (doOut ⟨6, [], 0⟩ (ended ((lines b).drop m ++ (lines b).take m))).length ((doOut ⟨6, [], 0⟩ (ended ((lines b).drop m ++ (lines b).take m))).map U)) := hq13
      have HB13 : Hid (Below w.heap.size w w13) := HB12'.out.trans (hb13.mono HB12'.out.size)
      clear hq13 hb13 x0 x1 x2 P12 R12 HB12' K12
      go_wp2_with fail
      refine (eq_any2 HEQ.out P13.out Q13.out).mono ?_
      rintro e w14 ⟨rfl, hb14⟩
      have HB14 : Hid (Below w.heap.size w w14) := HB13.out.trans (hb14.mono HB13.out.size)
      clear hb14
      go_wp2_with fail
      go_ret
      exact ⟨rfl, HB14.out⟩
end Go.Proofs.YtkifihcficobnaaGreatDoor
