/- What the developers' join's number and sum do. What the developers' join's sum, For, Check and command's Over do. What the developers' join's Check does. -/
import Derived.Test.YtkifihcficobnaaGreatDoorJoinE
import Derived.Test.YtkifihcficobnaaGreatDoorPlainF
import Derived.Test.YtkifihcficobnaaGreatDoorOverF
import Derived.Lib.IfaceNeq
import Derived.Test.YtkifihcficobnaaGreatDoorShelf5
import Derived.Laws.StructEq
namespace Go.Proofs.YtkifihcficobnaaGreatDoor
open Go.RowKit Go.Gs
set_option linter.unusedVariables false

/-- What is known of the world beside: the library's two errors are there. -/
def IsErr (w : World) (g : Nat) : Prop := ∃ ev, w.cell? ⟨g, 0, none⟩ = some ev ∧ (ev = .nilIface ∨ ∃ te pe, ev = .iface te pe)
theorem IsErr.below {w w' : World} {g : Nat} (h : IsErr w g) (hb : Below w.heap.size w w') : IsErr w' g := by
  obtain ⟨ev, h1, h2⟩ := h
  exact ⟨ev, (hb.cell (World.block_lt_of_cell? w _ h1)).trans h1, h2⟩
def KnownE (w : World) : Prop := Known w ∧ IsErr w 2 ∧ IsErr w 3
theorem KnownE.below {w w' : World} (h : KnownE w) (hb : Below w.heap.size w w') : KnownE w' := ⟨h.1.below hb, h.2.1.below hb, h.2.2.below hb⟩

theorem itoa_is (n : Int) (w : World) (h0 : -9223372036854775808 ≤ n) (h1 : n ≤ 9223372036854775807) (hK : Known w) :
    Calls Tryz.prog 60 #[.int .i64 n] w fun e w' => e = .returned (.string ⟨(Lib.itoa n).toArray⟩) ∧ Below w.heap.size w w' := by
  refine (Tryz.strconv_Itoa n h0 h1 w hK.2).mono ?_
  rintro e w1 ⟨rfl, q, os, hw1⟩
  exact ⟨rfl, by rw [hw1]; exact below_grow' _ _ (Nat.le_refl _)⟩
theorem bytes_below {w w' : World} (h : w' = w ∨ ∃ t, w' = Lib.bytesWorld w 5 t) : Below w.heap.size w w' := by
  rcases h with rfl | ⟨t, rfl⟩
  · exact Below.refl _ _
  · exact Lib.bytesWorld_below _ _ _
theorem atoi_ok (s : ByteArray) (n : Int) (w : World) (hs : s.size ≤ 281474976710656) (h : Lib.atoiAll s.data.toList = .ok n) :
    Calls Tryz.prog 39 #[.string s] w fun e w' => e = .returned (.tuple #[.int .i64 n, .nilIface]) ∧ Below w.heap.size w w' := by
  refine (Tryz.strconv_Atoi_ok s (by omega) n h w).mono ?_
  rintro e w' ⟨rfl, hw⟩
  exact ⟨rfl, bytes_below hw⟩
theorem atoi_bad (s : ByteArray) (w : World) (hs : s.size ≤ 281474976710656) (hE : KnownE w) (h : ∀ n, Lib.atoiAll s.data.toList ≠ .ok n) :
    Calls Tryz.prog 39 #[.string s] w fun e w' => ∃ z t p, e = .returned (.tuple #[.int .i64 z, .iface t p]) ∧ Below w.heap.size w w' := by
  cases hc : Lib.atoiAll s.data.toList with
  | ok n => exact absurd hc (h n)
  | «syntax» =>
    obtain ⟨ev, h1, h2⟩ := hE.2.1
    refine (Tryz.strconv_Atoi_syntax s hs hc ev w h1 h2).mono ?_
    rintro e w' ⟨N, rfl, _, _, hb⟩
    exact ⟨_, _, _, rfl, hb⟩
  | range =>
    obtain ⟨ev, h1, h2⟩ := hE.2.2
    refine (Tryz.strconv_Atoi_range s hs hc ev w h1 h2).mono ?_
    rintro e w' ⟨N, rfl, _, _, hb⟩
    exact ⟨_, _, _, rfl, hb⟩

set_option maxRecDepth 100000 in
set_option maxHeartbeats 4000000 in
theorem number_is (s : List UInt8) (w : World) (hs : s.length ≤ 1000000) (hE : KnownE w) :
    Calls Tryz.prog 141 #[.string ⟨s.toArray⟩] w fun e w' => e = .returned (.int .i64 (numOf s : Int)) ∧ Below w.heap.size w w' := by
  have hd : (⟨s.toArray⟩ : ByteArray).data.toList = s := rfl
  have hsz : (⟨s.toArray⟩ : ByteArray).size = s.length := by simp [ByteArray.size]
  by_cases hok : ∃ n, Lib.atoiAll s = .ok n
  · obtain ⟨n, hn⟩ := hok
    have hb := Lib.atoiAll_bounds hn
    have hA := atoi_ok ⟨s.toArray⟩ n w (by omega) (by rw [hd]; exact hn)
    have hN := numOf_ok hn
    have hI := fun (W : World) (h : Known W) => itoa_is n W hb.1 hb.2 h
    have HE : Hid (KnownE w) := hE
    by_cases h0 : n < 0
    · have HN : Hid (numOf s = 0) := (show _ = _ by rw [hN, if_neg (by omega)])
      clear hN hI hE hd hsz
      go_enter Tryz.func141, Tryz.ntmps141
      go_wp2_with fail
      refine hA.mono ?_
      rintro e w1 ⟨rfl, hb1⟩
      have HB : Hid (Below w.heap.size w w1) := hb1
      clear hb1 hA
      go_wp2_with fail
      go_ret
      exact ⟨by rw [HN.out]; rfl, HB.out⟩
    · by_cases h1 : 4000 < n
      · have HN : Hid (numOf s = 0) := (show _ = _ by rw [hN, if_neg (by omega)])
        clear hN hI hE hd hsz
        go_enter Tryz.func141, Tryz.ntmps141
        go_wp2_with fail
        refine hA.mono ?_
        rintro e w1 ⟨rfl, hb1⟩
        have HB : Hid (Below w.heap.size w w1) := hb1
        clear hb1 hA
        go_wp2_with fail
        go_ret
        exact ⟨by rw [HN.out]; rfl, HB.out⟩
      · have hI' : ∀ (W : World), Known W → Calls Tryz.prog 60 #[.int .i64 n] W fun e w' => ∃ tx : ByteArray, e = .returned (.string tx) ∧ Hid (Value.string tx = S (Lib.itoa n)) ∧ Below W.heap.size W w' := by
          intro W hK
          refine (hI W hK).mono ?_
          rintro e w' ⟨rfl, hb⟩
          exact ⟨_, rfl, rfl, hb⟩
        obtain ⟨sx, hsx⟩ : ∃ sx : ByteArray, sx = ⟨s.toArray⟩ := ⟨_, rfl⟩
        have HSX : Hid (Value.string sx = S s) := by rw [hsx]; exact rfl
        rw [← hsx] at hA ⊢
        have HN : Hid _ := hN
        have HI : Hid _ := hI'
        have HNn : Hid (0 ≤ n ∧ n ≤ 4000) := ⟨by omega, by omega⟩
        clear hN hI hI' hE hd hsz hsx
        go_enter Tryz.func141, Tryz.ntmps141
        go_wp2_with fail
        refine hA.mono ?_
        rintro e w1 ⟨rfl, hb1⟩
        have HB : Hid (Below w.heap.size w w1) := hb1
        clear hb1 hA
        go_wp2_with fail
        refine (HI.out w1 (HE.out.below HB.out).1).mono ?_
        rintro e w2 ⟨tx, rfl, htx, hb2⟩
        have HB2 : Hid (Below w.heap.size w w2) := HB.out.trans (hb2.mono HB.out.size)
        clear hb2
        by_cases heq : Lib.itoa n = s
        · have hbe : (tx.toList == sx.toList) = true := by rw [str_data htx.out, str_data HSX.out, heq]; simp
          have HD : Hid ((numOf s : Int) = n) := (show _ = _ by
            rw [HN.out, if_pos ⟨HNn.out.1, HNn.out.2, heq⟩]
            have := HNn.out.1
            omega)
          clear heq
          go_wp2_with fail
          go_ret
          exact ⟨by rw [HD.out]; rfl, HB2.out⟩
        · have hbe : (tx.toList == sx.toList) = false := by rw [str_data htx.out, str_data HSX.out]; simpa using heq
          have HD : Hid ((numOf s : Int) = 0) := (show _ = _ by
            rw [HN.out, if_neg (fun h => heq h.2.2)]
            rfl)
          clear heq
          go_wp2_with fail
          go_ret
          exact ⟨by rw [HD.out]; rfl, HB2.out⟩
  · have hA := atoi_bad ⟨s.toArray⟩ w (by omega) hE (by rw [hd]; exact fun n h => hok ⟨n, h⟩)
    have HN : Hid (numOf s = 0) := numOf_bad (fun n h => hok ⟨n, h⟩)
    clear hok hE hd hsz
    go_enter Tryz.func141, Tryz.ntmps141
    go_wp2_with fail
    refine hA.mono ?_
    rintro e w1 ⟨z, t, p, rfl, hb1⟩
    have HB : Hid (Below w.heap.size w w1) := hb1
    clear hb1 hA
    go_wp2_with fail
    go_ret
    exact ⟨by rw [HN.out]; rfl, HB.out⟩
end Go.Proofs.YtkifihcficobnaaGreatDoor
namespace Go.Proofs.YtkifihcficobnaaGreatDoor
open Go.RowKit Go.Gs
set_option linter.unusedVariables false

theorem headNum_nil : headNum [] = 0 := rfl
theorem headNum_cons (x : List UInt8) (r : List (List UInt8)) : headNum (x :: r) = numOf x := by unfold headNum; rw [List.head?_cons, Option.map_some, Option.getD_some]
theorem jbox_cells {w w' : World} {a b c : Value} {t : TypeId} (h : Below (w.alloc (.cells #[a, b, c] t)).heap.size (w.alloc (.cells #[a, b, c] t)) w') : w'.cell? ⟨w.heap.size, 0, none⟩ = some a ∧ w'.cell? ⟨w.heap.size, 1, none⟩ = some b ∧ w'.cell? ⟨w.heap.size, 2, none⟩ = some c := by
  refine ⟨?_, ?_, ?_⟩
  all_goals
    rw [h.cell (by simp), cell_of_row _ _ _ _ _ _ (heap_alloc_new w _)]
    rfl

set_option maxRecDepth 100000 in
set_option maxHeartbeats 4000000 in
theorem sum_is (v : Value) (ps : List (List (List UInt8))) (w : World) (hp : RList w v S ps) (hn : ps.length ≤ 1000) (hsz : ∀ p ∈ ps, ∀ s ∈ p, s.length ≤ 1000000) (hE : KnownE w) :
    Calls Tryz.prog 108 #[v] w fun e w' => e = .returned (.int .i64 (sumOf ps : Int)) ∧ Below w.heap.size w w' := by
  obtain ⟨ao, cap, rfl, hc1, hc2⟩ := hp.shape
  have HP : Hid (RList w (.slice ao ps.length cap) S ps) := hp
  obtain ⟨N, hN⟩ : ∃ N, N = ps.length := ⟨_, rfl⟩
  have HN : Hid (N = ps.length) := hN
  have hN4 : N ≤ 1000 := by omega
  have HE : Hid (KnownE w) := hE
  have HSZ : Hid _ := hsz
  rw [← hN]
  clear hN hp hn hc1 hc2 hE hsz
  go_enter Tryz.func108, Tryz.ntmps108
  go_wp2_with fail
  go_loopw [3, 8] (fun s i wr => ∃ k : Nat, ∃ m : Nat, k ≤ N ∧ m ≤ 4000 * k ∧ i = .int .i64 k ∧ s = .int .i64 m ∧ Hid (Below w.heap.size w wr) ∧ Hid (m = sumOf (ps.take k)))
    (fun _ i _ => N - (intOf i).toNat)
  case atStart => exact ⟨0, 0, Nat.zero_le _, by omega, rfl, rfl, Below.refl _ _, (show _ = _ from by simp [sumOf])⟩
  case round =>
    obtain ⟨k, m, hk, hm, rfl, rfl, hbel, hmk⟩ := hrel
    by_cases hlt : k < N
    · obtain ⟨p, hpk⟩ : ∃ p, ps[k]? = some p := ⟨_, List.getElem?_eq_getElem (by have := HN.out; omega)⟩
      have HPr : Hid (RList wr (.slice ao N cap) S ps) := by rw [HN.out]; exact HP.out.below hbel.out
      obtain ⟨b, off, au, cu, rfl, hcell, hru⟩ := HPr.out.at hpk
      have HS : Hid (m + headNum p = sumOf (ps.take (k + 1))) := (show _ = _ from by rw [sumOf_take hpk, ← hmk.out])
      have hpm : p ∈ ps := List.mem_of_getElem? hpk
      cases p with
      | nil =>
        simp only [List.length_nil] at hcell
        rw [headNum_nil] at HS
        clear hpk hru hmk hpm
        go_wp2_with fail
        go_roundw
        case rel => exact ⟨k + 1, m, by omega, by omega, by go_num, rfl, hbel, HS⟩
        case measure => simp [intOf]; omega
      | cons x r =>
        obtain ⟨b1, o1, sx, rfl, hc1, hsx, hcu1, hcu2⟩ := reads_first hru
        obtain rfl : sx = ⟨x.toArray⟩ := by unfold S at hsx; injection hsx
        have hnum := number_is x wr (HSZ.out _ hpm x (by simp)) (HE.out.below hbel.out)
        have hle := numOf_le x
        rw [headNum_cons] at HS
        have hpl : (x :: r).length = r.length + 1 := rfl
        rw [hpl] at hcell hcu2
        clear hsx hru hpl hpk hmk hpm
        generalize r.length = rl at *
        generalize numOf x = z at *
        go_wp2_with (go_at_call 141; refine hnum.mono ?_; rintro e w1 ⟨rfl, hb1⟩)
        have HB1 : Hid (Below w.heap.size w w1) := hbel.out.trans (hb1.mono hbel.out.size)
        clear hb1 hnum
        go_wp2_with fail
        go_roundw
        case rel => exact ⟨k + 1, m + z, by omega, by omega, by go_num, by go_num, HB1, HS⟩
        case measure => simp [intOf]; omega
    · have hkN : k = N := by omega
      have HD : Hid (m = sumOf ps) := (show _ = _ from by
        have h := hmk.out
        rw [hkN, HN.out, List.take_length] at h
        exact h)
      clear hmk
      go_wp2_with fail
      go_ret
      refine ⟨?_, hbel.out⟩
      rw [← HD.out]
      rfl

end Go.Proofs.YtkifihcficobnaaGreatDoor
namespace Go.Proofs.YtkifihcficobnaaGreatDoor
open Go.RowKit Go.Gs
set_option linter.unusedVariables false

theorem jchk_range {how : Int} {c : Cmd} (h : how < 1 ∨ 4 < how) : jchk how c = 4 := by unfold jchk; rw [if_pos h]
theorem jchk_again {c : Cmd} : jchk 4 c = chk c := by unfold jchk; rw [if_neg (by omega), if_pos rfl]
theorem jchk_zero {how : Int} {c : Cmd} (h1 : 1 ≤ how) (h2 : how < 4) (h : c.kind = 0 ∧ c.word = [] ∧ c.n = 0) : jchk how c = 0 := by unfold jchk; rw [if_neg (by omega), if_neg (by omega), if_pos h]
theorem jchk_some {how : Int} {c : Cmd} (h1 : 1 ≤ how) (h2 : how < 4) (h : ¬ (c.kind = 0 ∧ c.word = [] ∧ c.n = 0)) : jchk how c = 4 := by unfold jchk; rw [if_neg (by omega), if_neg (by omega), if_neg h]

set_option maxRecDepth 100000 in
set_option maxHeartbeats 4000000 in
theorem jcheck_is (how : Int) (c : Cmd) (w : World) (hw : c.word.length ≤ 9223372036854775807) :
    Calls Tryz.prog 34 #[.int .i64 how, c.v] w fun e w' => e = .returned (.int .i64 (jchk how c)) ∧ Below w.heap.size w w' := by
  have hchk := fun W => check_is c W hw
  have hem := @empty_of c.word
  have hfu := @full_of c.word
  obtain ⟨k, word, n⟩ := c
  unfold Cmd.v at hchk ⊢
  simp only at hchk hem hfu ⊢
  by_cases hr : how < 1 ∨ 4 < how
  · rw [jchk_range hr]
    clear hchk hem hfu
    generalize (⟨word.toArray⟩ : ByteArray) = sx at *
    rcases hr with hr | hr
    · go_enter Tryz.func34, Tryz.ntmps34
      go_wp2_with fail
      go_ret
      exact ⟨rfl, box_of⟩
    · have hr' : ¬ how < 1 := by omega
      go_enter Tryz.func34, Tryz.ntmps34
      go_wp2_with fail
      go_ret
      exact ⟨rfl, box_of⟩
  · by_cases h4 : how = 4
    · subst h4
      rw [jchk_again]
      clear hem hfu
      generalize (⟨word.toArray⟩ : ByteArray) = sx at *
      generalize chk ⟨k, word, n⟩ = r at *
      go_enter Tryz.func34, Tryz.ntmps34
      go_wp2_with fail
      refine (hchk _).mono ?_
      rintro e w1 ⟨rfl, hb1⟩
      have HB : Hid (Below w.heap.size w w1) := box_of.trans (hb1.mono (by simp))
      clear hb1 hchk
      go_wp2_with fail
      go_ret
      exact ⟨rfl, HB.out⟩
    · have h1 : ¬ how < 1 := by omega
      have h2 : ¬ 4 < how := by omega
      clear hchk hr
      by_cases hz : k = 0 ∧ word = [] ∧ n = 0
      · obtain ⟨rfl, rfl, rfl⟩ := hz
        rw [jchk_zero (by omega) (by omega) ⟨rfl, rfl, rfl⟩]
        clear hem hfu
        go_enter Tryz.func34, Tryz.ntmps34
        go_wp2_with fail
        go_ret
        exact ⟨rfl, box_of⟩
      · rw [jchk_some (by omega) (by omega) hz]
        obtain ⟨d, hd⟩ : ∃ d, (⟨word.toArray⟩ : ByteArray).toList.isEmpty = d := ⟨_, rfl⟩
        have hfin : ¬ (k = 0 ∧ d = true ∧ n = 0) := by
          rintro ⟨h1, h2, h3⟩
          apply hz
          refine ⟨h1, ?_, h3⟩
          cases word with
          | nil => rfl
          | cons x r => rw [hfu (by simp)] at hd; rw [← hd] at h2; cases h2
        clear hz hem hfu
        generalize (⟨word.toArray⟩ : ByteArray) = sx at *
        go_enter Tryz.func34, Tryz.ntmps34
        go_wp2_with fail
        all_goals first | (go_ret; exact ⟨rfl, box_of⟩) | (exfalso; apply hfin; simp_all)

theorem strs_of {w : World} {b off : Nat} {ls : List (List UInt8)} (hc : ∀ j u, (ls.map S)[j]? = some u → w.cell? ⟨b, off + j, none⟩ = some u) : ∀ j, j < (ls.map fun l => (⟨l.toArray⟩ : ByteArray)).length → w.cell? ⟨b, off + j, none⟩ = some (.string ((ls.map fun l => (⟨l.toArray⟩ : ByteArray)).getD j ByteArray.empty)) := by
  intro j hj
  have hj' : j < ls.length := by simpa using hj
  have := hc j (S ls[j]) (by simp [hj'])
  rw [this]
  simp [S, List.getD_eq_getElem?_getD, hj']
theorem clone_is (v : Value) (ls : List (List UInt8)) (w : World) (hr : Reads w v ls.length (ls.map S)) (hl : ls.length ≤ 1000000) :
    Calls Tryz.prog 142 #[v] w fun e w' => ∃ r, e = .returned r ∧ w'.ownsRow w.heap.size 9 1 r ls.length (ls.map S) ∧ Below w.heap.size w w' := by
  obtain ⟨_, ao, cap, rfl, h2, h3, h4⟩ := hr
  cases ao with
  | none =>
    have h0 : ls.length = 0 := by
      rcases Nat.eq_zero_or_pos ls.length with h | h
      · exact h
      · obtain ⟨b, off, e, _⟩ := h4 (by omega); cases e
    have hn : ls = [] := List.eq_nil_of_length_eq_zero h0
    subst hn
    refine (Any.slices_Clone_string_nil Tryz.laysClone _ cap w).mono ?_
    rintro e w' ⟨rfl, rfl⟩
    exact ⟨_, rfl, World.ownsRow_nil _ _ _ _, Below.refl _ _⟩
  | some a =>
    by_cases h0 : ls.length = 0
    · have hn : ls = [] := List.eq_nil_of_length_eq_zero h0
      subst hn
      refine (Any.slices_Clone_string_zero Tryz.laysClone a cap w).mono ?_
      rintro e w' ⟨r, rfl, h5, _, h6⟩
      exact ⟨_, rfl, h5, h6⟩
    · obtain ⟨b, off, e, hc⟩ := h4 h0
      injection e with e
      subst e
      refine (Any.slices_Clone_string Tryz.laysClone b off ls.length cap (ls.map fun l => ⟨l.toArray⟩) w (by simp) (by omega) (strs_of hc)).mono ?_
      rintro e w' ⟨r, rfl, h5, _, h6⟩
      refine ⟨_, rfl, ?_, h6⟩
      have he : ((ls.map fun l => (⟨l.toArray⟩ : ByteArray)).take ls.length).map Value.string = ls.map S := by
        rw [List.take_of_length_le (by simp), List.map_map]
        rfl
      rw [he] at h5
      exact h5
end Go.Proofs.YtkifihcficobnaaGreatDoor
