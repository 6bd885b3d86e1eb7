/- The law ScriptParts, walked. -/
import Derived.Test.YtdfnnhcooliheabDoorSTyped
import Derived.Test.YtdfnnhcooliheabDoorAt
import Derived.Test.YtdfnnhcooliheabDoorSLe
namespace Go.Proofs.YtdfnnhcooliheabDoor
open Go.RowKit Go.Gs
set_option linter.unusedVariables false

theorem rlines_take {w : World} {ao : Option Addr} {n m cap : Nat} {ls : List SLine} (h : RLines w (.slice ao n cap) ls) (hm : m ≤ n) : RLines w (.slice ao m cap) (ls.take m) := by
  obtain ⟨ao', cap', e, h1, h2, h3⟩ := h
  injection e with e1 e2 e3
  subst e1 e2 e3
  have hl : (ls.take m).length = m := by rw [List.length_take]; omega
  refine ⟨ao, cap, by rw [hl], by omega, h2, fun hn => ?_⟩
  obtain ⟨b, off, rfl, hc⟩ := h3 (by omega)
  refine ⟨b, off, rfl, fun j x hj => ?_⟩
  rw [List.getElem?_take] at hj
  split at hj
  · exact hc j x hj
  · cases hj
theorem rlines_drop {w : World} {b off n m cap : Nat} {ls : List SLine} (h : RLines w (.slice (some ⟨b, off, none⟩) n cap) ls) (hm : m ≤ n) : RLines w (.slice (some ⟨b, off + m * 3, none⟩) (n - m) (cap - m)) (ls.drop m) := by
  obtain ⟨ao', cap', e, h1, h2, h3⟩ := h
  injection e with e1 e2 e3
  subst e1 e2 e3
  have hl : (ls.drop m).length = ls.length - m := List.length_drop
  refine ⟨_, _, by rw [hl], by omega, by omega, fun hn => ?_⟩
  obtain ⟨b', off', e, hc⟩ := h3 (by omega)
  injection e with e
  injection e with e1 e2
  subst e1 e2
  refine ⟨_, _, rfl, fun j x hj => ?_⟩
  rw [List.getElem?_drop] at hj
  have := hc (m + j) x hj
  rw [show off + (m + j) * 3 = off + m * 3 + j * 3 by omega] at this
  exact this
theorem cat2 (a b : List UInt8) : (⟨a.toArray⟩ ++ ⟨b.toArray⟩ : ByteArray) = ⟨(a ++ b).toArray⟩ := by
  apply ByteArray.ext
  simp
theorem rlines_none {w : World} {ao : Option Addr} {n cap : Nat} {ls : List SLine} (h : ls = []) (hn : n = 0) (hm : cap ≤ maxLen) : RLines w (.slice ao n cap) ls := by
  subst h hn
  exact ⟨ao, cap, rfl, Nat.zero_le _, hm, fun h => absurd rfl h⟩
theorem doText_len {cs : List Cmd} (h : ∀ c ∈ cs, chk c = 0) : (doText cs).length ≤ 300 * cs.length := by
  induction cs with
  | nil => simp [doText]
  | cons c r ih =>
    have h1 := printed_len (h c (by simp))
    have h2 := ih (fun d hd => h d (by simp [hd]))
    have e : doText (c :: r) = [32, 124, 32] ++ printed c ++ doText r := by simp [doText]
    rw [e, List.length_append, List.length_append]
    simp only [List.length_cons, List.length_nil]
    omega
theorem rowText_len {x : SLine} (h : lchk x = 0) : (rowText x).length ≤ 3000 := by
  obtain ⟨h1, h2, h3, h4, h5, h6⟩ := lchk_zero h
  have a := join_len h4 h2
  have b := doText_len h6
  have c := isWord_len h5
  unfold rowText
  simp only [List.length_append, List.length_cons, List.length_nil]
  omega
theorem stext_len {ls : List SLine} (h : schk ls = 0) : (stext ls).length ≤ 18000 := by
  obtain ⟨h1, h2⟩ := schk_zero h
  have key : ∀ ls : List SLine, (∀ x ∈ ls, lchk x = 0) → (stext ls).length ≤ 3000 * ls.length := by
    intro ls
    induction ls with
    | nil => intro _; simp [stext]
    | cons x r ih =>
      intro hh
      have a := rowText_len (hh x (by simp))
      have b := ih (fun y hy => hh y (by simp [hy]))
      have e : stext (x :: r) = rowText x ++ stext r := by simp [stext]
      rw [e, List.length_append]
      simp only [List.length_cons]
      omega
  have := key ls h2
  omega

set_option maxRecDepth 100000 in
set_option maxHeartbeats 4000000 in
theorem sparts_bad (ao : Option Addr) (cap : Nat) (ls : List SLine) (k : Int) (w : World) (hl : RLines w (.slice ao ls.length cap) ls) (hfit : ∀ x ∈ ls, FitsL x) (hE : KnownS w) (hbad : schk ls ≠ 0) :
    Calls Tryd.prog 3 #[.slice ao ls.length cap, .int .i64 k] w fun e w' => e = .returned (.bool true) ∧ Below w.heap.size w w' := by
  have hP := print_is ao cap ls w hl hfit hE
  rw [if_neg hbad] at hP
  have HT : Hid _ := fun (W : World) (h : Below w.heap.size w W) => typed_is W (hE.below h)
  generalize schk ls = r at *
  generalize ls.length = N at *
  clear hl hfit hE
  go_enter Tryd.func3, Tryd.ntmps3
  go_wp2_with fail
  refine Calls.mono hP ?_
  rintro e w1 ⟨rfl, hb1⟩
  have HB : Hid (Below w.heap.size w w1) := hb1
  clear hb1 hP
  go_wp2_with fail
  refine Calls.mono (HT.out _ HB.out) ?_
  rintro e w2 ⟨rfl, hb2⟩
  have HB2 : Hid (Below w.heap.size w w2) := HB.out.trans (hb2.mono HB.out.size)
  clear hb2
  go_wp2_with fail
  refine Calls.mono (HT.out _ HB2.out) ?_
  rintro e w3 ⟨rfl, hb3⟩
  have HB3 : Hid (Below w.heap.size w w3) := HB2.out.trans (hb3.mono HB2.out.size)
  clear hb3
  go_wp2_with fail
  go_ret
  exact ⟨rfl, HB3.out⟩

set_option maxRecDepth 100000 in
set_option maxHeartbeats 4000000 in
theorem sparts_ok (b off cap : Nat) (ls : List SLine) (k : Int) (w : World) (hl : RLines w (.slice (some ⟨b, off, none⟩) ls.length cap) ls) (hfit : ∀ x ∈ ls, FitsL x) (hE : KnownS w) (hok : schk ls = 0) (hk1 : -9223372036854775808 ≤ k) (hk2 : k ≤ 9223372036854775807) :
    Calls Tryd.prog 3 #[.slice (some ⟨b, off, none⟩) ls.length cap, .int .i64 k] w fun e w' => e = .returned (.bool true) ∧ Below w.heap.size w w' := by
  have hP := print_is (some ⟨b, off, none⟩) cap ls w hl hfit hE
  rw [if_pos hok, hok] at hP
  have HT : Hid _ := fun (W : World) (h : Below w.heap.size w W) => typed_is W (hE.below h)
  obtain ⟨hN6, _⟩ := schk_zero hok
  obtain ⟨hcap, hcm⟩ := rlines_le hl
  have HA : Hid _ := fun (W : World) => at_is k (ls.length + 1) W hk1 hk2 (by omega) (by omega)
  have HPA : Hid _ := fun (m : Nat) (hm : m ≤ ls.length) (W : World) (h : Below w.heap.size w W) => print_is (some ⟨b, off, none⟩) cap (ls.take m) W (by rw [List.length_take, Nat.min_eq_left hm]; exact (rlines_take hl hm).below h) (fun x hx => hfit x (List.mem_of_mem_take hx)) (hE.below h)
  have HPB : Hid _ := fun (m : Nat) (hm : m ≤ ls.length) (W : World) (h : Below w.heap.size w W) => print_is (some ⟨b, off + m * 3, none⟩) (cap - m) (ls.drop m) W (by rw [List.length_drop]; exact (rlines_drop hl hm).below h) (fun x hx => hfit x (List.mem_of_mem_drop hx)) (hE.below h)
  have HPC : Hid _ := fun (m : Nat) (hm : ls.length ≤ m) (W : World) (h : Below w.heap.size w W) => print_is (some ⟨b, off, none⟩) 0 (ls.drop m) W (rlines_none (List.drop_of_length_le hm) (by rw [List.drop_of_length_le hm]; rfl) (by simp)) (fun x hx => hfit x (List.mem_of_mem_drop hx)) (hE.below h)
  have HOK : Hid (schk ls = 0) := hok
  have HTL : Hid ((stext ls).length ≤ 18000) := stext_len hok
  obtain ⟨tx, htx⟩ : ∃ tx : ByteArray, tx = ⟨(stext ls).toArray⟩ := ⟨_, rfl⟩
  have HTX : Hid (tx = ⟨(stext ls).toArray⟩) := htx
  rw [← htx] at hP
  obtain ⟨N, hN⟩ : ∃ N, N = ls.length := ⟨_, rfl⟩
  have HN : Hid (N = ls.length) := hN
  rw [← hN] at hP hN6 hcap HA ⊢
  clear hl hfit hE hok hN htx
  go_enter Tryd.func3, Tryd.ntmps3
  go_wp2_with fail
  refine Calls.mono hP ?_
  rintro e w1 ⟨rfl, hb1⟩
  have HB : Hid (Below w.heap.size w w1) := hb1
  clear hb1 hP
  go_wp2_with fail
  refine Calls.mono (HT.out _ HB.out) ?_
  rintro e w2 ⟨rfl, hb2⟩
  have HB2 : Hid (Below w.heap.size w w2) := HB.out.trans (hb2.mono HB.out.size)
  clear hb2
  go_wp2_with fail
  refine Calls.mono (HA.out w2) ?_
  rintro e w3 ⟨m, hm, rfl, hw3⟩
  obtain rfl : w2 = w3 := hw3.symm
  have hmN : m ≤ N := by omega
  obtain ⟨ta, hta⟩ : ∃ ta : ByteArray, ta = ⟨(stext (ls.take m)).toArray⟩ := ⟨_, rfl⟩
  obtain ⟨tb, htb⟩ : ∃ tb : ByteArray, tb = ⟨(stext (ls.drop m)).toArray⟩ := ⟨_, rfl⟩
  have hQA := HPA.out m (by rw [← HN.out]; exact hmN) w2 HB2.out
  rw [if_pos (schk_take HOK.out m), schk_take HOK.out m, List.length_take, Nat.min_eq_left (by rw [← HN.out]; exact hmN), ← hta] at hQA
  have hsum : ta.size + tb.size ≤ 18000 := by
    have h1 := HTL.out
    have h2 := congrArg List.length (stext_append (ls.take m) (ls.drop m))
    rw [List.take_append_drop, List.length_append] at h2
    have h3 : ta.size = (stext (ls.take m)).length := by rw [hta]; simp [ByteArray.size]
    have h4 : tb.size = (stext (ls.drop m)).length := by rw [htb]; simp [ByteArray.size]
    omega
  have hbe : ((ta ++ tb).toList == tx.toList) = true := by
    rw [hta, htb, HTX.out]
    have h2 := stext_append (ls.take m) (ls.drop m)
    rw [List.take_append_drop] at h2
    rw [h2, cat2]
    simp
  have HTB : Hid (tb = ⟨(stext (ls.drop m)).toArray⟩) := htb
  clear hta htb hm hw3 HT HA HPA
  go_wp2_with fail
  refine Calls.mono hQA ?_
  rintro e w4 ⟨rfl, hb4⟩
  have HB4 : Hid (Below w.heap.size w w4) := HB2.out.trans (hb4.mono HB2.out.size)
  clear hb4 hQA
  go_wp2_with fail
  · have hQB := HPC.out m (by rw [← HN.out]; omega) w4 HB4.out
    rw [if_pos (schk_drop HOK.out m), schk_drop HOK.out m, List.length_drop, ← HN.out, ← HTB.out] at hQB
    refine Calls.mono hQB ?_
    rintro e w5 ⟨rfl, hb5⟩
    have HB5 : Hid (Below w.heap.size w w5) := HB4.out.trans (hb5.mono HB4.out.size)
    clear hb5 hQB
    go_wp2_with fail
    go_ret
    exact ⟨rfl, HB5.out⟩
  · have hQB := HPB.out m (by rw [← HN.out]; exact hmN) w4 HB4.out
    rw [if_pos (schk_drop HOK.out m), schk_drop HOK.out m, List.length_drop, ← HN.out, ← HTB.out] at hQB
    refine Calls.mono hQB ?_
    rintro e w5 ⟨rfl, hb5⟩
    have HB5 : Hid (Below w.heap.size w w5) := HB4.out.trans (hb5.mono HB4.out.size)
    clear hb5 hQB
    go_wp2_with fail
    go_ret
    exact ⟨rfl, HB5.out⟩

set_option maxRecDepth 100000 in
set_option maxHeartbeats 4000000 in
theorem sparts_none (ao : Option Addr) (cap : Nat) (k : Int) (w : World) (hcm : cap ≤ 9223372036854775807) (hE : KnownS w) (hk1 : -9223372036854775808 ≤ k) (hk2 : k ≤ 9223372036854775807) (hao : ao = none → cap = 0) :
    Calls Tryd.prog 3 #[.slice ao 0 cap, .int .i64 k] w fun e w' => e = .returned (.bool true) ∧ Below w.heap.size w w' := by
  have HP : Hid (∀ (a : Option Addr) (c : Nat) (hc : c ≤ 9223372036854775807) (W : World) (h : Below w.heap.size w W), Calls Tryd.prog 4 #[.slice a 0 c] W fun e w' => e = .returned (.tuple #[.string ⟨#[]⟩, .int .i64 0]) ∧ Below W.heap.size W w') := fun (a : Option Addr) (c : Nat) (hc : c ≤ 9223372036854775807) (W : World) (h : Below w.heap.size w W) => print_is a c [] W (rlines_none rfl rfl hc) (by simp) (hE.below h)
  have HT : Hid _ := fun (W : World) (h : Below w.heap.size w W) => typed_is W (hE.below h)
  have HA : Hid _ := fun (W : World) => at_is k 1 W hk1 hk2 (by omega) (by omega)
  have hem2 : ((⟨#[]⟩ : ByteArray) ++ ⟨#[]⟩).toList.isEmpty = true := by
    have := cat2 [] []
    rw [show ((⟨#[]⟩ : ByteArray) ++ ⟨#[]⟩) = ⟨#[]⟩ from this]
    simp
  clear hE
  cases ao with
  | none =>
    have := hao rfl
    subst this
    clear hao
    go_enter Tryd.func3, Tryd.ntmps3
    go_wp2_with fail
    refine Calls.mono (HP.out _ _ (by first | exact hcm | exact Nat.zero_le _) _ (Below.refl _ _)) ?_
    rintro e w1 ⟨rfl, hb1⟩
    have HB : Hid (Below w.heap.size w w1) := hb1
    clear hb1
    go_wp2_with fail
    refine Calls.mono (HT.out _ HB.out) ?_
    rintro e w2 ⟨rfl, hb2⟩
    have HB2 : Hid (Below w.heap.size w w2) := HB.out.trans (hb2.mono HB.out.size)
    clear hb2
    go_wp2_with fail
    refine Calls.mono (HA.out w2) ?_
    rintro e w3 ⟨m, hm, rfl, hw3⟩
    obtain rfl : w2 = w3 := hw3.symm
    obtain rfl : m = 0 := by omega
    clear hw3 hm
    go_wp2_with fail
    refine Calls.mono (HP.out _ _ (by first | exact hcm | exact Nat.zero_le _) _ HB2.out) ?_
    rintro e w4 ⟨rfl, hb4⟩
    have HB4 : Hid (Below w.heap.size w w4) := HB2.out.trans (hb4.mono HB2.out.size)
    clear hb4
    go_wp2_with fail
    all_goals
      refine Calls.mono (HP.out _ _ (by first | exact hcm | exact Nat.zero_le _ | (simp; omega)) _ HB4.out) ?_
      rintro e w5 ⟨rfl, hb5⟩
      have HB5 : Hid (Below w.heap.size w w5) := HB4.out.trans (hb5.mono HB4.out.size)
      clear hb5
      go_wp2_with fail
      go_ret
      exact ⟨rfl, HB5.out⟩
  | some a =>
    clear hao
    go_enter Tryd.func3, Tryd.ntmps3
    go_wp2_with fail
    refine Calls.mono (HP.out _ _ (by first | exact hcm | exact Nat.zero_le _) _ (Below.refl _ _)) ?_
    rintro e w1 ⟨rfl, hb1⟩
    have HB : Hid (Below w.heap.size w w1) := hb1
    clear hb1
    go_wp2_with fail
    refine Calls.mono (HT.out _ HB.out) ?_
    rintro e w2 ⟨rfl, hb2⟩
    have HB2 : Hid (Below w.heap.size w w2) := HB.out.trans (hb2.mono HB.out.size)
    clear hb2
    go_wp2_with fail
    refine Calls.mono (HA.out w2) ?_
    rintro e w3 ⟨m, hm, rfl, hw3⟩
    obtain rfl : w2 = w3 := hw3.symm
    obtain rfl : m = 0 := by omega
    clear hw3 hm
    go_wp2_with fail
    refine Calls.mono (HP.out _ _ (by first | exact hcm | exact Nat.zero_le _) _ HB2.out) ?_
    rintro e w4 ⟨rfl, hb4⟩
    have HB4 : Hid (Below w.heap.size w w4) := HB2.out.trans (hb4.mono HB2.out.size)
    clear hb4
    go_wp2_with fail
    all_goals
      refine Calls.mono (HP.out _ _ (by first | exact hcm | exact Nat.zero_le _ | (simp; omega)) _ HB4.out) ?_
      rintro e w5 ⟨rfl, hb5⟩
      have HB5 : Hid (Below w.heap.size w w5) := HB4.out.trans (hb5.mono HB4.out.size)
      clear hb5
      go_wp2_with fail
      go_ret
      exact ⟨rfl, HB5.out⟩

theorem scriptParts_walk (W : World) (hE : KnownS W) (hsh : W.ShapedOpen Tryd.prog) (ao : Option Addr) (cap : Nat) (ls : List SLine) (hl : RLines W (.slice ao ls.length cap) ls) (hfit : ∀ x ∈ ls, FitsL x) (hao : ao = none → cap = 0) (k : Int) (hk : -9223372036854775808 ≤ k ∧ k ≤ 9223372036854775807) :
    Calls Tryd.prog 3 #[.slice ao ls.length cap, .int .i64 k] W fun e w' => e = .returned (.bool true) ∧ Below W.heap.size W w' := by
  by_cases hbad : schk ls = 0
  · by_cases h0 : ls = []
    · subst h0
      exact sparts_none ao cap k W (rlines_le hl).2 hE hk.1 hk.2 hao
    · obtain ⟨x, hx⟩ : ∃ x, ls[0]? = some x := ⟨_, List.getElem?_eq_getElem (by cases ls with | nil => exact absurd rfl h0 | cons a r => simp)⟩
      obtain ⟨b, off, af, cf, ad, cd, rfl, _⟩ := hl.at hx
      exact sparts_ok b off cap ls k W hl hfit hE hbad hk.1 hk.2
  · exact sparts_bad ao cap ls k W hl hfit hE hbad
end Go.Proofs.YtdfnnhcooliheabDoor
