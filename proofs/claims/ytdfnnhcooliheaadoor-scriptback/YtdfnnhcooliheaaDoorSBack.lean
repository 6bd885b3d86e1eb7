/- The law ScriptBack, walked. -/
import Derived.Test.YtdfnnhcooliheaaDoorSTyped
import Derived.Test.YtdfnnhcooliheaaDoorRefScript2
import Derived.Test.YtdfnnhcooliheaaDoorSLe
namespace Go.Proofs.YtdfnnhcooliheaaDoor
open Go.RowKit Go.Gs
set_option linter.unusedVariables false

theorem back_parse {s : List UInt8} {xs : List SLine} {at_ : Nat} {g : Int} (h : parseS s = (xs, at_, g)) (W : World) (hs : s.length ≤ 9223372036854775807) (hE : KnownS W) :
    Calls Tryd.prog 29 #[.string ⟨s.toArray⟩] W fun e w' => ∃ ao cap, e = .returned (.tuple #[.slice ao xs.length cap, .int .i64 (at_ : Int), .int .i64 g]) ∧ RLines w' (.slice ao xs.length cap) xs ∧ (∀ x ∈ xs, FitsL x) ∧ Below W.heap.size W w' := by
  refine (parse_is s W hs hE).mono ?_
  intro e w' hend
  unfold ParseEnd at hend
  rw [h] at hend
  exact hend
theorem doText_len {cs : List Cmd} (h : ∀ c ∈ cs, chk c = 0) : (doText cs).length ≤ 300 * cs.length := by
  induction cs with
  | nil => simp [doText]
  | cons c r ih =>
    have h1 := printed_len (h c (by simp))
    have h2 := ih (fun d hd => h d (by simp [hd]))
    have e : doText (c :: r) = [32, 124, 32] ++ printed c ++ doText r := by simp [doText]
    rw [e, List.length_append, List.length_append]
    simp only [List.length_cons, List.length_nil]
    omega
theorem rowText_len {x : SLine} (h : lchk x = 0) : (rowText x).length ≤ 3000 := by
  obtain ⟨h1, h2, h3, h4, h5, h6⟩ := lchk_zero h
  have a := join_len h4 h2
  have b := doText_len h6
  have c := isWord_len h5
  unfold rowText
  simp only [List.length_append, List.length_cons, List.length_nil]
  omega
theorem stext_len {ls : List SLine} (h : schk ls = 0) : (stext ls).length ≤ 18000 := by
  obtain ⟨h1, h2⟩ := schk_zero h
  have key : ∀ ls : List SLine, (∀ x ∈ ls, lchk x = 0) → (stext ls).length ≤ 3000 * ls.length := by
    intro ls
    induction ls with
    | nil => intro _; simp [stext]
    | cons x r ih =>
      intro hh
      have a := rowText_len (hh x (by simp))
      have b := ih (fun y hy => hh y (by simp [hy]))
      have e : stext (x :: r) = rowText x ++ stext r := by simp [stext]
      rw [e, List.length_append]
      simp only [List.length_cons]
      omega
  have := key ls h2
  omega

theorem stext_small {ls : List SLine} (h : schk ls = 0) : (stext ls).length ≤ 18000 := stext_len h
theorem same_true (d : Bool) : (d != d) = false := by cases d <;> rfl

set_option maxRecDepth 100000 in
set_option maxHeartbeats 8000000 in
theorem scriptBack_walk (w : World) (hE : KnownS w) (hsh : w.ShapedOpen Tryd.prog) (au : Option Addr) (cu : Nat) (ls : List SLine) (hl : RLines w (.slice au ls.length cu) ls) (hfl : ∀ x ∈ ls, FitsL x) (hzl : au = none → cu = 0) (av : Option Addr) (cv : Nat) (ms : List SLine) (hm : RLines w (.slice av ms.length cv) ms) (hfm : ∀ x ∈ ms, FitsL x) (hzm : av = none → cv = 0) (s : List UInt8) (hs : s.length ≤ 9223372036854775807) :
    Calls Tryd.prog 5 #[.slice au ls.length cu, .slice av ms.length cv, .string ⟨s.toArray⟩] w fun e w' => e = .returned (.bool true) ∧ Below w.heap.size w w' := by
  haveI : DecidableEq Cmd := fun a b => Classical.propDecidable _
  haveI : DecidableEq SLine := fun a b => Classical.propDecidable _
  have hP1 := print_is au cu ls w hl hfl hE
  have HP2 : Hid _ := fun (W : World) (h : Below w.heap.size w W) => print_is av cv ms W (RLines.below hm h) hfm (hE.below h)
  have HT : Hid _ := fun (W : World) (h : Below w.heap.size w W) => typed_is W (hE.below h)
  have HSM : Hid _ := fun (W : World) (h : Below w.heap.size w W) => same_is au av cu cv ls ms W (RLines.below hl h) (RLines.below hm h)
  have HSL : Hid _ := fun (W : World) (h : Below w.heap.size w W) (ao : Option Addr) (cap : Nat) (hx : RLines W (.slice ao ls.length cap) ls) => same_is ao au cap cu ls ls W hx (RLines.below hl h)
  obtain ⟨xs, at_, g, hps⟩ : ∃ xs at_ g, parseS s = (xs, at_, g) := ⟨_, _, _, rfl⟩
  have HPS : Hid _ := fun (W : World) (h : Below w.heap.size w W) => back_parse hps W hs (hE.below h)
  have HG : Hid (g = 0 → schk xs = 0 ∧ stext xs = s) := (show g = 0 → _ from fun hg => by
    have := printed_read (s := s) (by rw [hps]; exact hg)
    rw [hps] at this
    exact this)
  have HE : Hid (KnownS w) := hE
  obtain ⟨sx, hsx⟩ : ∃ sx : ByteArray, sx = ⟨s.toArray⟩ := ⟨_, rfl⟩
  have HSX : Hid (sx = ⟨s.toArray⟩) := hsx
  obtain ⟨NX, hNX⟩ : ∃ N, N = xs.length := ⟨_, rfl⟩
  have HNX : Hid (NX = xs.length) := hNX
  have hXb : True := trivial
  rw [← hsx] at HPS ⊢
  rw [← hNX] at HPS
  obtain ⟨N, hN⟩ : ∃ N, N = ls.length := ⟨_, rfl⟩
  obtain ⟨M, hM⟩ : ∃ M, M = ms.length := ⟨_, rfl⟩
  have HN : Hid (N = ls.length) := hN
  have HM : Hid (M = ms.length) := hM
  by_cases h1 : schk ls = 0
  · rw [if_pos h1, h1] at hP1
    obtain ⟨tx, htx⟩ : ∃ tx : ByteArray, tx = ⟨(stext ls).toArray⟩ := ⟨_, rfl⟩
    obtain ⟨TL, hTLd⟩ : ∃ T, T = (stext ls).length := ⟨_, rfl⟩
    have HTL : Hid (TL = (stext ls).length) := hTLd
    have htz : tx.size = TL := by rw [htx, hTLd]; simp [ByteArray.size]
    have hTLb : TL ≤ 9223372036854775807 := by rw [← htz]; have := stext_small h1; rw [htx]; simp [ByteArray.size]; omega
    have HPT : Hid _ := fun (hle : (stext ls).length ≤ 8000) (W : World) (h : Below w.heap.size w W) => back_parse (read_printed h1 hle) W (by omega) (hE.below h)
    rw [← htx] at HPT
    rw [← htx] at hP1
    rw [show (decide (ls = ls)) = true from decide_eq_true rfl] at HSL
    by_cases h2 : schk ms = 0
    · rw [if_pos h2, h2] at HP2
      obtain ⟨ux, hux⟩ : ∃ ux : ByteArray, ux = ⟨(stext ms).toArray⟩ := ⟨_, rfl⟩
      obtain ⟨d, hd⟩ : ∃ d, d = decide (ls = ms) := ⟨_, rfl⟩
      have hbe : (tx.toList == ux.toList) = d := by
        rw [htx, hux, str_eq', hd]
        exact decide_eq_decide.2 ⟨text_inj h1 h2, fun h => by rw [h]⟩
      rw [← hux] at HP2
      rw [← hd] at HSM
      rw [← hN] at HPT
      rw [← hN] at hP1 HSM HSL ⊢
      rw [← hM] at HP2 HSM ⊢
      clear hE hl hfl hm hfm hps hsx hNX hN hM hs hzl hzm
      clear h1 h2 htx hux hd hTLd
      go_enter Tryd.func5, Tryd.ntmps5
      go_wp2_with fail
      refine Calls.mono hP1 ?_
      rintro e w1 ⟨rfl, hb1⟩
      have HB1 : Hid (Below w.heap.size w w1) := hb1
      clear hb1 hP1
      go_wp2_with fail
      have hQ2 := HP2.out w1 HB1.out
      refine Calls.mono hQ2 ?_
      rintro e w2 ⟨rfl, hb2⟩
      have HB2 : Hid (Below w.heap.size w w2) := HB1.out.trans (hb2.mono HB1.out.size)
      clear hb2 hQ2
      go_wp2_with fail
      refine Calls.mono (HT.out _ HB2.out) ?_
      rintro e w3 ⟨rfl, hb3⟩
      have HB3 : Hid (Below w.heap.size w w3) := HB2.out.trans (hb3.mono HB2.out.size)
      clear hb3
      have hQ4 := HSM.out w3 HB3.out
      go_wp2_with fail
      refine Calls.mono hQ4 ?_
      rintro e w4 ⟨rfl, hb4⟩
      have HB4 : Hid (Below w.heap.size w w4) := HB3.out.trans (hb4.mono HB3.out.size)
      clear hQ4 hb4
      cases d with
      | true =>
        have hbe' : tx.toList = ux.toList := by simpa using hbe
        clear hbe
        by_cases hTL : TL ≤ 8000
        · have hq : (TL : Int) ≤ 8000 := by omega
          have hQ5 := HPT.out (by have := HTL.out; omega) w4 HB4.out
          go_wp2_with fail
          refine Calls.mono hQ5 ?_
          rintro e w5 ⟨ao, cap, rfl, hl5, hf5, hb5⟩
          have HB5 : Hid (Below w.heap.size w w5) := HB4.out.trans (hb5.mono HB4.out.size)
          have hQ6 := HSL.out w5 HB5.out ao cap hl5
          clear hQ5 hl5 hf5 hb5
          go_wp2_with fail
          refine Calls.mono hQ6 ?_
          rintro e w6 ⟨rfl, hb6⟩
          have HB6 : Hid (Below w.heap.size w w6) := HB5.out.trans (hb6.mono HB5.out.size)
          clear hQ6 hb6
          go_wp2_with fail
          have hQ9 := HPS.out w6 HB6.out
          refine Calls.mono hQ9 ?_
          rintro e w9 ⟨ao, cap, rfl, hl9, hf9, hb9⟩
          have HB9 : Hid (Below w.heap.size w w9) := HB6.out.trans (hb9.mono HB6.out.size)
          have HL9 : Hid (RLines w9 (.slice ao NX cap) xs) := hl9
          have HF9 : Hid _ := hf9
          clear hQ9 hl9 hf9 hb9
          by_cases hg : g = 0
          · subst hg
            obtain ⟨hs0, hs1⟩ := HG.out rfl
            have hQ10 := print_is ao cap xs w9 (by rw [← HNX.out]; exact HL9.out) HF9.out (HE.out.below HB9.out)
            rw [if_pos hs0, hs0, hs1, ← HNX.out, ← HSX.out] at hQ10
            clear hs0 hs1
            go_wp2_with fail
            refine Calls.mono hQ10 ?_
            rintro e w10 ⟨rfl, hb10⟩
            have HB10 : Hid (Below w.heap.size w w10) := HB9.out.trans (hb10.mono HB9.out.size)
            clear hQ10 hb10
            go_wp2_with fail
            go_ret
            exact ⟨rfl, HB10.out⟩
          · go_wp2_with fail
            go_ret
            exact ⟨rfl, HB9.out⟩
        · have hq : ¬ (TL : Int) ≤ 8000 := by omega
          go_wp2_with fail
          have hQ9 := HPS.out w4 HB4.out
          refine Calls.mono hQ9 ?_
          rintro e w9 ⟨ao, cap, rfl, hl9, hf9, hb9⟩
          have HB9 : Hid (Below w.heap.size w w9) := HB4.out.trans (hb9.mono HB4.out.size)
          have HL9 : Hid (RLines w9 (.slice ao NX cap) xs) := hl9
          have HF9 : Hid _ := hf9
          clear hQ9 hl9 hf9 hb9
          by_cases hg : g = 0
          · subst hg
            obtain ⟨hs0, hs1⟩ := HG.out rfl
            have hQ10 := print_is ao cap xs w9 (by rw [← HNX.out]; exact HL9.out) HF9.out (HE.out.below HB9.out)
            rw [if_pos hs0, hs0, hs1, ← HNX.out, ← HSX.out] at hQ10
            clear hs0 hs1
            go_wp2_with fail
            refine Calls.mono hQ10 ?_
            rintro e w10 ⟨rfl, hb10⟩
            have HB10 : Hid (Below w.heap.size w w10) := HB9.out.trans (hb10.mono HB9.out.size)
            clear hQ10 hb10
            go_wp2_with fail
            go_ret
            exact ⟨rfl, HB10.out⟩
          · go_wp2_with fail
            go_ret
            exact ⟨rfl, HB9.out⟩
      | false =>
        have hbe' : ¬ tx.toList = ux.toList := by simpa using hbe
        clear hbe
        by_cases hTL : TL ≤ 8000
        · have hq : (TL : Int) ≤ 8000 := by omega
          have hQ5 := HPT.out (by have := HTL.out; omega) w4 HB4.out
          go_wp2_with fail
          refine Calls.mono hQ5 ?_
          rintro e w5 ⟨ao, cap, rfl, hl5, hf5, hb5⟩
          have HB5 : Hid (Below w.heap.size w w5) := HB4.out.trans (hb5.mono HB4.out.size)
          have hQ6 := HSL.out w5 HB5.out ao cap hl5
          clear hQ5 hl5 hf5 hb5
          go_wp2_with fail
          refine Calls.mono hQ6 ?_
          rintro e w6 ⟨rfl, hb6⟩
          have HB6 : Hid (Below w.heap.size w w6) := HB5.out.trans (hb6.mono HB5.out.size)
          clear hQ6 hb6
          go_wp2_with fail
          have hQ9 := HPS.out w6 HB6.out
          refine Calls.mono hQ9 ?_
          rintro e w9 ⟨ao, cap, rfl, hl9, hf9, hb9⟩
          have HB9 : Hid (Below w.heap.size w w9) := HB6.out.trans (hb9.mono HB6.out.size)
          have HL9 : Hid (RLines w9 (.slice ao NX cap) xs) := hl9
          have HF9 : Hid _ := hf9
          clear hQ9 hl9 hf9 hb9
          by_cases hg : g = 0
          · subst hg
            obtain ⟨hs0, hs1⟩ := HG.out rfl
            have hQ10 := print_is ao cap xs w9 (by rw [← HNX.out]; exact HL9.out) HF9.out (HE.out.below HB9.out)
            rw [if_pos hs0, hs0, hs1, ← HNX.out, ← HSX.out] at hQ10
            clear hs0 hs1
            go_wp2_with fail
            refine Calls.mono hQ10 ?_
            rintro e w10 ⟨rfl, hb10⟩
            have HB10 : Hid (Below w.heap.size w w10) := HB9.out.trans (hb10.mono HB9.out.size)
            clear hQ10 hb10
            go_wp2_with fail
            go_ret
            exact ⟨rfl, HB10.out⟩
          · go_wp2_with fail
            go_ret
            exact ⟨rfl, HB9.out⟩
        · have hq : ¬ (TL : Int) ≤ 8000 := by omega
          go_wp2_with fail
          have hQ9 := HPS.out w4 HB4.out
          refine Calls.mono hQ9 ?_
          rintro e w9 ⟨ao, cap, rfl, hl9, hf9, hb9⟩
          have HB9 : Hid (Below w.heap.size w w9) := HB4.out.trans (hb9.mono HB4.out.size)
          have HL9 : Hid (RLines w9 (.slice ao NX cap) xs) := hl9
          have HF9 : Hid _ := hf9
          clear hQ9 hl9 hf9 hb9
          by_cases hg : g = 0
          · subst hg
            obtain ⟨hs0, hs1⟩ := HG.out rfl
            have hQ10 := print_is ao cap xs w9 (by rw [← HNX.out]; exact HL9.out) HF9.out (HE.out.below HB9.out)
            rw [if_pos hs0, hs0, hs1, ← HNX.out, ← HSX.out] at hQ10
            clear hs0 hs1
            go_wp2_with fail
            refine Calls.mono hQ10 ?_
            rintro e w10 ⟨rfl, hb10⟩
            have HB10 : Hid (Below w.heap.size w w10) := HB9.out.trans (hb10.mono HB9.out.size)
            clear hQ10 hb10
            go_wp2_with fail
            go_ret
            exact ⟨rfl, HB10.out⟩
          · go_wp2_with fail
            go_ret
            exact ⟨rfl, HB9.out⟩
    · rw [if_neg h2] at HP2
      obtain ⟨r2, hr2⟩ : ∃ r, r = schk ms := ⟨_, rfl⟩
      rw [← hr2] at HP2 h2
      rw [← hN] at HPT
      rw [← hN] at hP1 HSM HSL ⊢
      rw [← hM] at HP2 HSM ⊢
      clear hE hl hfl hm hfm hps hsx hNX hN hM hs hzl hzm
      clear h1 htx hr2 hTLd HSM
      go_enter Tryd.func5, Tryd.ntmps5
      go_wp2_with fail
      refine Calls.mono hP1 ?_
      rintro e w1 ⟨rfl, hb1⟩
      have HB1 : Hid (Below w.heap.size w w1) := hb1
      clear hb1 hP1
      go_wp2_with fail
      have hQ2 := HP2.out w1 HB1.out
      refine Calls.mono hQ2 ?_
      rintro e w2 ⟨rfl, hb2⟩
      have HB2 : Hid (Below w.heap.size w w2) := HB1.out.trans (hb2.mono HB1.out.size)
      clear hb2 hQ2
      go_wp2_with fail
      refine Calls.mono (HT.out _ HB2.out) ?_
      rintro e w3 ⟨rfl, hb3⟩
      have HB3 : Hid (Below w.heap.size w w3) := HB2.out.trans (hb3.mono HB2.out.size)
      clear hb3
      by_cases hTL : TL ≤ 8000
      · have hq : (TL : Int) ≤ 8000 := by omega
        have hQ5 := HPT.out (by have := HTL.out; omega) w3 HB3.out
        go_wp2_with fail
        refine Calls.mono hQ5 ?_
        rintro e w5 ⟨ao, cap, rfl, hl5, hf5, hb5⟩
        have HB5 : Hid (Below w.heap.size w w5) := HB3.out.trans (hb5.mono HB3.out.size)
        have hQ6 := HSL.out w5 HB5.out ao cap hl5
        clear hQ5 hl5 hf5 hb5
        go_wp2_with fail
        refine Calls.mono hQ6 ?_
        rintro e w6 ⟨rfl, hb6⟩
        have HB6 : Hid (Below w.heap.size w w6) := HB5.out.trans (hb6.mono HB5.out.size)
        clear hQ6 hb6
        go_wp2_with fail
        have hQ9 := HPS.out w6 HB6.out
        refine Calls.mono hQ9 ?_
        rintro e w9 ⟨ao, cap, rfl, hl9, hf9, hb9⟩
        have HB9 : Hid (Below w.heap.size w w9) := HB6.out.trans (hb9.mono HB6.out.size)
        have HL9 : Hid (RLines w9 (.slice ao NX cap) xs) := hl9
        have HF9 : Hid _ := hf9
        clear hQ9 hl9 hf9 hb9
        by_cases hg : g = 0
        · subst hg
          obtain ⟨hs0, hs1⟩ := HG.out rfl
          have hQ10 := print_is ao cap xs w9 (by rw [← HNX.out]; exact HL9.out) HF9.out (HE.out.below HB9.out)
          rw [if_pos hs0, hs0, hs1, ← HNX.out, ← HSX.out] at hQ10
          clear hs0 hs1
          go_wp2_with fail
          refine Calls.mono hQ10 ?_
          rintro e w10 ⟨rfl, hb10⟩
          have HB10 : Hid (Below w.heap.size w w10) := HB9.out.trans (hb10.mono HB9.out.size)
          clear hQ10 hb10
          go_wp2_with fail
          go_ret
          exact ⟨rfl, HB10.out⟩
        · go_wp2_with fail
          go_ret
          exact ⟨rfl, HB9.out⟩
      · have hq : ¬ (TL : Int) ≤ 8000 := by omega
        go_wp2_with fail
        have hQ9 := HPS.out w3 HB3.out
        refine Calls.mono hQ9 ?_
        rintro e w9 ⟨ao, cap, rfl, hl9, hf9, hb9⟩
        have HB9 : Hid (Below w.heap.size w w9) := HB3.out.trans (hb9.mono HB3.out.size)
        have HL9 : Hid (RLines w9 (.slice ao NX cap) xs) := hl9
        have HF9 : Hid _ := hf9
        clear hQ9 hl9 hf9 hb9
        by_cases hg : g = 0
        · subst hg
          obtain ⟨hs0, hs1⟩ := HG.out rfl
          have hQ10 := print_is ao cap xs w9 (by rw [← HNX.out]; exact HL9.out) HF9.out (HE.out.below HB9.out)
          rw [if_pos hs0, hs0, hs1, ← HNX.out, ← HSX.out] at hQ10
          clear hs0 hs1
          go_wp2_with fail
          refine Calls.mono hQ10 ?_
          rintro e w10 ⟨rfl, hb10⟩
          have HB10 : Hid (Below w.heap.size w w10) := HB9.out.trans (hb10.mono HB9.out.size)
          clear hQ10 hb10
          go_wp2_with fail
          go_ret
          exact ⟨rfl, HB10.out⟩
        · go_wp2_with fail
          go_ret
          exact ⟨rfl, HB9.out⟩
  · rw [if_neg h1] at hP1
    obtain ⟨r1, hr1⟩ : ∃ r, r = schk ls := ⟨_, rfl⟩
    rw [← hr1] at hP1 h1
    obtain ⟨vx, hvx⟩ : ∃ vx : ByteArray, vx = ⟨(if schk ms = 0 then stext ms else []).toArray⟩ := ⟨_, rfl⟩
    obtain ⟨r2, hr2⟩ : ∃ r, r = schk ms := ⟨_, rfl⟩
    rw [← hvx, ← hr2] at HP2
    rw [← hN] at hP1 HSM HSL ⊢
    rw [← hM] at HP2 HSM ⊢
    clear hE hl hfl hm hfm hps hsx hNX hN hM hs hzl hzm
    clear hr1 hr2 hvx HSM HSL
    go_enter Tryd.func5, Tryd.ntmps5
    go_wp2_with fail
    refine Calls.mono hP1 ?_
    rintro e w1 ⟨rfl, hb1⟩
    have HB1 : Hid (Below w.heap.size w w1) := hb1
    clear hb1 hP1
    go_wp2_with fail
    have hQ2 := HP2.out w1 HB1.out
    refine Calls.mono hQ2 ?_
    rintro e w2 ⟨rfl, hb2⟩
    have HB2 : Hid (Below w.heap.size w w2) := HB1.out.trans (hb2.mono HB1.out.size)
    clear hb2 hQ2
    go_wp2_with fail
    refine Calls.mono (HT.out _ HB2.out) ?_
    rintro e w3 ⟨rfl, hb3⟩
    have HB3 : Hid (Below w.heap.size w w3) := HB2.out.trans (hb3.mono HB2.out.size)
    clear hb3
    go_wp2_with fail
    have hQ9 := HPS.out w3 HB3.out
    refine Calls.mono hQ9 ?_
    rintro e w9 ⟨ao, cap, rfl, hl9, hf9, hb9⟩
    have HB9 : Hid (Below w.heap.size w w9) := HB3.out.trans (hb9.mono HB3.out.size)
    have HL9 : Hid (RLines w9 (.slice ao NX cap) xs) := hl9
    have HF9 : Hid _ := hf9
    clear hQ9 hl9 hf9 hb9
    by_cases hg : g = 0
    · subst hg
      obtain ⟨hs0, hs1⟩ := HG.out rfl
      have hQ10 := print_is ao cap xs w9 (by rw [← HNX.out]; exact HL9.out) HF9.out (HE.out.below HB9.out)
      rw [if_pos hs0, hs0, hs1, ← HNX.out, ← HSX.out] at hQ10
      clear hs0 hs1
      go_wp2_with fail
      refine Calls.mono hQ10 ?_
      rintro e w10 ⟨rfl, hb10⟩
      have HB10 : Hid (Below w.heap.size w w10) := HB9.out.trans (hb10.mono HB9.out.size)
      clear hQ10 hb10
      go_wp2_with fail
      go_ret
      exact ⟨rfl, HB10.out⟩
    · go_wp2_with fail
      go_ret
      exact ⟨rfl, HB9.out⟩
end Go.Proofs.YtdfnnhcooliheaaDoor
