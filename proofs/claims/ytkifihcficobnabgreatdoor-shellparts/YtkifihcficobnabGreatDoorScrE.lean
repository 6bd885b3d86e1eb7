/- What the developers' CheckLine and Check of scripts do. What the developers' Check of scripts does. How long what can be read is. -/
import Derived.Test.YtkifihcficobnabGreatDoorWordE
import Derived.Test.YtkifihcficobnabGreatDoorPlainE
namespace Go.Proofs.YtkifihcficobnabGreatDoor
open Go.RowKit Go.Gs
set_option linter.unusedVariables false

theorem lchk_many {x : SLine} (h : x.fr.length < 1 ∨ 4 < x.fr.length ∨ 6 < x.cs.length) : lchk x = 2 := by unfold lchk; rw [if_pos h]
theorem lchk_from {x : SLine} (h : ¬ (x.fr.length < 1 ∨ 4 < x.fr.length ∨ 6 < x.cs.length)) {k : Nat} {s : List UInt8} (hk : x.fr[k]? = some s) (hs : isWord s = false) : lchk x = 1 := by
  unfold lchk
  rw [if_neg h, if_pos]
  rw [List.all_eq_false]
  exact ⟨s, List.mem_of_getElem? hk, by simp [hs]⟩
theorem lchk_to {x : SLine} (h : ¬ (x.fr.length < 1 ∨ 4 < x.fr.length ∨ 6 < x.cs.length)) (hf : x.fr.all isWord = true) (hs : isWord x.to = false) : lchk x = 1 := by
  unfold lchk
  rw [if_neg h, if_neg (by simp [hf]), if_pos hs]
theorem lchk_do {x : SLine} (h : ¬ (x.fr.length < 1 ∨ 4 < x.fr.length ∨ 6 < x.cs.length)) (hf : x.fr.all isWord = true) (hs : isWord x.to = true) : lchk x = firstBad (x.cs.map chk) := by
  unfold lchk
  rw [if_neg h, if_neg (by simp [hf]), if_neg (by simp [hs])]
theorem firstBad_at {α : Type} {f : α → Int} : ∀ {cs : List α} {k : Nat} {c : α}, cs[k]? = some c → (∀ d ∈ cs.take k, f d = 0) → f c ≠ 0 → firstBad (cs.map f) = f c
  | [], k, c, h, _, _ => by simp at h
  | d :: r, 0, c, h, _, hc => by
    simp at h; subst h
    rw [List.map_cons, firstBad, if_neg hc]
  | d :: r, k + 1, c, h, ha, hc => by
    rw [List.map_cons, firstBad, if_pos (ha d (by simp))]
    exact firstBad_at (k := k) (by simpa using h) (fun e he => ha e (by simp [he])) hc
theorem firstBad_none {α : Type} {f : α → Int} : ∀ {cs : List α}, (∀ d ∈ cs, f d = 0) → firstBad (cs.map f) = 0
  | [], _ => rfl
  | d :: r, h => by
    rw [List.map_cons, firstBad, if_pos (h d (by simp))]
    exact firstBad_none (fun e he => h e (by simp [he]))
theorem take_all {α : Type} {p : α → Prop} {l : List α} {k : Nat} {c : α} (hl : l[k]? = some c) (h : ∀ x ∈ l.take k, p x) (hc : p c) : ∀ x ∈ l.take (k + 1), p x := by
  intro x hx
  rw [List.take_add_one, hl] at hx
  simp only [Option.toList_some, List.mem_append, List.mem_singleton] at hx
  rcases hx with hx | rfl
  · exact h x hx
  · exact hc
theorem box3_cells {w : World} {a b c : Value} {t : TypeId} : (w.alloc (.cells #[a, b, c] t)).cell? ⟨w.heap.size, 0, none⟩ = some a ∧ (w.alloc (.cells #[a, b, c] t)).cell? ⟨w.heap.size, 1, none⟩ = some b ∧ (w.alloc (.cells #[a, b, c] t)).cell? ⟨w.heap.size, 2, none⟩ = some c := by
  refine ⟨?_, ?_, ?_⟩
  all_goals
    rw [cell_of_row _ _ _ _ _ _ (heap_alloc_new w _)]
    rfl

set_option maxRecDepth 100000 in
set_option maxHeartbeats 4000000 in
theorem checkLine_many (x : SLine) (af ad : Option Addr) (NF ND cf cd : Nat) (sx : ByteArray) (w : World) (h : NF < 1 ∨ 4 < NF ∨ 6 < ND) (hm1 : NF ≤ maxLen) (hm2 : ND ≤ maxLen) :
    Calls Tryz.prog 63 #[.agg #[.slice af NF cf, .slice ad ND cd, .string sx]] w fun e w' => e = .returned (.int .i64 2) ∧ Below w.heap.size w w' := by
  unfold maxLen at hm1 hm2
  by_cases h1 : NF < 1
  · obtain rfl : NF = 0 := by omega
    go_enter Tryz.func63, Tryz.ntmps63
    go_wp2_with fail
    go_ret
    exact ⟨rfl, box_of⟩
  · by_cases h2 : 4 < NF
    · have h1' : ¬ ((NF : Int) < 1) := by omega
      have h2' : (4 : Int) < NF := by omega
      clear h
      go_enter Tryz.func63, Tryz.ntmps63
      go_wp2_with fail
      go_ret
      exact ⟨rfl, box_of⟩
    · have h1' : ¬ ((NF : Int) < 1) := by omega
      have h2' : ¬ (4 : Int) < NF := by omega
      have h3' : (6 : Int) < ND := by omega
      clear h
      go_enter Tryz.func63, Tryz.ntmps63
      go_wp2_with fail
      go_ret
      exact ⟨rfl, box_of⟩

set_option maxRecDepth 100000 in
set_option maxHeartbeats 4000000 in
theorem checkLine_is (x : SLine) (af ad : Option Addr) (cf cd : Nat) (w : World) (hf : Reads w (.slice af x.fr.length cf) x.fr.length (x.fr.map S)) (hd : RCmds w (.slice ad x.cs.length cd) x.cs) (hfit : FitsL x) :
    Calls Tryz.prog 63 #[.agg #[.slice af x.fr.length cf, .slice ad x.cs.length cd, .string ⟨x.to.toArray⟩]] w fun e w' => e = .returned (.int .i64 (lchk x)) ∧ Below w.heap.size w w' := by
  by_cases hm : x.fr.length < 1 ∨ 4 < x.fr.length ∨ 6 < x.cs.length
  · rw [lchk_many hm]
    obtain ⟨_, _, e1, a1, a2⟩ := hf.shape
    obtain ⟨_, _, e2, b1, b2⟩ := hd.shape
    exact checkLine_many x af ad _ _ cf cd _ w hm (by omega) (by omega)
  · have HF : Hid (Reads w (.slice af x.fr.length cf) x.fr.length (x.fr.map S)) := hf
    have HD : Hid (RCmds w (.slice ad x.cs.length cd) x.cs) := hd
    have HM : Hid _ := hm
    have HFit : Hid _ := hfit
    obtain ⟨NF, hNF⟩ : ∃ N, N = x.fr.length := ⟨_, rfl⟩
    obtain ⟨ND, hND⟩ : ∃ N, N = x.cs.length := ⟨_, rfl⟩
    have HNF : Hid (NF = x.fr.length) := hNF
    have HND : Hid (ND = x.cs.length) := hND
    have h1 : 1 ≤ NF := by omega
    have h2 : NF ≤ 4 := by omega
    have h3 : ND ≤ 6 := by omega
    have hWt := fun W => word_is x.to W hfit.2.2
    rw [← hNF, ← hND]
    rw [← hNF] at HF
    rw [← hND] at HD
    obtain ⟨sx, hsx⟩ : ∃ sx : ByteArray, sx = ⟨x.to.toArray⟩ := ⟨_, rfl⟩
    rw [← hsx] at hWt ⊢
    obtain ⟨wt, hwt⟩ : ∃ b, b = isWord x.to := ⟨_, rfl⟩
    have HWT : Hid (wt = isWord x.to) := hwt
    rw [← hwt] at hWt
    clear hNF hND hf hd hm hfit hsx hwt
    go_enter Tryz.func63, Tryz.ntmps63
    go_wp2_with fail
    go_loopw [27] (fun i wr => ∃ k : Nat, k ≤ NF ∧ i = .int .i64 k ∧ wr = w.alloc (.cells #[.slice af NF cf, .slice ad ND cd, .string sx] 40) ∧ Hid (∀ s ∈ x.fr.take k, isWord s = true)) (fun i _ => NF - (intOf i).toNat)
    case atStart => exact ⟨0, Nat.zero_le _, rfl, rfl, (show ∀ s ∈ x.fr.take 0, isWord s = true by simp)⟩
    case round =>
      obtain ⟨k, hk, rfl, rfl, hall⟩ := hrel
      by_cases hlt : k < NF
      · obtain ⟨s, hs⟩ : ∃ s, x.fr[k]? = some s := ⟨_, List.getElem?_eq_getElem (by have := HNF.out; omega)⟩
        have HS : Hid (x.fr[k]? = some s) := hs
        obtain ⟨b, off, rfl, hcell⟩ := HF.out.at hs
        have hcell' := (box_of (w := w) (o := .cells #[.slice (some ⟨b, off, none⟩) NF cf, .slice ad ND cd, .string sx] 40)).cell (World.block_lt_of_cell? w _ hcell)
        rw [hcell] at hcell'
        have hWs := fun W => word_is s W (HFit.out.1 s (List.mem_of_getElem? hs))
        generalize (⟨s.toArray⟩ : ByteArray) = sy at *
        clear hcell hs
        cases hw : isWord s with
        | false =>
          have HR : Hid (lchk x = 1) := lchk_from HM.out HS.out hw
          rw [hw] at hWs
          clear hw hall
          go_wp2_with fail
          refine (hWs _).mono ?_
          rintro e w1 ⟨rfl, rfl⟩
          go_wp2_with fail
          go_ret
          exact ⟨by rw [HR.out]; rfl, box_of⟩
        | true =>
          have HA : Hid (∀ s ∈ x.fr.take (k + 1), isWord s = true) := take_all HS.out hall.out hw
          rw [hw] at hWs
          clear hw hall
          go_wp2_with fail
          refine (hWs _).mono ?_
          rintro e w1 ⟨rfl, hw1⟩
          subst hw1
          go_wp2_with fail
          go_roundw
          case rel => exact ⟨k + 1, by omega, by go_num, by first | rfl | trivial, HA⟩
          case measure => simp [intOf]; omega
      · have hall' : x.fr.all isWord = true := by
          have e := hall.out
          rw [List.take_of_length_le (by have := HNF.out; omega)] at e
          exact List.all_eq_true.2 e
        have HA : Hid _ := hall'
        clear hall hall'
        cases wt with
        | false =>
          have HR : Hid (lchk x = 1) := lchk_to HM.out HA.out HWT.out.symm
          clear HM HA
          go_wp2_with fail
          refine (hWt _).mono ?_
          rintro e w1 ⟨rfl, rfl⟩
          go_wp2_with fail
          go_ret
          exact ⟨by rw [HR.out]; rfl, box_of⟩
        | true =>
          have HR : Hid (lchk x = firstBad (x.cs.map chk)) := lchk_do HM.out HA.out HWT.out.symm
          clear HM HA
          go_wp2_with fail
          refine (hWt _).mono ?_
          rintro e w1 ⟨rfl, rfl⟩
          clear hWt
          go_wp2_with fail
          go_loopw [42] (fun i wr => ∃ k : Nat, k ≤ ND ∧ i = .int .i64 k ∧ Hid (Below w.heap.size w wr) ∧ Hid (∀ c ∈ x.cs.take k, chk c = 0)) (fun i _ => ND - (intOf i).toNat)
          case atStart => exact ⟨0, Nat.zero_le _, rfl, box_of, (show ∀ c ∈ x.cs.take 0, chk c = 0 by simp)⟩
          case round =>
            obtain ⟨k, hk, rfl, hbel, hall⟩ := hrel
            by_cases hlt : k < ND
            · obtain ⟨c, hc⟩ : ∃ c, x.cs[k]? = some c := ⟨_, List.getElem?_eq_getElem (by have := HND.out; omega)⟩
              have HS : Hid (x.cs[k]? = some c) := hc
              obtain ⟨b, off, rfl, hc0, hc1, hc2⟩ := (RCmds.below HD.out hbel.out).at hc
              have hCk := fun W => check_is c W (HFit.out.2.1 c (List.mem_of_getElem? hc))
              unfold Cmd.v at hCk
              generalize hr : chk c = r at *
              have HRr : Hid (chk c = r) := hr
              generalize c.kind = ck at *
              generalize c.n = cn at *
              generalize (⟨c.word.toArray⟩ : ByteArray) = sy at *
              clear hc hr
              go_wp2_with fail
              refine (hCk _).mono ?_
              rintro e w1 ⟨rfl, hb1⟩
              have HB : Hid (Below w.heap.size w w1) := (hbel.out.alloc hbel.out.size _).trans (hb1.mono (by simp; exact Nat.le_succ_of_le hbel.out.size))
              clear hb1 hbel
              by_cases hr0 : r = 0
              · subst hr0
                have HA : Hid (∀ c ∈ x.cs.take (k + 1), chk c = 0) := take_all HS.out hall.out HRr.out
                clear hall
                go_wp2_with fail
                go_roundw
                case rel => exact ⟨k + 1, by omega, by go_num, HB, HA⟩
                case measure => simp [intOf]; omega
              · have HA : Hid (lchk x = r) := (show _ = _ from by rw [HR.out, firstBad_at HS.out hall.out (by rw [HRr.out]; exact hr0), HRr.out])
                clear hall
                go_wp2_with fail
                go_ret
                exact ⟨by rw [HA.out]; rfl, HB.out⟩
            · have HA : Hid (lchk x = 0) := by
                show _ = _
                rw [HR.out]
                have e := hall.out
                rw [List.take_of_length_le (by have := HND.out; omega)] at e
                exact firstBad_none e
              clear hall HR
              go_wp2_with fail
              go_ret
              exact ⟨by rw [HA.out]; rfl, hbel.out⟩
end Go.Proofs.YtkifihcficobnabGreatDoor
namespace Go.Proofs.YtkifihcficobnabGreatDoor
open Go.RowKit Go.Gs
set_option linter.unusedVariables false

theorem schk_many {ls : List SLine} (h : 6 < ls.length) : schk ls = 2 := by unfold schk; rw [if_pos h]
theorem schk_few {ls : List SLine} (h : ¬ 6 < ls.length) : schk ls = firstBad (ls.map lchk) := by unfold schk; rw [if_neg h]

set_option maxRecDepth 100000 in
set_option maxHeartbeats 4000000 in
theorem scheck_is (ao : Option Addr) (cap : Nat) (ls : List SLine) (w : World) (hl : RLines w (.slice ao ls.length cap) ls) (hfit : ∀ x ∈ ls, FitsL x) :
    Calls Tryz.prog 51 #[.slice ao ls.length cap] w fun e w' => e = .returned (.int .i64 (schk ls)) ∧ Below w.heap.size w w' := by
  obtain ⟨_, _, e0, hm1, hm2⟩ := hl.shape
  injection e0 with e1 e2 e3
  subst e3
  unfold maxLen at hm2
  have HL : Hid (RLines w (.slice ao ls.length cap) ls) := hl
  have HFit : Hid _ := hfit
  obtain ⟨N, hN⟩ : ∃ N, N = ls.length := ⟨_, rfl⟩
  have HN : Hid (N = ls.length) := hN
  rw [← hN]
  rw [← hN] at HL
  by_cases hmany : 6 < N
  · have HR : Hid (schk ls = 2) := schk_many (by omega)
    have hq : (6 : Int) < N := by omega
    have hN2 : N ≤ 9223372036854775807 := by omega
    clear hl hfit hm1 hN e1 hm2
    go_enter Tryz.func51, Tryz.ntmps51
    go_wp2_with fail
    go_ret
    exact ⟨by rw [HR.out]; rfl, Below.refl _ _⟩
  · have HR : Hid (schk ls = firstBad (ls.map lchk)) := schk_few (by omega)
    have hN6 : N ≤ 6 := by omega
    clear hl hfit hm1 hN e1 hmany hm2
    go_enter Tryz.func51, Tryz.ntmps51
    go_wp2_with fail
    go_loopw [11] (fun i wr => ∃ k : Nat, k ≤ N ∧ i = .int .i64 k ∧ Hid (Below w.heap.size w wr) ∧ Hid (∀ x ∈ ls.take k, lchk x = 0)) (fun i _ => N - (intOf i).toNat)
    case atStart => exact ⟨0, Nat.zero_le _, rfl, Below.refl _ _, (show ∀ x ∈ ls.take 0, lchk x = 0 by simp)⟩
    case round =>
      obtain ⟨k, hk, rfl, hbel, hall⟩ := hrel
      by_cases hlt : k < N
      · obtain ⟨x, hx⟩ : ∃ x, ls[k]? = some x := ⟨_, List.getElem?_eq_getElem (by have := HN.out; omega)⟩
        have HS : Hid (ls[k]? = some x) := hx
        obtain ⟨b, off, af, cf, ad, cd, rfl, hc0, hc1, hc2, hr, hd⟩ := (RLines.below HL.out hbel.out).at hx
        have hCk := fun (W : World) (hb : Below wr.heap.size wr W) => checkLine_is x af ad cf cd W (hr.below hb) (hd.below hb) (HFit.out x (List.mem_of_getElem? hx))
        generalize hrr : lchk x = r at *
        have HRr : Hid (lchk x = r) := hrr
        generalize (⟨x.to.toArray⟩ : ByteArray) = sy at *
        generalize x.fr.length = NF at *
        generalize x.cs.length = ND at *
        have HC : Hid _ := hCk
        clear hx hrr hr hd hCk
        go_wp2_with fail
        refine (HC.out _ (box_of)).mono ?_
        rintro e w1 ⟨rfl, hb1⟩
        have HB : Hid (Below w.heap.size w w1) := (hbel.out.alloc hbel.out.size _).trans (hb1.mono (by simp; exact Nat.le_succ_of_le hbel.out.size))
        clear hb1 hbel HC
        by_cases hr0 : r = 0
        · subst hr0
          have HA : Hid (∀ x ∈ ls.take (k + 1), lchk x = 0) := take_all HS.out hall.out HRr.out
          clear hall
          go_wp2_with fail
          go_roundw
          case rel => exact ⟨k + 1, by omega, by go_num, HB, HA⟩
          case measure => simp [intOf]; omega
        · have HA : Hid (schk ls = r) := (show _ = _ from by rw [HR.out, firstBad_at HS.out hall.out (by rw [HRr.out]; exact hr0), HRr.out])
          clear hall
          go_wp2_with fail
          go_ret
          exact ⟨by rw [HA.out]; rfl, HB.out⟩
      · have HA : Hid (schk ls = 0) := by
          show _ = _
          rw [HR.out]
          have e := hall.out
          rw [List.take_of_length_le (by have := HN.out; omega)] at e
          exact firstBad_none e
        clear hall HR
        go_wp2_with fail
        go_ret
        exact ⟨by rw [HA.out]; rfl, hbel.out⟩
end Go.Proofs.YtkifihcficobnabGreatDoor
namespace Go.Proofs.YtkifihcficobnabGreatDoor
open Go.RowKit Go.Gs
theorem reads_le {w : World} {ao : Option Addr} {n cap : Nat} {xs : List Value} (h : Reads w (.slice ao n cap) n xs) : n ≤ 9223372036854775807 := by
  obtain ⟨_, c, e, h1, h2⟩ := h.shape
  unfold maxLen at h2
  omega
theorem rcmds_le {w : World} {ao : Option Addr} {n cap : Nat} {cs : List Cmd} (h : RCmds w (.slice ao n cap) cs) : n ≤ 9223372036854775807 := by
  obtain ⟨_, c, e, h1, h2⟩ := h.shape
  unfold maxLen at h2
  injection e with e1 e2 e3
  omega
theorem rlines_le {w : World} {ao : Option Addr} {n cap : Nat} {ls : List SLine} (h : RLines w (.slice ao n cap) ls) : n ≤ cap ∧ cap ≤ 9223372036854775807 := by
  obtain ⟨_, c, e, h1, h2⟩ := h.shape
  unfold maxLen at h2
  injection e with e1 e2 e3
  omega
end Go.Proofs.YtkifihcficobnabGreatDoor
