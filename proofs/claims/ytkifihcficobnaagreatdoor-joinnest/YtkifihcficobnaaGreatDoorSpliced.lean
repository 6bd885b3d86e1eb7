/- The closed facts that the sentences on joins ask for. -/
import Derived.Test.YtkifihcficobnaaGreatDoorWordF
import Derived.Test.YtkifihcficobnaaGreatDoorJoinC
import Derived.Test.YtkifihcficobnaaGreatDoorJoinH
import Derived.Lib.SlBytesConst
namespace Go.Proofs.YtkifihcficobnaaGreatDoor
open Go.RowKit Go.Gs
set_option linter.unusedVariables false

theorem rlist_new {α : Type} {W : World} {f : α → Value} {t : TypeId} {N : Nat} {C : Array Value} (pss : List (List α)) (hN : pss.length = N) (hC : C.size = N) (hn : N ≤ 1000) (h : ∀ (j : Nat) (p : List α), pss[j]? = some p → ∃ u, C[j]? = some u ∧ Reads W u p.length (p.map f)) : RList (W.alloc (.cells C t)) (.slice (some ⟨W.heap.size, 0, none⟩) N N) f pss := by
  subst hN
  refine ⟨C.toList, reads_new W C t (0, 0) pss.length hC (by omega), fun j p hj => ?_⟩
  obtain ⟨u, h1, h2⟩ := h j p hj
  exact ⟨u, by simpa using h1, h2.below box_of⟩
theorem reads_nil {α : Type} {W : World} {f : α → Value} : Reads W (.slice none 0 0) ([] : List α).length (([] : List α).map f) := ⟨rfl, none, 0, rfl, Nat.le_refl _, by unfold maxLen; omega, fun h => absurd rfl h⟩

theorem reads_lit {W : World} {C : Array Value} {fr : Nat × Nat} {x : List UInt8} {n : Nat} (hC : C.toList = x.map U) (hn : x.length = n) (hm : n ≤ 1000000) : Reads (W.alloc (.cells C 5 fr)) (.slice (some ⟨W.heap.size, 0, none⟩) n n) x.length (x.map U) := by
  subst hn
  have hl : C.size = x.length := by
    have := congrArg List.length hC
    simpa using this
  have := reads_new W C 5 fr x.length hl hm
  rwa [hC] at this
theorem two_lits {w : World} {A B : Array Value} {fa fb : Nat × Nat} {x y : List UInt8} {n m : Nat} {t : TypeId} (hA : A.toList = x.map U) (hx : x.length = n) (hn : n ≤ 1000000) (hB : B.toList = y.map U) (hy : y.length = m) (hm : m ≤ 1000000) :
    RList (((w.alloc (.cells A 5 fa)).alloc (.cells B 5 fb)).alloc (.cells #[.slice (some ⟨w.heap.size, 0, none⟩) n n, .slice (some ⟨w.heap.size + 1, 0, none⟩) m m] t)) (.slice (some ⟨w.heap.size + 1 + 1, 0, none⟩) 2 2) U [x, y] := by
  have h := rlist_new (W := (w.alloc (.cells A 5 fa)).alloc (.cells B 5 fb)) (f := U) (t := t) (N := 2) (C := #[.slice (some ⟨w.heap.size, 0, none⟩) n n, .slice (some ⟨w.heap.size + 1, 0, none⟩) m m]) [x, y] rfl rfl (by omega) (fun j p hj => by
    match j, hj with
    | 0, hj => simp at hj; subst hj; exact ⟨_, rfl, (reads_lit hA hx hn).below box_of⟩
    | 1, hj =>
      simp at hj; subst hj
      refine ⟨_, rfl, ?_⟩
      have := reads_lit (W := w.alloc (.cells A 5 fa)) (fr := fb) hB hy hm
      rwa [show (w.alloc (.cells A 5 fa)).heap.size = w.heap.size + 1 by simp] at this
    | j + 2, hj => simp at hj)
  rwa [show ((w.alloc (.cells A 5 fa)).alloc (.cells B 5 fb)).heap.size = w.heap.size + 1 + 1 by simp] at h
theorem below3a {w : World} {o p q : Obj} : Below w.heap.size w (((w.alloc o).alloc p).alloc q) := (((Below.refl _ w).alloc (Nat.le_refl _) o).alloc (by simp) p).alloc (by simp; omega) q
theorem below_four {w : World} {o p q r : Obj} : Below w.heap.size w ((((w.alloc o).alloc p).alloc q).alloc r) := below3a.alloc (by simp; omega) r
theorem four_lits {w : World} {A B C : Array Value} {fa fb fc : Nat × Nat} {x y z : List UInt8} {n m k : Nat} {t : TypeId} (hA : A.toList = x.map U) (hx : x.length = n) (hn : n ≤ 1000000) (hB : B.toList = y.map U) (hy : y.length = m) (hm : m ≤ 1000000) (hC : C.toList = z.map U) (hz : z.length = k) (hk : k ≤ 1000000) :
    RList ((((w.alloc (.cells A 5 fa)).alloc (.cells B 5 fb)).alloc (.cells C 5 fc)).alloc (.cells #[.slice (some ⟨w.heap.size, 0, none⟩) n n, .slice (some ⟨w.heap.size + 1, 0, none⟩) m m, .slice none 0 0, .slice (some ⟨w.heap.size + 1 + 1, 0, none⟩) k k] t)) (.slice (some ⟨w.heap.size + 1 + 1 + 1, 0, none⟩) 4 4) U [x, y, [], z] := by
  have h := rlist_new (W := ((w.alloc (.cells A 5 fa)).alloc (.cells B 5 fb)).alloc (.cells C 5 fc)) (f := U) (t := t) (N := 4) (C := #[.slice (some ⟨w.heap.size, 0, none⟩) n n, .slice (some ⟨w.heap.size + 1, 0, none⟩) m m, .slice none 0 0, .slice (some ⟨w.heap.size + 1 + 1, 0, none⟩) k k]) [x, y, [], z] rfl rfl (by omega) (fun j p hj => by
    match j, hj with
    | 0, hj => simp at hj; subst hj; exact ⟨_, rfl, ((reads_lit hA hx hn).below box_of).below box_of⟩
    | 1, hj =>
      simp at hj; subst hj
      refine ⟨_, rfl, ?_⟩
      have := (reads_lit (W := w.alloc (.cells A 5 fa)) (fr := fb) hB hy hm).below (box_of (o := .cells C 5 fc))
      rwa [show (w.alloc (.cells A 5 fa)).heap.size = w.heap.size + 1 by simp] at this
    | 2, hj => simp at hj; subst hj; exact ⟨_, rfl, reads_nil⟩
    | 3, hj =>
      simp at hj; subst hj
      refine ⟨_, rfl, ?_⟩
      have := reads_lit (W := (w.alloc (.cells A 5 fa)).alloc (.cells B 5 fb)) (fr := fc) hC hz hk
      rwa [show ((w.alloc (.cells A 5 fa)).alloc (.cells B 5 fb)).heap.size = w.heap.size + 1 + 1 by simp] at this
    | j + 4, hj => simp at hj)
  rwa [show (((w.alloc (.cells A 5 fa)).alloc (.cells B 5 fb)).alloc (.cells C 5 fc)).heap.size = w.heap.size + 1 + 1 + 1 by simp] at h

def zeroC : Cmd := ⟨0, [], 0⟩
def sp1 : List UInt8 := [97, 10, 99, 10]
def sp2 : List UInt8 := [98, 10]
def sp3 : List UInt8 := [50, 10]
def sp4 : List UInt8 := [51]
def sp5 : List UInt8 := [120, 10]
theorem sp_merge : jOut 2 zeroC [sp1, sp2] = [97, 10, 98, 10, 99, 10] := by decide +kernel
theorem itoa_two : Lib.itoa ((2 : Nat) : Int) = [50] := by unfold Lib.itoa; rw [if_neg (by omega), Lib.decDigits, dif_pos (by decide)]; rfl
theorem itoa_three : Lib.itoa ((3 : Nat) : Int) = [51] := by unfold Lib.itoa; rw [if_neg (by omega), Lib.decDigits, dif_pos (by decide)]; rfl
theorem itoa_five : Lib.itoa ((5 : Nat) : Int) = [53] := by unfold Lib.itoa; rw [if_neg (by omega), Lib.decDigits, dif_pos (by decide)]; rfl
theorem sp_sum : jOut 3 zeroC [sp3, sp4, [], sp5] = [53, 10] := by
  have e1 : lines sp3 = [[50]] := by decide +kernel
  have e2 : lines sp4 = [[51]] := by decide +kernel
  have e3 : lines [] = [] := by decide +kernel
  have e4 : lines sp5 = [[120]] := by decide +kernel
  have n1 : headNum [[50]] = 2 := by rw [headNum_cons, ← itoa_two]; exact numOf_itoa 2 (by omega)
  have n2 : headNum [[51]] = 3 := by rw [headNum_cons, ← itoa_three]; exact numOf_itoa 3 (by omega)
  have n3 : headNum [[120]] = 0 := by
    rw [headNum_cons]
    have hs : Lib.atoiAll [120] = .«syntax» := by decide +kernel
    exact numOf_bad (fun n h => by rw [hs] at h; cases h)
  have hsum : sumOf [[[50]], [[51]], [], [[120]]] = 5 := by
    unfold sumOf
    simp only [List.map_cons, List.map_nil, List.sum_cons, List.sum_nil, n1, n2, n3, headNum_nil]
    rfl
  unfold jOut
  simp only [List.map_cons, List.map_nil, e1, e2, e3, e4]
  rw [joined3, hsum, itoa_five]
  rfl

set_option maxRecDepth 100000 in
set_option maxHeartbeats 4000000 in
theorem spliced_true (w : World) (hE : KnownE w) : Calls Tryz.prog 33 #[] w fun e w' => e = .returned (.bool true) ∧ Below w.heap.size w w' := by
  have kc := fun (w : World) (C : Array Value) (n c : Nat) => Lib.run_convert_bytes_const (P := Tryz.prog) w 24 5 C n c Tryz.underlying24 Tryz.underlying5
  have kc1 : ∀ (w : World) (o : Obj) (C : Array Value) (n c : Nat), (convert 24 24 (.slice (some ⟨w.heap.size + 1, 0, none⟩) n c)).run Tryz.prog ((w.alloc o).alloc (.cells C 5)) = .ok (.slice (some ⟨w.heap.size + 1, 0, none⟩) n c) ((w.alloc o).alloc (.cells C 5 (C.size, C.size + 1))) := by
    intro w o C n c
    have := kc (w.alloc o) C n c
    rwa [show (w.alloc o).heap.size = w.heap.size + 1 by simp] at this
  have kc2 : ∀ (w : World) (o p : Obj) (C : Array Value) (n c : Nat), (convert 24 24 (.slice (some ⟨w.heap.size + 1 + 1, 0, none⟩) n c)).run Tryz.prog (((w.alloc o).alloc p).alloc (.cells C 5)) = .ok (.slice (some ⟨w.heap.size + 1 + 1, 0, none⟩) n c) (((w.alloc o).alloc p).alloc (.cells C 5 (C.size, C.size + 1))) := by
    intro w o p C n c
    have := kc ((w.alloc o).alloc p) C n c
    rwa [show ((w.alloc o).alloc p).heap.size = w.heap.size + 1 + 1 by simp] at this
  have HK : Hid (KnownE w) := hE
  clear hE
  go_enter Tryz.func33, Tryz.ntmps33
  go_wp2_with fail
  have HD1 : Hid _ := fun (W : World) (v : Value) hp hE => jdo_ok 2 zeroC v [sp1, sp2] W (by decide) (by decide) hp (by decide) (by decide) hE
  refine (HD1.out _ _ (two_lits ?a1 rfl (by decide) ?a2 rfl (by decide)) (HK.out.below below3a)).mono ?_
  case a1 => rfl
  case a2 => rfl
  rintro e w1 ⟨r1, rfl, hown1, hb1⟩
  rw [sp_merge] at hown1
  have HR1 : Hid (Reads w1 r1 6 ([97, 10, 98, 10, 99, 10].map U)) := Reads.of_owns hown1
  have HB1 : Hid (Below w.heap.size w w1) := below3a.trans (hb1.mono (by simp; omega))
  clear hown1 hb1 HD1
  go_wp2_with fail
  have HD2 : Hid _ := fun (W : World) (v : Value) hp hE => jdo_ok 3 zeroC v [sp3, sp4, [], sp5] W (by decide) (by decide) hp (by decide) (by decide) hE
  refine (HD2.out _ _ (four_lits ?b1 rfl (by decide) ?b2 rfl (by decide) ?b3 rfl (by decide)) ((HK.out.below HB1.out).below below_four)).mono ?_
  case b1 => rfl
  case b2 => rfl
  case b3 => rfl
  rintro e w2 ⟨r2, rfl, hown2, hb2⟩
  rw [sp_sum] at hown2
  have hb12 : Below w1.heap.size w1 w2 := below_four.trans (hb2.mono (by simp; omega))
  have HR2 : Hid (Reads w2 r2 2 ([53, 10].map U)) := Reads.of_owns hown2
  have HR12 : Hid (Reads w2 r1 6 ([97, 10, 98, 10, 99, 10].map U)) := HR1.out.below hb12
  have HB2 : Hid (Below w.heap.size w w2) := HB1.out.trans (hb12.mono HB1.out.size)
  clear hown2 hb2 hb12 HD2 HR1 HB1
  go_wp2_with fail
  have hF := for_is ⟨9, [], 1⟩ w2 (by decide)
  rw [if_pos (by decide)] at hF
  refine hF.mono ?_
  rintro e w3 ⟨rfl, hb3⟩
  have hcv1 := conv_any (bs := [97, 10, 98, 10, 99, 10]) (HR12.out.below hb3)
  have hcv2 := conv_any (bs := [53, 10]) (HR2.out.below hb3)
  have HB3 : Hid (Below w.heap.size w w3) := HB2.out.trans (hb3.mono HB2.out.size)
  clear hb3 HR12 HR2 HB2 hF kc kc1 kc2
  go_wp2_with fail
  go_ret
  exact ⟨rfl, HB3.out⟩
end Go.Proofs.YtkifihcficobnaaGreatDoor
