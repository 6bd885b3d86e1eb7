/- What the developers' join's number and sum do. -/
import Derived.Test.YtfkddfmbgbaefaaGreatDoorDevJoin3
import Derived.Test.YtfkddfmbgbaefaaGreatDoorNumLib
import Derived.Test.YtfkddfmbgbaefaaGreatDoorDevDo
import Derived.Lib.IfaceNeq
namespace Go.Proofs.YtfkddfmbgbaefaaGreatDoor
open Go.RowKit Go.Gs
set_option linter.unusedVariables false

/-- What is known of the world beside: the library's two errors are there. -/
def IsErr (w : World) (g : Nat) : Prop := ∃ ev, w.cell? ⟨g, 0, none⟩ = some ev ∧ (ev = .nilIface ∨ ∃ te pe, ev = .iface te pe)
theorem IsErr.below {w w' : World} {g : Nat} (h : IsErr w g) (hb : Below w.heap.size w w') : IsErr w' g := by
  obtain ⟨ev, h1, h2⟩ := h
  exact ⟨ev, (hb.cell (World.block_lt_of_cell? w _ h1)).trans h1, h2⟩
def KnownE (w : World) : Prop := Known w ∧ IsErr w 0 ∧ IsErr w 1
theorem KnownE.below {w w' : World} (h : KnownE w) (hb : Below w.heap.size w w') : KnownE w' := ⟨h.1.below hb, h.2.1.below hb, h.2.2.below hb⟩

theorem itoa_is (n : Int) (w : World) (h0 : -9223372036854775808 ≤ n) (h1 : n ≤ 9223372036854775807) (hK : Known w) :
    Calls Tryz.prog 49 #[.int .i64 n] w fun e w' => e = .returned (.string ⟨(Lib.itoa n).toArray⟩) ∧ Below w.heap.size w w' := by
  refine (Tryz.strconv_Itoa n h0 h1 w hK.2).mono ?_
  rintro e w1 ⟨rfl, q, os, hw1⟩
  exact ⟨rfl, by rw [hw1]; exact below_grow' _ _ (Nat.le_refl _)⟩
theorem bytes_below {w w' : World} (h : w' = w ∨ ∃ t, w' = Lib.bytesWorld w 5 t) : Below w.heap.size w w' := by
  rcases h with rfl | ⟨t, rfl⟩
  · exact Below.refl _ _
  · exact Lib.bytesWorld_below _ _ _
theorem atoi_ok (s : ByteArray) (n : Int) (w : World) (hs : s.size ≤ 281474976710656) (h : Lib.atoiAll s.data.toList = .ok n) :
    Calls Tryz.prog 38 #[.string s] w fun e w' => e = .returned (.tuple #[.int .i64 n, .nilIface]) ∧ Below w.heap.size w w' := by
  refine (Tryz.strconv_Atoi_ok s (by omega) n h w).mono ?_
  rintro e w' ⟨rfl, hw⟩
  exact ⟨rfl, bytes_below hw⟩
theorem atoi_bad (s : ByteArray) (w : World) (hs : s.size ≤ 281474976710656) (hE : KnownE w) (h : ∀ n, Lib.atoiAll s.data.toList ≠ .ok n) :
    Calls Tryz.prog 38 #[.string s] w fun e w' => ∃ z t p, e = .returned (.tuple #[.int .i64 z, .iface t p]) ∧ Below w.heap.size w w' := by
  cases hc : Lib.atoiAll s.data.toList with
  | ok n => exact absurd hc (h n)
  | «syntax» =>
    obtain ⟨ev, h1, h2⟩ := hE.2.1
    refine (Tryz.strconv_Atoi_syntax s hs hc ev w h1 h2).mono ?_
    rintro e w' ⟨N, rfl, _, _, hb⟩
    exact ⟨_, _, _, rfl, hb⟩
  | range =>
    obtain ⟨ev, h1, h2⟩ := hE.2.2
    refine (Tryz.strconv_Atoi_range s hs hc ev w h1 h2).mono ?_
    rintro e w' ⟨N, rfl, _, _, hb⟩
    exact ⟨_, _, _, rfl, hb⟩

set_option maxRecDepth 100000 in
set_option maxHeartbeats 4000000 in
theorem number_is (s : List UInt8) (w : World) (hs : s.length ≤ 100000) (hE : KnownE w) :
    Calls Tryz.prog 113 #[.string ⟨s.toArray⟩] w fun e w' => e = .returned (.int .i64 (numOf s : Int)) ∧ Below w.heap.size w w' := by
  have hd : (⟨s.toArray⟩ : ByteArray).data.toList = s := rfl
  have hsz : (⟨s.toArray⟩ : ByteArray).size = s.length := by simp [ByteArray.size]
  by_cases hok : ∃ n, Lib.atoiAll s = .ok n
  · obtain ⟨n, hn⟩ := hok
    have hb := Lib.atoiAll_bounds hn
    have hA := atoi_ok ⟨s.toArray⟩ n w (by omega) (by rw [hd]; exact hn)
    have hN := numOf_ok hn
    have hI := fun (W : World) (h : Known W) => itoa_is n W hb.1 hb.2 h
    have HE : Hid (KnownE w) := hE
    by_cases h0 : n < 0
    · have HN : Hid (numOf s = 0) := (show _ = _ by rw [hN, if_neg (by omega)])
      clear hN hI hE hd hsz
      go_enter Tryz.func113, Tryz.ntmps113
      go_wp2_with fail
      refine hA.mono ?_
      rintro e w1 ⟨rfl, hb1⟩
      have HB : Hid (Below w.heap.size w w1) := hb1
      clear hb1 hA
      go_wp2_with fail
      go_ret
      exact ⟨by rw [HN.out]; rfl, HB.out⟩
    · by_cases h1 : 4000 < n
      · have HN : Hid (numOf s = 0) := (show _ = _ by rw [hN, if_neg (by omega)])
        clear hN hI hE hd hsz
        go_enter Tryz.func113, Tryz.ntmps113
        go_wp2_with fail
        refine hA.mono ?_
        rintro e w1 ⟨rfl, hb1⟩
        have HB : Hid (Below w.heap.size w w1) := hb1
        clear hb1 hA
        go_wp2_with fail
        go_ret
        exact ⟨by rw [HN.out]; rfl, HB.out⟩
      · have hI' : ∀ (W : World), Known W → Calls Tryz.prog 49 #[.int .i64 n] W fun e w' => ∃ tx : ByteArray, e = .returned (.string tx) ∧ Hid (Value.string tx = S (Lib.itoa n)) ∧ Below W.heap.size W w' := by
          intro W hK
          refine (hI W hK).mono ?_
          rintro e w' ⟨rfl, hb⟩
          exact ⟨_, rfl, rfl, hb⟩
        obtain ⟨sx, hsx⟩ : ∃ sx : ByteArray, sx = ⟨s.toArray⟩ := ⟨_, rfl⟩
        have HSX : Hid (Value.string sx = S s) := by rw [hsx]; exact rfl
        rw [← hsx] at hA ⊢
        have HN : Hid _ := hN
        have HI : Hid _ := hI'
        have HNn : Hid (0 ≤ n ∧ n ≤ 4000) := ⟨by omega, by omega⟩
        clear hN hI hI' hE hd hsz hsx
        go_enter Tryz.func113, Tryz.ntmps113
        go_wp2_with fail
        refine hA.mono ?_
        rintro e w1 ⟨rfl, hb1⟩
        have HB : Hid (Below w.heap.size w w1) := hb1
        clear hb1 hA
        go_wp2_with fail
        refine (HI.out w1 (HE.out.below HB.out).1).mono ?_
        rintro e w2 ⟨tx, rfl, htx, hb2⟩
        have HB2 : Hid (Below w.heap.size w w2) := HB.out.trans (hb2.mono HB.out.size)
        clear hb2
        by_cases heq : Lib.itoa n = s
        · have hbe : (tx.toList == sx.toList) = true := by rw [str_data htx.out, str_data HSX.out, heq]; simp
          have HD : Hid ((numOf s : Int) = n) := (show _ = _ by
            rw [HN.out, if_pos ⟨HNn.out.1, HNn.out.2, heq⟩]
            have := HNn.out.1
            omega)
          clear heq
          go_wp2_with fail
          go_ret
          exact ⟨by rw [HD.out]; rfl, HB2.out⟩
        · have hbe : (tx.toList == sx.toList) = false := by rw [str_data htx.out, str_data HSX.out]; simpa using heq
          have HD : Hid ((numOf s : Int) = 0) := (show _ = _ by
            rw [HN.out, if_neg (fun h => heq h.2.2)]
            rfl)
          clear heq
          go_wp2_with fail
          go_ret
          exact ⟨by rw [HD.out]; rfl, HB2.out⟩
  · have hA := atoi_bad ⟨s.toArray⟩ w (by omega) hE (by rw [hd]; exact fun n h => hok ⟨n, h⟩)
    have HN : Hid (numOf s = 0) := numOf_bad (fun n h => hok ⟨n, h⟩)
    clear hok hE hd hsz
    go_enter Tryz.func113, Tryz.ntmps113
    go_wp2_with fail
    refine hA.mono ?_
    rintro e w1 ⟨z, t, p, rfl, hb1⟩
    have HB : Hid (Below w.heap.size w w1) := hb1
    clear hb1 hA
    go_wp2_with fail
    go_ret
    exact ⟨by rw [HN.out]; rfl, HB.out⟩
end Go.Proofs.YtfkddfmbgbaefaaGreatDoor
