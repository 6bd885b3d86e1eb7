/- What the developers' kindOf, number, parsedCommand do. -/
import Derived.Test.YtdfnnhcooliheaaDoorSKnown
import Derived.Test.YtdfnnhcooliheaaDoorScriptMath
import Derived.Laws.ResultCell
namespace Go.Proofs.YtdfnnhcooliheaaDoor
open Go.RowKit Go.Gs
set_option linter.unusedVariables false

theorem str_eq (a b : List UInt8) : ((⟨a.toArray⟩ : ByteArray).toList == (⟨b.toArray⟩ : ByteArray).toList) = decide (a = b) := by
  by_cases h : a = b
  · subst h; simp
  · simp [h]
theorem kindOf_hit {s : List UInt8} {k : Nat} (h1 : 1 ≤ k) (h2 : k ≤ 10) (h : vnames.getD k [] = s) : kindOf s = k := by
  have e : nameOf (k : Int) = s := by unfold nameOf; simpa using h
  rw [← e]
  exact kindOf_name (by omega) (by omega)
theorem kindOf_miss {s : List UInt8} (h : ∀ j, 1 ≤ j → j < 11 → vnames.getD j [] ≠ s) : kindOf s = 0 := by
  rcases kindFrom_spec s 10 1 with ⟨h1, _⟩ | ⟨j, h1, h2, h3, h4⟩
  · exact h1
  · exact absurd (by unfold nameOf at h4; simpa using h4) (h j h2 (by omega))

set_option maxRecDepth 100000 in
set_option maxHeartbeats 4000000 in
theorem kindOf_is (s : List UInt8) (w : World) (hK : NamesIs w) :
    Calls Tryd.prog 104 #[.string ⟨s.toArray⟩] w fun e w' => e = .returned (.int .i64 (kindOf s)) ∧ w' = w := by
  have HK : Hid (NamesIs w) := hK
  obtain ⟨sx, hsx⟩ : ∃ sx : ByteArray, sx = ⟨s.toArray⟩ := ⟨_, rfl⟩
  have HSX : Hid (sx = ⟨s.toArray⟩) := hsx
  rw [← hsx]
  clear hK hsx
  go_enter Tryd.func104, Tryd.ntmps104
  go_wp2_with fail
  go_loopw [3] (fun i wr => ∃ k : Nat, 1 ≤ k ∧ k ≤ 11 ∧ i = .int .i64 k ∧ wr = w ∧ Hid (∀ j, 1 ≤ j → j < k → vnames.getD j [] ≠ s)) (fun i _ => 11 - (intOf i).toNat)
  case atStart => exact ⟨1, by omega, by omega, rfl, rfl, (show ∀ j, 1 ≤ j → j < 1 → vnames.getD j [] ≠ s from fun j h1 h2 => by omega)⟩
  case round =>
    obtain ⟨k, hk1, hk2, rfl, hwr, hno⟩ := hrel
    obtain rfl : w = wr := hwr.symm
    by_cases hlt : k < 11
    · have hcell := HK.out k hlt
      have hq : (k : Int) ≤ 10 := by omega
      have hq0 : (0 : Int) ≤ k := by omega
      by_cases he : vnames.getD k [] = s
      · have hbe : ((⟨(vnames.getD k []).toArray⟩ : ByteArray).toList == sx.toList) = true := by rw [HSX.out, str_eq]; simpa using he
        have HR : Hid (kindOf s = k) := kindOf_hit hk1 (by omega) he
        generalize (⟨(vnames.getD k []).toArray⟩ : ByteArray) = sn at *
        clear he hno
        go_wp2_with fail
        go_ret
        exact ⟨by rw [HR.out]; rfl, rfl⟩
      · have hbe : ((⟨(vnames.getD k []).toArray⟩ : ByteArray).toList == sx.toList) = false := by rw [HSX.out, str_eq]; simpa using he
        have HN : Hid (∀ j, 1 ≤ j → j < k + 1 → vnames.getD j [] ≠ s) := (show ∀ j, 1 ≤ j → j < k + 1 → vnames.getD j [] ≠ s from fun j h1 h2 => by
          by_cases hj : j = k
          · subst hj; exact he
          · exact hno.out j h1 (by omega))
        generalize (⟨(vnames.getD k []).toArray⟩ : ByteArray) = sn at *
        clear he hno
        go_wp2_with fail
        go_roundw
        case rel => exact ⟨k + 1, by omega, by omega, by go_num, by first | rfl | trivial, HN⟩
        case measure => simp [intOf]; omega
    · have hq : ¬ (k : Int) ≤ 10 := by omega
      have HR : Hid (kindOf s = 0) := kindOf_miss (fun j h1 h2 => hno.out j h1 (by omega))
      clear hno
      go_wp2_with fail
      go_ret
      exact ⟨by rw [HR.out]; rfl, rfl⟩

set_option maxRecDepth 100000 in
set_option maxHeartbeats 4000000 in
theorem snumber_is (s : List UInt8) (w : World) (hs : s.length ≤ 100000) (hE : KnownS w) :
    Calls Tryd.prog 105 #[.string ⟨s.toArray⟩] w fun e w' => ∃ n b, e = .returned (.tuple #[.int .i64 n, .bool b]) ∧ parseNum s = (if b = true then some n else none) ∧ Below w.heap.size w w' := by
  have hd : (⟨s.toArray⟩ : ByteArray).data.toList = s := rfl
  have hsz : (⟨s.toArray⟩ : ByteArray).size = s.length := by simp [ByteArray.size]
  by_cases hok : ∃ n, Lib.atoiAll s = .ok n
  · obtain ⟨n, hn⟩ := hok
    have hb := Lib.atoiAll_bounds hn
    have hA := satoi_ok ⟨s.toArray⟩ n w (by omega) (by rw [hd]; exact hn)
    have HI : Hid _ := fun (W : World) (h : KnownS W) => sitoa_is n W hb.1 hb.2 h
    have HE : Hid (KnownS w) := hE
    obtain ⟨sx, hsx⟩ : ∃ sx : ByteArray, sx = ⟨s.toArray⟩ := ⟨_, rfl⟩
    have HP : Hid (parseNum s = if Lib.itoa n = s then some n else none) := (show _ = _ by unfold parseNum; rw [hn])
    have HT : Hid (((⟨(Lib.itoa n).toArray⟩ : ByteArray).toList == sx.toList) = decide (Lib.itoa n = s)) := (show _ = _ by rw [hsx]; exact str_eq _ _)
    rw [← hsx] at hA ⊢
    obtain ⟨tx, htx⟩ : ∃ tx : ByteArray, tx = ⟨(Lib.itoa n).toArray⟩ := ⟨_, rfl⟩
    rw [← htx] at HI HT
    obtain ⟨d, hd'⟩ : ∃ d, d = decide (Lib.itoa n = s) := ⟨_, rfl⟩
    have HD : Hid (d = decide (Lib.itoa n = s)) := hd'
    rw [← hd'] at HT
    clear hE hd hsz hsx htx hd' hn hb
    go_enter Tryd.func105, Tryd.ntmps105
    go_wp2_with fail
    refine hA.mono ?_
    rintro e w1 ⟨rfl, hb1⟩
    have HB : Hid (Below w.heap.size w w1) := hb1
    clear hb1 hA
    go_wp2_with fail
    refine (HI.out w1 (HE.out.below HB.out)).mono ?_
    rintro e w2 ⟨rfl, hb2⟩
    have HB2 : Hid (Below w.heap.size w w2) := HB.out.trans (hb2.mono HB.out.size)
    have ht := HT.out
    clear hb2 HT
    go_wp2_with fail
    go_ret2
    refine ⟨n, d, rfl, ?_, HB2.out⟩
    rw [HP.out, HD.out]
    simp
  · have hA := satoi_bad ⟨s.toArray⟩ w (by omega) hE (by rw [hd]; exact fun n h => hok ⟨n, h⟩)
    have HN : Hid (parseNum s = none) := (show _ = _ by
      unfold parseNum
      split
      · rename_i n h; exact absurd ⟨n, h⟩ hok
      · rfl)
    clear hok hE hd hsz
    go_enter Tryd.func105, Tryd.ntmps105
    go_wp2_with fail
    refine hA.mono ?_
    rintro e w1 ⟨z, t, p, rfl, hb1⟩
    have HB : Hid (Below w.heap.size w w1) := hb1
    clear hb1 hA
    go_wp2_with fail
    go_ret2
    exact ⟨z, false, rfl, by rw [HN.out]; rfl, HB.out⟩

theorem blk3 {w : World} {p : Nat} {a b c : Value} {t : TypeId} (h : w.heap[p]? = some (.cells #[a, b, c] t (0, 0))) :
    w.cell? ⟨p, 0, none⟩ = some a ∧ w.cell? ⟨p, 1, none⟩ = some b ∧ w.cell? ⟨p, 2, none⟩ = some c ∧ w.frozen? ⟨p, 0, none⟩ = false ∧ w.frozen? ⟨p, 1, none⟩ = false ∧ w.frozen? ⟨p, 2, none⟩ = false := by
  simp [World.cell?, World.frozen?, h]
theorem below_set3 {B : Nat} {w w1 : World} (h : Below B w w1) {p : Nat} (hp : B ≤ p) (a b c : Value) : Below B w (((w1.setCell ⟨p, 0, none⟩ a).setCell ⟨p, 1, none⟩ b).setCell ⟨p, 2, none⟩ c) :=
  ((h.setCell (p := ⟨p, 0, none⟩) hp _).setCell (p := ⟨p, 1, none⟩) hp _).setCell (p := ⟨p, 2, none⟩) hp _
theorem kindOf_or (s : List UInt8) : kindOf s = 0 ∨ (1 ≤ kindOf s ∧ kindOf s ≤ 10) := by
  by_cases h : kindOf s = 0
  · exact .inl h
  · have := kindOf_spec s h
    exact .inr ⟨this.1, this.2.1⟩
theorem scut_is (s sep : List UInt8) (w : World) (hs : s.length ≤ 100000) (hK : KnownS w) :
    Calls Tryd.prog 52 #[.string ⟨s.toArray⟩, .string ⟨sep.toArray⟩] w fun e w' => e = .returned (.tuple #[.string ⟨(Lib.cut s sep).1.toArray⟩, .string ⟨(Lib.cut s sep).2.1.toArray⟩, .bool (Lib.cut s sep).2.2]) ∧ Below w.heap.size w w' := by
  obtain ⟨m, hm⟩ := hK.max
  have hsz : (⟨s.toArray⟩ : ByteArray).size = s.length := by simp [ByteArray.size]
  refine (Tryd.strings_Cut ⟨s.toArray⟩ ⟨sep.toArray⟩ m w (by omega) hm).mono ?_
  rintro e w' ⟨rfl, n, rfl⟩
  exact ⟨rfl, below_drewN' (Below.refl _ _) n⟩
theorem cut_len (s sep : List UInt8) : (Lib.cut s sep).1.length ≤ s.length ∧ (Lib.cut s sep).2.1.length ≤ s.length := by
  unfold Lib.cut
  split
  · simp; omega
  · simp

set_option maxRecDepth 100000 in
set_option maxHeartbeats 4000000 in
theorem parsedCommand_is (s : List UInt8) (w : World) (hs : s.length ≤ 100000) (hE : KnownS w) :
    Calls Tryd.prog 85 #[.string ⟨s.toArray⟩] w fun e w' => ∃ k n b, ∃ word : List UInt8, e = .returned (.tuple #[.agg #[.int .i64 k, .string ⟨word.toArray⟩, .int .i64 n], .bool b]) ∧ parseCmd s = (if b = true then some ⟨k, word, n⟩ else none) ∧ word.length ≤ 100000 ∧ Below w.heap.size w w' := by
  have hC := fun (W : World) (h : KnownS W) => scut_is s [32] W hs h
  obtain ⟨hl1, hl2⟩ := cut_len s [32]
  obtain ⟨nm, hnm⟩ : ∃ nm, nm = (Lib.cut s [32]).1 := ⟨_, rfl⟩
  obtain ⟨bh, hbh⟩ : ∃ bh, bh = (Lib.cut s [32]).2.1 := ⟨_, rfl⟩
  obtain ⟨mo, hmo⟩ : ∃ mo, mo = (Lib.cut s [32]).2.2 := ⟨_, rfl⟩
  have HP : Hid (parseCmd s = if kindOf nm = 0 then none else if uses (kindOf nm) = 1 then (if mo = true then some ⟨kindOf nm, bh, 0⟩ else none) else if uses (kindOf nm) = 2 then (match parseNum bh with | some n => some ⟨kindOf nm, [], n⟩ | none => none) else if mo = true then none else some ⟨kindOf nm, [], 0⟩) := (show _ = _ by rw [hnm, hbh, hmo]; rfl)
  rw [← hnm, ← hbh, ← hmo] at hC
  rw [← hbh] at hl2
  have hKd := fun (W : World) (h : KnownS W) => kindOf_is nm W h.names
  have hNum := fun (W : World) (h : KnownS W) => snumber_is bh W (by omega) h
  obtain ⟨k, hk⟩ : ∃ k, k = kindOf nm := ⟨_, rfl⟩
  have HW : Hid _ := fun W => hasWord_is k W
  have HNr : Hid _ := fun W => hasNumber_is k W
  have HKn : Hid (k = kindOf nm) := hk
  rw [← hk] at HP hKd
  have HC : Hid _ := hC
  have HKd : Hid _ := hKd
  have HNum : Hid _ := hNum
  have HE : Hid (KnownS w) := hE
  have HL : Hid (bh.length ≤ 100000) := (show _ ≤ _ by omega)
  generalize (⟨s.toArray⟩ : ByteArray) = sx at *
  clear hC hKd hNum hE hnm hbh hmo hk hl1 hl2 hs
  go_enter Tryd.func85, Tryd.ntmps85
  go_wp2_with fail
  refine (HC.out _ (HE.out.below box_of)).mono ?_
  rintro e w1 ⟨rfl, hb1⟩
  have hblk : w1.heap[w.heap.size]? = some (.cells #[.int .i64 0, .string ByteArray.empty, .int .i64 0] 43 (0, 0)) := (hb1.block _ (by simp)).trans (heap_alloc_new w _)
  have HB1 : Hid (Below w.heap.size w w1) := box_of.trans (hb1.mono (by simp))
  have HBk : Hid _ := hblk
  clear hblk hb1 HC
  go_wp2_with fail
  refine (HKd.out _ (HE.out.below HB1.out)).mono ?_
  rintro e w2 ⟨rfl, hw2⟩
  obtain rfl : w1 = w2 := hw2.symm
  clear HKd
  by_cases hk0 : k = 0
  · subst hk0
    have HR : Hid (parseCmd s = none) := (show _ = _ by rw [HP.out, if_pos rfl])
    obtain ⟨hc0, hc1, hc2, hz0, hz1, hz2⟩ := blk3 HBk.out
    clear HP HW HNr HNum
    go_wp2_with fail
    (try simp only [Exit.inBlock, Exit.then])
    refine bodyPost_ret (v := .tuple #[.agg #[.int .i64 0, .string ⟨([] : List UInt8).toArray⟩, .int .i64 0], .bool false]) ?_ rfl ⟨0, 0, false, [], rfl, HR.out, by simp, below_set3 HB1.out (Nat.le_refl _) _ _ _⟩
    rw [results_cell_tmp rfl]
    go_simp
  · obtain ⟨hc0, hc1, hc2, hz0, hz1, hz2⟩ := blk3 HBk.out
    rcases uses_le k with hu | hu | hu | hu
    · have := (uses_range k).1 hu
      have hk' := kindOf_or nm
      rw [← HKn.out] at hk'
      omega
    · have HR : Hid (parseCmd s = if mo = true then some ⟨k, bh, 0⟩ else none) := (show _ = _ by rw [HP.out, if_neg hk0, if_pos hu])
      rw [hu] at HW
      have hW := HW.out w1
      clear HP HW HNr HNum hu
      generalize hbx : (⟨bh.toArray⟩ : ByteArray) = bx at *
      have HBX2 : Hid (⟨bh.toArray⟩ = bx) := hbx
      clear hbx
      go_wp2_with fail
      refine hW.mono ?_
      rintro e w3 ⟨rfl, hw3⟩
      obtain rfl : w1 = w3 := hw3.symm
      go_wp2_with fail
      (try simp only [Exit.inBlock, Exit.then])
      refine bodyPost_ret (v := .tuple #[.agg #[.int .i64 k, .string bx, .int .i64 0], .bool mo]) ?_ rfl ⟨k, 0, mo, bh, by rw [HBX2.out], HR.out, HL.out, below_set3 HB1.out (Nat.le_refl _) _ _ _⟩
      rw [results_cell_tmp rfl]
      go_simp
    · have HR : Hid (parseCmd s = match parseNum bh with | some n => some ⟨k, [], n⟩ | none => none) := (show _ = _ by rw [HP.out, if_neg hk0, if_neg (by omega), if_pos hu])
      rw [hu] at HW HNr
      have hW := HW.out w1
      have hN := HNr.out w1
      have hNm := HNum.out w1 (HE.out.below HB1.out)
      clear HP HW HNr HNum hu
      generalize (⟨bh.toArray⟩ : ByteArray) = bx at *
      go_wp2_with fail
      refine hW.mono ?_
      rintro e w3 ⟨rfl, hw3⟩
      obtain rfl : w1 = w3 := hw3.symm
      go_wp2_with fail
      refine hN.mono ?_
      rintro e w3 ⟨rfl, hw3⟩
      obtain rfl : w1 = w3 := hw3.symm
      go_wp2_with fail
      refine hNm.mono ?_
      rintro e w4 ⟨n, b, rfl, hpn, hb4⟩
      have HB4 : Hid (Below w.heap.size w w4) := HB1.out.trans (hb4.mono HB1.out.size)
      have hblk4 := (hb4.block w.heap.size (by have := (Array.getElem?_eq_some_iff.1 HBk.out).1; exact this)).trans HBk.out
      obtain ⟨hc0, hc1, hc2, hz0, hz1, hz2⟩ := blk3 hblk4
      have HPN : Hid _ := hpn
      clear hW hN hNm hpn hb4 hblk4
      go_wp2_with fail
      (try simp only [Exit.inBlock, Exit.then])
      refine bodyPost_ret (v := .tuple #[.agg #[.int .i64 k, .string ⟨([] : List UInt8).toArray⟩, .int .i64 n], .bool b]) ?_ rfl ⟨k, n, b, [], rfl, by rw [HR.out, HPN.out]; cases b <;> rfl, by simp, below_set3 HB4.out (Nat.le_refl _) _ _ _⟩
      rw [results_cell_tmp rfl]
      go_simp
    · have HR : Hid (parseCmd s = if mo = true then none else some ⟨k, [], 0⟩) := (show _ = _ by rw [HP.out, if_neg hk0, if_neg (by omega), if_neg (by omega)])
      rw [hu] at HW HNr
      have hW := HW.out w1
      have hN := HNr.out w1
      clear HP HW HNr HNum hu
      generalize (⟨bh.toArray⟩ : ByteArray) = bx at *
      go_wp2_with fail
      refine hW.mono ?_
      rintro e w3 ⟨rfl, hw3⟩
      obtain rfl : w1 = w3 := hw3.symm
      go_wp2_with fail
      refine hN.mono ?_
      rintro e w3 ⟨rfl, hw3⟩
      obtain rfl : w1 = w3 := hw3.symm
      go_wp2_with fail
      (try simp only [Exit.inBlock, Exit.then])
      refine bodyPost_ret (v := .tuple #[.agg #[.int .i64 k, .string ⟨([] : List UInt8).toArray⟩, .int .i64 0], .bool (!mo)]) ?_ rfl ⟨k, 0, !mo, [], rfl, by rw [HR.out]; cases mo <;> rfl, by simp, below_set3 HB1.out (Nat.le_refl _) _ _ _⟩
      rw [results_cell_tmp rfl]
      go_simp
end Go.Proofs.YtdfnnhcooliheaaDoor
