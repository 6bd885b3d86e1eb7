/- What the developers' Print does. -/
import Derived.Test.YtdfnnhcooliheaaDoorDevScript10
namespace Go.Proofs.YtdfnnhcooliheaaDoor
open Go.RowKit Go.Gs
set_option linter.unusedVariables false

theorem doText_take {cs : List Cmd} {j : Nat} {c : Cmd} (h : cs[j]? = some c) : doText (cs.take (j + 1)) = doText (cs.take j) ++ ([32, 124, 32] ++ printed c) := by
  unfold doText
  rw [List.take_add_one, h]
  simp
theorem stext_take {ls : List SLine} {k : Nat} {x : SLine} (h : ls[k]? = some x) : stext (ls.take (k + 1)) = stext (ls.take k) ++ rowText x := by
  unfold stext
  rw [List.take_add_one, h]
  simp
theorem cat_pipe (p : List UInt8) : ((⟨#[32, 124, 32]⟩ : ByteArray) ++ ⟨p.toArray⟩).data.toList = [32, 124, 32] ++ p := by simp
theorem cat_into (t : List UInt8) : ((⟨#[32, 62, 32]⟩ : ByteArray) ++ ⟨t.toArray⟩ ++ ⟨#[10]⟩).data.toList = [32, 62, 32] ++ t ++ [10] := by simp
theorem siz3 : (⟨#[32, 62, 32]⟩ : ByteArray).size = 3 := rfl
theorem siz3' : (⟨#[32, 124, 32]⟩ : ByteArray).size = 3 := rfl
theorem siz1 : (⟨#[10]⟩ : ByteArray).size = 1 := rfl
theorem cell_blk3 {w : World} {p : Nat} {a b c : Value} {t : TypeId} (h : w.heap[p]? = some (.cells #[a, b, c] t (0, 0))) :
    w.cell? ⟨p, 0, none⟩ = some a ∧ w.cell? ⟨p, 1, none⟩ = some b ∧ w.cell? ⟨p, 2, none⟩ = some c := by
  simp [World.cell?, h]
theorem isWord_len {s : List UInt8} (h : isWord s = true) : s.length ≤ 12 := by
  unfold isWord at h
  simp only [Bool.and_eq_true, decide_eq_true_eq] at h
  exact h.1.2

set_option maxRecDepth 100000 in
set_option maxHeartbeats 4000000 in
theorem print_bad (ao : Option Addr) (cap : Nat) (ls : List SLine) (w : World) (hl : RLines w (.slice ao ls.length cap) ls) (hfit : ∀ x ∈ ls, FitsL x) (hbad : schk ls ≠ 0) :
    Calls Tryd.prog 26 #[.slice ao ls.length cap] w fun e w' => e = .returned (.tuple #[.string ⟨#[]⟩, .int .i64 (schk ls)]) ∧ Below w.heap.size w w' := by
  have hC := scheck_is ao cap ls w hl hfit
  generalize schk ls = r at *
  generalize ls.length = N at *
  clear hl hfit
  go_enter Tryd.func26, Tryd.ntmps26
  go_wp2_with fail
  refine Calls.mono hC ?_
  rintro e w1 ⟨rfl, hb1⟩
  have HB : Hid (Below w.heap.size w w1) := hb1
  clear hb1 hC
  go_wp2_with fail
  go_ret2
  exact ⟨rfl, HB.out⟩

set_option maxRecDepth 100000 in
set_option maxHeartbeats 4000000 in
theorem print_ok (ao : Option Addr) (cap : Nat) (ls : List SLine) (w : World) (hl : RLines w (.slice ao ls.length cap) ls) (hfit : ∀ x ∈ ls, FitsL x) (hok : schk ls = 0) (hE : KnownS w) :
    Calls Tryd.prog 26 #[.slice ao ls.length cap] w fun e w' => e = .returned (.tuple #[.string ⟨(stext ls).toArray⟩, .int .i64 0]) ∧ Below w.heap.size w w' := by
  have hC := scheck_is ao cap ls w hl hfit
  rw [hok] at hC
  obtain ⟨hl6, hlv⟩ := schk_zero hok
  have HLV : Hid (∀ x ∈ ls, lchk x = 0) := hlv
  have HL : Hid (RLines w (.slice ao ls.length cap) ls) := hl
  have HE : Hid (KnownS w) := hE
  obtain ⟨N, hN⟩ : ∃ N, N = ls.length := ⟨_, rfl⟩
  have HN : Hid (N = ls.length) := hN
  rw [← hN] at hC HL hl6 ⊢
  clear hl hfit hok hE hlv hN
  go_enter Tryd.func26, Tryd.ntmps26
  go_wp2_with fail
  refine Calls.mono hC ?_
  rintro e w1 ⟨rfl, hb1⟩
  have HB1 : Hid (Below w.heap.size w w1) := hb1
  have HL1 : Hid (RLines w1 (.slice ao N cap) ls) := RLines.below HL.out hb1
  clear hb1 hC HL
  go_wp2_with fail
  go_loopw [17] (fun i wr => ∃ k : Nat, ∃ acc : List UInt8, k ≤ N ∧ i = .int .i64 k ∧ Hid (acc.length ≤ 3000 * k) ∧ Hid (PB w1 wr acc) ∧ Hid (acc = stext (ls.take k))) (fun i _ => N - (intOf i).toNat)
  case atStart => exact ⟨0, [], Nat.zero_le _, rfl, (show _ ≤ _ by simp), PB.start w1, (show _ = _ by simp [stext])⟩
  case round =>
    obtain ⟨k, acc, hk, rfl, hal, hpb, hacc⟩ := hrel
    by_cases hlt : k < N
    · obtain ⟨x, hx⟩ : ∃ x, ls[k]? = some x := ⟨_, List.getElem?_eq_getElem (by have := HN.out; omega)⟩
      have HX : Hid (ls[k]? = some x) := hx
      have hv := lchk_zero (HLV.out x (List.mem_of_getElem? hx))
      obtain ⟨v1, v2, v3, v4, v5, v6⟩ := hv
      obtain ⟨b, off, af, cf, ad, cd, rfl, hc0, hc1, hc2, hr, hd⟩ := (RLines.below HL1.out hpb.out.bel).at hx
      have HJ : Hid (∀ W : World, Below wr.heap.size wr W → _) := fun (W : World) (hb : Below wr.heap.size wr W) => sjoin_is af cf W (Reads.below hr hb) v1 v2 v4
      have HD : Hid (RCmds w1 (.slice ad x.cs.length cd) x.cs) := by
        obtain ⟨b', off', af', cf', ad', cd', e0, g0, g1, g2, gr, gd⟩ := (RLines.at HL1.out hx)
        injection e0 with e0
        injection e0 with e1 e2
        subst e1 e2
        have := hpb.out.bel.cell (World.block_lt_of_cell? w1 _ g1)
        rw [hc1, g1] at this
        injection this with this
        injection this with t1 t2 t3
        subst t1 t3
        exact gd
      have HV6 : Hid (∀ c ∈ x.cs, chk c = 0) := v6
      have HJL : Hid ((Lib.join x.fr [32]).length ≤ 100) := join_len v4 v2
      have HTL : Hid (x.to.length ≤ 12) := isWord_len v5
      obtain ⟨NF, hNF⟩ : ∃ NF, NF = x.fr.length := ⟨_, rfl⟩
      obtain ⟨ND, hND⟩ : ∃ ND, ND = x.cs.length := ⟨_, rfl⟩
      have HND : Hid (ND = x.cs.length) := hND
      obtain ⟨tx, htx⟩ : ∃ tx : ByteArray, tx = ⟨x.to.toArray⟩ := ⟨_, rfl⟩
      have HTX : Hid (tx = ⟨x.to.toArray⟩) := htx
      obtain ⟨jx, hjx⟩ : ∃ jx : ByteArray, jx = ⟨(Lib.join x.fr [32]).toArray⟩ := ⟨_, rfl⟩
      have HJX : Hid (jx = ⟨(Lib.join x.fr [32]).toArray⟩) := hjx
      rw [← hNF] at hc0 HJ
      rw [← hND] at hc1 v3 HD
      rw [← htx] at hc2
      rw [← hjx] at HJ
      clear hx v1 v2 v4 v5 v6 hr hd hNF hND htx hjx
      go_wp2_with fail
      refine Calls.mono (HJ.out _ box_of) ?_
      rintro e w3 ⟨rfl, hb3⟩
      have HX3 : Hid (w3.heap[wr.heap.size]? = some (.cells #[.slice af NF cf, .slice ad ND cd, .string tx] 78 (0, 0))) := (hb3.block _ (by simp)).trans (heap_alloc_new wr _)
      have HP3 : Hid (PB w1 w3 acc) := (hpb.out.below box_of).below hb3
      clear hb3 HJ
      go_wp2_with fail
      refine Calls.mono (swrite_is HP3.out jx (by have := hal.out; have := HJL.out; have e : jx.size = (Lib.join x.fr [32]).length := by rw [HJX.out]; simp [ByteArray.size]
                                                  omega)) ?_
      rintro e w4 ⟨rfl, hp4, hk4⟩
      have HG : Hid (w1.heap.size < wr.heap.size) := by
        rcases hpb.out.bld with h | h
        · exact h.lt
        · exact h.lt
      have HX4 : Hid (w4.heap[wr.heap.size]? = some (.cells #[.slice af NF cf, .slice ad ND cd, .string tx] 78 (0, 0))) := hk4 _ _ HX3.out (by have := HG.out; omega) (by intro c fz e; injection e with _ e _; exact absurd e (by decide))
      obtain ⟨acc1, hacc1⟩ : ∃ a, a = acc ++ Lib.join x.fr [32] := ⟨_, rfl⟩
      have HA1 : Hid (acc1 = acc ++ Lib.join x.fr [32]) := hacc1
      have HP4 : Hid (PB w1 w4 acc1) := by rw [HJX.out] at hp4; rw [hacc1]; exact hp4
      obtain ⟨hq0, hq1, hq2⟩ := cell_blk3 HX4.out
      clear hp4 hk4 hacc1 HX3 hpb hc0 hc1 hc2 HP3
      generalize wr.heap.size = p at *
      go_wp2_with fail
      go_loopw [28] (fun i wq => ∃ j : Nat, ∃ a2 : List UInt8, j ≤ ND ∧ i = .int .i64 j ∧ Hid (PB w1 wq a2) ∧ Hid (a2 = acc1 ++ doText (x.cs.take j)) ∧ Hid (a2.length ≤ acc1.length + 300 * j) ∧ Hid (wq.heap[p]? = some (.cells #[.slice af NF cf, .slice ad ND cd, .string tx] 78 (0, 0)))) (fun i _ => ND - (intOf i).toNat)
      case atStart => exact ⟨0, acc1, Nat.zero_le _, rfl, HP4, (show _ = _ by simp [doText]), (show _ ≤ _ by omega), HX4⟩
      case round =>
        obtain ⟨j, a2, hj, rfl, hp5, ha2, hl2, hx5⟩ := hrel
        have HG5 : Hid (p < wr.heap.size) := (Array.getElem?_eq_some_iff.1 hx5.out).1
        have HAL : Hid (acc1.length ≤ 3000 * k + 100) := (show _ ≤ _ by rw [HA1.out, List.length_append]; have := hal.out; have := HJL.out; omega)
        by_cases hlj : j < ND
        · obtain ⟨c, hc⟩ : ∃ c, x.cs[j]? = some c := ⟨_, List.getElem?_eq_getElem (by have := HND.out; omega)⟩
          have HC : Hid (x.cs[j]? = some c) := hc
          have hck := HV6.out c (List.mem_of_getElem? hc)
          obtain ⟨bd, od, rfl, hd0, hd1, hd2⟩ := (RCmds.below HD.out hp5.out.bel).at hc
          have hPr := fun (W : World) (hb : Below wr.heap.size wr W) => printed_is c W hck (HE.out.below ((HB1.out.trans (hp5.out.bel.mono HB1.out.size)).trans (hb.mono (Nat.le_trans HB1.out.size hp5.out.bel.size))))
          have HPL : Hid ((printed c).length ≤ 200) := printed_len hck
          obtain ⟨px, hpx⟩ : ∃ px : ByteArray, px = ⟨(printed c).toArray⟩ := ⟨_, rfl⟩
          have HPX : Hid (px = ⟨(printed c).toArray⟩) := hpx
          have hps : px.size ≤ 200 := by rw [hpx]; have := HPL.out; simpa [ByteArray.size] using this
          rw [← hpx] at hPr
          generalize c.kind = ck at *
          generalize c.n = cn at *
          generalize (⟨c.word.toArray⟩ : ByteArray) = cw at *
          have hPr' := hPr _ (box_of (o := .cells #[.int .i64 ck, .string cw, .int .i64 cn] 43))
          clear hc hck hpx hPr
          go_wp2_with fail
          refine Calls.mono hPr' ?_
          rintro e w6 ⟨rfl, hb6⟩
          have HP6 : Hid (PB w1 w6 a2) := (hp5.out.below box_of).below hb6
          have HX6 : Hid (w6.heap[p]? = some (.cells #[.slice af NF cf, .slice (some ⟨bd, od, none⟩) ND cd, .string tx] 78 (0, 0))) := (hb6.block _ (by simp; have := HG5.out; omega)).trans ((Below.heap_alloc _ _ _ HG5.out).trans hx5.out)
          clear hb6 hPr'
          go_wp2_with fail
          refine Calls.mono (swrite_is HP6.out ((⟨#[32, 124, 32]⟩ : ByteArray) ++ px) (by have := hl2.out; have := HAL.out; rw [ByteArray.size_append, siz3']; omega)) ?_
          rintro e w7 ⟨rfl, hp7, hk7⟩
          have HX7 : Hid (w7.heap[p]? = some (.cells #[.slice af NF cf, .slice (some ⟨bd, od, none⟩) ND cd, .string tx] 78 (0, 0))) := hk7 _ _ HX6.out (by have := HG.out; omega) (by intro c fz e; injection e with _ e _; exact absurd e (by decide))
          have HP7 : Hid (PB w1 w7 (a2 ++ ([32, 124, 32] ++ printed c))) := by rw [HPX.out, cat_pipe] at hp7; exact hp7
          clear hp7 hk7
          go_wp2_with fail
          go_roundw
          case rel => exact ⟨j + 1, _, by omega, by go_num, HP7, (show _ = _ by rw [ha2.out, doText_take HC.out, List.append_assoc]), (show _ ≤ _ by rw [List.length_append, List.length_append]; have := hl2.out; have := HPL.out; simp only [List.length_cons, List.length_nil]; omega), HX7⟩
          case measure => simp [intOf]; omega
        · obtain ⟨hq0, hq1, hq2⟩ := cell_blk3 hx5.out
          have hts : tx.size ≤ 12 := by rw [HTX.out]; have := HTL.out; simpa [ByteArray.size] using this
          have HA2 : Hid (a2 = acc1 ++ doText x.cs) := (show _ = _ by have := ha2.out; rw [List.take_of_length_le (by have := HND.out; omega)] at this; exact this)
          have HL2 : Hid (a2.length ≤ 3000 * k + 2000) := (show _ ≤ _ by have := hl2.out; have := HAL.out; omega)
          go_wp2_with fail
          have QQ := swrite_is hp5.out ((⟨#[32, 62, 32]⟩ : ByteArray) ++ tx ++ ⟨#[10]⟩) (by have := HL2.out; rw [ByteArray.size_append, ByteArray.size_append, siz3, siz1]; omega)
          refine Calls.mono QQ ?_
          rintro e w7 ⟨rfl, hp7, hk7⟩
          clear hk7 QQ
          have HP7 : Hid (PB w1 w7 (a2 ++ ([32, 62, 32] ++ x.to ++ [10]))) := by rw [HTX.out, cat_into] at hp7; exact hp7
          clear hp7
          go_wp2_with fail
          go_roundw
          case rel => exact ⟨k + 1, _, by omega, by go_num, (show _ ≤ _ by have := HL2.out; have := HTL.out; simp; omega), HP7, (show _ = _ by rw [HA2.out, HA1.out, hacc.out, stext_take HX.out]; unfold rowText; simp [List.append_assoc])⟩
          case measure => simp [intOf]; omega
    · have HA : Hid (acc = stext ls) := (show _ = _ by have := hacc.out; rw [List.take_of_length_le (by have := HN.out; omega)] at this; exact this)
      go_wp2_with fail
      refine Calls.mono (sstring_is hpb.out) ?_
      rintro e w7 ⟨rfl, hb7⟩
      have HB7 : Hid (Below w.heap.size w w7) := HB1.out.trans (hb7.mono HB1.out.size)
      obtain ⟨ax, hax⟩ : ∃ ax : ByteArray, ax = ⟨acc.toArray⟩ := ⟨_, rfl⟩
      have HAX : Hid (ax = ⟨acc.toArray⟩) := hax
      rw [← hax]
      clear hb7 hax
      go_wp2_with fail
      go_ret2
      exact ⟨by rw [← HA.out, ← HAX.out]; rfl, HB7.out⟩
theorem print_is (ao : Option Addr) (cap : Nat) (ls : List SLine) (w : World) (hl : RLines w (.slice ao ls.length cap) ls) (hfit : ∀ x ∈ ls, FitsL x) (hE : KnownS w) :
    Calls Tryd.prog 26 #[.slice ao ls.length cap] w fun e w' => e = .returned (.tuple #[.string ⟨(if schk ls = 0 then stext ls else []).toArray⟩, .int .i64 (schk ls)]) ∧ Below w.heap.size w w' := by
  by_cases h : schk ls = 0
  · rw [if_pos h, h]
    exact print_ok ao cap ls w hl hfit h hE
  · rw [if_neg h]
    exact print_bad ao cap ls w hl hfit h
end Go.Proofs.YtdfnnhcooliheaaDoor
