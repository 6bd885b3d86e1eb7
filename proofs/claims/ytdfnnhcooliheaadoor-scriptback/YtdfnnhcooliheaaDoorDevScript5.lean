/- What the developers' parsed does. -/
import Derived.Test.YtdfnnhcooliheaaDoorDevScript4
import Derived.Test.YtdfnnhcooliheaaDoorDevScript1
namespace Go.Proofs.YtdfnnhcooliheaaDoor
open Go.RowKit Go.Gs
set_option linter.unusedVariables false

theorem split_len {sep : List UInt8} : ∀ (k : Nat) (s : List UInt8), ∀ p ∈ Lib.splitK sep 0 k s, p.length ≤ s.length
  | 0, s, p, hp => by simp [Lib.splitK] at hp; subst hp; exact Nat.le_refl _
  | k + 1, s, p, hp => by
    unfold Lib.splitK at hp
    split at hp
    · simp at hp; subst hp; exact Nat.le_refl _
    · rw [List.mem_cons] at hp
      rcases hp with rfl | hp
      · simp; omega
      · have := split_len k _ p hp
        simp at this
        omega
theorem split_lenB {s sep p : List UInt8} (h : p ∈ Lib.split s sep) : p.length ≤ s.length := split_len _ _ p h
theorem map_str_S' (l : List ByteArray) : l.map Value.string = (l.map (·.data.toList)).map S := by
  rw [List.map_map]
  rfl
theorem ssplit_is (s sep : List UInt8) (w : World) (hs : s.length ≤ 100000) (h1 : 1 ≤ sep.length) (hK : KnownS w) :
    Calls Tryd.prog 34 #[.string ⟨s.toArray⟩, .string ⟨sep.toArray⟩] w fun e w' => e = .returned (.slice (some ⟨w.heap.size, 0, none⟩) (Lib.split s sep).length (Lib.split s sep).length) ∧ Reads w' (.slice (some ⟨w.heap.size, 0, none⟩) (Lib.split s sep).length (Lib.split s sep).length) (Lib.split s sep).length ((Lib.split s sep).map S) ∧ w.heap.size < w'.heap.size ∧ Below w.heap.size w w' := by
  obtain ⟨m, hm⟩ := hK.max
  have hsz : (⟨s.toArray⟩ : ByteArray).size = s.length := by simp [ByteArray.size]
  have hsz2 : (⟨sep.toArray⟩ : ByteArray).size = sep.length := by simp [ByteArray.size]
  have hdat : (Lib.splitB ⟨sep.toArray⟩ 0 (Lib.countB ⟨s.toArray⟩ ⟨sep.toArray⟩) ⟨s.toArray⟩).map (·.data.toList) = Lib.split s sep := Lib.splitB_data ⟨sep.toArray⟩ 0 _ ⟨s.toArray⟩
  have hlen := Lib.splitB_all ⟨sep.toArray⟩ (by omega) 0 _ ⟨s.toArray⟩ rfl
  have hlen2 : (Lib.split s sep).length = Lib.countB ⟨s.toArray⟩ ⟨sep.toArray⟩ + 1 := by rw [← hdat, List.length_map, hlen]
  have hcl := Lib.countB_le ⟨sep.toArray⟩ (by omega) _ ⟨s.toArray⟩ (Nat.le_refl _)
  refine (Tryd.strings_Split ⟨s.toArray⟩ ⟨sep.toArray⟩ m w (by omega) hm (by omega)).mono ?_
  rintro e w' ⟨rfl, rfl⟩
  rw [hlen2]
  refine ⟨rfl, ?_, by simp, box_of⟩
  rw [map_str_S', hdat]
  refine ⟨by rw [List.length_map, hlen2], _, _, rfl, Nat.le_refl _, by unfold maxLen; omega, fun _ => ⟨w.heap.size, 0, rfl, fun j u hu => ?_⟩⟩
  rw [cell_of_row _ _ _ _ _ _ (heap_alloc_new w _)]
  simpa using hu
theorem parseCmds_none : ∀ {ps : List (List UInt8)} {k : Nat} {q : List UInt8}, ps[k]? = some q → parseCmd q = none → parseCmds ps = none
  | [], k, q, h, _ => by simp at h
  | p :: r, 0, q, h, hq => by
    simp at h; subst h
    rw [parseCmds, hq]
  | p :: r, k + 1, q, h, hq => by
    rw [parseCmds, parseCmds_none (k := k) (by simpa using h) hq]
    cases parseCmd p <;> rfl
theorem parseCmds_app : ∀ {ps : List (List UInt8)} {cs : List Cmd} {q : List UInt8} {c : Cmd}, parseCmds ps = some cs → parseCmd q = some c → parseCmds (ps ++ [q]) = some (cs ++ [c])
  | [], cs, q, c, h, hq => by
    injection h with h; subst h
    rw [List.nil_append, parseCmds, hq]
    rfl
  | p :: r, cs, q, c, h, hq => by
    unfold parseCmds at h
    split at h
    · cases h
    · rename_i d hp
      split at h
      · cases h
      · rename_i ds hr
        injection h with h; subst h
        rw [List.cons_append, parseCmds, hp, parseCmds_app hr hq]
        rfl
theorem parseCmds_take {ps : List (List UInt8)} {k : Nat} {cs : List Cmd} {q : List UInt8} {c : Cmd} (h : parseCmds (ps.take k) = some cs) (hk : ps[k]? = some q) (hq : parseCmd q = some c) : parseCmds (ps.take (k + 1)) = some (cs ++ [c]) := by
  rw [List.take_add_one, hk]
  exact parseCmds_app h hq
theorem parseLine_no {row : List UInt8} (h : (Lib.cut row [32, 62, 32]).2.2 = false) : parseLine row = none := by
  unfold parseLine
  simp only
  rw [if_pos h]
theorem parseLine_yes {row p : List UInt8} {r : List (List UInt8)} (h : (Lib.cut row [32, 62, 32]).2.2 = true) (hs : Lib.split (Lib.cut row [32, 62, 32]).1 [32, 124, 32] = p :: r) : parseLine row = match parseCmds r with
      | none => none
      | some cs => some ⟨Lib.split p [32], cs, (Lib.cut row [32, 62, 32]).2.1⟩ := by
  unfold parseLine
  simp only
  rw [if_neg (by simp [h]), hs]
  rfl
theorem parseCmds_fits : ∀ {ps : List (List UInt8)} {cs : List Cmd}, parseCmds ps = some cs → (∀ p ∈ ps, p.length ≤ 100000) → FitsC cs
  | [], cs, h, _ => by
    injection h with h; subst h
    intro c hc; cases hc
  | p :: r, cs, h, hl => by
    unfold parseCmds at h
    split at h
    · cases h
    · rename_i d hp
      split at h
      · cases h
      · rename_i ds hr
        injection h with h; subst h
        have ih := parseCmds_fits hr (fun q hq => hl q (by simp [hq]))
        have hpl := hl p (by simp)
        obtain ⟨_, hcl⟩ := cut_len p [32]
        intro c hc
        rw [List.mem_cons] at hc
        rcases hc with rfl | hc
        · unfold parseCmd at hp
          simp only at hp
          split at hp
          · cases hp
          · split at hp
            · split at hp
              · injection hp with hp; subst hp
                show (Lib.cut p [32]).2.1.length ≤ _
                omega
              · cases hp
            · split at hp
              · split at hp
                · injection hp with hp; subst hp; simp
                · cases hp
              · split at hp
                · cases hp
                · injection hp with hp; subst hp; simp
        · exact ih c hc
theorem owns_form {w : World} {B : Nat} {e : TypeId} {size : Nat} {v : Value} {n : Nat} {xs : List Value} (h : w.ownsRow B e size v n xs) (hn : n ≠ 0) : ∃ g cap, v = .slice (some ⟨g, 0, none⟩) n cap := by
  rcases h.2 with ⟨_, h0⟩ | ⟨g, cap, cur, h1, _⟩
  · exact absurd h0 hn
  · exact ⟨g, cap, h1⟩
theorem infoCmd : (Tryd.prog.info? 43).map (fun i => (i.zero, i.size, i.bytes)) = some (some (.agg #[.int .i64 0, .string ⟨#[]⟩, .int .i64 0]), 3, 32) := by kernel_rfl

set_option maxRecDepth 100000 in
set_option maxHeartbeats 4000000 in
theorem parsed_no (row : List UInt8) (w : World) (hs : row.length ≤ 100000) (hE : KnownS w) (hno : (Lib.cut row [32, 62, 32]).2.2 = false) :
    Calls Tryd.prog 53 #[.string ⟨row.toArray⟩] w fun e w' => e = .returned (.tuple #[.agg #[.slice none 0 0, .slice none 0 0, .string ⟨#[]⟩], .bool false]) ∧ Below w.heap.size w w' := by
  have hC := fun (W : World) (h : KnownS W) => scut_is row [32, 62, 32] W hs h
  rw [hno] at hC
  generalize (⟨(Lib.cut row [32, 62, 32]).1.toArray⟩ : ByteArray) = ax at *
  generalize (⟨(Lib.cut row [32, 62, 32]).2.1.toArray⟩ : ByteArray) = tx at *
  generalize (⟨row.toArray⟩ : ByteArray) = sx at *
  have HC : Hid _ := hC
  have HE : Hid (KnownS w) := hE
  clear hC hE hno hs
  go_enter Tryd.func53, Tryd.ntmps53
  go_wp2_with fail
  refine (HC.out _ (HE.out.below box_of)).mono ?_
  rintro e w1 ⟨rfl, hb1⟩
  have hblk : w1.heap[w.heap.size]? = some (.cells #[.slice none 0 0, .slice none 0 0, .string ByteArray.empty] 78 (0, 0)) := (hb1.block _ (by simp)).trans (heap_alloc_new w _)
  have HB1 : Hid (Below w.heap.size w w1) := box_of.trans (hb1.mono (by simp))
  obtain ⟨hc0, hc1, hc2, hz0, hz1, hz2⟩ := blk3 hblk
  clear hblk hb1 HC
  go_wp2_with fail
  (try simp only [Exit.inBlock, Exit.then])
  refine bodyPost_ret (v := .tuple #[.agg #[.slice none 0 0, .slice none 0 0, .string ⟨#[]⟩], .bool false]) ?_ rfl ⟨rfl, below_set3 HB1.out (Nat.le_refl _) _ _ _⟩
  rw [results_cell_tmp rfl]
  go_simp

set_option maxRecDepth 100000 in
set_option maxHeartbeats 4000000 in
theorem parsed_yes (row : List UInt8) (w : World) (hs : row.length ≤ 100000) (hE : KnownS w) (hyes : (Lib.cut row [32, 62, 32]).2.2 = true) :
    Calls Tryd.prog 53 #[.string ⟨row.toArray⟩] w fun e w' => ∃ af nf cf ad nd cd tx b, e = .returned (.tuple #[.agg #[.slice af nf cf, .slice ad nd cd, .string tx], .bool b]) ∧
      ((b = false ∧ parseLine row = none) ∨ (b = true ∧ ∃ x, parseLine row = some x ∧ tx = ⟨x.to.toArray⟩ ∧ nf = x.fr.length ∧ nd = x.cs.length ∧ Reads w' (.slice af nf cf) x.fr.length (x.fr.map S) ∧ RCmds w' (.slice ad nd cd) x.cs ∧ FitsL x ∧ New w.heap.size (.slice af nf cf) ∧ New w.heap.size (.slice ad nd cd))) ∧ Below w.heap.size w w' := by
  have hC := fun (W : World) (h : KnownS W) => scut_is row [32, 62, 32] W hs h
  rw [hyes] at hC
  obtain ⟨hl1, hl2⟩ := cut_len row [32, 62, 32]
  obtain ⟨ah, hah⟩ : ∃ ah, ah = (Lib.cut row [32, 62, 32]).1 := ⟨_, rfl⟩
  obtain ⟨tt, hto⟩ : ∃ tt, tt = (Lib.cut row [32, 62, 32]).2.1 := ⟨_, rfl⟩
  rw [← hah, ← hto] at hC
  rw [← hah] at hl1
  rw [← hto] at hl2
  cases hsp : Lib.split ah [32, 124, 32] with
  | nil => exact absurd hsp (split_ne_nil _ _)
  | cons p0 ps =>
    have hps : ∀ q ∈ p0 :: ps, q.length ≤ 100000 := fun q hq => by
      rw [← hsp] at hq
      have := split_lenB hq
      omega
    have hPL := parseLine_yes hyes (by rw [← hah]; exact hsp)
    rw [← hto] at hPL
    have hS1 := fun (W : World) (h : KnownS W) => ssplit_is ah [32, 124, 32] W (by omega) (by simp) h
    rw [hsp] at hS1
    have hS2 := fun (W : World) (h : KnownS W) => ssplit_is p0 [32] W (hps p0 (by simp)) (by simp) h
    have hFr : ∀ s ∈ Lib.split p0 [32], s.length ≤ 9223372036854775807 := fun s hs' => by
      have := split_lenB hs'
      have := hps p0 (by simp)
      omega
    generalize hfr : Lib.split p0 [32] = fr at *
    obtain ⟨NP, hNP⟩ : ∃ N, N = ps.length := ⟨_, rfl⟩
    obtain ⟨NF, hNF⟩ : ∃ N, N = fr.length := ⟨_, rfl⟩
    have HNP : Hid (NP = ps.length) := hNP
    have HNF : Hid (NF = fr.length) := hNF
    have hNPb : NP ≤ 100000 := by
      have h9 := join_split (sep := [32, 124, 32]) (by simp) ah.length ah (Nat.le_refl _)
      rw [hsp, Lib.join_cons] at h9
      have h8 := congrArg List.length h9
      have h7 : ps.length ≤ (Lib.joinTail [32, 124, 32] ps).length := by
        unfold Lib.joinTail
        clear hsp hps hPL hS1 hNP h9 h8 HNP
        induction ps with
        | nil => simp
        | cons q r ih => simp at ih ⊢; omega
      rw [List.length_append] at h8
      omega
    have hPl : (p0 :: ps).length = NP + 1 := by rw [hNP]; rfl
    rw [hPl] at hS1
    rw [← hNF] at hS2
    have HS1 : Hid _ := hS1
    have HS2 : Hid _ := hS2
    have HC : Hid _ := hC
    have HE : Hid (KnownS w) := hE
    have HPL : Hid _ := hPL
    have HFr : Hid _ := hFr
    have HPs : Hid _ := hps
    have HTo : Hid (tt.length ≤ 100000) := (show _ ≤ _ by omega)
    obtain ⟨tx, htx⟩ : ∃ tx : ByteArray, tx = ⟨tt.toArray⟩ := ⟨_, rfl⟩
    have HTX : Hid (tx = ⟨tt.toArray⟩) := htx
    rw [← htx] at HC
    generalize (⟨ah.toArray⟩ : ByteArray) = ax at *
    generalize (⟨row.toArray⟩ : ByteArray) = sx at *
    obtain ⟨px, hpx⟩ : ∃ px : ByteArray, px = ⟨p0.toArray⟩ := ⟨_, rfl⟩
    have HPX : Hid (px = ⟨p0.toArray⟩) := hpx
    rw [← hpx] at HS2
    obtain ⟨i0, hi, hi0, hi1, hi2⟩ := info_parts infoCmd
    clear hC hE hyes hs hS1 hS2 hPL hFr hps hah hto hl1 hl2 hsp hfr hNP hNF hPl htx hpx
    go_enter Tryd.func53, Tryd.ntmps53
    go_wp2_with fail
    refine (HC.out _ (HE.out.below box_of)).mono ?_
    rintro e w1 ⟨rfl, hb1⟩
    have HBk : Hid (w1.heap[w.heap.size]? = some (.cells #[.slice none 0 0, .slice none 0 0, .string ByteArray.empty] 78 (0, 0))) := (hb1.block _ (by simp)).trans (heap_alloc_new w _)
    have HB1 : Hid (Below w.heap.size w w1) := box_of.trans (hb1.mono (by simp))
    have HG1 : Hid (w.heap.size < w1.heap.size) := (Array.getElem?_eq_some_iff.1 HBk.out).1
    clear hb1 HC
    go_wp2_with fail
    refine (HS1.out _ (HE.out.below HB1.out)).mono ?_
    rintro e w2 ⟨rfl, hr2, hg2, hb2⟩
    have HB2 : Hid (Below w.heap.size w w2) := HB1.out.trans (hb2.mono HB1.out.size)
    have HBk2 : Hid (w2.heap[w.heap.size]? = _) := (hb2.block _ HG1.out).trans HBk.out
    have HR2 : Hid (Reads w2 _ _ _) := hr2
    obtain ⟨b0, o0, hao, hcell⟩ := Reads.at hr2 (k := 0) (s := p0) rfl
    injection hao with hao
    injection hao with e1 e2
    subst e1 e2
    rw [← HPX.out] at hcell
    have HG2 : Hid (w1.heap.size < w2.heap.size) := hg2
    clear hr2 hg2 hb2 HBk HS1
    go_wp2_with fail
    refine (HS2.out _ (HE.out.below HB2.out)).mono ?_
    rintro e w3 ⟨rfl, hr3, hg3, hb3⟩
    have HB3 : Hid (Below w.heap.size w w3) := HB2.out.trans (hb3.mono HB2.out.size)
    have HBk3 : Hid (w3.heap[w.heap.size]? = _) := (hb3.block _ (by have := HG1.out; have := HG2.out; omega)).trans HBk2.out
    have HR3 : Hid (Reads w3 _ _ _) := hr3
    have HQ3 : Hid (Reads w3 _ _ _) := Reads.below HR2.out hb3
    have HG3 : Hid (w2.heap.size < w3.heap.size) := hg3
    obtain ⟨hc0, hc1, hc2, hz0, hz1, hz2⟩ := blk3 HBk3.out
    clear hr3 hg3 hb3 HBk2 HS2 hcell
    go_wp2_with fail
    · have hz := h
      clear h
      go_loopw [31] (fun i wr => i = .int .i64 0 ∧ Hid (PS w wr w3.heap.size w.heap.size (.slice (some ⟨w1.heap.size, 0, none⟩) (NP + 1) (NP + 1)) (.slice (some ⟨w2.heap.size, 0, none⟩) NF NF) (.slice none 0 0) (p0 :: ps) fr [] tx)) (fun _ _ => 0)
      case atStart => exact ⟨rfl, PS.start HB3.out HBk3.out (by rw [List.length_cons, ← HNP.out]; exact HQ3.out) (by rw [← HNF.out]; exact HR3.out) HG1.out HG2.out HG3.out⟩
      case round =>
        obtain ⟨rfl, HPS⟩ := hrel
        have HPC : Hid (parseCmds ps = some []) := (show _ = _ by rw [List.eq_nil_of_length_eq_zero (HNP.out.symm.trans hz)]; rfl)
        obtain ⟨ad, nd, cd, cs, had, hnd, hcd, hcs⟩ : ∃ (ad : Option Addr) (nd cd : Nat) (cs : List Cmd), ad = none ∧ nd = 0 ∧ cd = 0 ∧ cs = [] := ⟨_, _, _, _, rfl, rfl, rfl, rfl⟩
        rw [← hcs] at HPC HPS
        have HCN : Hid (cs.length = nd) := (show _ = _ by rw [hcs, hnd]; rfl)
        rw [← had] at HPS
        have HPS : Hid (PS w wr w3.heap.size w.heap.size (.slice (some ⟨w1.heap.size, 0, none⟩) (NP + 1) (NP + 1)) (.slice (some ⟨w2.heap.size, 0, none⟩) NF NF) (.slice ad nd cd) (p0 :: ps) fr cs tx) := by rw [hnd, hcd]; exact HPS
        clear had hnd hcd hcs
        have HPD := HPS.out
        obtain ⟨hc0, hc1, hc2, hz0, hz1, hz2⟩ := blk3 HPD.box
        have HX : Hid (parseLine row = some ⟨fr, cs, tt⟩) := (show _ = _ from by rw [HPL.out, HPC.out])
        clear HPD
        go_wp2_with fail
        (try simp only [Exit.inBlock, Exit.then])
        refine bodyPost_ret (v := .tuple #[.agg #[.slice (some ⟨w2.heap.size, 0, none⟩) NF NF, .slice ad nd cd, .string tx], .bool true]) ?_ rfl ⟨_, _, _, _, _, _, _, _, rfl, .inr ⟨rfl, ⟨fr, cs, tt⟩, HX.out, HTX.out, HNF.out, HCN.out.symm, ?_⟩, below_set3 HPS.out.bel (Nat.le_refl _) _ _ _⟩
        · rw [results_cell_tmp rfl]
          go_simp
        · exact PS.fin HPS.out HNF.out HCN.out.symm (parseCmds_fits HPC.out (fun q hq => HPs.out q (by simp [hq]))) HFr.out HTo.out HG1.out HG2.out
    · have hz := h
      clear h
      go_loopw [31] (fun i wr => ∃ k : Nat, ∃ ad nd cd, ∃ cs : List Cmd, k ≤ NP ∧ i = .int .i64 k ∧ Hid (PS w wr w3.heap.size w.heap.size (.slice (some ⟨w1.heap.size, 0, none⟩) (NP + 1) (NP + 1)) (.slice (some ⟨w2.heap.size, 0, none⟩) NF NF) (.slice ad nd cd) (p0 :: ps) fr cs tx) ∧ Hid (parseCmds (ps.take k) = some cs) ∧ Hid (cs.length = nd) ∧ nd ≤ k) (fun i _ => NP - (intOf i).toNat)
      case atStart => 
        refine ⟨0, none, 0, 0, [], Nat.zero_le _, rfl, ?_, (show _ = _ from rfl), (show _ = _ from rfl), Nat.le_refl _⟩
        exact PS.start HB3.out HBk3.out (by rw [List.length_cons, ← HNP.out]; exact HQ3.out) (by rw [← HNF.out]; exact HR3.out) HG1.out HG2.out HG3.out
      case round =>
        obtain ⟨k, ad, nd, cd, cs, hk, rfl, HPS, HPC, HCN, hndk⟩ := hrel
        by_cases hlt : k < NP
        · obtain ⟨q, hq⟩ : ∃ q, ps[k]? = some q := ⟨_, List.getElem?_eq_getElem (by have := HNP.out; omega)⟩
          have HQ : Hid (ps[k]? = some q) := hq
          obtain ⟨b, off, hao, hcell⟩ := Reads.at (k := k + 1) (s := q) (by have := HPS.out.parts; rw [List.length_cons, ← HNP.out] at this; exact this) (by simpa using hq)
          injection hao with hao
          injection hao with e1 e2
          subst e1 e2
          rw [show 0 + (k + 1) = 1 + k by omega] at hcell
          have hPC := parsedCommand_is q wr (HPs.out q (by simp [List.mem_of_getElem? hq])) (HE.out.below HPS.out.bel)
          generalize (⟨q.toArray⟩ : ByteArray) = qx at *
          clear hq
          go_wp2_with fail
          refine Calls.mono hPC ?_
          rintro e w5 ⟨kk, nn, bb, word, rfl, hpc5, hwl, hb5⟩
          have HP5 : Hid _ := HPS.out.below hb5
          have HQ5 : Hid _ := hpc5
          clear hpc5 hwl hb5 hPC hcell
          cases bb with
          | false =>
            have HX : Hid (parseLine row = none) := (show _ = _ from by rw [HPL.out, parseCmds_none HQ.out (by rw [HQ5.out]; rfl)])
            obtain ⟨hc0, hc1, hc2, hz0, hz1, hz2⟩ := blk3 (box_old HP5.out (o := .cells #[.int .i64 kk, .string ⟨word.toArray⟩, .int .i64 nn] 43))
            clear HQ5 HPC HPS
            go_wp2_with fail
            (try simp only [Exit.inBlock, Exit.then])
            refine bodyPost_ret (v := .tuple #[.agg #[.slice none 0 0, .slice none 0 0, .string ⟨#[]⟩], .bool false]) ?_ rfl ⟨_, _, _, _, _, _, _, _, rfl, .inl ⟨rfl, HX.out⟩, below_set3 (HP5.out.bel.alloc HP5.out.bel.size _) (Nat.le_refl _) _ _ _⟩
            rw [results_cell_tmp rfl]
            go_simp
          | true =>
            have HPC2 : Hid (parseCmds (ps.take (k + 1)) = some (cs ++ [⟨kk, word, nn⟩])) := parseCmds_take HPC.out HQ.out (by rw [HQ5.out]; rfl)
            obtain ⟨wx, hwx⟩ : ∃ wx : ByteArray, wx = ⟨word.toArray⟩ := ⟨_, rfl⟩
            have HWX : Hid (wx = ⟨word.toArray⟩) := hwx
            rw [← hwx]
            have HP6 : Hid _ := HP5.out.below (box_of (o := .cells #[.int .i64 kk, .string wx, .int .i64 nn] 43))
            obtain ⟨hc0, hc1, hc2, hz0, hz1, hz2⟩ := blk3 HP6.out.box
            obtain ⟨hd0, hd1, hd2, hy0, hy1, hy2⟩ := blk3 (box_old HP6.out (o := .cells #[.int .i64 kk, .string wx, .int .i64 nn] 43))
            clear HQ5 HPC HPS hwx
            go_wp2_with (at_builtin; refine wpList_append_own _ rfl (.tmp 44) (.tmp 46) 76 rfl w3.heap.size 43 i0 (.agg #[.int .i64 0, .string ⟨#[]⟩, .int .i64 0]) 3 32 Tryd.underlying76 hi hi0 hi1 hi2 rfl (by decide) _ nd (cmdCells cs) rfl ?o1 ⟨w5.heap.size + 1, 0, none⟩ 1 1 [.int .i64 kk, .string wx, .int .i64 nn] rfl rfl ?c1 ?c2 ?c3 ?c4 ?c5 ?_)
            case o1 =>
              have h := HP6.out.own.alloc (.cells #[.int .i64 kk, .string wx, .int .i64 nn] 43)
              rw [HCN.out] at h
              exact h
            case c1 =>
              intro j u hj
              have hnb : (w5.alloc (.cells #[.int .i64 kk, .string wx, .int .i64 nn] 43)).heap.size = w5.heap.size + 1 := by simp
              obtain ⟨g0, g1, g2⟩ := box3_cells (w := w5.alloc (.cells #[.int .i64 kk, .string wx, .int .i64 nn] 43)) (a := .int .i64 kk) (b := .string wx) (c := .int .i64 nn) (t := 43)
              rw [hnb] at g0 g1 g2
              rw [adds]
              match j, hj with
              | 0, hj => simp at hj; subst hj; exact g0
              | 1, hj => simp at hj; subst hj; exact g1
              | 2, hj => simp at hj; subst hj; exact g2
            case c2 =>
              intro u hu
              simp at hu
              rcases hu with rfl | rfl | rfl <;> rfl
            case c3 => unfold maxLen; omega
            case c4 => omega
            case c5 => have := HP6.out.Bs; simp at this ⊢; omega
            · intro v' w9 hown hgrow _
              obtain ⟨g, cg, rfl⟩ := owns_form hown (by omega)
              obtain ⟨ha0, ha1, ha2, hx0, hx1, hx2⟩ := blk3 (PS.box1 HP6.out hgrow)
              have HP9 : Hid _ := PS.app HP6.out ⟨kk, word, nn⟩ (by rw [HCN.out, ← HWX.out]; exact hown) hgrow
              clear hown hgrow hc0 hc1 hc2 hz0 hz1 hz2 hd0 hd1 hd2 hy0 hy1 hy2
              go_wp2_with fail
              go_roundw
              case rel => exact ⟨k + 1, _, _, _, _, by omega, by go_num, HP9, HPC2, (show _ = _ by rw [List.length_append, HCN.out]; rfl), by omega⟩
              case measure => simp [intOf]; omega
        · have HPC : Hid (parseCmds ps = some cs) := by
            have := HPC.out
            rw [List.take_of_length_le (by have := HNP.out; omega)] at this
            exact this
          have HPD := HPS.out
          obtain ⟨hc0, hc1, hc2, hz0, hz1, hz2⟩ := blk3 HPD.box
          have HX : Hid (parseLine row = some ⟨fr, cs, tt⟩) := (show _ = _ from by rw [HPL.out, HPC.out])
          clear HPD
          go_wp2_with fail
          (try simp only [Exit.inBlock, Exit.then])
          refine bodyPost_ret (v := .tuple #[.agg #[.slice (some ⟨w2.heap.size, 0, none⟩) NF NF, .slice ad nd cd, .string tx], .bool true]) ?_ rfl ⟨_, _, _, _, _, _, _, _, rfl, .inr ⟨rfl, ⟨fr, cs, tt⟩, HX.out, HTX.out, HNF.out, HCN.out.symm, ?_⟩, below_set3 HPS.out.bel (Nat.le_refl _) _ _ _⟩
          · rw [results_cell_tmp rfl]
            go_simp
          · exact PS.fin HPS.out HNF.out HCN.out.symm (parseCmds_fits HPC.out (fun q hq => HPs.out q (by simp [hq]))) HFr.out HTo.out HG1.out HG2.out
end Go.Proofs.YtdfnnhcooliheaaDoor
