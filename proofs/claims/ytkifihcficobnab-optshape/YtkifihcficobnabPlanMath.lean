/- A plan is a graph, and what comes into its sink is what the line makes: no walk. -/
import Derived.Test.YtkifihcficobnabPlanPlain
import Derived.Test.YtkifihcficobnabGraphMath4
import Derived.Test.YtkifihcficobnabShellMath
import Derived.Test.YtkifihcficobnabGathMath
namespace Go.Gs
open Go.RowKit
set_option linter.unusedVariables false

theorem insChk_ok (ns : List SNode) : ∀ (ins t : List (Int × Int)), (∀ p ∈ ins, portOk ns p = true) → (t ++ ins).Nodup → insChk ns ins t = (0, t ++ ins)
  | [], t, _, _ => by simp [insChk]
  | p :: r, t, h, hn => by
    have h1 : portOk ns p = true := h p (by simp)
    have h2 : p ∉ t := fun hp => by
      have := (List.nodup_append.1 hn).2.2 p hp p (by simp)
      exact this rfl
    rw [insChk, if_neg (by simp [h1]), if_neg h2, insChk_ok ns r (t ++ [p]) (fun q hq => h q (by simp [hq])) (by simpa using hn)]
    simp
/-- Nodes that are right so far, the ports that are taken, those that are open, what is at these. -/
def PSt (fs : List SFile) (ns : List SNode) (t A : List (Int × Int)) (vals : List (List UInt8)) : Prop :=
  (∀ rest, rest ≠ [] → gchkL [] (ns ++ rest) [] = gchkL ns rest t) ∧ (t ++ A).Nodup ∧ (∀ p ∈ t ++ A, portOk ns p = true) ∧ ((t.length + A.length : Nat) : Int) = allOuts ns ∧ A.map (portAt (outsL fs [] ns)) = vals
theorem newPorts_mem {i k : Nat} {p : Int × Int} (h : p ∈ newPorts i k) : ∃ j : Nat, j < k ∧ p = ((i : Int), (j : Int)) := by
  unfold newPorts at h
  obtain ⟨j, hj, rfl⟩ := List.mem_map.1 h
  exact ⟨j, List.mem_range.1 hj, rfl⟩
theorem newPorts_nodup (i k : Nat) : (newPorts i k).Nodup := by
  unfold newPorts
  rw [List.nodup_iff_pairwise_ne, List.pairwise_map]
  refine List.Pairwise.imp ?_ (List.nodup_iff_pairwise_ne.1 List.nodup_range)
  intro a b hab e
  injection e with _ e2
  exact hab (by omega)
theorem port_old {fs : List SFile} {ns : List SNode} {n : SNode} {p : Int × Int} (h : portOk ns p = true) : portAt (outsL fs [] (ns ++ [n])) p = portAt (outsL fs [] ns) p := by
  obtain ⟨i, k, m, rfl, hi, hk⟩ := port_nat h
  have hl : i < ns.length := (List.getElem?_eq_some_iff.1 hi).1
  rw [outsL_append]
  unfold portAt
  rw [outsL_keep fs [n] (outsL fs [] ns) _ (by rw [outsL_len]; simp; exact hl)]
theorem port_new {fs : List SFile} {ns : List SNode} {n : SNode} (j : Nat) : portAt (outsL fs [] (ns ++ [n])) ((ns.length : Int), (j : Int)) = (nodeMade n fs (n.ins.map (portAt (outsL fs [] ns))))[j]?.getD [] := by
  rw [outsL_append]
  unfold portAt
  have e : (outsL fs (outsL fs [] ns) [n])[ns.length]? = some (nodeMade n fs (n.ins.map (portAt (outsL fs [] ns)))) := by
    rw [outsL, outsL, List.getElem?_append_right (by rw [outsL_len]; simp), outsL_len]
    simp
  simp only [Int.toNat_natCast]
  rw [e]
  rfl
theorem PSt.step {fs : List SFile} {ns : List SNode} {t ins R : List (Int × Int)} {iv rv : List (List UInt8)} (h : PSt fs ns t (ins ++ R) (iv ++ rv)) (hl : ins.length = iv.length) {n : SNode} (hn : nodeChk n = 0) (hk : n.kind ≠ 5) (hi : n.ins = ins) :
    PSt fs (ns ++ [n]) (t ++ ins) (R ++ newPorts ns.length (nouts n).toNat) (rv ++ nodeMade n fs iv) := by
  obtain ⟨h1, h2, h3, h4, h5⟩ := h
  have hnn := nouts_nonneg hn
  have hsub : (t ++ ins).Nodup := by
    rw [← List.append_assoc] at h2
    exact (List.nodup_append.1 h2).1
  rw [List.map_append] at h5
  obtain ⟨v1, v2⟩ := List.append_inj h5 (by simpa using hl)
  have hcnt := nodeMade_count hn fs iv
  refine ⟨?_, ?_, ?_, ?_, ?_⟩
  · intro rest hr
    rw [List.append_assoc, h1 ([n] ++ rest) (by simp)]
    rw [List.singleton_append, gchkL, if_neg (by simp [hn]), hi, insChk_ok ns ins t (fun p hp => h3 p (by simp [hp])) hsub, if_neg (by simp)]
    have hre : rest.isEmpty = false := by cases rest with | nil => exact absurd rfl hr | cons _ _ => rfl
    rw [if_neg (by simp [hre, hk])]
  · have hold : ∀ p ∈ t ++ (ins ++ R), p ∉ newPorts ns.length (nouts n).toNat := by
      intro p hp hq
      obtain ⟨j, hj, rfl⟩ := newPorts_mem hq
      obtain ⟨i, k, m, e, hi', _⟩ := port_nat (h3 _ hp)
      injection e with e1 _
      have := (List.getElem?_eq_some_iff.1 hi').1
      omega
    rw [show t ++ ins ++ (R ++ newPorts ns.length (nouts n).toNat) = (t ++ (ins ++ R)) ++ newPorts ns.length (nouts n).toNat by simp]
    rw [List.nodup_append]
    exact ⟨h2, newPorts_nodup _ _, fun a ha b hb e => hold a ha (e ▸ hb)⟩
  · intro p hp
    have hp' : p ∈ t ++ (ins ++ R) ∨ p ∈ newPorts ns.length (nouts n).toNat := by
      simp only [List.mem_append] at hp ⊢
      rcases hp with (a | a) | (a | a)
      · exact Or.inl (Or.inl a)
      · exact Or.inl (Or.inr (Or.inl a))
      · exact Or.inl (Or.inr (Or.inr a))
      · exact Or.inr a
    rcases hp' with hp' | hp'
    · exact portOk_more (h3 p hp')
    · obtain ⟨j, hj, rfl⟩ := newPorts_mem hp'
      unfold portOk
      simp
      constructor
      · omega
      · omega
  · have ea : allOuts (ns ++ [n]) = allOuts ns + nouts n := by simp [allOuts]
    rw [ea, ← h4]
    simp only [List.length_append, newPorts_len]
    omega
  · rw [List.map_append]
    congr 1
    · rw [← v2]
      refine List.map_congr_left ?_
      intro p hp
      exact port_old (h3 p (by simp [hp]))
    · unfold newPorts
      rw [List.map_map]
      apply List.ext_getElem?
      intro j
      rw [List.getElem?_map]
      by_cases hj : j < (nouts n).toNat
      · have hjl : j < (nodeMade n fs iv).length := by omega
        rw [List.getElem?_range hj]
        simp only [Option.map_some, Function.comp]
        rw [port_new, hi, v1, List.getElem?_eq_getElem hjl]
        rfl
      · rw [List.getElem?_eq_none (by simpa using hj), List.getElem?_eq_none (by omega)]
        rfl

/-! ### Which nodes are right -/
theorem srcN_right {f : List UInt8} (h : isWord f = true) : nodeChk (srcN f) = 0 := by
  simp [nodeChk, nodeUsed, srcN, h, mayHave, hasUnused, zeroC, noC]
theorem sinkN_right {f : List UInt8} (h : isWord f = true) {p : Int × Int} : nodeChk (sinkN f [p]) = 0 := by
  simp [nodeChk, nodeUsed, sinkN, h, mayHave, hasUnused, zeroC, noC]
theorem splitN_right {w : Nat} (h : 1 ≤ w ∧ w ≤ 5) {p : Int × Int} : nodeChk (splitN w [p]) = 0 := by
  have h1 : ¬ ((w : Int) < 1 ∨ 5 < (w : Int)) := by omega
  simp [nodeChk, nodeUsed, splitN, h1, mayHave, hasUnused, zeroC, noC]
theorem workN_right {c : Cmd} (h : chk c = 0) {p : Int × Int} : nodeChk (workN c p) = 0 := by
  simp [nodeChk, nodeUsed, workN, h, mayHave, hasUnused]
theorem joinN_right {how : Int} {c : Cmd} (h : jchk how c = 0) {ps : List (Int × Int)} (hp : 1 ≤ ps.length ∧ ps.length ≤ 5) : nodeChk (joinN how c ps) = 0 := by
  simp [nodeChk, nodeUsed, joinN, h, mayHave, hasUnused, hp]
/-- Parts: lines in pieces, each noted as bytes. -/
def PV (fs : List SFile) (d : PD) (t : List (Int × Int)) (pss : List (List (List UInt8))) : Prop :=
  PSt fs d.1 t d.2 (pss.map ended) ∧ (∀ p ∈ pss, ∀ s ∈ p, (10 : UInt8) ∉ s) ∧ d.2.length = pss.length
theorem lines_of_parts {pss : List (List (List UInt8))} (h : ∀ p ∈ pss, ∀ s ∈ p, (10 : UInt8) ∉ s) : (pss.map ended).map lines = pss := by
  rw [List.map_map]
  conv => rhs; rw [← List.map_id pss]
  exact List.map_congr_left (fun p hp => lines_ended p (h p hp))
theorem PV.src {fs : List SFile} : ∀ (fr : List (List UInt8)) (d : PD) (t : List (Int × Int)) (pss : List (List (List UInt8))), PV fs d t pss → (∀ f ∈ fr, isWord f = true) → PV fs (fr.foldl pSrc d) t (pss ++ fr.map (fun f => lines (fileOf fs f)))
  | [], d, t, pss, h, _ => by simpa using h
  | f :: r, d, t, pss, h, hw => by
    have h1 : PV fs (pSrc d f) t (pss ++ [lines (fileOf fs f)]) := by
      obtain ⟨a, b, c⟩ := h
      have st := PSt.step (ins := []) (iv := []) (R := d.2) (rv := pss.map ended) (by simpa using a) rfl (srcN_right (hw f (by simp))) (by simp [srcN]) rfl
      refine ⟨?_, ?_, ?_⟩
      · have e1 : newPorts d.1.length (nouts (srcN f)).toNat = [onePort d.1.length] := newPorts_one _
        rw [e1] at st
        simpa [pSrc, nodeMade, srcN] using st
      · intro p hp
        rcases List.mem_append.1 hp with hp | hp
        · exact b p hp
        · rw [List.mem_singleton.1 hp]; exact lines_noFeed _
      · simp [pSrc, c]
    have := PV.src r _ t _ h1 (fun x hx => hw x (by simp [hx]))
    simpa using this
theorem PV.join {fs : List SFile} {d : PD} {t : List (Int × Int)} {pss : List (List (List UInt8))} (h : PV fs d t pss) {how : Int} {c : Cmd} (hj : jchk how c = 0) (hl : 1 ≤ d.2.length ∧ d.2.length ≤ 5) :
    PV fs (pJoinAll how c d) (t ++ d.2) [joined how c pss] := by
  obtain ⟨a, b, e⟩ := h
  have st := PSt.step (ins := d.2) (iv := pss.map ended) (R := []) (rv := []) (by simpa using a) (by simpa using e) (joinN_right hj hl) (by simp [joinN]) rfl
  have e1 : newPorts d.1.length (nouts (joinN how c d.2)).toNat = [onePort d.1.length] := newPorts_one _
  have e2 : nodeMade (joinN how c d.2) fs (pss.map ended) = [ended (joined how c pss)] := by
    have := lines_of_parts b
    simp [nodeMade, joinN]
    rw [List.map_map] at this
    rw [this]
  rw [e1, e2] at st
  refine ⟨by simpa [pJoinAll] using st, ?_, rfl⟩
  intro p hp
  rw [List.mem_singleton.1 hp]
  refine joined_noFeed how c ?_ pss b
  intro h4
  unfold jchk at hj
  rw [if_neg (by omega), if_pos h4] at hj
  exact hj
theorem PV.works {fs : List SFile} {c : Cmd} (hc : chk c = 0) : ∀ (op : List (Int × Int)) (iv : List (List (List UInt8))) (ns : List SNode) (D t : List (Int × Int)) (dv : List (List (List UInt8))), op.length = iv.length → PSt fs ns t (op ++ D) ((iv ++ dv).map ended) → (∀ p ∈ iv, ∀ s ∈ p, (10 : UInt8) ∉ s) →
    PSt fs (op.foldl (pWork c) (ns, D)).1 (t ++ op) (op.foldl (pWork c) (ns, D)).2 ((dv ++ iv.map (made c)).map ended)
  | [], iv, ns, D, t, dv, hl, h, hf => by
    have : iv = [] := List.length_eq_zero_iff.1 hl.symm
    subst this
    simpa using h
  | p :: r, iv, ns, D, t, dv, hl, h, hf => by
    cases iv with
    | nil => simp at hl
    | cons x iv =>
      have st := PSt.step (ins := [p]) (iv := [ended x]) (R := r ++ D) (rv := (iv ++ dv).map ended) (by simpa using h) rfl (n := workN c p) (workN_right hc) (by simp [workN]) rfl
      have e1 : newPorts ns.length (nouts (workN c p)).toNat = [onePort ns.length] := newPorts_one _
      have e2 : nodeMade (workN c p) fs [ended x] = [ended (made c x)] := by simp [nodeMade, workN, lines_ended x (hf x (by simp))]
      rw [e1, e2] at st
      have ih := PV.works hc r iv (ns ++ [workN c p]) (D ++ [onePort ns.length]) (t ++ [p]) (dv ++ [made c x]) (by simpa using hl) (by simpa using st) (fun q hq => hf q (by simp [hq]))
      simpa [pWork] using ih
theorem made_flat {c : Cmd} (h : isEach c.kind = true) : ∀ pss : List (List (List UInt8)), (pss.map (made c)).flatten = made c pss.flatten
  | [] => by
    have := made_append c h [] []
    simp at this
    simp [this]
  | p :: r => by
    rw [List.map_cons, List.flatten_cons, made_flat h r, List.flatten_cons, made_append c h]
theorem made_count {c : Cmd} (h : chk c = 0) (ls : List (List UInt8)) (hl : ls.length ≤ 4000) : (made c ls).length ≤ 4000 := by
  have : (made c ls).length ≤ max ls.length 1 := by
    unfold made
    repeat' split
    all_goals (try simp)
    all_goals (first
      | exact Nat.le_trans (List.length_filter_le _ _) (by omega)
      | exact Nat.le_trans (compact_sub _).length_le (by omega)
      | (rw [sortOf_len]; omega)
      | omega)
  omega
theorem joined_same {how : Int} (c c' : Cmd) (h : how ≠ 4) (ps : List (List (List UInt8))) : joined how c ps = joined how c' ps := by
  unfold joined
  rw [if_neg h, if_neg h]
theorem PV.split {fs : List SFile} {d : PD} {t : List (Int × Int)} {L : List (List UInt8)} (h : PV fs d t [L]) {w : Nat} (hw : 1 ≤ w ∧ w ≤ 5) :
    ∃ pss, PV fs (d.1 ++ [splitN w d.2], newPorts d.1.length w) (t ++ d.2) pss ∧ pss.flatten = L ∧ pss.length = w := by
  obtain ⟨a, b, e⟩ := h
  obtain ⟨p, hp⟩ : ∃ p, d.2 = [p] := List.length_eq_one_iff.1 (by simpa using e)
  have hL := b L (by simp)
  have st := PSt.step (ins := [p]) (iv := [ended L]) (R := []) (rv := []) (by rw [hp] at a; simpa using a) rfl (n := splitN w [p]) (splitN_right hw) (by simp [splitN]) rfl
  have e1 : nouts (splitN w [p]) = (w : Int) := by simp [nouts, splitN]
  have e2 : nodeMade (splitN w [p]) fs [ended L] = ((List.range w).map (fun k => (L.take ((k + 1) * L.length / w)).drop (k * L.length / w))).map ended := by
    simp [nodeMade, splitN, partOf, lines_ended L hL]
  rw [e1, e2, Int.toNat_natCast] at st
  have hnf : ∀ q ∈ (List.range w).map (fun k => (L.take ((k + 1) * L.length / w)).drop (k * L.length / w)), ∀ s ∈ q, (10 : UInt8) ∉ s := by
    intro q hq s hs
    obtain ⟨k, _, rfl⟩ := List.mem_map.1 hq
    exact hL s (List.mem_of_mem_take (List.mem_of_mem_drop hs))
  refine ⟨_, ⟨by rw [hp]; simpa using st, hnf, by simp [newPorts_len]⟩, ?_, by simp⟩
  have hw2 := parts_whole (ended L) w hw.1
  rw [lines_ended L hL] at hw2
  have e3 : ended (((List.range w).map (fun k => (L.take ((k + 1) * L.length / w)).drop (k * L.length / w))).flatten) = ended L := by
    rw [← hw2]
    unfold partOf
    rw [lines_ended L hL]
    generalize List.range w = rs
    induction rs with
    | nil => rfl
    | cons k r ih => simp [ended_append, ih]
  have := congrArg lines e3
  rw [lines_ended L hL, lines_ended] at this
  · exact this
  · intro s hs
    obtain ⟨q, hq, hsq⟩ := List.mem_flatten.1 hs
    exact hnf q hq s hsq
/-- What stands between two commands. -/
def PB (fs : List SFile) (w : Nat) (d : PD) (L : List (List UInt8)) : Prop := ∃ t pss, PV fs d t pss ∧ pss.flatten = L ∧ (d.2.length = 1 ∨ d.2.length = w) ∧ L.length ≤ 4000
theorem flat_part {pss : List (List (List UInt8))} {p : List (List UInt8)} (h : p ∈ pss) : p.length ≤ pss.flatten.length := by
  obtain ⟨a, b, rfl⟩ := List.append_of_mem h
  simp
  omega
theorem PB.cmd {fs : List SFile} {w : Nat} (hw : 1 ≤ w ∧ w ≤ 5) {d : PD} {L : List (List UInt8)} (h : PB fs w d L) {c : Cmd} (hc : chk c = 0) : PB fs w (pCmd w d c) (made c L) := by
  obtain ⟨t, pss, hv, hL, hd, h4⟩ := h
  have hsp : ∃ t' pss', PV fs (pSplit w d) t' pss' ∧ pss'.flatten = L ∧ pss'.length = w := by
    unfold pSplit
    split
    · rename_i h1
      have hp1 : pss.length = 1 := by rw [← hv.2.2]; exact h1.1
      obtain ⟨x, rfl⟩ := List.length_eq_one_iff.1 hp1
      obtain rfl : x = L := by simpa using hL
      obtain ⟨q, a, b, e⟩ := hv.split hw
      exact ⟨_, q, a, b, e⟩
    · rename_i h1
      refine ⟨t, pss, hv, hL, ?_⟩
      rw [← hv.2.2]
      rcases hd with h | h
      · have : w = 1 := by by_cases e : w = 1; exact e; exact absurd ⟨h, e⟩ h1
        omega
      · exact h
  obtain ⟨t', ps, hv', hL', hlen⟩ := hsp
  unfold pCmd
  generalize pSplit w d = d1 at hv' ⊢
  obtain ⟨a, b, e⟩ := hv'
  have hwk := PV.works hc d1.2 ps d1.1 [] t' [] e (by simpa using a) b
  have hlw := works_len c d1.2 (d1.1, [])
  simp only [List.length_nil, Nat.zero_add, List.nil_append] at hwk hlw
  have hv2 : PV fs (pWorks c d1) (t' ++ d1.2) (ps.map (made c)) := by
    refine ⟨hwk, ?_, by unfold pWorks; rw [hlw.2, e]; simp⟩
    intro p hp
    obtain ⟨x, hx, rfl⟩ := List.mem_map.1 hp
    exact made_noFeed c hc x (b x hx)
  have hlen2 : (pWorks c d1).2.length = w := by rw [hv2.2.2]; simpa using hlen
  have hm4 := made_count hc L h4
  unfold pJoin
  split
  · rename_i h1
    refine ⟨_, _, hv2, ?_, Or.inr hlen2, hm4⟩
    rcases h1 with h1 | h1
    · rw [h1] at hlen
      obtain ⟨x, rfl⟩ := List.length_eq_one_iff.1 hlen
      obtain rfl : x = L := by simpa using hL'
      simp
    · rw [made_flat h1, hL']
  · rename_i h1
    have hcw : ∀ p ∈ ps, p.length ≤ 4000 := fun p hp => by
      have := flat_part hp
      rw [hL'] at this
      omega
    have hjw := join_whole c hc ps hcw
    rw [hL'] at hjw
    have hhow : 1 ≤ howFor c.kind ∧ howFor c.kind ≤ 4 := by unfold howFor; repeat' split; all_goals omega
    have hjc : jchk (howFor c.kind) (if howFor c.kind = 4 then c else noC) = 0 := by
      unfold jchk
      rw [if_neg (by omega)]
      by_cases h4' : howFor c.kind = 4
      · rw [if_pos h4', if_pos h4']; exact hc
      · rw [if_neg h4', if_neg h4']; simp [noC]
    have hj := hv2.join hjc (by omega)
    refine ⟨_, _, hj, ?_, Or.inl rfl, hm4⟩
    rw [List.flatten_cons, List.flatten_nil, List.append_nil, ← hjw]
    by_cases h4' : howFor c.kind = 4
    · rw [if_pos h4']
    · rw [if_neg h4']; exact joined_same _ _ h4' _
theorem PB.cmds {fs : List SFile} {w : Nat} (hw : 1 ≤ w ∧ w ≤ 5) : ∀ (cs : List Cmd) (d : PD) (L : List (List UInt8)), PB fs w d L → (∀ c ∈ cs, chk c = 0) → PB fs w (cs.foldl (pCmd w) d) (cs.foldl (fun L c => made c L) L)
  | [], d, L, h, _ => h
  | c :: r, d, L, h, hc => PB.cmds hw r _ _ (h.cmd hw (hc c (by simp))) (fun x hx => hc x (by simp [hx]))
theorem PV.behind {fs : List SFile} {d : PD} {t : List (Int × Int)} {pss : List (List (List UInt8))} (h : PV fs d t pss) (hl : 1 ≤ d.2.length ∧ d.2.length ≤ 5) : ∃ t', PV fs (pBehind d) t' [pss.flatten] := by
  unfold pBehind
  split
  · have hj := h.join (how := 1) (c := noC) (by simp [jchk, noC]) hl
    exact ⟨_, by simpa [joined] using hj⟩
  · rename_i h1
    refine ⟨t, ?_⟩
    have : pss.length = 1 := by rw [← h.2.2]; omega
    obtain ⟨x, rfl⟩ := List.length_eq_one_iff.1 this
    simpa using h
theorem lchk_all {l : SLine} (h : lchk l = 0) : (1 ≤ l.fr.length ∧ l.fr.length ≤ 4 ∧ l.cs.length ≤ 6) ∧ (∀ f ∈ l.fr, isWord f = true) ∧ isWord l.to = true ∧ ∀ c ∈ l.cs, chk c = 0 := by
  obtain ⟨a, b, c, d, e, f⟩ := lchk_zero h
  exact ⟨⟨a, b, c⟩, List.all_eq_true.1 d, e, f⟩
theorem plan_pv {fs : List SFile} {l : SLine} {w : Nat} (hw : 1 ≤ w ∧ w ≤ 5) (h : lchk l = 0) (hg : (allLines fs l.fr).length ≤ 4000) : ∃ t, PV fs (pBehind (pDone w l.fr l.cs)) t [l.cs.foldl (fun L c => made c L) (allLines fs l.fr)] := by
  obtain ⟨h1, h2, h3, h4⟩ := lchk_all h
  have s0 : PV fs ([], []) [] [] := ⟨⟨fun rest _ => rfl, by simp, by simp, by simp [allOuts], rfl⟩, by simp, rfl⟩
  have s1 := PV.src l.fr ([], []) [] [] s0 h2
  rw [List.nil_append] at s1
  have s1' : PV fs (pStart l.fr) [] (l.fr.map (fun f => lines (fileOf fs f))) := s1
  have hl := pStart_len l.fr ([], [])
  simp only [List.length_nil, Nat.zero_add] at hl
  obtain ⟨t2, s2⟩ := s1'.behind (by unfold pStart; omega)
  have s3 : PB fs w (pFrom l.fr) (allLines fs l.fr) := ⟨t2, _, s2, by simp [allLines], Or.inl s2.2.2, hg⟩
  obtain ⟨t4, pss, s4, hf, hd, _⟩ := s3.cmds hw l.cs _ _ h4
  obtain ⟨t5, s5⟩ := s4.behind (by omega)
  rw [hf] at s5
  exact ⟨t5, s5⟩
theorem sink_right {fs : List SFile} {d : PD} {t : List (Int × Int)} {L : List (List UInt8)} (h : PV fs d t [L]) {to : List UInt8} (ht : isWord to = true) (h60 : (pSink to d).length ≤ 60) : gchk (pSink to d) = 0 ∧ sunk (pSink to d) fs = ended L := by
  obtain ⟨⟨a1, a2, a3, a4, a5⟩, b, e⟩ := h
  obtain ⟨p, hp⟩ : ∃ p, d.2 = [p] := List.length_eq_one_iff.1 (by simpa using e)
  rw [hp] at a2 a3 a4 a5
  have hgl : gchkL [] (d.1 ++ [sinkN to [p]]) [] = (0, t ++ [p]) := by
    rw [a1 _ (by simp), gchkL, if_neg (by simp [sinkN_right ht]), show (sinkN to [p]).ins = [p] from rfl, insChk_ok d.1 [p] t (fun q hq => a3 q (by simp at hq; simp [hq])) a2, if_neg (by simp), if_neg (by simp [sinkN]), gchkL]
  constructor
  · unfold pSink at h60 ⊢
    rw [hp] at h60 ⊢
    unfold gchk
    rw [if_neg (by omega), hgl, if_neg (by simp), if_neg]
    have ea : allOuts (d.1 ++ [sinkN to [p]]) = allOuts d.1 + 0 := by simp [allOuts, nouts, sinkN]
    rw [ea, ← a4]
    simp
  · unfold pSink
    rw [hp]
    have hs : sunk (d.1 ++ [sinkN to [p]]) fs = portAt (outsL fs [] (d.1 ++ [sinkN to [p]])) p := by
      unfold sunk
      rw [List.getLast?_append]
      rfl
    rw [hs, port_old (a3 p (by simp))]
    simpa using a5
theorem plan_right {l : SLine} {w : Nat} (hw : 1 ≤ w ∧ w ≤ 5) (h : lchk l = 0) : gchk (plan l w) = 0 := by
  have e0 : ∀ fr : List (List UInt8), allLines [] fr = [] := by
    intro fr
    induction fr with
    | nil => rfl
    | cons f r ih => rw [show allLines [] (f :: r) = lines (fileOf [] f) ++ allLines [] r from rfl, ih]; rfl
  obtain ⟨t, hv⟩ := plan_pv (fs := []) hw h (by rw [e0]; simp)
  exact (sink_right hv (lchk_all h).2.2.1 (by have := (plan_len hw h).1; unfold plan at this; omega)).1
theorem doAll_lines : ∀ (cs : List Cmd) (L : List (List UInt8)), (∀ c ∈ cs, chk c = 0) → (∀ s ∈ L, (10 : UInt8) ∉ s) → doAll cs (ended L) = ended (cs.foldl (fun L c => made c L) L)
  | [], L, _, _ => rfl
  | c :: r, L, hc, hL => by
    rw [show doAll (c :: r) (ended L) = doAll r (ended (made c (lines (ended L)))) from rfl, lines_ended L hL, List.foldl_cons]
    exact doAll_lines r _ (fun x hx => hc x (by simp [hx])) (made_noFeed c (hc c (by simp)) L hL)
theorem plan_same {fs : List SFile} {l : SLine} {w : Nat} (hw : 1 ≤ w ∧ w ≤ 5) (h : lchk l = 0) (hg : (gather fs l.fr).2 = 0) : sunk (plan l w) fs = (lineOf fs l).1 ∧ (lineOf fs l).2 = 0 := by
  obtain ⟨h1, h2, h3, h4⟩ := lchk_all h
  have ga := gather_at fs l.fr (by omega)
  have hb : bad 4000 (allLines fs l.fr) = 0 := by
    by_cases e : bad 4000 (allLines fs l.fr) = 0
    · exact e
    · rw [ga, if_neg e] at hg; exact hg
  rw [if_pos hb] at ga
  have hlen : (ended (allLines fs l.fr)).length ≤ 4000 := by
    rw [bad_noFeed _ _ (allLines_noFeed fs l.fr)] at hb
    split at hb
    · cases hb
    · omega
  have hcount := ended_length_ge (allLines fs l.fr)
  obtain ⟨t, hv⟩ := plan_pv (fs := fs) hw h (by omega)
  have hs := (sink_right hv h3 (by have := (plan_len hw h).1; unfold plan at this; omega)).2
  unfold lineOf
  rw [if_pos hg]
  refine ⟨?_, rfl⟩
  simp only
  rw [ga]
  simp only
  rw [doAll_lines l.cs _ h4 (allLines_noFeed fs l.fr)]
  exact hs
end Go.Gs
