/- What the developers' Parse does. -/
import Derived.Test.YtdfnnhcooliheaaDoorDevScript7
namespace Go.Proofs.YtdfnnhcooliheaaDoor
open Go.RowKit Go.Gs
set_option linter.unusedVariables false

def strLen : Value → Nat
  | .string b => b.size
  | _ => 0
section
variable {P : Program}
theorem wp_append_is (w : World) {o : Oper} {a : Act} {K : Act → World → Prop} {Q : Exit → Act → World → Prop} (s x : Operand) (t : TypeId)
    (ho : o.op = .call { callee := .builtin .append, args := #[s, x], argTypes := #[t, t] }) (v u : Value) (hs : a.eval s = v) (hx : a.eval x = u) {v' : Value} {w' : World}
    (hr : (Builtin.append_ #[t, t] o.type #[v, u]).run P w = .ok v' w') (h : K (a.put o.dst v') w') : o.wp P a w K Q := by
  unfold Oper.wp execOp
  simp only [ho, resolve, invoke, builtin, Sem.run_bind, Sem.run_pure, Result.andThen_ok, List.map_toArray, List.map_cons, List.map_nil, hs, hx, hr]
  exact h
theorem wpList_append_is (w : World) {ops : Array Oper} {rest : List Oper} {o : Oper} {a : Act} {Q : Exit → Act → World → Prop} (hgd : o.guard = none) (s x : Operand) (t : TypeId)
    (ho : o.op = .call { callee := .builtin .append, args := #[s, x], argTypes := #[t, t] }) (v u : Value) (hs : a.eval s = v) (hx : a.eval x = u) {v' : Value} {w' : World}
    (hr : (Builtin.append_ #[t, t] o.type #[v, u]).run P w = .ok v' w') (h : wpList P ops Q rest (a.put o.dst v') w') : wpList P ops Q (o :: rest) a w :=
  wpList_plain hgd fun _ hK => wp_append_is w s x t ho v u hs hx hr (hK _ _ h)
end
theorem rlines_nil (w : World) : RLines w (.slice none 0 0) [] := ⟨none, 0, rfl, Nat.le_refl _, by simp [maxLen], fun h => absurd rfl h⟩

theorem FA.start {w w1 : World} {cs : Array Value} {t : TypeId} (h : cs.size = 18) (hb : Below (w.alloc (.cells cs t)).heap.size (w.alloc (.cells cs t)) w1) : FA w w1 w.heap.size w.heap.size 0 6 [] := by
  have hk : w1.heap[w.heap.size]? = some (.cells cs t (0, 0)) := (hb.block _ (by simp)).trans (heap_alloc_new w _)
  refine ⟨Nat.le_refl _, (Array.getElem?_eq_some_iff.1 hk).1, box_of.trans (hb.mono (by simp)), rfl, .inl ⟨by omega, rfl, rfl, fun j hj => ?_, [], fun j u hu => by simp [tri] at hu, rfl, fun j row x h1 => by simp at h1⟩⟩
  simp [World.cell?, World.frozen?, hk]
  omega

/-- What Parse ends with. -/
def ParseEnd (s : List UInt8) (w : World) (e : Ending) (w' : World) : Prop :=
  ∃ ao cap, e = .returned (.tuple #[.slice ao (parseS s).1.length cap, .int .i64 ((parseS s).2.1 : Int), .int .i64 (parseS s).2.2]) ∧ RLines w' (.slice ao (parseS s).1.length cap) (parseS s).1 ∧ (∀ x ∈ (parseS s).1, FitsL x) ∧ Below w.heap.size w w'
theorem parseEnd_err {s : List UInt8} {w w' : World} {e : Ending} {k : Nat} {r : Int} (h : parseS s = ([], k, r)) (he : e = .returned (.tuple #[.slice none 0 0, .int .i64 (k : Int), .int .i64 r])) (hb : Below w.heap.size w w') : ParseEnd s w e w' := by
  unfold ParseEnd
  rw [h]
  exact ⟨none, 0, he, rlines_nil w', by simp, hb⟩

theorem parse_fin {s : List UInt8} {w w2 w3 : World} {e : Ending} {r g n cap : Nat} {ls : List SLine} {v' : Value} {rows : List (Value × Value × Value)} (h : parseS s = (ls, 0, 0)) (hf : FA w w2 r g n cap ls) (ho : w3.ownsRow w2.heap.size 78 3 v' n (tri rows)) (hne : v' ≠ .slice none 0 0) (hr : Rows w2 r rows ls) (hb : Below w2.heap.size w2 w3) (he : e = .returned (.tuple #[v', .int .i64 0, .int .i64 0])) : ParseEnd s w e w3 := by
  have hln := hf.2.2.2.1
  have hr3 : Rows w3 r rows ls := ⟨hr.1, fun j row x e1 e2 => (hr.2 j row x e1 e2).below hb⟩
  unfold ParseEnd
  rw [h]
  simp only
  rcases ho.2 with ⟨h0, _⟩ | ⟨g', cap', cur, rfl, _, _, h1, h2, _⟩
  · exact absurd h0 hne
  · refine ⟨some ⟨g', 0, none⟩, cap', by rw [he, hln]; rfl, ?_, FA.fits (w := w) hr, hf.2.2.1.trans (hb.mono hf.2.2.1.size)⟩
    rw [hln]
    refine rlines_of hr3 hln.symm h1 h2 (fun j u hu => ?_)
    have := ho.cells (g := g') rfl j u hu
    rw [adds] at this
    exact this

set_option maxRecDepth 100000 in
set_option maxHeartbeats 4000000 in
theorem parse_long (s : List UInt8) (w : World) (hs : s.length ≤ 9223372036854775807) (hl : 8000 < s.length) :
    Calls Tryd.prog 29 #[.string ⟨s.toArray⟩] w fun e w' => ParseEnd s w e w' := by
  have HP : Hid (parseS s = ([], 0, 2)) := (show _ = _ by unfold parseS; rw [if_pos hl])
  have hsz : (⟨s.toArray⟩ : ByteArray).size = s.length := by simp [ByteArray.size]
  generalize (⟨s.toArray⟩ : ByteArray) = sx at *
  generalize s.length = L at *
  have hq : (8000 : Int) < L := by omega
  go_enter Tryd.func29, Tryd.ntmps29
  go_wp2_with fail
  go_ret3
  exact parseEnd_err HP.out rfl (Below.refl _ _)

set_option maxRecDepth 100000 in
set_option maxHeartbeats 4000000 in
theorem parse_short (s : List UInt8) (w : World) (hl : s.length ≤ 8000) (hE : KnownS w) :
    Calls Tryd.prog 29 #[.string ⟨s.toArray⟩] w fun e w' => ParseEnd s w e w' := by
  have HP0 : Hid (parseRest (s.length + 1) s [] = parseS s) := (show _ = _ by unfold parseS; rw [if_neg (by omega)])
  have hsz : (⟨s.toArray⟩ : ByteArray).size = s.length := by simp [ByteArray.size]
  obtain ⟨sx, hsx⟩ : ∃ sx : ByteArray, sx = ⟨s.toArray⟩ := ⟨_, rfl⟩
  have HSX : Hid (sx = ⟨s.toArray⟩) := hsx
  rw [← hsx] at hsz ⊢
  obtain ⟨L, hL⟩ : ∃ L, L = s.length := ⟨_, rfl⟩
  have HL : Hid (L = s.length) := hL
  rw [← hL] at hsz hl
  have hq : ¬ (8000 : Int) < L := by omega
  have hCl := fun W => sclone_is sx W (by omega)
  have HE : Hid (KnownS w) := hE
  clear hsx hL hE
  go_enter Tryd.func29, Tryd.ntmps29
  go_wp2_with fail
  refine (hCl _).mono ?_
  rintro e w1 ⟨rfl, hb1⟩
  have HFA0 : Hid (FA w w1 w.heap.size w.heap.size 0 6 []) := FA.start rfl hb1
  clear hb1 hCl
  go_wp2_with fail
  go_loopw [6, 7, 8] (fun v6 v7 v8 wr => ∃ g n cap f R : Nat, ∃ rx : ByteArray, ∃ rest : List UInt8, ∃ ls : List SLine, v6 = .slice (some ⟨g, 0, none⟩) n cap ∧ v7 = .string rx ∧ v8 = .int .i64 n ∧ n + R ≤ 8000 ∧ Hid (rx = ⟨rest.toArray⟩ ∧ rest.length = R) ∧ Hid (FA w wr w.heap.size g n cap ls) ∧ Hid (R < f ∧ parseRest f rest ls = parseS s))
    (fun _ v7 _ _ => strLen v7)
  case atStart => exact ⟨w.heap.size, 0, 6, s.length + 1, L, sx, s, [], rfl, rfl, rfl, by omega, ⟨HSX.out, HL.out.symm⟩, HFA0, ⟨by rw [HL.out]; omega, HP0.out⟩⟩
  case round =>
    obtain ⟨g, n, cap, f, R, rx, rest, ls, rfl, rfl, rfl, hnR, HRX, HFA, HPR⟩ := hrel
    have hn8 : n ≤ 8000 := by omega
    have HK : Hid (KnownS wr) := HE.out.below HFA.out.2.2.1
    obtain ⟨f', hf'⟩ : ∃ f', f = f' + 1 := ⟨f - 1, by have := HPR.out.1; omega⟩
    subst hf'
    by_cases hre : rest = []
    · have hem : rx.toList.isEmpty = true := by rw [HRX.out.1, hre]; simp
      have HPF : Hid (parseFin ls = parseS s) := (show _ = _ by rw [← HPR.out.2, hre, rest_nil])
      have hCk := scheck_fa HFA.out (by omega)
      generalize hsc : schk ls = sc at *
      have HSC : Hid (schk ls = sc) := hsc
      clear hsc hre HPR
      go_wp2_with fail
      refine Calls.mono hCk ?_
      rintro e w2 ⟨rfl, hb2⟩
      have HF2 : Hid (FA w w2 w.heap.size g n cap ls) := HFA.out.below hb2
      clear hb2 hCk
      by_cases hs0 : sc = 0
      · subst hs0
        have hn6 : n ≤ 6 := by
          have h1 := (schk_zero HSC.out).1
          rw [HF2.out.2.2.2.1] at h1
          exact h1
        have HPS : Hid (parseS s = (ls, 0, 0)) := (show _ = _ by rw [← HPF.out]; unfold parseFin; rw [if_pos HSC.out])
        obtain ⟨rows, hrl, hcells, hrows, hncap⟩ := HF2.out.lines hn6
        have HR : Hid (Rows w2 w.heap.size rows ls) := hrows
        have hCl := lclone_is g 0 n cap (tri rows) w2 (by rw [tri_length, hrows.1, HF2.out.2.2.2.1]) (by omega) hcells hrows.one
        clear hrl hcells hrows
        go_wp2_with fail
        refine Calls.mono hCl ?_
        rintro e w3 ⟨v', rfl, hown, hne, hb3⟩
        have HO : Hid (w3.ownsRow w2.heap.size 78 3 v' n (tri rows) ∧ v' ≠ .slice none 0 0) := ⟨hown, hne⟩
        have HB3 : Hid (Below w2.heap.size w2 w3) := hb3
        clear hown hb3 hCl hne
        go_wp2_with fail
        go_ret3
        exact parse_fin HPS.out HF2.out HO.out.1 HO.out.2 HR.out HB3.out rfl
      · have HPS : Hid (parseS s = ([], 0, sc)) := (show _ = _ by rw [← HPF.out]; unfold parseFin; rw [if_neg (by rw [HSC.out]; exact hs0), HSC.out])
        go_wp2_with fail
        go_ret3
        exact parseEnd_err HPS.out rfl HF2.out.2.2.1
    · have hem : rx.toList.isEmpty = false := by
        rw [HRX.out.1]
        cases rest with
        | nil => exact absurd rfl hre
        | cons c l => simp
      have hlen := cut_len rest [10]
      have hCut := scut_is rest [10] wr (by have := HRX.out.2; omega) HK.out
      rw [← HRX.out.1] at hCut
      obtain ⟨row, hrow⟩ : ∃ row, row = (Lib.cut rest [10]).1 := ⟨_, rfl⟩
      obtain ⟨bh, hbh⟩ : ∃ bh, bh = (Lib.cut rest [10]).2.1 := ⟨_, rfl⟩
      obtain ⟨en, hen⟩ : ∃ en, en = (Lib.cut rest [10]).2.2 := ⟨_, rfl⟩
      have HROW : Hid (row = (Lib.cut rest [10]).1) := hrow
      have HBH : Hid (bh = (Lib.cut rest [10]).2.1) := hbh
      have HEN : Hid (en = (Lib.cut rest [10]).2.2) := hen
      have HRL : Hid (row.length ≤ 100000) := (show _ ≤ _ by rw [hrow]; have := HRX.out.2; omega)
      have HRE : Hid (rest ≠ []) := hre
      rw [← hrow, ← hbh, ← hen] at hCut
      obtain ⟨rwx, hrwx⟩ : ∃ rwx : ByteArray, rwx = ⟨row.toArray⟩ := ⟨_, rfl⟩
      obtain ⟨bhx, hbhx⟩ : ∃ bhx : ByteArray, bhx = ⟨bh.toArray⟩ := ⟨_, rfl⟩
      have HRWX : Hid (rwx = ⟨row.toArray⟩) := hrwx
      have HBHX : Hid (bhx = ⟨bh.toArray⟩) := hbhx
      rw [← hrwx, ← hbhx] at hCut
      clear hrow hbh hen hre hlen hrwx hbhx
      go_wp2_with fail
      refine Calls.mono hCut ?_
      rintro e w2 ⟨rfl, hb2⟩
      have HF2 : Hid (FA w w2 w.heap.size g n cap ls) := HFA.out.below hb2
      have hPa := parsed_is row w2 HRL.out (HK.out.below hb2)
      rw [← HRWX.out] at hPa
      clear hb2 hCut HFA HK
      go_wp2_with fail
      refine Calls.mono hPa ?_
      rintro e w3 ⟨af, nf, cf, ad, nd, cd, tx, b, rfl, hpar, hb3⟩
      have HF3 : Hid (FA w w3 w.heap.size g n cap ls) := HF2.out.below hb3
      have HPA : Hid _ := hpar
      have HG2 : Hid (w.heap.size < w2.heap.size) := HF2.out.2.1
      clear hb3 hpar hPa HF2
      cases en with
      | false =>
        have HPS : Hid (parseS s = ([], n, 1)) := (show _ = _ by rw [← HPR.out.2, rest_bad HRE.out (.inl HEN.out.symm), HF3.out.2.2.2.1])
        clear HPA HPR
        go_wp2_with fail
        go_ret3
        exact parseEnd_err HPS.out rfl (HF3.out.2.2.1.alloc HF3.out.2.2.1.size _)
      | true =>
        cases b with
        | false =>
          have HPS : Hid (parseS s = ([], n, 1)) := (show _ = _ by
            rcases HPA.out with ⟨_, h⟩ | ⟨h, _⟩
            · rw [← HPR.out.2, rest_bad HRE.out (.inr (by rw [← HROW.out]; exact h)), HF3.out.2.2.2.1]
            · cases h)
          clear HPA HPR
          go_wp2_with fail
          go_ret3
          exact parseEnd_err HPS.out rfl (HF3.out.2.2.1.alloc HF3.out.2.2.1.size _)
        | true =>
          obtain ⟨x, hpl, htx, hnf, hnd, hrf, hrd, hfit, hn1, hn2⟩ : ∃ x, parseLine row = some x ∧ tx = ⟨x.to.toArray⟩ ∧ nf = x.fr.length ∧ nd = x.cs.length ∧ Reads w3 (.slice af nf cf) x.fr.length (x.fr.map S) ∧ RCmds w3 (.slice ad nd cd) x.cs ∧ FitsL x ∧ New w2.heap.size (.slice af nf cf) ∧ New w2.heap.size (.slice ad nd cd) := by
            rcases HPA.out with ⟨h, _⟩ | ⟨_, h⟩
            · cases h
            · exact h
          have hok : RowOk w3 w.heap.size (.slice af nf cf, .slice ad nd cd, .string tx) x := ⟨hrf, hrd, by rw [htx], hfit, fun a n c e => by have := hn1 a n c e; have := HG2.out; omega, fun a n c e => by have := hn2 a n c e; have := HG2.out; omega⟩
          have HOK : Hid _ := hok
          have hCL := fun (W : World) (hb : Below w3.heap.size w3 W) => checkLine_is x af ad cf cd W (by rw [← hnf]; exact Reads.below (hnf ▸ hrf) hb) (by rw [← hnd]; exact hrd.below hb) hfit
          rw [← hnf, ← hnd, ← htx] at hCL
          generalize hlc : lchk x = lc at *
          have HLC : Hid (lchk x = lc) := hlc
          have HPL : Hid (parseLine (Lib.cut rest [10]).1 = some x) := (show _ = _ by rw [← HROW.out]; exact hpl)
          have hCL' := hCL _ (box_of (o := .cells #[.slice af nf cf, .slice ad nd cd, .string tx] 78))
          clear hCL hlc hpl htx hnf hnd hrf hrd hfit hn1 hn2 hok HPA HROW
          go_wp2_with fail
          refine Calls.mono hCL' ?_
          rintro e w5 ⟨rfl, hb5⟩
          have HF4 : Hid (FA w (w3.alloc (.cells #[.slice af nf cf, .slice ad nd cd, .string tx] 78)) w.heap.size g n cap ls) := HF3.out.below box_of
          have HF5 : Hid (FA w w5 w.heap.size g n cap ls) := HF4.out.below hb5
          have HOK5 : Hid (RowOk w5 w.heap.size (.slice af nf cf, .slice ad nd cd, .string tx) x) := (HOK.out.below box_of).below hb5
          have HBX5 : Hid (w5.heap[w3.heap.size]? = some (.cells #[.slice af nf cf, .slice ad nd cd, .string tx] 78 (0, 0))) := (hb5.block _ (by simp)).trans (heap_alloc_new w3 _)
          clear hb5 hCL' HF4 HOK
          by_cases hl0 : lc = 0
          · subst hl0
            have HPR2 : Hid (bh.length < f' ∧ parseRest f' bh (ls ++ [x]) = parseS s) := ⟨by have := cut_less HEN.out.symm; have := HPR.out.1; have := HRX.out.2; rw [HBH.out]; omega, by rw [← HPR.out.2, rest_go HRE.out HEN.out.symm HPL.out HLC.out, ← HBH.out]⟩
            have HLess : Hid (bh.length + 1 ≤ R) := (show _ ≤ _ by have := cut_less HEN.out.symm; rw [← HBH.out, HRX.out.2] at this; exact this)
            obtain ⟨hc0, hc1, hc2, _, _, _⟩ := blk3 HBX5.out
            clear HPR
            obtain ⟨g', cap', w', hrun, hfa⟩ := FA.app (ty := 51) HF5.out HOK5.out (by omega)
            have HFA' : Hid _ := hfa
            have HRUN : Hid _ := hrun
            clear hfa hrun
            go_wp2_with (at_builtin; refine wpList_append_is _ rfl (.tmp 50) (.tmp 52) 51 rfl _ _ rfl rfl HRUN.out ?_)
            go_roundw
            case rel => exact ⟨g', n + 1, cap', f', bh.length, bhx, bh, ls ++ [x], rfl, rfl, by go_num, by have := HLess.out; omega, ⟨HBHX.out, rfl⟩, HFA', HPR2⟩
            case measure =>
              have h1 := HLess.out
              have h2 : bhx.size = bh.length := by rw [HBHX.out]; simp [ByteArray.size]
              have h3 : rx.size = R := by rw [HRX.out.1, ← HRX.out.2]; simp [ByteArray.size]
              simp only [strLen]
              omega
          · have HPS : Hid (parseS s = ([], n, lc)) := (show _ = _ by rw [← HPR.out.2, rest_err HRE.out HEN.out.symm HPL.out (by rw [HLC.out]; exact hl0), HF5.out.2.2.2.1, HLC.out])
            clear HPR
            go_wp2_with fail
            go_ret3
            exact parseEnd_err HPS.out rfl HF5.out.2.2.1
theorem parse_is (s : List UInt8) (w : World) (hs : s.length ≤ 9223372036854775807) (hE : KnownS w) :
    Calls Tryd.prog 29 #[.string ⟨s.toArray⟩] w fun e w' => ParseEnd s w e w' := by
  by_cases h : 8000 < s.length
  · exact parse_long s w hs h
  · exact parse_short s w (by omega) hE
end Go.Proofs.YtdfnnhcooliheaaDoor
