/- The law ExecPicks, walked, and more. -/
import Derived.Test.YtllgglolcgdehaaGreatDoorQAb
import Derived.Test.YtllgglolcgdehaaGreatDoorQj04
set_option maxRecDepth 100000
set_option maxHeartbeats 16000000
namespace Go.Proofs.YtllgglolcgdehaaGreatDoor
open Go.RowKit Go.Gs
set_option linter.unusedVariables false
theorem cb7 {l:SLine} {W:Int} {fs:List SFile} (h1:(o4 l W).2=0) (hfc:fchk fs=0):gchk (o4 l W).1=0/\T0 (o4 l W).1 fs:=by
 have hp:lchk l=0 /\ ¬(W<1\/5<W):=by
  unfold o4 at h1;split at h1
  . rename_i h;exact absurd h1 h
  . split at h1
    . cases h1
    . rename_i h3 h4;exact⟨by simpa using h3,h4⟩
 have hw:1<=W.toNat/\W.toNat<=5:=by omega
 rw[av8 hp.1 hp.2];exact⟨aa1 hw hp.1,aF0 hw hp.1 (fun f hf=>(J2 (I0 hfc).2 f hf).2)⟩
theorem bK5 {w w':World} {X:Nat->Prop} {v:Value} {n:Nat} {zs:List Int} (h:Reads w v n (Zs zs)) (hx:∀x,X x->ab7 w x) (hk:∀k,¬X k->w'.heap[k]? = w.heap[k]?):Reads w' v n (Zs zs):=by
 obtain⟨h1,ao,cap,rfl,h2,h3,h4⟩:=h;refine⟨h1,ao,cap,rfl,h2,h3,fun hn=>?_⟩;obtain⟨b,off,rfl,hc⟩:=h4 hn;refine⟨b,off,rfl,fun j u hu=>?_⟩;have hb:¬X b:=fun e=>by
  obtain⟨a,n,c,e⟩:=hx b e _ _ (hc j u hu);unfold Zs at hu;rw[List.getElem?_map] at hu
  cases hq:zs[j]? with
  | none=>rw[hq] at hu;cases hu
  | some y=>
   rw[hq] at hu
   simp only[Option.map_some,Option.some.injEq] at hu
   rw[<- hu] at e
   cases e
 exact H3 hk hb (hc j u hu)
theorem cn5 (l : SLine) (W room : Int) (fs : List SFile) (pk ot : List Int) (af ad ao aq ar : Option Addr) (cf cd cap cq cr : Nat) (w : World) (hf : Reads w (.slice af l.fr.length cf) l.fr.length (l.fr.map S)) (hd : P6 w (.slice ad l.cs.length cd) l.cs) (Ad : Y5 l) (hfs : j9 w (.slice ao fs.length cap) fs) (hff : ∀ f ∈ fs, M3 f) (hq : Reads w (.slice aq pk.length cq) pk.length (Zs pk)) (ho : Reads w (.slice ar ot.length cr) ot.length (Zs ot)) (Ag : -9223372036854775808 ≤ room ∧ room ≤ 9223372036854775807) (hE : t8 w) (h : (o4 l W).2 = 0) :
    Calls Tryz.prog 9 #[.agg #[.slice af l.fr.length cf, .slice ad l.cs.length cd, .string ⟨l.tu.toArray⟩], .int .i64 W, .slice ao fs.length cap, .slice aq pk.length cq, .slice ar ot.length cr, .int .i64 room] w fun e w' => e = .returned (.bool true) ∧ Bq w w' := by
 have HP : Hid (∀ V, Bq w V → Calls Tryz.prog 28 #[.agg #[.slice af l.fr.length cf, .slice ad l.cs.length cd, .string ⟨l.tu.toArray⟩], .int .i64 W] V fun e w' => ax6 V (o4 l W) e w') := (show ∀ V, _ from fun V hb => bm5 l W af ad cf cd V (hf.below hb) (hd.below hb) Ad);have HMI : Hid (∀ V, Bq w V → Calls Tryz.prog 17 #[] V fun e w' => e = .returned (.bool true) ∧ Bq V w') := (show ∀ V, _ from fun V hb => aj8 V (hE.below hb));have HCF : Hid (∀ V, Bq w V → Calls Tryz.prog 39 #[.slice ao fs.length cap] V fun e w' => e = .returned (.int .i64 (fchk fs)) ∧ Bq V w') := (show ∀ V, _ from fun V hb => aa9 ao cap fs V (hfs.below hb) hff)
 have HLN : Hid (∀ V, Bq w V → Calls Tryz.prog 40 #[.slice ao fs.length cap, .agg #[.slice af l.fr.length cf, .slice ad l.cs.length cd, .string ⟨l.tu.toArray⟩]] V fun e w' => ∃ a c, e = .returned (.tuple #[.slice a (Y6 fs l).1.length c, .int .i64 (Y6 fs l).2]) ∧ Bq V w') := (show ∀ V, _ from fun V hb => by
   refine (bM6 l ao af ad cap cf cd fs V (hfs.below hb) hff (hf.below hb) (hd.below hb) Ad (hE.below hb).1).mono ?_
   rintro e w' ⟨a, c, e1, _, e3⟩
   exact ⟨a, c, e1, e3⟩)
 obtain ⟨z, hz⟩ := Int.eq_ofNat_of_zero_le (Int.emod_nonneg room (show (1000 : Int) ≠ 0 by decide));have hz5 : z < 1000 := by have := Int.emod_lt_of_pos room (show (0 : Int) < 1000 by decide); omega
 have HAT : Hid (∀ V, Calls Tryz.prog 32 #[.int .i64 room, .int .i64 1000] V fun e w' => e = .returned (.int .i64 (z : Nat)) ∧ w' = V) := (show ∀ V, _ from fun V => by
   have := aW4 room 1000 V Ag.1 Ag.2 (by decide) (by decide)
   rw [show ((1000 : Nat) : Int) = 1000 from rfl, hz] at this
   exact this)
 have hfn : ∀ n ∈ (o4 l W).1, M4 n := by
  unfold o4;split
  . intro n hn; cases hn
  . split
    . intro n hn; cases hn
    . rename_i h1 h2;intro n hn;exact Go.Gs.right_fits (aa1 (by omega) (by simpa using h1)) hn
 have Ap := fun hfc => cb7 (fs := fs) h hfc;obtain ⟨ns, hns⟩ : ∃ z, z = (o4 l W).1 := ⟨_, rfl⟩;rw [← hns] at hfn Ap
 have HEN : Hid (fchk fs = 0 → ∀ (V : World) (bg bf cn1 : Nat) (an1 ag : Option Addr) (cg : Nat) (rm : Int) (ps : List Int), 1 ≤ rm → rm ≤ 1000 → Bq w V → A2 V (.slice an1 ns.length cn1) ns → V.cell? ⟨bg, 0, none⟩ = some (.slice an1 ns.length cn1) → V.cell? ⟨bf, 0, none⟩ = some (.slice ao fs.length cap) → Reads w (.slice ag ps.length cg) ps.length (Zs ps) → Calls Tryz.prog 38 #[.int .i64 rm, .slice ag ps.length cg, .pointer (some ⟨bg, 0, none⟩), .pointer (some ⟨bf, 0, none⟩)] V fun e w' => ∃ r bn bf' bx bp bS dn df dx dp ds, e = .returned (.tuple #[machV bn bf' bx bp bS r dn df dx dp ds, .bool true]) ∧ RMach w' bn bf' bx bp bS dn df dx dp ds r ∧ Go.Gs.Reach ns fs rm r ∧ overS r = true ∧ r.sunk = sunk ns fs ∧ Bq V w') := (show _ → ∀ (V : World) (bg bf cn1 : Nat) (an1 ag : Option Addr) (cg : Nat) (rm : Int) (ps : List Int), _ from fun hfc V bg bf cn1 an1 ag cg rm ps h1 h2 hb hn hg hf' hps => by
   obtain ⟨k1, k2⟩ := Ap hfc
   refine (bJ6 ns fs rm ps an1 ao ag cn1 cap cg bg bf V hn (hfs.below hb) hg hf' hfn hff (hps.below hb) (hE.below hb) k1 hfc k2 h1 h2).mono ?_
   rintro e w' ⟨v, r, e1, ⟨bn, bf', bx, bp, bS, dn, df, dx, dp, ds, rfl, hR⟩, e3, e4, e5, e6⟩
   exact ⟨r, bn, bf', bx, bp, bS, dn, df, dx, dp, ds, e1, hR, e3, e4, e5, e6⟩)
 obtain ⟨K, hK⟩ : ∃ z : Nat, z = min pk.length 500 := ⟨_, rfl⟩
 have HOR : Hid (fchk fs = 0 → ∀ (rm : Int) (r : SMach), Go.Gs.Reach ns fs rm r → overS r = true → ∀ (V : World) (an af ax ap aS : Option Addr) (cn cf cx cp cs : Nat), Bq w V → RMach V an af ax ap aS cn cf cx cp cs r → Calls Tryz.prog 24 #[machV an af ax ap aS r cn cf cx cp cs, .slice aq K cq] V fun e w' => ∃ bn bf bx bp bS dn df dx dp ds sa n sc, ∃ zs : List Int, e = .returned (.tuple #[machV bn bf bx bp bS r dn df dx dp ds, .slice sa n sc, .int .i64 0]) ∧ ac0 V.heap.size w' bn bf bx bp bS dn df dx dp ds r ∧ Reads w' (.slice sa n sc) n (Zs zs) ∧ (∀ z ∈ zs, z ≠ 0) ∧ Bq V w') := (show _ → ∀ (rm : Int) (r : SMach), _ from fun hfc rm r hr hov V an af ax ap aS cn cf cx cp cs hb hM =>
   bK4 (Ap hfc).1 hfc (Ap hfc).2 hfn hff hr hov an af ax ap aS aq cn cf cx cp cs cq K pk V hM (hq.below hb) hK (hE.below hb))
 have HQ : Hid (Reads w (.slice aq pk.length cq) pk.length (Zs pk) ∧ Reads w (.slice ar ot.length cr) ot.length (Zs ot)) := ⟨hq, ho⟩;have hle := R7 hq;have Jc : min (pk.length : Int) 500 = (K : Int) := by omega
 have hK1 : K ≤ pk.length := by omega
 have hK2 : K ≤ cq := by omega
 have hw2 : IntKind.i64.wrap (1 + (z : Int)) = ((z + 1 : Nat) : Int) := by rw [IntKind.wrap_i64]; omega
 obtain ⟨Z1, hZ1⟩ : ∃ y : Nat, y = z + 1 := ⟨_, rfl⟩;have HZ1 : Hid (1 ≤ Z1 ∧ Z1 ≤ 1000) := (show _ ∧ _ from ⟨by omega, by omega⟩);rw [← hZ1] at hw2;have HE1 : Hid _ := fun hfc V bg bf cn1 an1 hb hn hg hf' => HEN.out hfc V bg bf cn1 an1 aq cq (Z1 : Int) pk (by have := HZ1.out; omega) (by have := HZ1.out; omega) hb hn hg hf' HQ.out.1;have HE2 : Hid _ := fun hfc V bg bf cn1 an1 hb hn hg hf' => HEN.out hfc V bg bf cn1 an1 ar cr 1 ot (by omega) (by omega) hb hn hg hf' HQ.out.2;clear HEN HQ;have en : ∀ args w, (callFunc 38 args).run Tryz.prog w = .ok (.enter 38 args) w := enters_of Tryz.func38 (by kernel_rfl) rfl;generalize (⟨l.tu.toArray⟩ : ByteArray) = tx at *;generalize l.fr.length = NFR at *;generalize l.cs.length = NCS at *;generalize fs.length = NFS at *;generalize pk.length = NPK at *;generalize ot.length = NOT at *;generalize (Y6 fs l).1.length = LL at *
 generalize (Y6 fs l).2 = le at *;generalize fchk fs = fc at *;generalize sunk ns fs = SK at *;clear hf hd Ad hfs hff hq ho Ag hE hfn Ap hK hz hz5 hZ1 hle;go_enter Tryz.func9, Tryz.ntmps9;go_wp2_with fail;refine Calls.mono (HP.out _ bt7) ?_;rintro e w1 ⟨an1, cn1, rfl, hn1, hb1⟩;rw [← hns] at hn1 ⊢;rw [h];clear HP hns h;generalize hNL : ns.length = NL at *;clear hNL;obtain ⟨W1, hW1⟩ : ∃ z, z = w1.alloc (.cells #[.slice an1 NL cn1] 24) := ⟨_, rfl⟩;obtain ⟨BG, hBG⟩ : ∃ z, z = w1.heap.size := ⟨_, rfl⟩;obtain ⟨BL, hBL⟩ : ∃ z, z = w.heap.size := ⟨_, rfl⟩;have hB1 : Bq w w1 := Below.trans (bt7 (w := w)) (hb1.mono (by simp; omega));have hbW : Bq w1 W1 := by rw [hW1]; exact b9
 have hBW : Bq w W1 := hB1.trans (hbW.mono hB1.size);have r1 : w1.heap[BL]? = some (.cells #[.slice af NFR cf, .slice ad NCS cd, .string tx] 56 (0, 0)) := by rw [hBL, hb1.block _ (by simp; omega)]; exact heap_alloc2_old _ _ _
 have r2 : w1.heap[BL + 1]? = some (.cells #[.slice ao NFS cap] 25 (0, 0)) := by rw [hBL, hb1.block _ (by simp)]; exact heap_alloc2_new _ _ _
 have q1 := (hbW.block _ (Array.getElem?_eq_some_iff.1 r1).1).trans r1;have q2 := (hbW.block _ (Array.getElem?_eq_some_iff.1 r2).1).trans r2;have q3 : W1.heap[BG]? = some (.cells #[.slice an1 NL cn1] 24 (0, 0)) := by rw [hW1, hBG]; exact heap_alloc_new _ _
 have hnW : A2 W1 (.slice an1 NL cn1) ns := hn1.below hbW
 have K1 : Hid (∀ V, Bq W1 V → Bq w V ∧ (V.cell? ⟨BL, 0, none⟩ = some (.slice af NFR cf) ∧ V.cell? ⟨BL, 1, none⟩ = some (.slice ad NCS cd) ∧ V.cell? ⟨BL, 2, none⟩ = some (.string tx)) ∧ V.cell? ⟨BL + 1, 0, none⟩ = some (.slice ao NFS cap) ∧ V.cell? ⟨BG, 0, none⟩ = some (.slice an1 NL cn1) ∧ A2 V (.slice an1 NL cn1) ns) := (show ∀ V, _ from fun V hV => by
   have p1 := (hV.block _ (Array.getElem?_eq_some_iff.1 q1).1).trans q1
   have p2 := (hV.block _ (Array.getElem?_eq_some_iff.1 q2).1).trans q2
   have p3 := (hV.block _ (Array.getElem?_eq_some_iff.1 q3).1).trans q3
   exact ⟨hBW.trans (hV.mono hBW.size), ⟨(cell_of_row _ _ _ _ _ _ p1).trans rfl, (cell_of_row _ _ _ _ _ _ p1).trans rfl, (cell_of_row _ _ _ _ _ _ p1).trans rfl⟩, (cell_of_row _ _ _ _ _ _ p2).trans rfl, (cell_of_row _ _ _ _ _ _ p3).trans rfl, hnW.below hV⟩)
 clear hn1 hb1 hB1 hbW hBW r1 r2 q1 q2 q3 hnW;go_upto_region 2 with fail;rw [← hW1, ← hBG, ← hBL];clear hW1 hBG hBL;go_wp2_with fail;refine Calls.mono (HMI.out _ (K1.out _ (Below.refl _ _)).1) ?_;rintro e W2 ⟨rfl, hb2⟩;have B2 : Hid (Bq W1 W2) := hb2;obtain ⟨g2, ⟨l0, l1, l2⟩, f0, n0, rn2⟩ := K1.out _ hb2;have HC2 : Hid _ := HCF.out _ g2;clear hb2 HMI HCF g2 rn2;go_wp2_with fail;refine Calls.mono HC2.out ?_;rintro e W3 ⟨rfl, hb3⟩;have B3 : Hid (Bq W1 W3) := B2.out.trans (hb3.mono B2.out.size);clear hb3 l0 l1 l2 f0 n0 HC2 B2;by_cases hfc : fc = 0
 case neg =>have HB3 : Hid (Bq w W3) := (K1.out _ B3.out).1;clear K1 B3 HE1 HE2 HOR HLN HAT;go_wp2_with fail;go_ret;exact ⟨rfl, HB3.out⟩
 subst hfc;obtain ⟨g3, ⟨l0, l1, l2⟩, f0, n0, rn3⟩ := K1.out _ B3.out;have HL3 : Hid _ := HLN.out _ g3;clear g3 rn3 HLN;go_wp2_with fail;refine Calls.mono HL3.out ?_;rintro e W4 ⟨la, lc, rfl, hb4⟩;have B4 : Hid (Bq W1 W4) := B3.out.trans (hb4.mono B3.out.size);clear hb4 l0 l1 l2 f0 n0 HL3 B3;by_cases hle : le = 0
 case neg =>have HB3 : Hid (Bq w W4) := (K1.out _ B4.out).1;clear K1 B4 HE1 HE2 HOR HAT;go_wp2_with fail;go_ret;exact ⟨rfl, HB3.out⟩
 subst hle;by_cases hll : 2000 < LL
 case pos =>have HB3 : Hid (Bq w W4) := (K1.out _ B4.out).1;clear K1 B4 HE1 HE2 HOR HAT;go_wp2_with fail;go_ret;exact ⟨rfl, HB3.out⟩
 have HE3 : Hid _ := (show _ ∧ _ from ⟨HE1.out trivial, HE2.out trivial⟩);have HO3 : Hid _ := HOR.out trivial;clear HE1 HE2 HOR;obtain ⟨g4, ⟨l0, l1, l2⟩, f0, n0, rn4⟩ := K1.out _ B4.out;have HE4 : Hid _ := HE3.out.1 W4 BG (BL + 1) cn1 an1 g4 rn4 n0 f0;clear g4 rn4 l0 l1 l2 f0 n0;go_wp2_with fail;refine Calls.mono (HAT.out _) ?_;rintro e w9 ⟨rfl, rfl⟩;clear HAT;go_wp2_with fail;refine Calls.mono HE4.out ?_;rintro e w5 ⟨r5, bn5, bf5, bx5, bp5, bS5, dn5, df5, dx5, dp5, ds5, rfl, hR5, hre5, Nx, hsk5, hb5⟩;have B5 : Hid (Bq W1 w5) := B4.out.trans (hb5.mono B4.out.size);have HR5 : Hid (Go.Gs.Reach ns fs Z1 r5 ∧ overS r5 = true ∧ r5.sunk = SK) := ⟨hre5, Nx, hsk5⟩;unfold machV;obtain ⟨W6, hW6⟩ : ∃ z, z = w5.alloc (.cells #[.slice bn5 r5.ns.length dn5, .slice bf5 r5.fs.length df5, .slice bx5 r5.pipes.length dx5, .slice bp5 r5.ps.length dp5, .slice bS5 r5.sunk.length ds5] 30) := ⟨_, rfl⟩
 obtain ⟨BA, hBA⟩ : ∃ z, z = w5.heap.size := ⟨_, rfl⟩;have hbW : Bq w5 W6 := by rw [hW6]; exact b9
 have q5 : W6.heap[BA]? = some (.cells #[.slice bn5 r5.ns.length dn5, .slice bf5 r5.fs.length df5, .slice bx5 r5.pipes.length dx5, .slice bp5 r5.ps.length dp5, .slice bS5 r5.sunk.length ds5] 30 (0, 0)) := by rw [hW6, hBA]; exact heap_alloc_new _ _
 have hM6 : RMach W6 bn5 bf5 bx5 bp5 bS5 dn5 df5 dx5 dp5 ds5 r5 := hR5.below hbW;have K6 : Hid (∀ V, Bq W6 V → Bq W1 V ∧ V.heap[BA]? = some (.cells #[.slice bn5 r5.ns.length dn5, .slice bf5 r5.fs.length df5, .slice bx5 r5.pipes.length dx5, .slice bp5 r5.ps.length dp5, .slice bS5 r5.sunk.length ds5] 30 (0, 0)) ∧ RMach V bn5 bf5 bx5 bp5 bS5 dn5 df5 dx5 dp5 ds5 r5) := (show ∀ V, _ from fun V hV => ⟨B5.out.trans ((hbW.trans (hV.mono hbW.size)).mono B5.out.size), (hV.block _ (Array.getElem?_eq_some_iff.1 q5).1).trans q5, hM6.below hV⟩);clear hb5 HE4 B4 B5 hbW q5 hM6 hR5 hre5 Nx hsk5;go_upto_region 11 with fail;rw [← hW6, ← hBA];clear hW6 hBA;have k6 := (K6.out W6 (Below.refl _ _)).1;obtain ⟨g6, ⟨l0, l1, l2⟩, f0, n0, rn6⟩ := K1.out _ k6;have HE6 : Hid _ := HE3.out.2 W6 BG (BL + 1) cn1 an1 g6 rn6 n0 f0;clear g6 rn6 l0 l1 l2 f0 n0 k6 HE3;go_wp2_with fail;refine Calls.mono HE6.out ?_
 rintro e w7 ⟨r7, bn7, bf7, bx7, bp7, bS7, dn7, df7, dx7, dp7, ds7, rfl, hR7, hre7, hov7, hsk7, hb7⟩;have HR7 : Hid (r7.sunk = SK) := hsk7;unfold machV;obtain ⟨W8, hW8⟩ : ∃ z, z = w7.alloc (.cells #[.slice bn7 r7.ns.length dn7, .slice bf7 r7.fs.length df7, .slice bx7 r7.pipes.length dx7, .slice bp7 r7.ps.length dp7, .slice bS7 r7.sunk.length ds7] 30) := ⟨_, rfl⟩;obtain ⟨BB, hBB⟩ : ∃ z, z = w7.heap.size := ⟨_, rfl⟩;have hbW : Bq w7 W8 := by rw [hW8]; exact b9
 have Rn : Bq W6 W8 := hb7.trans (hbW.mono hb7.size);have q7 : W8.heap[BB]? = some (.cells #[.slice bn7 r7.ns.length dn7, .slice bf7 r7.fs.length df7, .slice bx7 r7.pipes.length dx7, .slice bp7 r7.ps.length dp7, .slice bS7 r7.sunk.length ds7] 30 (0, 0)) := by rw [hW8, hBB]; exact heap_alloc_new _ _
 have B8 : Hid (Bq W6 W8) := Rn
 have HEQ : Hid (Calls Tryz.prog 30 #[.slice bS5 r5.sunk.length ds5, .slice bS7 r7.sunk.length ds7] W8 fun e w' => e = .returned (.bool true) ∧ Bq W8 w') := (show Calls _ _ _ _ _ by
   have := Y2 bS5 bS7 ds5 ds7 r5.sunk r7.sunk W8 (K6.out W8 Rn).2.2.sunk (hR7.below hbW).sunk
   rw [decide_eq_true (HR5.out.2.2.trans HR7.out.symm)] at this
   exact this)
 have x5 := (j6 (K6.out W8 Rn).2.1).2.2.2.2.1;have x7 := (j6 q7).2.2.2.2.1;clear hb7 HE6 hbW Rn q7 hR7 hre7 hov7 hsk7 HR7;generalize r7.ns.length = P0 at *;generalize r7.fs.length = P1 at *;generalize r7.pipes.length = P2 at *;generalize r7.ps.length = P3 at *;generalize r7.sunk.length = P4 at *
 have Xi : Hid (∀ V, Bq W6 V → Calls Tryz.prog 24 #[.agg #[.slice bn5 r5.ns.length dn5, .slice bf5 r5.fs.length df5, .slice bx5 r5.pipes.length dx5, .slice bp5 r5.ps.length dp5, .slice bS5 r5.sunk.length ds5], .slice aq K cq] V fun e w' => ∃ bn bf bx bp bS dn df dx dp ds sa n sc, ∃ zs : List Int, e = .returned (.tuple #[.agg #[.slice bn r5.ns.length dn, .slice bf r5.fs.length df, .slice bx r5.pipes.length dx, .slice bp r5.ps.length dp, .slice bS r5.sunk.length ds], .slice sa n sc, .int .i64 0]) ∧ ac0 V.heap.size w' bn bf bx bp bS dn df dx dp ds r5 ∧ Reads w' (.slice sa n sc) n (Zs zs) ∧ (∀ z ∈ zs, z ≠ 0) ∧ Bq V w') := (show ∀ V, _ from fun V hV => HO3.out _ r5 HR5.out.1 HR5.out.2.1 V bn5 bf5 bx5 bp5 bS5 dn5 df5 dx5 dp5 ds5 (K1.out _ (K6.out V hV).1).1 (K6.out V hV).2.2)
 have HSM : Hid (∀ (V : World) (bn bf bx bp bS : Option Addr) (dn df dx dp ds : Nat), Bq W6 V → RMach V bn bf bx bp bS dn df dx dp ds r5 → Calls Tryz.prog 19 #[.agg #[.slice bn r5.ns.length dn, .slice bf r5.fs.length df, .slice bx r5.pipes.length dx, .slice bp r5.ps.length dp, .slice bS r5.sunk.length ds], .agg #[.slice bn5 r5.ns.length dn5, .slice bf5 r5.fs.length df5, .slice bx5 r5.pipes.length dx5, .slice bp5 r5.ps.length dp5, .slice bS5 r5.sunk.length ds5]] V fun e w' => e = .returned (.bool true) ∧ Bq V w') := (show ∀ (V : World) (bn bf bx bp bS : Option Addr) (dn df dx dp ds : Nat), _ from fun V bn bf bx bp bS dn df dx dp ds hV hM => aO2 bn bf bx bp bS bn5 bf5 bx5 bp5 bS5 dn df dx dp ds dn5 df5 dx5 dp5 ds5 r5 V hM (K6.out V hV).2.2);have HKW : Hid (∀ V, Bq W6 V → Bq w V) := (show ∀ V, _ from fun V hV => (K1.out _ (K6.out V hV).1).1)
 have HKA : Hid (∀ V, Bq W6 V → V.heap[BA]? = some (.cells #[.slice bn5 r5.ns.length dn5, .slice bf5 r5.fs.length df5, .slice bx5 r5.pipes.length dx5, .slice bp5 r5.ps.length dp5, .slice bS5 r5.sunk.length ds5] 30 (0, 0))) := (show ∀ V, _ from fun V hV => (K6.out V hV).2.1);clear HO3 K1 K6 HR5;go_upto_region 12 with fail;rw [← hW8, ← hBB];clear hW8 hBB;generalize hg0 : r5.ns.length = N0 at *;generalize hg1 : r5.fs.length = N1 at *;generalize hg2 : r5.pipes.length = N2 at *;generalize hg3 : r5.ps.length = N3 at *;generalize hg4 : r5.sunk.length = N4 at *;have Pm : Hid (N0 = r5.ns.length ∧ N1 = r5.fs.length ∧ N2 = r5.pipes.length ∧ N3 = r5.ps.length ∧ N4 = r5.sunk.length) := ⟨hg0.symm, hg1.symm, hg2.symm, hg3.symm, hg4.symm⟩;clear hg0 hg1 hg2 hg3 hg4;go_wp2_with fail;refine Calls.mono HEQ.out ?_;rintro e W9 ⟨rfl, hb9⟩;have B9 : Hid (Bq W6 W9) := B8.out.trans (hb9.mono B8.out.size)
 clear hb9 HEQ x5 x7 B8;go_upto_region 14 with fail;have Tv := HKA.out W9 B9.out;obtain ⟨x0, x1, x2, x3, x4, _⟩ := j6 Tv;have xA := fun o => j6 (HKA.out (W9.alloc o) (B9.out.trans (b9.mono B9.out.size)));have xA0 := fun o => (xA o).1;have xA1 := fun o => (xA o).2.1;have xA2 := fun o => (xA o).2.2.1;have xA3 := fun o => (xA o).2.2.2.1;have xA4 := fun o => (xA o).2.2.2.2.1;clear xA Tv
 have HRb : Hid (Calls Tryz.prog 24 #[.agg #[.slice bn5 N0 dn5, .slice bf5 N1 df5, .slice bx5 N2 dx5, .slice bp5 N3 dp5, .slice bS5 N4 ds5], .slice aq K cq] W9.drew fun e w' => ∃ bn bf bx bp bS dn df dx dp ds sa sn sc, ∃ zs : List Int, e = .returned (.tuple #[.agg #[.slice bn N0 dn, .slice bf N1 df, .slice bx N2 dx, .slice bp N3 dp, .slice bS N4 ds], .slice sa sn sc, .int .i64 0]) ∧ Hid (ac0 W9.heap.size w' bn bf bx bp bS dn df dx dp ds r5 ∧ Reads w' (.slice sa sn sc) sn (Zs zs) ∧ (∀ z ∈ zs, z ≠ 0) ∧ Bq W9 w')) := (show Calls _ _ _ _ _ by
   refine (Xi.out W9.drew (B9.out.trans ((Below.refl _ W9).drew.mono B9.out.size))).mono ?_
   rintro e w' ⟨bn, bf, bx, bp, bS, dn, df, dx, dp, ds, sa, sn, sc, zs, e1, e2, e3, e4, e5⟩
   exact ⟨bn, bf, bx, bp, bS, dn, df, dx, dp, ds, sa, sn, sc, zs, e1, e2, e3, e4, (Below.refl _ W9).drew.trans e5⟩)
 have HRa : Hid (Calls Tryz.prog 24 #[.agg #[.slice bn5 N0 dn5, .slice bf5 N1 df5, .slice bx5 N2 dx5, .slice bp5 N3 dp5, .slice bS5 N4 ds5], .slice aq K cq] (W9.alloc (.cells #[.slice none 0 0, .slice none 0 0, .slice none 0 0, .slice none 0 0, .slice none 0 0] 30)).drew fun e w' => ∃ bn bf bx bp bS dn df dx dp ds sa sn sc, ∃ zs : List Int, e = .returned (.tuple #[.agg #[.slice bn N0 dn, .slice bf N1 df, .slice bx N2 dx, .slice bp N3 dp, .slice bS N4 ds], .slice sa sn sc, .int .i64 0]) ∧ (w'.cell? ⟨W9.heap.size, 0, none⟩ = some (.slice none 0 0) ∧ w'.cell? ⟨W9.heap.size, 1, none⟩ = some (.slice none 0 0) ∧ w'.cell? ⟨W9.heap.size, 2, none⟩ = some (.slice none 0 0) ∧ w'.cell? ⟨W9.heap.size, 3, none⟩ = some (.slice none 0 0) ∧ w'.cell? ⟨W9.heap.size, 4, none⟩ = some (.slice none 0 0)) ∧ (w'.frozen? ⟨W9.heap.size, 0, none⟩ = false ∧ w'.frozen? ⟨W9.heap.size, 1, none⟩ = false ∧ w'.frozen? ⟨W9.heap.size, 2, none⟩ = false ∧ w'.frozen? ⟨W9.heap.size, 3, none⟩ = false ∧ w'.frozen? ⟨W9.heap.size, 4, none⟩ = false) ∧ Hid (ac0 (W9.heap.size + 1) w' bn bf bx bp bS dn df dx dp ds r5 ∧ Reads w' (.slice sa sn sc) sn (Zs zs) ∧ (∀ z ∈ zs, z ≠ 0) ∧ w'.heap[W9.heap.size]? = some (.cells #[.slice none 0 0, .slice none 0 0, .slice none 0 0, .slice none 0 0, .slice none 0 0] 30 (0, 0)) ∧ Bq W9 w')) := (show Calls _ _ _ _ _ by
   have hd : Bq W9 (W9.alloc (.cells #[.slice none 0 0, .slice none 0 0, .slice none 0 0, .slice none 0 0, .slice none 0 0] 30)).drew := b9.drew
   refine (Xi.out (W9.alloc (.cells #[.slice none 0 0, .slice none 0 0, .slice none 0 0, .slice none 0 0, .slice none 0 0] 30)).drew (B9.out.trans (hd.mono B9.out.size))).mono ?_
   rintro e w' ⟨bn, bf, bx, bp, bS, dn, df, dx, dp, ds, sa, sn, sc, zs, e1, e2, e3, e4, e5⟩
   have hr : w'.heap[W9.heap.size]? = some (.cells #[.slice none 0 0, .slice none 0 0, .slice none 0 0, .slice none 0 0, .slice none 0 0] 30 (0, 0)) := by rw [e5.block _ (by simp)]; exact heap_alloc_new W9 _
   obtain ⟨c0, c1, c2, c3, c4, cf⟩ := j6 hr
   exact ⟨bn, bf, bx, bp, bS, dn, df, dx, dp, ds, sa, sn, sc, zs, e1, ⟨c0, c1, c2, c3, c4⟩, ⟨cf 0, cf 1, cf 2, cf 3, cf 4⟩, (show ac0 _ _ _ _ _ _ _ _ _ _ _ _ _ ∧ _ from ⟨by simpa using e2, e3, e4, hr, hd.trans (e5.mono hd.size)⟩)⟩)
 clear Xi
 go_region_with (first
   | (go_at_call 24; refine Calls.mono HRb.out ?_; rintro e w10 ⟨bn, bf, bx, bp, bS, dn, df, dx, dp, ds, sa, sn, sc, zs, rfl, Pn⟩)
   | (go_at_call 24; refine Calls.mono HRa.out ?_; rintro e w10 ⟨bn, bf, bx, bp, bS, dn, df, dx, dp, ds, sa, sn, sc, zs, rfl, ⟨y0, y1, y2, y3, y4⟩, ⟨z0, z1, z2, z3, z4⟩, Pn⟩))
 all_goals
   clear x0 x1 x2 x3 x4 xA0 xA1 xA2 xA3 xA4 HRa HRb
   first
   | (have hy := y0
      obtain ⟨W11, hW⟩ : ∃ z, z = ((((w10.setCell ⟨W9.heap.size, 0, none⟩ (.slice bn N0 dn)).setCell ⟨W9.heap.size, 1, none⟩ (.slice bf N1 df)).setCell ⟨W9.heap.size, 2, none⟩ (.slice bx N2 dx)).setCell ⟨W9.heap.size, 3, none⟩ (.slice bp N3 dp)).setCell ⟨W9.heap.size, 4, none⟩ (.slice bS N4 ds) := ⟨_, rfl⟩
      obtain ⟨BC, hBC⟩ : ∃ z, z = W9.heap.size := ⟨_, rfl⟩
      have HC : Hid (RMach W11 bn bf bx bp bS dn df dx dp ds r5 ∧ Reads W11 (.slice sa sn sc) sn (Zs zs) ∧ (∀ z ∈ zs, z ≠ 0) ∧ Bq W6 W11 ∧ W11.heap[BC]? = some (.cells #[.slice bn N0 dn, .slice bf N1 df, .slice bx N2 dx, .slice bp N3 dp, .slice bS N4 ds] 30 (0, 0))) := by
        obtain ⟨n1, n2, n3, n4, n5⟩ := Pn.out
        have hB : Bq W6 w10 := B9.out.trans (n5.mono B9.out.size)
        have k1 := (L8 (b := W9.heap.size) n1 (Nat.lt_succ_self _) n4 (v0 := .slice bn N0 dn) (v1 := .slice bf N1 df) (v2 := .slice bx N2 dx) (v3 := .slice bp N3 dp) (v4 := .slice bS N4 ds) (by rw [Pm.out.1]) (by rw [Pm.out.2.1]) (by rw [Pm.out.2.2.1]) (by rw [Pm.out.2.2.2.1]) (by rw [Pm.out.2.2.2.2])).2.self
        rw [hW, hBC]
        exact ⟨k1, bK5 n2 (X := fun x => x = W9.heap.size) (fun x hx => by rw [hx]; exact ct6 n4) (fun k hk => aq1 hk), n3, D3 hB B9.out.size, S0 n4⟩
      clear hy y0 y1 y2 y3 y4 z0 z1 z2 z3 z4 Pn)
   | (obtain ⟨W11, hW⟩ : ∃ z, z = w10.alloc (.cells #[.slice bn N0 dn, .slice bf N1 df, .slice bx N2 dx, .slice bp N3 dp, .slice bS N4 ds] 30) := ⟨_, rfl⟩
      obtain ⟨BC, hBC⟩ : ∃ z, z = w10.heap.size := ⟨_, rfl⟩
      have HC : Hid (RMach W11 bn bf bx bp bS dn df dx dp ds r5 ∧ Reads W11 (.slice sa sn sc) sn (Zs zs) ∧ (∀ z ∈ zs, z ≠ 0) ∧ Bq W6 W11 ∧ W11.heap[BC]? = some (.cells #[.slice bn N0 dn, .slice bf N1 df, .slice bx N2 dx, .slice bp N3 dp, .slice bS N4 ds] 30 (0, 0))) := by
        obtain ⟨n1, n2, n3, n5⟩ := Pn.out
        have hB : Bq W6 w10 := B9.out.trans (n5.mono B9.out.size)
        rw [hW, hBC]
        exact ⟨n1.self.below b9, n2.below b9, n3, hB.trans (b9.mono hB.size), heap_alloc_new _ _⟩
      clear Pn)
   go_upto_region 15 with fail
   rw [← hW, ← hBC]
   clear hW hBC
   obtain ⟨m1, m2, m3, m4, m5⟩ := HC.out
   obtain ⟨u0, u1, u2, u3, u4, _⟩ := j6 m5
   obtain ⟨v0, v1, v2, v3, v4, _⟩ := j6 (HKA.out W11 m4)
   have HS : Hid _ := HSM.out W11 bn bf bx bp bS dn df dx dp ds m4 m1
   have HK : Hid (∀ V, Bq W11 V → Calls Tryz.prog 41 #[.slice sa sn sc, .int .i64 0] V fun e w' => e = .returned (.bool false) ∧ w' = V) := (show ∀ V, _ from fun V hV => bn2 sa sc sn zs V (m2.below hV) m3)
   have HW : Hid (∀ V, Bq W11 V → Bq w V) := (show ∀ V, _ from fun V hV => HKW.out V (m4.trans (hV.mono m4.size)))
   clear m1 m2 m3 m4 m5 HC HSM HKA HKW
   go_wp2_with fail
   refine Calls.mono HS.out ?_
   rintro e w12 ⟨rfl, Dq⟩
   have HK12 : Hid _ := HK.out w12 Dq
   have HW12 : Hid (Bq w w12) := HW.out w12 Dq
   clear Dq HK HW HS u0 u1 u2 u3 u4 v0 v1 v2 v3 v4
   go_wp2_with fail
   refine Calls.mono HK12.out ?_
   rintro e w13 ⟨rfl, rfl⟩
   go_wp2_with fail
   go_ret
   exact ⟨rfl, HW12.out⟩
theorem aX5 (W:World) (hE:t8 W) (hsh:W.ShapedOpen Tryz.prog) (l:SLine) (af ad:Option Addr) (cf cd:Nat) (hf:Reads W (.slice af l.fr.length cf) l.fr.length (l.fr.map S)) (hd:P6 W (.slice ad l.cs.length cd) l.cs) (Ad:Y5 l) (hzl:ad=none->cd=0) (wide:Int) (Ko:-9223372036854775808<=wide/\wide<=9223372036854775807) (ao:Option Addr) (cap:Nat) (fs:List SFile) (hfs:j9 W (.slice ao fs.length cap) fs) (hff:∀f∈fs,M3 f) (hz:ao=none->cap=0) (aq:Option Addr) (cq:Nat) (pk:List Int) (hq:Reads W (.slice aq pk.length cq) pk.length (pk.map (Value.int .i64))) (hpk:∀z∈pk,-9223372036854775808<=z/\z<=9223372036854775807) (ar:Option Addr) (cr:Nat) (ot:List Int) (ho:Reads W (.slice ar ot.length cr) ot.length (ot.map (Value.int .i64))) (hot:∀z∈ot,-9223372036854775808<=z/\z<=9223372036854775807) (room:Int) (Ag:-9223372036854775808<=room/\room<=9223372036854775807) :
 Calls Tryz.prog 9 #[.agg #[.slice af l.fr.length cf,.slice ad l.cs.length cd,.string ⟨l.tu.toArray⟩],.int .i64 wide,.slice ao fs.length cap,.slice aq pk.length cq,.slice ar ot.length cr,.int .i64 room] W fun e w'=>e=.returned (.bool true)/\Bq W w':=by
 by_cases h:(o4 l wide).2=0
 . exact cn5 l wide room fs pk ot af ad ao aq ar cf cd cap cq cr W hf hd Ad hfs hff hq ho Ag hE h
 . exact cb6 l wide room fs pk ot af ad ao aq ar cf cd cap cq cr W hf hd Ad hE h
end Go.Proofs.YtllgglolcgdehaaGreatDoor
