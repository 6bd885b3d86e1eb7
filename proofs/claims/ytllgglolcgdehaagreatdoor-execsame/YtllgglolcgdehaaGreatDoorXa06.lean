/- slices.Clone at nodes, ports, pipes, processes, files, lists of bytes, and more. -/
import Derived.Test.YtllgglolcgdehaaGreatDoorXa05
import Derived.Test.YtllgglolcgdehaaGreatDoorXa04
set_option maxRecDepth 100000
set_option maxHeartbeats 16000000
namespace Go.Proofs.YtllgglolcgdehaaGreatDoor
open Go.RowKit Go.Gs
set_option linter.unusedVariables false
theorem infoNodeE:(Tryz.prog.info? 73).map (fun i=>(i.zero,i.size,i.bytes))=some (some (.agg #[.int .i64 0,.string ⟨#[]⟩,.int .i64 0,.string ⟨#[]⟩,.int .i64 0,.int .i64 0,.int .i64 0,.slice none 0 0]),8,96):=by kernel_rfl
theorem cloneNode_is (ao:Option Addr) (N c:Nat) (xs:List Value) (w:World) (hl:xs.length=N*8) (hn:N<=100000) (h0:ao=none->N=0) (hc:∀a,ao=some a -> ∀j u,xs[j]? = some u->w.cell? (a.add j)=some u) (h1:∀u∈xs,u.oneCell'=true) :
 Calls Tryz.prog 122 #[.slice ao N c] w fun e w'=>∃v',e=.returned v'/\w'.ownsRow w.heap.size 73 8 v' N xs/\Below w.heap.size w w':=by
 obtain⟨i0,hi,hi0,hi1,hi2⟩:=info_parts infoNodeE
 have hq:∀(w:World) (a:Option Addr) (n c n' c':Nat),(binOp .eql 22 (.slice a n c) (.slice none n' c')).run Tryz.prog w=.ok (.bool a.isNone) w:=fun w a n c n' c'=>Lib.run_eql_slice_nil w _ _ a n c n' c' Tryz.underlying22
 have HC:Hid _:=hc
 have H1:Hid _:=h1
 have HL:Hid _:=hl
 have H0:Hid _:=h0
 clear hc h1 hl h0
 cases ao with
 | none=>
  obtain rfl:=H0.out rfl
  have hx:xs=[]:=List.eq_nil_of_length_eq_zero (by have:=HL.out;omega)
  have HX:Hid (xs=[]):=hx
  go_enter Tryz.func122,Tryz.ntmps122
  go_wp2_with fail
  go_ret
  exact⟨_,rfl,by first | exact World.ownsRow_nil _ _ _ _ | (rw[HX.out];exact World.ownsRow_nil _ _ _ _),Below.refl _ _⟩
 | some a=>
  go_enter Tryz.func122,Tryz.ntmps122
  go_wp2_with (at_builtin;refine wpList_append_own _ rfl _ _ 22 rfl w.heap.size 73 i0 (.agg #[.int .i64 0,.string ⟨#[]⟩,.int .i64 0,.string ⟨#[]⟩,.int .i64 0,.int .i64 0,.int .i64 0,.slice none 0 0]) 8 96 Tryz.underlying22 hi hi0 hi1 hi2 rfl (by decide) _ _ _ rfl (World.ownsRow_made w #[] 0 (Nat.le_refl _) (Nat.zero_le _) rfl) a N c xs rfl ?qc1 ?qc2 ?qc3 ?qc4 ?qc5 ?qc6 ?_)
  case qc1=>exact HL.out
  case qc2=>
   intro j u hj
   have h:=HC.out a rfl j u hj
   rw[boxE.cell (bLt w _ h)]
   exact h
  case qc3=>exact H1.out
  case qc4=>unfold maxLen;omega
  case qc5=>omega
  all_goals try (case qc6=>simp)
  .
   intro v' w1 hown hg hnil
   have HB:Hid (Below w.heap.size w w1):=boxE.grown hg (by simp) (fun k hk=>by injection hk with hk;subst hk;exact Nat.le_refl _)
   have HO:Hid (w1.ownsRow w.heap.size 73 8 v' N xs):=(show w1.ownsRow w.heap.size 73 8 v' N xs by simpa using hown)
   clear hown hg hnil
   go_wp2
   go_ret
   exact⟨v',rfl,HO.out,HB.out⟩
theorem infoPortE:(Tryz.prog.info? 79).map (fun i=>(i.zero,i.size,i.bytes))=some (some (.agg #[.int .i64 0,.int .i64 0]),2,16):=by kernel_rfl
theorem clonePort_is (ao:Option Addr) (N c:Nat) (xs:List Value) (w:World) (hl:xs.length=N*2) (hn:N<=100000) (h0:ao=none->N=0) (hc:∀a,ao=some a -> ∀j u,xs[j]? = some u->w.cell? (a.add j)=some u) (h1:∀u∈xs,u.oneCell'=true) :
 Calls Tryz.prog 123 #[.slice ao N c] w fun e w'=>∃v',e=.returned v'/\w'.ownsRow w.heap.size 79 2 v' N xs/\Below w.heap.size w w':=by
 obtain⟨i0,hi,hi0,hi1,hi2⟩:=info_parts infoPortE
 have hq:∀(w:World) (a:Option Addr) (n c n' c':Nat),(binOp .eql 71 (.slice a n c) (.slice none n' c')).run Tryz.prog w=.ok (.bool a.isNone) w:=fun w a n c n' c'=>Lib.run_eql_slice_nil w _ _ a n c n' c' Tryz.underlying71
 have HC:Hid _:=hc
 have H1:Hid _:=h1
 have HL:Hid _:=hl
 have H0:Hid _:=h0
 clear hc h1 hl h0
 cases ao with
 | none=>
  obtain rfl:=H0.out rfl
  have hx:xs=[]:=List.eq_nil_of_length_eq_zero (by have:=HL.out;omega)
  have HX:Hid (xs=[]):=hx
  go_enter Tryz.func123,Tryz.ntmps123
  go_wp2_with fail
  go_ret
  exact⟨_,rfl,by first | exact World.ownsRow_nil _ _ _ _ | (rw[HX.out];exact World.ownsRow_nil _ _ _ _),Below.refl _ _⟩
 | some a=>
  go_enter Tryz.func123,Tryz.ntmps123
  go_wp2_with (at_builtin;refine wpList_append_own _ rfl _ _ 71 rfl w.heap.size 79 i0 (.agg #[.int .i64 0,.int .i64 0]) 2 16 Tryz.underlying71 hi hi0 hi1 hi2 rfl (by decide) _ _ _ rfl (World.ownsRow_made w #[] 0 (Nat.le_refl _) (Nat.zero_le _) rfl) a N c xs rfl ?qc1 ?qc2 ?qc3 ?qc4 ?qc5 ?qc6 ?_)
  case qc1=>exact HL.out
  case qc2=>
   intro j u hj
   have h:=HC.out a rfl j u hj
   rw[boxE.cell (bLt w _ h)]
   exact h
  case qc3=>exact H1.out
  case qc4=>unfold maxLen;omega
  case qc5=>omega
  all_goals try (case qc6=>simp)
  .
   intro v' w1 hown hg hnil
   have HB:Hid (Below w.heap.size w w1):=boxE.grown hg (by simp) (fun k hk=>by injection hk with hk;subst hk;exact Nat.le_refl _)
   have HO:Hid (w1.ownsRow w.heap.size 79 2 v' N xs):=(show w1.ownsRow w.heap.size 79 2 v' N xs by simpa using hown)
   clear hown hg hnil
   go_wp2
   go_ret
   exact⟨v',rfl,HO.out,HB.out⟩
theorem infoPipeE:(Tryz.prog.info? 66).map (fun i=>(i.zero,i.size,i.bytes))=some (some (.agg #[.slice none 0 0,.int .i64 0,.bool false,.bool false]),4,40):=by kernel_rfl
theorem clonePipe_is (ao:Option Addr) (N c:Nat) (xs:List Value) (w:World) (hl:xs.length=N*4) (hn:N<=100000) (h0:ao=none->N=0) (hc:∀a,ao=some a -> ∀j u,xs[j]? = some u->w.cell? (a.add j)=some u) (h1:∀u∈xs,u.oneCell'=true) :
 Calls Tryz.prog 126 #[.slice ao N c] w fun e w'=>∃v',e=.returned v'/\w'.ownsRow w.heap.size 66 4 v' N xs/\Below w.heap.size w w':=by
 obtain⟨i0,hi,hi0,hi1,hi2⟩:=info_parts infoPipeE
 have hq:∀(w:World) (a:Option Addr) (n c n' c':Nat),(binOp .eql 26 (.slice a n c) (.slice none n' c')).run Tryz.prog w=.ok (.bool a.isNone) w:=fun w a n c n' c'=>Lib.run_eql_slice_nil w _ _ a n c n' c' Tryz.underlying26
 have HC:Hid _:=hc
 have H1:Hid _:=h1
 have HL:Hid _:=hl
 have H0:Hid _:=h0
 clear hc h1 hl h0
 cases ao with
 | none=>
  obtain rfl:=H0.out rfl
  have hx:xs=[]:=List.eq_nil_of_length_eq_zero (by have:=HL.out;omega)
  have HX:Hid (xs=[]):=hx
  go_enter Tryz.func126,Tryz.ntmps126
  go_wp2_with fail
  go_ret
  exact⟨_,rfl,by first | exact World.ownsRow_nil _ _ _ _ | (rw[HX.out];exact World.ownsRow_nil _ _ _ _),Below.refl _ _⟩
 | some a=>
  go_enter Tryz.func126,Tryz.ntmps126
  go_wp2_with (at_builtin;refine wpList_append_own _ rfl _ _ 26 rfl w.heap.size 66 i0 (.agg #[.slice none 0 0,.int .i64 0,.bool false,.bool false]) 4 40 Tryz.underlying26 hi hi0 hi1 hi2 rfl (by decide) _ _ _ rfl (World.ownsRow_made w #[] 0 (Nat.le_refl _) (Nat.zero_le _) rfl) a N c xs rfl ?qc1 ?qc2 ?qc3 ?qc4 ?qc5 ?qc6 ?_)
  case qc1=>exact HL.out
  case qc2=>
   intro j u hj
   have h:=HC.out a rfl j u hj
   rw[boxE.cell (bLt w _ h)]
   exact h
  case qc3=>exact H1.out
  case qc4=>unfold maxLen;omega
  case qc5=>omega
  all_goals try (case qc6=>simp)
  .
   intro v' w1 hown hg hnil
   have HB:Hid (Below w.heap.size w w1):=boxE.grown hg (by simp) (fun k hk=>by injection hk with hk;subst hk;exact Nat.le_refl _)
   have HO:Hid (w1.ownsRow w.heap.size 66 4 v' N xs):=(show w1.ownsRow w.heap.size 66 4 v' N xs by simpa using hown)
   clear hown hg hnil
   go_wp2
   go_ret
   exact⟨v',rfl,HO.out,HB.out⟩
theorem infoProcE:(Tryz.prog.info? 76).map (fun i=>(i.zero,i.size,i.bytes))=some (some (.agg #[.slice none 0 0,.int .i64 0,.slice none 0 0,.bool false,.bool false]),5,64):=by kernel_rfl
theorem cloneProc_is (ao:Option Addr) (N c:Nat) (xs:List Value) (w:World) (hl:xs.length=N*5) (hn:N<=100000) (h0:ao=none->N=0) (hc:∀a,ao=some a -> ∀j u,xs[j]? = some u->w.cell? (a.add j)=some u) (h1:∀u∈xs,u.oneCell'=true) :
 Calls Tryz.prog 127 #[.slice ao N c] w fun e w'=>∃v',e=.returned v'/\w'.ownsRow w.heap.size 76 5 v' N xs/\Below w.heap.size w w':=by
 obtain⟨i0,hi,hi0,hi1,hi2⟩:=info_parts infoProcE
 have hq:∀(w:World) (a:Option Addr) (n c n' c':Nat),(binOp .eql 27 (.slice a n c) (.slice none n' c')).run Tryz.prog w=.ok (.bool a.isNone) w:=fun w a n c n' c'=>Lib.run_eql_slice_nil w _ _ a n c n' c' Tryz.underlying27
 have HC:Hid _:=hc
 have H1:Hid _:=h1
 have HL:Hid _:=hl
 have H0:Hid _:=h0
 clear hc h1 hl h0
 cases ao with
 | none=>
  obtain rfl:=H0.out rfl
  have hx:xs=[]:=List.eq_nil_of_length_eq_zero (by have:=HL.out;omega)
  have HX:Hid (xs=[]):=hx
  go_enter Tryz.func127,Tryz.ntmps127
  go_wp2_with fail
  go_ret
  exact⟨_,rfl,by first | exact World.ownsRow_nil _ _ _ _ | (rw[HX.out];exact World.ownsRow_nil _ _ _ _),Below.refl _ _⟩
 | some a=>
  go_enter Tryz.func127,Tryz.ntmps127
  go_wp2_with (at_builtin;refine wpList_append_own _ rfl _ _ 27 rfl w.heap.size 76 i0 (.agg #[.slice none 0 0,.int .i64 0,.slice none 0 0,.bool false,.bool false]) 5 64 Tryz.underlying27 hi hi0 hi1 hi2 rfl (by decide) _ _ _ rfl (World.ownsRow_made w #[] 0 (Nat.le_refl _) (Nat.zero_le _) rfl) a N c xs rfl ?qc1 ?qc2 ?qc3 ?qc4 ?qc5 ?qc6 ?_)
  case qc1=>exact HL.out
  case qc2=>
   intro j u hj
   have h:=HC.out a rfl j u hj
   rw[boxE.cell (bLt w _ h)]
   exact h
  case qc3=>exact H1.out
  case qc4=>unfold maxLen;omega
  case qc5=>omega
  all_goals try (case qc6=>simp)
  .
   intro v' w1 hown hg hnil
   have HB:Hid (Below w.heap.size w w1):=boxE.grown hg (by simp) (fun k hk=>by injection hk with hk;subst hk;exact Nat.le_refl _)
   have HO:Hid (w1.ownsRow w.heap.size 76 5 v' N xs):=(show w1.ownsRow w.heap.size 76 5 v' N xs by simpa using hown)
   clear hown hg hnil
   go_wp2
   go_ret
   exact⟨v',rfl,HO.out,HB.out⟩
theorem infoFileE:(Tryz.prog.info? 83).map (fun i=>(i.zero,i.size,i.bytes))=some (some (.agg #[.string ⟨#[]⟩,.slice none 0 0]),2,40):=by kernel_rfl
theorem cloneFile_is (ao:Option Addr) (N c:Nat) (xs:List Value) (w:World) (hl:xs.length=N*2) (hn:N<=100000) (h0:ao=none->N=0) (hc:∀a,ao=some a -> ∀j u,xs[j]? = some u->w.cell? (a.add j)=some u) (h1:∀u∈xs,u.oneCell'=true) :
 Calls Tryz.prog 124 #[.slice ao N c] w fun e w'=>∃v',e=.returned v'/\w'.ownsRow w.heap.size 83 2 v' N xs/\Below w.heap.size w w':=by
 obtain⟨i0,hi,hi0,hi1,hi2⟩:=info_parts infoFileE
 have hq:∀(w:World) (a:Option Addr) (n c n' c':Nat),(binOp .eql 25 (.slice a n c) (.slice none n' c')).run Tryz.prog w=.ok (.bool a.isNone) w:=fun w a n c n' c'=>Lib.run_eql_slice_nil w _ _ a n c n' c' Tryz.underlying25
 have HC:Hid _:=hc
 have H1:Hid _:=h1
 have HL:Hid _:=hl
 have H0:Hid _:=h0
 clear hc h1 hl h0
 cases ao with
 | none=>
  obtain rfl:=H0.out rfl
  have hx:xs=[]:=List.eq_nil_of_length_eq_zero (by have:=HL.out;omega)
  have HX:Hid (xs=[]):=hx
  go_enter Tryz.func124,Tryz.ntmps124
  go_wp2_with fail
  go_ret
  exact⟨_,rfl,by first | exact World.ownsRow_nil _ _ _ _ | (rw[HX.out];exact World.ownsRow_nil _ _ _ _),Below.refl _ _⟩
 | some a=>
  go_enter Tryz.func124,Tryz.ntmps124
  go_wp2_with (at_builtin;refine wpList_append_own _ rfl _ _ 25 rfl w.heap.size 83 i0 (.agg #[.string ⟨#[]⟩,.slice none 0 0]) 2 40 Tryz.underlying25 hi hi0 hi1 hi2 rfl (by decide) _ _ _ rfl (World.ownsRow_made w #[] 0 (Nat.le_refl _) (Nat.zero_le _) rfl) a N c xs rfl ?qc1 ?qc2 ?qc3 ?qc4 ?qc5 ?qc6 ?_)
  case qc1=>exact HL.out
  case qc2=>
   intro j u hj
   have h:=HC.out a rfl j u hj
   rw[boxE.cell (bLt w _ h)]
   exact h
  case qc3=>exact H1.out
  case qc4=>unfold maxLen;omega
  case qc5=>omega
  all_goals try (case qc6=>simp)
  .
   intro v' w1 hown hg hnil
   have HB:Hid (Below w.heap.size w w1):=boxE.grown hg (by simp) (fun k hk=>by injection hk with hk;subst hk;exact Nat.le_refl _)
   have HO:Hid (w1.ownsRow w.heap.size 83 2 v' N xs):=(show w1.ownsRow w.heap.size 83 2 v' N xs by simpa using hown)
   clear hown hg hnil
   go_wp2
   go_ret
   exact⟨v',rfl,HO.out,HB.out⟩
theorem infoListE:(Tryz.prog.info? 28).map (fun i=>(i.zero,i.size,i.bytes))=some (some (.slice none 0 0),1,24):=by kernel_rfl
theorem cloneList_is (ao:Option Addr) (N c:Nat) (xs:List Value) (w:World) (hl:xs.length=N*1) (hn:N<=100000) (h0:ao=none->N=0) (hc:∀a,ao=some a -> ∀j u,xs[j]? = some u->w.cell? (a.add j)=some u) (h1:∀u∈xs,u.oneCell'=true) :
 Calls Tryz.prog 171 #[.slice ao N c] w fun e w'=>∃v',e=.returned v'/\w'.ownsRow w.heap.size 28 1 v' N xs/\Below w.heap.size w w':=by
 obtain⟨i0,hi,hi0,hi1,hi2⟩:=info_parts infoListE
 have hq:∀(w:World) (a:Option Addr) (n c n' c':Nat),(binOp .eql 74 (.slice a n c) (.slice none n' c')).run Tryz.prog w=.ok (.bool a.isNone) w:=fun w a n c n' c'=>Lib.run_eql_slice_nil w _ _ a n c n' c' Tryz.underlying74
 have HC:Hid _:=hc
 have H1:Hid _:=h1
 have HL:Hid _:=hl
 have H0:Hid _:=h0
 clear hc h1 hl h0
 cases ao with
 | none=>
  obtain rfl:=H0.out rfl
  have hx:xs=[]:=List.eq_nil_of_length_eq_zero (by have:=HL.out;omega)
  have HX:Hid (xs=[]):=hx
  go_enter Tryz.func171,Tryz.ntmps171
  go_wp2_with fail
  go_ret
  exact⟨_,rfl,by first | exact World.ownsRow_nil _ _ _ _ | (rw[HX.out];exact World.ownsRow_nil _ _ _ _),Below.refl _ _⟩
 | some a=>
  go_enter Tryz.func171,Tryz.ntmps171
  go_wp2_with (at_builtin;refine wpList_append_own _ rfl _ _ 74 rfl w.heap.size 28 i0 (.slice none 0 0) 1 24 Tryz.underlying74 hi hi0 hi1 hi2 rfl (by decide) _ _ _ rfl (World.ownsRow_made w #[] 0 (Nat.le_refl _) (Nat.zero_le _) rfl) a N c xs rfl ?qc1 ?qc2 ?qc3 ?qc4 ?qc5 ?qc6 ?_)
  case qc1=>exact HL.out
  case qc2=>
   intro j u hj
   have h:=HC.out a rfl j u hj
   rw[boxE.cell (bLt w _ h)]
   exact h
  case qc3=>exact H1.out
  case qc4=>unfold maxLen;omega
  case qc5=>omega
  all_goals try (case qc6=>simp)
  .
   intro v' w1 hown hg hnil
   have HB:Hid (Below w.heap.size w w1):=boxE.grown hg (by simp) (fun k hk=>by injection hk with hk;subst hk;exact Nat.le_refl _)
   have HO:Hid (w1.ownsRow w.heap.size 28 1 v' N xs):=(show w1.ownsRow w.heap.size 28 1 v' N xs by simpa using hown)
   clear hown hg hnil
   go_wp2
   go_ret
   exact⟨v',rfl,HO.out,HB.out⟩
theorem infoByteE:(Tryz.prog.info? 5).map (fun i=>(i.zero,i.size,i.bytes))=some (some (.int .u8 0),1,1):=by kernel_rfl
theorem cloneByte_is (ao:Option Addr) (N c:Nat) (xs:List Value) (w:World) (hl:xs.length=N*1) (hn:N<=100000) (h0:ao=none->N=0) (hc:∀a,ao=some a -> ∀j u,xs[j]? = some u->w.cell? (a.add j)=some u) (h1:∀u∈xs,u.oneCell'=true) :
 Calls Tryz.prog 125 #[.slice ao N c] w fun e w'=>∃v',e=.returned v'/\w'.ownsRow w.heap.size 5 1 v' N xs/\Below w.heap.size w w':=by
 obtain⟨i0,hi,hi0,hi1,hi2⟩:=info_parts infoByteE
 have hq:∀(w:World) (a:Option Addr) (n c n' c':Nat),(binOp .eql 28 (.slice a n c) (.slice none n' c')).run Tryz.prog w=.ok (.bool a.isNone) w:=fun w a n c n' c'=>Lib.run_eql_slice_nil w _ _ a n c n' c' Tryz.underlying28
 have HC:Hid _:=hc
 have H1:Hid _:=h1
 have HL:Hid _:=hl
 have H0:Hid _:=h0
 clear hc h1 hl h0
 cases ao with
 | none=>
  obtain rfl:=H0.out rfl
  have hx:xs=[]:=List.eq_nil_of_length_eq_zero (by have:=HL.out;omega)
  have HX:Hid (xs=[]):=hx
  go_enter Tryz.func125,Tryz.ntmps125
  go_wp2_with fail
  go_ret
  exact⟨_,rfl,by first | exact World.ownsRow_nil _ _ _ _ | (rw[HX.out];exact World.ownsRow_nil _ _ _ _),Below.refl _ _⟩
 | some a=>
  go_enter Tryz.func125,Tryz.ntmps125
  go_wp2_with (at_builtin;refine wpList_append_own _ rfl _ _ 28 rfl w.heap.size 5 i0 (.int .u8 0) 1 1 Tryz.underlying28 hi hi0 hi1 hi2 rfl (by decide) _ _ _ rfl (World.ownsRow_made w #[] 0 (Nat.le_refl _) (Nat.zero_le _) rfl) a N c xs rfl ?qc1 ?qc2 ?qc3 ?qc4 ?qc5 ?qc6 ?_)
  case qc1=>exact HL.out
  case qc2=>
   intro j u hj
   have h:=HC.out a rfl j u hj
   rw[boxE.cell (bLt w _ h)]
   exact h
  case qc3=>exact H1.out
  case qc4=>unfold maxLen;omega
  case qc5=>omega
  all_goals try (case qc6=>simp)
  .
   intro v' w1 hown hg hnil
   have HB:Hid (Below w.heap.size w w1):=boxE.grown hg (by simp) (fun k hk=>by injection hk with hk;subst hk;exact Nat.le_refl _)
   have HO:Hid (w1.ownsRow w.heap.size 5 1 v' N xs):=(show w1.ownsRow w.heap.size 5 1 v' N xs by simpa using hown)
   clear hown hg hnil
   go_wp2
   go_ret
   exact⟨v',rfl,HO.out,HB.out⟩
theorem pck_range {n:Nat} {room:Int} {sh:Bool} (h:room<0\/1000<room):pck n room sh=3:=by unfold pck;rw[if_pos h]
theorem pck_many {n:Nat} {room:Int} {sh:Bool} (h:¬(room<0\/1000<room)) (h2:plim room<(n:Int)):pck n room sh=2:=by unfold pck;rw[if_neg h,if_pos h2]
theorem pck_form {n:Nat} {room:Int} (h:¬(room<0\/1000<room)) (h2:¬plim room<(n:Int)) (h3:0<n):pck n room true=4:=by unfold pck;rw[if_neg h,if_neg h2,if_pos ⟨rfl,h3⟩]
theorem pck_none {n:Nat} {room:Int} (h:¬(room<0\/1000<room)) (h2:¬plim room<(n:Int)) (h3:¬0<n):pck n room true=0:=by unfold pck;rw[if_neg h,if_neg h2,if_neg (fun h=>h3 h.2)]
theorem pck_open {n:Nat} {room:Int} (h:¬(room<0\/1000<room)) (h2:¬plim room<(n:Int)):pck n room false=0:=by unfold pck;rw[if_neg h,if_neg h2,if_neg (fun h=>by cases h.1)]
theorem limit_is (ab:Option Addr) (n cap:Nat) (room:Int) (cl sh:Bool) (w:World) :
 Calls Tryz.prog 102 #[.agg #[.slice ab n cap,.int .i64 room,.bool cl,.bool sh]] w fun e w'=>e=.returned (.int .i64 (plim room))/\Below w.heap.size w w':=by
 by_cases h:room=0
 .
  subst h
  go_enter Tryz.func102,Tryz.ntmps102
  go_wp2_with fail
  go_ret
  exact⟨rfl,boxrP⟩
 .
  have HP:Hid (plim room=room):=(show _=_ by unfold plim;rw[if_neg h])
  go_enter Tryz.func102,Tryz.ntmps102
  go_wp2_with fail
  go_ret
  exact⟨by rw[HP.out];rfl,boxrP⟩
theorem pcheck_is (ab:Option Addr) (n cap:Nat) (room:Int) (cl sh:Bool) (w:World) (hn:n<=9223372036854775807) :
 Calls Tryz.prog 37 #[.agg #[.slice ab n cap,.int .i64 room,.bool cl,.bool sh]] w fun e w'=>e=.returned (.int .i64 (pck n room sh))/\Below w.heap.size w w':=by
 by_cases hr:room<0\/1000<room
 .
  have HP:Hid (pck n room sh=3):=pck_range hr
  by_cases h0:room<0
  . go_enter Tryz.func37,Tryz.ntmps37
    go_wp2_with fail
    go_ret
    exact⟨by rw[HP.out];rfl,boxrP⟩
  . have h1:1000<room:=by omega
    go_enter Tryz.func37,Tryz.ntmps37
    go_wp2_with fail
    go_ret
    exact⟨by rw[HP.out];rfl,boxrP⟩
 .
  have h0:¬room<0:=by omega
  have h1:¬1000<room:=by omega
  have HO:Hid _:=fun (W:World)=>limit_is ab n cap room cl sh W
  obtain⟨L,hL⟩:∃L,L=plim room:=⟨_,rfl⟩
  have HL:Hid (L=plim room):=hL
  obtain⟨W,hW⟩:∃W,W=w.alloc (.cells #[.slice ab n cap,.int .i64 room,.bool cl,.bool sh] 66):=⟨_,rfl⟩
  have HW:Hid (Below w.heap.size w W):=(show Below _ _ _ by rw[hW];exact boxrP)
  have c0:W.cell? ⟨w.heap.size,0,none⟩=some (.slice ab n cap):=by rw[hW,cell_of_row _ _ _ _ _ _ (heap_alloc_new w _)];rfl
  have c1:W.cell? ⟨w.heap.size,1,none⟩=some (.int .i64 room):=by rw[hW,cell_of_row _ _ _ _ _ _ (heap_alloc_new w _)];rfl
  have c2:W.cell? ⟨w.heap.size,2,none⟩=some (.bool cl):=by rw[hW,cell_of_row _ _ _ _ _ _ (heap_alloc_new w _)];rfl
  have c3:W.cell? ⟨w.heap.size,3,none⟩=some (.bool sh):=by rw[hW,cell_of_row _ _ _ _ _ _ (heap_alloc_new w _)];rfl
  have k0:=fun d os=>cell_regrown c0 d os
  have k1:=fun d os=>cell_regrown c1 d os
  have k2:=fun d os=>cell_regrown c2 d os
  have k3:=fun d os=>cell_regrown c3 d os
  have cF:∀d os,Calls Tryz.prog 102 #[.agg #[.slice ab n cap,.int .i64 room,.bool cl,.bool sh]] (Go.Sort.grow (redrawn W d) os) fun e w''=>e=.returned (.int .i64 L) /\ ∃p:Regrown,w''=Go.Sort.grow (redrawn W p.d) p.os:=fun d os=>Calls.regrown_of (by rw[hL];exact HO.out _)
  rw[<- hL] at HO
  go_enter Tryz.func37,Tryz.ntmps37
  go_upto_region 3 with fail
  rw[<- hW]
  clear hW hL HO c0 c1 c2 c3
  refine wp_region_quiet_below (by kernel_rfl) (by kernel_rfl) ?_
  repeat (first | go_big_quiet_step (exact cF _ _) | quiet_step (exact cF _ _))
  refine wpQuiet_nil ?_
  intro _ hw'
  obtain⟨⟨dq,osq⟩,hw''⟩:=hw'
  subst hw''
  have q0:=k0 dq osq
  have q3:=k3 dq osq
  have HB3:Hid (Below w.heap.size w (Go.Sort.grow (redrawn W dq) osq)):=HW.out.trans ((below_regrown W dq osq).mono HW.out.size)
  clear cF k0 k1 k2 k3 HW
  generalize (Go.Sort.grow (redrawn W dq) osq)=w3 at *
  by_cases h2:L<(n:Int)
  . have HP:Hid (pck n room sh=2):=pck_many hr (by rw[<- HL.out];exact h2)
    clear hr
    go_wp2_with fail
    go_ret
    exact⟨by rw[HP.out];rfl,HB3.out⟩
  .
   have h2':¬plim room<(n:Int):=by rw[<- HL.out];exact h2
   cases sh with
   | false=>
    have HP:Hid (pck n room false=0):=pck_open hr h2'
    clear hr h2'
    go_wp2_with fail
    go_ret
    exact⟨by rw[HP.out];rfl,HB3.out⟩
   | true=>
    by_cases h3:0<n
    . have HP:Hid (pck n room true=4):=pck_form hr h2' h3
      clear hr h2'
      go_wp2_with fail
      go_ret
      exact⟨by rw[HP.out];rfl,HB3.out⟩
    . have HP:Hid (pck n room true=0):=pck_none hr h2' h3
      clear hr h2'
      go_wp2_with fail
      go_ret
      exact⟨by rw[HP.out];rfl,HB3.out⟩
def pckO (n:Nat) (room:Int) (cl sh:Bool):Int:=if pck n room sh≠0 then pck n room sh else if cl=true then 7 else 0
theorem checkOpen_is (ab:Option Addr) (n cap:Nat) (room:Int) (cl sh:Bool) (w:World) (hn:n<=9223372036854775807) :
 Calls Tryz.prog 232 #[.agg #[.slice ab n cap,.int .i64 room,.bool cl,.bool sh]] w fun e w'=>e=.returned (.int .i64 (pckO n room cl sh))/\Below w.heap.size w w':=by
 have HO:Hid _:=fun (W:World)=>pcheck_is ab n cap room cl sh W hn
 obtain⟨L,hL⟩:∃L,L=pck n room sh:=⟨_,rfl⟩
 have HP:Hid (pckO n room cl sh=if L≠0 then L else if cl=true then 7 else 0):=(show _=_ by rw[hL];rfl)
 rw[<- hL] at HO
 clear hL
 go_enter Tryz.func232,Tryz.ntmps232
 go_wp2_with fail
 refine (HO.out _).mono ?_
 rintro e w1 ⟨rfl,hb1⟩
 have hx:=box4P hb1
 have q2:w1.cell? ⟨w.heap.size,2,none⟩=some (.bool cl):=by rw[cell_of_row _ _ _ _ _ _ hx];rfl
 have HB:Hid (Below w.heap.size w w1):=boxrP.trans (hb1.mono boxrP.size)
 clear hb1 hx HO
 by_cases h0:L=0
 .
  subst h0
  cases cl with
  | true=>
   go_wp2_with fail
   go_ret
   exact⟨by rw[HP.out];rfl,HB.out⟩
  | false=>
   go_wp2_with fail
   go_ret
   exact⟨by rw[HP.out];rfl,HB.out⟩
 .
  have HP2:Hid (pckO n room cl sh=L):=(show _=_ by rw[HP.out,if_pos h0])
  clear HP
  go_wp2_with fail
  go_ret
  exact⟨by rw[HP2.out];rfl,HB.out⟩
theorem pover_is (ab:Option Addr) (n cap:Nat) (room:Int) (cl sh:Bool) (w:World) :
 Calls Tryz.prog 168 #[.agg #[.slice ab n cap,.int .i64 room,.bool cl,.bool sh]] w fun e w'=>e=.returned (.bool (cl && decide (n=0)))/\Below w.heap.size w w':=by
 cases cl with
 | false=>
  go_enter Tryz.func168,Tryz.ntmps168
  go_wp2_with fail
  go_ret
  exact⟨rfl,boxrP⟩
 | true=>
  by_cases h0:n=0
  . subst h0
    go_enter Tryz.func168,Tryz.ntmps168
    go_wp2_with fail
    go_ret
    exact⟨rfl,boxrP⟩
  .
   have HD:Hid (decide (n=0)=false):=decide_eq_false h0
   go_enter Tryz.func168,Tryz.ntmps168
   go_wp2_with fail
   go_ret
   refine⟨?_,boxrP⟩
   show Ending.returned (.bool ((n:Int) == 0))=_
   rw[HD.out,show ((n:Int) == 0)=false by simpa using h0]
   rfl
theorem pnew_bad {room:Int} (h:pck 0 room false≠0):pnew room=(zeroP,pck 0 room false):=by
 by_cases hr:room<0\/1000<room
 . rw[pck_range hr];unfold pnew;rw[if_pos hr]
 . refine absurd (pck_open hr ?_) h
   unfold plim
   split <;> omega
theorem pnew_ok {room:Int} (h:pck 0 room false=0):pnew room=(⟨[],room,false,false⟩,0):=by
 have:=pck_ok h
 unfold pnew
 rw[if_neg (by omega)]
theorem pshut_bad {p:SPipe} (h:pchk p≠0):pshut p=(zeroP,pchk p):=by unfold pshut;rw[if_pos h]
theorem pshut_ok {p:SPipe} (h:pchk p=0):pshut p=(⟨[],p.room,p.closed,true⟩,0):=by unfold pshut;rw[if_neg (fun e=>e h)]
theorem pckO_of (p:SPipe):pckO p.b.length p.room p.closed p.shut=if pchk p≠0 then pchk p else if p.closed=true then 7 else 0:=rfl
theorem pckO_ok {p:SPipe} (h:pckO p.b.length p.room p.closed p.shut=0):pchk p=0/\p.closed=false:=by
 rw[pckO_of] at h
 by_cases h1:pchk p=0
 . by_cases h2:p.closed=true
   . simp[h1,h2] at h
   . exact⟨h1,by simpa using h2⟩
 . simp[h1] at h
theorem new_is (room:Int) (w:World) :
 Calls Tryz.prog 60 #[.int .i64 room] w fun e w'=>e=.returned (.tuple #[pipeV (pnew room).1 none 0,.int .i64 (pnew room).2])/\Below w.heap.size w w':=by
 have HO:Hid _:=fun (W:World)=>pcheck_is none 0 0 room false false W (by omega)
 have HB:Hid _:=fun h=>pnew_bad (room:=room) h
 have HK:Hid _:=fun h=>pnew_ok (room:=room) h
 obtain⟨L,hL⟩:∃L,L=pck 0 room false:=⟨_,rfl⟩
 rw[<- hL] at HO HB HK
 clear hL
 go_enter Tryz.func60,Tryz.ntmps60
 go_wp2_with fail
 refine (HO.out _).mono ?_
 rintro e w1 ⟨rfl,hb1⟩
 obtain⟨x1,x2⟩:=box44P hb1
 obtain⟨c0,c1,c2,c3⟩:=cells4P x1
 obtain⟨d0,d1,d2,d3⟩:=cells4P x2
 obtain⟨f0,f1,f2,f3⟩:=frz4P x1
 have HB1:Hid (Below w.heap.size w w1):=boxr2P.trans (hb1.mono boxr2P.size)
 clear hb1 HO x1 x2
 by_cases h0:L=0
 .
  subst h0
  go_wp2_with fail
  (try simp only[Exit.inBlock,Exit.then])
  refine bodyPost_ret (v:=.tuple #[.agg #[.slice none 0 0,.int .i64 room,.bool false,.bool false],.int .i64 0]) ?_ rfl ⟨?_,?_⟩
  . rw[results_cell_tmp rfl]
    go_simp
  . rw[HK.out trivial];rfl
  . exact below_set4P HB1.out (Nat.le_refl _) _ _ _ _
 .
  go_wp2_with fail
  (try simp only[Exit.inBlock,Exit.then])
  refine bodyPost_ret (v:=.tuple #[.agg #[.slice none 0 0,.int .i64 0,.bool false,.bool false],.int .i64 L]) ?_ rfl ⟨?_,?_⟩
  . rw[results_cell_tmp rfl]
    go_simp
  . rw[HB.out h0];rfl
  . exact below_set4P HB1.out (Nat.le_refl _) _ _ _ _
theorem shut_is (ab:Option Addr) (cap:Nat) (p:SPipe) (w:World) (hn:p.b.length<=9223372036854775807) :
 Calls Tryz.prog 274 #[pipeV p ab cap] w fun e w'=>e=.returned (.tuple #[pipeV (pshut p).1 none 0,.int .i64 (pshut p).2])/\Below w.heap.size w w':=by
 obtain⟨bs,room,cl,sh⟩:=p
 have HO:Hid _:=fun (W:World)=>pcheck_is ab bs.length cap room cl sh W hn
 have HB:Hid _:=fun h=>pshut_bad (p:=⟨bs,room,cl,sh⟩) h
 have HK:Hid _:=fun h=>pshut_ok (p:=⟨bs,room,cl,sh⟩) h
 unfold pchk at HB HK
 unfold pipeV
 generalize hZ:pshut ⟨bs,room,cl,sh⟩=Z at *
 simp only at HB HK hn ⊢
 obtain⟨L,hL⟩:∃L,L=pck bs.length room sh:=⟨_,rfl⟩
 obtain⟨N,hN⟩:∃N,N=bs.length:=⟨_,rfl⟩
 rw[<- hL] at HO HB HK
 rw[<- hN] at HO hn ⊢
 clear hL hN hZ
 go_enter Tryz.func274,Tryz.ntmps274
 go_wp2_with fail
 refine (HO.out _).mono ?_
 rintro e w1 ⟨rfl,hb1⟩
 obtain⟨x1,x2⟩:=box44P hb1
 obtain⟨c0,c1,c2,c3⟩:=cells4P x1
 obtain⟨d0,d1,d2,d3⟩:=cells4P x2
 obtain⟨f0,f1,f2,f3⟩:=frz4P x1
 obtain⟨g0,g1,g2,g3⟩:=frz4P x2
 have HB1:Hid (Below w.heap.size w w1):=boxr2P.trans (hb1.mono boxr2P.size)
 clear hb1 HO x1 x2
 by_cases h0:L=0
 .
  obtain rfl:=HK.out h0
  clear HK HB
  subst h0
  go_wp2_with fail
  (try simp only[Exit.inBlock,Exit.then])
  refine bodyPost_ret (v:=.tuple #[.agg #[.slice none 0 0,.int .i64 room,.bool cl,.bool true],.int .i64 0]) ?_ rfl ⟨rfl,?_⟩
  . rw[results_cell_tmp rfl]
    go_simp
  . repeat (first | refine Below.setCell ?_ (by simp) _ | exact HB1.out)
 .
  obtain rfl:=HB.out h0
  clear HK HB
  go_wp2_with fail
  (try simp only[Exit.inBlock,Exit.then])
  refine bodyPost_ret (v:=.tuple #[.agg #[.slice none 0 0,.int .i64 0,.bool false,.bool false],.int .i64 L]) ?_ rfl ⟨rfl,?_⟩
  . rw[results_cell_tmp rfl]
    go_simp
  . repeat (first | refine Below.setCell ?_ (by simp) _ | exact HB1.out)
theorem pread_bad {p:SPipe} {m:Int} (h:pchk p≠0):pread p m=(zeroP,[],pchk p):=by unfold pread;rw[if_pos h]
theorem pread_range {p:SPipe} {m:Int} (h:pchk p=0) (h2:m<0\/4000<m):pread p m=(zeroP,[],3):=by unfold pread;rw[if_neg (fun e=>e h),if_pos h2]
theorem pread_ok {p:SPipe} {m:Int} (h:pchk p=0) (h2:¬(m<0\/4000<m)):pread p m=(⟨p.b.drop (min m.toNat p.b.length),p.room,p.closed,p.shut⟩,p.b.take (min m.toNat p.b.length),0):=by unfold pread;rw[if_neg (fun e=>e h),if_neg h2]
theorem reads_dropP {w:World} {b off n cap k:Nat} {bs:List UInt8} (h:Reads w (.slice (some ⟨b,off,none⟩) n cap) n (bs.map U)) (hk:k<=n):Reads w (.slice (some ⟨b,off+k,none⟩) (n-k) (cap-k)) (n-k) ((bs.drop k).map U):=by
 obtain⟨hl,ao,cap',e,h3,h4,h5⟩:=h
 injection e with e1 e2 e3
 subst e1 e3
 rw[List.length_map] at hl
 refine⟨by simp;omega,_,_,rfl,by omega,by omega,fun hn=>?_⟩
 obtain⟨b',off',e,hc⟩:=h5 (by omega)
 injection e with e
 injection e with e1 e2
 subst e1 e2
 refine⟨b,off+k,rfl,fun j u hu=>?_⟩
 rw[List.map_drop,List.getElem?_drop] at hu
 have:=hc _ _ hu
 rwa [<- Nat.add_assoc] at this
theorem reads_takeP {w:World} {ao:Option Addr} {n cap k:Nat} {bs:List UInt8} (h:Reads w (.slice ao n cap) n (bs.map U)) (hk:k<=n):Reads w (.slice ao k cap) k ((bs.take k).map U):=by
 obtain⟨hl,ao',cap',e,h3,h4,h5⟩:=h
 injection e with e1 e2 e3
 subst e1 e3
 rw[List.length_map] at hl
 refine⟨by simp;omega,_,_,rfl,by omega,by omega,fun hn=>?_⟩
 obtain⟨b',off',e,hc⟩:=h5 (by omega)
 refine⟨b',off',e,fun j u hu=>?_⟩
 rw[List.map_take,List.getElem?_take] at hu
 split at hu
 . exact hc _ _ hu
 . cases hu
end Go.Proofs.YtllgglolcgdehaaGreatDoor
