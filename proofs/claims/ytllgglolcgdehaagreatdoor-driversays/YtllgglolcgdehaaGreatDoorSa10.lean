/- What the reference's CheckCommand does, and more. -/
import Derived.Test.YtllgglolcgdehaaGreatDoorSAb
import Derived.Carry
import Derived.Test.YtllgglolcgdehaaGreatDoorSa09
set_option linter.all false
set_option maxRecDepth 100000
set_option maxHeartbeats 16000000
namespace Go.Proofs.YtllgglolcgdehaaGreatDoor
open Go.RowKit Go.Gs Go.Maps Tryz
theorem ad0:Keyed prog 3:=int_keyed underlying3
theorem cl4(w:World):(zeroValue 9).run prog w=.ok (.string ⟨#[]⟩) w:=by kernel_rfl
theorem ag3(i:Nat)(h:i<=100):i<maxLen:=by unfold maxLen;omega
theorem wf1:(Lit.int .i64 1).wf=true:=by kernel_rfl
theorem wf2:(Lit.int .i64 2).wf=true:=by kernel_rfl
theorem wf3:(Lit.int .i64 3).wf=true:=by kernel_rfl
theorem wf4:(Lit.int .i64 4).wf=true:=by kernel_rfl
theorem wf5:(Lit.int .i64 5).wf=true:=by kernel_rfl
theorem wf6:(Lit.int .i64 6).wf=true:=by kernel_rfl
theorem wf7:(Lit.int .i64 7).wf=true:=by kernel_rfl
theorem wf8:(Lit.int .i64 8).wf=true:=by kernel_rfl
theorem wf9:(Lit.int .i64 9).wf=true:=by kernel_rfl
theorem wf10:(Lit.int .i64 10).wf=true:=by kernel_rfl
theorem bg2:plainElem (H:=Unit) prog 9 (.string ⟨#[119]⟩)=some (.lit (.string [119]),[]):=plainElem_string underlying9 (by show 1<=maxLen;unfold maxLen;omega)
theorem bg3:plainElem (H:=Unit) prog 9 (.string ⟨#[110]⟩)=some (.lit (.string [110]),[]):=plainElem_string underlying9 (by show 1<=maxLen;unfold maxLen;omega)
theorem elem45:plainElem (H:=Unit) prog 9 (.string ⟨#[45]⟩)=some (.lit (.string [45]),[]):=plainElem_string underlying9 (by show 1<=maxLen;unfold maxLen;omega)
theorem cr9(w:World)(o:Obj):((w.alloc o).alloc (.map #[] 0)).ownsMap prog 3 (plainElem (H:=Unit) prog 9) (w.heap.size+1) 0 (.map []):=by have:=World.ownsMap_made (w.alloc o) prog 3 (plainElem (H:=Unit) prog 9);simpa using this
theorem bD0{w w1:World}{o m:Obj}(hg:((w.alloc o).alloc m).grownBy w1 (some (w.heap.size+1))):Below (w.heap.size+1) (w.alloc o) w1:=
 ((qI _ (w.alloc o)).alloc (by simp) m).grown hg (by simp) (fun k hk=>by simp only[qW]at hk;omega)
theorem Q9{w w1 w2:World}{o:Obj}(h:Below (w.heap.size+1) (w.alloc o) w1)(hg:w1.grownBy w2 (some (w.heap.size+1))):Below (w.heap.size+1) (w.alloc o) w2:=
 h.grown hg (by have:=h.size;simpa using this) (fun k hk=>by simp only[qW]at hk;omega)
theorem bQ2{w w1:World}{a b c:Value}{t:TypeId}(h:Below (w.heap.size+1) (w.alloc (.cells #[a,b,c] t)) w1):
 w1.cell? ⟨w.heap.size,0,none⟩=some a/\w1.cell? ⟨w.heap.size,1,none⟩=some b/\w1.cell? ⟨w.heap.size,2,none⟩=some c:=by
 refine⟨?_,?_,?_⟩
 all_goals
  rw[h.cell (by simp),qV _ _ _ _ _ _ (qN w _)];rfl
theorem bQ3{w w1:World}{o:Obj}(h:Below (w.heap.size+1) (w.alloc o) w1):Bq w w1:=
 ((qI _ w).alloc (qB _) o).trans (h.mono (by omega))
def al9(k:Int):List UInt8:=if uses k=1 then [119] else if uses k=2 then [110] else if uses k=3 then [45] else []
theorem bD1(k:Int):DataW.atKey (DataW.put (DataW.put (DataW.put (DataW.put (DataW.put (DataW.put (DataW.put (DataW.put (DataW.put (DataW.put (.map []:DataW Unit) (.int .i64 1) (.lit (.string [119]))) (.int .i64 2) (.lit (.string [119]))) (.int .i64 3) (.lit (.string [119]))) (.int .i64 4) (.lit (.string [110]))) (.int .i64 5) (.lit (.string [45]))) (.int .i64 6) (.lit (.string [45]))) (.int .i64 7) (.lit (.string [45]))) (.int .i64 8) (.lit (.string [45]))) (.int .i64 9) (.lit (.string [110]))) (.int .i64 10) (.lit (.string [110]))) (.int .i64 k) (.lit (.string []))=.lit (.string (al9 k)):=by
 by_cases hk:1<=k/\k<=10
 . have:k=1\/k=2\/k=3\/k=4\/k=5\/k=6\/k=7\/k=8\/k=9\/k=10:=by omega
   rcases this with rfl | rfl | rfl | rfl | rfl | rfl | rfl | rfl | rfl | rfl <;> rfl
 .
  have hu:al9 k=[]:=by unfold al9 uses;rw[qA (show ¬(1<=k/\k<=3) by omega),qA (show ¬(k=4\/k=9\/k=10) by omega),qA (show ¬(5<=k/\k<=8) by omega)];rfl
  rw[hu];repeat rw[atKey_put_other (by intro e;injection e with _ e;omega)]
  rfl
theorem cs0{k:Int}{us:ByteArray}{l:List UInt8}(h:DataW.atKey (DataW.put (DataW.put (DataW.put (DataW.put (DataW.put (DataW.put (DataW.put (DataW.put (DataW.put (DataW.put (.map []:DataW Unit) (.int .i64 1) (.lit (.string [119]))) (.int .i64 2) (.lit (.string [119]))) (.int .i64 3) (.lit (.string [119]))) (.int .i64 4) (.lit (.string [110]))) (.int .i64 5) (.lit (.string [45]))) (.int .i64 6) (.lit (.string [45]))) (.int .i64 7) (.lit (.string [45]))) (.int .i64 8) (.lit (.string [45]))) (.int .i64 9) (.lit (.string [110]))) (.int .i64 10) (.lit (.string [110]))) (.int .i64 k) (.lit (.string []))=.lit (.string us.data.toList))(hl:al9 k=l):us=⟨l.toArray⟩:=by rw[bD1,hl]at h;injection h with h;injection h with h;rw[h]
theorem az6{w1 w2:World}{b:Nat}{x y:Value}(h:Bq w1 w2)(h0:w1.cell? ⟨b,0,none⟩=some x)(h1:w1.cell? ⟨b,1,none⟩=some y):w2.cell? ⟨b,0,none⟩=some x/\w2.cell? ⟨b,1,none⟩=some y:=
 ⟨qC h h0,qC h h1⟩
theorem bD2(k:Int):uses k=0\/uses k=1\/uses k=2\/uses k=3:=by
 unfold uses;split
 . exact Or.inr (Or.inl rfl)
 .
  split
  . exact Or.inr (Or.inr (Or.inl rfl))
  . split
    . exact Or.inr (Or.inr (Or.inr rfl))
    . exact Or.inl rfl
theorem bQ4(c:Cmd)(w:World)(hkw:(Lit.int .i64 c.kind).wf=true)(hsz:c.word.length<=9223372036854775807):
 Calls prog 76 #[c.v] w fun e w'=>e=.returned (.int .i64 (chk c))/\Bq w w':=by
 have hwe:c.word.isEmpty=true ↔ c.word=[]:=xC;have hmm:=@run_makeMap prog;unfold Cmd.v;go_enter Tryz.func76,Tryz.ntmps76
 go_upto_region 2 with (first|(refine B0 _ rfl (.tmp 4) (.const (.int .i64 1)) (.const (.string ⟨#[119]⟩)) 169 rfl 3 9 ad0 underlying169 (plainElem prog 9) (w.heap.size+1) 0 _ rfl (cr9 w _) (ag3 0 (by decide)) _ _ (.int .i64 1) rfl rfl (keyOf_int_mk underlying3 wf1) (.lit (.string [119])) [] bg2 ?_;intro w1 ho1 hg1;have hb1:=bD0 hg1;clear hg1)|(refine B0 _ rfl (.tmp 4) (.const (.int .i64 2)) (.const (.string ⟨#[119]⟩)) 169 rfl 3 9 ad0 underlying169 (plainElem prog 9) (w.heap.size+1) 1 _ rfl ho1 (ag3 1 (by decide)) _ _ (.int .i64 2) rfl rfl (keyOf_int_mk underlying3 wf2) (.lit (.string [119])) [] bg2 ?_;intro w2 ho2 hg2;have hb2:=Q9 hb1 hg2;clear hg2 ho1 hb1)|(refine B0 _ rfl (.tmp 4) (.const (.int .i64 3)) (.const (.string ⟨#[119]⟩)) 169 rfl 3 9 ad0 underlying169 (plainElem prog 9) (w.heap.size+1) 2 _ rfl ho2 (ag3 2 (by decide)) _ _ (.int .i64 3) rfl rfl (keyOf_int_mk underlying3 wf3) (.lit (.string [119])) [] bg2 ?_;intro w3 ho3 hg3;have hb3:=Q9 hb2 hg3;clear hg3 ho2 hb2)|(refine B0 _ rfl (.tmp 4) (.const (.int .i64 4)) (.const (.string ⟨#[110]⟩)) 169 rfl 3 9 ad0 underlying169 (plainElem prog 9) (w.heap.size+1) 3 _ rfl ho3 (ag3 3 (by decide)) _ _ (.int .i64 4) rfl rfl (keyOf_int_mk underlying3 wf4) (.lit (.string [110])) [] bg3 ?_;intro w4 ho4 hg4;have hb4:=Q9 hb3 hg4;clear hg4 ho3 hb3)|(refine B0 _ rfl (.tmp 4) (.const (.int .i64 5)) (.const (.string ⟨#[45]⟩)) 169 rfl 3 9 ad0 underlying169 (plainElem prog 9) (w.heap.size+1) 4 _ rfl ho4 (ag3 4 (by decide)) _ _ (.int .i64 5) rfl rfl (keyOf_int_mk underlying3 wf5) (.lit (.string [45])) [] elem45 ?_;intro w5 ho5 hg5;have hb5:=Q9 hb4 hg5;clear hg5 ho4 hb4)|(refine B0 _ rfl (.tmp 4) (.const (.int .i64 6)) (.const (.string ⟨#[45]⟩)) 169 rfl 3 9 ad0 underlying169 (plainElem prog 9) (w.heap.size+1) 5 _ rfl ho5 (ag3 5 (by decide)) _ _ (.int .i64 6) rfl rfl (keyOf_int_mk underlying3 wf6) (.lit (.string [45])) [] elem45 ?_;intro w6 ho6 hg6;have hb6:=Q9 hb5 hg6;clear hg6 ho5 hb5)|(refine B0 _ rfl (.tmp 4) (.const (.int .i64 7)) (.const (.string ⟨#[45]⟩)) 169 rfl 3 9 ad0 underlying169 (plainElem prog 9) (w.heap.size+1) 6 _ rfl ho6 (ag3 6 (by decide)) _ _ (.int .i64 7) rfl rfl (keyOf_int_mk underlying3 wf7) (.lit (.string [45])) [] elem45 ?_;intro w7 ho7 hg7;have hb7:=Q9 hb6 hg7;clear hg7 ho6 hb6)|(refine B0 _ rfl (.tmp 4) (.const (.int .i64 8)) (.const (.string ⟨#[45]⟩)) 169 rfl 3 9 ad0 underlying169 (plainElem prog 9) (w.heap.size+1) 7 _ rfl ho7 (ag3 7 (by decide)) _ _ (.int .i64 8) rfl rfl (keyOf_int_mk underlying3 wf8) (.lit (.string [45])) [] elem45 ?_;intro w8 ho8 hg8;have hb8:=Q9 hb7 hg8;clear hg8 ho7 hb7)|(refine B0 _ rfl (.tmp 4) (.const (.int .i64 9)) (.const (.string ⟨#[110]⟩)) 169 rfl 3 9 ad0 underlying169 (plainElem prog 9) (w.heap.size+1) 8 _ rfl ho8 (ag3 8 (by decide)) _ _ (.int .i64 9) rfl rfl (keyOf_int_mk underlying3 wf9) (.lit (.string [110])) [] bg3 ?_;intro w9 ho9 hg9;have hb9:=Q9 hb8 hg9;clear hg9 ho8 hb8)|(refine B0 _ rfl (.tmp 4) (.const (.int .i64 10)) (.const (.string ⟨#[110]⟩)) 169 rfl 3 9 ad0 underlying169 (plainElem prog 9) (w.heap.size+1) 9 _ rfl ho9 (ag3 9 (by decide)) _ _ (.int .i64 10) rfl rfl (keyOf_int_mk underlying3 wf10) (.lit (.string [110])) [] bg3 ?_;intro w10 Xl Xm;have Is:=Q9 hb9 Xm;clear Xm ho9 hb9;obtain⟨hk0,hk1,hk2⟩:=bQ2 Is;have Cd:Hid _:=bQ3 Is;clear Is)|(at_lookup;refine az4 _ rfl (.tmp 5) (.tmp 7) 169 rfl 3 9 ad0 underlying169 underlying9 (cl4 _) (w.heap.size+1) 10 _ rfl Xl _ _ rfl (keyOf_int_mk underlying3 hkw) ?_;intro us hus;obtain rfl:=cs0 hus rfl;clear hus Xl hmm hkw))
 rcases bD2 c.kind with hu | hu | hu | hu
 . have HU:al9 c.kind=[]:=by simp[al9,hu]
   have HV:=qH (show chk c=4 by simp[chk,hu]);rw[HU];clear hwe hu HU;go_wp2_with fail;go_ret;exact⟨by rw[HV.out];rfl,Cd.out⟩
 .
  have HU:al9 c.kind=[119]:=by simp[al9,hu]
  by_cases hn:c.n=0
  .
   have hnb:(c.n != 0)=false:=by simp[hn]
   cases hW:isWord c.word with
   | false=>
    have HV:=qH (show chk c=1 by simp[chk,hu,hn,hW])
    rw[HU]
    clear hwe hu HU hn
    go_wp2_with (go_at_call 75;refine (P6 c.word _ hsz false hW).mono ?_;rintro e w11⟨rfl,Dw⟩;obtain⟨hk3,hk4⟩:=az6 Dw hk0 hk1;have Gu:Hid _:=Cd.out.trans (Dw.mono Cd.out.size))
    go_ret
    exact⟨by rw[HV.out];rfl,Gu.out⟩
   | true=>
    by_cases hk:c.kind=3
    .
     have h3:uses 3=1:=by decide
     have hkb:(c.kind==3)=true:=by simp[hk]
     by_cases h2:c.word.length=2
     . have h2b:((c.word.length:Int) != 2)=false:=by simp[h2]
       have HV:=qH (show chk c=0 by simp[chk,h3,hn,hW,hk,h2])
       rw[HU]
       clear hwe hu HU hn hk h2 h3
       go_wp2_with (go_at_call 75;refine (P6 c.word _ hsz true hW).mono ?_;rintro e w11⟨rfl,Dw⟩;obtain⟨hk3,hk4⟩:=az6 Dw hk0 hk1;have Gu:Hid _:=Cd.out.trans (Dw.mono Cd.out.size))
       go_ret
       exact⟨by rw[HV.out];rfl,Gu.out⟩
     . have h2b:((c.word.length:Int) != 2)=true:=by rw[bne_iff_ne];omega
       have HV:=qH (show chk c=1 by simp[chk,h3,hn,hW,hk,h2])
       rw[HU]
       clear hwe hu HU hn hk h2 h3
       go_wp2_with (go_at_call 75;refine (P6 c.word _ hsz true hW).mono ?_;rintro e w11⟨rfl,Dw⟩;obtain⟨hk3,hk4⟩:=az6 Dw hk0 hk1;have Gu:Hid _:=Cd.out.trans (Dw.mono Cd.out.size))
       go_ret
       exact⟨by rw[HV.out];rfl,Gu.out⟩
    . have hkb:(c.kind==3)=false:=by simp[hk]
      have HV:=qH (show chk c=0 by simp[chk,hu,hn,hW,hk])
      rw[HU]
      clear hwe hu HU hn hk
      go_wp2_with (go_at_call 75;refine (P6 c.word _ hsz true hW).mono ?_;rintro e w11⟨rfl,Dw⟩;obtain⟨hk3,hk4⟩:=az6 Dw hk0 hk1;have Gu:Hid _:=Cd.out.trans (Dw.mono Cd.out.size))
      go_ret
      exact⟨by rw[HV.out];rfl,Gu.out⟩
  . have hnb:(c.n != 0)=true:=by simp[hn]
    have HV:=qH (show chk c=4 by simp[chk,hu,hn]);rw[HU];clear hwe hu HU hn;go_wp2_with fail;go_ret;exact⟨by rw[HV.out];rfl,Cd.out⟩
 .
  have HU:al9 c.kind=[110]:=by simp[al9,hu]
  cases hw:c.word.isEmpty with
  | false=>
   have hne:c.word≠[]:=fun e=>by rw[hwe.2 e]at hw;cases hw
   have HV:=qH (show chk c=4 by simp[chk,hu,hne])
   rw[HU]
   clear hwe hu HU hne
   go_wp2_with fail
   go_ret
   exact⟨by rw[HV.out];rfl,Cd.out⟩
  | true=>
   have he:=hwe.1 hw
   by_cases h1:c.n<1
   . have HV:=qH (show chk c=3 by simp[chk,hu,he,h1])
     rw[HU]
     clear hwe hu HU he
     go_wp2_with fail
     go_ret
     exact⟨by rw[HV.out];rfl,Cd.out⟩
   .
    by_cases h2:1000<c.n
    . have HV:=qH (show chk c=3 by simp[chk,hu,he,h2])
      rw[HU]
      clear hwe hu HU he
      go_wp2_with fail
      go_ret
      exact⟨by rw[HV.out];rfl,Cd.out⟩
    . have HV:=qH (show chk c=0 by simp[chk,hu,he,h1,h2])
      rw[HU]
      clear hwe hu HU he
      go_wp2_with fail
      go_ret
      exact⟨by rw[HV.out];rfl,Cd.out⟩
 .
  have HU:al9 c.kind=[45]:=by simp[al9,hu]
  cases hw:c.word.isEmpty with
  | false=>
   have hne:c.word≠[]:=fun e=>by rw[hwe.2 e]at hw;cases hw
   have HV:=qH (show chk c=4 by simp[chk,hu,hne])
   rw[HU]
   clear hwe hu HU hne
   go_wp2_with fail
   go_ret
   exact⟨by rw[HV.out];rfl,Cd.out⟩
  | true=>
   have he:=hwe.1 hw
   by_cases hn:c.n=0
   .
    have hnb:(c.n != 0)=false:=by simp[hn]
    have HV:=qH (show chk c=0 by simp[chk,hu,he,hn])
    rw[HU]
    clear hwe hu HU he hn
    go_wp2_with fail
    go_ret
    exact⟨by rw[HV.out];rfl,Cd.out⟩
   .
    have hnb:(c.n != 0)=true:=by simp[hn]
    have HV:=qH (show chk c=4 by simp[chk,hu,he,hn])
    rw[HU]
    clear hwe hu HU he hn
    go_wp2_with fail
    go_ret
    exact⟨by rw[HV.out];rfl,Cd.out⟩
end Go.Proofs.YtllgglolcgdehaaGreatDoor
