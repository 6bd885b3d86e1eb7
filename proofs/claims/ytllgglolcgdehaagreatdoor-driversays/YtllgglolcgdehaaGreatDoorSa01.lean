/- What the developers' Word, hasWord, hasNumber, Each do, and more. -/
import Derived.Test.YtllgglolcgdehaaGreatDoorSAb
import Derived.Test.YtllgglolcgdehaaGreatDoorProg
import Derived.WalkLawsBesides
import Derived.Outline
import Derived.ChangeAgain
import Derived.Laws.IdiomStrings
import Derived.Lib.AppendStr
import Derived.Test.YtllgglolcgdehaaGreatDoorSSh
import Derived.Laws.Strings3
import Derived.Lib.SlBytesConst
import Derived.WalkSpells
import Derived.BigQuiet
import Derived.Deep.QuietTactic
import Derived.Test.YtllgglolcgdehaaGreatDoorSa00
set_option linter.all false
set_option maxRecDepth 100000
set_option maxHeartbeats 16000000
namespace Go.Proofs.YtllgglolcgdehaaGreatDoor
open Go.RowKit Go.Gs Tryz
theorem bz6(k:Int)(w:World):
 Calls prog 189 #[.int .i64 k] w fun e w'=>e=.returned (.bool (decide (uses k=1)))/\w'=w:=by
 by_cases h1:k=1
 . subst h1;go_enter Tryz.func189,Tryz.ntmps189;go_wp2;go_ret;exact⟨rfl,rfl⟩
 .
  by_cases h2:k=2
  . subst h2;go_enter Tryz.func189,Tryz.ntmps189;go_wp2;go_ret;exact⟨rfl,rfl⟩
  .
   by_cases h3:k=3
   . subst h3;go_enter Tryz.func189,Tryz.ntmps189;go_wp2;go_ret;exact⟨rfl,rfl⟩
   .
    have hu:decide (uses k=1)=false:=by
     apply qU;unfold uses;split
     . omega
     . split
       . decide
       . split <;> decide
    rw[hu];go_enter Tryz.func189,Tryz.ntmps189;go_wp2;go_ret;exact⟨by simp[h1,h2,h3],rfl⟩
theorem be5(k:Int)(w:World):
 Calls prog 190 #[.int .i64 k] w fun e w'=>e=.returned (.bool (decide (uses k=2)))/\w'=w:=by
 by_cases h1:k=4
 . subst h1;go_enter Tryz.func190,Tryz.ntmps190;go_wp2;go_ret;exact⟨rfl,rfl⟩
 .
  by_cases h2:k=9
  . subst h2;go_enter Tryz.func190,Tryz.ntmps190;go_wp2;go_ret;exact⟨rfl,rfl⟩
  .
   by_cases h3:k=10
   . subst h3;go_enter Tryz.func190,Tryz.ntmps190;go_wp2;go_ret;exact⟨rfl,rfl⟩
   .
    have hu:decide (uses k=2)=false:=by
     apply qU;unfold uses;split
     . decide
     . split
       . omega
       . split <;> decide
    rw[hu];go_enter Tryz.func190,Tryz.ntmps190;go_wp2;go_ret;exact⟨by simp[h1,h2,h3],rfl⟩
theorem i8{w:World}{o:Obj}:Bq w (w.alloc o):=(qI _ w).alloc (qB _) o
theorem bL7{l:List UInt8}{k:Nat}{c:UInt8}(hl:l[k]? = some c)(h:∀x∈l.take k,F9 x=true)(hc:F9 c=true):∀x∈l.take (k+1),F9 x=true:=by
 intro x hx;rw[qX,hl]at hx;simp only[xa,xB,xI]at hx;rcases hx with hx | rfl
 . exact h x hx
 . exact hc
theorem no_word{l:List UInt8}{k:Nat}{c:UInt8}(hl:l[k]? = some c)(hc:F9 c=false):l.all F9=false:=by rw[List.all_eq_false];exact⟨c,mGt hl,by simp[hc]⟩
theorem bL8(l : List UInt8)(w : World)(h0 : 0 < l.length)(h1 : l.length ≤ 12):
    Calls prog 103 #[.string ⟨l.toArray⟩] w fun e w' => e = .returned (.bool (l.all F9)) ∧ w' = w := by
 have hsz : (⟨l.toArray⟩ : ByteArray).size = l.length := by simp [ByteArray.size]
 have Ed : Hid (∀ k (h : k < l.length) (h' : k < (⟨l.toArray⟩ : ByteArray).size), l[k]? = some ((⟨l.toArray⟩ : ByteArray)[k]'h')) := by intro k h h';rw [List.getElem?_eq_getElem h];rfl
 generalize hsx : (⟨l.toArray⟩ : ByteArray) = sx at *;have hem : sx.toList.isEmpty = false := by
  subst hsx
  cases l with
  | nil => simp at h0
  | cons c l => simp
 clear hsx;go_enter Tryz.func103, Tryz.ntmps103;go_wp2_with fail;go_loopw [14] (fun i wr => ∃ k : Nat, k ≤ l.length ∧ i = .int .i64 k ∧ wr = w ∧ Hid (∀ x ∈ l.take k, F9 x = true)) (fun i _ => l.length - (intOf i).toNat)
 case atStart => exact ⟨0, qP _, rfl, rfl, by intro x hx; simp at hx⟩
 case round =>
  obtain ⟨k, hk, rfl, rfl, Ae⟩ := hrel;by_cases hlt : k < l.length
  . have hg : Hid _ := Ed.out k hlt (by omega);go_wp2_with fail
    all_goals first
      | (go_ret; refine ⟨?_, rfl⟩; show Ending.returned (.bool false) = _; rw [no_word hg.out (by simp [F9]; omega)])
      | (go_roundw
         case rel => exact ⟨k + 1, by omega, by go_num, by simp, bL7 hg.out Ae.out (by simp [F9]; omega)⟩
         case measure => simp [intOf]; omega)
  . go_wp2_with fail;go_ret;refine ⟨?_, rfl⟩;have hkl : k = l.length := by omega
    have h := Ae.out;rw [hkl, qZ]at h;show Ending.returned (.bool true) = _;rw [zS.2 h]
theorem ay0(l:List UInt8)(w:World)(hm:l.length<=9223372036854775807):
 Calls prog 103 #[.string ⟨l.toArray⟩] w fun e w'=>e=.returned (.bool (isWord l))/\w'=w:=by
 by_cases h0:l=[]
 . subst h0;go_enter Tryz.func103,Tryz.ntmps103;go_wp2;go_ret;exact⟨rfl,rfl⟩
 .
  have hl0:0<l.length:=zK.2 h0;by_cases h1:l.length<=12
  . have:isWord l=l.all F9:=by simp[isWord,hl0,h1]
    rw[this];exact bL8 l w hl0 h1
  .
   have hw:isWord l=false:=by simp[isWord,h1]
   rw[hw];have hsz:(⟨l.toArray⟩:ByteArray).size=l.length:=by simp[ByteArray.size]
   generalize hsx:(⟨l.toArray⟩:ByteArray)=sx at *;have hem:sx.toList.isEmpty=false:=by
    subst hsx
    cases l with
    | nil=>simp at h0
    | cons c l=>simp
   clear hsx;go_enter Tryz.func103,Tryz.ntmps103;go_wp2;go_ret;exact⟨rfl,rfl⟩
end Go.Proofs.YtllgglolcgdehaaGreatDoor
namespace Go.Gs
open Go.RowKit
abbrev NRow:=SNode × (Option Addr × Nat)
def encN(x:NRow):List Value:=[.int .i64 x.1.kind,.string ⟨x.1.file.toArray⟩,.int .i64 x.1.c.kind,.string ⟨x.1.c.word.toArray⟩,.int .i64 x.1.c.n,.int .i64 x.1.how,.int .i64 x.1.wide,.slice x.2.1 x.1.ins.length x.2.2]
def A8(out:List NRow):List Value:=(out.map encN).flatten
theorem aT9(out:List NRow)(r:NRow):A8 (out++[r])=A8 out++encN r:=by simp[A8]
theorem ac7(out:List NRow)(r:NRow):A8 (r::out)=encN r++A8 out:=by simp[A8]
theorem ah5(out:List NRow):(A8 out).length=out.length*8:=by
 induction out with
 | nil=>rfl
 | cons r l ih=>
  rw[ac7,qG,ih]
  simp[encN]
  omega
theorem ab4:∀(out:List NRow)(j:Nat)(r:NRow),out[j]? = some r->∀i,i<8->(A8 out)[j*8+i]? = (encN r)[i]?
 | [],j,r,h,i,hi=>by simp at h
 | d::l,0,r,h,i,hi=>by
  simp at h;subst h
  rw[ac7,xe (by simp[encN];omega)]
  simp
 | d::l,j+1,r,h,i,hi=>by
  have ih:=ab4 l j r (by simpa using h) i hi
  rw[ac7,qj (by simp[encN];omega),show (j+1)*8+i-(encN d).length=j*8+i by simp[encN];omega]
  exact ih
theorem bm5(r:NRow):∀u∈encN r,u.oneCell'=true:=by intro u hu;simp[encN]at hu;rcases hu with rfl | rfl | rfl | rfl | rfl | rfl | rfl | rfl <;> rfl
def FS(D:Nat)(go:Option Nat)(X:Nat->Prop)(k:Nat):Prop:=k=D\/go=some k\/X k
def noX(k:Nat):Prop:=False
structure Kept (D:Nat) (go:Option Nat) (X:Nat->Prop) (w w':World):Prop where
 os:w'.os=w.os
 tape:w'.tape=w.tape
 output:w'.output=w.output
 size:w.heap.size<=w'.heap.size
 block:∀k,k<w.heap.size->¬FS D go X k->w'.heap[k]? = w.heap[k]?
theorem Kept.of_below{D:Nat}{go:Option Nat}{X:Nat->Prop}{w w':World}(h:Bq w w'):Kept D go X w w':=⟨h.os,h.tape,h.output,h.size,fun k hk _=>h.block k hk⟩
theorem Kept.of_grown{D:Nat}{go x:Option Nat}{X:Nat->Prop}{w w':World}(h:w.grownBy w' x)(hx:∀k,x=some k->FS D go X k):Kept D go X w w':=⟨h.os,h.tape,h.output,h.size,fun k hk hn=>h.block k hk (fun e=>hn (hx k e.symm))⟩
theorem Kept.refl(D:Nat)(go:Option Nat)(X:Nat->Prop)(w:World):Kept D go X w w:=⟨rfl,rfl,rfl,qB _,fun _ _ _=>rfl⟩
theorem Kept.more{D:Nat}{go:Option Nat}{X X':Nat->Prop}{w w':World}(h:Kept D go X w w')(hd:∀k,X k->X' k):Kept D go X' w w':=
 ⟨h.os,h.tape,h.output,h.size,fun k hk hn=>h.block k hk (fun e=>hn (by rcases e with e | e | e;exact .inl e;exact .inr (.inl e);exact .inr (.inr (hd k e))))⟩
def Nxt(w:World)(go go':Option Nat):Prop:=go'=go\/∃g,go'=some g/\w.heap.size<=g
theorem Nxt.refl(w:World)(go:Option Nat):Nxt w go go:=Or.inl rfl
theorem Nxt.trans{w w1:World}{go g1 g2:Option Nat}(h:Nxt w go g1)(k:Nxt w1 g1 g2)(hs:w.heap.size<=w1.heap.size):Nxt w go g2:=by
 rcases k with rfl | ⟨g,e,hg⟩
 . exact h
 . exact Or.inr ⟨g,e,qw hs hg⟩
theorem Nxt.old{w:World}{go go':Option Nat}(h:Nxt w go go'){k:Nat}(hk:k<w.heap.size)(e:go'=some k):go=some k:=by
 rcases h with rfl | ⟨g,e2,hg⟩
 . exact e
 . rw[e2]at e;injection e with e;omega
def NxtX(w:World)(X X':Nat->Prop):Prop:=∀k,k<w.heap.size->X' k->X k
theorem NxtX.refl(w:World)(X:Nat->Prop):NxtX w X X:=fun _ _ h=>h
theorem FS.old{w:World}{D:Nat}{go go':Option Nat}{X X':Nat->Prop}(hg:Nxt w go go')(hd:NxtX w X X'){k:Nat}(hk:k<w.heap.size)(h:FS D go' X' k):FS D go X k:=by
 rcases h with e | e | e
 . exact .inl e
 . exact .inr (.inl (hg.old hk e))
 . exact .inr (.inr (hd _ hk e))
theorem Kept.trans{D:Nat}{go g1:Option Nat}{X X':Nat->Prop}{w w1 w2:World}(h:Kept D go X w w1)(k:Kept D g1 X' w1 w2)(hg:Nxt w go g1)(hd:NxtX w X X'):Kept D go X w w2:=by refine⟨k.os.trans h.os,k.tape.trans h.tape,k.output.trans h.output,qw h.size k.size,fun i hi hn=>?_⟩;rw[k.block i (xT hi h.size) (fun e=>hn (e.old hg hd hi)),h.block i hi hn]
theorem Kept.below{D B:Nat}{go:Option Nat}{X:Nat->Prop}{w w':World}(h:Kept D go X w w')(hB:B<=w.heap.size)(hD:B<=D)(hg:∀g,go=some g->B<=g)(hd:∀g,X g->B<=g):Below B w w':=
 ⟨h.os,h.tape,h.output,h.size,fun k hk=>h.block k (by omega) (fun e=>by rcases e with e | e | e;omega;(have:=hg k e;omega);(have:=hd k e;omega))⟩
theorem Kept.set{D:Nat}{go:Option Nat}{X:Nat->Prop}{w w':World}(h:Kept D go X w w'){a:Addr}{v:Value}(ha:a.block=D):Kept D go X w (w'.setCell a v):=
 ⟨h.os,h.tape,h.output,by simpa using h.size,fun k hk hn=>(qJ _ _ _ _ (by rw[ha];exact fun e=>hn (.inl e))).trans (h.block k hk hn)⟩
def POff(w:World)(D:Nat)(go:Option Nat)(X:Nat->Prop)(ao:Option Addr)(cap:Nat)(ps:List (Int × Int)):Prop:=F2 w (.slice ao ps.length cap) ps/\(ps.length≠0->∀a,ao=some a->¬FS D go X a.block)
theorem aF8{w w':World}{ao:Option Addr}{cap:Nat}{ps:List (Int × Int)}(h:F2 w (.slice ao ps.length cap) ps)(hk:ps.length≠0->∀a,ao=some a->a.block<w.heap.size->w'.heap[a.block]? = w.heap[a.block]?):F2 w' (.slice ao ps.length cap) ps:=by obtain⟨ao',cap',e,h2,h3,h4⟩:=h;injection e with e1 e2 e3;subst e1 e3;refine⟨ao,cap,rfl,h2,h3,fun hn=>?_⟩;obtain⟨b,off,rfl,hc⟩:=h4 hn;refine⟨b,off,rfl,fun j p hp=>?_⟩;obtain⟨c1,c2⟩:=hc j p hp;have hlt:b<w.heap.size:=bLt w _ c1;have e:=hk hn _ rfl hlt;simp only[World.cell?]at c1 c2 ⊢;rw[e];exact⟨c1,c2⟩
theorem ay1{w:World}{a:Addr}{n cap:Nat}{ps:List (Int × Int)}(h:F2 w (.slice (some a) n cap) ps)(hn:ps.length≠0):a.block<w.heap.size:=by obtain⟨ao',cap',e,h2,h3,h4⟩:=h;injection e with e1 e2 e3;subst e1;obtain⟨b,off,e4,hc⟩:=h4 hn;injection e4 with e4;subst e4;exact bLt w _ (hc 0 _ (gEl (by omega))).1
theorem POff.keep{w w':World}{D:Nat}{go go':Option Nat}{X X':Nat->Prop}{ao:Option Addr}{cap:Nat}{ps:List (Int × Int)}(h:POff w D go X ao cap ps)(hk:Kept D go X w w')(hg:Nxt w go go')(hd:NxtX w X X'):POff w' D go' X' ao cap ps:=by refine⟨aF8 h.1 (fun hn a ha hl=>hk.block _ hl (h.2 hn a ha)),fun hn a ha hf=>h.2 hn a ha ?_⟩;subst ha;exact hf.old hg hd (ay1 h.1 hn)
theorem POff.nil(w:World)(D:Nat)(go:Option Nat)(X:Nat->Prop):POff w D go X none 0 []:=⟨⟨none,0,rfl,by simp,by simp[maxLen],fun h=>absurd rfl h⟩,fun h=>absurd rfl h⟩
structure NO (w:World) (B D:Nat) (X:Nat->Prop) (e:TypeId) (v:Value) (rows:List NRow):Prop where
 own:w.ownsRow B e 8 v rows.length (A8 rows)
 good:∀r∈rows,POff w D v.ownBlock X r.2.1 r.2.2 r.1.ins
 off:v.ownBlock≠some D
theorem NO.nil(w:World)(B D:Nat)(X:Nat->Prop)(e:TypeId):NO w B D X e (.slice none 0 0) []:=⟨World.ownsRow_nil _ _ _ _,fun r hr=>(by cases hr),by simp[Value.ownBlock]⟩
theorem NO.base{w:World}{B D:Nat}{X:Nat->Prop}{e:TypeId}{v:Value}{rows:List NRow}(h:NO w B D X e v rows):∀g,v.ownBlock=some g->B<=g/\g<w.heap.size:=by
 intro g hg;rcases h.own.2 with⟨rfl,h0⟩|⟨g',cap,cur,rfl,hb,h1,_⟩
 . simp[Value.ownBlock]at hg
 .
  simp[Value.ownBlock]at hg;subst hg;refine⟨hb,?_⟩;rcases zD g' w.heap.size with h2 | h2
  . exact h2
  . rw[xE h2]at h1;cases h1
theorem NO.form{w:World}{B D:Nat}{X:Nat->Prop}{e:TypeId}{v:Value}{rows:List NRow}(h:NO w B D X e v rows):∃ao cap,v=.slice ao rows.length cap/\rows.length<=cap/\cap<=maxLen:=by
 rcases h.own.2 with⟨rfl,h0⟩|⟨g,cap,cur,rfl,_,_,h1,h2,_⟩
 . exact⟨none,0,by rw[h0],by omega,by simp[maxLen]⟩
 . exact⟨_,cap,rfl,h1,h2⟩
theorem NO.keep{w w':World}{B D:Nat}{X X':Nat->Prop}{e:TypeId}{v:Value}{rows:List NRow}(h:NO w B D X e v rows)(hk:Kept D v.ownBlock X w w')(hv:∀g,v.ownBlock=some g->w'.heap[g]? = w.heap[g]?)(hd:NxtX w X X'):NO w' B D X' e v rows:=by
 refine⟨?_,fun r hr=>(h.good r hr).keep hk (Nxt.refl _ _) hd,h.off⟩;refine⟨h.own.1,?_⟩;rcases h.own.2 with⟨e1,h0⟩|⟨g,cap,cur,e1,hb,h1,h2⟩
 . exact Or.inl ⟨e1,h0⟩
 . refine Or.inr ⟨g,cap,cur,e1,hb,?_,h2⟩;rw[hv g (by rw[e1];rfl)];exact h1
theorem NO.below{w w':World}{B D:Nat}{X:Nat->Prop}{e:TypeId}{v:Value}{rows:List NRow}(h:NO w B D X e v rows)(hb:Bq w w'):NO w' B D X e v rows:=
 h.keep (Kept.of_below hb) (fun g hg=>hb.block g (h.base g hg).2) (NxtX.refl _ _)
theorem NO.set{w:World}{B D:Nat}{X:Nat->Prop}{e:TypeId}{v:Value}{rows:List NRow}(h:NO w B D X e v rows){a:Addr}{u:Value}(ha:a.block=D):NO (w.setCell a u) B D X e v rows:=
 h.keep ((Kept.refl _ _ _ _).set ha) (fun g hg=>qJ _ _ _ _ (by rw[ha];intro e2;exact h.off (by rw[hg,e2]))) (NxtX.refl _ _)
theorem NO.app{w w':World}{B D:Nat}{X:Nat->Prop}{e:TypeId}{v v':Value}{rows:List NRow}{r:NRow}(h:NO w B D X e v rows)(hr:POff w D v.ownBlock X r.2.1 r.2.2 r.1.ins)(hD:D<w.heap.size)
 (Ab:w'.ownsRow B e 8 v' (rows.length+1) (A8 rows++encN r)) (hg:w.grownBy w' v.ownBlock) (hl:v'.ownBlock=v.ownBlock\/v'.ownBlock=some w.heap.size):NO w' B D X e v' (rows++[r])/\Kept D v.ownBlock noX w w'/\Nxt w v.ownBlock v'.ownBlock:=by
 have hN:Nxt w v.ownBlock v'.ownBlock:=by
  rcases hl with h1 | h1
  . exact Or.inl h1
  . exact Or.inr ⟨_,h1,qB _⟩
 have hk:Kept D v.ownBlock noX w w':=Kept.of_grown hg (fun k e=>.inr (.inl e));have hk':Kept D v.ownBlock X w w':=hk.more (fun k e=>e.elim);refine⟨⟨by rw[aT9,qG];exact Ab,fun x hx=>?_,?_⟩,hk,hN⟩
 . rcases xB.1 hx with hx | hx
   . exact (h.good x hx).keep hk' hN (NxtX.refl _ _)
   . rw[xI.1 hx];exact hr.keep hk' hN (NxtX.refl _ _)
 . rcases hl with h1 | h1
   . rw[h1];exact h.off
   . rw[h1];intro e2;injection e2 with e2;omega
theorem POff.less{w:World}{D:Nat}{go:Option Nat}{X X':Nat->Prop}{ao:Option Addr}{cap:Nat}{ps:List (Int × Int)}(h:POff w D go X ao cap ps)(hx:∀k,k<w.heap.size->X' k->X k):POff w D go X' ao cap ps:=
 h.keep (Kept.refl _ _ _ _) (Nxt.refl _ _) hx
theorem NO.less{w:World}{B D:Nat}{X X':Nat->Prop}{e:TypeId}{v:Value}{rows:List NRow}(h:NO w B D X e v rows)(hx:∀k,k<w.heap.size->X' k->X k):NO w B D X' e v rows:=
 ⟨h.own,fun r hr=>(h.good r hr).less hx,h.off⟩
theorem NO.nodes{w:World}{B D:Nat}{X:Nat->Prop}{e:TypeId}{v:Value}{rows:List NRow}(h:NO w B D X e v rows):D4 w v (rows.map (·.1)):=by
 have hl:(rows.map (·.1)).length=rows.length:=qM _;rcases h.own.2 with⟨rfl,h0⟩|⟨g,cap,cur,rfl,hb,hg,h1,h2,h3,h4⟩
 . exact⟨none,0,by rw[hl,h0],by omega,by simp[maxLen],fun hn=>absurd (hl.trans h0) hn⟩
 .
  refine⟨_,cap,by rw[hl],by omega,h2,fun _=>⟨g,0,rfl,fun j f hj=>?_⟩⟩;rw[qQ]at hj
  cases hr:rows[j]? with
  | none=>rw[hr]at hj;cases hj
  | some r=>
   rw[hr]at hj
   simp only[qu,qW]at hj
   subst hj
   have hjl:j<rows.length:=(gSm hr).1
   have c:∀i,i<8->w.cell? ⟨g,j*8+i,none⟩=(encN r)[i]?:=fun i hi=>by
    have:=h.own.cellAt (j*8+i) (by omega)
    rw[ab4 rows j r hr i hi]at this
    exact this
   refine⟨r.2.1,r.2.2,?_,(h.good r (mGt hr)).1⟩
   rw[qa]
   exact⟨c 0 (by omega),c 1 (by omega),c 2 (by omega),c 3 (by omega),c 4 (by omega),c 5 (by omega),c 6 (by omega),c 7 (by omega)⟩
end Go.Gs
namespace Go.Proofs.YtllgglolcgdehaaGreatDoor
open Go.RowKit Go.Gs Tryz
theorem bI1(c:Cmd)(w:World):
 Calls prog 142 #[c.v] w fun e w'=>e=.returned (.bool (N9 c.kind))/\Bq w w':=by
 obtain⟨k,word,n⟩:=c;unfold Cmd.v N9;simp only;by_cases h1:1<=k
 .
  by_cases h2:k<=5
  . rw[qd (show 1<=k/\k<=5 from ⟨h1,h2⟩)];go_enter Tryz.func142,Tryz.ntmps142;go_wp2;go_ret;exact⟨by first|rfl | simp | (simp;omega),i8⟩
  . rw[qU (show ¬(1<=k/\k<=5) from fun h=>h2 h.2)];go_enter Tryz.func142,Tryz.ntmps142;go_wp2;go_ret;exact⟨by first|rfl | simp | (simp;omega),i8⟩
 . rw[qU (show ¬(1<=k/\k<=5) from fun h=>h1 h.1)];go_enter Tryz.func142,Tryz.ntmps142;go_wp2;go_ret;exact⟨by first|rfl | simp | (simp;omega),i8⟩
theorem N6:(prog.info? 9).map (fun i=>(i.zero,i.size,i.bytes))=some (some (.string ⟨#[]⟩),1,16):=by kernel_rfl
theorem bZ2(ao:Option Addr)(cap:Nat)(w:World):
 Calls prog 147 #[.slice ao 0 cap] w fun e w'=>e=.returned (.slice none 0 0)/\w'=w:=by
 go_enter Tryz.func147,Tryz.ntmps147;go_wp2;go_loopw [3,4,9] (fun v4 s i wr=>v4=.slice none 0 0/\s=.int .i64 0/\i=.int .i64 0/\wr=w) (fun _ _ _ _=>0)
 case atStart=>exact⟨rfl,rfl,rfl,rfl⟩
 case round=>obtain⟨rfl,rfl,rfl,rfl⟩:=hrel;go_wp2;go_ret;exact⟨rfl,rfl⟩
theorem bz7(bs:List UInt8)(k st:Nat)(D:List (List UInt8))(h:k<bs.length)(hst:st<=k)(he:D++l7 ((bs.take k).drop st) (bs.drop k)=lines bs):
 (bs[k]=10->(D++[(bs.take k).drop st])++l7 ((bs.take (k+1)).drop (k+1)) (bs.drop (k+1))=lines bs) /\
 (bs[k]≠10->D++l7 ((bs.take (k+1)).drop st) (bs.drop (k+1))=lines bs):=by
 have hd:bs.drop k=bs[k]::bs.drop (k+1):=(qh h);rw[hd,l7]at he;constructor
 . intro e;rw[qF e]at he;rw[<- he];simp
 . intro e;rw[qA e]at he;rw[<- he,List.take_succ_eq_append_getElem h,List.drop_append_of_le_length (by simp;omega)]
theorem bL9(bs:List UInt8)(st:Nat)(D:List (List UInt8))(he:D++l7 ((bs.take bs.length).drop st) (bs.drop bs.length)=lines bs):
 (st<bs.length->D++[bs.drop st]=lines bs)/\(¬st<bs.length->D=lines bs):=by
 simp only[qZ,List.drop_length]at he;unfold l7 at he;constructor
 . intro h;rw[qA (by simp;omega)]at he;exact he
 . intro h;rw[qF (by simp;omega)]at he;simpa using he
theorem aM2(w:World)(b off st en cap:Nat)(bs:List UInt8)(hse:st<=en)(hen:en<=bs.length)
 (hc:∀j u,(bs.map U)[j]? = some u->w.cell? ⟨b,off+j,none⟩=some u):
 (convert 28 9 (.slice (some ⟨b,off+st,none⟩) (en-st) cap)).run prog w=.ok (S ((bs.take en).drop st)) w:=by
 have hl:((bs.take en).drop st).length=en-st:=by simp;omega
 have:=run_convert_bytes_back (P:=prog) w 28 9 5 ⟨b,off+st,none⟩ cap ((bs.take en).drop st) underlying28 underlying5 underlying9 (fun j hj=>by
  have Dp:(⟨b,off+st,none⟩:Addr).add j=⟨b,off+(st+j),none⟩:=by unfold Addr.add;split <;> simp_all [Nat.add_assoc]
  rw[Dp]
  have hj':st+j<bs.length:=by omega
  rw[hc (st+j) (U bs[st+j]) (by simp[hj'])]
  simp[U])
 rw[hl]at this;exact this
theorem bI2{w wr w1:World}{v v':Value}{D:List (List UInt8)}{l:List UInt8}{sx:ByteArray}{o:Obj}(Ab:wr.ownsRow w.heap.size 9 1 v D.length (D.map S))(Aa:Bq w wr)(hsx:Value.string sx=S l)
 (Ag:w1.ownsRow w.heap.size 9 1 v' (D.length+1) (D.map S++[.string sx])) (Af:(wr.alloc o).grownBy w1 v.ownBlock):
 w1.ownsRow w.heap.size 9 1 v' (D++[l]).length ((D++[l]).map S)/\Bq w w1:=by refine⟨by simpa[<- hsx]using Ag,?_⟩;exact (Aa.alloc (by have:=Aa.size;omega) o).grown Af (by have:=Aa.size;simp;omega) (fun k hk=>(Ab.lt k hk).1)
theorem bZ3(b off cap:Nat)(bs:List UInt8)(w:World)(h0:0<bs.length)(hle:bs.length<=1000000)(hcap:bs.length<=cap)(hcm:cap<=9223372036854775807)
 (hc:∀j u,(bs.map U)[j]? = some u->w.cell? ⟨b,off+j,none⟩=some u):
 Calls prog 147 #[.slice (some ⟨b,off,none⟩) bs.length cap] w fun e w'=>∃r,e=.returned r /\
  w'.ownsRow w.heap.size 9 1 r (lines bs).length ((lines bs).map S)/\Bq w w':=by
 obtain⟨i0,hi,hz0,hz1,hz2⟩:=info_parts N6;have hbB:b<w.heap.size:=bLt w _ (hc 0 (U bs[0]) (by simp[h0]));generalize hn:bs.length=n at *;go_enter Tryz.func147,Tryz.ntmps147;go_wp2
 go_loopw [3,4,9] (fun v4 s i wr=>∃(k st:Nat)(D:List (List UInt8)),st<=k/\k<=n/\i=.int .i64 k/\s=.int .i64 st/\wr.ownsRow w.heap.size 9 1 v4 D.length (D.map S)/\Bq w wr/\D.length<=k/\Hid (D++l7 ((bs.take k).drop st) (bs.drop k)=lines bs))
  (fun _ _ i _=>n-(intOf i).toNat)
 case atStart=>exact⟨0,0,[],qB _,qP _,rfl,rfl,World.ownsRow_nil _ _ _ _,qI _ _,qB _,by simp[Hid,lines]⟩
 case round=>
  obtain⟨k,st,D,hsk,hk,rfl,rfl,Ab,Aa,hDk,Ge⟩:=hrel;have hcr:∀j u,(bs.map U)[j]? = some u->wr.cell? ⟨b,off+j,none⟩=some u:=fun j u hu=>(Aa.cell (by exact hbB)).trans (hc j u hu);by_cases hlt:k<n
  .
   have Ac:wr.cell? ⟨b,off+k,none⟩=some (.int .u8 ((bs[k]'(by omega)).toNat:Int)):=hcr k _ (by simp[U,hn,hlt]);have As:=bz7 bs k st D (by omega) hsk Ge.out;have Jh:Hid _:=As;clear As
   obtain⟨sx,hsx,Ep⟩:∃sx,Hid (Value.string sx=S ((bs.take k).drop st))/\(convert 28 9 (.slice (some ⟨b,off+st,none⟩) (k-st) (cap-st))).run prog wr=.ok (.string sx) wr:=
    ⟨_,rfl,aM2 wr b off st k (cap-st) bs hsk (by omega) hcr⟩
   clear hcr hc Ge;by_cases Hk:bs[k]'(by omega)=10
   .
    have Es:wr.cell? ⟨b,off+k,none⟩=some (.int .u8 10):=by rw[Ac,Hk];rfl
    have Hr:Hid _:=(Jh.out).1 Hk;clear Ac Jh Hk;go_wp2_with (at_builtin;refine qx _ rfl _ _ 53 rfl w.heap.size 9 i0 (.string ⟨#[]⟩) 1 16 underlying53 hi hz0 hz1 hz2 rfl (by decide) _ _ _ rfl (Ab.alloc _) ⟨wr.heap.size,0,none⟩ 1 1 [.string sx] rfl rfl ?c1 ?c2 ?c3 ?c4 ?c5 ?_)
    case c1=>
     intro j u hj
     match j,hj with
     | 0,hj=>simp at hj;subst hj;simp[Addr.add]
    case c2=>intro u hu;simp at hu;subst hu;rfl
    case c3=>unfold maxLen;omega
    case c4=>omega
    case c5=>have:=Aa.size;simp;omega
    . intro v' w1 Ag Af _;have R:=bI2 Ab Aa hsx.out Ag Af;clear Ag Af Ab Aa hsx Ep Es;go_wp2;go_roundw
      case rel=>exact⟨k+1,k+1,D++[(bs.take k).drop st],qB _,by omega,by go_num,by go_num,R.1,R.2,by simp;omega,Hr.out⟩
      case measure=>simp[intOf];omega
   . have hne:(((bs[k]'(by omega)).toNat:Int)==10)=false:=by rw[beq_eq_false_iff_ne];intro e;exact Hk (UInt8.toNat_inj.1 (show _=10 by omega))
     have Hr:Hid _:=(Jh.out).2 Hk;clear Jh Hk Ep hsx;go_wp2;go_roundw
     case rel=>exact⟨k+1,st,D,by omega,by omega,by go_num,rfl,Ab,Aa,by omega,Hr.out⟩
     case measure=>simp[intOf];omega
  .
   have hkn:k=n:=by omega
   subst hkn;subst hn;have He:Hid _:=bL9 bs st D Ge.out;clear Ge hc;by_cases hst:st<bs.length
   .
    obtain⟨sx,hsx,Ep⟩:∃sx,Hid (Value.string sx=S (bs.drop st))/\(convert 28 9 (.slice (some ⟨b,off+st,none⟩) (bs.length-st) (cap-st))).run prog wr=.ok (.string sx) wr:=
     ⟨_,rfl,by have:=aM2 wr b off st bs.length (cap-st) bs (by omega) (qB _) hcr;rwa [qZ]at this⟩
    have Hr:Hid _:=(He.out).1 hst;clear hcr He;go_wp2_with (at_builtin;refine qx _ rfl _ _ 53 rfl w.heap.size 9 i0 (.string ⟨#[]⟩) 1 16 underlying53 hi hz0 hz1 hz2 rfl (by decide) _ _ _ rfl (Ab.alloc _) ⟨wr.heap.size,0,none⟩ 1 1 [.string sx] rfl rfl ?d1 ?d2 ?d3 ?d4 ?d5 ?_)
    case d1=>
     intro j u hj
     match j,hj with
     | 0,hj=>simp at hj;subst hj;simp[Addr.add]
    case d2=>intro u hu;simp at hu;subst hu;rfl
    case d3=>unfold maxLen;omega
    case d4=>omega
    case d5=>have:=Aa.size;simp;omega
    . intro v' w1 Ag Af _;have R:=bI2 Ab Aa hsx.out Ag Af;clear Ag Af Ab Aa hsx Ep;go_wp2;go_ret;rw[Hr.out]at R;exact⟨v',rfl,R.1,R.2⟩
   . have Hr:Hid _:=(He.out).2 hst;clear hcr He;go_wp2;go_ret;rw[Hr.out]at Ab;exact⟨_,rfl,Ab,Aa⟩
theorem aq7(v:Value)(bs:List UInt8)(w:World)(hr:Reads w v bs.length (bs.map U))(hle:bs.length<=1000000):
 Calls prog 147 #[v] w fun e w'=>∃r,e=.returned r /\
  w'.ownsRow w.heap.size 9 1 r (lines bs).length ((lines bs).map S)/\Bq w w':=by
 obtain⟨_,ao,cap,rfl,h2,h3,h4⟩:=hr;by_cases h0:bs.length=0
 . have hb:bs=[]:=qi h0;subst hb;refine (bZ2 ao cap w).mono ?_;rintro e w'⟨rfl,rfl⟩;exact⟨_,rfl,by simpa[lines,l7]using World.ownsRow_nil _ _ _ _,qI _ _⟩
 . obtain⟨b,off,rfl,hc⟩:=h4 h0;exact bZ3 b off cap bs w (by omega) hle h2 (by simpa[maxLen]using h3) hc
theorem bm6(v:Value)(bs:List UInt8)(w:World)(hr:Reads w v bs.length (bs.map U))(hle:bs.length<=4000):
 Calls prog 155 #[v] w fun e w'=>∃r,e=.returned (.tuple #[r,.int .i64 0]) /\
  w'.ownsRow w.heap.size 9 1 r (lines bs).length ((lines bs).map S)/\Bq w w':=by have hA:=fun(W:World)(h:Reads W v bs.length (bs.map U))=>aq7 v bs W h (by omega);obtain⟨_,ao,cap,rfl,h2,h3,h4⟩:=id hr;have HA:Hid _:=hA;have HR:=qH hr;obtain⟨N,hN⟩:=qE ((lines bs).length);generalize bs.length=n at *;clear hr hA h3 h4 hN;go_enter Tryz.func155,Tryz.ntmps155;go_wp2_with fail;refine (HA.out _ HR.out).mono ?_;rintro e w1⟨r,rfl,h5,h6⟩;have H5:Hid _:=h5;have H6:=qH h6;clear h5 h6 HA HR;go_wp2_with fail;go_ret2;exact⟨r,rfl,H5.out,H6.out⟩
open Go.Lib
theorem cp3:(prog.info? 5).map (fun i=>(i.zero,i.size,i.bytes))=some (some (.int .u8 0),1,1):=by kernel_rfl
theorem av9(ao:Option Addr)(cap:Nat)(w:World):
 Calls prog 152 #[.slice ao 0 cap] w fun e w'=>e=.returned (.slice none 0 0)/\w'=w:=by
 go_enter Tryz.func152,Tryz.ntmps152;go_wp2;go_loopw [3,8] (fun v3 i wr=>v3=.slice none 0 0/\i=.int .i64 0/\wr=w) (fun _ _ _=>0)
 case atStart=>exact⟨rfl,rfl,rfl⟩
 case round=>obtain⟨rfl,rfl,rfl⟩:=hrel;go_wp2;go_ret;exact⟨rfl,rfl⟩
theorem aJ2(ls:List (List UInt8))(k:Nat)(h:k<ls.length):ended (ls.take (k+1))=ended (ls.take k)++ls[k]++[10]:=by rw[List.take_succ_eq_append_getElem h,G6];simp[ended]
theorem aU0(ls:List (List UInt8))(k:Nat):(ended (ls.take k)).length<=(ended ls).length:=by have:=ag8 ls 0 k;simpa using this
theorem cj7{w wr w1 w2:World}{v v1 v2:Value}{n:Nat}{E l:List UInt8}{o:Obj}
 (Ab:wr.ownsRow w.heap.size 5 1 v n (E.map U)) (Aa:Bq w wr)
 (Bg:w1.ownsRow w.heap.size 5 1 v1 (n+l.length) (E.map U++l.map U)) (Dj:wr.grownBy w1 v.ownBlock)
 (Bt:w2.ownsRow w.heap.size 5 1 v2 (n+l.length+1) (E.map U++(l.map U++[.int .u8 10]))) (Ak:(w1.alloc o).grownBy w2 v1.ownBlock):
 w2.ownsRow w.heap.size 5 1 v2 (n+l.length+1) ((E++l++[10]).map U)/\Bq w w2:=by have hb1:Bq w w1:=Aa.grown Dj (by have:=Aa.size;omega) (fun k hk=>(Ab.lt k hk).1);refine⟨by simpa[U]using Bt,?_⟩;exact (hb1.alloc (by have:=hb1.size;omega) o).grown Ak (by have:=hb1.size;simp;omega) (fun k hk=>(Bg.lt k hk).1)
theorem bz8(b off cap:Nat)(ls:List (List UInt8))(w:World)(h0:0<ls.length)(hle:(ended ls).length<=1000000)
 (hc:∀j u,(ls.map S)[j]? = some u->w.cell? ⟨b,off+j,none⟩=some u):
 Calls prog 152 #[.slice (some ⟨b,off,none⟩) ls.length cap] w fun e w'=>∃r,e=.returned r /\
  w'.ownsRow w.heap.size 5 1 r (ended ls).length ((ended ls).map U)/\Bq w w':=by
 obtain⟨i0,hi,hz0,hz1,hz2⟩:=info_parts cp3;have hbB:b<w.heap.size:=bLt w _ (hc 0 (S ls[0]) (by simp[h0]));have hnl:ls.length<=1000000:=qw (T8 ls) hle;generalize hn:ls.length=n at *;go_enter Tryz.func152,Tryz.ntmps152;go_wp2
 go_loopw [3,8] (fun v3 i wr=>∃(k m:Nat),k<=n/\i=.int .i64 k/\Hid (m=(ended (ls.take k)).length)/\wr.ownsRow w.heap.size 5 1 v3 m ((ended (ls.take k)).map U)/\Bq w wr)
  (fun _ i _=>n-(intOf i).toNat)
 case atStart=>exact⟨0,0,qP _,rfl,by simp[Hid,ended],by simpa[ended]using World.ownsRow_nil _ _ _ _,qI _ _⟩
 case round=>
  obtain⟨k,m,hk,rfl,hm,Ab,Aa⟩:=hrel;by_cases hlt:k<n
  .
   have Ac:wr.cell? ⟨b,off+k,none⟩=some (.string ⟨(ls[k]'(by omega)).toArray⟩):=(Aa.cell (by exact hbB)).trans (hc k _ (by simp[S,hn,hlt]));have Hs:Hid _:=aJ2 ls k (by omega);have Oo:=aU0 ls (k+1);have hlen:m+(ls[k]'(by omega)).length+1<=1000000:=by rw[Hs.out]at Oo;simp only[qG,qY,qy,hm.out]at *;omega
   clear Oo hc;generalize hl:ls[k]'(by omega)=l at *;have Hl:Hid _:=hl;clear hl;obtain⟨sx,hsx⟩:=qE (⟨l.toArray⟩:ByteArray);have hsz:sx.size=l.length:=by rw[hsx];simp[ByteArray.size]
   have hcs:strCells sx=l.map U:=by rw[hsx];simp[strCells,U]
   rw[<- hsx]at Ac;have Hsx:Hid _:=hsx;have Hsz:Hid _:=hsz;have Hcs:Hid _:=hcs;have hb63:m+sx.size+1<=1000000:=by omega
   clear hsx hsz hcs;generalize hE:(ended (ls.take k))=E at *;have HE:Hid _:=hE;clear hE;have hsz0:=Aa.size;go_wp2_with (first|(at_builtin;refine wpList_append_own_string _ rfl (.tmp 12) (.tmp 13) 28 9 rfl w.heap.size 5 i0 underlying28 underlying9 hi hz0 hz1 hz2 _ _ _ rfl Ab sx rfl (by unfold maxLen;omega) (by omega) (by omega) ?_;intro v1 w1 Bg Dj _)|(at_builtin;refine qx _ rfl (.tmp 15) (.tmp 16) 28 rfl w.heap.size 5 i0 (.int .u8 0) 1 1 underlying28 hi hz0 hz1 hz2 rfl (by decide) _ _ _ rfl (Bg.alloc _) ⟨w1.heap.size,0,none⟩ 1 1 [.int .u8 10] rfl rfl ?c1 ?c2 ?c3 ?c4 ?c5 ?_))
   case c1=>
    intro j u hj
    match j,hj with
    | 0,hj=>simp at hj;subst hj;simp[Addr.add]
   case c2=>intro u hu;simp at hu;subst hu;rfl
   case c3=>unfold maxLen;omega
   case c4=>omega
   case c5=>have:=Dj.size;simp;omega
   . intro v2 w2 Bt Ak _;rw[Hcs.out,Hsz.out]at Bg Bt;have R:=cj7 Ab Aa Bg Dj Bt Ak;rw[<- Hs.out]at R;have hm2:m+l.length+1=(ended (ls.take (k+1))).length:=by rw[Hs.out,hm.out];simp;omega
     have Hm2:Hid _:=hm2;clear hm2 Bg Bt Dj Ak Ab Aa Ac;go_wp2;go_roundw
     case rel=>exact⟨k+1,m+l.length+1,by omega,by go_num,Hm2,R.1,R.2⟩
     case measure=>simp[intOf];omega
  . have hkn:k=n:=by omega
    subst hkn;subst hn;rw[qZ]at hm Ab;clear hc;go_wp2;go_ret;rw[hm.out]at Ab;exact⟨_,rfl,Ab,Aa⟩
theorem U7(v:Value)(ls:List (List UInt8))(w:World)(hr:Reads w v ls.length (ls.map S))(hle:(ended ls).length<=1000000):
 Calls prog 152 #[v] w fun e w'=>∃r,e=.returned r /\
  w'.ownsRow w.heap.size 5 1 r (ended ls).length ((ended ls).map U)/\Bq w w':=by
 obtain⟨_,ao,cap,rfl,h2,h3,h4⟩:=hr;by_cases h0:ls.length=0
 . have hb:ls=[]:=qi h0;subst hb;refine (av9 ao cap w).mono ?_;rintro e w'⟨rfl,rfl⟩;exact⟨_,rfl,by simpa[ended]using World.ownsRow_nil _ _ _ _,qI _ _⟩
 . obtain⟨b,off,rfl,hc⟩:=h4 h0;exact bz8 b off cap ls w (by omega) hle hc
theorem an5(l:List UInt8):(0<=Lib.indexByte l 10 ↔ (10:UInt8)∈l):=by
 induction l with
 | nil=>simp[Lib.indexByte]
 | cons c l ih=>
  unfold Lib.indexByte
  by_cases h:c=10
  . simp[h]
  .
   have hb:(c==10)=false:=by simp[h]
   have hg:=Lib.indexByte_ge l 10
   have hm:(10:UInt8)∈c::l ↔ (10:UInt8)∈l:=by
    rw[xP]
    exact⟨fun k=>k.resolve_left (fun e=>h e.symm),Or.inr⟩
   rw[hm,<- ih,hb]
   by_cases hi:Lib.indexByte l 10 = -1
   . simp[hi]
   . have hb2:(Lib.indexByte l 10 == -1)=false:=by simp[hi]
     rw[hb2]
     simp only[Bool.false_eq_true,if_false]
     omega
theorem bZ4(ls:List (List UInt8))(k room:Nat)(h:k<ls.length):bad room (ls.drop k)=if (10:UInt8)∈ls[k] then 4 else if room<=ls[k].length then 2 else bad (room-(ls[k].length+1)) (ls.drop (k+1)):=by rw[qh h,bad]
theorem bz9(ao:Option Addr)(cap:Nat)(w:World):
 Calls prog 156 #[.slice ao 0 cap] w fun e w'=>e=.returned (.tuple #[.slice none 0 0,.int .i64 0])/\w'=w:=by
 go_enter Tryz.func156,Tryz.ntmps156;go_wp2;go_loopw [4,9] (fun v3 i wr=>v3=.int .i64 4000/\i=.int .i64 0/\wr=w) (fun _ _ _=>0)
 case atStart=>exact⟨rfl,rfl,rfl⟩
 case round=>
  obtain⟨rfl,rfl,rfl⟩:=hrel;go_wp2_with (go_at_call 152;refine (av9 _ _ _).mono ?_;rintro e w'⟨rfl,rfl⟩)
  go_ret2;exact⟨rfl,rfl⟩
theorem bA0(b off cap:Nat)(ls:List (List UInt8))(w:World)(h0:0<ls.length)(hcap:ls.length<=cap)(hcm:cap<=9223372036854775807)
 (hc:∀j u,(ls.map S)[j]? = some u->w.cell? ⟨b,off+j,none⟩=some u) (hsz:∀s∈ls,s.length<=9223372036854775807):
 Calls prog 156 #[.slice (some ⟨b,off,none⟩) ls.length cap] w fun e w'=>
  (bad 4000 ls≠0/\e=.returned (.tuple #[.slice none 0 0,.int .i64 (bad 4000 ls)])/\w'=w) \/
  (bad 4000 ls=0/\∃r,e=.returned (.tuple #[r,.int .i64 0])/\w'.ownsRow w.heap.size 5 1 r (ended ls).length ((ended ls).map U)/\Bq w w'):=by
 have hrd:Reads w (.slice (some ⟨b,off,none⟩) ls.length cap) ls.length (ls.map S):=⟨by simp,_,cap,rfl,hcap,by simpa[maxLen]using hcm,fun _=>⟨b,off,rfl,hc⟩⟩;have Hrd:Hid _:=hrd;clear hrd;generalize hn:ls.length=n at *;go_enter Tryz.func156,Tryz.ntmps156;go_wp2
 go_loopw [4,9] (fun t i wr=>∃(k room:Nat),k<=n/\room<=4000/\i=.int .i64 k/\t=.int .i64 room/\wr=w/\Hid (bad 4000 ls=bad room (ls.drop k)))
  (fun _ i _=>n-(intOf i).toNat)
 case atStart=>exact⟨0,4000,qP _,qB _,rfl,rfl,rfl,rfl⟩
 case round=>
  obtain⟨k,room,hk,Bh,rfl,rfl,rfl,Bj⟩:=hrel;by_cases hlt:k<n
  .
   have Ac:=hc k (S (ls[k]'(by omega))) (by simp[hn,hlt]);unfold S at Ac;have As:Hid _:=bZ4 ls k room (by omega);have Ii:=hsz (ls[k]'(by omega)) (zH _);have hix:=an5 (ls[k]'(by omega));clear hc hsz;generalize hl:ls[k]'(by omega)=l at *;have Hl:Hid _:=hl;clear hl;obtain⟨sx,hsx⟩:=qE (⟨l.toArray⟩:ByteArray);have hsz:sx.size=l.length:=by rw[hsx];simp[ByteArray.size]
   have Eg:∀w,Calls prog 202 #[.string sx,.int .u8 10] w fun e w'=>e=.returned (.int .i64 (Lib.indexByte l 10))/\w'=w:=by intro w;have:=Tryz.strings_IndexByte sx 10 w;rw[hsx]at this ⊢;exact this
   rw[<- hsx]at Ac;rw[<- hsz]at Ii;have Hsz:Hid _:=hsz;have Ku:Hid _:=Eg;clear hsx hsz Eg;by_cases hf:(10:UInt8)∈l
   . have hi0:=hix.2 hf;generalize Lib.indexByte l 10=ix at *;have Hb:Hid (bad 4000 ls=4):=by show _=_;rw[Bj.out,As.out,qF hf]
     clear hix As Bj hf;go_wp2_with (go_at_call 202;refine (Ku.out _).mono ?_;rintro e w'⟨rfl,rfl⟩)
     go_ret2;exact Or.inl ⟨by rw[Hb.out];decide,by rw[Hb.out];rfl,rfl⟩
   .
    have hi0:¬0<=Lib.indexByte l 10:=fun h=>hf (hix.1 h);generalize Lib.indexByte l 10=ix at *;by_cases hlr:room<=l.length
    . have Hb:Hid (bad 4000 ls=2):=by show _=_;rw[Bj.out,As.out,qA hf,qF hlr]
      have hlr':room<=sx.size:=by rw[Hsz.out];exact hlr
      clear hix As Bj hf hlr;go_wp2_with (go_at_call 202;refine (Ku.out _).mono ?_;rintro e w'⟨rfl,rfl⟩)
      go_ret2;exact Or.inl ⟨by rw[Hb.out];decide,by rw[Hb.out];rfl,rfl⟩
    . have Hb:Hid (bad 4000 ls=bad (room-(sx.size+1)) (ls.drop (k+1))):=by show _=_;rw[Hsz.out,Bj.out,As.out,qA hf,qA hlr]
      have hlr':sx.size<room:=by rw[Hsz.out];omega
      clear hix As Bj hf hlr;go_wp2_with (go_at_call 202;refine (Ku.out _).mono ?_;rintro e w'⟨rfl,rfl⟩)
      go_roundw
      case rel=>exact⟨k+1,room-(sx.size+1),by omega,by omega,by go_num,by go_num,(by first|exact rfl | trivial),Hb⟩
      case measure=>simp[intOf];omega
  .
   have hkn:k=n:=by omega
   subst hkn;subst hn;have Hb:Hid (bad 4000 ls=0):=by show _=_;rw[Bj.out];simp[bad]
   have Hle:Hid _:=(cp2 ls 4000 Hb.out).1;clear hc Bj;go_wp2_with (go_at_call 152;refine (U7 _ ls _ Hrd.out (by have:=Hle.out;omega)).mono ?_;rintro e w'⟨r,rfl,Ab,Aa⟩)
   go_ret2;exact Or.inr ⟨Hb.out,_,rfl,Ab,Aa⟩
theorem bm7(v:Value)(ls:List (List UInt8))(w:World)(hr:Reads w v ls.length (ls.map S))(hsz:∀s∈ls,s.length<=9223372036854775807):
 Calls prog 156 #[v] w fun e w'=>
  (bad 4000 ls≠0/\e=.returned (.tuple #[.slice none 0 0,.int .i64 (bad 4000 ls)])/\w'=w) \/
  (bad 4000 ls=0/\∃r,e=.returned (.tuple #[r,.int .i64 0])/\w'.ownsRow w.heap.size 5 1 r (ended ls).length ((ended ls).map U)/\Bq w w'):=by
 obtain⟨_,ao,cap,rfl,h2,h3,h4⟩:=hr;by_cases h0:ls.length=0
 . have hb:ls=[]:=qi h0;subst hb;refine (bz9 ao cap w).mono ?_;rintro e w'⟨rfl,rfl⟩;exact Or.inr ⟨rfl,_,rfl,by simpa[ended]using World.ownsRow_nil _ _ _ _,qI _ _⟩
 . obtain⟨b,off,rfl,hc⟩:=h4 h0;exact bA0 b off cap ls w (by omega) h2 (by simpa[maxLen]using h3) hc hsz
theorem aC7{w:World}{g n cap lo hi:Nat}{xs:List Value}(h:Reads w (.slice (some ⟨g,0,none⟩) n cap) n xs)(h1:lo<=hi)(h2:hi<=n):
 Reads w (.slice (some ⟨g,lo,none⟩) (hi-lo) (cap-lo)) (hi-lo) ((xs.take hi).drop lo):=by
 obtain⟨hl,ao,cap',e,h3,h4,h5⟩:=h;simp only[xZ,true_and]at e;obtain⟨rfl,rfl⟩:=e;refine⟨by simp;omega,_,_,rfl,by omega,by omega,fun hn=>?_⟩;obtain⟨b,off,e,hc⟩:=h5 (by omega);simp only[qW,Addr.mk.injEq,and_true]at e;obtain⟨rfl,rfl⟩:=e;refine⟨g,lo,rfl,fun j u hu=>?_⟩;rw[xd,xR]at hu;split at hu
 . have:=hc _ _ hu;rwa [qa]at this
 . cases hu
theorem D5{w w':World}{base:Nat}{e:TypeId}{size:Nat}{v:Value}{n:Nat}{xs:List Value}(h:w.ownsRow base e size v n xs)(hb:Bq w w'):w'.ownsRow base e size v n xs:=
 h.kept (row:=none) ⟨hb.os,hb.tape,hb.output,hb.size,fun k hk _=>hb.block k hk⟩ (by cases hv:v.ownBlock <;> simp)
theorem aq8(w:World)(C:Array Value)(e:TypeId)(fr:Nat × Nat)(n:Nat)(hn:C.size=n)(hm:n<=1000000):Reads (w.alloc (.cells C e fr)) (.slice (some ⟨w.heap.size,0,none⟩) n n) n C.toList:=by refine⟨by simpa using hn,_,n,rfl,qB _,by unfold maxLen;omega,fun _=>⟨w.heap.size,0,rfl,fun j u hu=>?_⟩⟩;rw[qV _ _ _ _ _ _ (qN w _)];simpa using hu
theorem bA1{w:World}{b off n cap:Nat}{bs:List UInt8}(h:Reads w (.slice (some ⟨b,off,none⟩) n cap) n (bs.map U))(hn:n≠0):
 (convert 28 9 (.slice (some ⟨b,off,none⟩) n cap)).run prog w=.ok (.string ⟨bs.toArray⟩) w:=by
 obtain⟨hl,ao,cap',e,_,_,h4⟩:=h;simp only[xZ,true_and]at e;obtain⟨rfl,rfl⟩:=e;obtain⟨b',off',e,hc⟩:=h4 hn;simp only[qW,Addr.mk.injEq,and_true]at e;obtain⟨rfl,rfl⟩:=e;have hl':bs.length=n:=by simpa using hl
 have:=aM2 w b off 0 n cap bs (qP _) (by omega) hc;simpa[<- hl',S]using this
theorem S7{w w':World}(h:w.ShapedOpen prog)(hb:Bq w w'):w'.ShapedOpen prog:=
 h.keptBut (hb.frame (fun _=>False)) (fun _ hp=>hp.elim)
theorem ah6{w:World}{v:Value}{bs:List UInt8}(h:Reads w v bs.length (bs.map U)):
 (convert 28 9 v).run prog w=.ok (.string ⟨bs.toArray⟩) w:=by
 obtain⟨hl,ao,cap,rfl,h2,h3,h4⟩:=h;by_cases h0:bs.length=0
 .
  have hb:bs=[]:=qi h0;subst hb
  cases ao with
  | none=>exact run_convert_bytes_nil (P:=prog) w 28 5 underlying28 underlying5 _ _ 9 underlying9
  | some a=>exact run_convert_bytes_back (P:=prog) w 28 9 5 a cap [] underlying28 underlying5 underlying9 (fun j hj=>absurd hj (Nat.not_lt_zero _))
 . obtain⟨b,off,rfl,hc⟩:=h4 h0;exact bA1 ⟨hl,_,cap,rfl,h2,h3,fun _=>⟨b,off,rfl,hc⟩⟩ h0
theorem aX1(l:List ByteArray):l.map Value.string=(l.map (·.data.toList)).map S:=by rw[xh];apply zJ;intro s _;simp[S]
theorem aM3{w:World}{g n cap m:Nat}{xs:List Value}(h:Reads w (.slice (some ⟨g,0,none⟩) n cap) n xs)(h1:m<=n):Reads w (.slice (some ⟨g,0,none⟩) m cap) m (xs.take m):=by have:=aC7 h (qP m) h1;simpa using this
theorem bm8(w:World)(s:ByteArray)(cap:Nat)(fr:Nat × Nat)(hcap:s.size<=cap)(hm:cap<=maxLen):
 Reads (w.alloc (.cells (bytesRow s cap) 5 fr)) (.slice (some ⟨w.heap.size,0,none⟩) s.size cap) s.size (s.data.toList.map U):=by
 refine⟨by rw[qM];exact xY,_,cap,rfl,hcap,hm,fun _=>⟨w.heap.size,0,rfl,fun j u hu=>?_⟩⟩;rw[qV _ _ _ _ _ _ (qN w _)];have hj:j<s.data.size:=by have:=(gSm hu).1;simpa using this
 rw[qa];unfold bytesRow;rw[Array.getElem?_append_left (by simpa using hj)];simp only[qQ,xk]at hu;rw[Array.getElem?_map];exact hu
def str(l:List UInt8):ByteArray:=⟨l.toArray⟩
theorem run_append_nil{P:Program}{w:World}(base:Nat)(t ty e:TypeId)(i:TypeInfo)(size c:Nat)(ht:P.underlying t=some (.slice e))(hi:P.info? e=some i)(v:Value)(n:Nat)(xs:List Value)(Ab:w.ownsRow base e size v n xs):
 (Builtin.append_ #[t,t] ty #[v,.slice none 0 c]).run P w=.ok v w:=by
 rcases Ab.2 with⟨rfl,rfl⟩|⟨g,cap,cur,rfl,_,_,hnc,_⟩
 . simp[Builtin.append_,run_underlying ht,sizeOf,typeInfo,hi,Builtin.lenOf,Builtin.firstCells]
 . simp[Builtin.append_,run_underlying ht,sizeOf,typeInfo,hi,Builtin.lenOf,Builtin.firstCells,hnc,storeCells]
theorem aM4{P:Program}{w:World}{ops:Array Oper}{rest:List Oper}{o:Oper}{a:Act}{Q:Exit->Act->World->Prop}(hgd:o.guard=none)(s x:Operand)(t:TypeId)
 (ho:o.op=.call { callee:=.builtin .append,args:=#[s,x],argTypes:=#[t,t] }) (base:Nat) (e:TypeId) (i:TypeInfo) (size c:Nat) (ht:P.underlying t=some (.slice e)) (hi:P.info? e=some i)
 (v:Value) (n:Nat) (xs:List Value) (hs:a.eval s=v) (Ab:w.ownsRow base e size v n xs) (hx:a.eval x=.slice none 0 c) (h:wpList P ops Q rest (a.put o.dst v) w):wpList P ops Q (o::rest) a w:=by refine wpList_plain hgd fun K hK=>?_;have Aj:=run_append_nil (P:=P) (w:=w) base t o.type e i size c ht hi v n xs Ab;unfold Oper.wp;simp[execOp,ho,resolve,invoke,builtin,hs,hx,Aj,Result.andThen];exact hK _ _ h
theorem aq9{α:Type}{pss:List (List α)}{k:Nat}{p:List α}(h:pss[k]? = some p):(pss.take (k+1)).flatten=(pss.take k).flatten++p:=by rw[qX,h];simp
theorem cj8{α:Type}(pss:List (List α))(k:Nat):((pss.take k).flatten).length<=(pss.flatten).length:=by
 conv=>rhs;rw[<- qk k pss,List.flatten_append]
 simp
def RList{α:Type}(w:World)(v:Value)(f:α->Value)(pss:List (List α)):Prop:=
 ∃us:List Value,Reads w v pss.length us/\∀(j:Nat)(p:List α),pss[j]? = some p->∃u,us[j]? = some u/\Reads w u p.length (p.map f)
theorem RList.below{α:Type}{w w':World}{v:Value}{f:α->Value}{pss:List (List α)}(h:RList w v f pss)(hb:Bq w w'):RList w' v f pss:=by obtain⟨us,h1,h2⟩:=h;refine⟨us,h1.below hb,fun j p hj=>?_⟩;obtain⟨u,h3,h4⟩:=h2 j p hj;exact⟨u,h3,h4.below hb⟩
theorem RList.shape{α:Type}{w:World}{v:Value}{f:α->Value}{pss:List (List α)}(h:RList w v f pss):∃ao cap,v=.slice ao pss.length cap/\pss.length<=cap/\cap<=maxLen:=by obtain⟨us,⟨_,ao,cap,h2,h3,h4,_⟩,_⟩:=h;exact⟨ao,cap,h2,h3,h4⟩
theorem RList.at{α:Type}{w:World}{ao:Option Addr}{n cap:Nat}{f:α->Value}{pss:List (List α)}(h:RList w (.slice ao n cap) f pss){k:Nat}{p:List α}(hk:pss[k]? = some p):
 ∃b off au cu,ao=some ⟨b,off,none⟩/\w.cell? ⟨b,off+k,none⟩=some (.slice au p.length cu)/\Reads w (.slice au p.length cu) p.length (p.map f):=by obtain⟨us,⟨h1,ao',cap',e,_,_,h5⟩,h2⟩:=h;injection e with e1 e2 e3;subst e1;obtain⟨u,hu,hr⟩:=h2 k p hk;obtain⟨hkl,_⟩:=gSm hk;obtain⟨b,off,hao,hc⟩:=h5 (by omega);obtain⟨hl,au,cu,rfl,hr'⟩:=hr;exact⟨b,off,au,cu,hao,hc k _ hu,hl,au,cu,rfl,hr'⟩
theorem J4{α:Type}{pss:List (List α)}{p:List α}(h:p∈pss):p.length<=pss.flatten.length:=by obtain⟨s,t,rfl⟩:=List.append_of_mem h;simp;omega
theorem aw0{α:Type}{pss:List (List α)}{k:Nat}{p:List α}(h:pss[k]? = some p):((pss.take k).flatten).length+p.length<=pss.flatten.length:=by have:=cj8 pss (k+1);rw[aq9 h,qG]at this;exact this
theorem bm9(v:Value)(pss:List (List (List UInt8)))(w:World)(hp:RList w v S pss)(hn:pss.length<=1000)(hb:pss.flatten.length<=1000000000000000000):
 Calls prog 251 #[v] w fun e w'=>e=.returned (.int .i64 (pss.flatten.length:Int))/\w'=w:=by
 obtain⟨ao,cap,rfl,hc1,hc2⟩:=hp.shape;have HP:=qH hp;obtain⟨N,hN⟩:=qE pss.length;have HN:=qH hN;have hN4:N<=1000:=by omega
 have HT:=qH hb;rw[<- hN];clear hN hp hn hc1 hc2 hb;go_enter Tryz.func251,Tryz.ntmps251;go_wp2_with fail
 go_loopw [3,8] (fun s i wr=>∃k:Nat,∃m:Nat,k<=N/\m<=1000000000000000000/\i=.int .i64 k/\s=.int .i64 m/\wr=w/\Hid (m=((pss.take k).flatten).length))
  (fun _ i _=>N-(intOf i).toNat)
 case atStart=>exact⟨0,0,qP _,by omega,rfl,rfl,rfl,(show _=_ from by simp)⟩
 case round=>
  obtain⟨k,m,hk,hm,rfl,rfl,hw,hmk⟩:=hrel;obtain rfl:w=wr:=hw.symm;clear hw;by_cases hlt:k<N
  .
   obtain⟨p,hpk⟩:∃p,pss[k]? = some p:=⟨_,gEl (by have:=HN.out;omega)⟩;have Oq:m+p.length<=1000000000000000000:=by have h1:=aw0 hpk;have h2:=hmk.out;have h3:=HT.out;omega
   have HS:=qH (show m+p.length=((pss.take (k+1)).flatten).length from by rw[aq9 hpk,qG,<- hmk.out]);obtain⟨b,off,au,cu,rfl,Ac,_⟩:=HP.out.at hpk;clear hpk hmk;generalize p.length=pl at *;go_wp2_with fail;go_roundw
   case rel=>exact⟨k+1,m+pl,by omega,by omega,by go_num,by go_num,by simp,HS.out⟩
   case measure=>simp[intOf];omega
  .
   have hkN:k=N:=by omega
   have HD:=qH (show m=pss.flatten.length from by
    have h:=hmk.out
    rw[hkN,HN.out,qZ]at h
    exact h)
   clear hmk;go_wp2_with fail;go_ret;refine⟨?_,rfl⟩;rw[<- HD.out];rfl
end Go.Proofs.YtllgglolcgdehaaGreatDoor
