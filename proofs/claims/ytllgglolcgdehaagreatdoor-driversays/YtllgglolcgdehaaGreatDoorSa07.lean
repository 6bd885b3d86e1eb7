/- What the developers' over does, and more. -/
import Derived.Test.YtllgglolcgdehaaGreatDoorSAb
import Derived.Test.YtllgglolcgdehaaGreatDoorSa06
set_option linter.all false
set_option maxRecDepth 100000
set_option maxHeartbeats 16000000
namespace Go.Proofs.YtllgglolcgdehaaGreatDoor
open Go.RowKit Go.Gs Tryz
theorem bB7{w:World}{o p:Obj}{u1 u2:Value}{t:TypeId}:
 (((((w.alloc o).alloc p).alloc (.cells #[u1] t)).alloc (.cells #[u2] t))).cell? ⟨w.heap.size+2,0,none⟩=some u1/\(((((w.alloc o).alloc p).alloc (.cells #[u1] t)).alloc (.cells #[u2] t))).cell? ⟨w.heap.size+3,0,none⟩=some u2 /\
  Bq w (((((w.alloc o).alloc p).alloc (.cells #[u1] t)).alloc (.cells #[u2] t))):=by
 have h1:((w.alloc o).alloc p).heap.size=w.heap.size+2:=by simp
 have h2:(((w.alloc o).alloc p).alloc (.cells #[u1] t)).heap.size=w.heap.size+3:=by simp
 refine⟨?_,?_,?_⟩
 . have hA:(((w.alloc o).alloc p).alloc (.cells #[u1] t)).cell? ⟨w.heap.size+2,0,none⟩=some u1:=by rw[<- h1,qV _ _ _ _ _ _ (qN _ _)];rfl
   exact Lib.cell?_alloc_some _ hA
 . rw[<- h2,qV _ _ _ _ _ _ (qN _ _)];rfl
 . exact (A9.alloc (by simp;omega) _).alloc (by simp;omega) _
theorem bO8(a c:UInt8)(v:Value)(ls:List (List UInt8))(w:World){o p:Obj}(B:Nat)(hB:B<=w.heap.size)(Ab:w.ownsRow B 9 1 v ls.length (ls.map S))(hl:ls.length<=300000)(hsz:∀s∈ls,s.length<=300000):
 Calls prog 206 #[v,.func (.func 257) #[] #[.pointer (some ⟨w.heap.size+2,0,none⟩),.pointer (some ⟨w.heap.size+3,0,none⟩)]] ((((w.alloc o).alloc p).alloc (.cells #[U a] 5)).alloc (.cells #[U c] 5)).drew fun e w'=>∃r,e=.returned r/\Reads w' r (ls.map (J8 a c)).length ((ls.map (J8 a c)).map S)/\Below B w w':=by
 have eg:∀args w,(callFunc 257 args).run prog w=.ok (.enter 257 args) w:=enters_of Tryz.func257 (by kernel_rfl) rfl;obtain⟨h1,h2,h3⟩:=bB7 (w:=w) (o:=o) (p:=p) (u1:=U a) (u2:=U c) (t:=5);generalize hw3:((((w.alloc o).alloc p).alloc (.cells #[U a] 5)).alloc (.cells #[U c] 5))=w3 at *
 have hE:=aO1 v 257 #[.pointer (some ⟨w.heap.size+2,0,none⟩),.pointer (some ⟨w.heap.size+3,0,none⟩)] (J8 a c) eg ls w3.drew B (by have:=h3.size;simp;omega) (D5 Ab h3.drew) hl hsz
  (fun g hg=>by
   obtain⟨h5,h6⟩:=Ab.lt g hg
   exact bO6 w3.drew (some g) (w.heap.size+2) (w.heap.size+3) a c h1 h2 (by intro e;cases e;omega) (by intro e;cases e;omega))
 refine hE.mono ?_;rintro e w4⟨r,rfl,hr,hb⟩;exact⟨r,rfl,hr,(h3.drew.mono hB).trans hb⟩
theorem bO9(a c:UInt8)(n:Int)(v:Value)(ls:List (List UInt8))(w:World)(B:Nat)(hB:B<=w.heap.size)(Ab:w.ownsRow B 9 1 v ls.length (ls.map S))(hl:ls.length<=300000)(hsz:∀s∈ls,s.length<=300000):
 Calls prog 157 #[.agg #[.int .i64 3,.string ⟨#[a,c]⟩,.int .i64 n],v] w fun e w'=>∃r,e=.returned r/\Reads w' r (ls.map (J8 a c)).length ((ls.map (J8 a c)).map S)/\Below B w w':=by
 have hsf:=fun(a:Addr)(c:Array Value)(w:World)=>run_store prog w a (.func (.func 203) #[] c) .plain rfl;have eg:∀args w,(callFunc 257 args).run prog w=.ok (.enter 257 args) w:=enters_of Tryz.func257 (by kernel_rfl) rfl;have Ho:=qH Ab;have HE:Hid _:=eg;clear Ab eg;go_enter Tryz.func157,Tryz.ntmps157;go_wp2_with fail
 go_region_with (first
  | (go_at_call 207;refine (bB3 a c _).mono ?_;rintro e w3⟨rfl,hw3⟩)
  | (go_at_call 206;refine (bO8 a c v ls w B hB Ho.out hl hsz).mono ?_;rintro e w4⟨r,rfl,hr4,hb4⟩))
 all_goals (have R:Hid _:=hr4;have HB:Hid _:=hb4;clear hr4 hb4 hw3;go_wp2_with fail;go_ret;exact⟨_,rfl,R.out,HB.out⟩)
theorem aO5{l:List (List UInt8)}{s:List UInt8}(h:s∈l):s.length+1<=(ended l).length:=by
 induction l with
 | nil=>cases h
 | cons t l ih=>
  rw[C7]
  simp only[qG,qY,qy]
  rcases xP.1 h with rfl | h
  . omega
  . have:=ih h
    omega
theorem aG3{b s:List UInt8}(h:s∈lines b)(hb:b.length<=4000):s.length<=4000:=by have h1:=aO5 h;have h2:=C0 b;omega
theorem bI8{c:Cmd}(h:chk c=0)(hk:uses c.kind=2):1<=c.n/\c.n<=1000:=by
 unfold chk at h;rw[hk]at h;by_cases h1:c.n<1\/1000<c.n
 . simp[h1]at h;split at h <;> cases h
 . omega
def V2 (w:World):Prop:=(∃m,w.cell? ⟨0,0,none⟩=some (.int .i64 m))/\Lib.TabIs prog w "internal/strconv.uint64pow10" .u64 Lib.pow10Tab
theorem tab_below{w w':World}{n:String}{k:IntKind}{zs:List Int}(h:Lib.TabIs prog w n k zs)(hb:Bq w w'):Lib.TabIs prog w' n k zs:=by
 unfold Lib.TabIs World.var? at h ⊢
 cases hg:prog.globalNamed n with
 | none=>rw[hg]at h;cases h
 | some g=>
  rw[hg]at h
  simp only[Option.bind_some]at h ⊢
  have hlt:g<w.heap.size:=by
   rcases zD g w.heap.size with h' | h'
   . exact h'
   . rw[xE h']at h;cases h
  rw[hb.block g hlt]
  exact h
theorem V2.below{w w':World}(h:V2 w)(hb:Bq w w'):V2 w':=by obtain⟨⟨m,hm⟩,ht⟩:=h;exact⟨⟨m,qC hb hm⟩,tab_below ht hb⟩
theorem aD7{w:World}{B B':Nat}{e:TypeId}{size:Nat}{v:Value}{n:Nat}{xs:List Value}(h:w.ownsRow B e size v n xs)(hB:B'<=B):w.ownsRow B' e size v n xs:=by
 refine⟨h.1,?_⟩;rcases h.2 with h0 | ⟨g,cap,cur,h1,h2,h3⟩
 . exact .inl h0
 . exact .inr ⟨g,cap,cur,h1,by omega,h3⟩
theorem bp3{word:List UInt8}(h:word.length=2):∃a b,word=[a,b]:=by
 match word,h with
 | [a,b],_=>exact⟨a,b,rfl⟩
theorem bI9(c:Cmd)(hc:chk c=0)(v:Value)(ls:List (List UInt8))(w:World)(B:Nat)(hB0:0 < B)(hB:B<=w.heap.size)(Ab:w.ownsRow B 9 1 v ls.length (ls.map S))(hl:ls.length<=300000)(hsz:∀s∈ls,s.length<=300000)(hK:V2 w):
 Calls prog 157 #[c.v,v] w fun e w'=>∃r,e=.returned r/\Reads w' r (made c ls).length ((made c ls).map S)/\Below B w w':=by
 have hk:=X6 c hc;have Gp:=bI8 hc;have hsw:=bx6 hc;obtain⟨⟨m,hm⟩,htab⟩:=hK;have Im:∀s∈ls,s.length<=1000000:=fun s hs=>qw (hsz s hs) (by omega);have Lj:∀{P:World->Value->Prop} ,(Calls prog 157 #[c.v,v] w fun e w'=>∃r,e=.returned r/\P w' r/\Bq w w')->(Calls prog 157 #[c.v,v] w fun e w'=>∃r,e=.returned r/\P w' r/\Below B w w'):=by intro P h;refine h.mono ?_;rintro e w'⟨r,rfl,h1,h2⟩;exact⟨r,rfl,h1,h2.mono hB⟩
 obtain⟨k,word,n⟩:=c;have:k=1\/k=2\/k=3\/k=4\/k=5\/k=6\/k=7\/k=8\/k=9\/k=10:=by simp only at hk;omega
 rcases this with rfl | rfl | rfl | rfl | rfl | rfl | rfl | rfl | rfl | rfl
 . rw[made1 _ rfl];exact bN8 word n m v ls w B hB0 hB Ab hl Im hm
 . rw[made2 _ rfl];exact bN9 word n m v ls w B hB0 hB Ab hl Im hm
 . rw[made3 _ rfl];obtain⟨a,b,rfl⟩:=bp3 (hsw rfl).1;exact bO9 a b n v ls w B hB Ab hl hsz
 . rw[aV8 _ rfl];obtain⟨h1,h2⟩:=Gp rfl;exact bB5 ⟨word.toArray⟩ n m v ls w B hB0 hB Ab hl hsz h1 h2 hm
 . rw[aV9 _ rfl];exact bO7 ⟨word.toArray⟩ n v ls w B hB Ab hl hsz
 . rw[aE7 _ rfl];exact bN6 ⟨word.toArray⟩ n v ls w B hB Ab hl
 . rw[aK6 _ rfl];exact bN7 ⟨word.toArray⟩ n v ls w B hB Ab hl
 . rw[aE8 _ rfl];obtain⟨_,ao,cap,rfl,_⟩:=Reads.of_owns Ab;exact Lj (bB6 ⟨word.toArray⟩ n ao ls.length cap w hl (fun W h=>tab_below htab h))
 . rw[ax1 _ rfl];obtain⟨h1,h2⟩:=Gp rfl;exact Lj (bM0 ⟨word.toArray⟩ n v ls w B Ab hl h1 h2)
 . rw[av2 _ rfl];obtain⟨h1,h2⟩:=Gp rfl;exact Lj (bM1 ⟨word.toArray⟩ n v ls w B Ab hl h1 h2)
theorem cr8(c:Cmd)(v:Value)(bs:List UInt8)(w:World)(hw:c.word.length<=9223372036854775807)(h:chk c=0)(hr:Reads w v bs.length (bs.map U))(hn:bs.length<=4000)(hK:V2 w):
 Calls prog 105 #[c.v,v] w fun e w'=>∃r,e=.returned (.tuple #[r,.int .i64 0])/\w'.ownsRow w.heap.size 5 1 r (U4 c bs).length ((U4 c bs).map U)/\Bq w w':=by
 have Ap:=fun W=>ah7 c W hw;rw[h]at Ap;have Du:=fun(v:Value)(W:World)(B:Nat) hB0 hB ho hK=>bI9 c h v (lines bs) W B hB0 hB ho (qw (D9 bs) (qw hn (by omega))) (fun s hs=>qw (aG3 hs hn) (by omega)) hK;have hlen:(ended (made c (lines bs))).length<=1000000:=by have:=bK6 c h bs (by omega);unfold U4 at this;omega
 have Cc:=fun(v:Value)(W:World) hr=>U7 v (made c (lines bs)) W hr hlen;have hdo:ended (made c (lines bs))=U4 c bs:=rfl;rw[hdo]at Cc;clear hlen hdo;generalize U4 c bs=D at *;generalize made c (lines bs)=M at *;obtain⟨k,word,n⟩:=c;unfold Cmd.v at Ap Du ⊢;simp only at Ap Du ⊢;generalize (⟨word.toArray⟩:ByteArray)=sx at *;have HR:=qH hr;have HO:Hid _:=Du;have HE:Hid _:=Cc;have HK:=qH hK;clear hr Du Cc hK;go_enter Tryz.func105,Tryz.ntmps105;go_wp2_with fail;refine (Ap _).mono ?_;rintro e w1⟨rfl,hb1⟩;have HB:Hid (Bq w w1):=i8.trans (hb1.mono (by simp));have Bf:w1.cell? ⟨w.heap.size,0,none⟩=some (.int .i64 k)/\w1.cell? ⟨w.heap.size,1,none⟩=some (.string sx)/\w1.cell? ⟨w.heap.size,2,none⟩=some (.int .i64 n):=by
  refine⟨?_,?_,?_⟩
  all_goals
   rw[hb1.cell (by simp),qV _ _ _ _ _ _ (qN w _)];rfl
 have Ox:w.heap.size<w1.heap.size:=by have:=hb1.size;simp at this;omega
 clear hb1 Ap;go_wp2_with fail;refine (bm6 v bs w1 (HR.out.below HB.out) hn).mono ?_;rintro e w2⟨l,rfl,Ab,hb2⟩;obtain⟨x0,x1,x2⟩:=Bf;have y0:w2.cell? ⟨w.heap.size,0,none⟩=some (.int .i64 k):=(hb2.cell Ox).trans x0;have y1:w2.cell? ⟨w.heap.size,1,none⟩=some (.string sx):=(hb2.cell Ox).trans x1;have y2:w2.cell? ⟨w.heap.size,2,none⟩=some (.int .i64 n):=(hb2.cell Ox).trans x2;have HW:=qH Ab;have HB2:=qH hb2;clear x0 x1 x2 Ab hb2;go_wp2_with fail;refine (HO.out l w2 w1.heap.size ?_ HB2.out.size HW.out ((HK.out.below HB.out).below HB2.out)).mono ?_
 . obtain⟨⟨m,hm⟩,_⟩:=HK.out;have:=bLt w _ hm;simp only at this;omega
 rintro e w3⟨r3,rfl,hr3,hb3⟩;have HR3:Hid _:=hr3;have HB3:=qH hb3;clear hr3 hb3 y0 y1 y2;go_wp2_with fail;refine (HE.out r3 w3 HR3.out).mono ?_;rintro e w4⟨r4,rfl,Hq,hb4⟩;have hs3:w.heap.size<=w3.heap.size:=by have h1:=HB.out.size;have h2:=HB2.out.size;have h3:=HB3.out.size;omega
 have HO4:Hid _:=aD7 Hq hs3;have HB4:Hid (Bq w w4):=HB.out.trans ((HB2.out.mono HB.out.size).trans ((HB3.out.mono HB.out.size).trans (hb4.mono hs3)));clear Hq hb4;go_wp2_with fail;go_ret2;exact⟨_,rfl,HO4.out,HB4.out⟩
end Go.Proofs.YtllgglolcgdehaaGreatDoor
