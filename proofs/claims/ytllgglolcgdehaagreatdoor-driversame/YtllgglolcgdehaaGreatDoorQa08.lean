/- What the developers' over does, and more. -/
import Derived.Test.YtllgglolcgdehaaGreatDoorQAb
import Derived.Test.YtllgglolcgdehaaGreatDoorQa07
set_option maxRecDepth 100000
set_option maxHeartbeats 16000000
namespace Go.Proofs.YtllgglolcgdehaaGreatDoor
open Go.RowKit Go.Gs
set_option linter.unusedVariables false
theorem bE7 {w:World} {o p:Obj} {u1 u2:Value} {t:TypeId} :
 (((((w.alloc o).alloc p).alloc (.cells #[u1] t)).alloc (.cells #[u2] t))).cell? ⟨w.heap.size+2,0,none⟩=some u1/\(((((w.alloc o).alloc p).alloc (.cells #[u1] t)).alloc (.cells #[u2] t))).cell? ⟨w.heap.size+3,0,none⟩=some u2 /\
  Bq w (((((w.alloc o).alloc p).alloc (.cells #[u1] t)).alloc (.cells #[u2] t))):=by
 have h1:((w.alloc o).alloc p).heap.size=w.heap.size+2:=by simp
 have h2:(((w.alloc o).alloc p).alloc (.cells #[u1] t)).heap.size=w.heap.size+3:=by simp
 refine⟨?_,?_,?_⟩
 . have hA:(((w.alloc o).alloc p).alloc (.cells #[u1] t)).cell? ⟨w.heap.size+2,0,none⟩=some u1:=by rw[<- h1,cell_of_row _ _ _ _ _ _ (heap_alloc_new _ _)];rfl
   exact Lib.cell?_alloc_some _ hA
 . rw[<- h2,cell_of_row _ _ _ _ _ _ (heap_alloc_new _ _)];rfl
 . exact (C9.alloc (by simp;omega) _).alloc (by simp;omega) _
theorem bS3 (a c:UInt8) (v:Value) (ls:List (List UInt8)) (w:World) {o p:Obj} (B:Nat) (hB:B<=w.heap.size) (Ab:w.ownsRow B 9 1 v ls.length (ls.map S)) (hl:ls.length<=300000) (hsz:∀s∈ls,s.length<=300000) :
 Calls Tryz.prog 206 #[v,.func (.func 257) #[] #[.pointer (some ⟨w.heap.size+2,0,none⟩),.pointer (some ⟨w.heap.size+3,0,none⟩)]] ((((w.alloc o).alloc p).alloc (.cells #[U a] 5)).alloc (.cells #[U c] 5)).drew fun e w'=>∃r,e=.returned r/\Reads w' r (ls.map (Y7 a c)).length ((ls.map (Y7 a c)).map S)/\Below B w w':=by
 have eg:∀args w,(callFunc 257 args).run Tryz.prog w=.ok (.enter 257 args) w:=enters_of Tryz.func257 (by kernel_rfl) rfl;obtain⟨h1,h2,h3⟩:=bE7 (w:=w) (o:=o) (p:=p) (u1:=U a) (u2:=U c) (t:=5);generalize hw3:((((w.alloc o).alloc p).alloc (.cells #[U a] 5)).alloc (.cells #[U c] 5))=w3 at *
 have hE:=aS9 v 257 #[.pointer (some ⟨w.heap.size+2,0,none⟩),.pointer (some ⟨w.heap.size+3,0,none⟩)] (Y7 a c) eg ls w3.drew B (by have:=h3.size;simp;omega) (I8 Ab h3.drew) hl hsz
  (fun g hg=>by
   obtain⟨h5,h6⟩:=Ab.lt g hg
   exact bS1 w3.drew (some g) (w.heap.size+2) (w.heap.size+3) a c h1 h2 (by intro e;cases e;omega) (by intro e;cases e;omega))
 refine hE.mono ?_;rintro e w4 ⟨r,rfl,hr,hb⟩;exact⟨r,rfl,hr,(h3.drew.mono hB).trans hb⟩
theorem bS4 (a c:UInt8) (n:Int) (v:Value) (ls:List (List UInt8)) (w:World) (B:Nat) (hB:B<=w.heap.size) (Ab:w.ownsRow B 9 1 v ls.length (ls.map S)) (hl:ls.length<=300000) (hsz:∀s∈ls,s.length<=300000) :
 Calls Tryz.prog 157 #[.agg #[.int .i64 3,.string ⟨#[a,c]⟩,.int .i64 n],v] w fun e w'=>∃r,e=.returned r/\Reads w' r (ls.map (Y7 a c)).length ((ls.map (Y7 a c)).map S)/\Below B w w':=by
 have hsf:=fun (a:Addr) (c:Array Value) (w:World)=>run_store Tryz.prog w a (.func (.func 203) #[] c) .plain rfl;have eg:∀args w,(callFunc 257 args).run Tryz.prog w=.ok (.enter 257 args) w:=enters_of Tryz.func257 (by kernel_rfl) rfl;have Ho:=qH Ab;have HE:Hid _:=eg;clear Ab eg;go_enter Tryz.func157,Tryz.ntmps157;go_wp2_with fail
 go_region_with (first
  | (go_at_call 207;refine (bE2 a c _).mono ?_;rintro e w3 ⟨rfl,hw3⟩)
  | (go_at_call 206;refine (bS3 a c v ls w B hB Ho.out hl hsz).mono ?_;rintro e w4 ⟨r,rfl,hr4,hb4⟩))
 all_goals (have R:Hid _:=hr4;have HB:Hid _:=hb4;clear hr4 hb4 hw3;go_wp2_with fail;go_ret;exact⟨_,rfl,R.out,HB.out⟩)
theorem aT2 {l:List (List UInt8)} {s:List UInt8} (h:s∈l):s.length+1<=(ended l).length:=by
 induction l with
 | nil=>cases h
 | cons t l ih=>
  rw[E4]
  simp only[List.length_append,List.length_cons,List.length_nil]
  rcases List.mem_cons.1 h with rfl | h
  . omega
  . have:=ih h
    omega
theorem cq0 {c:Cmd} (h:chk c=0) (hk:uses c.kind=2):1<=c.n/\c.n<=1000:=by
 unfold chk at h;rw[hk] at h;by_cases h1:c.n<1\/1000<c.n
 . simp[h1] at h;split at h <;> cases h
 . omega
def aa6 (w:World):Prop:=(∃m,w.cell? ⟨0,0,none⟩=some (.int .i64 m))/\Lib.TabIs Tryz.prog w "internal/strconv.uint64pow10" .u64 Lib.pow10Tab
theorem tab_below {w w':World} {n:String} {k:IntKind} {zs:List Int} (h:Lib.TabIs Tryz.prog w n k zs) (hb:Bq w w'):Lib.TabIs Tryz.prog w' n k zs:=by
 unfold Lib.TabIs World.var? at h ⊢
 cases hg:Tryz.prog.globalNamed n with
 | none=>rw[hg] at h;cases h
 | some g=>
  rw[hg] at h
  simp only[Option.bind_some] at h ⊢
  have hlt:g<w.heap.size:=by
   rcases Nat.lt_or_ge g w.heap.size with h' | h'
   . exact h'
   . rw[Array.getElem?_eq_none h'] at h;cases h
  rw[hb.block g hlt]
  exact h
theorem aa6.below {w w':World} (h:aa6 w) (hb:Bq w w'):aa6 w':=by obtain⟨⟨m,hm⟩,ht⟩:=h;exact⟨⟨m,(hb.cell (bLt w _ hm)).trans hm⟩,tab_below ht hb⟩
theorem aH8 {w:World} {B B':Nat} {e:TypeId} {size:Nat} {v:Value} {n:Nat} {xs:List Value} (h:w.ownsRow B e size v n xs) (hB:B'<=B):w.ownsRow B' e size v n xs:=by
 refine⟨h.1,?_⟩;rcases h.2 with h0 | ⟨g,cap,cur,h1,h2,h3⟩
 . exact .inl h0
 . exact .inr ⟨g,cap,cur,h1,by omega,h3⟩
theorem cg3 {word:List UInt8} (h:word.length=2):∃a b,word=[a,b]:=by
 match word,h with
 | [a,b],_=>exact⟨a,b,rfl⟩
theorem bL6 (c:Cmd) (hc:chk c=0) (v:Value) (ls:List (List UInt8)) (w:World) (B:Nat) (hB0:0 < B) (hB:B<=w.heap.size) (Ab:w.ownsRow B 9 1 v ls.length (ls.map S)) (hl:ls.length<=300000) (hsz:∀s∈ls,s.length<=300000) (hK:aa6 w) :
 Calls Tryz.prog 157 #[c.v,v] w fun e w'=>∃r,e=.returned r/\Reads w' r (made c ls).length ((made c ls).map S)/\Below B w w':=by
 have hk:=af7 c hc;have Kx:=cq0 hc;have hsw:=cc0 hc;obtain⟨⟨m,hm⟩,htab⟩:=hK;have Iw:∀s∈ls,s.length<=1000000:=fun s hs=>Nat.le_trans (hsz s hs) (by omega);have Ni:∀{P:World->Value->Prop} ,(Calls Tryz.prog 157 #[c.v,v] w fun e w'=>∃r,e=.returned r/\P w' r/\Bq w w')->(Calls Tryz.prog 157 #[c.v,v] w fun e w'=>∃r,e=.returned r/\P w' r/\Below B w w'):=by intro P h;refine h.mono ?_;rintro e w' ⟨r,rfl,h1,h2⟩;exact⟨r,rfl,h1,h2.mono hB⟩
 obtain⟨k,word,n⟩:=c;have:k=1\/k=2\/k=3\/k=4\/k=5\/k=6\/k=7\/k=8\/k=9\/k=10:=by simp only at hk;omega
 rcases this with rfl | rfl | rfl | rfl | rfl | rfl | rfl | rfl | rfl | rfl
 . rw[made1 _ rfl];exact bQ9 word n m v ls w B hB0 hB Ab hl Iw hm
 . rw[made2 _ rfl];exact bR0 word n m v ls w B hB0 hB Ab hl Iw hm
 . rw[made3 _ rfl];obtain⟨a,b,rfl⟩:=cg3 (hsw rfl).1;exact bS4 a b n v ls w B hB Ab hl hsz
 . rw[bn6 _ rfl];obtain⟨h1,h2⟩:=Kx rfl;exact bE4 ⟨word.toArray⟩ n m v ls w B hB0 hB Ab hl hsz h1 h2 hm
 . rw[bn8 _ rfl];exact bS2 ⟨word.toArray⟩ n v ls w B hB Ab hl hsz
 . rw[aC2 _ rfl];exact bQ7 ⟨word.toArray⟩ n v ls w B hB Ab hl
 . rw[aZ9 _ rfl];exact bQ8 ⟨word.toArray⟩ n v ls w B hB Ab hl
 . rw[aP3 _ rfl];obtain⟨_,ao,cap,rfl,_⟩:=Reads.of_owns Ab;exact Ni (bE5 ⟨word.toArray⟩ n ao ls.length cap w hl (fun W h=>tab_below htab h))
 . rw[aJ9 _ rfl];obtain⟨h1,h2⟩:=Kx rfl;exact Ni (bQ5 ⟨word.toArray⟩ n v ls w B Ab hl h1 h2)
 . rw[aG7 _ rfl];obtain⟨h1,h2⟩:=Kx rfl;exact Ni (bQ6 ⟨word.toArray⟩ n v ls w B Ab hl h1 h2)
end Go.Proofs.YtllgglolcgdehaaGreatDoor
