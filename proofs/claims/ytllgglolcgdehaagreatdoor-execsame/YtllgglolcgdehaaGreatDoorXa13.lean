/- What the developers' over does, and more. -/
import Derived.Lib.AppendStr
import Derived.Lib.IfaceNeq
import Derived.Test.YtllgglolcgdehaaGreatDoorXSh5
import Derived.Test.YtllgglolcgdehaaGreatDoorXa12
set_option maxRecDepth 100000
set_option maxHeartbeats 16000000
namespace Go.Proofs.YtllgglolcgdehaaGreatDoor
open Go.RowKit Go.Gs
set_option linter.unusedVariables false
theorem four_cells {w:World} {o p:Obj} {u1 u2:Value} {t:TypeId} :
 (((((w.alloc o).alloc p).alloc (.cells #[u1] t)).alloc (.cells #[u2] t))).cell? ⟨w.heap.size+2,0,none⟩=some u1/\(((((w.alloc o).alloc p).alloc (.cells #[u1] t)).alloc (.cells #[u2] t))).cell? ⟨w.heap.size+3,0,none⟩=some u2 /\
  Below w.heap.size w (((((w.alloc o).alloc p).alloc (.cells #[u1] t)).alloc (.cells #[u2] t))):=by
 have h1:((w.alloc o).alloc p).heap.size=w.heap.size+2:=by simp
 have h2:(((w.alloc o).alloc p).alloc (.cells #[u1] t)).heap.size=w.heap.size+3:=by simp
 refine⟨?_,?_,?_⟩
 . have hA:(((w.alloc o).alloc p).alloc (.cells #[u1] t)).cell? ⟨w.heap.size+2,0,none⟩=some u1:=by
    rw[<- h1,cell_of_row _ _ _ _ _ _ (heap_alloc_new _ _)]
    rfl
   exact Lib.cell?_alloc_some _ hA
 . rw[<- h2,cell_of_row _ _ _ _ _ _ (heap_alloc_new _ _)]
   rfl
 . exact (below_two.alloc (by simp;omega) _).alloc (by simp;omega) _
theorem swap_each (a c:UInt8) (v:Value) (ls:List (List UInt8)) (w:World) {o p:Obj} (B:Nat) (hB:B<=w.heap.size) (hown:w.ownsRow B 9 1 v ls.length (ls.map S)) (hl:ls.length<=300000) (hsz:∀s∈ls,s.length<=300000) :
 Calls Tryz.prog 206 #[v,.func (.func 257) #[] #[.pointer (some ⟨w.heap.size+2,0,none⟩),.pointer (some ⟨w.heap.size+3,0,none⟩)]] ((((w.alloc o).alloc p).alloc (.cells #[U a] 5)).alloc (.cells #[U c] 5)).drew fun e w'=>∃r,e=.returned r/\Reads w' r (ls.map (swapOf a c)).length ((ls.map (swapOf a c)).map S)/\Below B w w':=by
 have eg:∀args w,(callFunc 257 args).run Tryz.prog w=.ok (.enter 257 args) w:=enters_of Tryz.func257 (by kernel_rfl) rfl
 obtain⟨h1,h2,h3⟩:=four_cells (w:=w) (o:=o) (p:=p) (u1:=U a) (u2:=U c) (t:=5)
 generalize hw3:((((w.alloc o).alloc p).alloc (.cells #[U a] 5)).alloc (.cells #[U c] 5))=w3 at *
 have hE:=each_own v 257 #[.pointer (some ⟨w.heap.size+2,0,none⟩),.pointer (some ⟨w.heap.size+3,0,none⟩)] (swapOf a c) eg ls w3.drew B (by have:=h3.size;simp;omega) (owns_below hown h3.drew) hl hsz
  (fun g hg=>by
   obtain⟨h5,h6⟩:=hown.lt g hg
   exact swap_line w3.drew (some g) (w.heap.size+2) (w.heap.size+3) a c h1 h2 (by intro e;cases e;omega) (by intro e;cases e;omega))
 refine hE.mono ?_
 rintro e w4 ⟨r,rfl,hr,hb⟩
 exact⟨r,rfl,hr,(h3.drew.mono hB).trans hb⟩
theorem over_swap (a c:UInt8) (n:Int) (v:Value) (ls:List (List UInt8)) (w:World) (B:Nat) (hB:B<=w.heap.size) (hown:w.ownsRow B 9 1 v ls.length (ls.map S)) (hl:ls.length<=300000) (hsz:∀s∈ls,s.length<=300000) :
 Calls Tryz.prog 157 #[.agg #[.int .i64 3,.string ⟨#[a,c]⟩,.int .i64 n],v] w fun e w'=>∃r,e=.returned r/\Reads w' r (ls.map (swapOf a c)).length ((ls.map (swapOf a c)).map S)/\Below B w w':=by
 have hsf:=fun (a:Addr) (c:Array Value) (w:World)=>run_store Tryz.prog w a (.func (.func 203) #[] c) .plain rfl
 have eg:∀args w,(callFunc 257 args).run Tryz.prog w=.ok (.enter 257 args) w:=enters_of Tryz.func257 (by kernel_rfl) rfl
 have Ho:Hid (w.ownsRow B 9 1 v ls.length (ls.map S)):=hown
 have HE:Hid _:=eg
 clear hown eg
 go_enter Tryz.func157,Tryz.ntmps157
 go_wp2_with fail
 go_region_with (first
  | (go_at_call 207;refine (swap_makes a c _).mono ?_;rintro e w3 ⟨rfl,hw3⟩)
  | (go_at_call 206;refine (swap_each a c v ls w B hB Ho.out hl hsz).mono ?_;rintro e w4 ⟨r,rfl,hr4,hb4⟩))
 all_goals (have R:Hid _:=hr4;have HB:Hid _:=hb4;clear hr4 hb4 hw3;go_wp2_with fail;go_ret;exact⟨_,rfl,R.out,HB.out⟩)
end Go.Proofs.YtllgglolcgdehaaGreatDoor
namespace Go.Proofs.YtllgglolcgdehaaGreatDoor
open Go.RowKit Go.Gs Go.Lib
set_option linter.unusedVariables false
theorem infoU8:(Tryz.prog.info? 5).map (fun i=>(i.zero,i.size,i.bytes))=some (some (.int .u8 0),1,1):=by kernel_rfl
theorem ended_none (ao:Option Addr) (cap:Nat) (w:World) :
 Calls Tryz.prog 152 #[.slice ao 0 cap] w fun e w'=>e=.returned (.slice none 0 0)/\w'=w:=by
 go_enter Tryz.func152,Tryz.ntmps152
 go_wp2
 go_loopw [3,8] (fun v3 i wr=>v3=.slice none 0 0/\i=.int .i64 0/\wr=w) (fun _ _ _=>0)
 case atStart=>exact⟨rfl,rfl,rfl⟩
 case round=>
  obtain⟨rfl,rfl,rfl⟩:=hrel
  go_wp2
  go_ret
  exact⟨rfl,rfl⟩
theorem ended_take_succ (ls:List (List UInt8)) (k:Nat) (h:k<ls.length):ended (ls.take (k+1))=ended (ls.take k)++ls[k]++[10]:=by
 rw[List.take_succ_eq_append_getElem h,ended_append]
 simp[ended]
theorem ended_take_le (ls:List (List UInt8)) (k:Nat):(ended (ls.take k)).length<=(ended ls).length:=by
 have:=ended_length_sub ls 0 k
 simpa using this
theorem rel_end {w wr w1 w2:World} {v v1 v2:Value} {n:Nat} {E l:List UInt8} {o:Obj}
 (hown:wr.ownsRow w.heap.size 5 1 v n (E.map U)) (hbel:Below w.heap.size w wr)
 (hown1:w1.ownsRow w.heap.size 5 1 v1 (n+l.length) (E.map U++l.map U)) (hgrow1:wr.grownBy w1 v.ownBlock)
 (hown2:w2.ownsRow w.heap.size 5 1 v2 (n+l.length+1) (E.map U++(l.map U++[.int .u8 10]))) (hgrow2:(w1.alloc o).grownBy w2 v1.ownBlock) :
 w2.ownsRow w.heap.size 5 1 v2 (n+l.length+1) ((E++l++[10]).map U)/\Below w.heap.size w w2:=by
 have hb1:Below w.heap.size w w1:=hbel.grown hgrow1 (by have:=hbel.size;omega) (fun k hk=>(hown.lt k hk).1)
 refine⟨by simpa[U] using hown2,?_⟩
 exact (hb1.alloc (by have:=hb1.size;omega) o).grown hgrow2 (by have:=hb1.size;simp;omega) (fun k hk=>(hown1.lt k hk).1)
theorem ended_some (b off cap:Nat) (ls:List (List UInt8)) (w:World) (h0:0<ls.length) (hle:(ended ls).length<=1000000)
 (hc:∀j u,(ls.map S)[j]? = some u->w.cell? ⟨b,off+j,none⟩=some u) :
 Calls Tryz.prog 152 #[.slice (some ⟨b,off,none⟩) ls.length cap] w fun e w'=>∃r,e=.returned r /\
  w'.ownsRow w.heap.size 5 1 r (ended ls).length ((ended ls).map U)/\Below w.heap.size w w':=by
 obtain⟨i0,hi,hz0,hz1,hz2⟩:=info_parts infoU8
 have hbB:b<w.heap.size:=bLt w _ (hc 0 (S ls[0]) (by simp[h0]))
 have hnl:ls.length<=1000000:=Nat.le_trans (ended_length_ge ls) hle
 generalize hn:ls.length=n at *
 go_enter Tryz.func152,Tryz.ntmps152
 go_wp2
 go_loopw [3,8] (fun v3 i wr=>∃(k m:Nat),k<=n/\i=.int .i64 k/\Hid (m=(ended (ls.take k)).length)/\wr.ownsRow w.heap.size 5 1 v3 m ((ended (ls.take k)).map U)/\Below w.heap.size w wr)
  (fun _ i _=>n-(intOf i).toNat)
 case atStart=>exact⟨0,0,Nat.zero_le _,rfl,by simp[Hid,ended],by simpa[ended] using World.ownsRow_nil _ _ _ _,Below.refl _ _⟩
 case round=>
  obtain⟨k,m,hk,rfl,hm,hown,hbel⟩:=hrel
  by_cases hlt:k<n
  .
   have hcell:wr.cell? ⟨b,off+k,none⟩=some (.string ⟨(ls[k]'(by omega)).toArray⟩):=(hbel.cell (by exact hbB)).trans (hc k _ (by simp[S,hn,hlt]))
   have Hs:Hid _:=ended_take_succ ls k (by omega)
   have hle1:=ended_take_le ls (k+1)
   have hlen:m+(ls[k]'(by omega)).length+1<=1000000:=by
    rw[Hs.out] at hle1
    simp only[List.length_append,List.length_cons,List.length_nil,hm.out] at *
    omega
   clear hle1 hc
   generalize hl:ls[k]'(by omega)=l at *
   have Hl:Hid _:=hl
   clear hl
   obtain⟨sx,hsx⟩:∃sx:ByteArray,sx=⟨l.toArray⟩:=⟨_,rfl⟩
   have hsz:sx.size=l.length:=by rw[hsx];simp[ByteArray.size]
   have hcs:strCells sx=l.map U:=by rw[hsx];simp[strCells,U]
   rw[<- hsx] at hcell
   have Hsx:Hid _:=hsx
   have Hsz:Hid _:=hsz
   have Hcs:Hid _:=hcs
   have hb63:m+sx.size+1<=1000000:=by omega
   clear hsx hsz hcs
   generalize hE:(ended (ls.take k))=E at *
   have HE:Hid _:=hE
   clear hE
   have hsz0:=hbel.size
   go_wp2_with (first | (at_builtin;refine wpList_append_own_string _ rfl (.tmp 12) (.tmp 13) 28 9 rfl w.heap.size 5 i0 Tryz.underlying28 Tryz.underlying9 hi hz0 hz1 hz2 _ _ _ rfl hown sx rfl (by unfold maxLen;omega) (by omega) (by omega) ?_;intro v1 w1 hown1 hgrow1 _) | (at_builtin;refine wpList_append_own _ rfl (.tmp 15) (.tmp 16) 28 rfl w.heap.size 5 i0 (.int .u8 0) 1 1 Tryz.underlying28 hi hz0 hz1 hz2 rfl (by decide) _ _ _ rfl (hown1.alloc _) ⟨w1.heap.size,0,none⟩ 1 1 [.int .u8 10] rfl rfl ?c1 ?c2 ?c3 ?c4 ?c5 ?_))
   case c1=>
    intro j u hj
    match j,hj with
    | 0,hj=>simp at hj;subst hj;simp[Addr.add]
   case c2=>intro u hu;simp at hu;subst hu;rfl
   case c3=>unfold maxLen;omega
   case c4=>omega
   case c5=>have:=hgrow1.size;simp;omega
   .
    intro v2 w2 hown2 hgrow2 _
    rw[Hcs.out,Hsz.out] at hown1 hown2
    have R:=rel_end hown hbel hown1 hgrow1 hown2 hgrow2
    rw[<- Hs.out] at R
    have hm2:m+l.length+1=(ended (ls.take (k+1))).length:=by rw[Hs.out,hm.out];simp;omega
    have Hm2:Hid _:=hm2
    clear hm2 hown1 hown2 hgrow1 hgrow2 hown hbel hcell
    go_wp2
    go_roundw
    case rel=>exact⟨k+1,m+l.length+1,by omega,by go_num,Hm2,R.1,R.2⟩
    case measure=>simp[intOf];omega
  .
   have hkn:k=n:=by omega
   subst hkn
   subst hn
   rw[List.take_length] at hm hown
   clear hc
   go_wp2
   go_ret
   rw[hm.out] at hown
   exact⟨_,rfl,hown,hbel⟩
theorem ended_reads (v:Value) (ls:List (List UInt8)) (w:World) (hr:Reads w v ls.length (ls.map S)) (hle:(ended ls).length<=1000000) :
 Calls Tryz.prog 152 #[v] w fun e w'=>∃r,e=.returned r /\
  w'.ownsRow w.heap.size 5 1 r (ended ls).length ((ended ls).map U)/\Below w.heap.size w w':=by
 obtain⟨_,ao,cap,rfl,h2,h3,h4⟩:=hr
 by_cases h0:ls.length=0
 .
  have hb:ls=[]:=List.eq_nil_of_length_eq_zero h0
  subst hb
  refine (ended_none ao cap w).mono ?_
  rintro e w' ⟨rfl,rfl⟩
  exact⟨_,rfl,by simpa[ended] using World.ownsRow_nil _ _ _ _,Below.refl _ _⟩
 . obtain⟨b,off,rfl,hc⟩:=h4 h0
   exact ended_some b off cap ls w (by omega) hle hc
end Go.Proofs.YtllgglolcgdehaaGreatDoor
namespace Go.Proofs.YtllgglolcgdehaaGreatDoor
open Go.RowKit Go.Gs
set_option linter.unusedVariables false
theorem line_len {l:List (List UInt8)} {s:List UInt8} (h:s∈l):s.length+1<=(ended l).length:=by
 induction l with
 | nil=>cases h
 | cons t l ih=>
  rw[ended_cons]
  simp only[List.length_append,List.length_cons,List.length_nil]
  rcases List.mem_cons.1 h with rfl | h
  . omega
  . have:=ih h
    omega
theorem chk_num {c:Cmd} (h:chk c=0) (hk:uses c.kind=2):1<=c.n/\c.n<=1000:=by
 unfold chk at h
 rw[hk] at h
 by_cases h1:c.n<1\/1000<c.n
 . simp[h1] at h
   split at h <;> cases h
 . omega
def Known (w:World):Prop:=(∃m,w.cell? ⟨0,0,none⟩=some (.int .i64 m))/\Lib.TabIs Tryz.prog w "internal/strconv.uint64pow10" .u64 Lib.pow10Tab
theorem tab_below {w w':World} {n:String} {k:IntKind} {zs:List Int} (h:Lib.TabIs Tryz.prog w n k zs) (hb:Below w.heap.size w w'):Lib.TabIs Tryz.prog w' n k zs:=by
 unfold Lib.TabIs World.var? at h ⊢
 cases hg:Tryz.prog.globalNamed n with
 | none=>rw[hg] at h;cases h
 | some g=>
  rw[hg] at h
  simp only[Option.bind_some] at h ⊢
  have hlt:g<w.heap.size:=by
   rcases Nat.lt_or_ge g w.heap.size with h' | h'
   . exact h'
   . rw[Array.getElem?_eq_none h'] at h;cases h
  rw[hb.block g hlt]
  exact h
theorem Known.below {w w':World} (h:Known w) (hb:Below w.heap.size w w'):Known w':=by
 obtain⟨⟨m,hm⟩,ht⟩:=h
 exact⟨⟨m,(hb.cell (bLt w _ hm)).trans hm⟩,tab_below ht hb⟩
theorem owns_mono {w:World} {B B':Nat} {e:TypeId} {size:Nat} {v:Value} {n:Nat} {xs:List Value} (h:w.ownsRow B e size v n xs) (hB:B'<=B):w.ownsRow B' e size v n xs:=by
 refine⟨h.1,?_⟩
 rcases h.2 with h0 | ⟨g,cap,cur,h1,h2,h3⟩
 . exact .inl h0
 . exact .inr ⟨g,cap,cur,h1,by omega,h3⟩
theorem two_word {word:List UInt8} (h:word.length=2):∃a b,word=[a,b]:=by
 match word,h with
 | [a,b],_=>exact⟨a,b,rfl⟩
theorem over_is (c:Cmd) (hc:chk c=0) (v:Value) (ls:List (List UInt8)) (w:World) (B:Nat) (hB0:0 < B) (hB:B<=w.heap.size) (hown:w.ownsRow B 9 1 v ls.length (ls.map S)) (hl:ls.length<=300000) (hsz:∀s∈ls,s.length<=300000) (hK:Known w) :
 Calls Tryz.prog 157 #[c.v,v] w fun e w'=>∃r,e=.returned r/\Reads w' r (made c ls).length ((made c ls).map S)/\Below B w w':=by
 have hk:=chk_kinds c hc
 have hnum:=chk_num hc
 have hsw:=chk_le hc
 obtain⟨⟨m,hm⟩,htab⟩:=hK
 have hsz':∀s∈ls,s.length<=1000000:=fun s hs=>Nat.le_trans (hsz s hs) (by omega)
 have hdrop:∀{P:World->Value->Prop} ,(Calls Tryz.prog 157 #[c.v,v] w fun e w'=>∃r,e=.returned r/\P w' r/\Below w.heap.size w w')->(Calls Tryz.prog 157 #[c.v,v] w fun e w'=>∃r,e=.returned r/\P w' r/\Below B w w'):=by
  intro P h
  refine h.mono ?_
  rintro e w' ⟨r,rfl,h1,h2⟩
  exact⟨r,rfl,h1,h2.mono hB⟩
 obtain⟨k,word,n⟩:=c
 have:k=1\/k=2\/k=3\/k=4\/k=5\/k=6\/k=7\/k=8\/k=9\/k=10:=by simp only at hk;omega
 rcases this with rfl | rfl | rfl | rfl | rfl | rfl | rfl | rfl | rfl | rfl
 . rw[made1 _ rfl];exact over_keep word n m v ls w B hB0 hB hown hl hsz' hm
 . rw[made2 _ rfl];exact over_drop word n m v ls w B hB0 hB hown hl hsz' hm
 . rw[made3 _ rfl]
   obtain⟨a,b,rfl⟩:=two_word (hsw rfl).1
   exact over_swap a b n v ls w B hB hown hl hsz
 . rw[made4 _ rfl]
   obtain⟨h1,h2⟩:=hnum rfl
   exact over_field ⟨word.toArray⟩ n m v ls w B hB0 hB hown hl hsz h1 h2 hm
 . rw[made5 _ rfl];exact over_turn ⟨word.toArray⟩ n v ls w B hB hown hl hsz
 . rw[made6 _ rfl];exact over_sort ⟨word.toArray⟩ n v ls w B hB hown hl
 . rw[made7 _ rfl];exact over_once ⟨word.toArray⟩ n v ls w B hB hown hl
 . rw[made8 _ rfl]
   obtain⟨_,ao,cap,rfl,_⟩:=Reads.of_owns hown
   exact hdrop (over_count ⟨word.toArray⟩ n ao ls.length cap w hl (fun W h=>tab_below htab h))
 . rw[made9 _ rfl]
   obtain⟨h1,h2⟩:=hnum rfl
   exact hdrop (over_head ⟨word.toArray⟩ n v ls w B hown hl h1 h2)
 . rw[made10 _ rfl]
   obtain⟨h1,h2⟩:=hnum rfl
   exact hdrop (over_tail ⟨word.toArray⟩ n v ls w B hown hl h1 h2)
def IsErr (w:World) (g:Nat):Prop:=∃ev,w.cell? ⟨g,0,none⟩=some ev/\(ev=.nilIface \/ ∃te pe,ev=.iface te pe)
theorem IsErr.below {w w':World} {g:Nat} (h:IsErr w g) (hb:Below w.heap.size w w'):IsErr w' g:=by
 obtain⟨ev,h1,h2⟩:=h
 exact⟨ev,(hb.cell (bLt w _ h1)).trans h1,h2⟩
def KnownE (w:World):Prop:=Known w/\IsErr w 3 /\ IsErr w 4
theorem KnownE.below {w w':World} (h:KnownE w) (hb:Below w.heap.size w w'):KnownE w':=⟨h.1.below hb,h.2.1.below hb,h.2.2.below hb⟩
theorem itoa_is (n:Int) (w:World) (h0:-9223372036854775808<=n) (h1:n<=9223372036854775807) (hK:Known w) :
 Calls Tryz.prog 138 #[.int .i64 n] w fun e w'=>e=.returned (.string ⟨(Lib.itoa n).toArray⟩)/\Below w.heap.size w w':=by
 refine (Tryz.strconv_Itoa n h0 h1 w hK.2).mono ?_
 rintro e w1 ⟨rfl,q,os,hw1⟩
 exact⟨rfl,by rw[hw1];exact below_grow' _ _ (Nat.le_refl _)⟩
theorem bytes_below {w w':World} (h:w'=w \/ ∃t,w'=Lib.bytesWorld w 5 t):Below w.heap.size w w':=by
 rcases h with rfl | ⟨t,rfl⟩
 . exact Below.refl _ _
 . exact Lib.bytesWorld_below _ _ _
theorem atoi_ok (s:ByteArray) (n:Int) (w:World) (hs:s.size<=281474976710656) (h:Lib.atoiAll s.data.toList=.ok n) :
 Calls Tryz.prog 303 #[.string s] w fun e w'=>e=.returned (.tuple #[.int .i64 n,.nilIface])/\Below w.heap.size w w':=by
 refine (Tryz.strconv_Atoi_ok s (by omega) n h w).mono ?_
 rintro e w' ⟨rfl,hw⟩
 exact⟨rfl,bytes_below hw⟩
theorem atoi_bad (s:ByteArray) (w:World) (hs:s.size<=281474976710656) (hE:KnownE w) (h:∀n,Lib.atoiAll s.data.toList≠.ok n) :
 Calls Tryz.prog 303 #[.string s] w fun e w'=>∃z t p,e=.returned (.tuple #[.int .i64 z,.iface t p])/\Below w.heap.size w w':=by
 cases hc:Lib.atoiAll s.data.toList with
 | ok n=>exact absurd hc (h n)
 | «syntax»=>
  obtain⟨ev,h1,h2⟩:=hE.2.1
  refine (Tryz.strconv_Atoi_syntax s hs hc ev w h1 h2).mono ?_
  rintro e w' ⟨N,rfl,_,_,hb⟩
  exact⟨_,_,_,rfl,hb⟩
 | range=>
  obtain⟨ev,h1,h2⟩:=hE.2.2
  refine (Tryz.strconv_Atoi_range s hs hc ev w h1 h2).mono ?_
  rintro e w' ⟨N,rfl,_,_,hb⟩
  exact⟨_,_,_,rfl,hb⟩
theorem number_is (s:List UInt8) (w:World) (hs:s.length<=1000000) (hE:KnownE w) :
 Calls Tryz.prog 253 #[.string ⟨s.toArray⟩] w fun e w'=>e=.returned (.int .i64 (numOf s:Int))/\Below w.heap.size w w':=by
 have hd:(⟨s.toArray⟩:ByteArray).data.toList=s:=rfl
 have hsz:(⟨s.toArray⟩:ByteArray).size=s.length:=by simp[ByteArray.size]
 by_cases hok:∃n,Lib.atoiAll s=.ok n
 .
  obtain⟨n,hn⟩:=hok
  have hb:=Lib.atoiAll_bounds hn
  have hA:=atoi_ok ⟨s.toArray⟩ n w (by omega) (by rw[hd];exact hn)
  have hN:=numOf_ok hn
  have hI:=fun (W:World) (h:Known W)=>itoa_is n W hb.1 hb.2 h
  have HE:Hid (KnownE w):=hE
  by_cases h0:n<0
  .
   have HN:Hid (numOf s=0):=(show _=_ by rw[hN,if_neg (by omega)])
   clear hN hI hE hd hsz
   go_enter Tryz.func253,Tryz.ntmps253
   go_wp2_with fail
   refine hA.mono ?_
   rintro e w1 ⟨rfl,hb1⟩
   have HB:Hid (Below w.heap.size w w1):=hb1
   clear hb1 hA
   go_wp2_with fail
   go_ret
   exact⟨by rw[HN.out];rfl,HB.out⟩
  .
   by_cases h1:4000<n
   .
    have HN:Hid (numOf s=0):=(show _=_ by rw[hN,if_neg (by omega)])
    clear hN hI hE hd hsz
    go_enter Tryz.func253,Tryz.ntmps253
    go_wp2_with fail
    refine hA.mono ?_
    rintro e w1 ⟨rfl,hb1⟩
    have HB:Hid (Below w.heap.size w w1):=hb1
    clear hb1 hA
    go_wp2_with fail
    go_ret
    exact⟨by rw[HN.out];rfl,HB.out⟩
   .
    have hI':∀(W:World),Known W->Calls Tryz.prog 138 #[.int .i64 n] W fun e w'=>∃tx:ByteArray,e=.returned (.string tx)/\Hid (Value.string tx=S (Lib.itoa n))/\Below W.heap.size W w':=by
     intro W hK
     refine (hI W hK).mono ?_
     rintro e w' ⟨rfl,hb⟩
     exact⟨_,rfl,rfl,hb⟩
    obtain⟨sx,hsx⟩:∃sx:ByteArray,sx=⟨s.toArray⟩:=⟨_,rfl⟩
    have HSX:Hid (Value.string sx=S s):=by rw[hsx];exact rfl
    rw[<- hsx] at hA ⊢
    have HN:Hid _:=hN
    have HI:Hid _:=hI'
    have HNn:Hid (0<=n/\n<=4000):=⟨by omega,by omega⟩
    clear hN hI hI' hE hd hsz hsx
    go_enter Tryz.func253,Tryz.ntmps253
    go_wp2_with fail
    refine hA.mono ?_
    rintro e w1 ⟨rfl,hb1⟩
    have HB:Hid (Below w.heap.size w w1):=hb1
    clear hb1 hA
    go_wp2_with fail
    refine (HI.out w1 (HE.out.below HB.out).1).mono ?_
    rintro e w2 ⟨tx,rfl,htx,hb2⟩
    have HB2:Hid (Below w.heap.size w w2):=HB.out.trans (hb2.mono HB.out.size)
    clear hb2
    by_cases heq:Lib.itoa n=s
    .
     have hbe:(tx.toList == sx.toList)=true:=by rw[str_data htx.out,str_data HSX.out,heq];simp
     have HD:Hid ((numOf s:Int)=n):=(show _=_ by
      rw[HN.out,if_pos ⟨HNn.out.1,HNn.out.2,heq⟩]
      have:=HNn.out.1
      omega)
     clear heq
     go_wp2_with fail
     go_ret
     exact⟨by rw[HD.out];rfl,HB2.out⟩
    .
     have hbe:(tx.toList == sx.toList)=false:=by rw[str_data htx.out,str_data HSX.out];simpa using heq
     have HD:Hid ((numOf s:Int)=0):=(show _=_ by
      rw[HN.out,if_neg (fun h=>heq h.2.2)]
      rfl)
     clear heq
     go_wp2_with fail
     go_ret
     exact⟨by rw[HD.out];rfl,HB2.out⟩
 .
  have hA:=atoi_bad ⟨s.toArray⟩ w (by omega) hE (by rw[hd];exact fun n h=>hok ⟨n,h⟩)
  have HN:Hid (numOf s=0):=numOf_bad (fun n h=>hok ⟨n,h⟩)
  clear hok hE hd hsz
  go_enter Tryz.func253,Tryz.ntmps253
  go_wp2_with fail
  refine hA.mono ?_
  rintro e w1 ⟨z,t,p,rfl,hb1⟩
  have HB:Hid (Below w.heap.size w w1):=hb1
  clear hb1 hA
  go_wp2_with fail
  go_ret
  exact⟨by rw[HN.out];rfl,HB.out⟩
theorem headNum_nil:headNum []=0:=rfl
theorem headNum_cons (x:List UInt8) (r:List (List UInt8)):headNum (x::r)=numOf x:=by unfold headNum;rw[List.head?_cons,Option.map_some,Option.getD_some]
theorem jbox_cells {w w':World} {a b c:Value} {t:TypeId} (h:Below (w.alloc (.cells #[a,b,c] t)).heap.size (w.alloc (.cells #[a,b,c] t)) w'):w'.cell? ⟨w.heap.size,0,none⟩=some a/\w'.cell? ⟨w.heap.size,1,none⟩=some b/\w'.cell? ⟨w.heap.size,2,none⟩=some c:=by
 refine⟨?_,?_,?_⟩
 all_goals
  rw[h.cell (by simp),cell_of_row _ _ _ _ _ _ (heap_alloc_new w _)]
  rfl
theorem sum_is (v:Value) (ps:List (List (List UInt8))) (w:World) (hp:RList w v S ps) (hn:ps.length<=1000) (hsz:∀p∈ps,∀s∈p,s.length<=1000000) (hE:KnownE w) :
 Calls Tryz.prog 197 #[v] w fun e w'=>e=.returned (.int .i64 (sumOf ps:Int))/\Below w.heap.size w w':=by
 obtain⟨ao,cap,rfl,hc1,hc2⟩:=hp.shape
 have HP:Hid (RList w (.slice ao ps.length cap) S ps):=hp
 obtain⟨N,hN⟩:∃N,N=ps.length:=⟨_,rfl⟩
 have HN:Hid (N=ps.length):=hN
 have hN4:N<=1000:=by omega
 have HE:Hid (KnownE w):=hE
 have HSZ:Hid _:=hsz
 rw[<- hN]
 clear hN hp hn hc1 hc2 hE hsz
 go_enter Tryz.func197,Tryz.ntmps197
 go_wp2_with fail
 go_loopw [3,8] (fun s i wr=>∃k:Nat,∃m:Nat,k<=N/\m<=4000*k/\i=.int .i64 k/\s=.int .i64 m/\Hid (Below w.heap.size w wr)/\Hid (m=sumOf (ps.take k)))
  (fun _ i _=>N-(intOf i).toNat)
 case atStart=>exact⟨0,0,Nat.zero_le _,by omega,rfl,rfl,Below.refl _ _,(show _=_ from by simp[sumOf])⟩
 case round=>
  obtain⟨k,m,hk,hm,rfl,rfl,hbel,hmk⟩:=hrel
  by_cases hlt:k<N
  .
   obtain⟨p,hpk⟩:∃p,ps[k]? = some p:=⟨_,gEl (by have:=HN.out;omega)⟩
   have HPr:Hid (RList wr (.slice ao N cap) S ps):=by rw[HN.out];exact HP.out.below hbel.out
   obtain⟨b,off,au,cu,rfl,hcell,hru⟩:=HPr.out.at hpk
   have HS:Hid (m+headNum p=sumOf (ps.take (k+1))):=(show _=_ from by rw[sumOf_take hpk,<- hmk.out])
   have hpm:p∈ps:=mGt hpk
   cases p with
   | nil=>
    simp only[List.length_nil] at hcell
    rw[headNum_nil] at HS
    clear hpk hru hmk hpm
    go_wp2_with fail
    go_roundw
    case rel=>exact⟨k+1,m,by omega,by omega,by go_num,rfl,hbel,HS⟩
    case measure=>simp[intOf];omega
   | cons x r=>
    obtain⟨b1,o1,sx,rfl,hc1,hsx,hcu1,hcu2⟩:=reads_first hru
    obtain rfl:sx=⟨x.toArray⟩:=by unfold S at hsx;injection hsx
    have hnum:=number_is x wr (HSZ.out _ hpm x (by simp)) (HE.out.below hbel.out)
    have hle:=numOf_le x
    rw[headNum_cons] at HS
    have hpl:(x::r).length=r.length+1:=rfl
    rw[hpl] at hcell hcu2
    clear hsx hru hpl hpk hmk hpm
    generalize r.length=rl at *
    generalize numOf x=z at *
    go_wp2_with (go_at_call 253;refine hnum.mono ?_;rintro e w1 ⟨rfl,hb1⟩)
    have HB1:Hid (Below w.heap.size w w1):=hbel.out.trans (hb1.mono hbel.out.size)
    clear hb1 hnum
    go_wp2_with fail
    go_roundw
    case rel=>exact⟨k+1,m+z,by omega,by omega,by go_num,by go_num,HB1,HS⟩
    case measure=>simp[intOf];omega
  .
   have hkN:k=N:=by omega
   have HD:Hid (m=sumOf ps):=(show _=_ from by
    have h:=hmk.out
    rw[hkN,HN.out,List.take_length] at h
    exact h)
   clear hmk
   go_wp2_with fail
   go_ret
   refine⟨?_,hbel.out⟩
   rw[<- HD.out]
   rfl
theorem jchk_range {how:Int} {c:Cmd} (h:how<1\/4<how):jchk how c=4:=by unfold jchk;rw[if_pos h]
theorem jchk_again {c:Cmd}:jchk 4 c=chk c:=by unfold jchk;rw[if_neg (by omega),if_pos rfl]
theorem jchk_zero {how:Int} {c:Cmd} (h1:1<=how) (h2:how<4) (h:c.kind=0/\c.word=[]/\c.n=0):jchk how c=0:=by unfold jchk;rw[if_neg (by omega),if_neg (by omega),if_pos h]
theorem jchk_some {how:Int} {c:Cmd} (h1:1<=how) (h2:how<4) (h:¬(c.kind=0/\c.word=[]/\c.n=0)):jchk how c=4:=by unfold jchk;rw[if_neg (by omega),if_neg (by omega),if_neg h]
theorem jcheck_is (how:Int) (c:Cmd) (w:World) (hw:c.word.length<=9223372036854775807) :
 Calls Tryz.prog 195 #[.int .i64 how,c.v] w fun e w'=>e=.returned (.int .i64 (jchk how c))/\Below w.heap.size w w':=by
 have hchk:=fun W=>check_is c W hw
 have hem:=@empty_of c.word
 have hfu:=@full_of c.word
 obtain⟨k,word,n⟩:=c
 unfold Cmd.v at hchk ⊢
 simp only at hchk hem hfu ⊢
 by_cases hr:how<1\/4<how
 .
  rw[jchk_range hr]
  clear hchk hem hfu
  generalize (⟨word.toArray⟩:ByteArray)=sx at *
  rcases hr with hr | hr
  . go_enter Tryz.func195,Tryz.ntmps195
    go_wp2_with fail
    go_ret
    exact⟨rfl,box_of⟩
  . have hr':¬how<1:=by omega
    go_enter Tryz.func195,Tryz.ntmps195
    go_wp2_with fail
    go_ret
    exact⟨rfl,box_of⟩
 .
  by_cases h4:how=4
  .
   subst h4
   rw[jchk_again]
   clear hem hfu
   generalize (⟨word.toArray⟩:ByteArray)=sx at *
   generalize chk ⟨k,word,n⟩=r at *
   go_enter Tryz.func195,Tryz.ntmps195
   go_wp2_with fail
   refine (hchk _).mono ?_
   rintro e w1 ⟨rfl,hb1⟩
   have HB:Hid (Below w.heap.size w w1):=box_of.trans (hb1.mono (by simp))
   clear hb1 hchk
   go_wp2_with fail
   go_ret
   exact⟨rfl,HB.out⟩
  .
   have h1:¬how<1:=by omega
   have h2:¬4<how:=by omega
   clear hchk hr
   by_cases hz:k=0/\word=[]/\n=0
   .
    obtain⟨rfl,rfl,rfl⟩:=hz
    rw[jchk_zero (by omega) (by omega) ⟨rfl,rfl,rfl⟩]
    clear hem hfu
    go_enter Tryz.func195,Tryz.ntmps195
    go_wp2_with fail
    go_ret
    exact⟨rfl,box_of⟩
   .
    rw[jchk_some (by omega) (by omega) hz]
    obtain⟨d,hd⟩:∃d,(⟨word.toArray⟩:ByteArray).toList.isEmpty=d:=⟨_,rfl⟩
    have hfin:¬(k=0/\d=true/\n=0):=by
     rintro ⟨h1,h2,h3⟩
     apply hz
     refine⟨h1,?_,h3⟩
     cases word with
     | nil=>rfl
     | cons x r=>rw[hfu (by simp)] at hd;rw[<- hd] at h2;cases h2
    clear hz hem hfu
    generalize (⟨word.toArray⟩:ByteArray)=sx at *
    go_enter Tryz.func195,Tryz.ntmps195
    go_wp2_with fail
    all_goals first | (go_ret;exact⟨rfl,box_of⟩) | (exfalso;apply hfin;simp_all)
theorem strs_of {w:World} {b off:Nat} {ls:List (List UInt8)} (hc:∀j u,(ls.map S)[j]? = some u->w.cell? ⟨b,off+j,none⟩=some u):∀j,j<(ls.map fun l=>(⟨l.toArray⟩:ByteArray)).length->w.cell? ⟨b,off+j,none⟩=some (.string ((ls.map fun l=>(⟨l.toArray⟩:ByteArray)).getD j ByteArray.empty)):=by
 intro j hj
 have hj':j<ls.length:=by simpa using hj
 have:=hc j (S ls[j]) (by simp[hj'])
 rw[this]
 simp[S,List.getD_eq_getElem?_getD,hj']
theorem clone_is (v:Value) (ls:List (List UInt8)) (w:World) (hr:Reads w v ls.length (ls.map S)) (hl:ls.length<=1000000) :
 Calls Tryz.prog 194 #[v] w fun e w'=>∃r,e=.returned r/\w'.ownsRow w.heap.size 9 1 r ls.length (ls.map S)/\Below w.heap.size w w':=by
 obtain⟨_,ao,cap,rfl,h2,h3,h4⟩:=hr
 cases ao with
 | none=>
  have h0:ls.length=0:=by
   rcases Nat.eq_zero_or_pos ls.length with h | h
   . exact h
   . obtain⟨b,off,e,_⟩:=h4 (by omega);cases e
  have hn:ls=[]:=List.eq_nil_of_length_eq_zero h0
  subst hn
  refine (Any.slices_Clone_string_nil Tryz.laysClone _ cap w).mono ?_
  rintro e w' ⟨rfl,rfl⟩
  exact⟨_,rfl,World.ownsRow_nil _ _ _ _,Below.refl _ _⟩
 | some a=>
  by_cases h0:ls.length=0
  . have hn:ls=[]:=List.eq_nil_of_length_eq_zero h0
    subst hn
    refine (Any.slices_Clone_string_zero Tryz.laysClone a cap w).mono ?_
    rintro e w' ⟨r,rfl,h5,_,h6⟩
    exact⟨_,rfl,h5,h6⟩
  .
   obtain⟨b,off,e,hc⟩:=h4 h0
   injection e with e
   subst e
   refine (Any.slices_Clone_string Tryz.laysClone b off ls.length cap (ls.map fun l=>⟨l.toArray⟩) w (by simp) (by omega) (strs_of hc)).mono ?_
   rintro e w' ⟨r,rfl,h5,_,h6⟩
   refine⟨_,rfl,?_,h6⟩
   have he:((ls.map fun l=>(⟨l.toArray⟩:ByteArray)).take ls.length).map Value.string=ls.map S:=by
    rw[List.take_of_length_le (by simp),List.map_map]
    rfl
   rw[he] at h5
   exact h5
theorem indexByte_feed (l:List UInt8):(0<=Lib.indexByte l 10 ↔ (10:UInt8)∈l):=by
 induction l with
 | nil=>simp[Lib.indexByte]
 | cons c l ih=>
  unfold Lib.indexByte
  by_cases h:c=10
  . simp[h]
  .
   have hb:(c == 10)=false:=by simp[h]
   have hg:=Lib.indexByte_ge l 10
   have hm:(10:UInt8)∈c::l ↔ (10:UInt8)∈l:=by
    rw[List.mem_cons]
    exact⟨fun k=>k.resolve_left (fun e=>h e.symm),Or.inr⟩
   rw[hm,<- ih,hb]
   by_cases hi:Lib.indexByte l 10 = -1
   . simp[hi]
   . have hb2:(Lib.indexByte l 10 == -1)=false:=by simp[hi]
     rw[hb2]
     simp only[Bool.false_eq_true,if_false]
     omega
end Go.Proofs.YtllgglolcgdehaaGreatDoor
