/- Facts of no function that walks over pipes use; bytes.Clone, slices.Equal at bytes, and more. -/
import Derived.Shelf.Strings.SlTrimAscii
import Derived.Lib.SmallJoins
import Derived.SizedLaws
import Derived.Test.YtllgglolcgdehaaGreatDoorJa36
namespace Go.Proofs.YtllgglolcgdehaaGreatDoor
open Go.RowKit Go.Gs
set_option linter.unusedVariables false
theorem ne_atP {α:Type} {a b:List α} {k:Nat} {x y:α} (ha:a[k]? = some x) (hb:b[k]? = some y) (h:x ≠ y):a ≠ b:=by
 intro e
 rw [e,hb] at ha
 injection ha with ha
 exact h ha.symm
theorem take_eqP {α:Type} {a b:List α} {k:Nat} {x:α} (h:a.take k=b.take k) (ha:a[k]? = some x) (hb:b[k]? = some x):a.take (k+1)=b.take (k+1):=by
 rw [List.take_add_one,List.take_add_one,h,ha,hb]
set_option maxRecDepth 100000 in
set_option maxHeartbeats 4000000 in
theorem eqP_is (au av:Option Addr) (cu cv:Nat) (a b:List UInt8) (w:World) (ha:Reads w (.slice au a.length cu) a.length (a.map U)) (hb:Reads w (.slice av b.length cv) b.length (b.map U)) :
 Calls Tryz.prog 30 #[.slice au a.length cu,.slice av b.length cv] w fun e w'=>e=.returned (.bool (decide (a=b)))/\Below w.heap.size w w':=by
 have m2:=(reads_leP ha).1
 have m4:=(reads_leP hb).1
 have HA:Hid (Reads w (.slice au a.length cu) a.length (a.map U)):=ha
 have HB:Hid (Reads w (.slice av b.length cv) b.length (b.map U)):=hb
 obtain ⟨NA,hNA⟩:∃ N,N=a.length:=⟨_,rfl⟩
 obtain ⟨NB,hNB⟩:∃ N,N=b.length:=⟨_,rfl⟩
 have HNA:Hid (NA=a.length):=hNA
 have HNB:Hid (NB=b.length):=hNB
 have hA1:NA<=9223372036854775807:=by omega
 have hB1:NB<=9223372036854775807:=by omega
 rw [<- hNA,<- hNB]
 rw [<- hNA] at HA
 rw [<- hNB] at HB
 clear ha hb m2 m4 hNA hNB
 by_cases hne:NA=NB
 . subst hne
   go_enter Tryz.func30,Tryz.ntmps30
   go_wp2_with fail
   go_loopw [13] (fun i wr=>∃ k:Nat,k<=NA/\i=.int .i64 k/\Hid (Below w.heap.size w wr)/\Hid (a.take k=b.take k)) (fun i _=>NA-(intOf i).toNat)
   case atStart=>exact ⟨0,Nat.zero_le _,rfl,Below.refl _ _,(show _=_ by simp)⟩
   case round=>
    obtain ⟨k,hk,rfl,hbel,hall⟩:=hrel
    by_cases hlt:k < NA
    . obtain ⟨x,hx⟩:∃ x,a[k]? = some x:=⟨_,List.getElem?_eq_getElem (by have:=HNA.out;omega)⟩
      obtain ⟨y,hy⟩:∃ y,b[k]? = some y:=⟨_,List.getElem?_eq_getElem (by have:=HNB.out;omega)⟩
      have HX:Hid (a[k]? = some x):=hx
      have HY:Hid (b[k]? = some y):=hy
      obtain ⟨b1,o1,rfl,hc1⟩:=reads_byteP (Reads.below HA.out hbel.out) hx
      obtain ⟨b2,o2,rfl,hc2⟩:=reads_byteP (Reads.below HB.out hbel.out) hy
      by_cases hxy:x=y
      . subst hxy
        have HE:Hid (a.take (k+1)=b.take (k+1)):=take_eqP hall.out hx hy
        generalize (x.toNat:Int)=xi at *
        clear hx hy hall
        go_wp2_with fail
        go_region
        all_goals go_wp2_with fail
        all_goals go_roundw
        case rel=>exact ⟨k+1,by omega,by go_num,hbel.out.drew,HE⟩
        case measure=>simp [intOf];omega
      . have HE:Hid (a ≠ b):=ne_atP hx hy hxy
        have hxi:¬ (x.toNat:Int)=(y.toNat:Int):=fun h=>hxy (UInt8.toNat_inj.1 (by omega))
        generalize (x.toNat:Int)=xi at *
        generalize (y.toNat:Int)=yi at *
        clear hx hy hall hxy
        go_wp2_with fail
        go_region
        all_goals go_wp2_with fail
        all_goals go_ret
        all_goals exact ⟨by rw [decide_eq_false HE.out];rfl,hbel.out.drew⟩
    . have HE:Hid (a=b):=(show _=_ by
       have h:=hall.out
       rw [List.take_of_length_le (by have:=HNA.out;omega),List.take_of_length_le (by have:=HNB.out;omega)] at h
       exact h)
      clear hall
      go_wp2_with fail
      go_ret
      exact ⟨by rw [decide_eq_true HE.out];rfl,hbel.out⟩
 . have HE:Hid (a ≠ b):=(show a ≠ b from fun e=>hne (by rw [HNA.out,HNB.out,e]))
   have hq:¬ (NA:Int)=NB:=by omega
   go_enter Tryz.func30,Tryz.ntmps30
   go_wp2_with fail
   go_ret
   exact ⟨by rw [decide_eq_false HE.out];rfl,Below.refl _ _⟩
theorem str_eqO (a b:List UInt8):((⟨a.toArray⟩:ByteArray).toList == (⟨b.toArray⟩:ByteArray).toList)=decide (a=b):=by
 by_cases h:a=b
 . subst h;simp
 . simp [h]
theorem ne_at2 {α:Type} {a b:List α} {k:Nat} {x y:α} (ha:a[k]? = some x) (hb:b[k]? = some y) (h:x ≠ y):a ≠ b:=by
 intro e
 rw [e,hb] at ha
 injection ha with ha
 exact h ha.symm
theorem take_eq2 {α:Type} {a b:List α} {k:Nat} {x:α} (h:a.take k=b.take k) (ha:a[k]? = some x) (hb:b[k]? = some x):a.take (k+1)=b.take (k+1):=by
 rw [List.take_add_one,List.take_add_one,h,ha,hb]
theorem reads_byte {w:World} {ao:Option Addr} {n cap:Nat} {bs:List UInt8} (h:Reads w (.slice ao n cap) n (bs.map U)) {k:Nat} {c:UInt8} (hk:bs[k]? = some c) :
 ∃ b off,ao=some ⟨b,off,none⟩/\w.cell? ⟨b,off+k,none⟩=some (.int .u8 (c.toNat:Int)):=by
 obtain ⟨h1,ao',cap',e,_,_,h5⟩:=h
 injection e with e1 e2 e3
 subst e1
 obtain ⟨hkl,_⟩:=List.getElem?_eq_some_iff.1 hk
 rw [List.length_map] at h1
 obtain ⟨b,off,hao,hc⟩:=h5 (by omega)
 exact ⟨b,off,hao,hc k (U c) (by rw [List.getElem?_map,hk];rfl)⟩
theorem boxr2_of {w:World} {o p:Obj}:Below w.heap.size w ((w.alloc o).alloc p):=(boxr_of (w:=w) (o:=o)).alloc (by simp) p
set_option maxRecDepth 100000 in
set_option maxHeartbeats 4000000 in
theorem lists1_is (au av:Option Addr) (cu cv:Nat) (a:List UInt8) (w:World) (ha:Reads w (.slice au a.length cu) a.length (a.map U)) (hb:Reads w (.slice av a.length cv) a.length (a.map U)) :
 Calls Tryz.prog 101 #[.slice au a.length cu,.slice av a.length cv] w fun e w'=>e=.returned (.bool true)/\Below w.heap.size w w':=by
 have HS:Hid _:=eqP_is au av cu cv a a w ha hb
 rw [decide_eq_true rfl] at HS
 generalize a.length=N at *
 clear ha hb
 go_enter Tryz.func101,Tryz.ntmps101
 go_wp2_with fail
 refine Calls.mono HS.out ?_
 rintro e w3 ⟨rfl,hb3⟩
 have HB3:Hid (Below w.heap.size w w3):=hb3
 clear hb3 HS
 go_wp2_with fail
 go_ret
 exact ⟨rfl,HB3.out⟩
set_option maxRecDepth 100000 in
set_option maxHeartbeats 4000000 in
theorem eqlists_is (au av:Option Addr) (cu cv:Nat) (a:List (List UInt8)) (w:World) (ha:RList w (.slice au a.length cu) U a) (hb:RList w (.slice av a.length cv) U a) :
 Calls Tryz.prog 70 #[.slice au a.length cu,.slice av a.length cv,.func (.func 101) #[] #[]] w fun e w'=>e=.returned (.bool true)/\Below w.heap.size w w':=by
 have m2:=(rlist_le ha).2
 have m4:=(rlist_le hb).2
 have HA:Hid (RList w (.slice au a.length cu) U a):=ha
 have HB:Hid (RList w (.slice av a.length cv) U a):=hb
 obtain ⟨NA,hNA⟩:∃ N,N=a.length:=⟨_,rfl⟩
 have HNA:Hid (NA=a.length):=hNA
 have hA1:NA<=9223372036854775807:=by omega
 rw [<- hNA]
 rw [<- hNA] at HA HB
 clear ha hb m2 m4 hNA
 go_enter Tryz.func70,Tryz.ntmps70
 go_wp2_with fail
 go_loopw [17] (fun i wr=>∃ k:Nat,k<=NA/\i=.int .i64 k/\Hid (Below w.heap.size w wr)) (fun i _=>NA-(intOf i).toNat)
 case atStart=>exact ⟨0,Nat.zero_le _,rfl,Below.refl _ _⟩
 case round=>
  obtain ⟨k,hk,rfl,hbel⟩:=hrel
  by_cases hlt:k < NA
  . obtain ⟨x,hx⟩:∃ x,a[k]? = some x:=⟨_,List.getElem?_eq_getElem (by have:=HNA.out;omega)⟩
    obtain ⟨b1,o1,ab,cb,rfl,hc1,hrx⟩:=(RList.below HA.out hbel.out).at hx
    obtain ⟨b2,o2,bb,eb,rfl,hc2,hry⟩:=(RList.below HB.out hbel.out).at hx
    have HS:Hid _:=lists1_is ab bb cb eb x wr hrx hry
    generalize x.length=NF at *
    clear hx hrx hry
    go_wp2_with fail
    refine Calls.mono HS.out ?_
    rintro e w3 ⟨rfl,hb3⟩
    have HB3:Hid (Below w.heap.size w w3):=hbel.out.trans (hb3.mono hbel.out.size)
    clear hb3 HS hc1 hc2
    go_wp2_with fail
    go_roundw
    case rel=>exact ⟨k+1,by omega,by go_num,HB3⟩
    case measure=>simp [intOf];omega
  . go_wp2_with fail
    go_ret
    exact ⟨rfl,hbel.out⟩
set_option maxRecDepth 100000 in
set_option maxHeartbeats 4000000 in
theorem lists_same (au av:Option Addr) (cu cv:Nat) (a:List (List UInt8)) (w:World) (ha:RList w (.slice au a.length cu) U a) (hb:RList w (.slice av a.length cv) U a) :
 Calls Tryz.prog 35 #[.slice au a.length cu,.slice av a.length cv] w fun e w'=>e=.returned (.bool true)/\Below w.heap.size w w':=by
 have HS:Hid _:=eqlists_is au av cu cv a w ha hb
 generalize a.length=N at *
 clear ha hb
 go_enter Tryz.func35,Tryz.ntmps35
 go_wp2_with fail
 refine Calls.mono HS.out ?_
 rintro e w3 ⟨rfl,hb3⟩
 have HB3:Hid (Below w.heap.size w w3):=hb3
 clear hb3 HS
 go_wp2_with fail
 go_ret
 exact ⟨rfl,HB3.out⟩
end Go.Proofs.YtllgglolcgdehaaGreatDoor
namespace Go.Gs
open Go.RowKit
set_option linter.unusedVariables false
def Mine (M:SMach) (a:Nat) (n:SNode) (q:Nat):Prop:=(∃ k:Nat,(k:Int) < nouts n/\q=intoOf M.ns ((a:Int),(k:Int))) \/ ∃ j,j < n.ins.length/\q=firstIn M.ns a+j
def PLike (x y:SPipe):Prop:=y.room=x.room/\(x.closed=true->y.closed=true)/\(x.shut=true->y.shut=true)
structure Near (M:SMach) (a:Nat) (n:SNode) (M':SMach):Prop where
 ns:M'.ns=M.ns
 fs:M'.fs=M.fs
 ps:∃ p',M'.ps=M.ps.set a p'
 xl:M'.pipes.length=M.pipes.length
 xs:∀ (q:Nat) (x y:SPipe),M.pipes[q]? = some x->M'.pipes[q]? = some y->(y=x\/Mine M a n q)/\PLike x y
 sk:(n.kind=5\/M'.sunk=M.sunk)/\M.sunk.length<=M'.sunk.length
theorem PLike.refl (x:SPipe):PLike x x:=⟨rfl,id,id⟩
theorem near_set {M:SMach} {a:Nat} {n:SNode} {q:Nat} {x':SPipe} {p':SProc} (hq:Mine M a n q) (hx:PLike (M.pipe q) x'):Near M a n ((M.setX q x').setP a p'):=by
 refine ⟨rfl,rfl,⟨p',rfl⟩,by simp [SMach.setX,SMach.setP],fun q' x y hx1 hy=>?_,.inr rfl,Nat.le_refl _⟩
 have hy':(M.pipes.set q x')[q']? = some y:=hy
 rcases set_at hy' with ⟨rfl,rfl⟩ | ⟨hne,h2⟩
 . refine ⟨.inr hq,?_⟩
   have:M.pipe q'=x:=by unfold SMach.pipe;rw [hx1];rfl
   rw [this] at hx
   exact hx
 . rw [hx1] at h2
   injection h2 with h2
   subst h2
   exact ⟨.inl rfl,PLike.refl _⟩
theorem near_proc {M:SMach} {a:Nat} {n:SNode} (p':SProc):Near M a n (M.setP a p'):=
 ⟨rfl,rfl,⟨p',rfl⟩,rfl,fun q x y hx hy=>by
  have hy':M.pipes[q]? = some y:=hy
  rw [hx] at hy'
  injection hy' with e
  subst e
  exact ⟨.inl rfl,PLike.refl _⟩,.inr rfl,Nat.le_refl _⟩
theorem near_write {M:SMach} (h:Shape M) {a:Nat} {n:SNode} {p:SProc} (hn:M.ns[a]? = some n) (hp:M.ps[a]? = some p):∀ (r:List (List UInt8)) (k:Nat),p.out.drop k=r->(writeS M a p k r).2=0->Near M a n (writeS M a p k r).1
 | [],k,hk,h0=>by simp [writeS] at h0
 | b::r,k,hk,h0=>by
  have hb:p.out[k]? = some b:=by
   have:(p.out.drop k)[0]? = some b:=by rw [hk];rfl
   rw [List.getElem?_drop] at this
   exact this
  have hkl:k < p.out.length:=(List.getElem?_eq_some_iff.1 hb).1
  have hF:=h.proc a n p hn hp
  unfold writeS at h0 ⊢
  by_cases hpos:0 < (pwrite (M.pipe (intoOf M.ns ((a:Int),(k:Int)))) b).2.1
  . rw [if_pos hpos]
    have hpk:pchk (M.pipe (intoOf M.ns ((a:Int),(k:Int))))=0:=by
     unfold SMach.pipe
     cases hq:M.pipes[intoOf M.ns ((a:Int),(k:Int))]? with
     | none=>simp [zeroP,pchk,pck,plim]
     | some x=>exact h.pipe x (List.mem_of_getElem? hq)
    obtain ⟨_,_,g3,g4,g5⟩:=pwrite_good hpk hpos
    exact near_set (.inl ⟨k,by have:=hF.olen;omega,rfl⟩) ⟨g5,fun e=>by rw [g3];exact e,fun e=>by rw [g4];exact e⟩
  . rw [if_neg hpos] at h0 ⊢
    exact near_write h hn hp r (k+1) (by rw [<- List.drop_drop,hk];rfl) h0
theorem near_end {M:SMach} (h:Shape M) {a:Nat} {n:SNode} {p:SProc} (hn:M.ns[a]? = some n) (hp:M.ps[a]? = some p):Near M a n (endS M a p):=by
 have hF:=h.proc a n p hn hp
 refine ⟨rfl,rfl,⟨_,rfl⟩,closeTo_len _ _ _ _,fun q x y hx hy=>?_,.inr rfl,Nat.le_refl _⟩
 obtain ⟨x',hx',h1,h2⟩:=closeTo_get M.ns a M.pipes p.out.length q y hy
 rw [hx] at hx'
 injection hx' with e
 subst e
 by_cases hk:∃ k:Nat,k < p.out.length/\q=intoOf M.ns ((a:Int),(k:Int))
 . rw [h1 hk]
   obtain ⟨k,hk1,hk2⟩:=hk
   exact ⟨.inr (.inl ⟨k,by have:=hF.olen;omega,hk2⟩),rfl,fun _=>rfl,fun e=>e⟩
 . rw [h2 (fun k hkK e=>hk ⟨k,hkK,e⟩)]
   exact ⟨.inl rfl,PLike.refl _⟩
theorem Near.trans {M M1 M2:SMach} {a:Nat} {n:SNode} (h1:Near M a n M1) (h2:Near M1 a n M2):Near M a n M2:=by
 obtain ⟨p1,e1⟩:=h1.ps
 obtain ⟨p2,e2⟩:=h2.ps
 refine ⟨h2.ns.trans h1.ns,h2.fs.trans h1.fs,⟨p2,by rw [e2,e1,List.set_set]⟩,h2.xl.trans h1.xl,fun q x y hx hy=>?_,?_,Nat.le_trans h1.sk.2 h2.sk.2⟩
 . have hql:q < M1.pipes.length:=by rw [h1.xl];exact (List.getElem?_eq_some_iff.1 hx).1
   obtain ⟨z,hz⟩:∃ z,M1.pipes[q]? = some z:=⟨_,List.getElem?_eq_getElem hql⟩
   obtain ⟨a1,l1⟩:=h1.xs q x z hx hz
   obtain ⟨a2,l2⟩:=h2.xs q z y hz hy
   have hm:∀ q,Mine M1 a n q->Mine M a n q:=fun q h=>by unfold Mine at h ⊢;rwa [h1.ns] at h
   refine ⟨?_,l2.1.trans l1.1,fun e=>l2.2.1 (l1.2.1 e),fun e=>l2.2.2 (l1.2.2 e)⟩
   rcases a2 with rfl | a2
   . exact a1
   . exact .inr (hm q a2)
 . rcases h1.sk.1 with e | e
   . exact .inl e
   . rcases h2.sk.1 with f | f
     . exact .inl f
     . exact .inr (f.trans e)
theorem near_came {M:SMach} {a:Nat} {n:SNode} {p:SProc} {q:Nat} (hq:Mine M a n q):Near M a n (cameS M a n q p):=by
 unfold cameS
 split
 . rename_i h5
   refine ⟨rfl,rfl,⟨_,rfl⟩,rfl,fun q x y hx hy=>?_,.inl h5,by simp⟩
   have hy':M.pipes[q]? = some y:=hy
   rw [hx] at hy'
   injection hy' with e
   subst e
   exact ⟨.inl rfl,PLike.refl _⟩
 . split
   . exact near_proc _
   . split
     . exact near_set hq ⟨rfl,fun e=>e,fun _=>rfl⟩
     . exact near_proc _
theorem near_step {M:SMach} (h:Shape M) {a:Nat} {n:SNode} {p:SProc} (hn:M.ns[a]? = some n) (hp:M.ps[a]? = some p) (h0:(stepP M a n p).2=0):Near M a n (stepP M a n p).1:=by
 have hF:=h.proc a n p hn hp
 unfold stepP at h0 ⊢
 by_cases hov:p.ov=true
 . rw [if_pos hov] at h0;simp at h0
 . rw [if_neg hov] at h0 ⊢
   by_cases hany:p.out.any (fun b=>!b.isEmpty)=true
   . rw [if_pos hany] at h0 ⊢
     exact near_write h hn hp p.out 0 rfl h0
   . rw [if_neg hany] at h0 ⊢
     by_cases hrd:p.rd=true
     . rw [if_pos hrd]
       exact near_end h hn hp
     . rw [if_neg hrd] at h0 ⊢
       by_cases hgot:p.got.isEmpty=true
       . rw [if_pos hgot]
         exact near_proc _
       . rw [if_neg hgot] at h0 ⊢
         have hrd':p.rd=false:=by simpa using hrd
         have hg0:n.ins.length ≠ 0:=by
          intro e
          rw [<- hF.glen] at e
          exact hgot (List.isEmpty_iff.2 (List.length_eq_zero_iff.1 e))
         have hposl:=hF.pos2 hrd' hg0
         have hpos0:=hF.pos0
         have hmine:Mine M a n (firstIn M.ns a+p.pos.toNat):=.inr ⟨p.pos.toNat,by omega,rfl⟩
         generalize firstIn M.ns a+p.pos.toNat=q at *
         unfold readS at h0 ⊢
         split
         . split
           . exact near_proc _
           . exact near_proc _
         . rename_i h1
           split
           . rename_i h2
             rw [if_neg h1,if_pos h2] at h0
             simp at h0
           . have k1:Near M a n (M.setX q ⟨(M.pipe q).b.drop 8,(M.pipe q).room,(M.pipe q).closed,(M.pipe q).shut⟩):=by
              have:=near_set (M:=M) (a:=a) (n:=n) (p':=p) hmine (x':=⟨(M.pipe q).b.drop 8,(M.pipe q).room,(M.pipe q).closed,(M.pipe q).shut⟩) ⟨rfl,id,id⟩
              have e:(M.setX q ⟨(M.pipe q).b.drop 8,(M.pipe q).room,(M.pipe q).closed,(M.pipe q).shut⟩).setP a p=M.setX q ⟨(M.pipe q).b.drop 8,(M.pipe q).room,(M.pipe q).closed,(M.pipe q).shut⟩:=by
               unfold SMach.setP SMach.setX
               have:M.ps.set a p=M.ps:=by
                apply List.ext_getElem?
                intro j
                rw [List.getElem?_set]
                split
                . rename_i e;subst e;rw [if_pos (List.getElem?_eq_some_iff.1 hp).1,hp]
                . rfl
               simp only [this]
              rwa [e] at this
             exact k1.trans (near_came (by unfold Mine at hmine ⊢;exact hmine))
theorem mine_not {M:SMach} (g:RightG M.ns) {a j jj:Nat} {n nj:SNode} {pt:Int × Int} (hn:M.ns[a]? = some n) (hj:M.ns[j]? = some nj) (hp:nj.ins[jj]? = some pt) (hja:j ≠ a) (hpa:pt.1 ≠ (a:Int)):¬ Mine M a n (firstIn M.ns j+jj):=by
 have hjl:jj < nj.ins.length:=(List.getElem?_eq_some_iff.1 hp).1
 rintro (⟨k,hk,e⟩ | ⟨k,hk,e⟩)
 . obtain ⟨r',j',n',hn',hj',_,hinto,hql⟩:=g.reader hn hk
   rw [hinto] at e
   have hjl':j' < n'.ins.length:=(List.getElem?_eq_some_iff.1 hj').1
   obtain ⟨e1,e2⟩:=firstIn_inj hj hn' hjl hjl' e
   subst e1 e2
   rw [hj] at hn'
   injection hn' with hn'
   subst hn'
   rw [hp] at hj'
   injection hj' with hj'
   rw [hj'] at hpa
   exact hpa rfl
 . exact hja (firstIn_inj hj hn hjl hk e).1
end Go.Gs
namespace Go.Proofs.YtllgglolcgdehaaGreatDoor
open Go.RowKit Go.Gs
set_option linter.unusedVariables false
def nodeEq (x y:SNode):Bool:=decide (x.kind=y.kind) && decide (x.file=y.file) && (decide (x.c.kind=y.c.kind) && decide (x.c.word=y.c.word) && decide (x.c.n=y.c.n)) && decide (x.how=y.how) && decide (x.wide=y.wide) && decide (x.ins=y.ins)
def nodesEq:List SNode->List SNode->Bool
 | [],[]=>true
 | x::r,y::s=>nodeEq x y && nodesEq r s
 | _,_=>false
theorem nodesEq_len:∀ {a b:List SNode},a.length ≠ b.length->nodesEq a b=false
 | [],[],h=>absurd rfl h
 | [],_::_,_=>rfl
 | _::_,[],_=>rfl
 | x::r,y::s,h=>by
  show (nodeEq x y && nodesEq r s)=false
  rw [nodesEq_len (a:=r) (b:=s) (by simpa using h)]
  simp
theorem nodesEq_drop:∀ {a b:List SNode} {k:Nat} {x y:SNode},a[k]? = some x->b[k]? = some y->nodesEq (a.drop k) (b.drop k)=(nodeEq x y && nodesEq (a.drop (k+1)) (b.drop (k+1)))
 | [],_,k,x,y,h,_=>by simp at h
 | _::_,[],k,x,y,_,h=>by simp at h
 | u::r,v::s,0,x,y,h1,h2=>by
  simp at h1 h2
  subst h1 h2
  rfl
 | u::r,v::s,k+1,x,y,h1,h2=>by
  simpa using nodesEq_drop (a:=r) (b:=s) (k:=k) (x:=x) (y:=y) (by simpa using h1) (by simpa using h2)
theorem port_take_eq {a b:List (Int × Int)} {k:Nat} {x:Int × Int} (h:a.take k=b.take k) (hx:a[k]? = some x) (hy:b[k]? = some x):a.take (k+1)=b.take (k+1):=by
 rw [List.take_add_one,List.take_add_one,h,hx,hy]
theorem port_ne {a b:List (Int × Int)} {k:Nat} {x y:Int × Int} (hx:a[k]? = some x) (hy:b[k]? = some y) (h:x ≠ y):a ≠ b:=by
 intro e
 rw [e,hy] at hx
 injection hx with hx
 exact h hx.symm
set_option maxRecDepth 100000 in
set_option maxHeartbeats 4000000 in
theorem eqport_is (au av:Option Addr) (cu cv:Nat) (a b:List (Int × Int)) (w:World) (ha:RPorts w (.slice au a.length cu) a) (hb:RPorts w (.slice av b.length cv) b) :
 Calls Tryz.prog 98 #[.slice au a.length cu,.slice av b.length cv] w fun e w'=>e=.returned (.bool (decide (a=b)))/\Below w.heap.size w w':=by
 have m2:=rports_le ha
 have m4:=rports_le hb
 have HA:Hid (RPorts w (.slice au a.length cu) a):=ha
 have HB:Hid (RPorts w (.slice av b.length cv) b):=hb
 obtain ⟨NA,hNA⟩:∃ N,N=a.length:=⟨_,rfl⟩
 obtain ⟨NB,hNB⟩:∃ N,N=b.length:=⟨_,rfl⟩
 have HNA:Hid (NA=a.length):=hNA
 have HNB:Hid (NB=b.length):=hNB
 have hA1:NA<=9223372036854775807:=by omega
 have hB1:NB<=9223372036854775807:=by omega
 rw [<- hNA,<- hNB]
 rw [<- hNA] at HA
 rw [<- hNB] at HB
 clear ha hb m2 m4 hNA hNB
 by_cases hne:NA=NB
 . subst hne
   go_enter Tryz.func98,Tryz.ntmps98
   go_wp2_with fail
   go_loopw [13] (fun i wr=>∃ k:Nat,k<=NA/\i=.int .i64 k/\Hid (Below w.heap.size w wr)/\Hid (a.take k=b.take k)) (fun i _=>NA-(intOf i).toNat)
   case atStart=>exact ⟨0,Nat.zero_le _,rfl,Below.refl _ _,(show _=_ by simp)⟩
   case round=>
    obtain ⟨k,hk,rfl,hbel,hall⟩:=hrel
    by_cases hlt:k < NA
    . obtain ⟨x,hx⟩:∃ x,a[k]? = some x:=⟨_,List.getElem?_eq_getElem (by have:=HNA.out;omega)⟩
      obtain ⟨y,hy⟩:∃ y,b[k]? = some y:=⟨_,List.getElem?_eq_getElem (by have:=HNB.out;omega)⟩
      obtain ⟨b1,o1,rfl,c1,c2⟩:=(HA.out.below hbel.out).at hx
      obtain ⟨b2,o2,rfl,d1,d2⟩:=(HB.out.below hbel.out).at hy
      have HE:Hid (x=y->a.take (k+1)=b.take (k+1)):=(show _->_ from fun e=>port_take_eq hall.out hx (by rw [e];exact hy))
      have HN:Hid (x ≠ y->a ≠ b):=(show _->_ from fun e=>port_ne hx hy e)
      obtain ⟨x1,x2⟩:=x
      obtain ⟨y1,y2⟩:=y
      simp only at c1 c2 d1 d2
      clear hx hy hall
      by_cases e1:x1=y1
      . subst e1
        by_cases e2:x2=y2
        . subst e2
          have HE2:Hid (a.take (k+1)=b.take (k+1)):=HE.out rfl
          clear HE HN
          go_wp2_with fail
          go_region
          all_goals go_wp2_with fail
          all_goals go_roundw
          case rel=>exact ⟨k+1,by omega,by go_num,hbel.out.drew,HE2⟩
          case measure=>simp [intOf];omega
        . have HE2:Hid (a ≠ b):=HN.out (fun e=>e2 (by injection e))
          have q2:(x2 == y2)=false:=by simpa using e2
          clear HE HN
          go_wp2_with fail
          go_region
          all_goals go_wp2_with fail
          all_goals go_ret
          all_goals exact ⟨by rw [decide_eq_false HE2.out];rfl,hbel.out.drew⟩
      . have HE2:Hid (a ≠ b):=HN.out (fun e=>e1 (by injection e))
        have q1:(x1 == y1)=false:=by simpa using e1
        clear HE HN
        go_wp2_with fail
        go_region
        all_goals go_wp2_with fail
        all_goals go_ret
        all_goals exact ⟨by rw [decide_eq_false HE2.out];rfl,hbel.out.drew⟩
    . have HE:Hid (a=b):=(show _=_ by
       have h:=hall.out
       rw [List.take_of_length_le (by have:=HNA.out;omega),List.take_of_length_le (by have:=HNB.out;omega)] at h
       exact h)
      clear hall
      go_wp2_with fail
      go_ret
      exact ⟨by rw [decide_eq_true HE.out];rfl,hbel.out⟩
 . have HE:Hid (a ≠ b):=(show a ≠ b from fun e=>hne (by rw [HNA.out,HNB.out,e]))
   have hq:¬ (NA:Int)=NB:=by omega
   go_enter Tryz.func98,Tryz.ntmps98
   go_wp2_with fail
   go_ret
   exact ⟨by rw [decide_eq_false HE.out];rfl,Below.refl _ _⟩
def eqU (k l:Int) (fe:Bool) (ck dk:Int) (we:Bool) (cn dn hw iw wd vd:Int) (pe:Bool):Bool:=decide (k=l) && fe && (decide (ck=dk) && we && decide (cn=dn)) && decide (hw=iw) && decide (wd=vd) && pe
theorem eqU_is (x y:SNode):nodeEq x y=eqU x.kind y.kind ((⟨x.file.toArray⟩:ByteArray).toList == (⟨y.file.toArray⟩:ByteArray).toList) x.c.kind y.c.kind ((⟨x.c.word.toArray⟩:ByteArray).toList == (⟨y.c.word.toArray⟩:ByteArray).toList) x.c.n y.c.n x.how y.how x.wide y.wide (decide (x.ins=y.ins)):=by
 unfold nodeEq eqU
 rw [str_eqO,str_eqO]
set_option maxRecDepth 100000 in
set_option maxHeartbeats 4000000 in
theorem eqbyte_is (au av:Option Addr) (cu cv:Nat) (a b:List UInt8) (w:World) (ha:Reads w (.slice au a.length cu) a.length (a.map U)) (hb:Reads w (.slice av b.length cv) b.length (b.map U)) :
 Calls Tryz.prog 30 #[.slice au a.length cu,.slice av b.length cv] w fun e w'=>e=.returned (.bool (decide (a=b)))/\Below w.heap.size w w':=by
 have m2:=reads_le' ha
 have m4:=reads_le' hb
 have HA:Hid (Reads w (.slice au a.length cu) a.length (a.map U)):=ha
 have HB:Hid (Reads w (.slice av b.length cv) b.length (b.map U)):=hb
 obtain ⟨NA,hNA⟩:∃ N,N=a.length:=⟨_,rfl⟩
 obtain ⟨NB,hNB⟩:∃ N,N=b.length:=⟨_,rfl⟩
 have HNA:Hid (NA=a.length):=hNA
 have HNB:Hid (NB=b.length):=hNB
 have hA1:NA<=9223372036854775807:=by omega
 have hB1:NB<=9223372036854775807:=by omega
 rw [<- hNA,<- hNB]
 rw [<- hNA] at HA
 rw [<- hNB] at HB
 clear ha hb m2 m4 hNA hNB
 by_cases hne:NA=NB
 . subst hne
   go_enter Tryz.func30,Tryz.ntmps30
   go_wp2_with fail
   go_loopw [13] (fun i wr=>∃ k:Nat,k<=NA/\i=.int .i64 k/\Hid (Below w.heap.size w wr)/\Hid (a.take k=b.take k)) (fun i _=>NA-(intOf i).toNat)
   case atStart=>exact ⟨0,Nat.zero_le _,rfl,Below.refl _ _,(show _=_ by simp)⟩
   case round=>
    obtain ⟨k,hk,rfl,hbel,hall⟩:=hrel
    by_cases hlt:k < NA
    . obtain ⟨x,hx⟩:∃ x,a[k]? = some x:=⟨_,List.getElem?_eq_getElem (by have:=HNA.out;omega)⟩
      obtain ⟨y,hy⟩:∃ y,b[k]? = some y:=⟨_,List.getElem?_eq_getElem (by have:=HNB.out;omega)⟩
      have HX:Hid (a[k]? = some x):=hx
      have HY:Hid (b[k]? = some y):=hy
      obtain ⟨b1,o1,rfl,hc1⟩:=reads_byte (Reads.below HA.out hbel.out) hx
      obtain ⟨b2,o2,rfl,hc2⟩:=reads_byte (Reads.below HB.out hbel.out) hy
      by_cases hxy:x=y
      . subst hxy
        have HE:Hid (a.take (k+1)=b.take (k+1)):=take_eq2 hall.out hx hy
        generalize (x.toNat:Int)=xi at *
        clear hx hy hall
        go_wp2_with fail
        go_region
        all_goals go_wp2_with fail
        all_goals go_roundw
        case rel=>exact ⟨k+1,by omega,by go_num,hbel.out.drew,HE⟩
        case measure=>simp [intOf];omega
      . have HE:Hid (a ≠ b):=ne_at2 hx hy hxy
        have hxi:¬ (x.toNat:Int)=(y.toNat:Int):=fun h=>hxy (UInt8.toNat_inj.1 (by omega))
        generalize (x.toNat:Int)=xi at *
        generalize (y.toNat:Int)=yi at *
        clear hx hy hall hxy
        go_wp2_with fail
        go_region
        all_goals go_wp2_with fail
        all_goals go_ret
        all_goals exact ⟨by rw [decide_eq_false HE.out];rfl,hbel.out.drew⟩
    . have HE:Hid (a=b):=(show _=_ by
       have h:=hall.out
       rw [List.take_of_length_le (by have:=HNA.out;omega),List.take_of_length_le (by have:=HNB.out;omega)] at h
       exact h)
      clear hall
      go_wp2_with fail
      go_ret
      exact ⟨by rw [decide_eq_true HE.out];rfl,hbel.out⟩
 . have HE:Hid (a ≠ b):=(show a ≠ b from fun e=>hne (by rw [HNA.out,HNB.out,e]))
   have hq:¬ (NA:Int)=NB:=by omega
   go_enter Tryz.func30,Tryz.ntmps30
   go_wp2_with fail
   go_ret
   exact ⟨by rw [decide_eq_false HE.out];rfl,Below.refl _ _⟩
end Go.Proofs.YtllgglolcgdehaaGreatDoor
namespace Go.Proofs.YtllgglolcgdehaaGreatDoor
open Go.RowKit Go.Gs
set_option linter.unusedVariables false
variable [DecidableEq SFile]
set_option maxRecDepth 100000 in
set_option maxHeartbeats 4000000 in
theorem samef1_is (x y:SFile) (ab bb:Option Addr) (cb eb:Nat) (w:World) (hx:Reads w (.slice ab x.b.length cb) x.b.length (x.b.map U)) (hy:Reads w (.slice bb y.b.length eb) y.b.length (y.b.map U)) :
 Calls Tryz.prog 100 #[.agg #[.string ⟨x.name.toArray⟩,.slice ab x.b.length cb],.agg #[.string ⟨y.name.toArray⟩,.slice bb y.b.length eb]] w fun e w'=>e=.returned (.bool (decide (x=y)))/\Below w.heap.size w w':=by
 have HE1:Hid _:=fun (W:World) (hb:Below w.heap.size w W)=>eqbyte_is ab bb cb eb x.b y.b W (Reads.below hx hb) (Reads.below hy hb)
 have hse:=str_eq2 x.name y.name
 have HXY:Hid (x=y ↔ x.name=y.name/\x.b=y.b):=(show x=y ↔ _ from ⟨fun h=>by subst h;exact ⟨rfl,rfl⟩,fun ⟨h1,h2⟩=>by
  obtain ⟨a1,a2⟩:=x
  obtain ⟨b1,b2⟩:=y
  simp only at h1 h2
  subst h1 h2
  rfl⟩)
 obtain ⟨d0,hd0⟩:∃ d,d=decide (x.name=y.name):=⟨_,rfl⟩
 obtain ⟨d1,hd1⟩:∃ d,d=decide (x.b=y.b):=⟨_,rfl⟩
 have HD:Hid (decide (x=y)=(d0 && d1)):=(show _=_ by
  rw [hd0,hd1,<- Bool.decide_and]
  exact decide_eq_decide.2 HXY.out)
 rw [<- hd0] at hse
 rw [<- hd1] at HE1
 generalize (⟨x.name.toArray⟩:ByteArray)=tx at *
 generalize (⟨y.name.toArray⟩:ByteArray)=ty at *
 generalize x.b.length=NF at *
 generalize y.b.length=MF at *
 clear hx hy hd0 hd1 HXY
 cases d0 with
 | false=>
  have hse':¬ tx.toList=ty.toList:=by simpa using hse
  clear hse
  go_enter Tryz.func100,Tryz.ntmps100
  go_wp2_with fail
  go_ret
  exact ⟨by rw [HD.out];rfl,boxr2_of⟩
 | true=>
  have hse':tx.toList=ty.toList:=by simpa using hse
  clear hse
  go_enter Tryz.func100,Tryz.ntmps100
  go_wp2_with fail
  refine Calls.mono (HE1.out _ boxr2_of) ?_
  rintro e w3 ⟨rfl,hb3⟩
  have HB3:Hid (Below w.heap.size w w3):=boxr2_of.trans (hb3.mono boxr2_of.size)
  clear hb3 HE1
  go_wp2_with fail
  go_ret
  exact ⟨by rw [HD.out];rfl,HB3.out⟩
end Go.Proofs.YtllgglolcgdehaaGreatDoor
namespace Go.Proofs.YtllgglolcgdehaaGreatDoor
open Go.RowKit Go.Gs
set_option linter.unusedVariables false
variable [DecidableEq SFile]
set_option maxRecDepth 100000 in
set_option maxHeartbeats 4000000 in
theorem eqfile_is (au av:Option Addr) (cu cv:Nat) (a b:List SFile) (w:World) (ha:RFiles w (.slice au a.length cu) a) (hb:RFiles w (.slice av b.length cv) b) :
 Calls Tryz.prog 99 #[.slice au a.length cu,.slice av b.length cv,.func (.func 100) #[] #[]] w fun e w'=>e=.returned (.bool (decide (a=b)))/\Below w.heap.size w w':=by
 have m2:=rfiles_le ha
 have m4:=rfiles_le hb
 have HA:Hid (RFiles w (.slice au a.length cu) a):=ha
 have HB:Hid (RFiles w (.slice av b.length cv) b):=hb
 obtain ⟨NA,hNA⟩:∃ N,N=a.length:=⟨_,rfl⟩
 obtain ⟨NB,hNB⟩:∃ N,N=b.length:=⟨_,rfl⟩
 have HNA:Hid (NA=a.length):=hNA
 have HNB:Hid (NB=b.length):=hNB
 have hA1:NA<=9223372036854775807:=by omega
 have hB1:NB<=9223372036854775807:=by omega
 rw [<- hNA,<- hNB]
 rw [<- hNA] at HA
 rw [<- hNB] at HB
 clear ha hb m2 m4 hNA hNB
 by_cases hne:NA=NB
 . subst hne
   go_enter Tryz.func99,Tryz.ntmps99
   go_wp2_with fail
   go_loopw [17] (fun i wr=>∃ k:Nat,k<=NA/\i=.int .i64 k/\Hid (Below w.heap.size w wr)/\Hid (a.take k=b.take k)) (fun i _=>NA-(intOf i).toNat)
   case atStart=>exact ⟨0,Nat.zero_le _,rfl,Below.refl _ _,(show _=_ by simp)⟩
   case round=>
    obtain ⟨k,hk,rfl,hbel,hall⟩:=hrel
    by_cases hlt:k < NA
    . obtain ⟨x,hx⟩:∃ x,a[k]? = some x:=⟨_,List.getElem?_eq_getElem (by have:=HNA.out;omega)⟩
      obtain ⟨y,hy⟩:∃ y,b[k]? = some y:=⟨_,List.getElem?_eq_getElem (by have:=HNB.out;omega)⟩
      have HX:Hid (a[k]? = some x):=hx
      have HY:Hid (b[k]? = some y):=hy
      obtain ⟨b1,o1,ab,cb,rfl,hc10,hc11,hrx⟩:=(RFiles.below HA.out hbel.out).at hx
      obtain ⟨b2,o2,bb,eb,rfl,hc20,hc21,hry⟩:=(RFiles.below HB.out hbel.out).at hy
      have HS:Hid _:=fun (W:World) (hb:Below wr.heap.size wr W)=>samef1_is x y ab bb cb eb W (Reads.below hrx hb) (Reads.below hry hb)
      obtain ⟨d,hd⟩:∃ d,d=decide (x=y):=⟨_,rfl⟩
      have HDD:Hid (d=decide (x=y)):=hd
      rw [<- hd] at HS
      have hg20:=(boxr_of (w:=wr) (o:=.cells #[.string ⟨x.name.toArray⟩,.slice ab x.b.length cb] 83)).cell (World.block_lt_of_cell? wr _ hc20)
      have hg21:=(boxr_of (w:=wr) (o:=.cells #[.string ⟨x.name.toArray⟩,.slice ab x.b.length cb] 83)).cell (World.block_lt_of_cell? wr _ hc21)
      rw [hc20] at hg20
      rw [hc21] at hg21
      generalize (⟨x.name.toArray⟩:ByteArray)=tx at *
      generalize (⟨y.name.toArray⟩:ByteArray)=ty at *
      generalize x.b.length=NF at *
      generalize y.b.length=MF at *
      clear hx hy hd hrx hry hc20 hc21
      go_wp2_with fail
      refine Calls.mono (HS.out _ boxr2_of) ?_
      rintro e w3 ⟨rfl,hb3⟩
      have HB3:Hid (Below w.heap.size w w3):=(hbel.out.trans (boxr2_of.mono hbel.out.size)).trans (hb3.mono (Nat.le_trans hbel.out.size boxr2_of.size))
      clear hb3 HS hg20 hg21 hc10 hc11
      cases d with
      | true=>
       have hxy:x=y:=of_decide_eq_true HDD.out.symm
       have HE:Hid (a.take (k+1)=b.take (k+1)):=take_eq2 hall.out HX.out (by rw [hxy];exact HY.out)
       clear hxy hall
       go_wp2_with fail
       go_roundw
       case rel=>exact ⟨k+1,by omega,by go_num,HB3,HE⟩
       case measure=>simp [intOf];omega
      | false=>
       have HE:Hid (a ≠ b):=ne_at2 HX.out HY.out (of_decide_eq_false HDD.out.symm)
       clear hall
       go_wp2_with fail
       go_ret
       exact ⟨by rw [decide_eq_false HE.out];rfl,HB3.out⟩
    . have HE:Hid (a=b):=(show _=_ by
       have h:=hall.out
       rw [List.take_of_length_le (by have:=HNA.out;omega),List.take_of_length_le (by have:=HNB.out;omega)] at h
       exact h)
      clear hall
      go_wp2_with fail
      go_ret
      exact ⟨by rw [decide_eq_true HE.out];rfl,hbel.out⟩
 . have HE:Hid (a ≠ b):=(show a ≠ b from fun e=>hne (by rw [HNA.out,HNB.out,e]))
   have hq:¬ (NA:Int)=NB:=by omega
   go_enter Tryz.func99,Tryz.ntmps99
   go_wp2_with fail
   go_ret
   exact ⟨by rw [decide_eq_false HE.out];rfl,Below.refl _ _⟩
theorem sameFiles_ref (au av:Option Addr) (cu cv:Nat) (a b:List SFile) (w:World) (ha:RFiles w (.slice au a.length cu) a) (hb:RFiles w (.slice av b.length cv) b) :
 Calls Tryz.prog 34 #[.slice au a.length cu,.slice av b.length cv] w fun e w'=>e=.returned (.bool (decide (a=b)))/\Below w.heap.size w w':=by
 have hE:=eqfile_is au av cu cv a b w ha hb
 obtain ⟨d,hd⟩:∃ d,d=decide (a=b):=⟨_,rfl⟩
 rw [<- hd] at hE ⊢
 generalize a.length=NA at *
 generalize b.length=NB at *
 clear ha hb hd
 go_enter Tryz.func34,Tryz.ntmps34
 go_wp2_with fail
 refine Calls.mono hE ?_
 rintro e w1 ⟨rfl,hb1⟩
 have HB:Hid (Below w.heap.size w w1):=hb1
 clear hb1 hE
 go_wp2_with fail
 go_ret
 exact ⟨rfl,HB.out⟩
end Go.Proofs.YtllgglolcgdehaaGreatDoor
namespace Go.Proofs.YtllgglolcgdehaaGreatDoor
open Go.RowKit Go.Gs Go.ChangeShapes Go.WideShapes Go.ChangeAt
set_option linter.unusedVariables false
variable {H:Type} {enc:TypeId × Value->H} {W:World} {base:Nat} {held:Bool} {fuel:Nat} {x:DataW H × List MemPlace}
theorem ports_of_open {v:Value} (hf:DataW.trod enc Tryz.prog W base (fun _=>true) held fuel 71 [v]=some x) :
 ∃ ps:List (Int × Int),RPorts W v ps /\ ∀ p ∈ ps,(Lit.int .i64 p.1).wf=true/\(Lit.int .i64 p.2).wf=true:=by
 rcases Deep.open_slice_pairs Tryz.underlying71 Tryz.underlying79 (by kernel_rfl) rfl rfl (by kernel_rfl) (by kernel_rfl) hf with ⟨hcs,_⟩ | ⟨a,len,cap,m,n,V0,V1,D0,D1,P0,P1,hcs,hb,hl,hm,hmm,_,hall⟩
 . simp at hcs
   subst hcs
   exact ⟨[],⟨none,0,rfl,Nat.le_refl _,by simp,fun h=>absurd rfl h⟩,(by intro c hc;cases hc)⟩
 . simp at hcs
   subst hcs
   simp only [if_true] at hmm
   subst hmm
   have each:∀ i,i < len -> ∃ p:Int × Int,V0 i=.int .i64 p.1/\V1 i=.int .i64 p.2/\(Lit.int .i64 p.1).wf=true/\(Lit.int .i64 p.2).wf=true:=by
    intro i hi
    obtain ⟨_,_,g0,g1⟩:=hall i (by omega)
    obtain ⟨z0,e0,_,w0⟩:=DataW.trod_int Tryz.underlying3 g0
    obtain ⟨z1,e1,_,w1⟩:=DataW.trod_int Tryz.underlying3 g1
    simp at e0 e1
    exact ⟨(z0,z1),e0,e1,w0,w1⟩
   obtain ⟨Y,hY⟩:=Deep.choose_lt each
   refine ⟨(List.range len).map Y,⟨some a,m,by simp,by simpa using hl,hm,fun h0=>?_⟩,fun p hp=>?_⟩
   . have h0':0 < len:=by
      rcases Nat.eq_zero_or_pos len with h | h
      . subst h;simp at h0
      . exact h
     have hspot:=spot_none (hall 0 (by omega)).1 rfl
     obtain ⟨b,off,spot⟩:=a
     simp only at hspot
     subst hspot
     refine ⟨b,off,rfl,fun j f hj=>?_⟩
     obtain ⟨h1,rfl⟩:=range_get hj
     obtain ⟨c0,c1,_,_⟩:=hall j (by omega)
     obtain ⟨q0,q1,_⟩:=hY j h1
     rw [add_plain4] at c0 c1
     exact ⟨by rw [c0,q0],by rw [Nat.add_assoc,c1,q1]⟩
   . obtain ⟨i,hi,rfl⟩:=List.mem_map.1 hp
     exact (hY i (List.mem_range.1 hi)).2.2
theorem eight {cs:List Value} (h:cs.length=8):∃ v0 v1 v2 v3 v4 v5 v6 v7,cs=[v0,v1,v2,v3,v4,v5,v6,v7]:=by
 match cs,h with
 | [v0,v1,v2,v3,v4,v5,v6,v7],_=>exact ⟨v0,v1,v2,v3,v4,v5,v6,v7,rfl⟩
theorem node_fields {P:Program} {t:TypeId} {f0 f1 f2 f3 f4 f5:Field} {v0 v1 v2 v3 v4 v5 v6 v7:Value} (he:P.underlying t=some (.struct #[f0,f1,f2,f3,f4,f5])) (o0:f0.offset=0) (o1:f1.offset=1) (o2:f2.offset=2) (o3:f3.offset=5) (o4:f4.offset=6) (o5:f5.offset=7)
 (c0:P.cellsOf f0.type=1) (c1:P.cellsOf f1.type=1) (c2:P.cellsOf f2.type=3) (c3:P.cellsOf f3.type=1) (c4:P.cellsOf f4.type=1) (c5:P.cellsOf f5.type=1)
 (h:DataW.trod enc P W base (fun _=>true) held fuel t [v0,v1,v2,v3,v4,v5,v6,v7]=some x) :
 ∃ k y0 y1 y2 y3 y4 y5,DataW.trod enc P W base (fun _=>true) held k f0.type [v0]=some y0/\DataW.trod enc P W base (fun _=>true) held k f1.type [v1]=some y1/\DataW.trod enc P W base (fun _=>true) held k f2.type [v2,v3,v4]=some y2/\DataW.trod enc P W base (fun _=>true) held k f3.type [v5]=some y3/\DataW.trod enc P W base (fun _=>true) held k f4.type [v6]=some y4/\DataW.trod enc P W base (fun _=>true) held k f5.type [v7]=some y5:=by
 obtain ⟨xs,k,_,_,_,hxl,hf⟩:=DataW.trod_struct he h
 match xs,hxl with
 | [y0,y1,y2,y3,y4,y5],_=>
  have g0:=hf 0 f0 rfl
  have g1:=hf 1 f1 rfl
  have g2:=hf 2 f2 rfl
  have g3:=hf 3 f3 rfl
  have g4:=hf 4 f4 rfl
  have g5:=hf 5 f5 rfl
  simp [o0,o1,o2,o3,o4,o5,c0,c1,c2,c3,c4,c5] at g0 g1 g2 g3 g4 g5
  exact ⟨k,y0,y1,y2,y3,y4,y5,g0,g1,g2,g3,g4,g5⟩
theorem cmd_fields {P:Program} {t:TypeId} {f0 f1 f2:Field} {v0 v1 v2:Value} (he:P.underlying t=some (.struct #[f0,f1,f2])) (o0:f0.offset=0) (o1:f1.offset=1) (o2:f2.offset=2) (c0:P.cellsOf f0.type=1) (c1:P.cellsOf f1.type=1) (c2:P.cellsOf f2.type=1)
 (h:DataW.trod enc P W base (fun _=>true) held fuel t [v0,v1,v2]=some x) :
 ∃ k y0 y1 y2,DataW.trod enc P W base (fun _=>true) held k f0.type [v0]=some y0/\DataW.trod enc P W base (fun _=>true) held k f1.type [v1]=some y1/\DataW.trod enc P W base (fun _=>true) held k f2.type [v2]=some y2:=by
 obtain ⟨xs,k,_,_,_,hxl,hf⟩:=DataW.trod_struct he h
 match xs,hxl with
 | [y0,y1,y2],_=>
  have g0:=hf 0 f0 rfl
  have g1:=hf 1 f1 rfl
  have g2:=hf 2 f2 rfl
  simp [o0,o1,o2,c0,c1,c2] at g0 g1 g2
  exact ⟨k,y0,y1,y2,g0,g1,g2⟩
set_option maxRecDepth 100000 in
theorem node_of_open {cs:List Value} (hlen:cs.length=8) (h:DataW.trod enc Tryz.prog W base (fun _=>true) held fuel 73 cs=some x) :
 ∃ (n:SNode) (ai:Option Addr) (ci:Nat),cs=[.int .i64 n.kind,.string ⟨n.file.toArray⟩,.int .i64 n.c.kind,.string ⟨n.c.word.toArray⟩,.int .i64 n.c.n,.int .i64 n.how,.int .i64 n.wide,.slice ai n.ins.length ci]/\RPorts W (.slice ai n.ins.length ci) n.ins/\FitsN n/\(Lit.int .i64 n.c.kind).wf=true:=by
 obtain ⟨v0,v1,v2,v3,v4,v5,v6,v7,rfl⟩:=eight hlen
 obtain ⟨k,y0,y1,y2,y3,y4,y5,g0,g1,g2,g3,g4,g5⟩:=node_fields Tryz.underlying73 rfl rfl rfl rfl rfl rfl (by kernel_rfl) (by kernel_rfl) (by kernel_rfl) (by kernel_rfl) (by kernel_rfl) (by kernel_rfl) h
 obtain ⟨k2,q0,q1,q2,m0,m1,m2⟩:=cmd_fields Tryz.underlying70 rfl rfl rfl (by kernel_rfl) (by kernel_rfl) (by kernel_rfl) g2
 obtain ⟨nk,e0,_,_⟩:=DataW.trod_int Tryz.underlying3 g0
 obtain ⟨fx,e1,_,hs1⟩:=DataW.trod_string Tryz.underlying9 g1
 obtain ⟨ck,e2,_,hwf⟩:=DataW.trod_int Tryz.underlying3 m0
 obtain ⟨wx,e3,_,hs3⟩:=DataW.trod_string Tryz.underlying9 m1
 obtain ⟨cn,e4,_,_⟩:=DataW.trod_int Tryz.underlying3 m2
 obtain ⟨hw,e5,_,_⟩:=DataW.trod_int Tryz.underlying3 g3
 obtain ⟨wd,e6,_,_⟩:=DataW.trod_int Tryz.underlying3 g4
 obtain ⟨ps,hps,hwp⟩:=ports_of_open g5
 obtain ⟨ai,ci,e7,_,_⟩:=hps.shape
 simp only [List.cons.injEq,and_true] at e0 e1 e2 e3 e4 e5 e6
 unfold maxLen at hs1 hs3
 refine ⟨⟨nk,fx.data.toList,⟨ck,wx.data.toList,cn⟩,hw,wd,ps⟩,ai,ci,?_,by rw [<- e7];exact hps,⟨?_,?_,hwp⟩,hwf⟩
 . rw [e0,e1,e2,e3,e4,e5,e6,e7]
 . have:fx.data.toList.length=fx.size:=Array.length_toList
   show fx.data.toList.length<=_
   omega
 . have:wx.data.toList.length=wx.size:=Array.length_toList
   show wx.data.toList.length<=_
   omega
theorem nodes_of_open {v:Value} (hf:DataW.trod enc Tryz.prog W base (fun _=>true) held fuel 22 [v]=some x) :
 ∃ ns:List SNode,RNodes W v ns/\(∀ n ∈ ns,FitsN n)/\(∀ n ∈ ns,(Lit.int .i64 n.c.kind).wf=true):=by
 rcases Deep.open_slice Tryz.underlying22 hf with ⟨h0,_⟩ | ⟨a,len,cap,m,n,D,Pl,hcs,hb,hl,hm,hmm,_,hx⟩
 . simp at h0
   subst h0
   exact ⟨[],⟨none,0,rfl,Nat.le_refl _,by simp,fun h=>absurd rfl h⟩,(by intro c hc;cases hc),(by intro c hc;cases hc)⟩
 . simp at hcs
   subst hcs
   have hlm:len<=m:=by rw [hmm];split <;> omega
   have each:∀ i,i < len -> ∃ p:SNode × Option Addr × Nat,(∀ (j:Nat) u,[Value.int .i64 p.1.kind,.string ⟨p.1.file.toArray⟩,.int .i64 p.1.c.kind,.string ⟨p.1.c.word.toArray⟩,.int .i64 p.1.c.n,.int .i64 p.1.how,.int .i64 p.1.wide,.slice p.2.1 p.1.ins.length p.2.2][j]? = some u->W.cell? (a.add (i*8+j))=some u)/\RPorts W (.slice p.2.1 p.1.ins.length p.2.2) p.1.ins/\FitsN p.1/\(Lit.int .i64 p.1.c.kind).wf=true:=by
    intro i hi
    obtain ⟨cs',h1,h2⟩:=hx i (by omega)
    rw [show Tryz.prog.cellsOf 73 = 8 by kernel_rfl] at h1
    obtain ⟨_,hlen,hcell⟩:=World.cells?_some h1
    obtain ⟨nn,ai,ci,rfl,hp,hfn,hw⟩:=node_of_open hlen h2
    refine ⟨(nn,ai,ci),fun j u hj=>?_,hp,hfn,hw⟩
    have hjl:j < 8:=by have:=(List.getElem?_eq_some_iff.1 hj).1;simpa using this
    have e:=hcell j hjl
    rw [Deep.add_add] at e
    rw [e]
    exact hj
   haveI:Inhabited (SNode × Option Addr × Nat):=⟨(⟨0,[],⟨0,[],0⟩,0,0,[]⟩,none,0)⟩
   obtain ⟨Y,hY⟩:=Deep.choose_lt each
   refine ⟨(List.range len).map (fun i=>(Y i).1),⟨some a,cap,by simp,by simpa using hl,hm,fun h0=>?_⟩,fun q hq=>?_,fun q hq=>?_⟩
   . have h0':0 < len:=by
      rcases Nat.eq_zero_or_pos len with h | h
      . subst h;simp at h0
      . exact h
     have hspot:=spot_none ((hY 0 h0').1 0 _ rfl) rfl
     obtain ⟨b,off,spot⟩:=a
     simp only at hspot
     subst hspot
     refine ⟨b,off,rfl,fun j q hj=>?_⟩
     obtain ⟨h1,rfl⟩:=range_get hj
     obtain ⟨q0,q1,_,_⟩:=hY j h1
     have cell:∀ (k:Nat) u,[Value.int .i64 (Y j).1.kind,.string ⟨(Y j).1.file.toArray⟩,.int .i64 (Y j).1.c.kind,.string ⟨(Y j).1.c.word.toArray⟩,.int .i64 (Y j).1.c.n,.int .i64 (Y j).1.how,.int .i64 (Y j).1.wide,.slice (Y j).2.1 (Y j).1.ins.length (Y j).2.2][k]? = some u->W.cell? ⟨b,off+j*8+k,none⟩=some u:=by
      intro k u hu
      have:=q0 k u hu
      rw [add_plain4] at this
      rw [Nat.add_assoc]
      exact this
     exact ⟨(Y j).2.1,(Y j).2.2,⟨cell 0 _ rfl,cell 1 _ rfl,cell 2 _ rfl,cell 3 _ rfl,cell 4 _ rfl,cell 5 _ rfl,cell 6 _ rfl,cell 7 _ rfl⟩,q1⟩
   . obtain ⟨i,hi,rfl⟩:=List.mem_map.1 hq
     exact (hY i (List.mem_range.1 hi)).2.2.1
   . obtain ⟨i,hi,rfl⟩:=List.mem_map.1 hq
     exact (hY i (List.mem_range.1 hi)).2.2.2
end Go.Proofs.YtllgglolcgdehaaGreatDoor
namespace Go.Gs
open Go.RowKit Go.ChangeShapes Go.WideShapes Go.ChangeAt
set_option linter.unusedVariables false
variable {P:Program} {H:Type} {enc:TypeId × Value->H} {W:World} {base:Nat} {held:Bool} {fuel:Nat} {t e:TypeId} {a:Option Addr} {len cap:Nat} {x:DataW H × List MemPlace}
theorem bytes_datum (ht:P.underlying t=some (.slice e)) (he:P.underlying e=some (.int .u8)) (hc:P.cellsOf e=1)
 (hf:DataW.trod enc P W base (fun _=>true) held fuel t [.slice a len cap]=some x):len=0 \/ ∃ elems spare,x.1=.slice elems spare/\elems.length=len:=by
 rcases open_ints ht he hc hf with ⟨hcs,_⟩ | ⟨ad,l,c,zs,hcs,_,hl,hm,hz,hx,hcell,hwz⟩
 . simp at hcs
   exact .inl hcs.2.1
 . simp at hcs
   obtain ⟨rfl,rfl,rfl⟩:=hcs
   have hz':zs.length=cap:=by simpa using hz
   refine .inr ⟨_,_,by rw [hx],?_⟩
   simp [lits]
   omega
end Go.Gs
namespace Go.Gs
open Go.RowKit Go.ChangeShapes Go.WideShapes Go.ChangeAt
set_option linter.unusedVariables false
variable {P:Program} {H:Type} {enc:TypeId × Value->H} {W:World} {base:Nat} {held:Bool} {fuel:Nat} {t e:TypeId} {v:Value} {x:DataW H × List MemPlace}
theorem U_ofP {z:Int} (h:(Lit.int .u8 z).wf=true):U (UInt8.ofNat z.toNat)=.int .u8 z:=by
 have hx:0<=z/\z<=255:=by simpa [Lit.wf,IntKind.min,IntKind.max,IntKind.signed,IntKind.bits] using h
 have:((UInt8.ofNat z.toNat).toNat:Int)=z:=by
  rw [UInt8.toNat_ofNat_of_lt' (by show _ < 256;omega)]
  omega
 simp only [U,this]
theorem pbytes_of_open (ht:P.underlying t=some (.slice e)) (he:P.underlying e=some (.int .u8)) (hc:P.cellsOf e=1)
 (hf:DataW.trod enc P W base (fun _=>true) held fuel t [v]=some x) :
 ∃ (bs:List UInt8) (a:Option Addr) (cap:Nat),v=.slice a bs.length cap/\Reads W (.slice a bs.length cap) bs.length (bs.map U)/\(a=none->cap=0):=by
 obtain ⟨zs,a,cap,h1,h2,h3,h4⟩:=row_of_open ht he hc hf
 have hl:(zs.map (fun z=>UInt8.ofNat z.toNat)).length=zs.length:=by simp
 refine ⟨zs.map (fun z=>UInt8.ofNat z.toNat),a,cap,by rw [hl];exact h1,?_,h3⟩
 rw [hl,List.map_map]
 have e:zs.map (U ∘ fun z=>UInt8.ofNat z.toNat)=zs.map (Value.int .u8):=List.map_congr_left fun z hz=>U_ofP (h4 z hz)
 rw [e]
 exact h2
end Go.Gs
