/- What the reference's PutIn does. -/
import Derived.Test.YtllgglolcgdehaaGreatDoorSAb
import Derived.Test.YtllgglolcgdehaaGreatDoorSa40
set_option linter.all false
set_option maxRecDepth 100000
set_option maxHeartbeats 16000000
namespace Go.Proofs.YtllgglolcgdehaaGreatDoor
open Go.RowKit Go.Gs Tryz
theorem bk6{w:World}{p:Nat}{a b:Value}{t:TypeId}(h:w.heap[p]? = some (.cells #[a,b] t (0,0))):w.cell? ⟨p,0+0,none⟩=some a/\w.cell? ⟨p,0+1,none⟩=some b:=by simp only[World.cell?,h];exact⟨rfl,rfl⟩
def cj3(w:World)(r:FRow):Prop:=r.2.2.1=r.1.b.length/\Reads w (.slice r.2.1 r.2.2.1 r.2.2.2) r.1.b.length (r.1.b.map U)
theorem aT1{w:World}{B:Nat}{e:TypeId}{size:Nat}{v:Value}{n:Nat}{xs:List Value}(h:w.ownsRow B e size v n xs)(hn:n≠0):∃g cap,v=.slice (some ⟨g,0,none⟩) n cap/\n<=cap/\cap<=maxLen:=by
 rcases h.2 with⟨_,h0⟩|⟨g,cap,cur,h1,_,_,h2,h3,_⟩
 . exact absurd h0 hn
 . exact⟨g,cap,h1,h2,h3⟩
theorem bH5(rows:List FRow)(n:List UInt8):(rows.filter (fun r=>r.1.name != n)).map (·.1)=(rows.map (·.1)).filter (fun f=>f.name != n):=by rw[List.filter_map];rfl
theorem aI8{rows:List FRow}{n:List UInt8}{k:Nat}{r:FRow}(h:rows[k]? = some r):(rows.take (k+1)).filter (fun r=>r.1.name != n)=(rows.take k).filter (fun r=>r.1.name != n)++(if r.1.name=n then [] else [r]):=by
 rw[qX,h,xa,List.filter_append];congr 1;by_cases hn:r.1.name=n
 . simp[hn]
 . simp[hn]
theorem bY3{w w':World}{fs:List SFile}{n b:List UInt8}{e:Ending}{g m cap:Nat}{out d':List FRow}(hr:j8 none fs=0)(hn:isWord n=true)(hb:¬4000<b.length)(hm:m=out.length)(hm12:m<=12)(hmc:m<=cap)(hcm:cap<=maxLen)
 (ho:out.map (·.1)=fs.filter (fun f=>f.name != n)++[⟨n,b⟩]) (Av:∀r∈out,cj3 w r) (hp:d'.Perm out) (hs:d'.Pairwise (fun x y=>x.1.name<=y.1.name)) (hc:∀(j:Nat)(r:FRow),d'[j]? = some r->w'.cell? ⟨g,0+j*2,none⟩=some (.string ⟨r.1.name.toArray⟩)/\w'.cell? ⟨g,0+j*2+1,none⟩=some (.slice r.2.1 r.2.2.1 r.2.2.2)) (Aa:Bq w w') (he:e=.returned (.tuple #[.slice (some ⟨g,0,none⟩) m cap,.int .i64 0])):ak3 w (putS fs n b) e w':=by
 have hd:d'.map (·.1)=putF fs n b:=bz0 hr hn (by omega) (by rw[<- ho];exact hp.map _) (by
  rw[List.pairwise_map]
  exact hs)
 have hlen:(putF fs n b).length=m:=by rw[<- hd,qM,hp.length_eq,hm]
 rw[bf1 hn hb (by omega)];refine⟨some ⟨g,0,none⟩,cap,by rw[he,hlen],?_,Aa⟩;simp only;rw[hlen];refine⟨_,cap,by rw[hlen],by omega,hcm,fun _=>⟨g,0,rfl,fun j f hj=>?_⟩⟩;rw[<- hd,qQ]at hj
 cases hdj:d'[j]? with
 | none=>rw[hdj]at hj;cases hj
 | some r=>
  rw[hdj]at hj
  simp only[qu,qW]at hj
  subst hj
  obtain⟨c0,c1⟩:=hc j r hdj
  exact⟨_,c0,c1,Reads.below (Av r (hp.mem_iff.1 (mGt hdj))).2 Aa⟩
theorem bY4(ao ab:Option Addr)(cap cb:Nat)(fs:List SFile)(n b:List UInt8)(w:World)(hf:j6 w (.slice ao fs.length cap) fs)(On:j8 none fs=0)(h12:fs.length<=12)(hb:Reads w (.slice ab b.length cb) b.length (b.map U))(hnl:n.length<=9223372036854775807):
 Calls prog 52 #[.slice ao fs.length cap,.string ⟨n.toArray⟩,.slice ab b.length cb] w fun e w'=>ak3 w (putS fs n b) e w':=by
 obtain⟨iw,hiw⟩:=qE (isWord n);have HIW:=qH hiw;have hW:=P6 n w hnl iw hiw.symm;have hbl:=U9 hb;obtain⟨L,hL⟩:=qE b.length;have HL:=qH hL;obtain⟨N,hN⟩:=qE fs.length;have HN:=qH hN;obtain⟨rows,Az,hrc⟩:=bI0 hf;have HRW:=qH Az;have HRC:Hid _:=hrc;have HBR:=qH hb;have HRI:=qH On;obtain⟨nx,hnx⟩:=qE (⟨n.toArray⟩:ByteArray);have HNX:=qH hnx;obtain⟨i0,hi,hi0,hi1,hi2⟩:=info_parts an8;rw[<- hL,<- hN,<- hnx];rw[<- hnx]at hW;rw[<- hL]at hbl;rw[<- hN]at h12;clear hf Az hrc hb On hnl hL hN hiw hnx
 cases iw with
 | false=>
  have HR:Hid (putS fs n b=([],1)):=aY1 HIW.out.symm
  go_enter Tryz.func52,Tryz.ntmps52
  go_wp2_with fail
  refine qD hW ?_
  rintro e w1⟨rfl,hb1⟩
  have HB1:=qH hb1
  clear hb1 hW
  go_wp2_with fail
  go_ret2
  exact E2 HR.out rfl HB1.out
 | true=>
  by_cases hl4:4000<L
  .
   have HR:Hid (putS fs n b=([],2)):=aY2 HIW.out.symm (by have:=HL.out;omega)
   have hq:(4000:Int)<L:=by omega
   go_enter Tryz.func52,Tryz.ntmps52
   go_wp2_with fail
   refine qD hW ?_
   rintro e w1⟨rfl,hb1⟩
   have HB1:=qH hb1
   clear hb1 hW
   go_wp2_with fail
   go_ret2
   exact E2 HR.out rfl HB1.out
  .
   have hq:¬(4000:Int)<L:=by omega
   go_enter Tryz.func52,Tryz.ntmps52
   go_wp2_with fail
   refine qD hW ?_
   rintro e w1⟨rfl,hb1⟩
   have HB1:=qH hb1
   clear hb1 hW
   go_wp2_with fail
   go_loopw [19] (fun i wr=>∃k:Nat,∃ad nd cd,∃out:List FRow,k<=N/\i=.int .i64 k/\Hid (PF w wr (w1.heap.size+1) w1.heap.size (.slice ad nd cd) out)/\Hid (out=(rows.take k).filter (fun r=>r.1.name != n))/\Hid (nd=out.length)/\nd<=k) (fun i _=>N-(intOf i).toNat)
   case atStart=>exact⟨0,none,0,0,[],qP _,rfl,PF.start HB1.out,(show _=_ by simp),(show _=_ from rfl),qB _⟩
   case round=>
    obtain⟨k,ad,nd,cd,out,hk,rfl,HPF,HO,HND,hndk⟩:=hrel
    by_cases hlt:k<N
    .
     obtain⟨r,hr⟩:∃r,rows[k]? = some r:=⟨_,gEl (by have h1:=congrArg List.length HRW.out;rw[qM]at h1;have:=HN.out;omega)⟩
     have HK:=qH hr
     obtain⟨⟨bb,off,rfl,hc0,hc1⟩,hlr,hrr⟩:=HRC.out k r hr
     have hc0':=qC HPF.out.bel hc0
     have hc1':=qC HPF.out.bel hc1
     have hse:=ay6 r.1.name n
     rw[<- HNX.out]at hse
     have Qj:Hid (encF r=[.string ⟨r.1.name.toArray⟩,.slice r.2.1 r.2.2.1 r.2.2.2]):=rfl
     obtain⟨rx,hrx⟩:=qE (⟨r.1.name.toArray⟩:ByteArray)
     rw[<- hrx]at hc0' hse Qj
     obtain⟨r1,hr1⟩:=qE r.2.1
     obtain⟨r2,hr2⟩:=qE r.2.2.1
     obtain⟨r3,hr3⟩:=qE r.2.2.2
     rw[<- hr1,<- hr2,<- hr3]at hc1' Qj
     have HP2:Hid _:=HPF.out.below (C5 (o:=.cells #[.string rx,.slice r1 r2 r3] 83))
     by_cases hnm:r.1.name=n
     . have Lp:(rx.toList==nx.toList)=true:=by rw[hse];exact qd hnm
       have HO2:=qH (show out=(rows.take (k+1)).filter (fun r=>r.1.name != n) by rw[aI8 hr,qF hnm,xH];exact HO.out)
       clear hr hc0 hc1 hlr hrr hse hrx hr1 hr2 hr3 hnm HO Qj
       go_wp2_with fail
       go_roundw
       case rel=>exact⟨k+1,_,_,_,out,by omega,by go_num,HP2,HO2,HND,by omega⟩
       case measure=>simp[intOf];omega
     .
      have Lp:(rx.toList==nx.toList)=false:=by rw[hse];exact qU hnm
      have HO2:=qH (show out++[r]=(rows.take (k+1)).filter (fun r=>r.1.name != n) by rw[aI8 hr,qA hnm,<- HO.out])
      have hbx:(wr.alloc (.cells #[.string rx,.slice r1 r2 r3] 83)).cell? ⟨w1.heap.size,0,none⟩=some (.slice ad nd cd):=by simp only[World.cell?,HP2.out.box];rfl
      clear hr hc0 hc1 hlr hrr hse hrx hr1 hr2 hr3 hnm HO
      go_wp2_with (at_builtin;refine qx _ rfl (.tmp 27) (.tmp 29) 25 rfl (w1.heap.size+1) 83 i0 (.agg #[.string ⟨#[]⟩,.slice none 0 0]) 2 40 underlying25 hi hi0 hi1 hi2 rfl (by decide) _ nd (Gs.f8 out) rfl ?o1 ⟨wr.heap.size+1,0,none⟩ 1 1 [.string rx,.slice r1 r2 r3] rfl rfl ?c1 ?c2 ?c3 ?c4 ?c5 ?_)
      case o1=>
       have h:=HP2.out.own.alloc (.cells #[.string rx,.slice r1 r2 r3] 83)
       rw[<- HND.out]at h
       exact h
      case c1=>
       intro j u hj
       have hk:=qN (wr.alloc (.cells #[.string rx,.slice r1 r2 r3] 83)) (.cells #[.string rx,.slice r1 r2 r3] 83)
       rw[show (wr.alloc (.cells #[.string rx,.slice r1 r2 r3] 83)).heap.size=wr.heap.size+1 by simp]at hk
       rw[addF]
       match j,hj with
       | 0,hj=>simp at hj;subst hj;exact (bk6 hk).1
       | 1,hj=>simp at hj;subst hj;exact (bk6 hk).2
      case c2=>
       intro u hu
       simp at hu
       rcases hu with rfl | rfl <;> rfl
      case c3=>unfold maxLen;omega
      case c4=>omega
      case c5=>have:=HP2.out.Bs;simp at this ⊢;omega
      .
       intro v' w9 Ab Af _
       obtain⟨g,cg,rfl,_,_⟩:=aT1 Ab (by omega)
       have hb9:=PF.box1 HP2.out Af
       have hb9c:w9.cell? ⟨w1.heap.size,0,none⟩=some (.slice ad nd cd):=by simp only[World.cell?,hb9];rfl
       have hb9f:w9.frozen? ⟨w1.heap.size,0,none⟩=false:=by simp[World.frozen?,hb9]
       have HP9:Hid _:=PF.app HP2.out r (by rw[<- HND.out,Qj.out];exact Ab) Af
       clear Ab Af hb9 hbx hc0' hc1'
       go_wp2_with fail
       go_roundw
       case rel=>exact⟨k+1,_,_,_,out++[r],by omega,by go_num,HP9,HO2,(show _=_ by rw[qG,<- HND.out];rfl),by omega⟩
       case measure=>simp[intOf];omega
    .
     have HOA:=qH (show out=rows.filter (fun r=>r.1.name != n) by
      have e:=HO.out
      rw[qO (by have h1:=congrArg List.length HRW.out;rw[qM]at h1;have:=HN.out;omega)]at e
      exact e)
     have hbx:wr.cell? ⟨w1.heap.size,0,none⟩=some (.slice ad nd cd):=by simp only[World.cell?,HPF.out.box];rfl
     clear HO
     go_wp2_with (at_builtin;refine qx _ rfl (.tmp 32) (.tmp 36) 25 rfl (w1.heap.size+1) 83 i0 (.agg #[.string ⟨#[]⟩,.slice none 0 0]) 2 40 underlying25 hi hi0 hi1 hi2 rfl (by decide) _ nd (Gs.f8 out) rfl ?o1 ⟨wr.heap.size,0,none⟩ 1 1 [.string nx,.slice ab L cb] rfl rfl ?c1 ?c2 ?c3 ?c4 ?c5 ?_)
     case o1=>
      have h:=HPF.out.own.alloc (.cells #[.string nx,.slice ab L cb] 83)
      rw[<- HND.out]at h
      exact h
     case c1=>
      intro j u hj
      have hk:=qN (wr) (.cells #[.string nx,.slice ab L cb] 83)
      rw[show (wr).heap.size=wr.heap.size by simp]at hk
      rw[addF]
      match j,hj with
      | 0,hj=>simp at hj;subst hj;exact (bk6 hk).1
      | 1,hj=>simp at hj;subst hj;exact (bk6 hk).2
     case c2=>
      intro u hu
      simp at hu
      rcases hu with rfl | rfl <;> rfl
     case c3=>unfold maxLen;omega
     case c4=>omega
     case c5=>have:=HPF.out.Bs;simp at this ⊢;omega
     .
      intro v' w9 Ab Af _
      obtain⟨g,cg,rfl,hmc,hcm⟩:=aT1 Ab (by omega)
      have hb9:=PF.box1 HPF.out Af
      have hb9c:w9.cell? ⟨w1.heap.size,0,none⟩=some (.slice ad nd cd):=by simp only[World.cell?,hb9];rfl
      have hb9f:w9.frozen? ⟨w1.heap.size,0,none⟩=false:=by simp[World.frozen?,hb9]
      obtain⟨r,hrd⟩:=qE ((⟨n,b⟩,ab,L,cb):FRow)
      have HP9:Hid (PF w (w9.setCell ⟨w1.heap.size,0,none⟩ (.slice (some ⟨g,0,none⟩) (nd+1) cg)) (w1.heap.size+1) w1.heap.size (.slice (some ⟨g,0,none⟩) (nd+1) cg) (out++[r])):=PF.app HPF.out r (by rw[<- HND.out,hrd];show World.ownsRow _ _ _ _ _ _ (Gs.f8 out++[.string ⟨n.toArray⟩,.slice ab L cb]);rw[<- HNX.out];exact Ab) Af
      have HML:=qH (show nd+1=(out++[r]).length by rw[qG,<- HND.out];rfl)
      have HOF:=qH (show (out++[r]).map (·.1)=fs.filter (fun f=>f.name != n)++[⟨n,b⟩] by rw[qz,HOA.out,bH5,HRW.out,hrd];rfl)
      have HGD:Hid (∀x∈out++[r],cj3 w x):=(show ∀x∈out++[r],cj3 w x from by
       intro x hx
       rcases xB.1 hx with hx | hx
       . rw[HOA.out]at hx
         obtain⟨j,hj,e⟩:=zh.1 (List.mem_filter.1 hx).1
         exact (HRC.out j x (by rw[gEl hj,e])).2
       . rw[xI]at hx
         rw[hx,hrd]
         exact⟨HL.out,by show Reads w (.slice ab L cb) b.length (b.map U);rw[HL.out];exact HBR.out⟩)
      have HMC:Hid (nd+1<=cg/\cg<=maxLen):=⟨hmc,hcm⟩
      clear Ab Af hb9 hbx hrd hmc hcm
      by_cases hm12:12<nd+1
      .
       have HR:Hid (putS fs n b=([],2)):=aY3 HIW.out.symm (by have:=HL.out;omega) (by
        have h1:=bz1 (n:=n) (b:=b) HRI.out
        have h2:=congrArg List.length HOF.out
        rw[qM,<- HML.out,qG]at h2
        simp at h2
        omega)
       have hq2:(12:Int)<(nd:Int)+1:=by omega
       go_wp2_with fail
       go_ret2
       exact E2 HR.out rfl HP9.out.bel
      .
       have hq2:¬(12:Int)<(nd:Int)+1:=by omega
       have hS:=cj2 (by rw[<- HML.out];exact HP9.out) (by rw[<- HML.out];omega) (by rw[<- HML.out];omega)
       rw[<- HML.out]at hS
       have HS:Hid _:=hS
       clear hS
       go_wp2_with fail
       refine qD HS.out ?_
       rintro e w10⟨rfl,d',hp,hs,hc,hpc,Aa⟩
       have HE:Hid _:=And.intro hp (And.intro hs (And.intro hc Aa))
       clear hp hs hc Aa HS
       go_wp2_with fail
       go_ret2
       exact bY3 HRI.out HIW.out.symm (by have:=HL.out;omega) HML.out (by omega) HMC.out.1 HMC.out.2 HOF.out HGD.out HE.out.1 HE.out.2.1 HE.out.2.2.1 HE.out.2.2.2 rfl
end Go.Proofs.YtllgglolcgdehaaGreatDoor
