/- What the reference's BytesOf does, and more. -/
import Derived.Test.YtmejdflmcikkdaaGreatDoorVAb
import Derived.Test.YtmejdflmcikkdaaGreatDoorVa24
set_option linter.all false
set_option maxRecDepth 100000
set_option maxHeartbeats 64000000
namespace Go.Proofs.YtmejdflmcikkdaaGreatDoor
open Go.RowKit Go.Gs Tryz
theorem bA2(v:Value)(ls:qL)(w:World)(hr:Reads w v ls.length (ls.map S))(hle:(ended ls).length<=225000000):
 Calls prog 85 #[v,.string ⟨#[10]⟩] w fun e w'=>e=.returned (.string ⟨(Lib.join ls [10]).toArray⟩)/\Bq w w':=by
 obtain⟨_,ao,cap,rfl,h2,h3,h4⟩:=hr;by_cases h0:ls.length=0
 . have hb:ls=[]:=qn h0;subst hb;refine (Tryz.strings_Join_none ao cap _ w).mono ?_;rintro e w'⟨rfl,rfl⟩;exact⟨rfl,Below.refl _ _⟩
 .
  obtain⟨b,off,rfl,hc⟩:=h4 h0;have hne:ls≠[]:=fun e=>h0 (by rw[e];rfl);have hj:(Lib.join ls [10]).length<=225000000:=by
   have:=aP3 ls hne;have h5:(Lib.join ls [10]++[10]).length<=225000000:=by rw[this];exact hle
   simp at h5;omega
  have hm:(ls.map str).map (·.data.toList)=ls:=by
   rw[zP];conv=>rhs;rw[<- List.map_id ls]
   apply zq;intro l _;simp[str]
  have hlen:=ab4 ls;have Ai:=hc 0 (S (ls[0]'(by omega))) (by simp[Nat.pos_of_ne_zero h0]);have hcs:∀(j:Nat) x,(ls.map str)[j]?=some x->w.cell? ⟨b,off+j,none⟩=some (.string x):=by intro j x hx;rw[qa]at hx;obtain⟨l,hl,rfl⟩:=Option.map_eq_some_iff.1 hx;exact hc j (S l) (by simp[hl])
  have:=Tryz.strings_Join b off cap (ls.map str) ⟨#[10]⟩ w hcs (bLt w _ Ai) (by simp;omega) (by simpa using h2) (by rw[hm];show (Lib.join ls [10]).length<=_;omega);rw[hm]at this;simp only[qS]at this;exact this
theorem bO3(J:qU):((⟨J.toArray⟩:ByteArray)++⟨#[10]⟩).data.toList=J++[10]:=by simp[ByteArray.data_append]
theorem aZ0(J:qU):((⟨J.toArray⟩:ByteArray)++⟨#[10]⟩).size=J.length+1:=by rw[ByteArray.size_append];rfl
theorem bg7(ao:Option Addr)(cap:Nat)(w:World):
 Calls prog 54 #[.slice ao 0 cap] w fun e w'=>∃c,e=.returned (.slice (some ⟨w.heap.size,0,none⟩) 0 c)/\c<=maxLen/\Bq w w':=by have hcv:=fun(W:World)=>run_bytes_of_string (P:=prog) W 9 28 5 ⟨#[]⟩ underlying9 underlying28 underlying5;go_enter func54,ntmps54;go_wp2_with fail;refine (Tryz.strings_Join_none ao cap _ _).mono ?_;rintro e w1⟨rfl,rfl⟩;go_wp2_with fail;go_ret;exact⟨_,rfl,grownCap_le_maxLen _ _ _ _ (qM _),((Below.refl _ _).alloc (qA _) _).drew⟩
theorem aS9(b off cap:Nat)(ls:qL)(w:World)(h0:0<ls.length)(hm:ls.length<=225000000)(hr:Reads w (.slice (some ⟨b,off,none⟩) ls.length cap) ls.length (ls.map S))(hle:(ended ls).length<=225000000):
 Calls prog 54 #[.slice (some ⟨b,off,none⟩) ls.length cap] w fun e w'=>∃r,e=.returned r/\Reads w' r (ended ls).length ((ended ls).map U)/\Bq w w'/\(∀a n c,r=.slice (some a) n c->w.heap.size<=a.block):=by
 have hcv:=fun(W:World)(s:ByteArray)=>run_bytes_of_string (P:=prog) W 9 28 5 s underlying9 underlying28 underlying5;have hE:=aP3 ls (xj.1 h0);generalize hJ:Lib.join ls [10]=J at *;have HJ:Hid _:=hJ;have HE:Hid _:=hE;have hJl:J.length+1<=225000000:=by rw[<- hE]at hle;simpa using hle
 clear hJ hE;go_enter func54,ntmps54;go_wp2_with fail;refine (bA2 _ ls _ hr hle).mono ?_;rintro e w1⟨rfl,Aa⟩;rw[HJ.o];clear hr;go_wp2_with fail;go_ret;refine⟨_,rfl,?_,((Aa.alloc Aa.size _).drew),fun a n c e=>by injection e with e;injection e with e;rw[<- e];exact Aa.size⟩;have h:=bi8 w1 (⟨J.toArray⟩++⟨#[10]⟩) (grownCap w1 (J.length+1) 0 5) ((bytesRow (⟨J.toArray⟩++⟨#[10]⟩) (grownCap w1 (J.length+1) 0 5)).size,(bytesRow (⟨J.toArray⟩++⟨#[10]⟩) (grownCap w1 (J.length+1) 0 5)).size+1) (by rw[aZ0];exact grownCap_ge _ _ _ _) (grownCap_le_maxLen _ _ _ _ (by unfold maxLen;omega));have h':=h.below (Below.refl _ _).drew;rw[aZ0,bO3,HE.o]at h';have hl:(ended ls).length=J.length+1:=by rw[<- HE.o];simp
 rw[hl];exact h'
theorem ai6(v:Value)(ls:qL)(w:World)(hr:Reads w v ls.length (ls.map S))(hle:(ended ls).length<=225000000):
 Calls prog 54 #[v] w fun e w'=>∃r,e=.returned r/\Reads w' r (ended ls).length ((ended ls).map U)/\Bq w w'/\(∀a n c,r=.slice (some a) n c->w.heap.size<=a.block):=by
 obtain⟨h1,ao,cap,rfl,h2,h3,h4⟩:=hr;by_cases h0:ls.length=0
 . have hb:ls=[]:=qn h0;subst hb;refine (bg7 ao cap w).mono ?_;rintro e w'⟨c,rfl,hc,Aa⟩;exact⟨_,rfl,⟨rfl,_,c,rfl,qM _,hc,fun h=>absurd rfl h⟩,Aa,fun a n c e=>by injection e with e;injection e with e;rw[<- e];exact qA _⟩
 . obtain⟨b,off,rfl,hc⟩:=h4 h0;exact aS9 b off cap ls w qO (qc (ab4 ls) hle) ⟨h1,_,cap,rfl,h2,h3,fun _=>⟨b,off,rfl,hc⟩⟩ hle
theorem bO4(v:Value)(bs:qU)(w:World)(hr:Reads w v bs.length (bs.map U))(hsh:w.ShapedOpen prog)(hle:bs.length<=50000):
 Calls prog 80 #[v] w fun e w'=>∃r,e=.returned r/\Reads w' r (ended (lines bs)).length ((ended (lines bs)).map U)/\Bq w w'/\(∀a n c,r=.slice (some a) n c->w.heap.size<=a.block):=by have hl:=E8 bs;have HR:=qH hr;clear hr;go_enter func80,ntmps80;go_wp2_with fail;refine (aA4 v bs w HR.o hsh qO).mono ?_;rintro e w1⟨g,cap,rfl,hr1,hb1⟩;have HR1:Hid _:=hr1;have HB1:Hid _:=hb1;clear hr1 hb1;go_wp2_with fail;refine (ai6 _ (lines bs) w1 HR1.o qO).mono ?_;rintro e w2⟨r2,rfl,hr2,hb2,hn2⟩;have HR2:Hid _:=hr2;have HB2:Hid (Bq w w2):=Below.trans HB1.o (Below.mono hb2 (Below.size HB1.o));have HN2:Hid (∀a n c,r2=.slice (some a) n c->w.heap.size<=a.block):=(show ∀a n c,r2=.slice (some a) n c->w.heap.size<=a.block from fun a n c e=>qc (Below.size HB1.o) (hn2 a n c e));clear hr2 hb2 hn2;go_wp2_with fail;go_ret;exact⟨_,rfl,HR2.o,HB2.o,HN2.o⟩
end Go.Proofs.YtmejdflmcikkdaaGreatDoor
