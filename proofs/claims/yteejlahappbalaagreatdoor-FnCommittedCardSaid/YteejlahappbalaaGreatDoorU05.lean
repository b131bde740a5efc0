/- The laws' comparisons of lists of items and volumes, where they are the same. -/
import Derived.Test.YteejlahappbalaaGreatDoorU02
import Derived.Test.YteejlahappbalaaGreatDoorU03
set_option maxHeartbeats 20000000
set_option maxRecDepth 100000
namespace Go.Proofs.YteejlahappbalaaGreatDoor
section
open Go Go.RowKit Go.BigFrame Tryz
variable{α:Type}{c:Array Value}{y:It}{l:List Vo}{B b cap i j n sz:Nat}{t:TypeId}{v:Value}{w:World}{x x':α}{cs:α->List Value}
variable{r:IR}
theorem kd_ (hsz:∀ x,(cs x).length=sz)(hj:j<sz)(hx':cs x'=(cs x).set j v):∀ {l:List α} {i:Nat},l[i]?=some x->(l.set i x').flatMap cs=(l.flatMap cs).set (i*sz+j) v
 |[],i,h=>by simp at h
 |y::r,0,h=>by
  obtain rfl:y=x:=sP
  rw[Yq,ZF,ZF,hx',Nat.zero_mul,Zq,List.set_append_left _ _ (by rw[hsz];exact hj)]
 |y::r,i+1,h=>by
  rw[Yr,ZF,ZF,kd_ hsz hj hx' sP,List.set_append_right _ _ (by rw[hsz,Yd];omega),hsz,show (i+1)*sz+j-sz=i*sz+j by rw[Yd];omega]
theorem Ac.set1 (hsz:∀ x,(cs x).length=sz){l:List α}(h:Ac cs sz t w B (some ⟨b,0,none⟩) n cap l)(hi:l[i]?=some x)(hj:j<sz)(hx':cs x'=(cs x).set j v):
  Ac cs sz t (w.setCell ⟨b,i*sz+j,none⟩ v) B (some ⟨b,0,none⟩) n cap (l.set i x'):=by
 have hk:=(Zb.1 hi).1;have hg:=h.sl.len;rcases h.own with⟨h0,_⟩ | ⟨b',ha,hB,hh,hf,c,hc,hs,ht⟩
 ·cases h0
 ·cases ha;have hb:(l.set i x').length=n:=by rw[List.length_set];exact hg
  have he:(w.setCell ⟨b,i*sz+j,none⟩ v).ownsRow B t sz (.slice (some ⟨b,0,none⟩) n cap) n ((l.set i x').flatMap cs):=by
   refine⟨by rw[aY_ hsz,hb],.inr ⟨b,cap,_,rfl,hB,hc.set (i*sz+j) v,hh,hf,by simp[hs],?_⟩⟩;rw[Array.toList_setIfInBounds,List.take_set,ht,kd_ hsz hj hx' hi]
  obtain⟨a',cap',e,R⟩:=bz_ hsz hb he
  cases e;exact R
end
section
open Go Go.RowKit Go.BigFrame Tryz
variable{x:IR}{l:List Vo}{B i k:Nat}{a:Option Addr}{p:Po}{r:VR}{y:Vo}{w:World}
theorem mh{p:Prop}(h:p:=by
 rw[<-List.eraseIdx_eq_take_drop_succ,<-List.eraseIdx_eq_take_drop_succ];refine⟨by rw[List.length_eraseIdx,List.length_eraseIdx,h.len],fun i r y h1 h2=>?_⟩;rw[List.getElem?_eraseIdx] at h1 h2;split at h1
 ·rename_i hi;rw[if_pos hi] at h2;exact h.at' _ r y h1 h2
 ·rename_i hi;rw[if_neg hi] at h2;exact h.at' _ r y h1 h2):p:=h
theorem AV.cut {rows:List IR}{l:List It}(h:AV B w rows l)(k:Nat):AV B w (rows.take k++rows.drop (k+1)) (l.take k++l.drop (k+1)):=by
 exact mh
theorem Bc.cut {rows:List VR}(h:Bc B w rows l)(k:Nat):Bc B w (rows.take k++rows.drop (k+1)) (l.take k++l.drop (k+1)):=by
 exact mh
def pbk (w:World)(r:VR):List Nat:=(List.range r.pn).filterMap (fun j=>match r.pa with
 |none=>none
 |some a=>match w.cell? ⟨a.block,a.off+j*2+1,none⟩ with
  |some (.slice (some x) _ _)=>some x.block
  |_=>none)
def NP (w:World)(rows:List VR):Prop:=(rows.flatMap (pbk w)).Nodup
end
section
open Go Go.RowKit Go.BigFrame Tryz
variable{l:List Vo}{p:Po}
variable{r:IR}
theorem aI_ (r:IR):(irs r).length=2:=rfl
theorem a2_ (r:VR):(vrs r).length=4:=rfl
theorem eP_ (l:List IR):∀ u∈l.flatMap irs,u.oneCell'=true:=by
 intro u hu;obtain⟨p,_,hp⟩:=ZL.1 hu;simp[irs] at hp;exact pZ
theorem pm_ (l:List VR):∀ u∈l.flatMap vrs,u.oneCell'=true:=by
 intro u hu;obtain⟨p,_,hp⟩:=ZL.1 hu;simp[vrs] at hp;exact sj
end
section
open Go Go.RowKit Go.BigFrame Tryz
variable{n:Nat}{v:Value}
def NnE (v:Value):Prop:=∀ s n ea en ec a3 a4 a5,v=.agg #[s,n,.slice ea en ec,a3,a4,a5]->ea≠none
end
section
open Go.RowKit Go.BigFrame Go.Lib Tryz
variable{xs:List Value}{B e n:Nat}{v:Value}{w:World}
theorem d4_ (x y:ByteArray):strCells x++strCells y=strCells (x++y):=by
 simp[strCells]
theorem iF_ (h:w.ownsRow B e 1 v n xs):∀ k,v.ownBlock=some k->B<=k:=by
 rcases h.2 with⟨rfl,_⟩ | ⟨g,cap,cur,rfl,hB,_⟩
 ·intro k hk;cases hk
 ·intro k hk;simp[Value.ownBlock] at hk;omega
theorem iG_ {w':World}(h:w.ownsRow B e 1 v n xs)(hb:Below w.heap.size w w'):w'.ownsRow B e 1 v n xs:=by
 refine⟨h.1,?_⟩;rcases h.2 with h0 | ⟨g,cap,cur,h1,h2,h3,h4⟩
 ·exact .inl h0
 ·exact .inr ⟨g,cap,cur,h1,h2,by rw[hb.block g (ZG.1 h3).1];exact h3,h4⟩
theorem iH_ (h:w.ownsRow B e 1 v n xs):∃ a cap,v=.slice a n cap:=by
 rcases h.2 with⟨rfl,rfl⟩ | ⟨g,cap,cur,rfl,_⟩
 ·exact⟨none,0,rfl⟩
 ·exact⟨_,_,rfl⟩
theorem fO_ (a:Option Addr)(n cap:Nat)(l:List Pt)(a':Option Addr)(n' cap':Nat)(e:List Ex)(w:World)(h:BH w a n l)(h':Cg w a' n' e)(hstr:Strs e)(hn:n<=4194304)(hn':n'<=4194304):
  Calls prog 114 #[.slice a n cap,.slice a' n' cap'] w fun x w'=>Ph x (Ax l e)∧Below w.heap.size w w':=by
 have qg:Hid (l.length=n):=h.len
 cases hl:Ae l
 ·have hf:Ax l e=none:=by simp[Ax,hl]
  rw[hf];go_enter func114,ntmps114;go_wp2_with fail;refine (as_ a n cap l _ h hn).mono ?_;rintro x w1 ⟨rfl,hh⟩;rw[hl];go_wp2;go_returns;exact⟨rfl,hh⟩
 ·cases hg:Af 400 e
  ·have hf:Ax l e=none:=by simp[Ax,hg]
   rw[hf];go_enter func114,ntmps114;go_wp2_with fail;refine (as_ a n cap l _ h hn).mono ?_;rintro x w1 ⟨rfl,hh⟩;rw[hl];go_wp2_with fail;refine (a8_ 400 a' n' cap' e _ (h'.below hh) hstr hn').mono ?_;rintro x w2 ⟨rfl,ho⟩;rw[hg];have hj:=Aa hh ho;go_wp2;go_returns;exact⟨rfl,hj⟩
  ·have hf:Hid (Ax l e=cgo e ⟨#[]⟩ (l.drop 0)):=by show _=_;simp[Ax,hl,hg]
   obtain⟨hw,hv⟩:=gd_ hl;have hG:n<=16:=by rw[<-qg.out];exact hw
   obtain⟨i0,hi,hy,hz,hA⟩:=info_parts TG;generalize Ax l e=R at *;go_enter func114,ntmps114;go_wp2_with fail;refine (as_ a n cap l _ h hn).mono ?_;rintro x w1 ⟨rfl,hh⟩;rw[hl];go_wp2_with fail;refine (a8_ 400 a' n' cap' e _ (h'.below hh) hstr hn').mono ?_;rintro x w2 ⟨rfl,ho⟩;rw[hg];replace ho:=Aa hh ho;go_wp2_with fail;go_loopw [6,20] (fun out ix wr=>∃ (k m:Nat) (s:ByteArray) (a2:Option Addr) (cap2:Nat),k<=n∧ix=.int .i64 k∧m<=100*k∧out=.slice a2 m cap2∧wr.ownsRow w.heap.size 5 1 (.slice a2 m cap2) m (strCells s)∧Hid (R=cgo e s (l.drop k))∧Below w.heap.size w wr) (fun _ ix _=>n-(RowKit.intOf ix).toNat)
   case atStart=>exact⟨0,0,⟨#[]⟩,none,0,Zg _,rfl,Zg _,rfl,World.ownsRow_nil _ _ _ _,hf,ho⟩
   case round=>
    obtain⟨k,m,s,a2,cap2,hk,rfl,hm,rfl,hc,hI,hB⟩:=hrel;have hO:=hB.size;by_cases hlt:k<n
    ·obtain⟨b,o,p,rfl,hp,c0,c1,c2⟩:=bi_ (h.below hB) hlt;have hd:Hid (l.drop k=p::l.drop (k+1)):=al_ hp;obtain⟨hM,hN,hJ⟩:=hv p (Zc hp);obtain⟨pa,pf,pn⟩:=p;dsimp only at *;obtain⟨pk,rfl⟩:∃ pk:Nat,pn=pk:=⟨pn.toNat,sH⟩
     cases ha:(pa==0)
     ·have hH:pa≠0:=dp;obtain⟨f0,f20⟩:=hJ hH;obtain⟨fk,rfl⟩:∃ fk:Nat,pf=fk:=⟨pf.toNat,sH⟩;have hu:Hid (R=match pieceO e ⟨pa,fk,pk⟩ with | none=>none | some d=>cgo e (s++d) (l.drop (k+1))):=by show _=_;rw[hI.out,hd.out];rfl
      have ht:Hid (pieceO e ⟨pa,fk,pk⟩=if ((AU pa e).size:Int)<fk+pk then none else some ((AU pa e).extract fk (fk+pk))):=by
       exact pI
      have hD:=ek_ (addr:=pa) hstr;go_wp2_with fail;refine (jS_ a' n' cap' e pa _ ((h'.below hB).alloc _) hn').mono ?_;rintro x w3 ⟨rfl,hj⟩;generalize AU pa e=D at *;obtain⟨z0,z1,z2,hq,_⟩:=Hk hj;clear hj c0 c1 c2;have hb:=iG_ hc hq;have hs:=Aa hB hq;clear hc;by_cases hlt2:(D.size:Int)<fk+pk
      ·rw[if_pos hlt2] at ht;go_wp2;go_returns;rw[hu.out,ht.out];exact⟨rfl,hs⟩
      ·rw[if_neg hlt2] at ht;have hL:(fk:Int)+(pk:Int)<=D.size:=sH;have hK:=run_slice_string (P:=prog) (w:=w3) 9 D .i64 .i64 fk (fk+pk) underlying9 sH sH sH;rw[show ((fk:Int)+(pk:Int)).toNat=fk+pk by omega,Int.toNat_natCast] at hK;have hP:(D.extract fk (fk+pk)).size=pk:=df;generalize D.extract fk (fk+pk)=X at *;go_wp2_with (at_builtin;refine wpList_append_own_string _ rfl _ _ 22 9 rfl w.heap.size 5 i0 underlying22 underlying9 hi hy hz hA _ m (strCells s) rfl hb X rfl sO sH hs.size ?_;intro v5 w5 he hF _);obtain⟨a3,cap3,rfl⟩:=iH_ he;rw[d4_] at he;have hC:Below w.heap.size w w5:=hs.grown hF hs.size (iF_ hb);go_roundw
       case rel=>exact⟨k+1,m+X.size,s++X,a3,cap3,sH,sQ,sH,rfl,he,by show _=_;rw[hu.out,ht.out],hC⟩
       case measure=>simp[RowKit.intOf];omega
     ·have hu:Hid (R=cgo e (s++zs pk) (l.drop (k+1))):=by
       show _=_;rw[hI.out,hd.out];simp[cgo,pieceO,ha]
      have hr:∀ x,(wr.alloc x).ownsRow w.heap.size 5 1 (.slice a2 m cap2) m (strCells s):=fun x=>iG_ hc ((Yg _ _).alloc (Zd _) _);go_wp2_with (at_builtin;refine eY_ _ rfl _ _ 22 2 9 rfl w.heap.size 5 i0 .i64 underlying22 underlying2 underlying9 hi hy hz hA _ m (strCells s) rfl (hr _) .i64 pk rfl sH sH sN ?_;intro v3 w3 hb hE);obtain⟨a3,cap3,rfl⟩:=iH_ hb;rw[d4_] at hb;have hj:Below w.heap.size w w3:=Yi sM hE sN (iF_ hc);go_roundw
      case rel=>exact⟨k+1,m+pk,s++zs pk,a3,cap3,sH,sQ,sH,rfl,hb,hu,hj⟩
      case measure=>simp[RowKit.intOf];omega
    ·obtain rfl:k=n:=sH;have hx:=jO_ (P:=prog) hc 22 underlying22 underlying5 9 underlying9;exact sy
end
section
open Go Go.RowKit Go.BigFrame Tryz
variable{p:Po}
def Mp (p:Po):Prop:=Small p.ex.length p.ex∧TZ p.vs.length p.vs∧Kd p.rf.length p.rf∧Kd p.lt.length p.lt
end
section
open Go Go.RowKit Go.BigFrame Tryz
variable{k:Nat}{t:TypeId}{w:World}
theorem hA_:BC w none t:=fun k e=>by cases e
end
section
open Go.ChangeShapes Go.WideShapes Go.ChangeAt Go.RowKit Go.Deep Tryz
variable{n:Nat}{a:Option Addr}{w:World}
theorem Rc {a:Addr}{v:Value}(h:w.cell? (a.add n)=some v)(hn:n=0):∃ b o,a=⟨b,o,none⟩:=by
 subst hn;obtain⟨b,off,spot⟩:=a;have ha:spot=none:=by simpa[Addr.add] using World.cell?_spot h
 exact⟨b,off,by rw[ha]⟩
end
end Go.Proofs.YteejlahappbalaaGreatDoor
