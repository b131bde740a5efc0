/- Texts of pools, read and written; what is drawn. -/
import Derived.Test.YteejlahappbalaaGreatDoorU17
set_option maxHeartbeats 20000000
set_option maxRecDepth 100000
namespace Go.Proofs.YteejlahappbalaaGreatDoor
section
open Go Go.RowKit Tryz
theorem tku {P:Program}{Q:Exit->Act->World->Prop}{md:Region.Mode}{S:World->Prop}{l:List Oper}(i:Nat){oi:Oper}{fuel:Nat}{listed li:Array Bool}{a b:Act}{w:World}(h:wpAnyH P md l.toArray Q S fuel li b w)(hi:l[i]?=some oi:=by rfl)
  (hB:(Region.noSelect l.toArray&&Region.free md l.toArray listed i&&(Region.ready md l.toArray listed).contains i)=true:=by kernel_rfl) (hw:Region.wanted oi (yielded l.toArray a.tmps)=false:=by rfl)
  (hQ:∀ c a w,Q (.panic c) (a.put oi.dst undef) w->Q (.panic c) a w:=by exact fun _ _ _ h=>h) (hS:S w:=by first | assumption | trivial)
  (hl:listed.setIfInBounds i true=li:=by (try simp only[Yj,Yq,Yr]);rfl) (ha:a.put oi.dst undef=b:=by (try simp only[Act.put,Yj,Yq,Yr]);rfl):wpAnyH P md l.toArray Q S (fuel+1) listed a w:=by
 subst hl ha;simp only[Zf] at hB;exact NX hi hB.1.1 hB.1.2 hB.2 hQ (.inr ⟨hw,rfl⟩) hS h
end
section
open Go.RowKit Tryz
theorem Fy (p:Fl):p.cs.length=2:=rfl
theorem Fz (l:List Fl):∀ u∈l.flatMap Fl.cs,u.oneCell'=true:=by
 intro u hu;obtain⟨p,_,hp⟩:=ZL.1 hu;simp[Fl.cs] at hp;exact pZ
theorem Ec {w:World}{a:Option Addr}{n:Nat}{l:List Fl}(h:Dz w a n l){k:Nat}(hk:k<n) :
  ∃ b o p,a=some ⟨b,o,none⟩∧l[k]?=some p∧w.cell? ⟨b,o+k*2,none⟩=some (.string p.nm)∧w.cell? ⟨b,o+k*2+1,none⟩=some (.string p.d):=by
 have hl:k<l.length:=rB;have hx:l[k]?=some l[k]:=oA;obtain⟨b,o,ha,hc⟩:=h.cell k _ hx;exact⟨b,o,_,ha,hx,hc 0 _ rfl,hc 1 _ rfl⟩
theorem PO {w:World}{a:Option Addr}{n:Nat}{l:List Dp}(h:Pd w a n l){k:Nat}(hk:k<n) :
  ∃ b o p,a=some ⟨b,o,none⟩∧l[k]?=some p∧w.cell? ⟨b,o+k*4,none⟩=some (.int .i64 p.k)∧w.cell? ⟨b,o+k*4+1,none⟩=some (.string p.nm)∧w.cell? ⟨b,o+k*4+2,none⟩=some (.string p.tt)∧w.cell? ⟨b,o+k*4+3,none⟩=some (.string p.d):=by
 have hl:k<l.length:=rB;have hx:l[k]?=some l[k]:=oA;obtain⟨b,o,ha,hc⟩:=h.cell k _ hx;exact⟨b,o,_,ha,hx,hc 0 _ rfl,hc 1 _ rfl,hc 2 _ rfl,hc 3 _ rfl⟩
end
section
open Go.RowKit Go.BigFrame Tryz
def Is (p q:Fl):Bool:=p.nm.toList==q.nm.toList&&p.d.toList==q.d.toList
def BV:List Fl->List Fl->Bool
 |[],[]=>true
 |p::r,q::s=>Is p q&&BV r s
 |_,_=>false
theorem Os {l:List Fl}:∀ {m:List Fl},l.length≠m.length->BV l m=false:=by
 induction l with
 |nil=>intro m h;cases m<;>simp[BV] at *
 |cons p r ih=>intro m h;cases m<;>simp[BV] at *;exact fun _=>ih h
end
section
open Go.RowKit Tryz
def emB (d:ByteArray):Bool:=d.toList==(⟨#[]⟩:ByteArray).toList
def fgo:Option Fl->List Fl->Bool
 |_,[]=>true
 |q,x::r=>nmB x.nm&&(match q with | none=>true | some p=>bl p.nm.toList x.nm.toList)&&fgo (some x) r
def sumB:List Fl->Nat
 |[]=>0
 |x::r=>x.d.size+sumB r
def Aq (l:List Fl):Bool:=decide (l.length<=60)&&fgo none l&&decide (sumB l<=200000)
def AP (o:Dp):Bool:=decide (1<=o.k)&&decide (o.k<=3)&&nmB o.nm&&(if o.k=2 then nmB o.tt&&emB o.d else emB o.tt&&(decide (o.k=1)||emB o.d))
def atF (l:List Fl)(nm:ByteArray):Option Nat:=l.findIdx? (fun x=>x.nm.toList==nm.toList)
def Cf (x:Fl)(st:List Fl×Bool)(y:Fl):List Fl×Bool:=
 ((if (!st.2&&!(bl y.nm.toList x.nm.toList))=true then st.1++[x] else st.1)++(if (y.nm.toList==x.nm.toList)=true then [] else [y]),st.2||!(bl y.nm.toList x.nm.toList))
def IN (x:Fl)(st:List Fl×Bool):List Fl:=if st.2=true then st.1 else st.1++[x]
def HX (x:Fl)(l:List Fl)(k:Nat):List Fl×Bool:=(l.take k).foldl (Cf x) ([],false)
def CO (x:Fl)(l:List Fl):List Fl:=IN x (l.foldl (Cf x) ([],false))
def Ea (nm:ByteArray)(l:List Fl):List Fl:=l.filter (fun y=>!(y.nm.toList==nm.toList))
def doF (l:List Fl)(o:Dp):List Fl×Bool:=
 match atF l o.nm with
 |none=>if o.k=1 then (CO ⟨o.nm,o.d⟩ l,true) else (l,false)
 |some i=>match l[i]? with
  |none=>(l,false)
  |some f=>if o.k=1 then (CO ⟨o.nm,f.d++o.d⟩ l,true) else if o.k=2 then (CO ⟨o.tt,f.d⟩ (Ea o.nm l),true) else (Ea o.nm l,true)
def runF:List Fl->List Dp->Option (List Fl)
 |l,[]=>some l
 |l,o::r=>if ((doF l o).2&&AP o&&Aq (doF l o).1)=true then runF (doF l o).1 r else none
def Az (d:Dk):Bool:=Aq d.live&&Aq d.safe&&decide (d.ops.length<=200)&&(match runF d.safe d.ops with | none=>false | some l=>BV l d.live)
theorem ON {x:Fl}{l:List Fl}{k:Nat}{y:Fl}(h:l[k]?=some y):HX x l (k+1)=Cf x (HX x l k) y:=by
 unfold HX;rw[ZK,h];simp
theorem QZ {x:Fl}{l:List Fl}{n:Nat}(h:l.length=n):IN x (HX x l n)=CO x l:=by
 unfold HX CO;rw[Zk (Zm h)]
theorem JW (x:Fl):∀ (l:List Fl) (st:List Fl×Bool),(l.foldl (Cf x) st).1.length+(if (l.foldl (Cf x) st).2=true then 0 else 1)<=st.1.length+(if st.2=true then 0 else 1)+l.length
 |[],st=>Zd _
 |y::r,st=>by
  have h:=JW x r (Cf x st y)
  rw[YE]
  have h2:(Cf x st y).1.length+(if (Cf x st y).2=true then 0 else 1)<=st.1.length+(if st.2=true then 0 else 1)+1:=by
   unfold Cf;exact pG
  simp only[Zw];omega
theorem IO (x:Fl)(l:List Fl):(CO x l).length<=l.length+1:=by
 have h:=JW x l ([],false);unfold CO IN;exact pK
theorem putF_mem0 (x:Fl):∀ (l:List Fl) (st:List Fl×Bool) (z:Fl),z∈(l.foldl (Cf x) st).1->z∈st.1∨z=x∨z∈l
 |[],st,z,h=>.inl h
 |y::r,st,z,h=>by
  rcases putF_mem0 x r _ z h with h | h | h
  ·simp only[Cf] at h
   rcases Zs.1 h with h | h
   ·split at h
    ·rcases Zs.1 h with h | h
     ·exact .inl h
     ·exact .inr (.inl sP)
    ·exact .inl h
   ·split at h
    ·cases h
    ·exact .inr (.inr (by simp at h;simp[h]))
  ·exact .inr (.inl h)
  ·exact .inr (.inr dh)
theorem putF_mem {x:Fl}{l:List Fl}{z:Fl}(h:z∈CO x l):z=x∨z∈l:=by
 unfold CO IN at h;split at h
 ·rcases putF_mem0 x l _ z h with h | h
  ·cases h
  ·exact h
 ·rcases Zs.1 h with h | h
  ·rcases putF_mem0 x l _ z h with h | h
   ·cases h
   ·exact h
  ·exact .inl sP
theorem Mk:∀ (a b:List Fl),sumB (a++b)=sumB a+sumB b
 |[],b=>by simp[sumB]
 |x::r,b=>by simp only[YF,sumB,Mk r b];omega
theorem Ck:∀ {l:List Fl} {x:Fl},x∈l->x.d.size<=sumB l
 |y::r,x,h=>by
  rcases Zn.1 h with rfl | h
  ·simp only[sumB];omega
  ·have:=Ck h;simp only[sumB];omega
theorem Ba {l:List Fl}(h:Aq l=true):l.length<=60∧sumB l<=200000∧fgo none l=true:=by
 simp only[Aq,Zf,ZU] at h;exact⟨h.1.1,h.2,h.1.2⟩
theorem EB:∀ {l:List Fl} {q:Option Fl},fgo q l=true->∀ x∈l,nmB x.nm=true
 |y::r,q,h,x,hx=>by
  simp only[fgo,Zf] at h
  rcases Zn.1 hx with rfl | hx
  ·exact h.1.1
  ·exact EB h.2 x hx
end
section
open Go.RowKit Go.BigFrame Tryz
theorem sC{p:Prop}(h:p:=by
 show _=_;have h2:((d.size:Int)<=100)↔d.size<=100:=sH
 simp[nmB,h1,h2]):p:=h
theorem FR (d:ByteArray)(w:World)(hd:d.size<=9223372036854775807) :
  Calls prog 82 #[.string d] w fun e w'=>e=.returned (.bool (nmB d))∧w'=w:=by
 by_cases h1:1<=d.size
 ·have hf:Hid (decide ((d.size:Int)<=100)=nmB d):=by
   exact sC
  go_enter func82,ntmps82;go_wp2;go_returns;exact⟨ac_ hf.out,rfl⟩
 ·have hf:Hid (nmB d=false):=by show _=_;simp[nmB];omega
  go_enter func82,ntmps82;go_wp2;go_returns;exact⟨ac_ hf.out.symm,rfl⟩
theorem Eh (n low high:Int)(w:World) :
  Calls prog 85 #[.int .i64 n,.int .i64 low,.int .i64 high] w fun e w'=>e=.returned (.bool (decide (low<=n)&&decide (n<=high)))∧w'=w:=by
 by_cases h1:low<=n<;>by_cases h2:n<=high;all_goals
  have hf:Hid ((decide (low<=n)&&decide (n<=high))=(decide (low<=n)&&decide (n<=high))):=rfl;go_enter func85,ntmps85;go_wp2;go_returns;exact⟨by simp[*],rfl⟩
def plF (o:Option Nat):Int:=match o with | none=>-1 | some i=>i
theorem KX {l:List Fl}{nm:ByteArray}{k:Nat}{x:Fl}(h:l[k]?=some x):(atF (l.drop k) nm).map (·+k)=if (x.nm.toList==nm.toList)=true then some k else (atF (l.drop (k+1)) nm).map (·+(k+1)):=by
 unfold atF;rw[al_ h,List.findIdx?_cons];split
 ·simp
 ·simp only[Option.map_map];congr 1;funext i;simp only[Function.comp];omega
theorem du{p:Prop}(h:p:=by show _=_;rw[hI.out];exact qh):p:=h
theorem C8 (a:Option Addr)(n cap:Nat)(l:List Fl)(nm:ByteArray)(w:World)(h:Dz w a n l)(hn:n<=4194304) :
  Calls prog 42 #[.slice a n cap,.string nm] w fun e w'=>e=.returned (.int .i64 (plF (atF l nm)))∧w'=w:=by
 have qg:Hid (l.length=n):=h.len;go_enter func42,ntmps42;go_wp2_with fail;go_loopw [5] (fun ix wr=>∃ k:Nat,k<=n∧ix=.int .i64 k∧Hid (atF l nm=(atF (l.drop k) nm).map (·+k))∧w=wr) (fun ix _=>n-(intOf ix).toNat)
 case atStart=>exact⟨0,Zg _,rfl,dI,rfl⟩
 case round=>
  obtain⟨k,hk,rfl,hI,rfl⟩:=hrel;by_cases hlt:k<n
  ·obtain⟨b,o,p,rfl,hp,c0,c1⟩:=Ec h hlt;have qh:=KX (nm:=nm) hp;clear hp;have hc:(k:Int)<n:=sH;have he:(0:Int)<=k:=sH
   cases zf:(p.nm.toList==nm.toList)
   ·have hq:¬ p.nm.toList=nm.toList:=rH;rw[zf,if_neg sK] at qh;have ha:Hid (atF l nm=(atF (l.drop (k+1)) nm).map (·+(k+1))):=du;clear qh hI;go_wp2;go_roundw
    case rel=>exact⟨k+1,sH,sQ,ha,by first | trivial | rfl⟩
    case measure=>simp[intOf];omega
   ·have hq:p.nm.toList=nm.toList:=rH;rw[zf,if_pos rfl] at qh;have ha:Hid (atF l nm=some k):=du;clear qh hI;go_wp2;go_returns;exact⟨by rw[ha.out];rfl,rfl⟩
  ·obtain rfl:k=n:=sH;have hb:Hid (atF l nm=none):=by
    show _=_;exact ms
   clear hI;go_wp2;go_returns;exact⟨by rw[hb.out];rfl,rfl⟩
theorem IB:(prog.info? 39).map (fun i=>(i.zero,i.size,i.bytes))=some (some (.agg #[.string .empty,.string .empty]),2,32):=by kernel_rfl
theorem Ef (w:World)(r:Fl)(t:TypeId)(b:Nat)(hb:b=w.heap.size):AH Fl.cs 2 (w.alloc (.cells #[.string r.nm,.string r.d] t)) (some ⟨b,0,none⟩) 1 [r]:=by
 subst hb;refine ⟨rfl,fun i y hy=>⟨_,0,rfl,fun j v hv=>?_⟩⟩;have hi:i=0:=rl;subst hi;simp at hy;subst hy;rw[Yv];simp only[Nat.zero_mul,Zq]
 match j,hv with
 |0,hv=>exact hv
 |1,hv=>exact hv
 |j+2,hv=>simp[Fl.cs] at hv
theorem Cl {o:Oper}{a:Act}{w:World}{K:Act->World->Prop}{Q:Exit->Act->World->Prop}(s x:Operand)(ho:o.op=.call {callee:=.builtin .append,args:=#[s,x],argTypes:=#[24,24]})
  (B:Nat) (da:Option Addr) (dn dcap:Nat) (ld:List Fl) (hs:a.eval s=.slice da dn dcap) (hd:Ac Fl.cs 2 39 w B da dn dcap ld)
  (sa:Option Addr) (sn scap:Nat) (ls:List Fl) (hx:a.eval x=.slice sa sn scap) (hsrc:Dz w sa sn ls) (hspot:∀ ad,sa=some ad->ad.spot=none) (hnone:sa=none->scap=0)
  (tot:Nat) (htot:dn+sn=tot) (h63:tot<=9000000) (hbase:B<=w.heap.size)
  (h:∀ a' cap' w',Ac Fl.cs 2 39 w' B a' tot cap' (ld++ls)->w.grownBy w' (Value.ownBlock (.slice da dn dcap))->K (a.put o.dst (.slice a' tot cap')) w'):o.wp prog a w K Q:=by
 obtain⟨i0,hi,ha,hb,hc⟩:=info_parts IB;exact ay_ s x _ ho B _ i0 _ 32 underlying24 hi ha hb hc rfl sJ Fy Fz da dn dcap ld hs hd sa sn scap ls hx hsrc hspot hnone tot htot sO sH hbase h
theorem IZ (a:Option Addr)(n cap:Nat)(l:List Fl)(nm:ByteArray)(w:World)(h:Dz w a n l)(hn:n<=4194304) :
  Calls prog 84 #[.slice a n cap,.string nm] w fun e w'=>(∃ a' n' cap',e=.returned (.slice a' n' cap')∧n'<=n∧Ac Fl.cs 2 39 w' w.heap.size a' n' cap' (Ea nm l))∧Below w.heap.size w w':=by
 have hc:Hid (l.length=n):=h.len;go_enter func84,ntmps84;go_wp2_with fail;go_loopw [5,6] (fun out ix wr=>∃ (k:Nat) (a2:Option Addr) (n2 cap2:Nat),k<=n∧ix=.int .i64 k∧out=.slice a2 n2 cap2∧n2<=k∧Ac Fl.cs 2 39 wr w.heap.size a2 n2 cap2 (Ea nm (l.take k))∧Below w.heap.size w wr) (fun _ ix _=>n-(intOf ix).toNat)
 case atStart=>exact⟨0,_,0,0,Zg _,rfl,rfl,Zd _,aw_ (Blk.new' _ _ _ _ rfl) (Zd _),sM⟩
 case round=>
  obtain⟨k,a2,n2,cap2,hk,rfl,rfl,hh,R,hB⟩:=hrel;have hj:=hB.size;by_cases hlt:k<n
  ·obtain⟨b,o,p,rfl,hp,c0,c1⟩:=Ec (h.below hB) hlt;have hb:Ea nm (l.take (k+1))=Ea nm (l.take k)++(if (p.nm.toList==nm.toList)=true then [] else [p]):=by
    unfold Ea;rw[bx_ hp,YR]
    cases hq:(p.nm.toList==nm.toList)<;>simp[hq]
   clear hp;have hl:(k:Int)<n:=sH;have hm:(0:Int)<=k:=sH;generalize Ea nm (l.take k)=G at *
   cases zf:(p.nm.toList==nm.toList)
   ·have hq:¬ p.nm.toList=nm.toList:=rH;rw[zf,if_neg sK] at hb;have ha:Hid (Ea nm (l.take (k+1))=G++[p]):=hb;clear hb;go_wp2_with (at_builtin;refine ag_ rfl (fun K hK=>Cl _ _ rfl w.heap.size a2 n2 cap2 G rfl (R.alloc _) _ 1 1 [p] rfl (Ef _ p _ _ rfl) (fun ad h=>sV) (fun h=>sY) (n2+1) rfl sH sN (fun a3 cap3 w3 R3 hg=>hK _ _ ?_)));have he:Below w.heap.size w w3:=Yi (hB.alloc hj _) hg sN (aG_ fun ad hf=>(R.block ad hf).1);go_wp2;go_roundw
    case rel=>exact⟨k+1,a3,n2+1,cap3,sH,sQ,rfl,sH,by rw[ha.out];exact R3,he⟩
    case measure=>simp[intOf];omega
   ·have hq:p.nm.toList=nm.toList:=rH;rw[zf,if_pos rfl,Yy] at hb;have ha:Hid (Ea nm (l.take (k+1))=G):=hb;clear hb;go_wp2;go_roundw
    case rel=>exact⟨k+1,a2,n2,cap2,sH,sQ,rfl,sH,by rw[ha.out];exact R,hB⟩
    case measure=>simp[intOf];omega
  ·obtain rfl:k=n:=sH;rw[Zk (Zm hc.out)] at R;go_wp2;go_returns;exact⟨⟨a2,n2,cap2,rfl,hh,R⟩,hB⟩
theorem lA{p:Prop}(h:p:=by
 have hq:¬ y.nm.toList=nm.toList:=rH;go_wp2_with (at_builtin;refine ag_ rfl (fun K hK=>Cl _ _ rfl w.heap.size a2 n2 cap2 gl rfl (R.alloc _) _ 1 1 [y] rfl (Ef _ y _ _ sK) (fun ad h=>sV) (fun h=>sY) (n2+1) rfl sH sN (fun a3 cap3 w3 R3 qz=>hK _ _ ?_));have qk:Below w.heap.size w w3:=Yi (hB.alloc hsz _) qz (by have:=hsz;simp;omega) (aG_ fun ad qy=>(R.block ad qy).1);have zt:=qk.size);go_wp2;go_roundw
 case rel=>exact⟨k+1,a3,(n2+1),cap3,sH,sQ,rU,rfl,sH,by rw[qh.out,he.out];exact R3,qk⟩
 case measure=>simp[intOf];omega):p:=h
theorem l6{p:Prop}(h:p:=by
 have hq:y.nm.toList=nm.toList:=rH;have zx:=zh;rw[hq] at zx;go_wp2;go_roundw
 case rel=>exact⟨k+1,a2,n2,cap2,sH,sQ,rU,rfl,sH,by rw[qh.out,he.out];exact R,hB⟩
 case measure=>simp[intOf];omega):p:=h
theorem ru{p:Prop}(h:p:=by show _=_;simp[Cf,zh,zf]):p:=h
theorem GG (a:Option Addr)(n cap:Nat)(l:List Fl)(nm d:ByteArray)(w:World)(h:Dz w a n l)(hn:n<=4194304) :
  Calls prog 83 #[.slice a n cap,.string nm,.string d] w fun e w'=>(∃ a' n' cap',e=.returned (.slice a' n' cap')∧Ac Fl.cs 2 39 w' w.heap.size a' n' cap' (CO ⟨nm,d⟩ l))∧Below w.heap.size w w':=by
 have hc:Hid (l.length=n):=h.len;go_enter func83,ntmps83;go_wp2_with fail;go_loopw [7,8,9] (fun out dn ix wr=>∃ (k:Nat) (a2:Option Addr) (n2 cap2:Nat),k<=n∧ix=.int .i64 k∧dn=.bool (HX ⟨nm,d⟩ l k).2∧out=.slice a2 n2 cap2∧n2<=2*k∧Ac Fl.cs 2 39 wr w.heap.size a2 n2 cap2 (HX ⟨nm,d⟩ l k).1∧Below w.heap.size w wr) (fun _ _ ix _=>n-(intOf ix).toNat)
 case atStart=>exact⟨0,_,0,0,Zg _,rfl,rfl,rfl,sH,aw_ (Blk.new' _ _ _ _ rfl) (Zd _),sM⟩
 case round=>
  obtain⟨k,a2,n2,cap2,hk,rfl,rfl,rfl,hm,R,hB⟩:=hrel;have hsz:=hB.size;by_cases hlt:k<n
  ·obtain⟨b,o,y,rfl,hy,c0,c1⟩:=Ec (h.below hB) hlt;have hb:b<w.heap.size:=by
    obtain⟨b',o',_,qW,_,f0,_⟩:=Ec h hlt;exact sF
   have qh:Hid (HX ⟨nm,d⟩ l (k+1)=Cf ⟨nm,d⟩ (HX ⟨nm,d⟩ l k) y):=ON hy;clear hy;have hj:(k:Int)<n:=sH;have hl:(0:Int)<=k:=sH;generalize HX ⟨nm,d⟩ l k=G at *;obtain⟨gl,dd⟩:=G;simp only at R ⊢
   cases dd
   ·cases zh:bl y.nm.toList nm.toList
    ·cases zf:(y.nm.toList==nm.toList)
     ·have he:Hid (Cf ⟨nm,d⟩ (gl,false) y=(gl++[(⟨nm,d⟩:Fl)]++[y],true)):=ru;have hq:¬ y.nm.toList=nm.toList:=rH;go_wp2_with (first | (at_builtin;refine ag_ rfl (fun K hK=>Cl _ _ rfl w.heap.size a3 (n2+1) cap3 (gl++[(⟨nm,d⟩:Fl)]) rfl (R3.alloc _) _ 1 1 [y] rfl (Ef _ y _ _ sK) (fun ad h=>sV) (fun h=>sY) ((n2+1)+1) rfl sH sN (fun a4 cap4 w4 R4 hg=>hK _ _ ?_));have hf:Below w.heap.size w w4:=Yi (qk.alloc qk.size _) hg ol (aG_ fun ad qy=>(R3.block ad qy).1);have hh:=hf.size) | (at_builtin;refine ag_ rfl (fun K hK=>Cl _ _ rfl w.heap.size a2 n2 cap2 gl rfl (R.alloc _) _ 1 1 [(⟨nm,d⟩:Fl)] rfl (Ef _ (⟨nm,d⟩:Fl) _ _ sK) (fun ad h=>sV) (fun h=>sY) (n2+1) rfl sH sN (fun a3 cap3 w3 R3 qz=>hK _ _ ?_));have qk:Below w.heap.size w w3:=Yi (hB.alloc hsz _) qz (by have:=hsz;simp;omega) (aG_ fun ad qy=>(R.block ad qy).1);have zt:=qk.size;have c0':=qz.cell (a:=⟨b,o+k*2,none⟩) (Aj _ c0) (at_ (fun ad qy=>(R.block ad qy).1) hb);have c1':=qz.cell (a:=⟨b,o+k*2+1,none⟩) (Aj _ c1) (at_ (fun ad qy=>(R.block ad qy).1) hb);have za:=fun ob=>Aj (w:=w3) ob c0';have zb:=fun ob=>Aj (w:=w3) ob c1'));go_wp2;go_roundw
      case rel=>exact⟨k+1,a4,(n2+1+1),cap4,sH,sQ,rU,rfl,sH,by rw[qh.out,he.out];exact R4,hf⟩
      case measure=>simp[intOf];omega
     ·have he:Hid (Cf ⟨nm,d⟩ (gl,false) y=(gl++[(⟨nm,d⟩:Fl)],true)):=ru;have hq:y.nm.toList=nm.toList:=rH;have zx:=zh;rw[hq] at zx;go_wp2_with (at_builtin;refine ag_ rfl (fun K hK=>Cl _ _ rfl w.heap.size a2 n2 cap2 gl rfl (R.alloc _) _ 1 1 [(⟨nm,d⟩:Fl)] rfl (Ef _ (⟨nm,d⟩:Fl) _ _ sK) (fun ad h=>sV) (fun h=>sY) (n2+1) rfl sH sN (fun a3 cap3 w3 R3 qz=>hK _ _ ?_));have qk:Below w.heap.size w w3:=Yi (hB.alloc hsz _) qz (by have:=hsz;simp;omega) (aG_ fun ad qy=>(R.block ad qy).1);have zt:=qk.size;have c0':=qz.cell (a:=⟨b,o+k*2,none⟩) (Aj _ c0) (at_ (fun ad qy=>(R.block ad qy).1) hb);have c1':=qz.cell (a:=⟨b,o+k*2+1,none⟩) (Aj _ c1) (at_ (fun ad qy=>(R.block ad qy).1) hb));go_wp2;go_roundw
      case rel=>exact⟨k+1,a3,(n2+1),cap3,sH,sQ,rU,rfl,sH,by rw[qh.out,he.out];exact R3,qk⟩
      case measure=>simp[intOf];omega
    ·cases zf:(y.nm.toList==nm.toList)
     ·have he:Hid (Cf ⟨nm,d⟩ (gl,false) y=(gl++[y],false)):=ru;exact lA
     ·have he:Hid (Cf ⟨nm,d⟩ (gl,false) y=(gl,false)):=ru;exact l6
   ·cases zh:bl y.nm.toList nm.toList
    ·cases zf:(y.nm.toList==nm.toList)
     ·have he:Hid (Cf ⟨nm,d⟩ (gl,true) y=(gl++[y],true)):=ru;exact lA
     ·have he:Hid (Cf ⟨nm,d⟩ (gl,true) y=(gl,true)):=ru;exact l6
    ·cases zf:(y.nm.toList==nm.toList)
     ·have he:Hid (Cf ⟨nm,d⟩ (gl,true) y=(gl++[y],true)):=ru;exact lA
     ·have he:Hid (Cf ⟨nm,d⟩ (gl,true) y=(gl,true)):=ru;exact l6
  ·obtain rfl:k=n:=sH;have ha:Hid (IN ⟨nm,d⟩ (HX ⟨nm,d⟩ l k)=CO ⟨nm,d⟩ l):=QZ hc.out;generalize HX ⟨nm,d⟩ l k=G at *;obtain⟨gl,dd⟩:=G;simp only at R ⊢
   cases dd
   ·have he:Hid (CO ⟨nm,d⟩ l=gl++[(⟨nm,d⟩:Fl)]):=by show _=_;rw[<-ha.out];simp[IN]
    go_wp2_with (at_builtin;refine ag_ rfl (fun K hK=>Cl _ _ rfl w.heap.size a2 n2 cap2 gl rfl (R.alloc _) _ 1 1 [(⟨nm,d⟩:Fl)] rfl (Ef _ (⟨nm,d⟩:Fl) _ _ sK) (fun ad h=>sV) (fun h=>sY) (n2+1) rfl sH sN (fun a3 cap3 w3 R3 qz=>hK _ _ ?_));have qk:Below w.heap.size w w3:=Yi (hB.alloc hsz _) qz (by have:=hsz;simp;omega) (aG_ fun ad qy=>(R.block ad qy).1);have zt:=qk.size);go_wp2;go_returns;exact⟨⟨a3,_,cap3,rfl,by rw[he.out];exact R3⟩,qk⟩
   ·have he:Hid (CO ⟨nm,d⟩ l=gl):=by show _=_;rw[<-ha.out];simp[IN]
    go_wp2;go_returns;exact⟨⟨a2,n2,cap2,rfl,by rw[he.out];exact R⟩,hB⟩
end
section
open Go Go.RowKit Go.BigFrame Tryz
theorem lP{p:Prop}(h:p:=by
 have qZ:(fun u=>u.cell? ⟨b,o+k*2,none⟩=some (.string p.nm)∧u.cell? ⟨b,o+k*2+1,none⟩=some (.string p.d)∧u.cell? ⟨b',o'+k*2,none⟩=some (.string q.nm)∧u.cell? ⟨b',o'+k*2+1,none⟩=some (.string q.d)) wr.drew:=⟨c0,c1,d0,d1⟩;go_wp2_with fail;refine aC_ (S:=(fun u=>u.cell? ⟨b,o+k*2,none⟩=some (.string p.nm)∧u.cell? ⟨b,o+k*2+1,none⟩=some (.string p.d)∧u.cell? ⟨b',o'+k*2,none⟩=some (.string q.nm)∧u.cell? ⟨b',o'+k*2+1,none⟩=some (.string q.d))) 9 sI rfl ?_;refine tk 0 ?_;refine tk 1 ?_;refine tk 2 ?_;refine tk 3 ?_;refine tk 4 ?_;refine tk 5 ?_;refine tk 6 ?_;refine tk 7 ?_;refine tk 8 ?_;refine wpAnyH_done sI ?_ _;clear qZ;go_wp2;go_returns;go_light;refine ⟨ac_ ?_,Aa hB ((Yg _ _).drew)⟩
 rw[hI.out,hd.out,kr.out];simp only[BV,zu,Zr]):p:=h
theorem px{p:Prop}(h:p:=by
 obtain rfl:k=n:=sH;go_wp2;go_returns;go_light;refine ⟨ac_ ?_,hB⟩
 rw[hI.out,Ze (Zm qg.out),Ze (Zm qM.out)];rfl):p:=h
theorem pL{p:Prop}(h:p:=by
 go_wp2;go_returns;go_light;refine ⟨ac_ ?_,Yg _ _⟩
 rw[Os (by rw[qg.out,qM.out];exact hne)]):p:=h
theorem dB{p:Prop}(h:p:=by show _=_;rw[hI.out,hd.out,kr.out];simp only[BV,zu,Zp]):p:=h
theorem Mc (a:Option Addr)(n cap:Nat)(l:List Fl)(a':Option Addr)(n' cap':Nat)(m:List Fl)(w:World)(h:Dz w a n l)(h':Dz w a' n' m)(hn:n<=4194304)(hn':n'<=4194304) :
  Calls prog 41 #[.slice a n cap,.slice a' n' cap'] w fun e w'=>e=.returned (.bool (BV l m))∧Below w.heap.size w w':=by
 have qg:Hid (l.length=n):=h.len;have qM:Hid (m.length=n'):=h'.len;by_cases hne:n=n'
 ·subst hne;have ha:((n:Int) != (n:Int))=false:=sK;go_enter func41,ntmps41;go_wp2_with fail;go_loopw [5] (fun ix wr=>∃ (k:Nat),k<=n∧ix=.int .i64 k∧Hid (BV l m=BV (l.drop k) (m.drop k))∧Below w.heap.size w wr) (fun ix _=>n-(intOf ix).toNat)
  case atStart=>exact⟨0,Zg _,rfl,rfl,Yg _ _⟩
  case round=>
   obtain⟨k,hk,rfl,hI,hB⟩:=hrel;by_cases hlt:k<n
   ·obtain⟨b,o,p,rfl,hp,c0,c1⟩:=Ec (h.below hB) hlt;obtain⟨b',o',q,rfl,hq,d0,d1⟩:=Ec (h'.below hB) hlt;have hd:Hid (l.drop k=p::l.drop (k+1)):=al_ hp;have kr:Hid (m.drop k=q::m.drop (k+1)):=al_ hq;clear hp hq;have hb:(k:Int)<n:=sH;have hc:(0:Int)<=k:=sH;have zu:Is p q=(p.nm.toList==q.nm.toList&&p.d.toList==q.d.toList):=rfl;by_cases e1:p.nm.toList=q.nm.toList
    ·by_cases e2:p.d.toList=q.d.toList
     ·replace zu:Is p q=true:=by rw[zu];simp[e1,e2]
      have qZ:(fun u=>u.cell? ⟨b,o+k*2,none⟩=some (.string p.nm)∧u.cell? ⟨b,o+k*2+1,none⟩=some (.string p.d)∧u.cell? ⟨b',o'+k*2,none⟩=some (.string q.nm)∧u.cell? ⟨b',o'+k*2+1,none⟩=some (.string q.d)) wr.drew:=⟨c0,c1,d0,d1⟩;go_wp2_with fail;refine aC_ (S:=(fun u=>u.cell? ⟨b,o+k*2,none⟩=some (.string p.nm)∧u.cell? ⟨b,o+k*2+1,none⟩=some (.string p.d)∧u.cell? ⟨b',o'+k*2,none⟩=some (.string q.nm)∧u.cell? ⟨b',o'+k*2+1,none⟩=some (.string q.d))) 9 sI rfl ?_;refine tk 0 ?_;refine tk 1 ?_;refine tk 2 ?_;refine tk 3 ?_;refine tk 4 ?_;refine tk 5 ?_;refine tk 6 ?_;refine tk 7 ?_;refine tk 8 ?_;refine wpAnyH_done sI ?_ _;clear qZ;go_wp2;go_roundw
      case rel=>exact⟨k+1,sH,sQ,dB,Aa hB ((Yg _ _).drew)⟩
      case measure=>simp[intOf];omega
     ·replace zu:Is p q=false:=by rw[zu];simp[e2]
      exact lP
    ·replace zu:Is p q=false:=by rw[zu];simp[e1]
     exact lP
   ·exact px
 ·have ha:((n:Int) != (n':Int))=true:=sN;go_enter func41,ntmps41;exact pL
theorem sr{p:Prop}(h:p:=by
 go_wp2;go_returns
 exact⟨by rw[hf.out,ht,he];first | rfl | simp_all [emB],qL⟩):p:=h
theorem ss{p:Prop}(h:p:=by
 go_wp2;(all_goals go_returns)
 all_goals exact⟨by rw[hf.out];simp_all [emB],qL⟩):p:=h
theorem fg{p:Prop}(h:p:=by show _=_;simp[AP,hn]):p:=h
theorem HR (o:Dp)(w:World)(hs:Gw o) :
  Calls prog 40 #[.agg #[.int .i64 o.k,.string o.nm,.string o.tt,.string o.d]] w fun e w'=>e=.returned (.bool (AP o))∧Below w.heap.size w w':=by
 obtain⟨k,nm,tt,d⟩:=o;obtain⟨g1,g2,g3⟩:=hs;simp only at g1 g2 g3;have qL:Below w.heap.size w (w.alloc (.cells #[.int .i64 k,.string nm,.string tt,.string d] 89)):=sM;have hb:=Eh k 1 3;have hc:=fun u=>FR nm u g1;have hg:=fun u=>FR tt u g2;by_cases hk:1<=k∧k<=3
 ·have ha:(decide ((1:Int)<=k)&&decide (k<=3))=true:=sN
  cases hn:nmB nm
  ·have hf:Hid (AP ⟨k,nm,tt,d⟩=false):=fg;go_enter func40,ntmps40;go_wp2_with fail;refine (hb _).mono ?_;rintro e w1 ⟨rfl,rfl⟩;rw[ha];go_wp2_with fail;refine (hc _).mono ?_;rintro e w2 ⟨rfl,rfl⟩;rw[hn];go_wp2;go_returns;exact⟨ac_ hf.out.symm,qL⟩
  ·by_cases h2:k=2
   ·subst h2;have hf:Hid (AP ⟨2,nm,tt,d⟩=(nmB tt&&emB d)):=fg;go_enter func40,ntmps40;go_wp2_with fail;refine (hb _).mono ?_;rintro e w1 ⟨rfl,rfl⟩;rw[ha];go_wp2_with fail;refine (hc _).mono ?_;rintro e w2 ⟨rfl,rfl⟩;rw[hn];go_wp2_with fail;refine (hg _).mono ?_;rintro e w3 ⟨rfl,rfl⟩
    cases ht:nmB tt
    ·go_wp2;go_returns;exact⟨by rw[hf.out,ht];rfl,qL⟩
    ·cases he:emB d
     ·have hq:¬ d.toList=(⟨#[]⟩:ByteArray).toList:=by simpa [emB] using he
      exact sr
     ·have hq:d.toList=(⟨#[]⟩:ByteArray).toList:=by simpa [emB] using he
      exact sr
   ·have hj:(k==2)=false:=dq;have hf:Hid (AP ⟨k,nm,tt,d⟩=(emB tt&&(decide (k=1)||emB d))):=by show _=_;simp[AP,hn,h2,hk]
    go_enter func40,ntmps40;go_wp2_with fail;refine (hb _).mono ?_;rintro e w1 ⟨rfl,rfl⟩;rw[ha];go_wp2_with fail;refine (hc _).mono ?_;rintro e w2 ⟨rfl,rfl⟩;rw[hn];by_cases h1:k=1
    ·subst h1;exact ss
    ·have hh:(k==1)=false:=rR;exact ss
 ·have ha:(decide ((1:Int)<=k)&&decide (k<=3))=false:=sN;have hf:Hid (AP ⟨k,nm,tt,d⟩=false):=by show _=_;simp only[AP,ha,Zr]
  go_enter func40,ntmps40;go_wp2_with fail;refine (hb _).mono ?_;rintro e w1 ⟨rfl,rfl⟩;rw[ha];go_wp2;go_returns;exact⟨ac_ hf.out.symm,qL⟩
def Ds (l:List Fl)(k:Nat):Option Fl:=if k=0 then none else l[k-1]?
theorem PR {l:List Fl}{k:Nat}{p:Fl}{q:Option Fl}(h:l[k]?=some p):fgo q (l.drop k)=(nmB p.nm&&(match q with | none=>true | some x=>bl x.nm.toList p.nm.toList)&&fgo (some p) (l.drop (k+1))):=by
 rw[al_ h];rfl
theorem OT {l:List Fl}{k:Nat}{p:Fl}(h:l[k]?=some p):sumB (l.take (k+1))=sumB (l.take k)+p.d.size:=by
 rw[bx_ h,Mk];simp[sumB]
theorem Tr {l:List Fl}(h:If l):sumB l<=100000000*l.length:=by
 induction l with
 |nil=>simp[sumB]
 |cons x r ih=>
  have h1:=(h x sK).2;have h2:=ih (fun y hy=>h y rN);simp only[sumB,Zw];omega
theorem lH{p:Prop}(h:p:=by
 go_wp2_with fail;refine aC_ (S:=(fun u=>u.cell? ⟨b,o+k*2,none⟩=some (.string p.nm)∧u.cell? ⟨b,o+(k-1)*2,none⟩=some (.string x.nm))) 25 sI rfl ?_;refine tk 0 ?_;refine tk 1 ?_;refine tk 2 ?_;refine tk 3 ?_;refine tk 4 ?_;refine Ag (i:=5) sI rfl (fun K hK=>?_);go_simp;refine (qu _).mono ?_;rintro e w1 ⟨rfl,rfl⟩;rw[zF];dsimp only;refine hK.out _ _ rQ (fun hHeld=>?_);clear hK K;(try simp only[Act.put,Yj,Yq,Yr]);refine tk 6 ?_;refine tk 7 ?_;refine tk 8 ?_;refine tk 9 ?_;refine tk 10 ?_;refine tk 11 ?_;refine tk 12 ?_;refine tk 13 ?_;refine tk 14 ?_;refine tk 15 ?_;refine tk 16 ?_;refine tk 17 ?_;refine tk 18 ?_;refine tk 19 ?_;refine tk 20 ?_;refine tk 21 ?_;refine tk 22 ?_;refine tk 23 ?_;refine tk 24 ?_;refine wpAnyH_done sI ?_ _;clear qZ hHeld;go_wp2;go_returns
 exact⟨by rw[qJ.out,hf.out];rfl,Aa hB ((Yg _ _).drew)⟩):p:=h
theorem dN{p:Prop}(h:p:=by show _=_;rw[hI.out,jB.out,qY,zF,jA.out];simp[zh]):p:=h
theorem fh{p:Prop}(h:p:=by show _=_;rw[hI.out,qY,zF,jA.out];simp[Ds]):p:=h
theorem ft{p:Prop}(h:p:=by show _=_;rw[hI.out,jB.out,qY,zF];simp[zh]):p:=h
theorem Bu (a:Option Addr)(n cap:Nat)(l:List Fl)(w:World)(h:Dz w a n l)(hb:If l)(hn:n<=9223372036854775807) :
  Calls prog 38 #[.slice a n cap] w fun e w'=>e=.returned (.bool (Aq l))∧Below w.heap.size w w':=by
 have qg:Hid (l.length=n):=h.len;by_cases h60:n<=60
 ·have qJ:Hid (Aq l=(fgo none l&&decide (sumB l<=200000))):=by show _=_;simp[Aq,qg.out,h60]
  have hc:¬ (60:Int)<n:=sH;go_enter func38,ntmps38;go_wp2_with fail;go_loopw [3,4] (fun sm ix wr=>∃ k:Nat,k<=n∧ix=.int .i64 k∧sm=.int .i64 (sumB (l.take k):Nat)∧Hid (fgo none l=fgo (Ds l k) (l.drop k))∧Below w.heap.size w wr) (fun _ ix _=>n-(intOf ix).toNat)
  case atStart=>exact⟨0,Zg _,rfl,by simp[sumB],by show _=_;simp[Ds],Yg _ _⟩
  case round=>
   obtain⟨k,hk,rfl,rfl,hI,hB⟩:=hrel;by_cases hlt:k<n
   ·obtain⟨b,o,p,rfl,hp,c0,c1⟩:=Ec (h.below hB) hlt;have ho:=hb p (Zc hp);have hE:=Tr (l:=l.take k) (fun x hx=>hb x (ZX hx));have hF:(l.take k).length<=60:=dg;have hj:Hid (sumB (l.take (k+1))=sumB (l.take k)+p.d.size):=OT hp;have qY:∀ q,fgo q (l.drop k)=(nmB p.nm&&(match q with | none=>true | some x=>bl x.nm.toList p.nm.toList)&&fgo (some p) (l.drop (k+1))):=fun q=>PR hp;have jA:Hid (Ds l (k+1)=some p):=by show _=_;simp[Ds,hp]
    have hs:(k:Int)<n:=sH;have ht:(0:Int)<=k:=sH;generalize hSB:sumB (l.take k)=sb at *;have qu:=fun u=>FR p.nm u ho.1
    cases zF:nmB p.nm
    ·have hf:Hid (fgo none l=false):=by show _=_;rw[hI.out,qY,zF];simp
     clear qY;go_wp2_with fail;have qZ:(fun u=>u.cell? ⟨b,o+k*2,none⟩=some (.string p.nm)) wr.drew:=c0;refine aC_ (S:=(fun u=>u.cell? ⟨b,o+k*2,none⟩=some (.string p.nm))) 25 sI rfl ?_;refine tk 0 ?_;refine tk 1 ?_;refine tk 2 ?_;refine tk 3 ?_;refine tk 4 ?_;refine Ag (i:=5) sI rfl (fun K hK=>?_);go_simp;refine (qu _).mono ?_;rintro e w1 ⟨rfl,rfl⟩;rw[zF];dsimp only;refine hK.out _ _ rQ (fun hHeld=>?_);clear hK K;(try simp only[Act.put,Yj,Yq,Yr]);refine tk 6 ?_;refine tk 7 ?_;refine tku 8 ?_;refine tku 9 ?_;refine tku 10 ?_;refine tku 11 ?_;refine tku 12 ?_;refine tku 13 ?_;refine tku 14 ?_;refine tku 15 ?_;refine tku 16 ?_;refine tku 17 ?_;refine tku 18 ?_;refine tku 19 ?_;refine tku 20 ?_;refine tku 21 ?_;refine tku 22 ?_;refine tku 23 ?_;refine tk 24 ?_;refine wpAnyH_done sI ?_ _;clear qZ hHeld;go_wp2;go_returns;exact⟨by rw[qJ.out,hf.out];rfl,Aa hB ((Yg _ _).drew)⟩
    ·by_cases hk0:k=0
     ·subst hk0;have hg:Hid (fgo none l=fgo (Ds l (0+1)) (l.drop (0+1))):=fh;clear qY;go_wp2_with fail;have qZ:(fun u=>u.cell? ⟨b,o,none⟩=some (.string p.nm)) wr.drew:=by simpa using c0
      refine aC_ (S:=(fun u=>u.cell? ⟨b,o,none⟩=some (.string p.nm))) 25 sI rfl ?_;refine tk 0 ?_;refine tk 1 ?_;refine tk 2 ?_;refine tk 3 ?_;refine tk 4 ?_;refine Ag (i:=5) sI rfl (fun K hK=>?_);go_simp;refine (qu _).mono ?_;rintro e w1 ⟨rfl,rfl⟩;rw[zF];dsimp only;refine hK.out _ _ rQ (fun hHeld=>?_);clear hK K;(try simp only[Act.put,Yj,Yq,Yr]);refine tk 6 ?_;refine tk 7 ?_;refine tk 8 ?_;refine tk 9 ?_;refine tk 10 ?_;refine tku 11 ?_;refine tku 12 ?_;refine tku 13 ?_;refine tku 14 ?_;refine tku 15 ?_;refine tku 16 ?_;refine tku 17 ?_;refine tku 18 ?_;refine tku 19 ?_;refine tku 20 ?_;refine tku 21 ?_;refine tku 22 ?_;refine tk 23 ?_;refine tk 24 ?_;refine wpAnyH_done sI ?_ _;clear qZ hHeld;have c1':wr.drew.cell? ⟨b,o+1,none⟩=some (.string p.d):=by simpa using c1
      have hr:IntKind.i64.wrap ((sb:Int)+(p.d.size:Int))=(sb:Int)+(p.d.size:Int):=rj;go_wp2;go_roundw
      case rel=>exact⟨0+1,sH,sQ,by rw[hj.out];go_num,hg,Aa hB ((Yg _ _).drew)⟩
      case measure=>simp[intOf];omega
     ·obtain⟨x,hx⟩:∃ x,l[k-1]?=some x:=⟨_,ZI ox⟩;have jB:Hid (Ds l k=some x):=by show _=_;simp[Ds,hk0,hx]
      obtain⟨b2,o2,x2,hm,hl,e0,_⟩:=Ec (h.below hB) (show k-1<n by omega)
      cases hm;rw[hx] at hl
      cases hl;have hu:(0:Int)<k:=sH;have hy:decide ((0:Int)<k)=true:=sN;have hz:0<k:=sH;have hA:decide (0<k)=true:=sN;have hD:IntKind.i64.wrap ((k:Int)-1)=((k-1:Nat):Int):=rj;have hC:((k:Int)-1).toNat=k-1:=sH;have hv:(0:Int)<=((k-1:Nat):Int):=sH;have hw:((k-1:Nat):Int)<n:=sH
      cases zh:bl x.nm.toList p.nm.toList
      ·have hf:Hid (fgo none l=false):=ft;clear qY;have qZ:(fun u=>u.cell? ⟨b,o+k*2,none⟩=some (.string p.nm)∧u.cell? ⟨b,o+(k-1)*2,none⟩=some (.string x.nm)) wr.drew:=⟨c0,e0⟩;by_cases ha:p.nm.toList=x.nm.toList
       ·have hh:(p.nm.toList==x.nm.toList)=true:=by simpa using ha
        exact lH
       ·have hh:(p.nm.toList==x.nm.toList)=false:=by simpa using ha
        have hq:bl p.nm.toList x.nm.toList=true:=jT_ zh (fun e=>ha e.symm);exact lH
      ·have hg:Hid (fgo none l=fgo (Ds l (k+1)) (l.drop (k+1))):=dN;clear qY;have hq:bl p.nm.toList x.nm.toList=false:=jU_ zh;have ha:¬ p.nm.toList=x.nm.toList:=fun e=>by rw[e,cn_] at zh;cases zh
       have hh:(p.nm.toList==x.nm.toList)=false:=by simpa using ha
       have qZ:(fun u=>u.cell? ⟨b,o+k*2,none⟩=some (.string p.nm)∧u.cell? ⟨b,o+(k-1)*2,none⟩=some (.string x.nm)) wr.drew:=⟨c0,e0⟩;go_wp2_with fail;refine aC_ (S:=(fun u=>u.cell? ⟨b,o+k*2,none⟩=some (.string p.nm)∧u.cell? ⟨b,o+(k-1)*2,none⟩=some (.string x.nm))) 25 sI rfl ?_;refine tk 0 ?_;refine tk 1 ?_;refine tk 2 ?_;refine tk 3 ?_;refine tk 4 ?_;refine Ag (i:=5) sI rfl (fun K hK=>?_);go_simp;refine (qu _).mono ?_;rintro e w1 ⟨rfl,rfl⟩;rw[zF];dsimp only;refine hK.out _ _ rQ (fun hHeld=>?_);clear hK K;(try simp only[Act.put,Yj,Yq,Yr]);refine tk 6 ?_;refine tk 7 ?_;refine tk 8 ?_;refine tk 9 ?_;refine tk 10 ?_;refine tk 11 ?_;refine tk 12 ?_;refine tk 13 ?_;refine tk 14 ?_;refine tk 15 ?_;refine tk 16 ?_;refine tk 17 ?_;refine tk 18 ?_;refine tk 19 ?_;refine tk 20 ?_;refine tk 21 ?_;refine tk 22 ?_;refine tk 23 ?_;refine tk 24 ?_;refine wpAnyH_done sI ?_ _;clear qZ hHeld;have c1':wr.drew.cell? ⟨b,o+k*2+1,none⟩=some (.string p.d):=c1;have hr:IntKind.i64.wrap ((sb:Int)+(p.d.size:Int))=(sb:Int)+(p.d.size:Int):=rj;go_wp2;go_roundw
       case rel=>exact⟨k+1,sH,sQ,by rw[hj.out];go_num,hg,Aa hB ((Yg _ _).drew)⟩
       case measure=>simp[intOf];omega
   ·obtain rfl:k=n:=sH;have he:Hid (fgo none l=true):=by
     show _=_;exact ms
    rw[Zk (Zm qg.out)];clear hI;have hf:Hid (decide ((sumB l:Int)<=200000)=Aq l):=by
     show _=_;have h2:((sumB l:Int)<=200000)↔sumB l<=200000:=sH;rw[qJ.out,he.out];simp[h2]
    go_wp2;go_returns;exact⟨ac_ hf.out,hB⟩
 ·have hc:(60:Int)<n:=sH;have hf:Hid (Aq l=false):=by show _=_;simp[Aq,qg.out,h60]
  go_enter func38,ntmps38;go_wp2;go_returns;exact⟨ac_ hf.out.symm,Yg _ _⟩
theorem Ps {l:List Fl}{nm:ByteArray}{i:Nat}(h:atF l nm=some i):i<l.length:=by
 unfold atF at h;exact (ZA.1 h).1
theorem my{p:Prop}(h:p:=by
 go_wp2;go_returns
 exact⟨⟨a2,n2,cap2,by rw[hf.out]<;>rfl,by rw[hf.out];exact R2.mono sK⟩,Aa qL qj⟩):p:=h
theorem oF{p:Prop}(h:p:=by first | omega | (simp;done) | (simp;omega)):p:=h
theorem Gc (a:Option Addr)(n cap:Nat)(l:List Fl)(op:Dp)(w:World)(h:Dz w a n l)(ha1:∀ ad,a=some ad->ad.spot=none)(ha2:a=none->cap=0)(hn:n<=4000000)(hb:∀ f∈l,f.d.size<=100000000)(ho:op.d.size<=100000000) :
  Calls prog 39 #[.slice a n cap,.agg #[.int .i64 op.k,.string op.nm,.string op.tt,.string op.d]] w fun e w'=>(∃ a' n' cap',e=.returned (.tuple #[.slice a' n' cap',.bool (doF l op).2])∧Ac Fl.cs 2 39 w' w.heap.size a' n' cap' (doF l op).1)∧Below w.heap.size w w':=by
 have hh:Hid (l.length=n):=h.len;obtain⟨kd,nm,tt,d⟩:=op;simp only at ho;have O0:=Blk.new w #[.int .i64 kd,.string nm,.string tt,.string d] 89;have qL:Below w.heap.size w (w.alloc (.cells #[.int .i64 kd,.string nm,.string tt,.string d] 89)):=sM
 cases ha:atF l nm with
 |none=>
  by_cases hk:kd=1
  ·subst hk;have hf:Hid (doF l ⟨1,nm,tt,d⟩=(CO ⟨nm,d⟩ l,true)):=by show _=_;simp[doF,ha]
   generalize doF l ⟨1,nm,tt,d⟩=R at *;go_enter func39,ntmps39;go_wp2_with fail;refine (C8 a n cap l nm _ (h.below qL) sH).mono ?_;rintro e w1 ⟨rfl,rfl⟩;rw[ha];simp only[plF];go_wp2_with fail;refine (GG a n cap l nm d _ (h.below qL) sH).mono ?_;rintro e w2 ⟨⟨a2,n2,cap2,rfl,R2⟩,qj⟩;exact my
  ·have hr:(kd==1)=false:=by simpa using hk
   have hf:Hid (doF l ⟨kd,nm,tt,d⟩=(l,false)):=by show _=_;simp[doF,ha,hk]
   generalize doF l ⟨kd,nm,tt,d⟩=R at *;go_enter func39,ntmps39;go_wp2_with fail;refine (C8 a n cap l nm _ (h.below qL) sH).mono ?_;rintro e w1 ⟨rfl,rfl⟩;rw[ha];simp only[plF];go_wp2_with (at_builtin;refine ag_ rfl (fun K hK=>Cl _ _ rfl w.heap.size _ 0 0 [] rfl (aw_ (Blk.new' _ _ _ _ sK) oF) a n cap l rfl ((h.below qL).alloc _) ha1 ha2 n (Zq _) sH oF (fun a3 cap3 w3 R3 hp=>hK _ _ ?_)));have he:Below w.heap.size w w3:=Yi (qL.alloc sK _) hp oF (fun j e=>by simp[Value.ownBlock] at e;omega);go_wp2;go_returns;exact⟨⟨a3,n,cap3,by rw[hf.out]<;>rfl,by rw[hf.out];simpa using R3⟩,he⟩
 |some i=>
  have hl:=Ps ha;rw[hh.out] at hl;obtain⟨b,o,f,rfl,hc,c0,c1⟩:=Ec h hl;have hv:=hb f (Zc hc);have hw:(i:Int)<n:=sH;have hx:(0:Int)<=i:=sH;have hy:¬ (i:Int)<0:=sH;have g1:=Ab qL c1;by_cases hk:kd=1
  ·subst hk;have hf:Hid (doF l ⟨1,nm,tt,d⟩=(CO ⟨nm,f.d++d⟩ l,true)):=by show _=_;simp[doF,ha,hc]
   generalize doF l ⟨1,nm,tt,d⟩=R at *;clear hc;go_enter func39,ntmps39;go_wp2_with fail;refine (C8 _ n cap l nm _ (h.below qL) sH).mono ?_;rintro e w1 ⟨rfl,rfl⟩;rw[ha];simp only[plF];go_wp2_with fail;refine (GG _ n cap l nm (f.d++d) _ (h.below qL) sH).mono ?_;rintro e w2 ⟨⟨a2,n2,cap2,rfl,R2⟩,qj⟩;exact my
  ·have hr:(kd==1)=false:=by simpa using hk
   by_cases hk2:kd=2
   ·subst hk2;have hf:Hid (doF l ⟨2,nm,tt,d⟩=(CO ⟨tt,f.d⟩ (Ea nm l),true)):=by show _=_;simp[doF,ha,hc]
    generalize doF l ⟨2,nm,tt,d⟩=R at *;clear hc;go_enter func39,ntmps39;go_wp2_with fail;refine (C8 _ n cap l nm _ (h.below qL) sH).mono ?_;rintro e w1 ⟨rfl,rfl⟩;rw[ha];simp only[plF];go_wp2_with fail;refine (IZ _ n cap l nm _ (h.below qL) sH).mono ?_;rintro e w2 ⟨⟨a2,n2,cap2,rfl,hs,R2⟩,qj⟩;have O2:=O0.below qj;have x0:w2.cell? ⟨w.heap.size,0,none⟩=some (.int .i64 2):=O2.cell 0;have x2:w2.cell? ⟨w.heap.size,2,none⟩=some (.string tt):=O2.cell 2;have g2:=Ab qj g1;go_wp2_with fail;have hj:∀ u,Below w2.heap.size w2 u->(fun u=>u.cell? ⟨w.heap.size,2,none⟩=some (.string tt)∧u.cell? ⟨b,o+i*2+1,none⟩=some (.string f.d)) u:=fun u hu=>⟨Ab hu x2,Ab hu g2⟩;have hm:(fun u=>u.cell? ⟨w.heap.size,2,none⟩=some (.string tt)∧u.cell? ⟨b,o+i*2+1,none⟩=some (.string f.d)) w2.drew:=⟨x2,g2⟩;refine aC_ (S:=(fun u=>u.cell? ⟨w.heap.size,2,none⟩=some (.string tt)∧u.cell? ⟨b,o+i*2+1,none⟩=some (.string f.d))) 10 sI rfl ?_;refine tk 0 ?_;refine tk 1 ?_;refine tk 2 ?_;refine tk 3 ?_;refine tk 4 ?_;refine tk 5 ?_;refine tk 6 ?_;refine tk 7 ?_;refine Ag (i:=8) sI rfl (fun K hK=>?_);go_simp;refine (GG a2 n2 cap2 (Ea nm l) tt f.d _ (R2.sl.below ((Yg _ _).drew)) sH).mono ?_;rintro e w3 ⟨⟨a3,n3,cap3,rfl,R3⟩,hg⟩;have he:=Aa ((Yg w2.heap.size w2).drew) hg;dsimp only;refine hK.out _ _ (hj _ he) (fun hHeld=>?_);clear hK K;(try simp only[Act.put,Yj,Yq,Yr]);refine tk 9 ?_;refine wpAnyH_done sI ?_ _;clear hm hj hHeld;have ht:=qj.size;simp only[YN] at ht;go_wp2;go_returns;exact⟨⟨a3,n3,cap3,by rw[hf.out]<;>rfl,by rw[hf.out];exact R3.mono (show w.heap.size<=w2.heap.size by omega)⟩,Aa (Aa qL qj) he⟩
   ·have hq:(kd==2)=false:=by simpa using hk2
    have hf:Hid (doF l ⟨kd,nm,tt,d⟩=(Ea nm l,true)):=by show _=_;simp[doF,ha,hc,hk,hk2]
    generalize doF l ⟨kd,nm,tt,d⟩=R at *;clear hc;go_enter func39,ntmps39;go_wp2_with fail;refine (C8 _ n cap l nm _ (h.below qL) sH).mono ?_;rintro e w1 ⟨rfl,rfl⟩;rw[ha];simp only[plF];go_wp2_with fail;refine (IZ _ n cap l nm _ (h.below qL) sH).mono ?_;rintro e w2 ⟨⟨a2,n2,cap2,rfl,hs,R2⟩,qj⟩;have O2:=O0.below qj;have x0:w2.cell? ⟨w.heap.size,0,none⟩=some (.int .i64 kd):=O2.cell 0;exact my
theorem H4 (l:List Fl)(o:Dp):(doF l o).1.length<=l.length+1:=by
 have hc:∀ nm,(Ea nm l).length<=l.length:=fun nm=>Yc _ _;unfold doF;split
 ·split
  ·exact IO _ _
  ·simp
 ·split
  ·simp
  ·split
   ·exact IO _ _
   ·split
    ·have:=IO ⟨o.tt,‹Fl›.d⟩ (Ea o.nm l);have:=hc o.nm;simp only;omega
    ·have:=hc o.nm;simp only;omega
theorem lW{p:Prop}(h:p:=by
 obtain⟨g1,g2,g3⟩:=ho;unfold doF;split
 ·split
  ·intro x hx;rcases putF_mem hx with rfl | hx
   ·exact⟨g1,by show o.d.size<=_;omega⟩
   ·exact hb x hx
  ·exact hb
 ·split
  ·exact hb
  ·rename_i f hfi;have jX:=hm f (Zc hfi);split
   ·intro x hx;rcases putF_mem hx with rfl | hx
    ·refine ⟨g1,?_⟩;show (f.d++o.d).size<=_;rw[ByteArray.size_append];omega
    ·exact hb x hx
   ·split
    ·intro x hx;rcases putF_mem hx with rfl | hx
     ·exact⟨g2,by show f.d.size<=_;omega⟩
     ·exact hb x (YG.1 hx).1
    ·exact fun x hx=>hb x (YG.1 hx).1):p:=h
theorem Kl {l:List Fl}{o:Dp}(hf:Aq l=true)(ho:Gw o)(hd:o.d.size<=10000000):If (doF l o).1:=by
 obtain⟨_,hs,hg⟩:=Ba hf;have hm:∀ x∈l,x.nm.size<=9223372036854775807∧x.d.size<=200000:=fun x hx=>by
  have h1:=EB hg x hx;have h2:=Ck hx;simp only[nmB,Zf,ZU] at h1;omega
 have hb:If l:=fun x hx=>by have:=hm x hx;omega
 exact lW
theorem mO{p:Prop}(h:p:=by
 show _=_;have jb:ops.length<=200:=by rw[lO.out];exact h200
 show (Aq live&&Aq safe&&decide (ops.length<=200)&&_)=_;rw[qJ,zO,decide_eq_true jb]
 cases runF safe ops<;>rfl):p:=h
theorem mV{p:Prop}(h:p:=by
 have jF:(200:Int)<on:=sH;have hf:Hid (Az ⟨live,safe,ops⟩=false):=by show _=_;simp[Az,lO.out,h200]
 go_wp2;go_returns
 exact⟨ac_ hf.out.symm,ke⟩):p:=h
theorem pX{p:Prop}(h:p:=by
 rintro e w1 ⟨rfl,qe⟩;rw[qJ];go_wp2;go_returns
 exact⟨ac_ hf.out.symm,Aa qL qe⟩):p:=h
theorem pY{p:Prop}(h:p:=by
 rintro e w2 ⟨rfl,qj⟩;rw[zO];go_wp2;go_returns
 exact⟨ac_ hf.out.symm,Aa zW qj⟩):p:=h
theorem rz{p:Prop}(h:p:=by rw[hf.out,qF.out]<;>rfl):p:=h
theorem Dt (v:Value)(d:Dk)(w:World)(h:Bv w v d)(hd:Dg d) :
  Calls prog 15 #[v] w fun e w'=>e=.returned (.bool (Az d))∧Below w.heap.size w w':=by
 obtain⟨la,ln,lc,sa,sn,sc,oa,on,oc,rfl,hL,hS,hO⟩:=h;obtain⟨⟨dl1,dl2⟩,⟨ds1,ds2⟩,do1,do2⟩:=hd;obtain⟨live,safe,ops⟩:=d;simp only at dl1 dl2 ds1 ds2 do1 do2 hL hS hO;have lL:Hid (live.length=ln):=hL.sl.len;have lS:Hid (safe.length=sn):=hS.sl.len;have lO:Hid (ops.length=on):=hO.sl.len;have qL:Below w.heap.size w (w.alloc (.cells #[.slice la ln lc,.slice sa sn sc,.slice oa on oc] 27)):=sM;have D0:=Blk.new w #[.slice la ln lc,.slice sa sn sc,.slice oa on oc] 27;rw[lL.out] at dl1;rw[lS.out] at ds1;rw[lO.out] at do1
 cases qJ:Aq live
 ·have hf:Hid (Az ⟨live,safe,ops⟩=false):=by show _=_;simp[Az,qJ]
  go_enter func15,ntmps15;go_wp2_with fail;refine (Bu la ln lc live _ (hL.sl.below qL) dl2 sH).mono ?_;exact pX
 ·cases zO:Aq safe
  ·have hf:Hid (Az ⟨live,safe,ops⟩=false):=by show _=_;simp[Az,zO]
   go_enter func15,ntmps15;go_wp2_with fail;refine (Bu la ln lc live _ (hL.sl.below qL) dl2 sH).mono ?_;rintro e w1 ⟨rfl,qe⟩;rw[qJ];have D1:=D0.below qe;have x1:w1.cell? ⟨w.heap.size,1,none⟩=some (.slice sa sn sc):=D1.cell 1;have zW:=Aa qL qe;go_wp2_with fail;refine (Bu sa sn sc safe _ (hS.sl.below zW) ds2 sH).mono ?_;exact pY
  ·go_enter func15,ntmps15;go_wp2_with fail;refine (Bu la ln lc live _ (hL.sl.below qL) dl2 sH).mono ?_;rintro e w1 ⟨rfl,qe⟩;rw[qJ];have D1:=D0.below qe;have x1:w1.cell? ⟨w.heap.size,1,none⟩=some (.slice sa sn sc):=D1.cell 1;have zW:=Aa qL qe;go_wp2_with fail;refine (Bu sa sn sc safe _ (hS.sl.below zW) ds2 sH).mono ?_;rintro e w2 ⟨rfl,qj⟩;rw[zO];have D2:=D1.below qj;have ke:=Aa zW qj;clear x1;have x0:w2.cell? ⟨w.heap.size,0,none⟩=some (.slice la ln lc):=D2.cell 0;have x1:w2.cell? ⟨w.heap.size,1,none⟩=some (.slice sa sn sc):=D2.cell 1;have x2:w2.cell? ⟨w.heap.size,2,none⟩=some (.slice oa on oc):=D2.cell 2;by_cases h200:on<=200
   ·have jF:¬ (200:Int)<on:=sH;have hf:Hid (Az ⟨live,safe,ops⟩=(match runF safe ops with | none=>false | some l=>BV l live)):=by
     exact mO
    go_wp2_with fail;go_loopw [3,4] (fun now ix wr=>∃ (k:Nat) (a2:Option Addr) (n2 c2:Nat) (cur:List Fl),k<=on∧ix=.int .i64 k∧now=.slice a2 n2 c2∧SlH Fl.cs 2 wr a2 n2 c2 cur∧Aq cur=true∧Hid (runF safe ops=runF cur (ops.drop k))∧Below w2.heap.size w2 wr) (fun _ ix _=>on-(intOf ix).toNat)
    case atStart=>exact⟨0,sa,sn,sc,safe,Zg _,rfl,rfl,hS.below ke,zO,dI,Yg _ _⟩
    case round=>
     obtain⟨k,a2,n2,c2,cur,hk,rfl,rfl,hN,hq,hI,hB⟩:=hrel;clear x0 x1 x2;have D3:=D2.below hB;have x0:wr.cell? ⟨w.heap.size,0,none⟩=some (.slice la ln lc):=D3.cell 0;have x2:wr.cell? ⟨w.heap.size,2,none⟩=some (.slice oa on oc):=D3.cell 2;have hc:=Aa ke hB;obtain⟨hj,hz,hy⟩:=Ba hq;have hE:n2<=60:=by rw[<-hN.sl.len];exact hj
     have hv:∀ f∈cur,f.d.size<=100000000:=fun f hf=>by have:=Ck hf;omega
     by_cases hlt:k<on
     ·obtain⟨b,o,op,rfl,hp,c0,c1,c2',c3⟩:=PO (hO.sl.below hc) hlt;obtain⟨hr,hx⟩:=do2 op (Zc hp);have hb:runF cur (ops.drop k)=if ((doF cur op).2&&AP op&&Aq (doF cur op).1)=true then runF (doF cur op).1 (ops.drop (k+1)) else none:=by
       rw[al_ hp];rfl
      clear hp;have hC:(k:Int)<on:=sH;have hD:(0:Int)<=k:=sH;have hu:=Kl hq hr hx;have hA:=H4 cur op;go_wp2_with fail;refine (Gc a2 n2 c2 cur op _ hN.sl hN.spot hN.nil sH hv sH).mono ?_;rintro e w4 ⟨⟨a4,n4,c4,rfl,R4⟩,ha⟩;have hn:=Aa hc ha;have e0:=Ab ha c0;have e1:=Ab ha c1;have e2:=Ab ha c2';have e3:=Ab ha c3;have y2:=Ab ha x2;have hF:n4<=61:=by rw[<-R4.sl.len];omega
      cases he:(doF cur op).2
      ·have qF:Hid (runF safe ops=none):=by show _=_;rw[hI.out,hb,he];simp
       go_wp2;go_returns;exact⟨rz,hn⟩
      ·go_wp2_with fail;refine (HR op _ hr).mono ?_;rintro e w5 ⟨rfl,hg⟩;have ho:=Aa hn hg
       cases hm:AP op
       ·have qF:Hid (runF safe ops=none):=by show _=_;rw[hI.out,hb,he,hm];simp
        go_wp2;go_returns;exact⟨rz,ho⟩
       ·have R5:=R4.below hg;go_wp2_with fail;refine (Bu a4 n4 c4 _ _ R5.sl hu sH).mono ?_;rintro e w6 ⟨rfl,hh⟩;have ht:=Aa ho hh
        cases hl:Aq (doF cur op).1
        ·have qF:Hid (runF safe ops=none):=by show _=_;rw[hI.out,hb,he,hm,hl];simp
         go_wp2;go_returns;exact⟨rz,ht⟩
        ·have hw:Hid (runF safe ops=runF (doF cur op).1 (ops.drop (k+1))):=by show _=_;rw[hI.out,hb,he,hm,hl];simp
         have R6:=(R5.below hh).slH;have hs:Below w2.heap.size w2 w6:=Aa (Aa (Aa hB ha) hg) hh;go_wp2;go_roundw
         case rel=>exact⟨k+1,a4,n4,c4,_,sH,sQ,rfl,R6,hl,hw,hs⟩
         case measure=>simp[intOf];omega
     ·obtain rfl:k=on:=sH;have qF:Hid (runF safe ops=some cur):=by
       show _=_;rw[hI.out,Ze (Zm lO.out)];rfl
      go_wp2_with fail;refine (Mc a2 n2 c2 cur la ln lc live _ hN.sl (hL.sl.below hc) sH sH).mono ?_;rintro e w4 ⟨rfl,ha⟩;go_wp2;go_returns;exact⟨rz,Aa hc ha⟩
   ·exact mV
theorem Blk.three {w:World}{b:Nat}{c0 c1 c2:Value}{t:TypeId}(h:Blk w b #[c0,c1,c2] t):w.cell? ⟨b,0,none⟩=some c0∧w.cell? ⟨b,1,none⟩=some c1∧w.cell? ⟨b,2,none⟩=some c2:=⟨h.cell 0,h.cell 1,h.cell 2⟩
theorem o8{p:Prop}(h:p:=by rw[qx];go_grown):p:=h
theorem oP{p:Prop}(h:p:=by rw[qx];exact (Blk.new w _ _).alloc _):p:=h
end
end Go.Proofs.YteejlahappbalaaGreatDoor
