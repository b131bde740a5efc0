/- Joined, Laid of the program. -/
import Derived.Test.YtbbhcnjhohidnaaGreatDoorU03
set_option maxHeartbeats 20000000
set_option maxRecDepth 100000
namespace Go.Proofs.YtbbhcnjhohidnaaGreatDoor
open Go Go.RowKit Go.BigFrame Tryz
variable{c:Ct}{fr size st to x y:Int}{l more:List Ct}{lk r:List Pt}{B cap k n:Nat}{a:Option Addr}{p:Pt}{w:World}
theorem ba_ (a:Option Addr)(n cap:Nat)(l:List Pt)(fr to:Int)(w:World)(h:AE w a n l)(hn:n<=16)(hl:GC l)(hf0:0<=fr)(hf1:fr<=10000)(ht0:0<=to)(ht1:to<=10000):
  Calls prog 111 #[.slice a n cap,.int .i64 fr,.int .i64 to] w fun e w'=>(∃ a1 n1 cap1,e=.returned (.slice a1 n1 cap1)∧n1<=n∧Ac Pt.cs 3 162 w' w.heap.size a1 n1 cap1 (Al [] (slp fr to 0 l)))∧Below w.heap.size w w':=by
 have hm:Hid (l.length=n):=h.len;go_enter func111,ntmps111
 go_wp2_with fail
 go_loopw [7,8,9] (fun out s ix wr=>∃ (k:Nat) (st:Int) (a2:Option Addr) (n2 cap2:Nat) (lk:List Pt),k<=n∧ix=.int .i64 k∧s=.int .i64 st∧0<=st∧st<=100*k∧out=.slice a2 n2 cap2∧n2<=k∧Ac Pt.cs 3 162 wr w.heap.size a2 n2 cap2 lk∧Hid (Al [] (slp fr to 0 l)=Al lk (slp fr to st (l.drop k)))∧Below w.heap.size w wr) (fun _ _ ix _=>n-(intOf ix).toNat)
 case atStart=>exact⟨0,0,_,0,0,[],Zg _,rfl,rfl,by omega,by omega,rfl,by omega,aw_ (Blk.new _ _ _) (Zd _),rfl,(Yg _ _).alloc (Zd _) _⟩
 case round=>
  obtain⟨k,st,a2,n2,cap2,lk,hk,rfl,rfl,hw,hz,rfl,hq,hc,hI,hB⟩:=hrel;by_cases hlt:k<n
  ·obtain⟨b,o,p,rfl,hp,c0,c1,c2⟩:=bi_ (h.below hB) hlt;have hd:Hid (l.drop k=p::l.drop (k+1)):=al_ hp;obtain⟨⟨hs,ht,hu,hv⟩,hg⟩:=hl p (Zc hp);clear hp;have hA:=hB.size;by_cases hxy:max (fr-st) 0<min (to-st) p.n
   ·rcases hg with⟨hg,ho⟩ | hg
    ·have hr:¬ 0<p.a:=by omega
     have hj:Hid (p.a=0∧p.f=0):=⟨hg,ho⟩;clear hg ho;by_cases hx:fr<st
     ·by_cases hy:st+p.n<to
      ·go_wp2_with fail
       refine (bg_ a2 n2 cap2 lk ⟨p.a,p.f,(st+p.n)-st⟩ _ (hc.sl.alloc _) (by omega) hc.arg).mono ?_;rintro e w3 ⟨⟨a3,n3,cap3,rfl,he⟩,hf⟩;have hh:=bZ_ he.sl.len hc.sl.len;obtain⟨_,_,_,ha,_⟩:=CS hf;have y2:=Ab ha c2;have hb:Hid (Al lk (slp fr to st (p::l.drop (k+1)))=Al (AX lk ⟨p.a,p.f,(st+p.n)-st⟩) (slp fr to (st+p.n) (l.drop (k+1)))):=fM_ hxy hj.out (by omega);clear hxy;go_wp2;go_roundw
       case rel=>exact⟨k+1,st+p.n,a3,n3,cap3,_,by omega,by go_num,by go_num,by omega,by omega,rfl,by omega,he.mono (by simp;omega),by show _=_;rw[hI.out,hd.out];exact hb.out,Aa hB ha⟩
       case measure=>simp[intOf];omega
      ·go_wp2_with fail
       refine (bg_ a2 n2 cap2 lk ⟨p.a,p.f,to-st⟩ _ (hc.sl.alloc _) (by omega) hc.arg).mono ?_;rintro e w3 ⟨⟨a3,n3,cap3,rfl,he⟩,hf⟩;have hh:=bZ_ he.sl.len hc.sl.len;obtain⟨_,_,_,ha,_⟩:=CS hf;have y2:=Ab ha c2;have hb:Hid (Al lk (slp fr to st (p::l.drop (k+1)))=Al (AX lk ⟨p.a,p.f,to-st⟩) (slp fr to (st+p.n) (l.drop (k+1)))):=fM_ hxy hj.out (by omega);clear hxy;go_wp2;go_roundw
       case rel=>exact⟨k+1,st+p.n,a3,n3,cap3,_,by omega,by go_num,by go_num,by omega,by omega,rfl,by omega,he.mono (by simp;omega),by show _=_;rw[hI.out,hd.out];exact hb.out,Aa hB ha⟩
       case measure=>simp[intOf];omega
     ·by_cases hy:st+p.n<to
      ·go_wp2_with fail
       refine (bg_ a2 n2 cap2 lk ⟨p.a,p.f,(st+p.n)-fr⟩ _ (hc.sl.alloc _) (by omega) hc.arg).mono ?_;rintro e w3 ⟨⟨a3,n3,cap3,rfl,he⟩,hf⟩;have hh:=bZ_ he.sl.len hc.sl.len;obtain⟨_,_,_,ha,_⟩:=CS hf;have y2:=Ab ha c2;have hb:Hid (Al lk (slp fr to st (p::l.drop (k+1)))=Al (AX lk ⟨p.a,p.f,(st+p.n)-fr⟩) (slp fr to (st+p.n) (l.drop (k+1)))):=fM_ hxy hj.out (by omega);clear hxy;go_wp2;go_roundw
       case rel=>exact⟨k+1,st+p.n,a3,n3,cap3,_,by omega,by go_num,by go_num,by omega,by omega,rfl,by omega,he.mono (by simp;omega),by show _=_;rw[hI.out,hd.out];exact hb.out,Aa hB ha⟩
       case measure=>simp[intOf];omega
      ·go_wp2_with fail
       refine (bg_ a2 n2 cap2 lk ⟨p.a,p.f,to-fr⟩ _ (hc.sl.alloc _) (by omega) hc.arg).mono ?_;rintro e w3 ⟨⟨a3,n3,cap3,rfl,he⟩,hf⟩;have hh:=bZ_ he.sl.len hc.sl.len;obtain⟨_,_,_,ha,_⟩:=CS hf;have y2:=Ab ha c2;have hb:Hid (Al lk (slp fr to st (p::l.drop (k+1)))=Al (AX lk ⟨p.a,p.f,to-fr⟩) (slp fr to (st+p.n) (l.drop (k+1)))):=fM_ hxy hj.out (by omega);clear hxy;go_wp2;go_roundw
       case rel=>exact⟨k+1,st+p.n,a3,n3,cap3,_,by omega,by go_num,by go_num,by omega,by omega,rfl,by omega,he.mono (by simp;omega),by show _=_;rw[hI.out,hd.out];exact hb.out,Aa hB ha⟩
       case measure=>simp[intOf];omega
    ·by_cases hx:fr<st
     ·by_cases hy:st+p.n<to
      ·go_wp2_with fail
       refine (bg_ a2 n2 cap2 lk ⟨p.a,p.f,(st+p.n)-st⟩ _ (hc.sl.alloc _) (by omega) hc.arg).mono ?_;rintro e w3 ⟨⟨a3,n3,cap3,rfl,he⟩,hf⟩;have hh:=bZ_ he.sl.len hc.sl.len;obtain⟨_,_,_,ha,_⟩:=CS hf;have y2:=Ab ha c2;have hb:Hid (Al lk (slp fr to st (p::l.drop (k+1)))=Al (AX lk ⟨p.a,p.f,(st+p.n)-st⟩) (slp fr to (st+p.n) (l.drop (k+1)))):=g0_ hxy hg (by omega) (by omega);clear hxy;go_wp2;go_roundw
       case rel=>exact⟨k+1,st+p.n,a3,n3,cap3,_,by omega,by go_num,by go_num,by omega,by omega,rfl,by omega,he.mono (by simp;omega),by show _=_;rw[hI.out,hd.out];exact hb.out,Aa hB ha⟩
       case measure=>simp[intOf];omega
      ·go_wp2_with fail
       refine (bg_ a2 n2 cap2 lk ⟨p.a,p.f,to-st⟩ _ (hc.sl.alloc _) (by omega) hc.arg).mono ?_;rintro e w3 ⟨⟨a3,n3,cap3,rfl,he⟩,hf⟩;have hh:=bZ_ he.sl.len hc.sl.len;obtain⟨_,_,_,ha,_⟩:=CS hf;have y2:=Ab ha c2;have hb:Hid (Al lk (slp fr to st (p::l.drop (k+1)))=Al (AX lk ⟨p.a,p.f,to-st⟩) (slp fr to (st+p.n) (l.drop (k+1)))):=g0_ hxy hg (by omega) (by omega);clear hxy;go_wp2;go_roundw
       case rel=>exact⟨k+1,st+p.n,a3,n3,cap3,_,by omega,by go_num,by go_num,by omega,by omega,rfl,by omega,he.mono (by simp;omega),by show _=_;rw[hI.out,hd.out];exact hb.out,Aa hB ha⟩
       case measure=>simp[intOf];omega
     ·by_cases hy:st+p.n<to
      ·go_wp2_with fail
       refine (bg_ a2 n2 cap2 lk ⟨p.a,p.f+fr-st,(st+p.n)-fr⟩ _ (hc.sl.alloc _) (by omega) hc.arg).mono ?_;rintro e w3 ⟨⟨a3,n3,cap3,rfl,he⟩,hf⟩;have hh:=bZ_ he.sl.len hc.sl.len;obtain⟨_,_,_,ha,_⟩:=CS hf;have y2:=Ab ha c2;have hb:Hid (Al lk (slp fr to st (p::l.drop (k+1)))=Al (AX lk ⟨p.a,p.f+fr-st,(st+p.n)-fr⟩) (slp fr to (st+p.n) (l.drop (k+1)))):=g0_ hxy hg (by omega) (by omega);clear hxy;go_wp2;go_roundw
       case rel=>exact⟨k+1,st+p.n,a3,n3,cap3,_,by omega,by go_num,by go_num,by omega,by omega,rfl,by omega,he.mono (by simp;omega),by show _=_;rw[hI.out,hd.out];exact hb.out,Aa hB ha⟩
       case measure=>simp[intOf];omega
      ·go_wp2_with fail
       refine (bg_ a2 n2 cap2 lk ⟨p.a,p.f+fr-st,to-fr⟩ _ (hc.sl.alloc _) (by omega) hc.arg).mono ?_;rintro e w3 ⟨⟨a3,n3,cap3,rfl,he⟩,hf⟩;have hh:=bZ_ he.sl.len hc.sl.len;obtain⟨_,_,_,ha,_⟩:=CS hf;have y2:=Ab ha c2;have hb:Hid (Al lk (slp fr to st (p::l.drop (k+1)))=Al (AX lk ⟨p.a,p.f+fr-st,to-fr⟩) (slp fr to (st+p.n) (l.drop (k+1)))):=g0_ hxy hg (by omega) (by omega);clear hxy;go_wp2;go_roundw
       case rel=>exact⟨k+1,st+p.n,a3,n3,cap3,_,by omega,by go_num,by go_num,by omega,by omega,rfl,by omega,he.mono (by simp;omega),by show _=_;rw[hI.out,hd.out];exact hb.out,Aa hB ha⟩
       case measure=>simp[intOf];omega
   ·by_cases hx:fr<st
    all_goals by_cases hy:st+p.n<to
    all_goals try (exfalso;omega)
    all_goals
     go_wp2;go_roundw
     case rel=>exact⟨k+1,st+p.n,a2,n2,cap2,lk,by omega,by go_num,by go_num,by omega,by omega,rfl,by omega,hc,by show _=_;rw[hI.out,hd.out,fo_ hxy],hB⟩
     case measure=>simp[intOf];omega
  ·obtain rfl:k=n:=by omega
   go_wp2;go_returns;go_light;rw[Ze (Zm hm.out)] at hI;rw[hI.out];exact⟨⟨a2,n2,cap2,rfl,hq,hc⟩,hB⟩
theorem hq_ {l:List Pt}(h:Ae l=true):GC l:=by
 intro p hp;refine⟨ci_ h p hp,?_⟩;have hk:=(ae_ h).2.1 p hp;unfold Ao at hk;split at hk
 ·rename_i ha;simp at ha hk;exact .inl ⟨ha,hk.1⟩
 ·simp at hk;exact .inr (by omega)
def G3:Option Addr->Option Nat
 |none=>none
 |some ad=>some ad.block
theorem jc_ {w1 w':World}{row:Option Nat}(hb:Below w.heap.size w w1)(hg:w1.grownBy w' row)(hn:∀ k,row=some k->w.heap.size<=k):Below w.heap.size w w':=hb.grown hg hb.size hn
theorem pl_ (h:∀ ad,a=some ad->B<=ad.block):∀ k,G3 a=some k->B<=k:=by
 intro k hk
 cases a with
 |none=>cases hk
 |some ad=>have:=h ad rfl;simp[G3] at hk;omega
theorem my_:∀ (l:List Int),∀ u∈l.flatMap ics,u.oneCell'=true:=by
 intro l u hu;obtain⟨x,_,hx⟩:=ZL.1 hu;simp at hx;subst hx;rfl
theorem j3_ (w:World)(x:Int)(t:TypeId)(b:Nat)(hb:b=w.heap.size):As ics 1 (w.alloc (.cells #[.int .i64 x] t)) (some ⟨b,0,none⟩) 1 [x]:=by
 subst hb;refine⟨rfl,fun i y hy=>⟨w.heap.size,0,rfl,fun j v hv=>?_⟩⟩;have hi:i=0:=by have:=(Zb.1 hy).1;simp at this;exact this
 subst hi;simp at hy;subst hy
 match j,hv with
 |0,hv=>obtain rfl:=Zi hv;simp
 |j+1,hv=>simp at hv
theorem at_ {x:Nat}(h:∀ ad,a=some ad->B<=ad.block)(hx:x<B):some x≠Value.ownBlock (.slice a n cap):=by
 cases a with
 |none=>simp[Value.ownBlock]
 |some ad=>have:=h ad rfl;simp[Value.ownBlock];omega
def gl (size:Int):Int->List Ex->List Int
 |next,[]=>[size+1-next]
 |next,e::r=>(e.a-next)::gl size (e.a+e.d.size) r
def glA (size:Int)(l:List Ex):Nat->List Int×Int
 |0=>([],1)
 |k+1=>match l[k]? with
  |none=>glA size l k
  |some e=>((glA size l k).1++[e.a-(glA size l k).2],e.a+e.d.size)
theorem da_ {l:List Ex}{p:Ex}(h:l[k]?=some p):glA size l (k+1)=((glA size l k).1++[p.a-(glA size l k).2],p.a+p.d.size):=by simp[glA,h]
theorem lB_ {l:List Ex}:∀ k,k<=l.length->gl size 1 l=(glA size l k).1++gl size (glA size l k).2 (l.drop k)
 |0,_=>by simp[glA]
 |k+1,h=>by
  have hk:l[k]?=some l[k]:=by simp[show k<l.length by omega]
  rw[lB_ k (by omega),al_ hk,da_ hk];simp[gl]
theorem jd_ {l:List Ex}:∀ k,k<=l.length->(glA size l k).1.length=k
 |0,_=>rfl
 |k+1,h=>by
  have hk:l[k]?=some l[k]:=by simp[show k<l.length by omega]
  rw[da_ hk];simp[jd_ (l:=l) k (by omega)]
theorem lC_ {l:List Ex}(hs:size<=400):∀ k,k<=l.length->xgo size 1 l=true->1<=(glA size l k).2∧(glA size l k).2<=421∧xgo size (glA size l k).2 (l.drop k)=true
 |0,_,h=>⟨by simp[glA],by simp[glA],by simpa[glA] using h⟩
 |k+1,hk',h=>by
  have hk:l[k]?=some l[k]:=by simp[show k<l.length by omega]
  obtain⟨q1,q2,q3⟩:=lC_ hs k (by omega) h;rw[al_ hk] at q3;simp only[xgo,Zf,ZU] at q3;obtain⟨⟨⟨h1,h2⟩,h3⟩,h4⟩:=q3;have ha:l[k].d.size<=20:=by simp[Aq] at h1;omega
  rw[da_ hk];exact⟨by simp;omega,by simp;omega,h4⟩
theorem j4_ (size:Int)(a:Option Addr)(n cap:Nat)(l:List Ex)(w:World)(h:A3 w a n l)(hn:n<=60)(hs1:1<=size)(hs2:size<=400)(hx:xgo size 1 l=true):
  Calls prog 150 #[.int .i64 size,.slice a n cap] w fun e w'=>(∃ a' n' cap',e=.returned (.slice a' n' cap')∧Ac ics 1 2 w' w.heap.size a' n' cap' (gl size 1 l))∧Below w.heap.size w w':=by
 have hb:Hid (l.length=n):=h.len;obtain⟨i0,hi,hj,hl,hm⟩:=info_parts Hh;go_enter func150,ntmps150
 go_wp2_with fail
 go_loopw [5,6,7] (fun out nx ix wr=>∃ (k:Nat) (a2:Option Addr) (n2 cap2:Nat),k<=n∧ix=.int .i64 k∧nx=.int .i64 (glA size l k).2∧out=.slice a2 n2 cap2∧n2=k∧Ac ics 1 2 wr w.heap.size a2 n2 cap2 (glA size l k).1∧Below w.heap.size w wr) (fun _ _ ix _=>n-(intOf ix).toNat)
 case atStart=>exact⟨0,_,0,0,Zg _,rfl,rfl,rfl,rfl,aw_ (Blk.new _ _ _) (Zd _),by go_grown⟩
 case round=>
  obtain⟨k,a2,n2,cap2,hk,rfl,rfl,rfl,rfl,R2,hB⟩:=hrel;have hh:=hB.size;obtain⟨q1,q2,q3⟩:=lC_ (k:=n2) hs2 (by rw[hb.out];exact hk) hx;by_cases hlt:n2<n
  ·obtain⟨b,o,p,rfl,hp,c0,c1⟩:=be_ (h.below hB) hlt;have he:Hid (glA size l (n2+1)=((glA size l n2).1++[p.a-(glA size l n2).2],p.a+p.d.size)):=da_ hp;rw[al_ hp] at q3;simp only[xgo,Zf,ZU] at q3;obtain⟨⟨⟨h1,h2⟩,h3⟩,_⟩:=q3;have hr:p.d.size<=20:=by simp[Aq] at h1;omega
   have hu:b<wr.heap.size:=Yk wr _ c0
   have hg:b<w.heap.size:=by
    obtain⟨b',o',p',hq,_,d0,_⟩:=be_ h hlt;obtain⟨rfl,rfl⟩:b=b'∧o=o':=by simpa using hq
    exact Yk w _ d0
   clear hp h1;generalize glA size l n2=G at *;obtain⟨gk,nk⟩:=G;simp only at *;have hs:(n2:Int)<n:=by omega
   have ht:(0:Int)<=n2:=by omega
   go_wp2_with (at_builtin;refine ag_ rfl (fun K hK=>ay_ _ _ 46 rfl w.heap.size 2 i0 (.int .i64 0) 8 underlying46 hi hj hl hm rfl (by decide) mw_ my_ a2 n2 cap2 gk rfl (R2.alloc _) _ 1 1 [p.a-nk] rfl (j3_ _ _ _ _ (by simp)) (fun ad h=>(by cases h;rfl)) (fun h=>(by cases h)) (n2+1) rfl (by unfold maxLen;omega) (by omega) (by simp;omega) (fun a3 cap3 w3 R3 hc=>hK _ _ ?_)))
   have hf:Below w.heap.size w w3:=Yi (hB.alloc hh _) hc (by simp;omega) (aG_ fun ad ha=>(R2.block ad ha).1);have d0:=hc.cell (Ah (.cells #[.int .i64 (p.a-nk)] 2) c0) (at_ (fun ad ha=>(R2.block ad ha).1) hg);have d1:=hc.cell (Ah (.cells #[.int .i64 (p.a-nk)] 2) c1) (at_ (fun ad ha=>(R2.block ad ha).1) hg);clear c0 c1 hK
   go_wp2_with fail
   go_quiet (fail)
   have R4:=R3.below (AZ w3 nq);have ho:=Aa hf (AZ w3 nq);go_wp2;go_roundw
   case rel=>exact⟨n2+1,a3,n2+1,cap3,by omega,by go_num,by rw[he.out],rfl,rfl,by rw[he.out];exact R4,ho⟩
   case measure=>simp[intOf];omega
  ·obtain rfl:n2=n:=by omega
   have he:Hid (gl size 1 l=(glA size l n2).1++[size+1-(glA size l n2).2]):=by
    show _=_;rw[lB_ n2 (by rw[hb.out];omega),Ze (Zm hb.out),gl]
   clear q3;generalize glA size l n2=G at *;obtain⟨gk,nk⟩:=G;simp only at *
   go_wp2_with (at_builtin;refine ag_ rfl (fun K hK=>ay_ _ _ 46 rfl w.heap.size 2 i0 (.int .i64 0) 8 underlying46 hi hj hl hm rfl (by decide) mw_ my_ a2 n2 cap2 gk rfl (R2.alloc _) _ 1 1 [size+1-nk] rfl (j3_ _ _ _ _ (by simp)) (fun ad h=>(by cases h;rfl)) (fun h=>(by cases h)) (n2+1) rfl (by unfold maxLen;omega) (by omega) (by simp;omega) (fun a3 cap3 w3 R3 hc=>hK _ _ ?_)))
   have hf:Below w.heap.size w w3:=Yi (hB.alloc hh _) hc (by simp;omega) (aG_ fun ad ha=>(R2.block ad ha).1);go_returns;exact⟨⟨a3,n2+1,cap3,rfl,by rw[he.out];exact R3⟩,hf⟩
theorem n3_:∀ {L:List Ex} {next:Int},(gl size next L).length=L.length+1
 |[],_=>rfl
 |e::r,next=>by simp[gl,n3_ (L:=r)]
theorem HB (p q:Ow)(w:World):(binOp .eql 105 (.agg #[.int .i64 p.a,.int .i64 p.v,.string p.f]) (.agg #[.int .i64 q.a,.int .i64 q.v,.string q.f])).run prog w=.ok (.bool (Bo p q)) w:=by
 have u2:=underlying2;have u9:=underlying9;have a2:=Tryz.isAgg2;have a9:=Tryz.isAgg9;have z2:=Tryz.sizeOf2;have z9:=Tryz.sizeOf9;have hS:prog.underlying 105=some (.struct (prog.fieldsOf 105)):=by kernel_rfl
 have hp:prog.stoodInHeld 105=false:=by kernel_rfl
 rw[run_eql_struct,show (10000:Nat)=9999+1 from rfl,run_equalIn_agg w 9999 105 _ _ hS hp];simp only[Program.fieldsOf,underlying105];go_simp;unfold Bo;by_cases h1:p.a=q.a<;>by_cases h2:p.v=q.v<;>by_cases h3:p.f.toList=q.f.toList<;>simp[h1,h2,h3]
def CW (c:Ct)(l:List Ct)(k:Nat):List Ct×Bool:=(l.take k).foldl (AP c) ([],false)
theorem nd_ {p:Ct}(h:l[k]?=some p):CW c l (k+1)=AP c (CW c l k) p:=by
 have hk:=(Zb.1 h).1;unfold CW;rw[ZK,h];simp
theorem n4_ (h:l.length=n):B3 c (CW c l n)=Bm l c:=by
 unfold CW;rw[Zk (Zm h),jZ_];rfl
theorem hr_ (a:Option Addr)(n cap:Nat)(l:List Ct)(c:Ct)(w:World)(h:AM w a n l)(hn:n<=4194304)(hb:∀ x∈l,-1000000000000000<=x.n∧x.n<=1000000000000000)(hc:-1000000000000000<=c.n∧c.n<=1000000000000000):
  Calls prog 105 #[.slice a n cap,.agg #[.int .i64 c.o.a,.int .i64 c.o.v,.string c.o.f,.int .i64 c.n]] w fun e w'=>(∃ a' n' cap',e=.returned (.slice a' n' cap')∧n'<=n+1∧Ac Ct.cs 4 107 w' w.heap.size a' n' cap' (Bm l c))∧Below w.heap.size w w':=by
 have hD:Hid (l.length=n):=h.len;obtain⟨i0,hi,hv,hw,hy⟩:=info_parts CK;go_enter func105,ntmps105
 go_wp2_with fail
 go_loopw [5,6,7] (fun out dn ix wr=>∃ (k:Nat) (a2:Option Addr) (n2 cap2:Nat),k<=n∧ix=.int .i64 k∧dn=.bool (CW c l k).2∧out=.slice a2 n2 cap2∧n2<=k+(if (CW c l k).2=true then 1 else 0)∧Ac Ct.cs 4 107 wr (w.heap.size+1) a2 n2 cap2 (CW c l k).1∧AM wr (some ⟨w.heap.size,0,none⟩) 1 [c]∧w.heap.size+1<=wr.heap.size∧Below w.heap.size w wr) (fun _ _ ix _=>n-(intOf ix).toNat)
 case atStart=>exact⟨0,_,0,0,Zg _,rfl,rfl,rfl,Zg _,aw_ (Blk.new' _ _ _ _ (by simp)) (by simp),(cl_ _ c _ _ rfl).alloc _,by simp,by go_grown⟩
 case round=>
  obtain⟨k,a2,n2,cap2,hk,rfl,rfl,rfl,ht,R2,C2,hj,hB⟩:=hrel;have hh:=hB.size;obtain⟨_,_,c',hL,hG,z0,z1,z2,z3⟩:=aN_ C2 (k:=0) (by omega)
  cases hL
  simp at hG;subst hG;simp only[Nat.zero_mul,Nat.add_zero,Zq] at z0 z1 z2 z3;by_cases hlt:k<n
  ·obtain⟨b,o,p,rfl,hp,c0,c1,c2,c3⟩:=aN_ (h.below hB) hlt;have ho:Hid (CW c l (k+1)=AP c (CW c l k) p):=nd_ hp;obtain⟨hO,hP⟩:=hb p (Zc hp);have hm:b<wr.heap.size:=Yk wr _ c0
   have hz:b<w.heap.size:=by
    obtain⟨b',o',p',hJ,_,d0,_⟩:=aN_ h hlt;obtain⟨rfl,rfl⟩:b=b'∧o=o':=by simpa using hJ
    exact Yk w _ d0
   clear hp hb;generalize CW c l k=G at *;obtain⟨gk,d⟩:=G;simp only at *;have hQ:(k:Int)<n:=by omega
   have hR:(0:Int)<=k:=by omega
   cases d
   ·have hE:n2<=k:=by simpa using ht
    clear ht
    cases hl:Bd p.o c.o
    ·have hH:=HB p.o c.o
     cases hA:Bo p.o c.o
     ·have he:Hid (AP c (gk,false) p=(gk++[c]++[p],true)):=by show _=_;simp[AP,hl,hA]
      rw[hA] at hH
      go_wp2_with fail
      have g0:=Ad c0;have g1:=Ad c1;have g2:=Ad c2;have g3:=Ad c3;have k0:=Ad z0;have k1:=Ad z1;have k2:=Ad z2;have k3:=Ad z3;have hr:=aA_ wr;refine ab_ (by kernel_rfl) (by kernel_rfl) ?_
      repeat (go_big_quiet_step (first | (go_at_call 149;have qq:=fun w=>aF_ p.o c.o w;rw[hl] at qq;exact an_ (qq _))))
      refine wpQuiet_nil ?_;intro wq hx;have hq:=ah_ hx;clear hx g0 g1 g2 g3 k0 k1 k2 k3 hr;have hf:=hq.size;replace R2:=R2.below hq;replace hB:=Aa hB hq;replace z0:=Ab hq z0;replace z1:=Ab hq z1;replace z2:=Ab hq z2;replace z3:=Ab hq z3;replace c0:=Ab hq c0;replace c1:=Ab hq c1;replace c2:=Ab hq c2;replace c3:=Ab hq c3;replace hj:=Zl hj hf;replace hm:=Zy hm hf;replace hh:=Zl hh hf;clear hq hf;clear C2
      go_wp2_with fail
      have g0:=Ad c0;have g1:=Ad c1;have g2:=Ad c2;have g3:=Ad c3;have k0:=Ad z0;have k1:=Ad z1;have k2:=Ad z2;have k3:=Ad z3;have hr:=aA_ wq;refine ab_ (by kernel_rfl) (by kernel_rfl) ?_
      repeat (go_big_quiet_step (first | (go_at_call 149;have qq:=fun w=>aF_ p.o c.o w;rw[hl] at qq;exact an_ (qq _))))
      refine wpQuiet_nil ?_;intro wq hx;have hq:=ah_ hx;clear hx g0 g1 g2 g3 k0 k1 k2 k3 hr;have hf:=hq.size;replace R2:=R2.below hq;replace hB:=Aa hB hq;replace z0:=Ab hq z0;replace z1:=Ab hq z1;replace z2:=Ab hq z2;replace z3:=Ab hq z3;replace c0:=Ab hq c0;replace c1:=Ab hq c1;replace c2:=Ab hq c2;replace c3:=Ab hq c3;replace hj:=Zl hj hf;replace hm:=Zy hm hf;replace hh:=Zl hh hf;clear hq hf
      go_wp2_with (first | (at_builtin;refine ag_ rfl (fun K hK=>ay_ _ _ 33 rfl (w.heap.size+1) 107 i0 (.agg #[.int .i64 0,.int .i64 0,.string .empty,.int .i64 0]) 40 underlying33 hi hv hw hy rfl (by decide) aS_ a9_ a2 n2 cap2 gk rfl (R2.alloc _) _ 1 1 [c] rfl (cl_ _ c _ _ (by simp)) (fun ad h=>(by cases h;rfl)) (fun h=>(by cases h)) (n2+1) rfl (by unfold maxLen;omega) (by omega) (by simp;omega) (fun a3 cap3 w3 R3 hg=>hK _ _ ?_));have hs:Below w.heap.size w w3:=Yi (hB.alloc hh _) hg (by simp;omega) (aG_ fun ad ha=>(by have:=(R2.block ad ha).1;omega));have y0:=hg.cell (Ah _ z0) (at_ (fun ad ha=>(R2.block ad ha).1) (ZB _));have y1:=hg.cell (Ah _ z1) (at_ (fun ad ha=>(R2.block ad ha).1) (ZB _));have y2:=hg.cell (Ah _ z2) (at_ (fun ad ha=>(R2.block ad ha).1) (ZB _));have y3:=hg.cell (Ah _ z3) (at_ (fun ad ha=>(R2.block ad ha).1) (ZB _));have hu:w.heap.size+1<=w3.heap.size:=Yk w3 _ y0;have d0:=hg.cell (Ah _ c0) (at_ (fun ad ha=>(R2.block ad ha).1) (Nat.lt_succ_of_lt hz));have d1:=hg.cell (Ah _ c1) (at_ (fun ad ha=>(R2.block ad ha).1) (Nat.lt_succ_of_lt hz));have d2:=hg.cell (Ah _ c2) (at_ (fun ad ha=>(R2.block ad ha).1) (Nat.lt_succ_of_lt hz));have d3:=hg.cell (Ah _ c3) (at_ (fun ad ha=>(R2.block ad ha).1) (Nat.lt_succ_of_lt hz));have hF:=hs.size) | (at_builtin;refine ag_ rfl (fun K hK=>ay_ _ _ 33 rfl (w.heap.size+1) 107 i0 (.agg #[.int .i64 0,.int .i64 0,.string .empty,.int .i64 0]) 40 underlying33 hi hv hw hy rfl (by decide) aS_ a9_ a3 (n2+1) cap3 (gk++[c]) rfl (R3.alloc _) _ 1 1 [p] rfl (cl_ _ p _ _ (by simp)) (fun ad h=>(by cases h;rfl)) (fun h=>(by cases h)) (n2+2) rfl (by unfold maxLen;omega) (by omega) (by simp;omega) (fun a4 cap4 w4 R4 hC=>hK _ _ ?_))))
      have hI:Below w.heap.size w w4:=Yi (hs.alloc hF _) hC (by simp;omega) (aG_ fun ad ha=>(by have:=(R3.block ad ha).1;omega));have x0:=hC.cell (Ah _ y0) (at_ (fun ad ha=>(R3.block ad ha).1) (ZB _));have x1:=hC.cell (Ah _ y1) (at_ (fun ad ha=>(R3.block ad ha).1) (ZB _));have x2:=hC.cell (Ah _ y2) (at_ (fun ad ha=>(R3.block ad ha).1) (ZB _));have x3:=hC.cell (Ah _ y3) (at_ (fun ad ha=>(R3.block ad ha).1) (ZB _));have hM:w.heap.size+1<=w4.heap.size:=Yk w4 _ x0;go_wp2;go_roundw
      case rel=>exact⟨k+1,a4,n2+2,cap4,by omega,by go_num,by rw[ho.out,he.out],rfl,by rw[ho.out,he.out];simp;omega,by rw[ho.out,he.out];exact R4,eM_ x0 x1 x2 x3,hM,hI⟩
      case measure=>simp[intOf];omega
     ·rw[hA] at hH;by_cases hs0:p.n+c.n=0
      ·have he:Hid (AP c (gk,false) p=(gk,true)):=by show _=_;simp[AP,hl,hA,hs0]
       go_wp2_with fail
       have g0:=Ad c0;have g1:=Ad c1;have g2:=Ad c2;have g3:=Ad c3;have k0:=Ad z0;have k1:=Ad z1;have k2:=Ad z2;have k3:=Ad z3;have hr:=aA_ wr;refine ab_ (by kernel_rfl) (by kernel_rfl) ?_
       repeat (go_big_quiet_step (first | (go_at_call 149;have qq:=fun w=>aF_ p.o c.o w;rw[hl] at qq;exact an_ (qq _))))
       refine wpQuiet_nil ?_;intro wq hx;have hq:=ah_ hx;clear hx g0 g1 g2 g3 k0 k1 k2 k3 hr;have hf:=hq.size;replace R2:=R2.below hq;replace hB:=Aa hB hq;replace z0:=Ab hq z0;replace z1:=Ab hq z1;replace z2:=Ab hq z2;replace z3:=Ab hq z3;replace c0:=Ab hq c0;replace c1:=Ab hq c1;replace c2:=Ab hq c2;replace c3:=Ab hq c3;replace hj:=Zl hj hf;replace hm:=Zy hm hf;replace hh:=Zl hh hf;clear hq hf;clear C2
       go_wp2_with fail
       have g0:=Ad c0;have g1:=Ad c1;have g2:=Ad c2;have g3:=Ad c3;have k0:=Ad z0;have k1:=Ad z1;have k2:=Ad z2;have k3:=Ad z3;have hr:=aA_ wq;refine ab_ (by kernel_rfl) (by kernel_rfl) ?_
       repeat (go_big_quiet_step (first | (go_at_call 149;have qq:=fun w=>aF_ p.o c.o w;rw[hl] at qq;exact an_ (qq _))))
       refine wpQuiet_nil ?_;intro wq hx;have hq:=ah_ hx;clear hx g0 g1 g2 g3 k0 k1 k2 k3 hr;have hf:=hq.size;replace R2:=R2.below hq;replace hB:=Aa hB hq;replace z0:=Ab hq z0;replace z1:=Ab hq z1;replace z2:=Ab hq z2;replace z3:=Ab hq z3;replace c0:=Ab hq c0;replace c1:=Ab hq c1;replace c2:=Ab hq c2;replace c3:=Ab hq c3;replace hj:=Zl hj hf;replace hm:=Zy hm hf;replace hh:=Zl hh hf;clear hq hf
       go_wp2_with fail
       have g0:=Ad c0;have g1:=Ad c1;have g2:=Ad c2;have g3:=Ad c3;have k0:=Ad z0;have k1:=Ad z1;have k2:=Ad z2;have k3:=Ad z3;have hr:=aA_ wq;refine ab_ (by kernel_rfl) (by kernel_rfl) ?_
       repeat (go_big_quiet_step (first | (go_at_call 149;have qq:=fun w=>aF_ p.o c.o w;rw[hl] at qq;exact an_ (qq _))))
       refine wpQuiet_nil ?_;intro wq hx;have hq:=ah_ hx;clear hx g0 g1 g2 g3 k0 k1 k2 k3 hr;have hf:=hq.size;replace R2:=R2.below hq;replace hB:=Aa hB hq;replace z0:=Ab hq z0;replace z1:=Ab hq z1;replace z2:=Ab hq z2;replace z3:=Ab hq z3;replace c0:=Ab hq c0;replace c1:=Ab hq c1;replace c2:=Ab hq c2;replace c3:=Ab hq c3;replace hj:=Zl hj hf;replace hm:=Zy hm hf;replace hh:=Zl hh hf;clear hq hf;go_wp2;go_roundw
       case rel=>exact⟨k+1,a2,n2,cap2,by omega,by go_num,by rw[ho.out,he.out],rfl,by rw[ho.out,he.out];simp;omega,by rw[ho.out,he.out];exact R2,eM_ z0 z1 z2 z3,hj,hB⟩
       case measure=>simp[intOf];omega
      ·have he:Hid (AP c (gk,false) p=(gk++[⟨c.o,p.n+c.n⟩],true)):=by show _=_;simp[AP,hl,hA,hs0]
       go_wp2_with fail
       have g0:=Ad c0;have g1:=Ad c1;have g2:=Ad c2;have g3:=Ad c3;have k0:=Ad z0;have k1:=Ad z1;have k2:=Ad z2;have k3:=Ad z3;have hr:=aA_ wr;refine ab_ (by kernel_rfl) (by kernel_rfl) ?_
       repeat (go_big_quiet_step (first | (go_at_call 149;have qq:=fun w=>aF_ p.o c.o w;rw[hl] at qq;exact an_ (qq _))))
       refine wpQuiet_nil ?_;intro wq hx;have hq:=ah_ hx;clear hx g0 g1 g2 g3 k0 k1 k2 k3 hr;have hf:=hq.size;replace R2:=R2.below hq;replace hB:=Aa hB hq;replace z0:=Ab hq z0;replace z1:=Ab hq z1;replace z2:=Ab hq z2;replace z3:=Ab hq z3;replace c0:=Ab hq c0;replace c1:=Ab hq c1;replace c2:=Ab hq c2;replace c3:=Ab hq c3;replace hj:=Zl hj hf;replace hm:=Zy hm hf;replace hh:=Zl hh hf;clear hq hf;clear C2
       go_wp2_with fail
       have g0:=Ad c0;have g1:=Ad c1;have g2:=Ad c2;have g3:=Ad c3;have k0:=Ad z0;have k1:=Ad z1;have k2:=Ad z2;have k3:=Ad z3;have hr:=aA_ wq;refine ab_ (by kernel_rfl) (by kernel_rfl) ?_
       repeat (go_big_quiet_step (first | (go_at_call 149;have qq:=fun w=>aF_ p.o c.o w;rw[hl] at qq;exact an_ (qq _))))
       refine wpQuiet_nil ?_;intro wq hx;have hq:=ah_ hx;clear hx g0 g1 g2 g3 k0 k1 k2 k3 hr;have hf:=hq.size;replace R2:=R2.below hq;replace hB:=Aa hB hq;replace z0:=Ab hq z0;replace z1:=Ab hq z1;replace z2:=Ab hq z2;replace z3:=Ab hq z3;replace c0:=Ab hq c0;replace c1:=Ab hq c1;replace c2:=Ab hq c2;replace c3:=Ab hq c3;replace hj:=Zl hj hf;replace hm:=Zy hm hf;replace hh:=Zl hh hf;clear hq hf
       go_wp2_with fail
       have g0:=Ad c0;have g1:=Ad c1;have g2:=Ad c2;have g3:=Ad c3;have k0:=Ad z0;have k1:=Ad z1;have k2:=Ad z2;have k3:=Ad z3;have hr:=aA_ wq;refine ab_ (by kernel_rfl) (by kernel_rfl) ?_
       repeat (go_big_quiet_step (first | (go_at_call 149;have qq:=fun w=>aF_ p.o c.o w;rw[hl] at qq;exact an_ (qq _))))
       refine wpQuiet_nil ?_;intro wq hx;have hq:=ah_ hx;clear hx g0 g1 g2 g3 k0 k1 k2 k3 hr;have hf:=hq.size;replace R2:=R2.below hq;replace hB:=Aa hB hq;replace z0:=Ab hq z0;replace z1:=Ab hq z1;replace z2:=Ab hq z2;replace z3:=Ab hq z3;replace c0:=Ab hq c0;replace c1:=Ab hq c1;replace c2:=Ab hq c2;replace c3:=Ab hq c3;replace hj:=Zl hj hf;replace hm:=Zy hm hf;replace hh:=Zl hh hf;clear hq hf;have hN:Hid (IntKind.i64.wrap (p.n+c.n)=p.n+c.n):=by show _=_;rw[Ys];omega
       go_wp2_with fail
       go_region_held3 (fun u=>u.cell? ⟨w.heap.size,0,none⟩=some (.int .i64 c.o.a)∧u.cell? ⟨w.heap.size,1,none⟩=some (.int .i64 c.o.v)∧u.cell? ⟨w.heap.size,2,none⟩=some (.string c.o.f)∧u.cell? ⟨w.heap.size,3,none⟩=some (.int .i64 c.n)∧u.cell? ⟨b,o+k*4+3,none⟩=some (.int .i64 p.n)) (go_keep) (first | (refine aJ_ rfl (ay_ _ _ 33 rfl (w.heap.size+1) 107 i0 (.agg #[.int .i64 0,.int .i64 0,.string .empty,.int .i64 0]) 40 underlying33 hi hv hw hy rfl (by decide) aS_ a9_ a2 n2 cap2 gk rfl (R2.below (by go_grown)) _ 1 1 [(⟨c.o,IntKind.i64.wrap (p.n+c.n)⟩:Ct)] rfl (by first | exact cl_ _ (⟨c.o,IntKind.i64.wrap (p.n+c.n)⟩:Ct) _ _ (by first | rfl | simp) | exact (cl_ _ (⟨c.o,IntKind.i64.wrap (p.n+c.n)⟩:Ct) _ _ (by first | rfl | simp)).drew) (fun ad h=>(by cases h;rfl)) (fun h=>(by cases h)) (n2+1) rfl (by unfold maxLen;omega) (by omega) (by first | omega | (simp;omega) | (show w.heap.size+1<=(World.alloc _ _).heap.size;simp;omega)) ?_);intro a3 cap3 w3 R3 hg;have y0:=hg.cell (a:=⟨w.heap.size,0,none⟩) (by first | exact Ah _ z0 | exact Ah _ (Ah _ z0)) (at_ (fun ad ha=>(R2.block ad ha).1) (ZB _));have y1:=hg.cell (a:=⟨w.heap.size,1,none⟩) (by first | exact Ah _ z1 | exact Ah _ (Ah _ z1)) (at_ (fun ad ha=>(R2.block ad ha).1) (ZB _));have y2:=hg.cell (a:=⟨w.heap.size,2,none⟩) (by first | exact Ah _ z2 | exact Ah _ (Ah _ z2)) (at_ (fun ad ha=>(R2.block ad ha).1) (ZB _));have y3:=hg.cell (a:=⟨w.heap.size,3,none⟩) (by first | exact Ah _ z3 | exact Ah _ (Ah _ z3)) (at_ (fun ad ha=>(R2.block ad ha).1) (ZB _));have yb:=hg.cell (a:=⟨b,o+k*4+3,none⟩) (by first | exact Ah _ c3 | exact Ah _ (Ah _ c3)) (at_ (fun ad ha=>(R2.block ad ha).1) (Nat.lt_succ_of_lt hz))))
       have hs:Below w.heap.size w w3:=Yi (Aa hB (by go_grown)) hg (by first | omega | (simp;omega)) (aG_ fun ad ha=>(by have:=(R2.block ad ha).1;omega));have hu:w.heap.size+1<=w3.heap.size:=Yk w3 _ y0;rw[hN.out] at R3;go_wp2;go_roundw
       case rel=>exact⟨k+1,a3,n2+1,cap3,by omega,by go_num,by rw[ho.out,he.out],rfl,by rw[ho.out,he.out];simp;omega,by rw[ho.out,he.out];exact R3,eM_ y0 y1 y2 y3,hu,hs⟩
       case measure=>simp[intOf];omega
    ·have he:Hid (AP c (gk,false) p=(gk++[p],false)):=by show _=_;simp[AP,hl]
     go_wp2_with fail
     have g0:=Ad c0;have g1:=Ad c1;have g2:=Ad c2;have g3:=Ad c3;have k0:=Ad z0;have k1:=Ad z1;have k2:=Ad z2;have k3:=Ad z3;have hr:=aA_ wr;refine ab_ (by kernel_rfl) (by kernel_rfl) ?_
     repeat (go_big_quiet_step (first | (go_at_call 149;have qq:=fun w=>aF_ p.o c.o w;rw[hl] at qq;exact an_ (qq _))))
     refine wpQuiet_nil ?_;intro wq hx;have hq:=ah_ hx;clear hx g0 g1 g2 g3 k0 k1 k2 k3 hr;have hf:=hq.size;replace R2:=R2.below hq;replace hB:=Aa hB hq;replace z0:=Ab hq z0;replace z1:=Ab hq z1;replace z2:=Ab hq z2;replace z3:=Ab hq z3;replace c0:=Ab hq c0;replace c1:=Ab hq c1;replace c2:=Ab hq c2;replace c3:=Ab hq c3;replace hj:=Zl hj hf;replace hm:=Zy hm hf;replace hh:=Zl hh hf;clear hq hf;clear C2
     go_wp2_with (at_builtin;refine ag_ rfl (fun K hK=>ay_ _ _ 33 rfl (w.heap.size+1) 107 i0 (.agg #[.int .i64 0,.int .i64 0,.string .empty,.int .i64 0]) 40 underlying33 hi hv hw hy rfl (by decide) aS_ a9_ a2 n2 cap2 gk rfl (R2.alloc _) _ 1 1 [p] rfl (cl_ _ p _ _ (by simp)) (fun ad h=>(by cases h;rfl)) (fun h=>(by cases h)) (n2+1) rfl (by unfold maxLen;omega) (by omega) (by simp;omega) (fun a3 cap3 w3 R3 hg=>hK _ _ ?_)))
     have hs:Below w.heap.size w w3:=Yi (hB.alloc hh _) hg (by simp;omega) (aG_ fun ad ha=>(by have:=(R2.block ad ha).1;omega));have y0:=hg.cell (Ah _ z0) (at_ (fun ad ha=>(R2.block ad ha).1) (ZB _));have y1:=hg.cell (Ah _ z1) (at_ (fun ad ha=>(R2.block ad ha).1) (ZB _));have y2:=hg.cell (Ah _ z2) (at_ (fun ad ha=>(R2.block ad ha).1) (ZB _));have y3:=hg.cell (Ah _ z3) (at_ (fun ad ha=>(R2.block ad ha).1) (ZB _));have hu:w.heap.size+1<=w3.heap.size:=Yk w3 _ y0;go_wp2;go_roundw
     case rel=>exact⟨k+1,a3,n2+1,cap3,by omega,by go_num,by rw[ho.out,he.out],rfl,by rw[ho.out,he.out];simp;omega,by rw[ho.out,he.out];exact R3,eM_ y0 y1 y2 y3,hu,hs⟩
     case measure=>simp[intOf];omega
   ·have he:Hid (AP c (gk,true) p=(gk++[p],true)):=by show _=_;simp[AP]
    have hE:n2<=k+1:=by simpa using ht
    clear ht
    go_wp2_with fail
    go_quiet (fail)
    have hq:=AZ wr nq;have hf:=hq.size;replace R2:=R2.below hq;replace hB:=Aa hB hq;replace z0:=Ab hq z0;replace z1:=Ab hq z1;replace z2:=Ab hq z2;replace z3:=Ab hq z3;replace c0:=Ab hq c0;replace c1:=Ab hq c1;replace c2:=Ab hq c2;replace c3:=Ab hq c3;replace hj:=Zl hj hf;replace hm:=Zy hm hf;replace hh:=Zl hh hf;clear hq hf C2;generalize wr.drewN nq=wq at *
    go_wp2_with (at_builtin;refine ag_ rfl (fun K hK=>ay_ _ _ 33 rfl (w.heap.size+1) 107 i0 (.agg #[.int .i64 0,.int .i64 0,.string .empty,.int .i64 0]) 40 underlying33 hi hv hw hy rfl (by decide) aS_ a9_ a2 n2 cap2 gk rfl (R2.alloc _) _ 1 1 [p] rfl (cl_ _ p _ _ (by simp)) (fun ad h=>(by cases h;rfl)) (fun h=>(by cases h)) (n2+1) rfl (by unfold maxLen;omega) (by omega) (by simp;omega) (fun a3 cap3 w3 R3 hg=>hK _ _ ?_)))
    have hs:Below w.heap.size w w3:=Yi (hB.alloc hh _) hg (by simp;omega) (aG_ fun ad ha=>(by have:=(R2.block ad ha).1;omega));have y0:=hg.cell (Ah _ z0) (at_ (fun ad ha=>(R2.block ad ha).1) (ZB _));have y1:=hg.cell (Ah _ z1) (at_ (fun ad ha=>(R2.block ad ha).1) (ZB _));have y2:=hg.cell (Ah _ z2) (at_ (fun ad ha=>(R2.block ad ha).1) (ZB _));have y3:=hg.cell (Ah _ z3) (at_ (fun ad ha=>(R2.block ad ha).1) (ZB _));have hu:w.heap.size+1<=w3.heap.size:=Yk w3 _ y0;go_wp2;go_roundw
    case rel=>exact⟨k+1,a3,n2+1,cap3,by omega,by go_num,by rw[ho.out,he.out],rfl,by rw[ho.out,he.out];simp;omega,by rw[ho.out,he.out];exact R3,eM_ y0 y1 y2 y3,hu,hs⟩
    case measure=>simp[intOf];omega
  ·obtain rfl:k=n:=by omega
   have ho:Hid (B3 c (CW c l k)=Bm l c):=n4_ hD.out;generalize CW c l k=G at *;obtain⟨gk,d⟩:=G;simp only at *
   cases d
   ·have he:Hid (B3 c (gk,false)=gk++[c]):=by show _=_;simp[B3]
    have hE:n2<=k:=by simpa using ht
    clear ht C2
    go_wp2_with (at_builtin;refine ag_ rfl (fun K hK=>ay_ _ _ 33 rfl (w.heap.size+1) 107 i0 (.agg #[.int .i64 0,.int .i64 0,.string .empty,.int .i64 0]) 40 underlying33 hi hv hw hy rfl (by decide) aS_ a9_ a2 n2 cap2 gk rfl (R2.alloc _) _ 1 1 [c] rfl (cl_ _ c _ _ (by simp)) (fun ad h=>(by cases h;rfl)) (fun h=>(by cases h)) (n2+1) rfl (by unfold maxLen;omega) (by omega) (by simp;omega) (fun a3 cap3 w3 R3 hg=>hK _ _ ?_)))
    have hs:Below w.heap.size w w3:=Yi (hB.alloc hh _) hg (by simp;omega) (aG_ fun ad ha=>(by have:=(R2.block ad ha).1;omega));go_wp2;go_returns;exact⟨⟨a3,n2+1,cap3,rfl,by omega,by rw[<-ho.out,he.out];exact R3.mono (by omega)⟩,hs⟩
   ·have he:Hid (B3 c (gk,true)=gk):=by show _=_;simp[B3]
    have hE:n2<=k+1:=by simpa using ht
    clear ht;go_wp2;go_returns;exact⟨⟨a2,n2,cap2,rfl,by omega,by rw[<-ho.out,he.out];exact R2.mono (by omega)⟩,hB⟩
theorem fp_ {B D:Int}(hB:0<=B)(hD:0<=D)(h1:-D<=c.n)(h2:c.n<=D):∀ {l:List Ct},(∀ x∈l,-B<=x.n∧x.n<=B)->∀ x∈Bm l c,-(B+D)<=x.n∧x.n<=B+D
 |[],_=>by intro x hx;simp[Bm] at hx;subst hx;omega
 |y::r,h=>by
  have hy:=h y (by simp);have hr:∀ x∈r,-B<=x.n∧x.n<=B:=fun x hx=>h x (by simp[hx]);have ha:∀ x∈r,-(B+D)<=x.n∧x.n<=B+D:=fun x hx=>by have:=hr x hx;omega
  unfold Bm;split
  ·intro x hx;rcases Zn.1 hx with rfl | hx
   ·omega
   ·exact fp_ hB hD h1 h2 hr x hx
  ·split
   ·split
    ·intro x hx;rcases Zn.1 hx with rfl | hx
     ·simp only;omega
     ·exact ha x hx
    ·exact ha
   ·intro x hx;rcases Zn.1 hx with rfl | hx
    ·omega
    ·rcases Zn.1 hx with rfl | hx
     ·omega
     ·exact ha x hx
theorem lD_ {B:Int}(hB:0<=B)(h1:-1000<=c.n)(h2:c.n<=1000)(h:∀ x∈l,-B<=x.n∧x.n<=B):∀ x∈Bm l c,-(B+1000)<=x.n∧x.n<=B+1000:=fp_ hB (by omega) h1 h2 h
def C8 (l more:List Ct)(k:Nat):List Ct:=(more.take k).foldl Bm l
theorem ne_ {p:Ct}(h:more[k]?=some p):C8 l more (k+1)=Bm (C8 l more k) p:=by
 unfold C8;rw[ZK,h];simp
theorem n5_ (h:more.length=n):C8 l more n=AQ l more:=by
 unfold C8 AQ;rw[Zk (Zm h)]
theorem cJ_ (a:Option Addr)(n cap:Nat)(l:List Ct)(a':Option Addr)(n' cap':Nat)(more:List Ct)(w:World)(h:AM w a n l)(ha1:∀ ad,a=some ad->ad.spot=none)(ha2:a=none->cap=0)(h':AM w a' n' more)(hn:n<=100000)(hn':n'<=100000)(hb:∀ x∈l,-100000000<=x.n∧x.n<=100000000)(hb':∀ x∈more,-100000000<=x.n∧x.n<=100000000):
  Calls prog 63 #[.slice a n cap,.slice a' n' cap'] w fun e w'=>(∃ a2 n2 cap2,e=.returned (.slice a2 n2 cap2)∧n2<=n+n'∧Ac Ct.cs 4 107 w' w.heap.size a2 n2 cap2 (AQ l more))∧Below w.heap.size w w':=by
 have hs:Hid (l.length=n):=h.len;have ha:Hid (more.length=n'):=h'.len;obtain⟨i0,hi,hv,hw,hy⟩:=info_parts CK;go_enter func63,ntmps63
 go_wp2_with (at_builtin;refine ag_ rfl (fun K hK=>ay_ _ _ 33 rfl w.heap.size 107 i0 (.agg #[.int .i64 0,.int .i64 0,.string .empty,.int .i64 0]) 40 underlying33 hi hv hw hy rfl (by decide) aS_ a9_ _ 0 0 [] rfl (aw_ (Blk.new' _ _ _ _ (by simp)) (by simp)) a n cap l rfl (h.alloc _) ha1 ha2 n (Zq _) (by unfold maxLen;omega) (by omega) (by simp) (fun a1 cap1 w1 hg hr=>hK _ _ ?_)))
 have hh:Below w.heap.size w w1:=Yi (by go_grown) hr (by simp) (fun k e=>by simp[Value.ownBlock] at e;omega);rw[ZM] at hg
 go_loopw [5,6] (fun out ix wr=>∃ (k:Nat) (a2:Option Addr) (n2 cap2:Nat),k<=n'∧ix=.int .i64 k∧out=.slice a2 n2 cap2∧n2<=n+k∧Ac Ct.cs 4 107 wr w.heap.size a2 n2 cap2 (C8 l more k)∧(∀ x∈C8 l more k,-(100000000+100000000*(k:Int))<=x.n∧x.n<=100000000+100000000*(k:Int))∧Below w.heap.size w wr) (fun _ ix _=>n'-(intOf ix).toNat)
 case atStart=>exact⟨0,_,n,cap1,Zg _,rfl,rfl,by omega,hg,by simpa[C8] using hb,hh⟩
 case round=>
  obtain⟨k,a2,n2,cap2,hk,rfl,rfl,ht,R2,hf,hB⟩:=hrel;have hu:=hB.size;by_cases hlt:k<n'
  ·obtain⟨b,o,p,rfl,hp,c0,c1,c2,c3⟩:=aN_ (h'.below hB) hlt;have hc:Hid (C8 l more (k+1)=Bm (C8 l more k) p):=ne_ hp;obtain⟨hm,ho⟩:=hb' p (Zc hp);have hq:=fp_ (B:=100000000+100000000*(k:Int)) (D:=100000000) (by omega) (by omega) hm ho hf;have he:∀ x∈C8 l more k,-1000000000000000<=x.n∧x.n<=1000000000000000:=fun x hx=>by have:=hf x hx;omega
   clear hp;generalize C8 l more k=G at *;have hz:(k:Int)<n':=by omega
   have hA:(0:Int)<=k:=by omega
   go_wp2_with fail
   refine (hr_ a2 n2 cap2 G p wr R2.sl (by omega) he ⟨by omega,by omega⟩).mono ?_;rintro e w3 ⟨⟨a3,n3,cap3,rfl,hC,R3⟩,hj⟩;have hl:=Aa hB hj;go_wp2;go_roundw
   case rel=>exact⟨k+1,a3,n3,cap3,by omega,by go_num,rfl,by omega,by rw[hc.out];exact R3.mono hu,by rw[hc.out];intro x hx;have:=hq x hx;omega,hl⟩
   case measure=>simp[intOf];omega
  ·obtain rfl:k=n':=by omega
   have hc:Hid (C8 l more k=AQ l more):=n5_ ha.out;go_wp2;go_returns;exact⟨⟨a2,n2,cap2,rfl,ht,by rw[<-hc.out];exact R2⟩,hB⟩
theorem hs_ (a:Option Addr)(n cap:Nat)(l:List Ct)(a':Option Addr)(n' cap':Nat)(more:List Ct)(w:World)(h:AM w a n l)(ha1:∀ ad,a=some ad->ad.spot=none)(ha2:a=none->cap=0)(h':AM w a' n' more)(hn:n<=200)(hn':n'<=200)(hb:∀ x∈l,-1000<=x.n∧x.n<=1000)(hb':∀ x∈more,-1000<=x.n∧x.n<=1000):
  Calls prog 63 #[.slice a n cap,.slice a' n' cap'] w fun e w'=>(∃ a2 n2 cap2,e=.returned (.slice a2 n2 cap2)∧n2<=n+n'∧Ac Ct.cs 4 107 w' w.heap.size a2 n2 cap2 (AQ l more))∧Below w.heap.size w w':=
 cJ_ a n cap l a' n' cap' more w h ha1 ha2 h' (by omega) (by omega) (fun x hx=>by have:=hb x hx;omega) (fun x hx=>by have:=hb' x hx;omega)
def Dr (c:UInt8):Bool:=decide (97<=(c.toNat:Int))&&decide ((c.toNat:Int)<=122)
def nameB (d:ByteArray):Bool:=decide (1<=d.size)&&decide (d.size<=8)&&d.data.toList.all Dr
theorem bT_ (d:ByteArray)(w:World)(hd:d.size<=9223372036854775807):
  Calls prog 141 #[.string d] w fun e w'=>e=.returned (.bool (nameB d))∧w'=w:=by
 by_cases h1:1<=d.size∧d.size<=8
 ·have ha:Hid (nameB d=(d.data.toList.drop 0).all Dr):=by show _=_;simp[nameB,h1]
  obtain⟨h1,he⟩:=h1;go_enter func141,ntmps141
  go_wp2_with fail
  go_loop [14] (fun ix=>∃ (k:Nat),k<=d.size∧ix=.int .i64 k∧Hid (nameB d=(d.data.toList.drop k).all Dr)) (fun ix=>d.size-(intOf ix).toNat)
  case atStart=>exact⟨0,Zg _,rfl,ha⟩
  case round=>
   obtain⟨k,hk,rfl,hI⟩:=hrel;by_cases hlt:k<d.size
   ·have hs:Hid (d.data.toList.drop k=d[k]::d.data.toList.drop (k+1)):=fH_ d k hlt
    cases hc:Dr d[k]
    ·have hb:(d[k].toNat:Int)<97∨122<(d[k].toNat:Int):=by simp[Dr] at hc;omega
     go_wp2
     all_goals go_returns
     all_goals go_light
     all_goals (refine⟨ac_ ?_,rfl⟩;rw[hI.out,hs.out];simp[hc])
    ·have hb:97<=(d[k].toNat:Int)∧(d[k].toNat:Int)<=122:=by simp[Dr] at hc;omega
     obtain⟨hf,hg⟩:=hb;go_wp2;go_round
     case rel=>exact⟨k+1,by omega,by go_num,by show _=_;rw[hI.out,hs.out];simp[hc]⟩
     case measure=>simp[intOf];omega
   ·obtain rfl:k=d.size:=by omega
    go_wp2;go_returns;go_light;refine⟨ac_ ?_,rfl⟩;rw[hI.out,Ze (by simp)];rfl
 ·have ha:Hid (nameB d=false):=by show _=_;simp[nameB];omega
  go_enter func141,ntmps141;go_wp2
  all_goals go_returns
  all_goals go_light
  all_goals exact⟨ac_ ha.out.symm,rfl⟩
theorem aq_ (d:ByteArray)(w:World)(hd:d.size<=9223372036854775807):
  Calls prog 100 #[.string d] w fun e w'=>e=.returned (.bool (nameB d))∧w'=w:=by
 by_cases h1:1<=d.size∧d.size<=8
 ·have ha:Hid (nameB d=(d.data.toList.drop 0).all Dr):=by show _=_;simp[nameB,h1]
  obtain⟨h1,he⟩:=h1;go_enter func100,ntmps100
  go_wp2_with fail
  go_loop [3] (fun ix=>∃ (k:Nat),k<=d.size∧ix=.int .i64 k∧Hid (nameB d=(d.data.toList.drop k).all Dr)) (fun ix=>d.size-(intOf ix).toNat)
  case atStart=>exact⟨0,Zg _,rfl,ha⟩
  case round=>
   obtain⟨k,hk,rfl,hI⟩:=hrel;by_cases hlt:k<d.size
   ·have hs:Hid (d.data.toList.drop k=d[k]::d.data.toList.drop (k+1)):=fH_ d k hlt
    cases hc:Dr d[k]
    ·have hb:(d[k].toNat:Int)<97∨122<(d[k].toNat:Int):=by simp[Dr] at hc;omega
     go_wp2
     all_goals go_returns
     all_goals go_light
     all_goals (refine⟨ac_ ?_,rfl⟩;rw[hI.out,hs.out];simp[hc])
    ·have hb:97<=(d[k].toNat:Int)∧(d[k].toNat:Int)<=122:=by simp[Dr] at hc;omega
     obtain⟨hf,hg⟩:=hb;go_wp2;go_round
     case rel=>exact⟨k+1,by omega,by go_num,by show _=_;rw[hI.out,hs.out];simp[hc]⟩
     case measure=>simp[intOf];omega
   ·obtain rfl:k=d.size:=by omega
    go_wp2;go_returns;go_light;refine⟨ac_ ?_,rfl⟩;rw[hI.out,Ze (by simp)];rfl
 ·have ha:Hid (nameB d=false):=by show _=_;simp[nameB];omega
  go_enter func100,ntmps100;go_wp2
  all_goals go_returns
  all_goals go_light
  all_goals exact⟨ac_ ha.out.symm,rfl⟩
end Go.Proofs.YtbbhcnjhohidnaaGreatDoor
