/- Texts of pools, read and written; what is drawn. -/
import Derived.Test.YteejlahappbalaaGreatDoorU42
import Derived.Test.YteejlahappbalaaGreatDoorU45
set_option maxHeartbeats 20000000
set_option maxRecDepth 100000
namespace Go.Proofs.YteejlahappbalaaGreatDoor
section
open Go Go.RowKit Tryz
theorem GQ {α:Type}(f:α->Bool):∀ (l:List α) (p:Nat) (y:α),l[p]?=some y->f y=false->(∀ (j:Nat) (x:α),j≠p->l[j]?=some x->f x=true)->l.filter f=l.eraseIdx p
 |[],p,y,h,_,_=>by simp at h
 |x::r,0,y,h,hy,hall=>by
  simp at h
  subst h
  have hr:r.filter f=r:=YA.2 fun z hz=>by
   obtain⟨i,hi⟩:=List.mem_iff_getElem?.1 hz
   exact hall (i+1) z sH rL
  simp[hy,hr]
 |x::r,p+1,y,h,hy,hall=>by
  have hx:=hall 0 x sH rfl
  have ih:=GQ f r p y sP hy (fun j z hj hz=>hall (j+1) z sH fy)
  simp[hx,ih]
theorem JP {l:List Hy}(hs:Bo l){s:ByteArray}(hh:B3 l s=false):Ea s (l.map Am)=l.map Am:=by
 refine YA.2 fun z hz=>?_;obtain⟨y,hy,rfl⟩:=ZT.1 hz;obtain⟨j,hj⟩:=List.mem_iff_getElem?.1 hy;by_cases he:y.nm.toList=s.toList
 ·rw[My hs hj he] at hh;cases hh
 ·simpa [Am] using he
theorem Qq {l:List Hy}(hs:Bo l){s:ByteArray}(hh:B3 l s=true):Ea s (l.map Am)=(l.eraseIdx (plH l s)).map Am:=by
 obtain⟨y,hy,he⟩:∃ y,l[plH l s]?=some y∧y.nm.toList=s.toList:=by
  exact mr
 unfold Ea;rw[List.filter_map,GQ _ l (plH l s) y hy (by simp[Am,he]) (fun j x hj hx=>?_)];by_cases h:x.nm.toList=s.toList
 ·exact absurd (ML hs hx h).symm hj
 ·simpa [Am] using h
theorem Bo.erase {l:List Hy}(hs:Bo l)(p:Nat):Bo (l.eraseIdx p):=by
 intro i j x y ha hx hy;obtain⟨i1,g1,_,e1⟩:=Dm hx;obtain⟨j1,g2,_,e2⟩:=Dm hy;exact hs i1 j1 x y (by split at e1<;>split at e2<;>omega) g1 g2
theorem Uy {l:List Hy}(hs:Bo l)(y:Hy)(hh:B3 l y.nm=false):CO (Am y) (l.map Am)=(l.take (plH l y.nm)++[y]++l.drop (plH l y.nm)).map Am:=by
 unfold CO;rw[Th,ZM];have h1:=d5_ (fun z:Hy=>bl z.nm.toList y.nm.toList) l;have hc:((l.map Am).dropWhile (fun z=>bl z.nm.toList (Am y).nm.toList)).filter (fun z=>!(z.nm.toList==(Am y).nm.toList))=(l.map Am).dropWhile (fun z=>bl z.nm.toList (Am y).nm.toList):=by
  refine YA.2 fun z hz=>?_;have ha:=(List.dropWhile_suffix _).subset hz;have:=JP hs hh;unfold Ea at this;exact YA.1 this z ha
 rw[hc,List.takeWhile_map,List.dropWhile_map,List.map_append,List.map_append];show _=List.map Am (l.take (plH l y.nm))++[Am y]++List.map Am (l.drop (plH l y.nm));unfold plH;rw[h1.1,h1.2];rfl
theorem OA:∀ (X:List (List UInt8)),Lib.join X []=X.flatten
 |[]=>rfl
 |x::r=>by
  rw[Lib.join_cons]
  have h:∀ R:List (List UInt8),Lib.joinTail [] R=R.flatten:=fun R=>by
   induction R with
   |nil=>rfl
   |cons y s ih=>simp[Lib.joinTail] at ih ⊢
  rw[h];simp
theorem IC (ps:List ByteArray):(DC ps).data.toList=(ps.map (·.data.toList)).flatten:=by
 unfold DC;rw[OA]
theorem ID (ps:List ByteArray)(d:ByteArray):DC (ps++[d])=DC ps++d:=by
 apply ByteArray.ext;apply Array.toList_inj.1;rw[IC,ByteArray.data_append,Array.toList_append,IC];simp
def Ce (l:List Hy)(s:ByteArray):List Hy:=if B3 l s=true then l.eraseIdx (plH l s) else l
def DI (l:List Hy)(s:ByteArray):List ByteArray:=if B3 l s=true then (match l[plH l s]? with | some y=>y.ps | none=>[]) else []
def HD (l:List Hy)(y:Hy):List Hy:=l.take (plH l y.nm)++[y]++l.drop (plH l y.nm)
def KW (l:List Hy)(nm d:ByteArray):List Hy:=HD (Ce l nm) ⟨nm,DI l nm++[d]⟩
def L6 (l:List Hy)(nm tt:ByteArray):List Hy:=HD (Ce (Ce l nm) tt) ⟨tt,DI l nm⟩
def doH (l:List Hy)(o:Dp):List Hy×Bool:=
 if o.k=1 then (KW l o.nm o.d,true) else if B3 l o.nm=true then ((if o.k=2 then L6 l o.nm o.tt else Ce l o.nm),true) else (l,false)
theorem Iv {l:List Hy}{s:ByteArray}(hh:B3 l s=true):∃ y,l[plH l s]?=some y∧y.nm.toList=s.toList:=by
 exact mr
theorem FM {l:List Hy}(hs:Bo l)(s:ByteArray):(Ce l s).map Am=Ea s (l.map Am):=by
 unfold Ce;split
 ·rename_i h;rw[Qq hs h]
 ·rename_i h;rw[JP hs sP]
theorem Bt {l:List Hy}(hs:Bo l)(s:ByteArray):Bo (Ce l s):=by
 unfold Ce;split
 ·exact hs.erase _
 ·exact hs
theorem Ia {l:List Hy}(hs:Bo l)(s:ByteArray):B3 (Ce l s) s=false:=by
 cases h:B3 (Ce l s) s
 ·rfl
 ·obtain⟨y,hy,he⟩:=Iv h;have hm:Am y∈(Ce l s).map Am:=ZT.2 ⟨y,Zc hy,rfl⟩;rw[FM hs] at hm;have:=(YG.1 hm).2;simp[Am,he] at this
theorem G8 {l:List Hy}{s:ByteArray}:∀ y∈Ce l s,y∈l:=by
 intro y hy;unfold Ce at hy;split at hy
 ·exact List.mem_of_mem_eraseIdx hy
 ·exact hy
theorem FN (l:List Hy)(s:ByteArray):(Ce l s).length<=l.length:=by
 unfold Ce;split
 ·exact List.length_eraseIdx_le _ _
 ·exact Zd _
theorem putH_mem {l:List Hy}{y:Hy}:∀ z∈HD l y,z=y∨z∈l:=by
 intro z hz;unfold HD at hz;simp only[Zs,YP] at hz;rcases hz with (h | h) | h
 ·exact .inr (ZX h)
 ·exact .inl h
 ·exact .inr (List.mem_of_mem_drop h)
theorem LY (l:List Hy)(y:Hy):(HD l y).length=l.length+1:=by
 have hp:plH l y.nm<=l.length:=by unfold plH;exact (List.takeWhile_sublist _).length_le
 unfold HD;simp;omega
theorem LW {l:List Hy}(hs:Bo l)(x:Fl):CO x (Ea x.nm (l.map Am))=CO x (l.map Am):=by
 have h1:=d5_ (fun z:Hy=>bl z.nm.toList x.nm.toList) l;have hD:∀ y∈l.dropWhile (fun z:Hy=>bl z.nm.toList x.nm.toList),bl y.nm.toList x.nm.toList=false:=by
  intro y hy;obtain⟨i,hi⟩:=List.mem_iff_getElem?.1 hy;obtain⟨z,hz⟩:∃ z,(l.dropWhile (fun z:Hy=>bl z.nm.toList x.nm.toList))[0]?=some z:=by
   have hf:=(Zb.1 hi).1;exact⟨_,ZI sH⟩
  have hc:=Km (fun z:Hy=>bl z.nm.toList x.nm.toList) l z hz;rw[<-h1.2,List.getElem?_drop] at hi hz;exact hs.hi hz hc _ y sH hi
 have hT:∀ y∈l.takeWhile (fun z:Hy=>bl z.nm.toList x.nm.toList),bl y.nm.toList x.nm.toList=true:=fun y hy=>Nc (fun z:Hy=>bl z.nm.toList x.nm.toList) l y hy;have ha:=List.takeWhile_append_dropWhile (p:=fun z:Hy=>bl z.nm.toList x.nm.toList) (l:=l);generalize l.takeWhile (fun z:Hy=>bl z.nm.toList x.nm.toList)=T at *;generalize l.dropWhile (fun z:Hy=>bl z.nm.toList x.nm.toList)=D at *;subst ha;have fT:(T.map Am).filter (fun y=>!(y.nm.toList==x.nm.toList))=T.map Am:=YA.2 fun z hz=>by
  obtain⟨y,hy,rfl⟩:=ZT.1 hz;have hb:=hT y hy;by_cases he:y.nm.toList=x.nm.toList
  ·rw[he,cn_] at hb;cases hb
  ·simpa [Am] using he
 have key:∀ (A B:List Fl),(∀ y∈A,bl y.nm.toList x.nm.toList=true)->(∀ y∈B,bl y.nm.toList x.nm.toList=false)->CO x (A++B)=A++[x]++B.filter (fun y=>!(y.nm.toList==x.nm.toList)):=by
  intro A B hA hB;have e1:(A++B).takeWhile (fun y=>bl y.nm.toList x.nm.toList)=A:=by
   rw[List.takeWhile_append_of_pos hA]
   cases B with
   |nil=>simp
   |cons b r=>rw[List.takeWhile_cons,hB b sK];simp
  have e2:(A++B).dropWhile (fun y=>bl y.nm.toList x.nm.toList)=B:=by
   rw[List.dropWhile_append_of_pos hA]
   cases B with
   |nil=>simp
   |cons b r=>rw[List.dropWhile_cons,hB b sK];simp
  unfold CO;rw[Th,ZM,e1,e2]
 have hA:∀ y∈T.map Am,bl y.nm.toList x.nm.toList=true:=fun z hz=>by
  obtain⟨y,hy,rfl⟩:=ZT.1 hz;exact hT y hy
 have hB:∀ y∈D.map Am,bl y.nm.toList x.nm.toList=false:=fun z hz=>by
  obtain⟨y,hy,rfl⟩:=ZT.1 hz;exact hD y hy
 unfold Ea;rw[List.map_append,YR,fT,key _ _ hA hB,key _ _ hA (fun y hy=>hB y (YG.1 hy).1),List.filter_filter];simp
theorem Uc {l:List Hy}(hs:Bo l)(s:ByteArray):atF (l.map Am) s=if B3 l s=true then some (plH l s) else none:=by
 unfold atF;split
 ·rename_i hh;obtain⟨y,hy,he⟩:=Iv hh;have hlt:=(Zb.1 hy).1;rw[ZA];refine ⟨rV,?_,fun j hj=>?_⟩
  ·have:(l.map Am)[plH l s]'rV=Am y:=by
    rw[List.getElem_map];congr 1;exact (Zb.1 hy).2
   rw[this];simpa [Am] using he
  ·have hb:j<l.length:=sH;rw[List.getElem_map];have hf:l[j]?=some l[j]:=by simp[hb]
   intro hc;have ha:(l[j]).nm.toList=s.toList:=by simpa [Am] using hc
   have:=ML hs hf ha;omega
 ·rename_i hh;rw[YL];intro z hz;obtain⟨y,hy,rfl⟩:=ZT.1 hz;obtain⟨j,hj⟩:=List.mem_iff_getElem?.1 hy;by_cases he:y.nm.toList=s.toList
  ·exact absurd (My hs hj he) hh
  ·simpa [Am] using he
theorem Na (nm:ByteArray)(ps:List ByteArray)(d:ByteArray):Am ⟨nm,ps++[d]⟩=⟨nm,DC ps++d⟩:=by
 unfold Am;rw[ID]
theorem JN:DC []=⟨#[]⟩:=rfl
theorem JX {l:List Hy}(hs:Bo l)(y:Hy)(hh:B3 l y.nm=false):(HD l y).map Am=CO (Am y) (l.map Am):=(Uy hs y hh).symm
theorem LZ {l:List Hy}(hs:Bo l)(y:Hy)(hh:B3 l y.nm=false):Bo (HD l y):=hs.put y hh
theorem Nu (d:ByteArray):(⟨#[]⟩:ByteArray)++d=d:=by
 apply ByteArray.ext;simp[ByteArray.data_append]
theorem Ug {l:List Hy}(hs:Bo l)(o:Dp):doF (l.map Am) o=((doH l o).1.map Am,(doH l o).2):=by
 unfold doF doH;rw[Uc hs];have hA:(KW l o.nm o.d).map Am=CO ⟨o.nm,DC (DI l o.nm)++o.d⟩ (l.map Am):=by
  unfold KW;rw[JX (Bt hs _) ⟨o.nm,DI l o.nm++[o.d]⟩ (Ia hs _),Na,FM hs,LW hs ⟨o.nm,_⟩]
 cases hh:B3 l o.nm
 ·have hp:DI l o.nm=[]:=by simp[DI,hh]
  rw[hp,JN,Nu] at hA;by_cases hk:o.k=1
  ·simp[hk,hA]
  ·simp[hk]
 ·obtain⟨y,hy,he⟩:=Iv hh;have hp:DI l o.nm=y.ps:=by simp[DI,hh,hy]
  rw[hp] at hA;simp only[if_true,List.getElem?_map,hy,Option.map_some];by_cases hk:o.k=1
  ·simp only[hk,if_true,hA];rfl
  ·by_cases hk2:o.k=2
   ·have hR:(L6 l o.nm o.tt).map Am=CO ⟨o.tt,DC y.ps⟩ (Ea o.nm (l.map Am)):=by
     unfold L6;rw[JX (Bt (Bt hs _) _) ⟨o.tt,DI l o.nm⟩ (Ia (Bt hs _) _),FM (Bt hs _),hp];show CO ⟨o.tt,DC y.ps⟩ _=_;rw[LW (Bt hs _) ⟨o.tt,DC y.ps⟩,FM hs]
    simp only[hk2,if_true];rw[if_neg (show ¬ (2:Int)=1 by decide),if_neg (show ¬ (2:Int)=1 by decide),hR];rfl
   ·simp only[hk,hk2,if_false,FM hs]
theorem Nt {l:List Hy}(hs:Bo l)(o:Dp):Bo (doH l o).1:=by
 unfold doH;split
 ·exact LZ (Bt hs _) _ (Ia hs _)
 ·split
  ·show Bo (if _ then _ else _);split
   ·exact LZ (Bt (Bt hs _) _) _ (Ia (Bt hs _) _)
   ·exact Bt hs _
  ·exact hs
theorem Sn (l:List Hy)(o:Dp):(doH l o).1.length<=l.length+1:=by
 have h1:=FN l o.nm;have h2:=FN (Ce l o.nm) o.tt;unfold doH KW L6;split
 ·simp only[LY];omega
 ·split
  ·show (if _ then _ else _:List Hy).length<=_;split
   ·rw[LY];omega
   ·omega
  ·simp
theorem pieH_in {l:List Hy}{s:ByteArray}:DI l s=[]∨∃ y∈l,DI l s=y.ps:=by
 unfold DI;split
 ·split
  ·rename_i y hy;exact .inr ⟨y,Zc hy,rfl⟩
  ·exact .inl rfl
 ·exact .inl rfl
theorem Hh.sub {M S:Nat}{l l':List Hy}(h:Hh M S l)(hs:∀ y∈l',y∈l):Hh M S l':=⟨fun y hy=>h.ps y (hs y hy),fun y hy=>h.sz y (hs y hy),fun y hy=>h.nm y (hs y hy)⟩
theorem Ns {M S:Nat}{l:List Hy}(h:Hh M S l){o:Dp}(hf:AP o=true)(hd:o.d.size<=S):Hh (M+1) S (doH l o).1:=by
 simp only[AP,Zf,ZU] at hf;obtain⟨⟨⟨k1,k3⟩,hn⟩,hk⟩:=hf;have hM:=h.mono (Nat.le_succ M) (Zd S);have hc:∀ (l':List Hy) (y:Hy),(∀ z∈l',z∈l)->y.ps.length<=M+1->(∀ s∈y.ps,s.size<=S)->nmB y.nm=true->Hh (M+1) S (HD l' y):=by
  intro l' y hb h1 h2 h3;refine ⟨fun z hz=>?_,fun z hz=>?_,fun z hz=>?_⟩<;>rcases putH_mem z hz with rfl | hz
  ·exact h1
  ·exact hM.ps z (hb z hz)
  ·exact h2
  ·exact h.sz z (hb z hz)
  ·exact h3
  ·exact h.nm z (hb z hz)
 have ha:(DI l o.nm).length<=M∧∀ s∈DI l o.nm,s.size<=S:=by
  rcases pieH_in (l:=l) (s:=o.nm) with e | ⟨y,hy,e⟩
  ·rw[e];simp
  ·rw[e];exact⟨h.ps y hy,h.sz y hy⟩
 unfold doH KW L6;split
 ·refine hc _ _ G8 (by simp;exact ha.1) (fun s hs=>?_) hn;rcases Zs.1 hs with hs | hs
  ·exact ha.2 s hs
  ·simp at hs;subst hs;exact hd
 ·split
  ·show Hh _ _ (if _ then _ else _);split
   ·rename_i h2;rw[if_pos h2] at hk;refine hc _ _ (fun z hz=>G8 z (G8 z hz)) (Nat.le_succ_of_le ha.1) ha.2 (by simp only[Zf] at hk;exact hk.1)
   ·exact hM.sub G8
  ·exact hM
theorem MD (ps:List ByteArray):(DC ps).size=Cw ps:=by
 have:=LJ ps;unfold DC;simpa [ByteArray.size] using this
theorem OU (l:List Hy):sumB (l.map Am)=Da l:=by
 induction l with
 |nil=>rfl
 |cons y r ih=>simp only[YD,sumB,Da,ih];congr 1;exact MD _
theorem Lo:∀ (l:List Hy) (q:Option Hy),(∀ y∈l,nmB y.nm=true)->Bo l->(∀ p,q=some p->∀ y,l[0]?=some y->bl p.nm.toList y.nm.toList=true)->fgo (q.map Am) (l.map Am)=true
 |[],q,_,_,_=>by cases q<;>rfl
 |y::r,q,hn,hs,hq=>by
  have ih:=Lo r (some y) (fun z hz=>hn z (by simp[hz])) (fun i j x z ha hx hz=>hs (i+1) (j+1) x z sH oz fy) (fun p hp z hz=>by
   cases hp
   exact hs 0 1 y z sH rfl fy)
  have h1:nmB (Am y).nm=true:=hn y sK
  cases q with
  |none=>
   show (nmB (Am y).nm&&true&&fgo (some (Am y)) (r.map Am))=true
   rw[h1];simpa using ih
  |some p=>
   have h3:bl (Am p).nm.toList (Am y).nm.toList=true:=hq p rfl y rfl
   show (nmB (Am y).nm&&bl (Am p).nm.toList (Am y).nm.toList&&fgo (some (Am y)) (r.map Am))=true
   rw[h1,h3];simpa using ih
theorem Iu {M S:Nat}{l:List Hy}(hs:Bo l)(h:Hh M S l):Aq (l.map Am)=Do l:=by
 unfold Aq Do;have hg:fgo none (l.map Am)=true:=by
  have:=Lo l none h.nm hs (fun p hp=>by cases hp);simpa using this
 rw[OU,hg];simp
end
section
open Go Go.RowKit Go.BigFrame Tryz
theorem JK:∃ i0,prog.info? 192=some i0∧i0.zero=some (.agg #[.string .empty,.slice none 0 0])∧i0.size=2∧i0.bytes=40:=by
 exact pi
theorem FX:(prog.info? 192).map (·.size)=some 2:=by
 obtain⟨i0,h,_,h2,_⟩:=JK;rw[h];simp[h2]
theorem HW (B:Nat)(a:Option Addr)(n cap vb:Nat)(rows:List Hr)(x:Hr)(w:World)(R:Ac hrs 2 192 w B a n cap rows)(hv:Blk w vb (hrs x).toArray 192)(hn:n<=4194304)(hBw:B<=w.heap.size) :
  Calls prog 260 #[.slice a n cap,.int .i64 n,.slice (some ⟨vb,0,none⟩) 1 1] w fun e w'=>(∃ a' cap',e=.returned (.slice a' (n+1) cap')∧Ac hrs 2 192 w' B a' (n+1) cap' (rows++[x]))∧w.grownBy w' (Value.ownBlock (.slice a n cap)):=by
 have hS:=op_ Be hv;have hb:n<=cap:=R.le;have hc:¬ ((1:Int)=0):=sH
 cases a with
 |none=>
  obtain⟨rfl,rfl⟩:=R.empt;go_enter func260,ntmps260;go_wp2_with (at_builtin;refine ag_ rfl (fun K hK=>Jc _ _ rfl B none 0 0 rows rfl R (some ⟨vb,0,none⟩) 1 1 [x] rfl hS (fun ad h=>sV) (fun h=>sY) (0+1) rfl sH hBw (fun a3 c3 w3 R3 ha=>hK _ _ ?_)));go_returns;exact⟨⟨a3,c3,rfl,R3⟩,ha⟩
 |some ad=>
  obtain⟨b,rfl⟩:∃ b,ad=⟨b,0,none⟩:=by
   rcases R.own with⟨h0,_⟩ | ⟨b,h0,_⟩
   ·cases h0
   ·cases h0;exact⟨b,rfl⟩
  go_enter func260,ntmps260;go_wp2_with (at_builtin;refine ag_ rfl (fun K hK=>Jc _ _ rfl B (some ⟨b,0,none⟩) n cap rows rfl R (some ⟨vb,0,none⟩) 1 1 [x] rfl hS (fun ad h=>sV) (fun h=>sY) (n+1) rfl sH hBw (fun a3 c3 w3 R3 ha=>hK _ _ ?_)));all_goals (go_returns;exact⟨⟨a3,c3,rfl,R3⟩,ha⟩)
theorem rY{p:Prop}(h:p:=by simp only[Nat.min_def];split<;>omega):p:=h
theorem Hn (B b n cap i vb:Nat)(rows:List Hr)(x:Hr)(w:World)(R:Ac hrs 2 192 w B (some ⟨b,0,none⟩) n cap rows)(hv:Blk w vb (hrs x).toArray 192)(hn:n<=4194304)(hBw:B<=w.heap.size)(hi:i<n)(hcap:cap=n) :
  Calls prog 260 #[.slice (some ⟨b,0,none⟩) n cap,.int .i64 i,.slice (some ⟨vb,0,none⟩) 1 1] w fun e w'=>(∃ a' cap',e=.returned (.slice a' (n+1) cap')∧Ac hrs 2 192 w' B a' (n+1) cap' (rows.take i++[x]++rows.drop i))∧w.grownBy w' (Value.ownBlock (.slice (some ⟨b,0,none⟩) n cap)):=by
 subst hcap;have ha:=R.sl.len;have hS:=op_ Be hv;have hL:=(R.block _ rfl).2;have hO:=hv.lt;obtain⟨i0,hA,hD,hE,ho⟩:=JK;have hB:(cap:Int)+1-(i:Int)=((cap+1-i:Nat):Int):=sH;have hl:i+(cap+1-i)=cap+1:=sH;have hP:((.agg #[.string .empty,.slice none 0 0]):Value).cells.size=2:=rfl;have hg:((rows.take i).flatMap hrs).length=i*2:=by rw[aY_ Be,Zz,ha,ZZ sH]
 have hc:(Builtin.firstCells i0.size i (.slice (some ⟨b,0,none⟩) i cap)).run prog w.drew=.ok ((rows.take i).flatMap hrs).toArray w.drew:=by
  rw[hE];refine run_firstCells_some w.drew 2 i ⟨b,0,none⟩ i cap _ hg (fun j v hj=>?_)
  have:=AH.src Be R.sl j v (by
   rw[<-cq_ Be,List.getElem?_take] at hj;split at hj
   ·exact hj
   ·cases hj)
  exact this
 have hm:∀ ty,(Builtin.append_ #[133,3] ty #[.slice (some ⟨b,0,none⟩) i cap,.int .i64 ((cap:Int)+1-(i:Int))]).run prog w =
   .ok (.slice (some ⟨w.heap.size,0,none⟩) (cap+1) (grownCap w (cap+1) cap 192)) (w.drew.alloc (.cells (((rows.take i).flatMap hrs).toArray++Builtin.zeroCells ((.agg #[.string .empty,.slice none 0 0]):Value).cells (cap+1-i)++Builtin.zeroCells ((.agg #[.string .empty,.slice none 0 0]):Value).cells (grownCap w (cap+1) cap 192-(cap+1))) 192)):=fun ty=>by
  have h:=Lib.run_append_grow_zeros w 133 3 ty 192 i0 _ .i64 .i64 underlying133 underlying3 hA hD (some ⟨b,0,none⟩) i cap ((rows.take i).flatMap hrs) hc (cap+1-i) sH sH sH sH (by rw[ho];omega) (by rw[ho,hl];exact growslice_fits sH sH);rw[hl] at h;rw[hB];exact h
 have hr:cap+1<=grownCap w (cap+1) cap 192:=grownCap_ge w _ _ _;have hq:grownCap w (cap+1) cap 192<=maxLen:=grownCap_le_maxLen w (cap+1) cap 192 sO;generalize grownCap w (cap+1) cap 192=G at *;obtain⟨ROW,ht,hu,hs⟩:∃ ROW:List Value,ROW.length=G*2∧ROW.take (i*2)=(rows.take i).flatMap hrs∧(((rows.take i).flatMap hrs).toArray++Builtin.zeroCells ((.agg #[.string .empty,.slice none 0 0]):Value).cells (cap+1-i)++Builtin.zeroCells ((.agg #[.string .empty,.slice none 0 0]):Value).cells (G-(cap+1)))=ROW.toArray:=by
  refine ⟨((rows.take i).flatMap hrs)++(Builtin.zeroCells ((.agg #[.string .empty,.slice none 0 0]):Value).cells (cap+1-i)).toList++(Builtin.zeroCells ((.agg #[.string .empty,.slice none 0 0]):Value).cells (G-(cap+1))).toList,?_,?_,?_⟩
  ·simp only[ZE,Array.length_toList,size_zeroCells,hP,hg];omega
  ·rw[ZC,<-hg,List.take_left]
  ·apply Array.toList_inj.1;simp
 rw[hs] at hm;have hC:=qq_ (cs:=hrs) (x:=x) Be ha (Nat.le_of_lt hi) ht hr hu;replace hC:Hid _:=hC;have D1:Blk (w.drew.alloc (.cells ROW.toArray 192)) w.heap.size ROW.toArray 192:=Blk.new w.drew _ _;have hh:Below w.heap.size w (w.drew.alloc (.cells ROW.toArray 192)):=((Yg _ _).drew).alloc (Zd _) _;have hZ:¬ ((1:Int)=0):=sH;have h0:¬ ((i:Int)=(cap:Int)):=sH;have h1:(cap:Int)<(cap:Int)+1:=sH;have hQ:¬ (G=i):=sH;have hH:¬ (G=i+1):=sH;have hU:¬ (cap=i):=sH;have hX:IntKind.i64.wrap ((i:Int)+1)=(i:Int)+1:=rj;have hR:(0:Int)<=(i:Int)+1:=sH;have hV:i<=cap:=sH;have hW:((i:Int)+1).toNat=i+1:=sH;have hT:(i:Int)<=(cap:Int):=sH;have hG:G<=9223372036854775807:=by unfold maxLen at hq;omega
 have hJ:=R.sl;have he:∀ v∈hrs x,v.oneCell'=true:=fun v hv=>FY [x] v (by simpa using hv);have hf:∀ v∈(rows.drop i).flatMap hrs,v.oneCell'=true:=FY _;have hw:Hid (B<=w.heap.size∧rows.length=cap):=⟨hBw,ha⟩;clear hB hl hc R hg hA hD hE ho hs hu ha ht;generalize hW1:w.drew.alloc (.cells ROW.toArray 192)=W1 at *;clear hW1;obtain⟨w2,hx,D2,hy,hM⟩:=mJ_ (P:=prog) W1 133 133 192 2 w.heap.size (i*2) (cap+1-i) (G-i) ⟨vb,0,none⟩ 1 1 ROW 192 (hrs x) 1 underlying133 FX D1 rY (by rw[Be,Nat.one_mul]) (fun j v hj=>by rw[Addr.add_lit];exact Ab hh ((hv.cell _).trans dm)) hC.out.1 he;go_enter func260,ntmps260
 go_wp2_with (first
  |(at_builtin;refine Lib.wpList_append_run _ rfl _ _ _ _ rfl _ _ rfl rfl _ _ (hm _) ?_)
  |(at_builtin;refine fU_ _ rfl _ _ 133 133 rfl _ _ rfl rfl (hx _) ?_))
 clear hx;have hp:=ao_ hh hy (Zd _);have hY:=D2.lt;clear hm hh hy hM;have hI:(fun _=>True) w2.drew:=trivial;refine aC_ (S:=(fun _=>True)) 9 sI rfl ?_;refine tk 0 ?_;refine tk 1 ?_;refine tk 2 ?_;refine tk 3 ?_;refine tk 4 ?_;refine tk 5 ?_;refine tk 6 ?_;refine tk 7 ?_;refine Ag (i:=8) sI rfl (fun K hK=>?_);refine aJ_ rfl (ky_ _ _ 133 133 192 2 rfl underlying133 FX w.heap.size ((i+1)*2) (cap-i) (G-(i+1)) ⟨b,i*2,none⟩ (cap-i) (cap-i) rfl rfl _ 192 D2.drew ((rows.drop i).flatMap hrs) (cap-i) rY hC.out.2.2.2.1 (fun j v hj=>?src) hC.out.2.2.1 hf (fun w3 D3 hz hN=>?_))
 case src=>
  have:=AH.src Be hJ (i*2+j) v (by rw[<-hj];exact gl_ Be rows i j);rw[Addr.add_lit] at this ⊢;rw[Zq] at this;have q:=Ab hp this;exact q
 dsimp only;refine hK.out _ _ trivial (fun hHeld=>?_);clear hK K;(try simp only[Act.put,Yj,Yq,Yr]);refine wpAnyH_done sI ?_ _;have hb:Below w.heap.size w w3:=ao_ (Aa hp (Yg _ _).drew) hz (Zd _);have R3:=DM (l:=rows.take i++[x]++rows.drop i) (n:=cap+1) (cap:=G) Be D3 hw.out.1 (mK_ hw.out.2 (Nat.le_of_lt hi)) hr hq (by rw[YI];exact hC.out.2.2.2.2.1) hC.out.2.2.2.2.2;clear D3 D2 hz hN hI hHeld;have hF:w.grownBy w3 (Value.ownBlock (.slice (some ⟨b,0,none⟩) cap cap)):=⟨hb.os,hb.tape,hb.output,hb.size,fun k hk _=>hb.block k hk⟩;go_wp2;go_returns;exact⟨⟨_,G,rfl,R3⟩,hF⟩
theorem Ho (B b n cap i vb:Nat)(rows:List Hr)(x:Hr)(w:World)(R:Ac hrs 2 192 w B (some ⟨b,0,none⟩) n cap rows)(hv:Blk w vb (hrs x).toArray 192)(hvb:vb≠b)(hn:n<=4194304)(hi:i<n)(hcap:n+1<=cap) :
  Calls prog 260 #[.slice (some ⟨b,0,none⟩) n cap,.int .i64 i,.slice (some ⟨vb,0,none⟩) 1 1] w fun e w'=>(∃ a' cap',e=.returned (.slice a' (n+1) cap')∧Ac hrs 2 192 w' B a' (n+1) cap' (rows.take i++[x]++rows.drop i))∧w.grownBy w' (Value.ownBlock (.slice (some ⟨b,0,none⟩) n cap)):=by
 have he:=R.sl.len;rcases R.own with⟨h0,_⟩ | ⟨b',ha,ho,_,hm,c,hb,hc,ht⟩
 ·cases h0
 cases ha;obtain⟨L,rfl⟩:∃ L:List Value,c=L.toArray:=⟨c.toList,sK⟩;have hC:=qr_ (cs:=hrs) (x:=x) (L:=L) Be he (Nat.le_of_lt hi) (by simpa using hc) hcap (by simpa using ht);replace hC:Hid _:=hC;have hs:∀ lb cb,(callFunc 264 #[.slice (some ⟨vb,0,none⟩) 1 1,.slice (some ⟨b,(i+1)*2,none⟩) lb cb]).run prog w=.ok (.value (.bool false)) w:=fun lb cb=>by
  rw[YX func264 sI sI sI (e:=Extern.SlicesOverlaps.overlaps #[133,133] #[4]) sI,
   Lib.run_overlaps_apart w 133 4 192 underlying133 2 sizeOf192 ⟨vb,0,none⟩ ⟨b,(i+1)*2,none⟩ 1 1 lb cb hvb 192 192 (hrs x).toArray.size L.toArray.size (by unfold Blk at hv;simp[World.shape?,hv]) (by unfold Blk at hb;simp[World.shape?,hb]) (by rw[hc];omega) (hv.frozen _) (hv.frozen _)]
  rfl
 have hL:¬ ((1:Int)=0):=sH;have hM:¬ ((i:Int)=(n:Int)):=sH;have hN:¬ (cap:Int)<(n:Int)+1:=sH;have hG:¬ (cap=i):=sH;have hy:¬ (cap=i+1):=sH;have hJ:IntKind.i64.wrap ((i:Int)+1)=(i:Int)+1:=rj;have hD:(0:Int)<=(i:Int)+1:=sH;have hH:i<=n:=sH;have hI:((i:Int)+1).toNat=i+1:=sH;have hE:(i:Int)<=(n:Int):=sH;have hF:(i:Int)<=(n:Int)+1:=sH;have hl:cap<=9223372036854775807:=by unfold maxLen at hm;omega
 have hx:=R.sl;have hg:∀ v∈hrs x,v.oneCell'=true:=fun v hv=>FY [x] v (by simpa using hv);have hh:∀ v∈(rows.drop i).flatMap hrs,v.oneCell'=true:=FY _;have hk:Hid (B<=b∧rows.length=n∧n+1<=cap∧cap<=maxLen):=⟨ho,he,hcap,hm⟩;clear R he ht hc ho hm;go_enter func260,ntmps260;go_wp2_with (simp only[hs]);clear hs;have hw:(fun _=>True) w.drew:=trivial;refine aC_ (S:=(fun _=>True)) 9 sI rfl ?_;refine tk 0 ?_;refine tk 1 ?_;refine tk 2 ?_;refine tk 3 ?_;refine tk 4 ?_;refine tk 5 ?_;refine tk 6 ?_;refine tk 7 ?_;refine Ag (i:=8) sI rfl (fun K hK=>?_);refine aJ_ rfl (ky_ _ _ 133 133 192 2 rfl underlying133 FX b ((i+1)*2) (n-i) (cap-(i+1)) ⟨b,i*2,none⟩ (n+1-i) (cap-i) rfl rfl L 192 hb.drew ((rows.drop i).flatMap hrs) (n-i) rY hC.out.2.2.2.1 (fun j v hj=>?src) hC.out.1 hh (fun w2 D2 hq hz=>?_))
 case src=>
  have:=AH.src Be hx (i*2+j) v (by rw[<-hj];exact gl_ Be rows i j);rw[Addr.add_lit] at this ⊢;rw[Zq] at this;exact this
 dsimp only;refine hK.out _ _ trivial (fun hHeld=>?_);clear hK K;(try simp only[Act.put,Yj,Yq,Yr]);refine wpAnyH_done sI ?_ _;have hf:w.grownBy w2 (some b):=aV_ (au_ (Yh _ _) (Yg _ _).drew) hq;have hB:=hv.grown hf hvb;clear hq hz hw hHeld;obtain⟨w3,hp,D3,hr,hA⟩:=mJ_ (P:=prog) w2 133 133 192 2 b (i*2) (n+1-i) (cap-i) ⟨vb,0,none⟩ 1 1 _ 192 (hrs x) 1 underlying133 FX D2 rY (by rw[Be,Nat.one_mul]) (fun j v hj=>by rw[Addr.add_lit];exact (hB.cell _).trans dm) hC.out.2.2.1 hg;go_wp2_with (at_builtin;refine fU_ _ rfl _ _ 133 133 rfl _ _ rfl rfl (hp _) ?_);clear hp;have hu:w.grownBy w3 (some b):=aV_ hf hr;have R3:=DM (l:=rows.take i++[x]++rows.drop i) (n:=n+1) (cap:=cap) Be D3 hk.out.1 (mK_ hk.out.2.1 (Nat.le_of_lt hi)) hk.out.2.2.1 hk.out.2.2.2 (by rw[YI];exact hC.out.2.2.2.2.1) hC.out.2.2.2.2.2;clear D3 D2 hr hA;go_returns;exact⟨⟨_,cap,rfl,R3⟩,hu⟩
theorem Lw (B:Nat)(a:Option Addr)(n cap i vb:Nat)(rows:List Hr)(x:Hr)(w:World)(R:Ac hrs 2 192 w B a n cap rows)(hv:Blk w vb (hrs x).toArray 192)(hvb:∀ ad,a=some ad->vb≠ad.block)(hn:n<=4194304)(hBw:B<=w.heap.size)(hi:i<=n) :
  Calls prog 260 #[.slice a n cap,.int .i64 i,.slice (some ⟨vb,0,none⟩) 1 1] w fun e w'=>(∃ a' cap',e=.returned (.slice a' (n+1) cap')∧Ac hrs 2 192 w' B a' (n+1) cap' (rows.take i++[x]++rows.drop i))∧w.grownBy w' (Value.ownBlock (.slice a n cap)):=by
 by_cases hin:i=n
 ·subst hin;have hl:=R.sl.len;have:=HW B a i cap vb rows x w R hv hn hBw;rw[Zk sH,Ze sH,Yy];exact this
 ·rcases R.own with⟨_,h0,_⟩ | ⟨b,rfl,_,ha,_⟩
  ·omega
  ·by_cases hc:cap=n
   ·exact Hn B b n cap i vb rows x w R hv hn hBw sH hc
   ·exact Ho B b n cap i vb rows x w R hv (hvb _ rfl) hn sH sH
theorem ins_case {α:Type}{l:List α}{x:α}{p:Nat}(hp:p<=l.length){i:Nat}{z:α}(h:(l.take p++[x]++l.drop p)[i]?=some z):(i<p∧l[i]?=some z)∨(i=p∧z=x)∨(p<i∧l[i-1]?=some z):=by
 have ha:(l.take p).length=p:=sN;rw[ZC] at h;by_cases h1:i<p
 ·rw[ZD sH,List.getElem?_take] at h;exact .inl ⟨h1,by simpa [h1] using h⟩
 ·rw[Zv sH,ha] at h;by_cases h2:i=p
  ·rw[h2] at h;simp at h;exact .inr (.inl ⟨h2,h.symm⟩)
  ·obtain⟨k,hk⟩:∃ k,i-p=k+1:=⟨i-p-1,sH⟩;rw[hk] at h;simp only[List.singleton_append,Yt,List.getElem?_drop] at h;exact .inr (.inr ⟨sH,by rw[show i-1=p+k by omega];exact h⟩)
theorem HsT.ins {B:Nat}{w:World}{rows:List Hr}{l:List Hy}{r:Hr}{y:Hy}(h:HsT B w rows l)(p:Nat)(hp:p<=l.length)(hr:HT B w r y)(hap:∀ (i:Nat) q x z,rows[i]?=some q->q.pa=some x->r.pa=some z->x.block≠z.block):HsT B w (rows.take p++[r]++rows.drop p) (l.take p++[y]++l.drop p):=by
 have ha:p<=rows.length:=by rw[h.len];exact hp
 refine ⟨dr,fun i q z h1 h2=>?_,fun i j q s x z hb h1 h2 hx hz=>?_⟩
 ·rcases ins_case ha h1 with⟨a1,a2⟩ | ⟨a1,a2⟩ | ⟨a1,a2⟩<;>rcases ins_case hp h2 with⟨b1,b2⟩ | ⟨b1,b2⟩ | ⟨b1,b2⟩<;>first | omega | skip
  ·exact h.at' i q z a2 b2
  ·rw[a2,b2];exact hr
  ·exact h.at' (i-1) q z a2 b2
 ·rcases ins_case ha h1 with⟨a1,a2⟩ | ⟨a1,a2⟩ | ⟨a1,a2⟩<;>rcases ins_case ha h2 with⟨b1,b2⟩ | ⟨b1,b2⟩ | ⟨b1,b2⟩<;>first | omega | skip
  ·exact h.apart i j q s x z hb a2 b2 hx hz
  ·rw[b2] at hz;exact hap i q x z a2 hx hz
  ·exact h.apart i (j-1) q s x z sH a2 b2 hx hz
  ·rw[a2] at hx;exact fun e=>hap j s z x b2 hz hx e.symm
  ·rw[a2] at hx;exact fun e=>hap (j-1) s z x b2 hz hx e.symm
  ·exact h.apart (i-1) j q s x z sH a2 b2 hx hz
  ·rw[b2] at hz;exact hap (i-1) q x z a2 hx hz
  ·exact h.apart (i-1) (j-1) q s x z sH a2 b2 hx hz
theorem NG {a:Option Addr}{n cap x:Nat}(h:∀ ad,a=some ad->x≠ad.block):some x≠Value.ownBlock (.slice a n cap):=by
 cases a with
 |none=>simp[Value.ownBlock]
 |some ad=>have:=h ad rfl;simpa [Value.ownBlock] using this
theorem LC (B B0 sb:Nat)(a:Option Addr)(n cap:Nat)(rows:List Hr)(l:List Hy)(r:Hr)(y:Hy)(w:World)(hS:Blk w sb #[.slice a n cap] 135)(R:Ac hrs 2 192 w B a n cap rows)(T:HsT B w rows l)(hs:Bo l)(hn:n<=4194303)(hr:HT B w r y)
  (hap:∀ (i:Nat) q x z,rows[i]?=some q->q.pa=some x->r.pa=some z->x.block≠z.block) (h0:B0<=B) (h1:B0<=sb) (hBw:B<=w.heap.size) :
  Calls prog 257 #[.pointer (some ⟨sb,0,none⟩),.agg #[.string y.nm,.slice r.pa r.pn r.pc]] w fun e w'=>e=.returned (.tuple #[])∧GL B sb w' (HD l y)∧Below B0 w w':=by
 have ha:l.length=n:=r8;have hq:plH l y.nm<=n:=by rw[<-ha];unfold plH;exact (List.takeWhile_sublist _).length_le
 have hx:=hS.lt;have hA:Below w.heap.size w (w.alloc (.cells #[.string y.nm,.slice r.pa r.pn r.pc] 192)):=(Yg _ _).alloc (Zd _) _;have D:=Blk.new w #[.string y.nm,.slice r.pa r.pn r.pc] 192;have hc:=ES B sb a n cap rows l y.nm _ (hS.below hA) (R.below hA) (T.below hA) hs sH;have hm:Hid (HD l y=l.take (plH l y.nm)++[y]++l.drop (plH l y.nm)):=rfl;have hg:Hid (hrs r=[.string y.nm,.slice r.pa r.pn r.pc]):=by show _=_;rw[<-hr.nm];rfl
 generalize plH l y.nm=p at *;have hG:∀ u,Below w.heap.size w u->Blk u sb #[.slice a n cap] 135∧Ac hrs 2 192 u B a n cap rows∧HsT B u rows l∧HT B u r y:=fun u hu=>⟨hS.below hu,R.below hu,T.below hu,hr.below hu⟩;have hp:∀ ad,a=some ad->ad.block<w.heap.size:=fun ad e=>(R.block ad e).2;have hw:∀ ad,a=some ad->B<=ad.block:=fun ad e=>(R.block ad e).1;have hl:Hid (∀ (i:Nat) q x z,rows[i]?=some q->q.pa=some x->r.pa=some z->x.block≠z.block):=hap;have hf:Hid (l.length=n):=ha;clear hS R T hs hr hap ha;obtain⟨rn,pa,pn,pc⟩:=r;simp only at D hA hc hg ⊢;go_enter func257,ntmps257;go_wp2_with fail;refine hc.mono ?_;rintro e w1 ⟨rfl,hk⟩;have D1:=D.below hk;have ho:=Aa hA hk;clear hc D hA hk;obtain⟨S1,R1,T1,N1⟩:=hG w1 ho;clear hG;have hy:=D1.lt;have x0:=S1.one;have z0:=D1.cell 0;have z1:=D1.cell 1;simp only[Yp,Yo,Yt] at z0 z1;go_wp2_with fail;have hv:(fun u=>u.cell? ⟨sb,0,none⟩=some (.slice a n cap)∧u.cell? ⟨w.heap.size,0,none⟩=some (.string y.nm)∧u.cell? ⟨w.heap.size,1,none⟩=some (.slice pa pn pc)) w1.drew:=⟨x0,z0,z1⟩;refine ar_ (S:=(fun u=>u.cell? ⟨sb,0,none⟩=some (.slice a n cap)∧u.cell? ⟨w.heap.size,0,none⟩=some (.string y.nm)∧u.cell? ⟨w.heap.size,1,none⟩=some (.slice pa pn pc))) 11 sI sI ?_;refine tk 0 ?_;refine tk 1 ?_;refine tk 2 ?_;refine tk 3 ?_;refine tk 4 ?_;refine tk 5 ?_;refine tk 6 ?_;refine Ag (i:=7) sI rfl (fun K hK=>?_);go_simp;have hb:Below w1.heap.size w1 ((w1.alloc (.cells #[.string y.nm,.slice pa pn pc] 192)).drew):=((Yg _ _).alloc (Zd _) _).drew;have V2:Blk ((w1.alloc (.cells #[.string y.nm,.slice pa pn pc] 192)).drew) w1.heap.size (hrs ⟨rn,pa,pn,pc⟩).toArray 192:=by rw[hg.out];exact (Blk.new w1 _ _).drew
 have S2:=S1.below hb;have R2:=R1.below hb;have T2:=T1.below hb;have N2:=N1.below hb;have D2:=D1.below hb;have qk:=Aa ho hb;have hz:=qk.size;refine hK.out _ _ ⟨S2.one,D2.cell 0,D2.cell 1⟩ (fun hHeld=>?_);clear hK K;(try simp only[Act.put,Yj,Yq,Yr]);generalize hW2:(w1.alloc (.cells #[.string y.nm,.slice pa pn pc] 192)).drew=W2 at *;clear hW2;refine Ag (i:=8) sI rfl (fun K hK=>?_);go_simp;refine (Lw B a n cap p w1.heap.size rows ⟨rn,pa,pn,pc⟩ W2 R2 V2 (fun ad e=>by have:=hp ad e;omega) sH sH hq).mono ?_;rintro e w3 ⟨⟨a3,c3,rfl,R3⟩,he⟩;have hj:=R2.rowTy (m:=n) (k:=cap);have S3:=S2.ty he hj sJ;have T3:=T2.ty he hj sJ;have N3:=N2.ty he hj sJ;have D3:=D2.grownO he (NG fun ad e=>by have:=hp ad e;omega);have qt:Below B0 w w3:=Yi (qk.mono (show B0<=w.heap.size by omega)) he dj (aG_ fun ad e=>by have:=hw ad e;omega);dsimp only;refine hK.out _ _ ⟨S3.one,D3.cell 0,D3.cell 1⟩ (fun hHeld=>?_);clear hK K;(try simp only[Act.put,Yj,Yq,Yr]);refine tk 9 ?_;refine tk 10 ?_;refine wpAnyH_done sI ?_ _;refine lastL rfl ?_;clear S2 R2 T2 N2 D2 V2 hj he hHeld hv x0 z0 z1 D1 S1 R1 T1 N1;have y0:=S3.one;have y1:=S3.frozen 0;go_wp2;have hh:w3.grownBy (w3.setCell ⟨sb,0,none⟩ (.slice a3 (n+1) c3)) (some sb):=af_ (Yh _ _) _ _;have S4:Blk (w3.setCell ⟨sb,0,none⟩ (.slice a3 (n+1) c3)) sb #[.slice a3 (n+1) c3] 135:=by simpa using S3.set 0 (.slice a3 (n+1) c3)
 have R4:=R3.ty hh (aa_ S3) sJ;have T4:=T3.ty hh (aa_ S3) sJ;have N4:=N3.ty hh (aa_ S3) sJ;have hB:=S3.lt;have ht:=qt.grown hh ro (fun j e=>by cases e;omega);have T5:=T4.ins p (by rw[hf.out];exact hq) N4 hl.out;go_returns;exact⟨rfl,⟨a3,n+1,c3,_,S4,R4,by rw[hm.out];exact T5⟩,ht⟩
theorem SD:(prog.info? 9).map (fun i=>(i.zero,i.size,i.bytes))=some (some (.string .empty),1,16):=by kernel_rfl
structure TS (B B0 sb:Nat)(rows0:List Hr)(l:List Hy)(s:ByteArray)(r:Hr)(w w':World):Prop where
 sh:∃ a n cap rows,Blk w' sb #[.slice a n cap] 135∧Ac hrs 2 192 w' B a n cap rows∧HsT B w' rows (Ce l s)∧(∀ (i:Nat) q x z,rows[i]?=some q->q.pa=some x->r.pa=some z->x.block≠z.block)∧(∀ ad,a=some ad->ad.block<w.heap.size)∧∀ (i:Nat) q,rows[i]?=some q->∃ j:Nat,rows0[j]?=some q
 ps:Ac sps 1 9 w' B r.pa r.pn r.pc (DI l s)
 old:∀ ad,r.pa=some ad->ad.block<w.heap.size
 low:Below B0 w w'
theorem Hq (B B0 sb:Nat)(a:Option Addr)(n cap:Nat)(rows:List Hr)(l:List Hy)(s:ByteArray)(w:World)(hS:Blk w sb #[.slice a n cap] 135)(R:Ac hrs 2 192 w B a n cap rows)(T:HsT B w rows l)(hs:Bo l)(hn:n<=4194304)(h0:B0<=B)(h1:B0<=sb) :
  Calls prog 256 #[.pointer (some ⟨sb,0,none⟩),.string s] w fun e w'=>∃ nm r,e=.returned (.agg #[.string nm,.slice r.pa r.pn r.pc])∧TS B B0 sb rows l s r w w'∧FrS sb a w w':=by
 have ha:∀ ad,a=some ad->ad.block<w.heap.size:=fun ad e=>(R.block ad e).2;have hb:=hS.lt
 cases hh:B3 l s
 ·refine (Iz B sb a n cap rows l s w hS R T hs hn hh).mono ?_;rintro e w' ⟨rfl,hB⟩;have hp:Ce l s=l:=by simp[Ce,hh]
  have hq:DI l s=[]:=by simp[DI,hh]
  exact⟨s,⟨s,none,0,0⟩,rfl,⟨⟨a,n,cap,rows,hS.below hB,R.below hB,by rw[hp];exact T.below hB,(fun i q x z _ _ h=>sY),ha,fun i q hi=>⟨i,hi⟩⟩,(by rw[hq];exact aB_),(fun ad h=>sY),hB.mono sH⟩,FrS.of hB⟩
 ·refine (FD B B0 sb a n cap rows l s w hS R T hs hn hh h0 h1).mono ?_;rintro e w' ⟨r,y,hr,hy,_,rfl,L⟩;have hp:Ce l s=l.eraseIdx (plH l s):=by simp[Ce,hh]
  have hq:DI l s=y.ps:=by simp[DI,hh,hy]
  refine ⟨y.nm,r,rfl,⟨⟨a,n-1,cap,_,L.sh,L.res,by rw[hp];exact L.its,fun i q x z hi hx hz=>?_,ha,fun i q hi=>?_⟩,by rw[hq];exact L.one.ps,fun ad e=>(T.block hr ad e).2,L.low⟩,L.fr⟩
  ·obtain⟨j,g1,g2,_⟩:=Dm hi;exact T.apart j _ q r x z g2 g1 hr hx hz
  ·obtain⟨j,g1,_⟩:=Dm hi;exact⟨j,g1⟩
theorem Ac.frs {α:Type}{cs:α->List Value}{sz:Nat}(hsz:∀ x,(cs x).length=sz){t:TypeId}{w w':World}{B n cap sb:Nat}{a a':Option Addr}{l:List α}(h:Ac cs sz t w B a' n cap l)(hF:FrS sb a w w')(hr:∀ ad,a'=some ad->ad.block≠sb∧∀ ad2,a=some ad2->ad.block≠ad2.block):Ac cs sz t w' B a' n cap l:=by
 rcases h.own with⟨rfl,rfl,rfl⟩ | ⟨b,rfl,hB,h1,h2,c,hc,h3,h4⟩
 ·obtain rfl:l=[]:=Zt h.sl.len;exact aB_
 ·obtain⟨g1,g2⟩:=hr _ rfl;exact DM hsz (hF.blk hc g1 g2) hB h.sl.len h1 h2 h3 h4
theorem Ac.ne_blk {α:Type}{cs:α->List Value}{sz:Nat}{t t':TypeId}{w:World}{B n cap b:Nat}{a:Option Addr}{l:List α}{c:Array Value}(h:Ac cs sz t w B a n cap l)(hb:Blk w b c t')(ht:t≠t'):∀ ad,a=some ad->ad.block≠b:=by
 rintro ad rfl rfl;rcases h.own with⟨h0,_⟩ | ⟨b',h1,_,_,_,c',hc,_⟩
 ·cases h0
 ·cases h1;exact ht (kc_ hc hb)
theorem Ac.ne_res {α β:Type}{cs:α->List Value}{cs':β->List Value}{sz sz':Nat}{t t':TypeId}{w:World}{B n cap B' n' cap':Nat}{a a':Option Addr}{l:List α}{l':List β}(h:Ac cs sz t w B a n cap l)(h':Ac cs' sz' t' w B' a' n' cap' l')(ht:t≠t'):∀ ad ad',a=some ad->a'=some ad'->ad.block≠ad'.block:=by
 rintro ad ad' e rfl;rcases h'.own with⟨h0,_⟩ | ⟨b',h1,_,_,_,c',hc,_⟩
 ·cases h0
 ·cases h1;exact h.ne_blk hc ht ad e
theorem Lz (B B0 sb:Nat)(l:List Hy)(nm d:ByteArray)(w:World)(h:GL B sb w l)(hs:Bo l)(hn:l.length<=4194303)(hp:∀ y∈l,y.ps.length<=4194303)(h0:B0<=B)(h1:B0<=sb)(hBw:B<=w.heap.size) :
  Calls prog 254 #[.agg #[.string nm,.string d],.pointer (some ⟨sb,0,none⟩)] w fun e w'=>e=.returned (.bool true)∧GL B sb w' (KW l nm d)∧Below B0 w w':=by
 obtain⟨a,n,cap,rows,S,R,T⟩:=h;have he:l.length=n:=r8;rw[he] at hn;have hT:=S.lt;have hw:∀ ad,a=some ad->ad.block<w.heap.size:=fun ad e=>(R.block ad e).2;have hA:Below w.heap.size w (w.alloc (.cells #[.string nm,.string d] 194)):=(Yg _ _).alloc (Zd _) _;have D:=Blk.new w #[.string nm,.string d] 194;have hl:=Hq B B0 sb a n cap rows l nm _ (S.below hA) (R.below hA) (T.below hA) hs sH h0 h1;have hE:(DI l nm).length<=4194303:=by
  rcases pieH_in (l:=l) (s:=nm) with e | ⟨y,hy,e⟩
  ·rw[e];simp
  ·rw[e];exact hp y hy
 have hI:=Bt hs nm;have hG:(Ce l nm).length<=n:=by rw[<-he];exact FN l nm
 have hm:Hid (KW l nm d=HD (Ce l nm) ⟨nm,DI l nm++[d]⟩):=rfl;clear S R T hs hp he;go_enter func254,ntmps254;go_wp2_with fail;refine hl.mono ?_;rintro e w1 ⟨fnm,r,rfl,L,hF⟩;obtain⟨⟨a1,n1,cap1,rows1,S1,R1,T1,hk,hB,_⟩,P1,hq,hh⟩:=L;have hN:=hA.size;have D1:=hF.blk D sH (fun ad e=>by have:=hw ad e;omega);have hr:Below B0 w w1:=(hA.mono sH).trans hh;have hU:=D1.lt;clear hl hA D hF hh hw;generalize Ce l nm=l1 at *;generalize DI l nm=ps at *;have hO:n1<=n:=by rw[<-R1.sl.len,T1.len];exact hG
 have hH:ps.length=r.pn:=P1.sl.len;obtain⟨rn,pa,pn,pc⟩:=r;simp only at hH P1 hk hq ⊢;have hb:Below w1.heap.size w1 (w1.alloc (.cells #[.string fnm,.slice pa pn pc] 192)):=(Yg _ _).alloc (Zd _) _;have F2:=Blk.new w1 #[.string fnm,.slice pa pn pc] 192;go_wp2_with fail;have S2:=S1.below hb;have R2:=R1.below hb;have T2:=T1.below hb;have P2:=P1.below hb;have D2:=D1.below hb;have ht:Below B0 w _:=hr.trans (hb.mono sH);have hP:=hb.size;have hQ:w1.heap.size<(w1.alloc (.cells #[.string fnm,.slice pa pn pc] 192)).heap.size:=sK;have ho:∀ (i:Nat) q x,rows1[i]?=some q->q.pa=some x->x.block<w1.heap.size:=fun i q x hi hx=>(T1.block hi x hx).2;generalize w1.alloc (.cells #[.string fnm,.slice pa pn pc] 192)=W2 at *;clear S1 R1 T1 P1 D1 hr hb;have hD:(fun u=>u.cell? ⟨w.heap.size,0,none⟩=some (.string nm)∧u.cell? ⟨w.heap.size,1,none⟩=some (.string d)∧u.cell? ⟨w1.heap.size,1,none⟩=some (.slice pa pn pc)) W2.drew:=⟨D2.cell 0,D2.cell 1,F2.cell 1⟩;refine ar_ (S:=(fun u=>u.cell? ⟨w.heap.size,0,none⟩=some (.string nm)∧u.cell? ⟨w.heap.size,1,none⟩=some (.string d)∧u.cell? ⟨w1.heap.size,1,none⟩=some (.slice pa pn pc))) 10 sI sI ?_;refine tk 0 ?_;refine tk 1 ?_;refine tk 2 ?_;refine tk 3 ?_;refine tk 4 ?_;refine tk 5 ?_;refine tk 6 ?_;refine Ag (i:=7) sI rfl (fun K hK=>?_);go_simp;have ha:Below W2.heap.size W2 (W2.alloc (.cells #[.string d] 9)).drew:=((Yg _ _).alloc (Zd _) _).drew;have V3:Blk (W2.alloc (.cells #[.string d] 9)).drew W2.heap.size (sps d).toArray 9:=(Blk.new W2 _ _).drew;have S3:=S2.below ha;have R3:=R2.below ha;have T3:=T2.below ha;have P3:=P2.below ha;have D3:=D2.below ha;have F3:=F2.below ha;have qk:Below B0 w _:=ht.trans (ha.mono sH);have hR:=ha.size;refine hK.out _ _ ⟨D3.cell 0,D3.cell 1,F3.cell 1⟩ (fun hHeld=>?_);clear hK K;(try simp only[Act.put,Yj,Yq,Yr]);generalize hW3:(W2.alloc (.cells #[.string d] 9)).drew=W3 at *;clear hW3 S2 R2 T2 P2 D2 F2 ht ha;refine Ag (i:=8) sI rfl (fun K hK=>?_);obtain⟨i0,hi,hJ,hL,hM⟩:=info_parts SD;refine aJ_ rfl (ph_ _ _ _ rfl B 9 i0 _ 16 underlying40 hi hJ hL hM rfl sJ KL Tp pa pn pc ps rfl P3 W2.heap.size 0 [d] rfl (op_ KL V3) sO sH sH (fun a4 c4 w4 R4 hc hg=>?_));have hj:=P3.rowTy (m:=pn) (k:=pc);have S4:=S3.ty hc hj sJ;have Q4:=R3.ty hc hj sJ;have D4:=D3.ty hc hj sJ;have F4:=F3.ty hc hj sJ;have T4:=T3.off hc (fun i q x hi hx=>NG fun ad e=>hk i q x ad hi hx e);have hu:Below B0 w w4:=qk.grown hc dj (aG_ fun ad e=>by have:=(P3.block ad e).1;omega);have hf:Hid (∀ (i:Nat) q x z,rows1[i]?=some q->q.pa=some x->a4=some z->x.block≠z.block):=fun i q x z hi hx hz=>by
  rcases hg z hz with⟨ad,e1,e2⟩ | e1
  ·rw[<-e2];exact hk i q x ad hi hx e1
  ·have:=ho i q x hi hx;omega
 have hS:=hc.size;dsimp only;refine hK.out _ _ ⟨D4.cell 0,D4.cell 1,F4.cell 1⟩ (fun hHeld=>?_);clear hK K;(try simp only[Act.put,Yj,Yq,Yr]);clear S3 R3 T3 P3 D3 F3 V3 qk hj hc hg;refine tk 9 ?_;refine wpAnyH_done sI ?_ _;refine lastL rfl ?_;go_wp2_with fail;refine (LC B B0 sb a1 n1 cap1 rows1 l1 ⟨nm,a4,pn+1,c4⟩ ⟨nm,ps++[d]⟩ w4 S4 Q4 T4 hI sH ⟨rfl,R4⟩ hf.out h0 h1 sH).mono ?_;rintro e w5 ⟨rfl,Sh5,hv⟩;have hC:=hu.trans hv;clear S4 Q4 D4 F4 T4 hf hD hHeld hu hv;go_wp2;go_returns;exact⟨rfl,by rw[hm.out];exact Sh5,hC⟩
theorem Hv (B sb:Nat)(l:List Hy)(nm tt:ByteArray)(w:World)(h:GL B sb w l)(hs:Bo l)(hn:l.length<=4194303)(hh:B3 l nm=false) :
  Calls prog 270 #[.agg #[.string nm,.string tt],.pointer (some ⟨sb,0,none⟩)] w fun e w'=>e=.returned (.bool false)∧Below w.heap.size w w':=by
 obtain⟨a,n,cap,rows,S,R,T⟩:=h;have ha:l.length=n:=r8;rw[ha] at hn;have hA:Below w.heap.size w (w.alloc (.cells #[.string nm,.string tt] 196)):=(Yg _ _).alloc (Zd _) _;have hc:=GU B sb a n cap rows l nm _ (S.below hA) (R.below hA) (T.below hA) hs sH;rw[hh] at hc;clear S R T hs hh ha;go_enter func270,ntmps270;exact pH
theorem LD (B B0 sb:Nat)(l:List Hy)(nm tt:ByteArray)(w:World)(h:GL B sb w l)(hs:Bo l)(hn:l.length<=4194303)(hh:B3 l nm=true)(h0:B0<=B)(h1:B0<=sb)(hBw:B<=w.heap.size) :
  Calls prog 270 #[.agg #[.string nm,.string tt],.pointer (some ⟨sb,0,none⟩)] w fun e w'=>e=.returned (.bool true)∧GL B sb w' (L6 l nm tt)∧Below B0 w w':=by
 obtain⟨a,n,cap,rows,S,R,T⟩:=h;have hf:l.length=n:=r8;rw[hf] at hn;have hT:=S.lt;have hH:∀ ad,a=some ad->ad.block<w.heap.size:=fun ad e=>(R.block ad e).2;have hA:Below w.heap.size w (w.alloc (.cells #[.string nm,.string tt] 196)):=(Yg _ _).alloc (Zd _) _;have D:=Blk.new w #[.string nm,.string tt] 196;have hc:=GU B sb a n cap rows l nm _ (S.below hA) (R.below hA) (T.below hA) hs sH;rw[hh] at hc;have hl:=fun u (hu:Below w.heap.size w u)=>Hq B B0 sb a n cap rows l nm u (S.below hu) (R.below hu) (T.below hu) hs sH h0 h1;have hK:=Bt hs nm;have hJ:(Ce l nm).length<=n:=by rw[<-hf];exact FN l nm
 have hy:Hid (L6 l nm tt=HD (Ce (Ce l nm) tt) ⟨tt,DI l nm⟩):=rfl;clear S R T hs hh hf;go_enter func270,ntmps270;go_wp2_with fail;refine hc.mono ?_;rintro e w1 ⟨rfl,hq⟩;have D1:=D.below hq;have hr:=Aa hA hq;have hU:=D1.lt;have d0:w1.cell? ⟨w.heap.size,0,none⟩=some (.string nm):=D1.cell 0;clear hc D hA hq;go_wp2_with fail;refine (hl w1 hr).mono ?_;rintro e w2 ⟨fnm,r,rfl,L,hF⟩;obtain⟨⟨a1,n1,cap1,rows1,S1,R1,T1,ht,he,_⟩,P1,hk,ha⟩:=L;have D2:=hF.blk D1 sH (fun ad e=>by have:=hH ad e;omega);have hC:Below B0 w w2:=(hr.mono sH).trans ha;have hV:=D2.lt;have hQ:=ha.size;clear hl D1 hF ha hH hr d0;generalize Ce l nm=l1 at *;generalize DI l nm=ps at *;have hO:n1<=n:=by rw[<-R1.sl.len,T1.len];exact hJ
 obtain⟨rn,pa,pn,pc⟩:=r;simp only at P1 ht hk ⊢;have hb:Below w2.heap.size w2 (w2.alloc (.cells #[.string fnm,.slice pa pn pc] 192)):=(Yg _ _).alloc (Zd _) _;have F3:=Blk.new w2 #[.string fnm,.slice pa pn pc] 192;have d1:(w2.alloc (.cells #[.string fnm,.slice pa pn pc] 192)).cell? ⟨w.heap.size,1,none⟩=some (.string tt):=(D2.below hb).cell 1;go_wp2_with fail;have S3:=S1.below hb;have R3:=R1.below hb;have T3:=T1.below hb;have P3:=P1.below hb;have D3:=D2.below hb;have hD:Below B0 w _:=hC.trans (hb.mono sH);have hR:w2.heap.size<(w2.alloc (.cells #[.string fnm,.slice pa pn pc] 192)).heap.size:=sK;generalize w2.alloc (.cells #[.string fnm,.slice pa pn pc] 192)=W3 at *;have hv:∀ ad,a1=some ad->ad.block<w2.heap.size:=fun ad e=>(R1.block ad e).2;have hM:∀ ad,pa=some ad->B<=ad.block∧ad.block<w2.heap.size:=fun ad e=>P1.block ad e;have hN:=S1.lt;clear S1 R1 T1 P1 D2 hC hb d1;have hm:=P3.ne_blk S3 sJ;have ho:=P3.ne_res R3 sJ;have hI:=Hq B B0 sb a1 n1 cap1 rows1 l1 tt W3 S3 R3 T3 hK sH h0 h1;refine hI.mono ?_;rintro e w4 ⟨fnm2,r2,rfl,L,hF⟩;obtain⟨⟨a2,n2,cap2,rows2,S4,R4,T4,_,_,hp⟩,_,_,ha⟩:=L;have D4:=hF.blk D3 sH (fun ad e=>by have:=he ad e;have:=hv ad e;have:=(R3.ne_blk D3 sJ) ad e;omega);have F4:=hF.blk F3 sH (fun ad e=>by have:=hv ad e;omega);have P4:=P3.frs KL hF (fun ad e=>⟨hm ad e,fun ad2 e2=>ho ad ad2 e e2⟩);have hE:Below B0 w w4:=hD.trans ha;have hS:=ha.size;have hB:=Bt hK tt;have hw:(Ce l1 tt).length<=n:=Zl (FN l1 tt) hJ;generalize Ce l1 tt=l2 at *;have hP:n2<=n:=by rw[<-R4.sl.len,T4.len];exact hw
 have hg:Hid (∀ (i:Nat) q x z,rows2[i]?=some q->q.pa=some x->pa=some z->x.block≠z.block):=fun i q x z hi hx hz=>by
  obtain⟨j,hj⟩:=hp i q hi;exact ht j q x z hj hx hz
 have e1:w4.cell? ⟨w.heap.size,1,none⟩=some (.string tt):=D4.cell 1;have e2:w4.cell? ⟨w2.heap.size,1,none⟩=some (.slice pa pn pc):=F4.cell 1;clear hI hF ha S3 R3 T3 P3 D3 F3 hD hp ht hv hM hk he hm ho;go_wp2_with fail;refine (LC B B0 sb a2 n2 cap2 rows2 l2 ⟨tt,pa,pn,pc⟩ ⟨tt,ps⟩ w4 S4 R4 T4 hB sH ⟨rfl,P4⟩ hg.out h0 h1 sH).mono ?_;rintro e w5 ⟨rfl,Sh5,hG⟩;have hL:=hE.trans hG;clear S4 R4 T4 D4 F4 P4 hg hE hG e1 e2;go_wp2;go_returns;exact⟨rfl,by rw[hy.out];exact Sh5,hL⟩
theorem Ur (x y:Value)(w:World):(method 418 194 (.agg #[x,y]) "loop.example/g00336/impl.doneOn").run prog w=.ok (254,.agg #[x,y]) w:=by kernel_rfl
theorem Ut (x y:Value)(w:World):(method 418 196 (.agg #[x,y]) "loop.example/g00336/impl.doneOn").run prog w=.ok (270,.agg #[x,y]) w:=by kernel_rfl
theorem Us (x:Value)(w:World):(method 418 198 (.agg #[x]) "loop.example/g00336/impl.doneOn").run prog w=.ok (273,.agg #[x]) w:=by kernel_rfl
theorem Uh (x y:Value)(w:World):(callFunc 254 #[x,y]).run prog w=.ok (.enter 254 #[x,y]) w:=by kernel_rfl
theorem Uj (x y:Value)(w:World):(callFunc 270 #[x,y]).run prog w=.ok (.enter 270 #[x,y]) w:=by kernel_rfl
theorem Ui (x y:Value)(w:World):(callFunc 273 #[x,y]).run prog w=.ok (.enter 273 #[x,y]) w:=by kernel_rfl
theorem fe{p:Prop}(h:p:=by simp[doH,hk,hh]):p:=h
theorem Oq (B B0 sb:Nat)(l:List Hy)(o:Dp)(hf:AP o=true)(hs:Bo l)(hn:l.length<=4194303)(hp:∀ y∈l,y.ps.length<=4194303)(h0:B0<=B)(h1:B0<=sb) :
  ∃ (T:TypeId) (x:Value) (f:FuncId),chV o=.iface T x∧(∀ w:World,(method 418 T x "loop.example/g00336/impl.doneOn").run prog w=.ok (f,x) w)∧(∀ (a b:Value) (w:World),(callFunc f #[a,b]).run prog w=.ok (.enter f #[a,b]) w)∧
   ∀ u,GL B sb u l->B<=u.heap.size->Calls prog f #[x,.pointer (some ⟨sb,0,none⟩)] u fun e w'=>e=.returned (.bool (doH l o).2)∧GL B sb w' (doH l o).1∧Below B0 u w':=by
 rcases formB_k hf with hk | hk | hk
 ·have hd:doH l o=(KW l o.nm o.d,true):=by simp[doH,hk]
  refine ⟨_,_,_,by simp only[chV,hk,if_true];rfl,Ur _ _,Uh,fun u hu hB=>?_⟩;rw[hd];exact Lz B B0 sb l o.nm o.d u hu hs hn hp h0 h1 hB
 ·refine ⟨_,_,_,by simp only[chV,hk,if_true];rfl,Ut _ _,Uj,fun u hu hB=>?_⟩
  cases hh:B3 l o.nm
  ·have hd:doH l o=(l,false):=fe;rw[hd];refine (Hv B sb l o.nm o.tt u hu hs hn hh).mono ?_;rintro e w' ⟨rfl,hb⟩;exact⟨rfl,hu.below hb,hb.mono sH⟩
  ·have hd:doH l o=(L6 l o.nm o.tt,true):=fe;rw[hd];exact LD B B0 sb l o.nm o.tt u hu hs hn hh h0 h1 hB
 ·have ha:¬ o.k=1:=sH;have hc:¬ o.k=2:=sH;refine ⟨_,_,_,by simp only[chV,ha,hc,if_false];rfl,Us _,Ui,fun u hu hB=>?_⟩;obtain⟨a,n,cap,rows,S,R,T⟩:=hu;have he:n<=4194303:=by rw[<-R.sl.len,T.len];exact hn
  cases hh:B3 l o.nm
  ·have hd:doH l o=(l,false):=fe;rw[hd];refine (Ht B sb a n cap rows l o.nm u S R T hs sH hh).mono ?_;rintro e w' ⟨rfl,hb⟩;exact⟨rfl,⟨a,n,cap,rows,S.below hb,R.below hb,T.below hb⟩,hb.mono sH⟩
  ·have hd:doH l o=(Ce l o.nm,true):=fe;have hg:Ce l o.nm=l.eraseIdx (plH l o.nm):=by simp[Ce,hh]
   rw[hd];refine (Hu B B0 sb a n cap rows l o.nm u S R T hs sH hh h0 h1).mono ?_;rintro e w' ⟨rfl,r,y,L⟩;exact⟨rfl,⟨a,n-1,cap,_,L.sh,L.res,by rw[hg];exact L.its⟩,L.low⟩
theorem Oz (d:ByteArray):DC [d]=d:=by
 have:=ID [] d;rw[ZM,JN,Nu] at this;exact this
theorem Ml (l:List Fl):(l.map DG).map Am=l:=by
 rw[List.map_map];have:Am ∘ DG=id:=by funext f;simp[Am,DG,Oz]
 rw[this,List.map_id]
theorem Kn:∀ (l:List Fl) (q:Option Fl),fgo q l=true->(∀ p,q=some p->∀ x∈l,bl p.nm.toList x.nm.toList=true)∧∀ (i j:Nat) x y,i<j->l[i]?=some x->l[j]?=some y->bl x.nm.toList y.nm.toList=true
 |[],q,_=>⟨fun p _ x hx=>(by cases hx),fun i j x y _ hx=>(by simp at hx)⟩
 |z::r,q,h=>by
  have h':nmB z.nm=true∧(∀ p,q=some p->bl p.nm.toList z.nm.toList=true)∧fgo (some z) r=true:=by
   cases q with
   |none=>simp only[fgo,Zf] at h;exact⟨h.1.1,fun p e=>(by cases e),h.2⟩
   |some p=>simp only[fgo,Zf] at h;exact⟨h.1.1,fun p' e=>(by cases e;exact h.1.2),h.2⟩
  obtain⟨ih1,ih2⟩:=Kn r (some z) h'.2.2;refine ⟨fun p hp x hx=>?_,fun i j x y hb hx hy=>?_⟩
  ·rcases Zn.1 hx with rfl | hx
   ·exact h'.2.1 p hp
   ·exact hl_ (h'.2.1 p hp) (ih1 z rfl x hx)
  ·cases j with
   |zero=>omega
   |succ j=>
    have ha:r[j]?=some y:=by simpa using hy
    cases i with
    |zero=>
     obtain rfl:z=x:=oz;exact ih1 z rfl y (Zc ha)
    |succ i=>exact ih2 i j x y sH oz ha
theorem NT {l:List Fl}(h:fgo none l=true):Bo (l.map DG):=by
 intro i j x y ha hx hy;rw[List.getElem?_map] at hx hy;obtain⟨f,hf,rfl⟩:=ZW.1 hx;obtain⟨g,hg,rfl⟩:=ZW.1 hy;exact (Kn l none h).2 i j f g ha hf hg
theorem Nl {l:List Fl}(h:Aq l=true):Hh 1 200000 (l.map DG):=by
 obtain⟨_,hs,hg⟩:=Ba h;refine ⟨fun y hy=>?_,fun y hy s hm=>?_,fun y hy=>?_⟩<;>obtain⟨f,hf,rfl⟩:=ZT.1 hy
 ·simp[DG]
 ·simp[DG] at hm;subst hm;have:=Ck hf;omega
 ·exact EB hg f hf
theorem Ly (v:Value)(d:Dk)(w:World)(h:Bv w v d)(hd:Dg d) :
  Calls prog 36 #[v] w fun e w'=>e=.returned (.bool (Az d))∧Below w.heap.size w w':=by
 obtain⟨la,ln,lc,sa,sn,sc,oa,on,oc,rfl,hL,hS,hO⟩:=h;obtain⟨⟨dl1,dl2⟩,⟨ds1,ds2⟩,do1,do2⟩:=hd;obtain⟨live,safe,ops⟩:=d;simp only at dl1 dl2 ds1 ds2 do1 do2 hL hS hO;have lL:Hid (live.length=ln):=hL.sl.len;have lS:Hid (safe.length=sn):=hS.sl.len;have lO:Hid (ops.length=on):=hO.sl.len;have sL:Pj live:=fun x hx=>⟨(dl2 x hx).1,by have:=(dl2 x hx).2;omega⟩;have sS:Pj safe:=fun x hx=>⟨(ds2 x hx).1,by have:=(ds2 x hx).2;omega⟩;have qL:Below w.heap.size w (w.alloc (.cells #[.slice la ln lc,.slice sa sn sc,.slice oa on oc] 27)):=sM;have D0:=Blk.new w #[.slice la ln lc,.slice sa sn sc,.slice oa on oc] 27;rw[lL.out] at dl1;rw[lS.out] at ds1;rw[lO.out] at do1
 cases qJ:Aq live
 ·have hf:Hid (Az ⟨live,safe,ops⟩=false):=by show _=_;simp[Az,qJ]
  go_enter func36,ntmps36;go_wp2_with fail;refine (CF la ln lc live _ (hL.sl.below qL) sL sH).mono ?_;exact pX
 ·cases zO:Aq safe
  ·have hf:Hid (Az ⟨live,safe,ops⟩=false):=by show _=_;simp[Az,zO]
   go_enter func36,ntmps36;go_wp2_with fail;refine (CF la ln lc live _ (hL.sl.below qL) sL sH).mono ?_;rintro e w1 ⟨rfl,qe⟩;rw[qJ];have D1:=D0.below qe;have x1:w1.cell? ⟨w.heap.size,1,none⟩=some (.slice sa sn sc):=D1.cell 1;have zW:=Aa qL qe;go_wp2_with fail;refine (CF sa sn sc safe _ (hS.sl.below zW) sS sH).mono ?_;exact pY
  ·go_enter func36,ntmps36;go_wp2_with fail;refine (CF la ln lc live _ (hL.sl.below qL) sL sH).mono ?_;rintro e w1 ⟨rfl,qe⟩;rw[qJ];have D1:=D0.below qe;have x1:w1.cell? ⟨w.heap.size,1,none⟩=some (.slice sa sn sc):=D1.cell 1;have zW:=Aa qL qe;go_wp2_with fail;refine (CF sa sn sc safe _ (hS.sl.below zW) sS sH).mono ?_;rintro e w2 ⟨rfl,qj⟩;rw[zO];have D2:=D1.below qj;have ke:=Aa zW qj;clear x1;have x1:w2.cell? ⟨w.heap.size,1,none⟩=some (.slice sa sn sc):=D2.cell 1;have x2:w2.cell? ⟨w.heap.size,2,none⟩=some (.slice oa on oc):=D2.cell 2;by_cases h200:on<=200
   ·have jF:¬ (200:Int)<on:=sH;have hf:Hid (Az ⟨live,safe,ops⟩=(match runF safe ops with | none=>false | some l=>BV l live)):=by
     exact mO
    obtain⟨_,_,hJ⟩:=Ba zO;go_wp2_with fail;refine (GW sa sn sc safe w2 (hS.sl.below ke) sH).mono ?_;rintro e w3 ⟨⟨a3,c3,rows3,rfl,R3,T3⟩,hj⟩;have D3:=D2.below hj;have h1:=D2.lt;have hh:Below w3.heap.size w3 (w3.alloc (.cells #[.slice a3 sn c3] 135)):=(Yg _ _).alloc (Zd _) _;have S4:=Blk.new w3 #[.slice a3 sn c3] 135;have Sh4:GL w2.heap.size w3.heap.size (w3.alloc (.cells #[.slice a3 sn c3] 135)) (safe.map DG):=⟨a3,sn,c3,rows3,S4,R3.below hh,T3.below hh⟩;have hQ:=Aa hj hh;have hW:=hj.size;have x2b:(w3.alloc (.cells #[.slice a3 sn c3] 135)).cell? ⟨w.heap.size,2,none⟩=some (.slice oa on oc):=(D3.below hh).cell 2;clear D3 S4 R3 T3 x1 x2 hj hh D0 D1;go_wp2_with fail;generalize w3.alloc (.cells #[.slice a3 sn c3] 135)=W4 at *;go_loopw [30] (fun ix wr=>∃ (k:Nat) (cur:List Hy),k<=on∧ix=.int .i64 k∧GL w2.heap.size w3.heap.size wr cur∧Bo cur∧Hh (1+k) 10000000 cur∧Do cur=true∧Hid (runF safe ops=runF (cur.map Am) (ops.drop k))∧Below w2.heap.size w2 wr) (fun ix _=>on-(intOf ix).toNat)
    case atStart=>exact⟨0,safe.map DG,Zg _,rfl,Sh4,NT hJ,(Nl zO).mono sH sH,by rw[<-Iu (NT hJ) (Nl zO),Ml];exact zO,by show _=_;rw[Ml];simp,hQ⟩
    case round=>
     obtain⟨k,cur,hk,rfl,Sh,hs,hb,hC,hI,hB⟩:=hrel;have hu:=Aa ke hB;have hz:cur.length<=60∧Da cur<=200000:=by simpa [Do] using hC
     have D3:=D2.below hB;have h0:=hB.size;clear x2b;by_cases hlt:k<on
     ·obtain⟨b,o,op,rfl,hp,c0,c1,c2',c3'⟩:=PO (hO.sl.below hu) hlt;obtain⟨hN,hM⟩:=do2 op (Zc hp);have hc:Hid (runF safe ops=if ((doH cur op).2&&AP op&&Do (doH cur op).1)=true then runF ((doH cur op).1.map Am) (ops.drop (k+1)) else none):=by
       show _=_;rw[hI.out,al_ hp]
       cases ha:AP op
       ·simp[runF,ha]
       ·have e1:=Iu (Nt hs op) (Ns hb ha hM);show (if ((doF (cur.map Am) op).2&&AP op&&Aq (doF (cur.map Am) op).1)=true then runF (doF (cur.map Am) op).1 (ops.drop (k+1)) else none)=_;rw[Ug hs op];simp only[ha,e1]
      clear hp;have hX:(k:Int)<on:=sH;have hY:(0:Int)<=k:=sH;have hE:Below wr.heap.size wr (wr.alloc (.cells #[.int .i64 op.k,.string op.nm,.string op.tt,.string op.d] 89)):=(Yg _ _).alloc (Zd _) _;go_wp2_with fail;refine (Jk op.k op.nm op.tt op.d _ hN.1 hN.2.1).mono ?_;rintro e w5 ⟨⟨v5,rfl,hP⟩,hF⟩;have hv:=Aa hE hF;have Sh5:=Sh.below hv;have hl:=Aa hB hv
      cases ha:AP op
      ·have qF:Hid (runF safe ops=none):=by show _=_;rw[hc.out,ha];simp
       go_wp2;go_returns;exact⟨rz,Aa ke hl⟩
      ·obtain rfl:=hP ha;obtain⟨TT,xx,ff,hH,hT,hA,he⟩:=Oq w2.heap.size w2.heap.size w3.heap.size cur op ha hs sH (fun y hy=>by have:=hb.ps y hy;omega) (Zd _) hW;rw[show chV ⟨op.k,op.nm,op.tt,op.d⟩=.iface TT xx from hH];have hw:=Ns hb ha hM;have hV:=Nt hs op;have hZ:=Sn cur op;clear hP hE hF Sh hH;go_wp2_with fail;refine (he w5 Sh5 hl.size).mono ?_;rintro e w6 ⟨rfl,Sh6,hn⟩;have ho:Below w2.heap.size w2 w6:=hl.trans hn;clear he hT hA Sh5 hn hl hv
       cases ht:(doH cur op).2
       ·have qF:Hid (runF safe ops=none):=by show _=_;rw[hc.out,ht];simp
        go_wp2;go_returns;exact⟨rz,Aa ke ho⟩
       ·generalize hnx:(doH cur op).1=nx at *;obtain⟨a6,n6,c6,rows6,S6,R6,T6⟩:=Sh6;have hU:n6<=61:=by rw[<-R6.sl.len,T6.len];omega
        go_wp2_with fail;refine (JL w2.heap.size w3.heap.size a6 n6 c6 rows6 nx w6 S6 R6 T6 sH (fun y hy=>by have:=hw.ps y hy;omega) (fun y hy s hm=>by have:=hw.sz y hy s hm;omega)).mono ?_;rintro e w7 ⟨rfl,hq⟩;have hg:=Aa ho hq
        cases hD:Do nx
        ·have qF:Hid (runF safe ops=none):=by show _=_;rw[hc.out,ht,ha,hD];simp
         go_wp2;go_returns;exact⟨rz,Aa ke hg⟩
        ·have hnext:Hid (runF safe ops=runF (nx.map Am) (ops.drop (k+1))):=by show _=_;rw[hc.out,ht,ha,hD];simp
         have Sh7:GL w2.heap.size w3.heap.size w7 nx:=⟨a6,n6,c6,rows6,S6.below hq,R6.below hq,T6.below hq⟩;go_wp2;go_roundw
         case rel=>exact⟨k+1,nx,sH,sQ,Sh7,hV,by rw[show 1+(k+1)=1+k+1 by omega];exact hw,hD,hnext,hg⟩
         case measure=>simp[intOf];omega
     ·obtain rfl:k=on:=sH;have qF:Hid (runF safe ops=some (cur.map Am)):=by
       show _=_;rw[hI.out,Ze (Zm lO.out)];rfl
      have ht:¬ (k:Int)<k:=sH;obtain⟨a6,n6,c6,rows6,S6,R6,T6⟩:=Sh;have hU:n6<=60:=by rw[<-R6.sl.len,T6.len];omega
      go_wp2_with fail;have hR:(fun u=>u.cell? ⟨w.heap.size,0,none⟩=some (.slice la ln lc)) wr.drew:=D3.cell 0;refine aC_ (S:=(fun u=>u.cell? ⟨w.heap.size,0,none⟩=some (.slice la ln lc))) 5 sI rfl ?_;refine tk 1 ?_;refine tk 2 ?_;refine Ag (i:=0) sI rfl (fun K hK=>?_);go_simp;have hr:Below wr.heap.size wr wr.drew:=(Yg _ _).drew;refine (MB w2.heap.size w3.heap.size a6 n6 c6 rows6 cur wr.drew (S6.below hr) (R6.below hr) (T6.below hr) sH (fun y hy=>by have:=hb.ps y hy;omega) hz.2).mono ?_;rintro e w7 ⟨⟨a7,c7,rfl,R7⟩,hn⟩;have hg:=Aa hr hn;dsimp only;refine hK.out _ _ ((D3.below hg).cell 0) (fun hHeld=>?_);clear hK K;(try simp only[Act.put,Yj,Yq,Yr]);refine Ag (i:=3) sI rfl (fun K hK=>?_);go_simp;refine (Lq a7 n6 c7 (cur.map Am) la ln lc live w7 R7.sl ((hL.sl.below hu).below hg) sH sH).mono ?_;rintro e w8 ⟨rfl,ho⟩;have hG:=Aa hg ho;dsimp only;refine hK.out _ _ ((D3.below hG).cell 0) (fun hHeld=>?_);clear hK K;(try simp only[Act.put,Yj,Yq,Yr]);refine tk 4 ?_;refine wpAnyH_done sI ?_ _;clear hR hHeld;go_wp2;go_returns;exact⟨rz,Aa hu hG⟩
   ·exact mV
theorem Ji (v:Value)(d:Dk)(nm:ByteArray)(w:World)(h:Bv w v d)(hd:Dg d) :
  Calls prog 13 #[v,.string nm] w fun e w'=>e=.returned (.tuple #[.string (rdD d nm).1,.bool (rdD d nm).2])∧Below w.heap.size w w':=by
 have hD:=h;obtain⟨la,ln,lc,sa,sn,sc,oa,on,oc,rfl,hL,hS,hO⟩:=h;have ho:ln<=4000000:=by rw[<-hL.sl.len];exact hd.live.1
 have hf:Below w.heap.size w (w.alloc (.cells #[.slice la ln lc,.slice sa sn sc,.slice oa on oc] 27)):=sM;have D0:=Blk.new w #[.slice la ln lc,.slice sa sn sc,.slice oa on oc] 27;go_enter func13,ntmps13;go_wp2_with fail;refine (Ly _ d _ (hD.below hf) hd).mono ?_;rintro e w1 ⟨rfl,hg⟩;have D1:=D0.below hg;have hb:=Aa hf hg
 cases hh:Az d
 ·have hr:Hid (rdD d nm=(⟨#[]⟩,false)):=MQ nm hh;go_wp2;go_returns;exact⟨by rw[hr.out]<;>rfl,hb⟩
 ·have hr:Hid (rdD d nm=rdL d.live nm):=Ic nm hh;obtain⟨x0,x1,x2⟩:=D1.three;have hj:=hL.sl.below hb;have qg:Hid (d.live.length=ln):=hL.sl.len;generalize d.live=live at *;go_wp2_with fail;go_loopw [14] (fun ix wr=>∃ k:Nat,k<=ln∧ix=.int .i64 k∧Hid (atF live nm=(atF (live.drop k) nm).map (·+k))∧Below w1.heap.size w1 wr) (fun ix _=>ln-(intOf ix).toNat)
  case atStart=>exact⟨0,Zg _,rfl,dI,Yg _ _⟩
  case round=>
   obtain⟨k,hk,rfl,hI,hB⟩:=hrel;by_cases hlt:k<ln
   ·obtain⟨b,o,p,rfl,hp,c0,c1⟩:=Ec (hj.below hB) hlt;have qh:=KX (nm:=nm) hp;have hl:Hid (live[k]?=some p):=hp;clear hp;have hm:(k:Int)<ln:=sH;have hn:(0:Int)<=k:=sH;have hA:Below wr.heap.size wr (wr.alloc (.cells #[.string p.nm,.string p.d] 39)):=(Yg _ _).alloc (Zd _) _
    cases zf:(p.nm.toList==nm.toList)
    ·have hq:¬ p.nm.toList=nm.toList:=rH;rw[zf,if_neg sK] at qh;have he:Hid (atF live nm=(atF (live.drop (k+1)) nm).map (·+(k+1))):=du;clear qh hI;go_wp2;go_roundw
     case rel=>exact⟨k+1,sH,sQ,he,Aa hB hA⟩
     case measure=>simp[intOf];omega
    ·have hq:p.nm.toList=nm.toList:=rH;rw[zf,if_pos rfl] at qh;have hc:Hid (rdD d nm=(p.d,true)):=by
      show _=_;rw[hr.out];unfold rdL;rw[hI.out,qh];simp only[hl.out]
     clear qh hI;go_wp2;go_returns;exact⟨by rw[hc.out]<;>rfl,Aa (Aa hb hB) hA⟩
   ·obtain rfl:k=ln:=sH;have ha:atF live nm=none:=by
     exact ms
    have hc:Hid (rdD d nm=(⟨#[]⟩,false)):=by show _=_;rw[hr.out];unfold rdL;rw[ha]
    clear hI ha;go_wp2;go_returns;exact⟨by rw[hc.out]<;>rfl,Aa hb hB⟩
end
section
open Go Go.RowKit Go.BigFrame Go.Shelf Tryz
theorem UL:AG 0=⟨#[48]⟩:=by
 unfold AG Lib.itoa;rw[if_neg sH];rw[show (0:Int).toNat=0 from rfl,Lib.decDigits];rfl
theorem Kp (w:World)(ht:Gx w) :
  Calls prog 14 #[.int .i64 0] w fun e w'=>e=.returned (.string s0N)∧Below w.heap.size w w':=by
 have e1:¬ 9223372036854775807<(⟨#[115]⟩:ByteArray).size+(⟨#[48]⟩:ByteArray).size:=sJ;go_enter func14,ntmps14;go_wp2_with fail;refine (AF 0 _ sH sH ht).mono ?_;rintro e w1 ⟨rfl,qe⟩;rw[UL];exact mB
end
section
open Go Go.RowKit Go.BigFrame Tryz
theorem UM:AG 1=⟨#[49]⟩:=by
 unfold AG Lib.itoa;rw[if_neg sH];rw[show (1:Int).toNat=1 from rfl,Lib.decDigits];rfl
theorem UN:AG 2=⟨#[50]⟩:=by
 unfold AG Lib.itoa;rw[if_neg sH];rw[show (2:Int).toNat=2 from rfl,Lib.decDigits];rfl
theorem Kq (w:World)(ht:Gx w) :
  Calls prog 14 #[.int .i64 1] w fun e w'=>e=.returned (.string (slN 1))∧Below w.heap.size w w':=by
 have e1:¬ 9223372036854775807<(⟨#[115]⟩:ByteArray).size+(⟨#[49]⟩:ByteArray).size:=sJ;go_enter func14,ntmps14;go_wp2_with fail;refine (AF 1 _ sH sH ht).mono ?_;rintro e w1 ⟨rfl,qe⟩;rw[UM];exact mB
theorem Kr (w:World)(ht:Gx w) :
  Calls prog 14 #[.int .i64 2] w fun e w'=>e=.returned (.string (slN 2))∧Below w.heap.size w w':=by
 have e1:¬ 9223372036854775807<(⟨#[115]⟩:ByteArray).size+(⟨#[50]⟩:ByteArray).size:=sJ;go_enter func14,ntmps14;go_wp2_with fail;refine (AF 2 _ sH sH ht).mono ?_;rintro e w1 ⟨rfl,qe⟩;rw[UN];exact mB
theorem Ks (i:Nat)(hi:i<3)(w:World)(ht:Gx w) :
  Calls prog 14 #[.int .i64 ((i:Nat):Int)] w fun e w'=>e=.returned (.string (slN i))∧Below w.heap.size w w':=by
 match i,hi with
 |0,_=>exact Kp w ht
 |1,_=>exact Kq w ht
 |2,_=>exact Kr w ht
theorem lR{p:Prop}(h:p:=by
 rw[if_pos hneg] at kw;have:=kw.out;subst this;obtain⟨r0,r1,r2,r3,r4,r5⟩:=QB.sixM;have f0:=QB.frozen 0;have f1:=QB.frozen 1;have f2:=QB.frozen 2;have f3:=QB.frozen 3;have f4:=QB.frozen 4;have f5:=QB.frozen 5;go_wp2;obtain⟨E8,M8,qB⟩:=AS (p:=Ao) QB hB sH (Dx w.heap.size wr);change bodyPost _ _ _ _ _ (Bm wr (w.heap.size+1) (.int .i64 0) (.int .i64 0) (.slice none 0 0) (.slice none 0 0) (.slice none 0 0) (.slice none 0 0));generalize Bm wr (w.heap.size+1) (.int .i64 0) (.int .i64 0) (.slice none 0 0) (.slice none 0 0) (.slice none 0 0) (.slice none 0 0)=W8 at *;refine YW (B5 rfl _ W8 (w.heap.size+1) _ _ _ _ _ _ rfl rfl rfl E8 underlying33 rfl sI) rfl ?_
 exact⟨⟨_,rfl,M8⟩,qB⟩):p:=h
theorem lT{p:Prop}(h:p:=by
 have qB:=hB.grown qX (by have:=QB.lt;omega) (fun k e=>by cases e;omega);refine hK.out _ _ P8.sixM (fun hHeld=>?_);clear hK K;(try simp only[Act.put,Yj,Yq,Yr]);generalize ((((((y0).setCell ⟨w.heap.size+1,0,none⟩ (.int .i64 p0.size)).setCell ⟨w.heap.size+1,1,none⟩ (.int .i64 p0.next)).setCell ⟨w.heap.size+1,2,none⟩ (.slice ea0 en0 ec0)).setCell ⟨w.heap.size+1,3,none⟩ (.slice va0 vn0 vc0)).setCell ⟨w.heap.size+1,4,none⟩ (.slice ra0 rn0 rc0)).setCell ⟨w.heap.size+1,5,none⟩ (.slice la0 ln0 lc0)=W8 at *;refine tk 4 ?_;refine wpAnyH_done sI ?_ _;go_wp2;refine YW (B5 rfl _ W8 (w.heap.size+1) _ _ _ _ _ _ rfl rfl rfl E8 underlying33 rfl sI) rfl ?_
 exact⟨⟨_,rfl,M8⟩,qB⟩):p:=h
end
end Go.Proofs.YteejlahappbalaaGreatDoor
