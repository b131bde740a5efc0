/- ownerOk of the program, l3Owner of the model. -/
import Derived.Lib.SmallJoins
import Derived.Test.YtahenegmbmnmjaaGreatDoorU04
set_option maxHeartbeats 20000000
set_option maxRecDepth 100000
namespace Go.Proofs.YtahenegmbmnmjaaGreatDoor
section
open Go Go.RowKit Go.BigFrame Tryz
variable{c:Array Value}{l:List Ct}{t:TypeId}{x y:Value}{w w1:World}
theorem bV_ (a:Option Addr)(n cap:Nat)(l:List Ct)(w:World)(h:A5 w a n l)(hstr:By l)(hn:n<=4194304):
  Calls prog 155 #[.slice a n cap] w fun e w'=>e=.returned (.bool (AO l))∧Below w.heap.size w w':=by
 have he:Hid (l.length=n):=h.len;by_cases h2:n<=200
 ·have hc:Hid (AO l=rgo (aheadC l 0) (l.drop 0)):=by show _=_;simp[AO,he.out,h2,aheadC]
  go_enter func155,ntmps155
  go_wp2_with fail
  go_loopw [3] (fun ix wr=>∃ (k:Nat),k<=n∧ix=.int .i64 k∧Hid (AO l=rgo (aheadC l k) (l.drop k))∧Below w.heap.size w wr) (fun ix _=>n-(intOf ix).toNat)
  case atStart=>exact⟨0,Zg _,rfl,hc,Yg _ _⟩
  case round=>
   obtain⟨k,hk,rfl,hI,hB⟩:=hrel;by_cases hlt:k<n
   ·obtain⟨b,o,p,rfl,hp,c0,c1,c2,c3⟩:=aN_ (h.below hB) hlt;have hd:Hid (l.drop k=p::l.drop (k+1)):=al_ hp;have hq:Hid (l[k]?=some p):=hp;have hg:=hstr.at hp;clear hp;have hu:=hB.size;have hs:(k:Int)<n:=by omega
    have ht:(0:Int)<=k:=by omega
    cases hb:AY p.o
    ·go_wp2_with fail
     have g0:=Ad c0;have g1:=Ad c1;have g2:=Ad c2;have g3:=Ad c3;have hj:=aA_ wr;refine ab_ (by kernel_rfl) (by kernel_rfl) ?_
     repeat (go_big_quiet_step (first | (go_at_call 205;have qq:=fun w=>bq_ p.o w hg;rw[hb] at qq;exact an_ (qq _))))
     refine wpQuiet_nil ?_;intro w2 hx;have ha:=ah_ hx;clear hx;go_wp2;go_returns;go_light;refine⟨ac_ ?_,Aa hB ha⟩;rw[hI.out,hd.out];cases aheadC l k<;>simp[rgo,CM,hb]
    ·cases hf:(decide (1<=p.n)&&decide (p.n<=1000))
     ·have hz:Hid (CM p=false):=by show _=_;simp only[CM,hb,Zp,hf]
      go_wp2_with fail
      have g0:=Ad c0;have g1:=Ad c1;have g2:=Ad c2;have g3:=Ad c3;have hj:=aA_ wr;refine ab_ (by kernel_rfl) (by kernel_rfl) ?_
      repeat (go_big_quiet_step (first | (go_at_call 205;have qq:=fun w=>bq_ p.o w hg;rw[hb] at qq;exact an_ (qq _)) | (go_at_call 93;have qq:=ai_ p.n 1 1000;rw[hf] at qq;exact am_ (qq _))))
      refine wpQuiet_nil ?_;intro w2 hx;have ha:=ah_ hx;clear hx;go_wp2;go_returns;go_light;refine⟨ac_ ?_,Aa hB ha⟩;rw[hI.out,hd.out];cases aheadC l k<;>simp[rgo,hz.out]
     ·have hr:Hid (CM p=true):=by show _=_;simp only[CM,hb,Zp,hf]
      rcases k with _ | j
      ·simp only[Nat.zero_mul,Nat.add_zero] at c0 c1 c2 c3
       go_wp2_with fail
       have g0:=Ad c0;have g1:=Ad c1;have g2:=Ad c2;have g3:=Ad c3;have hj:=aA_ wr;refine ab_ (by kernel_rfl) (by kernel_rfl) ?_
       repeat (go_big_quiet_step (first | (go_at_call 205;have qq:=fun w=>bq_ p.o w hg;rw[hb] at qq;exact an_ (qq _)) | (go_at_call 93;have qq:=ai_ p.n 1 1000;rw[hf] at qq;exact am_ (qq _))))
       refine wpQuiet_nil ?_;intro w2 hx;have ha:=ah_ hx;clear hx;go_wp2;go_roundw
       case rel=>exact⟨1,by omega,by go_num,by show _=_;rw[hI.out,hd.out,gH_,bU_,hq.out];simp[rgo,hr.out],Aa hB ha⟩
       case measure=>simp[intOf];omega
      ·obtain⟨b',o',q,hm,ho,d0,d1,d2,d3⟩:=aN_ (h.below hB) (k:=j) (by omega);obtain⟨rfl,rfl⟩:b=b'∧o=o':=by simpa using hm
       have hl:Hid (aheadC l (j+1)=some q):=by show _=_;rw[bU_];exact ho
       clear ho hm d3
       cases hh:Bc q.o p.o
       all_goals
        go_wp2_with fail
        have g0:=Ad c0;have g1:=Ad c1;have g2:=Ad c2;have g3:=Ad c3;have g4:=Ad d0;have g5:=Ad d1;have g6:=Ad d2;have hj:=aA_ wr;refine ab_ (by kernel_rfl) (by kernel_rfl) ?_
        repeat (go_big_quiet_step (first | (go_at_call 205;have qq:=fun w=>bq_ p.o w hg;rw[hb] at qq;exact an_ (qq _)) | (go_at_call 93;have qq:=ai_ p.n 1 1000;rw[hf] at qq;exact am_ (qq _)) | (go_at_call 206;have qq:=aF_ q.o p.o;rw[hh] at qq;exact an_ (qq _))))
        refine wpQuiet_nil ?_;intro w2 hx;have ha:=ah_ hx;clear hx;go_wp2
       ·go_returns;go_light;refine⟨ac_ ?_,Aa hB ha⟩;rw[hI.out,hd.out,hl.out];simp[rgo,hh]
       ·go_roundw
        case rel=>exact⟨j+2,by omega,by go_num,by show _=_;rw[hI.out,hd.out,hl.out,bU_,hq.out];simp[rgo,hh,hr.out],Aa hB ha⟩
        case measure=>simp[intOf];omega
   ·obtain rfl:k=n:=by omega
    go_wp2;go_returns;go_light;refine⟨ac_ ?_,hB⟩;rw[hI.out,Ze (Zm he.out)];cases aheadC l k<;>rfl
 ·have hc:Hid (AO l=false):=by show _=_;have:=he.out;simp[AO];omega
  go_enter func155,ntmps155;go_wp2;go_returns;go_light;exact⟨ac_ hc.out.symm,Yg _ _⟩
def Aq (refs late:List Ct):Option (List Ct):=if AO refs=true∧A4 late=true then (if AO (AR refs late)=true then some (AR refs late) else none) else none
theorem br_ (h:A4 l=true):l.length<=200∧∀ x∈l,-1000<=x.n∧x.n<=1000:=by
 simp only[A4,Zf,ZU,List.all_eq_true] at h;refine⟨h.1,fun x hx=>?_⟩
 have:=h.2 x hx
 simp only[BU,Zf,ZU] at this;exact⟨this.1.1.2,this.1.2⟩
theorem j5_ {c:Ct}(hc:c.o.f.size<=9223372036854775807):∀ {l:List Ct},By l->By (Bm l c)
 |[],_=>by intro x hx;simp[Bm] at hx;subst hx;exact hc
 |y::r,h=>by
  have hy:=h y (by simp);have hr:By r:=fun x hx=>h x (by simp[hx]);unfold Bm;split
  ·intro x hx;rcases Zn.1 hx with rfl | hx
   ·exact hy
   ·exact j5_ hc hr x hx
  ·split
   ·split
    ·intro x hx;rcases Zn.1 hx with rfl | hx
     ·exact hc
     ·exact hr x hx
    ·exact hr
   ·intro x hx;rcases Zn.1 hx with rfl | hx
    ·exact hc
    ·exact h x hx
theorem ht_:∀ {more l:List Ct},By l->By more->By (AR l more)
 |[],l,h,_=>h
 |c::r,l,h,hm=>ht_ (more:=r) (l:=Bm l c) (j5_ (hm c (by simp)) h) (fun x hx=>hm x (by simp[hx]))
theorem g1_:∀ {l:List Ct} {q:Option Ct},rgo q l=true->∀ x∈l,CM x=true
 |[],_,_=>by simp
 |c::r,q,h=>by
  have h2:CM c=true∧rgo (some c) r=true:=by
   cases q
   ·simpa only[rgo,Zf] using h
   ·simp only[rgo,Zf] at h;exact⟨h.1.1,h.2⟩
  intro x hx;rcases Zn.1 hx with rfl | hx
  ·exact h2.1
  ·exact g1_ h2.2 x hx
theorem a0_ (h:AO l=true):l.length<=200∧∀ x∈l,1<=x.n∧x.n<=1000:=by
 simp only[AO,Zf,ZU] at h;refine⟨h.1,fun x hx=>?_⟩
 have:=g1_ h.2 x hx
 simp only[CM,Zf,ZU] at this;exact⟨this.1.2,this.2⟩
def HJ (B:Nat)(e:Ending)(w':World):Option (List Ct)->Prop
 |none=>e=.returned (.tuple #[.slice none 0 0,.bool false])
 |some L=>∃ a n cap,e=.returned (.tuple #[.slice a n cap,.bool true])∧Ae Ct.cs 4 80 w' B a n cap L
theorem je_ (a:Option Addr)(n cap:Nat)(l:List Ct)(a':Option Addr)(n' cap':Nat)(more:List Ct)(w:World)(h:A5 w a n l)(ha1:∀ ad,a=some ad->ad.spot=none)(ha2:a=none->cap=0)(h':A5 w a' n' more)(hstr:By l)(hstr':By more)(hn:n<=4194304)(hn':n'<=4194304):
  Calls prog 95 #[.slice a n cap,.slice a' n' cap'] w fun e w'=>HJ w.heap.size e w' (Aq l more)∧Below w.heap.size w w':=by
 have hs:Hid (l.length=n):=h.len;have ho:Hid (more.length=n'):=h'.len
 cases hh:AO l
 ·have hf:Aq l more=none:=by simp[Aq,hh]
  rw[hf];go_enter func95,ntmps95
  go_wp2_with fail
  refine (bV_ a n cap l _ h hstr hn).mono ?_;rintro e w1 ⟨rfl,he⟩;rw[hh];go_wp2;go_returns;go_light;exact⟨rfl,he⟩
 ·cases ha:A4 more
  ·have hf:Aq l more=none:=by simp[Aq,ha]
   rw[hf];go_enter func95,ntmps95
   go_wp2_with fail
   refine (bV_ a n cap l _ h hstr hn).mono ?_;rintro e w1 ⟨rfl,he⟩;rw[hh]
   go_wp2_with fail
   refine (em_ a' n' cap' more _ (h'.below he) hstr' hn').mono ?_;rintro e w2 ⟨rfl,hj⟩;rw[ha];have hc:=Aa he hj;go_wp2;go_returns;go_light;exact⟨rfl,hc⟩
  ·obtain⟨hl,hb⟩:=a0_ hh;obtain⟨hw,ht⟩:=br_ ha;have hu:n<=200:=by rw[<-hs.out];exact hl
   have hm:n'<=200:=by rw[<-ho.out];exact hw
   have hv:=ht_ hstr hstr'
   cases hg:AO (AR l more)
   ·have hf:Aq l more=none:=by simp[Aq,hh,ha,hg]
    rw[hf];clear hf;go_enter func95,ntmps95
    go_wp2_with fail
    refine (bV_ a n cap l _ h hstr hn).mono ?_;rintro e w1 ⟨rfl,he⟩;rw[hh]
    go_wp2_with fail
    refine (em_ a' n' cap' more _ (h'.below he) hstr' hn').mono ?_;rintro e w2 ⟨rfl,hj⟩;rw[ha];have hc:=Aa he hj
    go_wp2_with fail
    refine (hs_ a n cap l a' n' cap' more w2 (h.below hc) ha1 ha2 (h'.below hc) hu hm (fun x hx=>by have:=hb x hx;omega) ht).mono ?_;rintro e w4 ⟨⟨a2,n2,cap2,rfl,hy,R2⟩,hp⟩;have hq:=Aa hc hp;replace R2:=R2.mono hc.size
    go_wp2_with fail
    refine (bV_ a2 n2 cap2 (AR l more) _ R2.sl hv (by omega)).mono ?_;rintro e w6 ⟨rfl,hk⟩;rw[hg];have hr:=Aa hq hk;replace R2:=R2.below hk;go_wp2;go_returns;go_light;exact⟨rfl,hr⟩
   ·have hf:Aq l more=some (AR l more):=by simp[Aq,hh,ha,hg]
    rw[hf];clear hf;go_enter func95,ntmps95
    go_wp2_with fail
    refine (bV_ a n cap l _ h hstr hn).mono ?_;rintro e w1 ⟨rfl,he⟩;rw[hh]
    go_wp2_with fail
    refine (em_ a' n' cap' more _ (h'.below he) hstr' hn').mono ?_;rintro e w2 ⟨rfl,hj⟩;rw[ha];have hc:=Aa he hj
    go_wp2_with fail
    refine (hs_ a n cap l a' n' cap' more w2 (h.below hc) ha1 ha2 (h'.below hc) hu hm (fun x hx=>by have:=hb x hx;omega) ht).mono ?_;rintro e w4 ⟨⟨a2,n2,cap2,rfl,hy,R2⟩,hp⟩;have hq:=Aa hc hp;replace R2:=R2.mono hc.size
    go_wp2_with fail
    refine (bV_ a2 n2 cap2 (AR l more) _ R2.sl hv (by omega)).mono ?_;rintro e w6 ⟨rfl,hk⟩;rw[hg];have hr:=Aa hq hk;replace R2:=R2.below hk;go_wp2;go_returns;go_light;exact⟨⟨a2,n2,cap2,rfl,R2⟩,hr⟩
theorem Blk.other {b:Nat}(h:Blk w b c t)(p:Addr)(v:Value)(hp:b≠p.block):Blk (w.setCell p v) b c t:=by
 unfold Blk at *;rw[Below.heap_setCell _ _ _ _ (by simpa using hp)];exact h
def FS (p q:Ct):Bool:=Bz p.o q.o&&p.n==q.n
def Bo:List Ct->List Ct->Bool
 |[],[]=>true
 |p::r,q::s=>FS p q&&Bo r s
 |_,_=>false
theorem gg_:∀ {m:List Ct},l.length≠m.length->Bo l m=false:=by
 induction l with
 |nil=>intro m h;cases m<;>simp[Bo] at *
 |cons p r ih=>intro m h;cases m<;>simp[Bo] at *;exact fun _=>ih h
end
section
open Go Go.RowKit
structure It where
 nm:ByteArray
 ps:List Pt
end
section
open Go Go.RowKit
variable{B B' k n r:Nat}{a:Option Addr}{w w':World}
variable{l:List It}
structure Vo where
 id:Int
 nm:ByteArray
 fx:Bool
 its:List It
structure Po where
 size:Int
 next:Int
 ex:List Ex
 vs:List Vo
 rf:List Ct
 lt:List Ct
def Hd (B:Nat)(a:Option Addr)(n cap:Nat):Prop:=n<=cap∧cap<=9223372036854775807∧(0<B->(a=none->cap=0)∧∀ ad,a=some ad->ad.spot=none)
theorem Hd.mono {cap:Nat}(h:Hd B a n cap)(hb:B'<=B):Hd B' a n cap:=⟨h.1,h.2.1,fun h0=>h.2.2 (by omega)⟩
def Sf (B:Nat)(w:World)(a:Option Addr):Prop:=0<B->∀ ad,a=some ad->B<=ad.block∧∃ c t,Blk w ad.block c t
theorem Sf.below (h:Sf B w a)(hb:Below w.heap.size w w'):Sf B w' a:=fun h0 ad e=>by
 obtain⟨h1,c,t,h2⟩:=h h0 ad e;exact⟨h1,c,t,h2.below hb⟩
theorem Sf.mono (h:Sf B w a)(hb:B'<=B):Sf B' w a:=fun h0 ad e=>by
 obtain⟨h1,r⟩:=h (by omega) ad e;exact⟨by omega,r⟩
theorem Sf.grown (h:Sf B w a)(hg:w.grownBy w' (some r))(hr:r<B):Sf B w' a:=fun h0 ad e=>by
 obtain⟨h1,c,t,h2⟩:=h h0 ad e;exact⟨h1,c,t,h2.grown hg (by simp only[ne_eq];omega)⟩
structure Bg (B:Nat)(w:World)(a:Option Addr)(n:Nat)(l:List It):Prop where
 len:l.length=n
 cell:∀ i x,l[i]?=some x->∃ b o pa pn pc,a=some ⟨b,o,none⟩∧w.cell? ⟨b,o+i*2,none⟩=some (.string x.nm)∧w.cell? ⟨b,o+i*2+1,none⟩=some (.slice pa pn pc)∧AN w pa pn x.ps∧Hd B pa pn pc∧B<=b∧(∀ ad,pa=some ad->B<=ad.block)∧Sf B w pa∧Sf B w a
structure Bb (B:Nat)(w:World)(a:Option Addr)(n:Nat)(l:List Vo):Prop where
 len:l.length=n
 cell:∀ i x,l[i]?=some x->∃ b o pa pn pc,a=some ⟨b,o,none⟩∧w.cell? ⟨b,o+i*4,none⟩=some (.int .i64 x.id)∧w.cell? ⟨b,o+i*4+1,none⟩=some (.string x.nm)∧w.cell? ⟨b,o+i*4+2,none⟩=some (.bool x.fx)∧w.cell? ⟨b,o+i*4+3,none⟩=some (.slice pa pn pc)∧Bg B w pa pn x.its∧Hd B pa pn pc∧B<=b∧Sf B w a
theorem Bg.below (h:Bg B w a n l)(hb:Below w.heap.size w w'):Bg B w' a n l:=
 ⟨h.len,fun i x hx=>by
  obtain⟨b,o,pa,pn,pc,ha,c0,c1,hp,hh,hB,hA,s1,s2⟩:=h.cell i x hx;exact⟨b,o,pa,pn,pc,ha,Ab hb c0,Ab hb c1,hp.below hb,hh,hB,hA,s1.below hb,s2.below hb⟩⟩
theorem Bb.below {l:List Vo}(h:Bb B w a n l)(hb:Below w.heap.size w w'):Bb B w' a n l:=
 ⟨h.len,fun i x hx=>by
  obtain⟨b,o,pa,pn,pc,ha,c0,c1,c2,c3,hp,hh,hB,s2⟩:=h.cell i x hx;exact⟨b,o,pa,pn,pc,ha,Ab hb c0,Ab hb c1,Ab hb c2,Ab hb c3,hp.below hb,hh,hB,s2.below hb⟩⟩
theorem Bg.mono (h:Bg B w a n l)(hb:B'<=B):Bg B' w a n l:=
 ⟨h.len,fun i x hx=>by
  obtain⟨b,o,pa,pn,pc,ha,c0,c1,hp,hh,hB,hA,s1,s2⟩:=h.cell i x hx;exact⟨b,o,pa,pn,pc,ha,c0,c1,hp,hh.mono hb,by omega,fun ad hc=>by have:=hA ad hc;omega,s1.mono hb,s2.mono hb⟩⟩
theorem Bb.mono {l:List Vo}(h:Bb B w a n l)(hb:B'<=B):Bb B' w a n l:=
 ⟨h.len,fun i x hx=>by
  obtain⟨b,o,pa,pn,pc,ha,c0,c1,c2,c3,hp,hh,hB,s2⟩:=h.cell i x hx;exact⟨b,o,pa,pn,pc,ha,c0,c1,c2,c3,hp.mono hb,hh.mono hb,by omega,s2.mono hb⟩⟩
theorem Bg.grown (h:Bg B w a n l)(hg:w.grownBy w' (some r))(hr:r<B):Bg B w' a n l:=
 ⟨h.len,fun i x hx=>by
  obtain⟨b,o,pa,pn,pc,ha,c0,c1,hp,hh,hB,hA,s1,s2⟩:=h.cell i x hx;exact⟨b,o,pa,pn,pc,ha,hg.cell c0 (by simp;omega),hg.cell c1 (by simp;omega),hp.grown hg (fun ad hb=>by have:=hA ad hb;omega),hh,hB,hA,s1.grown hg hr,s2.grown hg hr⟩⟩
theorem bO_ (h:Bg B w a n l)(hk:k<n):
  ∃ b o x pa pn pc,a=some ⟨b,o,none⟩∧l[k]?=some x∧w.cell? ⟨b,o+k*2,none⟩=some (.string x.nm)∧w.cell? ⟨b,o+k*2+1,none⟩=some (.slice pa pn pc)∧AN w pa pn x.ps∧Hd B pa pn pc∧B<=b∧∀ ad,pa=some ad->B<=ad.block:=by
 have hx:l[k]?=some (l[k]'(by rw[h.len];exact hk)):=by simp[h.len,hk]
 obtain⟨b,o,pa,pn,pc,ha,c0,c1,hp,hh,hB,hA,_⟩:=h.cell k _ hx;exact⟨b,o,_,pa,pn,pc,ha,hx,c0,c1,hp,hh,hB,hA⟩
theorem b5_ {l:List Vo}(h:Bb B w a n l)(hk:k<n):
  ∃ b o x pa pn pc,a=some ⟨b,o,none⟩∧l[k]?=some x∧w.cell? ⟨b,o+k*4,none⟩=some (.int .i64 x.id)∧w.cell? ⟨b,o+k*4+1,none⟩=some (.string x.nm)∧w.cell? ⟨b,o+k*4+2,none⟩=some (.bool x.fx)∧w.cell? ⟨b,o+k*4+3,none⟩=some (.slice pa pn pc)∧Bg B w pa pn x.its∧Hd B pa pn pc∧B<=b:=by
 have hx:l[k]?=some (l[k]'(by rw[h.len];exact hk)):=by simp[h.len,hk]
 obtain⟨b,o,pa,pn,pc,ha,c0,c1,c2,c3,hp,hh,hB,_⟩:=h.cell k _ hx;exact⟨b,o,_,pa,pn,pc,ha,hx,c0,c1,c2,c3,hp,hh,hB⟩
def Gq (l:List It):Prop:=∀ x∈l,x.nm.size<=9223372036854775807∧x.ps.length<=4194304
def DS (l:List Vo):Prop:=∀ v∈l,v.nm.size<=9223372036854775807∧v.its.length<=4194304∧Gq v.its
def igo (e:List Ex):Option It->List It->Bool
 |_,[]=>true
 |q,x::r=>nameB x.nm&&(match q with | none=>true | some p=>bl p.nm.toList x.nm.toList)&&(Ak x.ps e).isSome&&igo e (some x) r
def itemsB (l:List It)(e:List Ex):Bool:=decide (l.length<=5)&&igo e none l
def vgo (next:Int)(e:List Ex):Int->List Vo->Bool
 |_,[]=>true
 |last,v::r=>decide (last<v.id)&&decide (v.id<next)&&nameB v.nm&&itemsB v.its e&&vgo next e v.id r
def CQ (next:Int)(l:List Vo)(e:List Ex):Bool:=decide (l.length<=6)&&vgo next e 0 l
def AT (vol:Int)(f:ByteArray)(ps:List Pt):List Ct:=(ps.filter (fun p=>!(p.a==0))).map (fun p=>⟨⟨p.a,vol,f⟩,1⟩)
def Et (v:Vo):List Ct:=v.its.flatMap (fun x=>AT v.id x.nm x.ps)
def A8 (l:List Vo):List Ct:=l.flatMap Et
def AB (l:List Vo):List Ct:=AR [] (A8 l)
def CK (l:List Vo):Bool:=decide ((l.map (·.nm.toList)).Nodup)
def Ck (e:List Ex)(l:List Ct):Bool:=e.all (fun x=>l.any (fun c=>c.o.a==x.a))&&l.all (fun c=>e.any (fun x=>x.a==c.o.a))
def Ai (p:Po):Bool:=Ao p.size p.ex&&decide (1<=p.next)&&decide (p.next<=1000000000)&&CQ p.next p.vs p.ex&&CK p.vs&&(match Aq p.rf p.lt with | none=>false | some s=>Bo s (AB p.vs))&&Ck p.ex (p.rf++p.lt)
end
section
open Go Go.RowKit Go.BigFrame Tryz
variable{c0 c1 c2:Array Value}{t0 t1 t2:TypeId}{w w1:World}
theorem B3 (w:World)(b i:Nat)(v:Value):w.grownBy (w.setCell ⟨b,i,none⟩ v) (some b):=af_ (Yh _ _) i v
theorem bx3 (hb:Below (((w.alloc (.cells c0 t0)).alloc (.cells c1 t1)).alloc (.cells c2 t2)).heap.size (((w.alloc (.cells c0 t0)).alloc (.cells c1 t1)).alloc (.cells c2 t2)) w1):
  Blk w1 w.heap.size c0 t0∧Blk w1 (w.heap.size+1) c1 t1∧Blk w1 (w.heap.size+2) c2 t2∧Below w.heap.size w w1∧w.heap.size+3<=w1.heap.size:=
 ⟨(((Blk.new w _ _).alloc _).alloc _).below hb,((Blk.new' _ _ _ _ (by simp)).alloc _).below hb,(Blk.new' _ _ _ _ (by simp)).below hb,Aa (by go_grown) hb,by have:=hb.size;simp at this;omega⟩
end
section
open Go.ChangeShapes Go.WideShapes Go.ChangeAt Go.RowKit Go.Deep Tryz
variable{n:Nat}{a:Option Addr}{w:World}
theorem Ho:laidOutB prog=true:=by kernel_rfl
theorem own:ownKnob prog.godebug=none:=by kernel_rfl
theorem G6 {a:Addr}{v:Value}(h:w.cell? (a.add n)=some v)(hn:n=0):∃ b o,a=⟨b,o,none⟩:=by
 subst hn;obtain⟨b,off,spot⟩:=a;have ha:spot=none:=by simpa[Addr.add] using World.cell?_spot h
 exact⟨b,off,by rw[ha]⟩
theorem c2:prog.cellsOf 2=1:=by kernel_rfl
end
section
open Go Go.RowKit Go.BigFrame Tryz
variable{α:Type}{l:List Vo}{B b i n:Nat}{a:Option Addr}{p:Po}{v:Value}{w w':World}{x:α}
theorem Bb.grown {r:Nat}(h:Bb B w a n l)(hg:w.grownBy w' (some r))(hr:r<B):Bb B w' a n l:=
 ⟨h.len,fun i x hx=>by
  obtain⟨b,o,pa,pn,pc,ha,c0,c1,c2,c3,hp,hh,hB,s2⟩:=h.cell i x hx;exact⟨b,o,pa,pn,pc,ha,hg.cell c0 (by simp;omega),hg.cell c1 (by simp;omega),hg.cell c2 (by simp;omega),hg.cell c3 (by simp;omega),hp.grown hg hr,hh,hB,s2.grown hg hr⟩⟩
def AG (B:Nat)(w:World)(v:Value)(p:Po):Prop:=
 ∃ ea en ec va vn vc ra rn rc la ln lc,v=.agg #[.int .i64 p.size,.int .i64 p.next,.slice ea en ec,.slice va vn vc,.slice ra rn rc,.slice la ln lc]∧
  (Bf w ea en p.ex∧Hd B ea en ec∧Sf B w ea)∧(Bb B w va vn p.vs∧Hd B va vn vc)∧(A5 w ra rn p.rf∧Hd B ra rn rc∧Sf B w ra)∧(A5 w la ln p.lt∧Hd B la ln lc∧Sf B w la)
theorem AG.below (h:AG B w v p)(hb:Below w.heap.size w w'):AG B w' v p:=by
 obtain⟨ea,en,ec,va,vn,vc,ra,rn,rc,la,ln,lc,hv,⟨h1,k1⟩,⟨h2,k2⟩,⟨h3,k3⟩,h4,k4⟩:=h;exact⟨ea,en,ec,va,vn,vc,ra,rn,rc,la,ln,lc,hv,⟨h1.below hb,k1.1,k1.2.below hb⟩,⟨h2.below hb,k2⟩,⟨h3.below hb,k3.1,k3.2.below hb⟩,h4.below hb,k4.1,k4.2.below hb⟩
theorem AG.mono {B':Nat}(h:AG B w v p)(hb:B'<=B):AG B' w v p:=by
 obtain⟨ea,en,ec,va,vn,vc,ra,rn,rc,la,ln,lc,hv,⟨h1,k1⟩,⟨h2,k2⟩,⟨h3,k3⟩,h4,k4⟩:=h;exact⟨ea,en,ec,va,vn,vc,ra,rn,rc,la,ln,lc,hv,⟨h1,k1.1.mono hb,k1.2.mono hb⟩,⟨h2.mono hb,k2.mono hb⟩,⟨h3,k3.1.mono hb,k3.2.mono hb⟩,h4,k4.1.mono hb,k4.2.mono hb⟩
structure IR where
 nm:ByteArray
 pa:Option Addr
 pn:Nat
 pc:Nat
end
section
open Go Go.RowKit Go.BigFrame Tryz
variable{α:Type}{c:Array Value}{y:It}{L:List Ct}{l:List Vo}{B M b cap i j k n sz:Nat}{a:Option Addr}{row:Option Nat}{p:Po}{t t':TypeId}{out v:Value}{w w':World}{x x':α}{cs:α->List Value}
variable{rows:List IR}
variable{r:IR}
structure VR where
 id:Int
 nm:ByteArray
 fx:Bool
 pa:Option Addr
 pn:Nat
 pc:Nat
def irs (r:IR):List Value:=[.string r.nm,.slice r.pa r.pn r.pc]
def vrs (r:VR):List Value:=[.int .i64 r.id,.string r.nm,.bool r.fx,.slice r.pa r.pn r.pc]
theorem aI_ (r:IR):(irs r).length=2:=rfl
theorem a2_ (r:VR):(vrs r).length=4:=rfl
theorem eP_ (l:List IR):∀ u∈l.flatMap irs,u.oneCell'=true:=by
 intro u hu;obtain⟨p,_,hp⟩:=ZL.1 hu;simp[irs] at hp;rcases hp with rfl | rfl<;>rfl
theorem pm_ (l:List VR):∀ u∈l.flatMap vrs,u.oneCell'=true:=by
 intro u hu;obtain⟨p,_,hp⟩:=ZL.1 hu;simp[vrs] at hp;rcases hp with rfl | rfl | rfl | rfl<;>rfl
structure GJ (B:Nat)(w:World)(r:IR)(y:It):Prop where
 nm:r.nm=y.nm
 ps:AN w r.pa r.pn y.ps
 hd:Hd B r.pa r.pn r.pc
 ge:∀ ad,r.pa=some ad->B<=ad.block
 lt:∀ ad,r.pa=some ad->ad.block<w.heap.size
 sf:Sf B w r.pa
theorem GJ.below (h:GJ B w r y)(hb:Below w.heap.size w w'):GJ B w' r y:=
 ⟨h.nm,h.ps.below hb,h.hd,h.ge,fun ad e=>Zy (h.lt ad e) hb.size,h.sf.below hb⟩
structure CB (B:Nat)(w:World)(rows:List IR)(l:List It):Prop where
 len:rows.length=l.length
 at':∀ (i:Nat) r y,rows[i]?=some r->l[i]?=some y->GJ B w r y
theorem CB.nil (B:Nat)(w:World):CB B w [] []:=⟨rfl,fun i r y h=>by simp at h⟩
theorem CB.below {l:List It}(h:CB B w rows l)(hb:Below w.heap.size w w'):CB B w' rows l:=⟨h.len,fun i r y h1 h2=>(h.at' i r y h1 h2).below hb⟩
theorem CB.snoc {l:List It}(h:CB B w rows l)(h':GJ B w r y):CB B w (rows++[r]) (l++[y]):=by
 refine⟨by simp[h.len],fun i q z h1 h2=>?_⟩;by_cases hi:i<rows.length
 ·rw[ZD hi] at h1;rw[ZD (by rw[<-h.len];exact hi)] at h2;exact h.at' i q z h1 h2
 ·rw[Zv (by omega)] at h1;rw[Zv (by rw[<-h.len];omega)] at h2;have h0:i-rows.length=0:=by have:=(Zb.1 h1).1;simp at this;omega
  rw[h0] at h1;rw[<-h.len,h0] at h2;simp at h1 h2;subst h1 h2;exact h'
theorem CB.its {l:List It}(R:Ae irs 2 t w B a n cap rows)(h:CB B w rows l):Bg B w a n l:=by
 refine⟨by rw[<-h.len];exact R.sl.len,fun i y hy=>?_⟩;have hi:i<rows.length:=by rw[h.len];exact (Zb.1 hy).1
 have hr:rows[i]?=some rows[i]:=by simp[hi]
 obtain⟨b,o,ha,hc⟩:=R.sl.cell i _ hr;have hR:=h.at' i _ y hr hy
 have he:Sf B w a:=fun _ ad e=>by
  rcases R.own with⟨h0,_⟩ | ⟨b',h1,h2,_,_,c,h3,_⟩
  ·rw[h0] at e;cases e
  ·rw[h1] at e;cases e;exact⟨h2,c,t,h3⟩
 have hb:B<=b:=by
  rcases R.own with⟨h0,_⟩ | ⟨b',h1,h2,_⟩
  ·rw[h0] at ha;cases ha
  ·rw[h1] at ha;cases ha;exact h2
 refine⟨b,o,rows[i].pa,rows[i].pn,rows[i].pc,ha,?_,hc 1 _ rfl,hR.ps,hR.hd,hb,hR.ge,hR.sf,he⟩
 have:=hc 0 _ rfl
 rw[<-hR.nm];exact this
structure GK (B:Nat)(w:World)(r:VR)(y:Vo):Prop where
 id:r.id=y.id
 nm:r.nm=y.nm
 fx:r.fx=y.fx
 its:Bg B w r.pa r.pn y.its
 hd:Hd B r.pa r.pn r.pc
theorem GK.below {r:VR}{y:Vo}(h:GK B w r y)(hb:Below w.heap.size w w'):GK B w' r y:=⟨h.id,h.nm,h.fx,h.its.below hb,h.hd⟩
structure Cc (B:Nat)(w:World)(rows:List VR)(l:List Vo):Prop where
 len:rows.length=l.length
 at':∀ (i:Nat) r y,rows[i]?=some r->l[i]?=some y->GK B w r y
theorem Cc.nil (B:Nat)(w:World):Cc B w [] []:=⟨rfl,fun i r y h=>by simp at h⟩
theorem Cc.below {rows:List VR}(h:Cc B w rows l)(hb:Below w.heap.size w w'):Cc B w' rows l:=⟨h.len,fun i r y h1 h2=>(h.at' i r y h1 h2).below hb⟩
theorem Cc.snoc {rows:List VR}{r:VR}{y:Vo}(h:Cc B w rows l)(h':GK B w r y):Cc B w (rows++[r]) (l++[y]):=by
 refine⟨by simp[h.len],fun i q z h1 h2=>?_⟩;by_cases hi:i<rows.length
 ·rw[ZD hi] at h1;rw[ZD (by rw[<-h.len];exact hi)] at h2;exact h.at' i q z h1 h2
 ·rw[Zv (by omega)] at h1;rw[Zv (by rw[<-h.len];omega)] at h2;have h0:i-rows.length=0:=by have:=(Zb.1 h1).1;simp at this;omega
  rw[h0] at h1;rw[<-h.len,h0] at h2;simp at h1 h2;subst h1 h2;exact h'
theorem Cc.vs {rows:List VR}(R:Ae vrs 4 t w B a n cap rows)(h:Cc B w rows l):Bb B w a n l:=by
 refine⟨by rw[<-h.len];exact R.sl.len,fun i y hy=>?_⟩;have hi:i<rows.length:=by rw[h.len];exact (Zb.1 hy).1
 have hr:rows[i]?=some rows[i]:=by simp[hi]
 obtain⟨b,o,ha,hc⟩:=R.sl.cell i _ hr;have hR:=h.at' i _ y hr hy
 have he:Sf B w a:=fun _ ad e=>by
  rcases R.own with⟨h0,_⟩ | ⟨b',h1,h2,_,_,c,h3,_⟩
  ·rw[h0] at e;cases e
  ·rw[h1] at e;cases e;exact⟨h2,c,t,h3⟩
 have hb:B<=b:=by
  rcases R.own with⟨h0,_⟩ | ⟨b',h1,h2,_⟩
  ·rw[h0] at ha;cases ha
  ·rw[h1] at ha;cases ha;exact h2
 have c0:=hc 0 _ rfl;have c1:=hc 1 _ rfl;have c2:=hc 2 _ rfl;have c3:=hc 3 _ rfl;refine⟨b,o,rows[i].pa,rows[i].pn,rows[i].pc,ha,?_,?_,?_,c3,hR.its,hR.hd,hb,he⟩
 ·rw[<-hR.id];exact c0
 ·rw[<-hR.nm];exact c1
 ·rw[<-hR.fx];exact c2
theorem kb_ {l:List α}(h:AF cs sz w a n l)(hg:w.grownBy w' row)(hr:∀ ad,a=some ad->some ad.block≠row):AF cs sz w' a n l:=by
 refine⟨h.len,fun i x hx=>?_⟩;obtain⟨b,o,ha,hc⟩:=h.cell i x hx;exact⟨b,o,ha,fun j v hv=>hg.cell (hc j v hv) (hr ⟨b,o,none⟩ ha)⟩
theorem kc_ {c':Array Value}(h:Blk w b c t)(h':Blk w b c' t'):t=t':=by
 unfold Blk at h h';rw[h] at h';injection h' with e;injection e
def BA (w:World)(row:Option Nat)(t:TypeId):Prop:=∀ k,row=some k->∃ c,Blk w k c t
theorem hA_:BA w none t:=fun k e=>by cases e
theorem aa_ (h:Blk w b c t):BA w (some b) t:=fun k e=>by cases e;exact⟨c,h⟩
theorem Ae.rowTy {l:List α}(h:Ae cs sz t w B a n cap l){m:Nat}:BA w (Value.ownBlock (.slice a m k)) t:=by
 rcases h.own with⟨rfl,_⟩ | ⟨b,rfl,_,_,_,c,hc,_⟩
 ·intro k e;simp[Value.ownBlock] at e
 ·intro k e;simp[Value.ownBlock] at e;subst e;exact⟨c,hc⟩
theorem Ae.off {l:List α}(h:Ae cs sz t w B a n cap l)(hg:w.grownBy w' row)(hr:∀ ad,a=some ad->some ad.block≠row):Ae cs sz t w' B a n cap l:=by
 refine⟨kb_ h.sl hg hr,?_⟩;rcases h.own with h0 | ⟨b,ha,hB,h1,h2,c,hc,q⟩
 ·exact .inl h0
 ·exact .inr ⟨b,ha,hB,h1,h2,c,(hg.block _ hc.lt (hr _ ha)).trans hc,q⟩
theorem Ae.ty {l:List α}(h:Ae cs sz t w B a n cap l)(hg:w.grownBy w' row)(hr:BA w row t')(ht:t≠t'):Ae cs sz t w' B a n cap l:=by
 refine h.off hg (fun ad e hc=>?_);obtain⟨c',h'⟩:=hr _ hc.symm;rcases h.own with⟨h0,_⟩ | ⟨b,ha,_,_,_,c,hb,_⟩
 ·rw[h0] at e;cases e
 ·rw[ha] at e;cases e;exact ht (kc_ hb h')
theorem Blk.ty (h:Blk w b c t)(hg:w.grownBy w' row)(hr:BA w row t')(ht:t≠t'):Blk w' b c t:=by
 refine (hg.block _ h.lt (fun e=>?_)).trans h;obtain⟨c',h'⟩:=hr _ e.symm;exact ht (kc_ h h')
theorem Blk.offB (h:Blk w b c t)(hg:w.grownBy w' row)(hr:∀ k,row=some k->B<=k)(hb:b<B):Blk w' b c t:=
 (hg.block _ h.lt (fun e=>by have:=hr b e.symm;omega)).trans h
theorem kd_ (hsz:∀ x,(cs x).length=sz)(hj:j<sz)(hx':cs x'=(cs x).set j v):∀ {l:List α} {i:Nat},l[i]?=some x->(l.set i x').flatMap cs=(l.flatMap cs).set (i*sz+j) v
 |[],i,h=>by simp at h
 |y::r,0,h=>by
  obtain rfl:y=x:=by simpa using h
  rw[Yq,ZF,ZF,hx',Nat.zero_mul,Zq,List.set_append_left _ _ (by rw[hsz];exact hj)]
 |y::r,i+1,h=>by
  rw[Yr,ZF,ZF,kd_ hsz hj hx' (by simpa using h),List.set_append_right _ _ (by rw[hsz,Yd];omega),hsz,show (i+1)*sz+j-sz=i*sz+j by rw[Yd];omega]
theorem Ae.set1 (hsz:∀ x,(cs x).length=sz){l:List α}(h:Ae cs sz t w B (some ⟨b,0,none⟩) n cap l)(hi:l[i]?=some x)(hj:j<sz)(hx':cs x'=(cs x).set j v):
  Ae cs sz t (w.setCell ⟨b,i*sz+j,none⟩ v) B (some ⟨b,0,none⟩) n cap (l.set i x'):=by
 have hk:=(Zb.1 hi).1;have hg:=h.sl.len;rcases h.own with⟨h0,_⟩ | ⟨b',ha,hB,hh,hf,c,hc,hs,ht⟩
 ·cases h0
 ·cases ha
  have hb:(l.set i x').length=n:=by rw[List.length_set];exact hg
  have he:(w.setCell ⟨b,i*sz+j,none⟩ v).ownsRow B t sz (.slice (some ⟨b,0,none⟩) n cap) n ((l.set i x').flatMap cs):=by
   refine⟨by rw[aY_ hsz,hb],.inr ⟨b,cap,_,rfl,hB,hc.set (i*sz+j) v,hh,hf,by simp[hs],?_⟩⟩;rw[Array.toList_setIfInBounds,List.take_set,ht,kd_ hsz hj hx' hi]
  obtain⟨a',cap',e,R⟩:=bz_ hsz hb he
  cases e
  exact R
def Ec (l:List Vo):Prop:=l.length<=6∧∀ v∈l,v.its.length<=5∧∀ x∈v.its,x.ps.length<=16∧∀ p∈x.ps,0<=p.a
def EB (l:List Vo):Prop:=l.length<=7∧∀ v∈l,v.its.length<=6∧∀ x∈v.its,x.ps.length<=1000∧∀ p∈x.ps,0<=p.a
theorem Ec.wide (h:Ec l):EB l:=⟨by have:=h.1;omega,fun v hv=>⟨by have:=(h.2 v hv).1;omega,fun x hx=>⟨by have:=((h.2 v hv).2 x hx).1;omega,((h.2 v hv).2 x hx).2⟩⟩⟩
theorem ke_ (l a b:List Ct):AR l (a++b)=AR (AR l a) b:=by simp[AR]
theorem gI_ {id:Int}{nm:ByteArray}{ps:List Pt}{p:Pt}(h:ps[j]?=some p):AT id nm (ps.take (j+1))=AT id nm (ps.take j)++(if p.a==0 then [] else [⟨⟨p.a,id,nm⟩,1⟩]):=by
 unfold AT;rw[bx_ h,YR,List.map_append]
 cases hp:(p.a==0)<;>simp[hp]
def A3 (v:Vo)(l:List It):List Ct:=l.flatMap (fun x=>AT v.id x.nm x.ps)
theorem fq_ {v:Vo}{l:List It}{x:It}(h:l[k]?=some x):A3 v (l.take (k+1))=A3 v (l.take k)++AT v.id x.nm x.ps:=by
 unfold A3;rw[bx_ h,ZQ];simp
theorem lE_ {v:Vo}(h:l[i]?=some v):A8 (l.take (i+1))=A8 (l.take i)++A3 v v.its:=by
 unfold A8;rw[bx_ h,ZQ];simp[Et,A3]
structure Fnd (w:World)(B:Nat)(out:Value)(L:List Ct)(M:Nat):Prop where
 at':∃ a n cap,out=.slice a n cap∧n<=M∧Ae Ct.cs 4 80 w B a n cap L
 bd:∀ x∈L,-(1000*(M:Int))<=x.n∧x.n<=1000*(M:Int)
theorem Fnd.below (h:Fnd w B out L M)(hb:Below w.heap.size w w'):Fnd w' B out L M:=by
 obtain⟨⟨a,n,cap,e,hn,R⟩,ha⟩:=h;exact⟨⟨a,n,cap,e,hn,R.below hb⟩,ha⟩
theorem Fnd.mono {M':Nat}(h:Fnd w B out L M)(hM:M<=M'):Fnd w B out L M':=by
 obtain⟨⟨a,n,cap,e,hn,R⟩,ha⟩:=h;exact⟨⟨a,n,cap,e,by omega,R⟩,fun x hx=>by have:=ha x hx;omega⟩
theorem bA_ (B:Nat)(a:Option Addr)(n cap:Nat)(vs:List Vo)(w:World)(h:Bb B w a n vs)(ht:EB vs):
  Calls prog 97 #[.slice a n cap] w fun e w'=>(∃ a' n' cap',e=.returned (.slice a' n' cap')∧n'<=42000∧(∀ x∈AB vs,-42000000<=x.n∧x.n<=42000000)∧Ae Ct.cs 4 80 w' w.heap.size a' n' cap' (AB vs))∧Below w.heap.size w w':=by
 have hg:Hid (vs.length=n):=h.len;have hN:n<=7:=by rw[<-hg.out];exact ht.1
 go_enter func97,ntmps97
 go_wp2_with fail
 go_loopw [3,4] (fun out ix wr=>∃ (i:Nat),i<=n∧ix=.int .i64 i∧Fnd wr w.heap.size out (AR [] (A8 (vs.take i))) (6000*i)∧Below w.heap.size w wr) (fun _ ix _=>n-(intOf ix).toNat)
 case atStart=>exact⟨0,Zg _,rfl,⟨⟨_,0,0,rfl,Zg _,aw_ (Blk.new' _ _ _ _ rfl) (Zd _)⟩,fun x hx=>by cases hx⟩,(Yg _ _).alloc (Zd _) _⟩
 case round=>
  obtain⟨i,hi,rfl,hF,hB⟩:=hrel;obtain⟨wi,hC⟩:∃ x,x=wr:=⟨_,rfl⟩;subst hC;by_cases hlt:i<n
  ·obtain⟨b,o,v,ia,inn,icp,rfl,hv,c0,c1,c2,c3,hI,_,_⟩:=b5_ (h.below hB) hlt;obtain⟨t1,t2⟩:=ht.2 v (Zc hv);have hr:Hid (v.its.length=inn):=hI.len;rw[hr.out] at t1;have hE:(i:Int)<n:=by omega
   have hG:(0:Int)<=i:=by omega
   have hl:Hid (A8 (vs.take (i+1))=A8 (vs.take i)++A3 v v.its):=lE_ hv;clear hv;generalize A8 (vs.take i)=PA at *
   go_wp2_with fail
   go_loopw [3,5] (fun out ix wk=>∃ (k:Nat),k<=inn∧ix=.int .i64 k∧Fnd wk w.heap.size out (AR [] (PA++A3 v (v.its.take k))) (6000*i+1000*k)∧Below wi.heap.size wi wk) (fun _ ix _=>inn-(intOf ix).toNat)
   case atStart=>exact⟨0,Zg _,rfl,by simpa[A3] using hF,Yg _ _⟩
   case round=>
    clear hF;obtain⟨k,hk,rfl,hF,hc⟩:=hrel;obtain⟨wk,hD⟩:∃ x,x=wr:=⟨_,rfl⟩;subst hD;have e0:=Ab hc c0;have e3:=Ab hc c3;by_cases hlk:k<inn
    ·obtain⟨b',o',x,pa,pn,pc,rfl,hx,d0,d1,hP,_,_,_⟩:=bO_ (hI.below hc) hlk;obtain⟨u1,u2⟩:=t2 x (Zc hx);have hs:Hid (x.ps.length=pn):=hP.len;rw[hs.out] at u1;have hK:(k:Int)<inn:=by omega
     have hL:(0:Int)<=k:=by omega
     have hm:Hid (A3 v (v.its.take (k+1))=A3 v (v.its.take k)++AT v.id x.nm x.ps):=fq_ hx;clear hx;generalize A3 v (v.its.take k)=PI at *
     go_wp2_with fail
     have he:Below wk.heap.size wk (wk.alloc (.cells #[.string x.nm,.slice pa pn pc] 125)):=by go_grown
     have X0:(wk.alloc (.cells #[.string x.nm,.slice pa pn pc] 125)).cell? ⟨wk.heap.size,0,none⟩=some (.string x.nm):=(Blk.new wk #[.string x.nm,.slice pa pn pc] 125).cell 0;have X1:(wk.alloc (.cells #[.string x.nm,.slice pa pn pc] 125)).cell? ⟨wk.heap.size,1,none⟩=some (.slice pa pn pc):=(Blk.new wk #[.string x.nm,.slice pa pn pc] 125).cell 1;have E0:=Ab he e0;have hy:=hP.below he;have hq:=hF.below he;generalize wk.alloc (.cells #[.string x.nm,.slice pa pn pc] 125)=W0 at *
     go_loopw [3,7] (fun out ix wj=>∃ (j:Nat),j<=pn∧ix=.int .i64 j∧Fnd wj w.heap.size out (AR [] (PA++PI++AT v.id x.nm (x.ps.take j))) (6000*i+1000*k+j)∧Below W0.heap.size W0 wj) (fun _ ix _=>pn-(intOf ix).toNat)
     case atStart=>exact⟨0,Zg _,rfl,by simpa[AT] using hq,Yg _ _⟩
     case round=>
      clear hF hq;obtain⟨j,hj,rfl,hF,ha⟩:=hrel;have x0:=Ab ha X0;have x1:=Ab ha X1;have y0:=Ab ha E0;by_cases hlj:j<pn
      ·obtain⟨b2,o2,p,rfl,hp,f0,f1,f2⟩:=bi_ (hy.below ha) hlj;have hO:=u2 p (Zc hp);have hb:Hid (AT v.id x.nm (x.ps.take (j+1))=AT v.id x.nm (x.ps.take j)++(if p.a==0 then [] else [⟨⟨p.a,v.id,x.nm⟩,1⟩])):=gI_ hp;clear hp;generalize AT v.id x.nm (x.ps.take j)=PP at *;have hH:(j:Int)<pn:=by omega
       have hJ:(0:Int)<=j:=by omega
       by_cases hz:0<p.a
       ·have hn:(p.a==0)=false:=ZV.2 (by omega);rw[hn] at hb;simp only[Zj,if_false] at hb;obtain⟨⟨a2,n2,cap2,rfl,hA,R⟩,hf⟩:=hF
        go_wp2_with fail
        refine aE_ 16 (by kernel_rfl) (by kernel_rfl) ?_;simp only[ZP,Yx,ZR,YC]
        repeat still_step
        refine wpStill_nil ?_
        go_wp2_with fail
        have hh:=(Yg wr.heap.size wr).drew;refine (hr_ a2 n2 cap2 _ ⟨⟨p.a,v.id,x.nm⟩,1⟩ _ (R.sl.below hh) (by omega) (fun z ho=>by have:=hf z ho;omega) (by simp)).mono ?_;rintro e w3 ⟨⟨a3,n3,cap3,rfl,hM,R3⟩,hu⟩;have hw:Below wr.heap.size wr w3:=Aa hh hu;have hQ:=hB.size;have hR:=hc.size;have hS:=he.size;have hT:=ha.size;have hU:=hh.size;go_wp2;go_roundw
        case rel=>
         refine⟨j+1,by omega,by go_num,⟨⟨a3,n3,cap3,rfl,by omega,?_⟩,?_⟩,Aa ha hw⟩
         ·rw[hb.out,<-ZC,ke_];exact R3.mono (by omega)
         ·rw[hb.out,<-ZC,ke_];intro z ho
          have:=lD_ (B:=1000*((6000*i+1000*k+j:Nat):Int)) (by omega) (c:=⟨⟨p.a,v.id,x.nm⟩,1⟩) (by simp) (by simp) hf z ho
          omega
        case measure=>simp[intOf];omega
       ·have hn:(p.a==0)=true:=by simp;omega
        rw[hn] at hb;simp only[if_true,Yy] at hb;go_wp2;go_roundw
        case rel=>exact⟨j+1,by omega,by go_num,by rw[hb.out];exact hF.mono (by omega),ha⟩
        case measure=>simp[intOf];omega
      ·obtain rfl:j=pn:=by omega
       go_wp2;go_roundw
       case rel=>
        refine⟨k+1,by omega,by go_num,?_,Aa hc (Aa he ha)⟩;rw[hm.out,<-ZC];rw[Zk (Zm hs.out)] at hF;exact hF.mono (by omega)
       case measure=>simp[intOf];omega
    ·obtain rfl:k=inn:=by omega
     go_wp2;go_roundw
     case rel=>
      refine⟨i+1,by omega,by go_num,?_,Aa hB hc⟩;rw[hl.out,<-Zk (l:=v.its) (Zm hr.out)];exact hF.mono (by omega)
     case measure=>simp[intOf];omega
  ·obtain rfl:i=n:=by omega
   obtain⟨⟨a2,n2,cap2,rfl,hA,R⟩,hf⟩:=hF;go_wp2;go_returns;rw[Zk (Zm hg.out)] at R hf;exact⟨⟨a2,n2,cap2,rfl,by omega,(fun x hx=>by have:=hf x hx;omega),R⟩,hB⟩
theorem ir_ (B:Nat)(a:Option Addr)(n cap:Nat)(vs:List Vo)(w:World)(h:Bb B w a n vs)(ht:Ec vs):
  Calls prog 97 #[.slice a n cap] w fun e w'=>(∃ a' n' cap',e=.returned (.slice a' n' cap')∧n'<=42000∧Ae Ct.cs 4 80 w' w.heap.size a' n' cap' (AB vs))∧Below w.heap.size w w':=by
 refine (bA_ B a n cap vs w h ht.wide).mono ?_;rintro e w' ⟨⟨a',n',cap',he,hn,_,R⟩,hB⟩;exact⟨⟨a',n',cap',he,hn,R⟩,hB⟩
end
section
open Go.RowKit Go.BigFrame Go.Lib Tryz
variable{xs:List Value}{B e n:Nat}{v:Value}{w:World}
def GH (e:Ending):Option ByteArray->Prop
 |none=>e=.returned (.tuple #[.string ⟨#[]⟩,.bool false])
 |some s=>e=.returned (.tuple #[.string s,.bool true])
theorem d4_ (x y:ByteArray):strCells x++strCells y=strCells (x++y):=by
 simp[strCells]
theorem Hz:(prog.info? 5).map (fun i=>(i.zero,i.size,i.bytes))=some (some (.int .u8 0),1,1):=by kernel_rfl
theorem iF_ (h:w.ownsRow B e 1 v n xs):∀ k,v.ownBlock=some k->B<=k:=by
 rcases h.2 with⟨rfl,_⟩ | ⟨g,cap,cur,rfl,hB,_⟩
 ·intro k hk;cases hk
 ·intro k hk;simp[Value.ownBlock] at hk;omega
theorem iG_ {w':World}(h:w.ownsRow B e 1 v n xs)(hb:Below w.heap.size w w'):w'.ownsRow B e 1 v n xs:=by
 refine⟨h.1,?_⟩;rcases h.2 with h0 | ⟨g,cap,cur,h1,h2,h3,h4⟩
 ·exact .inl h0
 ·exact .inr ⟨g,cap,cur,h1,h2,by rw[hb.block g (ZG.1 h3).1];exact h3,h4⟩
theorem iH_ (h:w.ownsRow B e 1 v n xs):∃ a cap,v=.slice a n cap:=by
 rcases h.2 with⟨rfl,rfl⟩ | ⟨g,cap,cur,rfl,_⟩
 ·exact⟨none,0,rfl⟩
 ·exact⟨_,_,rfl⟩
theorem fO_ (a:Option Addr)(n cap:Nat)(l:List Pt)(a':Option Addr)(n' cap':Nat)(e:List Ex)(w:World)(h:AN w a n l)(h':Bf w a' n' e)(hstr:BS e)(hn:n<=4194304)(hn':n'<=4194304):
  Calls prog 81 #[.slice a n cap,.slice a' n' cap'] w fun x w'=>GH x (Ak l e)∧Below w.heap.size w w':=by
 have hr:Hid (l.length=n):=h.len
 cases hl:Ac l
 ·have hf:Ak l e=none:=by simp[Ak,hl]
  rw[hf];go_enter func81,ntmps81
  go_wp2_with fail
  refine (as_ a n cap l _ h hn).mono ?_;rintro x w1 ⟨rfl,hh⟩;rw[hl];go_wp2;go_returns;exact⟨rfl,hh⟩
 ·cases hg:Ao 400 e
  ·have hf:Ak l e=none:=by simp[Ak,hg]
   rw[hf];go_enter func81,ntmps81
   go_wp2_with fail
   refine (as_ a n cap l _ h hn).mono ?_;rintro x w1 ⟨rfl,hh⟩;rw[hl]
   go_wp2_with fail
   refine (a8_ 400 a' n' cap' e _ (h'.below hh) hstr hn').mono ?_;rintro x w2 ⟨rfl,ho⟩;rw[hg];have hj:=Aa hh ho;go_wp2;go_returns;exact⟨rfl,hj⟩
  ·have hf:Hid (Ak l e=cgo e ⟨#[]⟩ (l.drop 0)):=by show _=_;simp[Ak,hl,hg]
   obtain⟨hx,hw⟩:=gd_ hl;have hH:n<=16:=by rw[<-hr.out];exact hx
   obtain⟨i0,hi,hz,hA,hC⟩:=info_parts Hz;generalize Ak l e=R at *;go_enter func81,ntmps81
   go_wp2_with fail
   refine (as_ a n cap l _ h hn).mono ?_;rintro x w1 ⟨rfl,hh⟩;rw[hl]
   go_wp2_with fail
   refine (a8_ 400 a' n' cap' e _ (h'.below hh) hstr hn').mono ?_;rintro x w2 ⟨rfl,ho⟩;rw[hg];replace ho:=Aa hh ho
   go_wp2_with fail
   go_loopw [6,20] (fun out ix wr=>∃ (k m:Nat) (s:ByteArray) (a2:Option Addr) (cap2:Nat),k<=n∧ix=.int .i64 k∧m<=100*k∧out=.slice a2 m cap2∧wr.ownsRow w.heap.size 5 1 (.slice a2 m cap2) m (strCells s)∧Hid (R=cgo e s (l.drop k))∧Below w.heap.size w wr) (fun _ ix _=>n-(RowKit.intOf ix).toNat)
   case atStart=>exact⟨0,0,⟨#[]⟩,none,0,Zg _,rfl,Zg _,rfl,World.ownsRow_nil _ _ _ _,hf,ho⟩
   case round=>
    obtain⟨k,m,s,a2,cap2,hk,rfl,hm,rfl,hc,hI,hB⟩:=hrel;have hP:=hB.size;by_cases hlt:k<n
    ·obtain⟨b,o,p,rfl,hp,c0,c1,c2⟩:=bi_ (h.below hB) hlt;have hd:Hid (l.drop k=p::l.drop (k+1)):=al_ hp;obtain⟨hN,hO,hK⟩:=hw p (Zc hp);obtain⟨pa,pf,pn⟩:=p;dsimp only at *;obtain⟨pk,rfl⟩:∃ pk:Nat,pn=pk:=⟨pn.toNat,by omega⟩
     cases ha:(pa==0)
     ·have hJ:pa≠0:=by simpa using ha
      obtain⟨f0,f29⟩:=hK hJ;obtain⟨fk,rfl⟩:∃ fk:Nat,pf=fk:=⟨pf.toNat,by omega⟩;have hv:Hid (R=match pieceO e ⟨pa,fk,pk⟩ with | none=>none | some d=>cgo e (s++d) (l.drop (k+1))):=by show _=_;rw[hI.out,hd.out];rfl
      have hu:Hid (pieceO e ⟨pa,fk,pk⟩=if ((AM pa e).size:Int)<fk+pk then none else some ((AM pa e).extract fk (fk+pk))):=by
       show _=_;simp only[pieceO,ha,Zj,if_false,Int.toNat_natCast];rw[show ((fk:Int)+(pk:Int)).toNat=fk+pk by omega]
      have hD:=ek_ (addr:=pa) hstr
      go_wp2_with fail
      refine (jS_ a' n' cap' e pa _ ((h'.below hB).alloc _) hn').mono ?_;rintro x w3 ⟨rfl,hj⟩;generalize AM pa e=D at *;obtain⟨z0,z1,z2,hq,_⟩:=Dp hj;clear hj c0 c1 c2;have hb:=iG_ hc hq;have ht:=Aa hB hq;clear hc;by_cases hlt2:(D.size:Int)<fk+pk
      ·rw[if_pos hlt2] at hu;go_wp2;go_returns;rw[hv.out,hu.out];exact⟨rfl,ht⟩
      ·rw[if_neg hlt2] at hu;have hM:(fk:Int)+(pk:Int)<=D.size:=by omega
       have hL:=run_slice_string (P:=prog) (w:=w3) 9 D .i64 .i64 fk (fk+pk) underlying9 (by omega) (by omega) (by omega);rw[show ((fk:Int)+(pk:Int)).toNat=fk+pk by omega,Int.toNat_natCast] at hL;have hQ:(D.extract fk (fk+pk)).size=pk:=by rw[ByteArray.size_extract];omega
       generalize D.extract fk (fk+pk)=X at *
       go_wp2_with (at_builtin;refine wpList_append_own_string _ rfl _ _ 56 9 rfl w.heap.size 5 i0 underlying56 underlying9 hi hz hA hC _ m (strCells s) rfl hb X rfl (by unfold maxLen;omega) (by omega) ht.size ?_;intro v5 w5 he hG _)
       obtain⟨a3,cap3,rfl⟩:=iH_ he;rw[d4_] at he;have hE:Below w.heap.size w w5:=ht.grown hG ht.size (iF_ hb);go_roundw
       case rel=>exact⟨k+1,m+X.size,s++X,a3,cap3,by omega,by go_num,by omega,rfl,he,by show _=_;rw[hv.out,hu.out],hE⟩
       case measure=>simp[RowKit.intOf];omega
     ·have hv:Hid (R=cgo e (s++zs pk) (l.drop (k+1))):=by
       show _=_;rw[hI.out,hd.out];simp[cgo,pieceO,ha]
      have hs:∀ x,(wr.alloc x).ownsRow w.heap.size 5 1 (.slice a2 m cap2) m (strCells s):=fun x=>iG_ hc ((Yg _ _).alloc (Zd _) _)
      go_wp2_with (at_builtin;refine eY_ _ rfl _ _ 56 2 9 rfl w.heap.size 5 i0 .i64 underlying56 underlying2 underlying9 hi hz hA hC _ m (strCells s) rfl (hs _) .i64 pk rfl (by omega) (by omega) (by simp;omega) ?_;intro v3 w3 hb hF)
      obtain⟨a3,cap3,rfl⟩:=iH_ hb;rw[d4_] at hb;have hj:Below w.heap.size w w3:=Yi (by go_grown) hF (by simp;omega) (iF_ hc);go_roundw
      case rel=>exact⟨k+1,m+pk,s++zs pk,a3,cap3,by omega,by go_num,by omega,rfl,hb,hv,hj⟩
      case measure=>simp[RowKit.intOf];omega
    ·obtain rfl:k=n:=by omega
     have hy:=jO_ (P:=prog) hc 56 underlying56 underlying5 9 underlying9;go_wp2;go_returns;rw[hI.out,Ze (by rw[hr.out];exact Zd _)];exact⟨rfl,hB⟩
theorem kf_ (addr:Int):∀ (l:List Ex) (k:Nat),(atG addr k l=-1∧AM addr l=⟨#[]⟩)∨∃ (j:Nat) (x:Ex),l[j]?=some x∧atG addr k l=(k:Int)+j∧AM addr l=x.d
 |[],k=>.inl ⟨rfl,rfl⟩
 |e::r,k=>by
  unfold atG AM;split
  ·rename_i h;exact .inr ⟨0,e,rfl,by simp,rfl⟩
  ·rename_i h;rcases kf_ addr r (k+1) with⟨h1,h2⟩ | ⟨j,x,h1,h2,h3⟩
   ·exact .inl ⟨h1,h2⟩
   ·exact .inr ⟨j+1,x,by simpa using h1,by rw[h2];omega,h3⟩
end
end Go.Proofs.YtahenegmbmnmjaaGreatDoor
