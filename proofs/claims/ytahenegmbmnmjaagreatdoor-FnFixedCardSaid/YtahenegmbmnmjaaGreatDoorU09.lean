/- Appends at the program's own types, in few words. -/
import Derived.Test.YtahenegmbmnmjaaGreatDoorU08
set_option maxHeartbeats 20000000
set_option maxRecDepth 100000
namespace Go.Proofs.YtahenegmbmnmjaaGreatDoor
section
open Go Go.RowKit Go.BigFrame Tryz
variable{α:Type}{a:Act}{B b j k n sz:Nat}{o:Oper}{md:Region.Mode}{t:TypeId}{x:Value}{u u' w:World}{l:List α}{cs:α->List Value}
theorem py_ (a:Act)(x9 x12 x13 x16 x17 x20 x21 x3:Value):(A9 a x9 x12 x13 x16 x17 x20 x21 x3).eval (.tmp 6)=a.eval (.tmp 6):=by
 unfold A9;rw[aj_ (show (3:Nat)≠6 by decide),aj_ (show (21:Nat)≠6 by decide),aj_ (show (20:Nat)≠6 by decide),aj_ (show (17:Nat)≠6 by decide),aj_ (show (16:Nat)≠6 by decide),aj_ (show (13:Nat)≠6 by decide),aj_ (show (12:Nat)≠6 by decide),aj_ (show (9:Nat)≠6 by decide)]
theorem pz_ (a:Act)(x9 x12 x13 x16 x17 x20 x21 x3:Value):(A9 a x9 x12 x13 x16 x17 x20 x21 x3).eval (.tmp 8)=a.eval (.tmp 8):=by
 unfold A9;rw[aj_ (show (3:Nat)≠8 by decide),aj_ (show (21:Nat)≠8 by decide),aj_ (show (20:Nat)≠8 by decide),aj_ (show (17:Nat)≠8 by decide),aj_ (show (16:Nat)≠8 by decide),aj_ (show (13:Nat)≠8 by decide),aj_ (show (12:Nat)≠8 by decide),aj_ (show (9:Nat)≠8 by decide)]
theorem oi_ (a:Act)(x9 x12 x13 x16 x17 x20 x21 x3:Value):(A9 a x9 x12 x13 x16 x17 x20 x21 x3).eval (.tmp 11)=a.eval (.tmp 11):=by
 unfold A9;rw[aj_ (show (3:Nat)≠11 by decide),aj_ (show (21:Nat)≠11 by decide),aj_ (show (20:Nat)≠11 by decide),aj_ (show (17:Nat)≠11 by decide),aj_ (show (16:Nat)≠11 by decide),aj_ (show (13:Nat)≠11 by decide),aj_ (show (12:Nat)≠11 by decide),aj_ (show (9:Nat)≠11 by decide)]
theorem oj_ (a:Act)(x9 x12 x13 x16 x17 x20 x21 x3:Value):(A9 a x9 x12 x13 x16 x17 x20 x21 x3).eval (.tmp 15)=a.eval (.tmp 15):=by
 unfold A9;rw[aj_ (show (3:Nat)≠15 by decide),aj_ (show (21:Nat)≠15 by decide),aj_ (show (20:Nat)≠15 by decide),aj_ (show (17:Nat)≠15 by decide),aj_ (show (16:Nat)≠15 by decide),aj_ (show (13:Nat)≠15 by decide),aj_ (show (12:Nat)≠15 by decide),aj_ (show (9:Nat)≠15 by decide)]
theorem ok_ (a:Act)(x9 x12 x13 x16 x17 x20 x21 x3:Value):(A9 a x9 x12 x13 x16 x17 x20 x21 x3).eval (.tmp 19)=a.eval (.tmp 19):=by
 unfold A9;rw[aj_ (show (3:Nat)≠19 by decide),aj_ (show (21:Nat)≠19 by decide),aj_ (show (20:Nat)≠19 by decide),aj_ (show (17:Nat)≠19 by decide),aj_ (show (16:Nat)≠19 by decide),aj_ (show (13:Nat)≠19 by decide),aj_ (show (12:Nat)≠19 by decide),aj_ (show (9:Nat)≠19 by decide)]
theorem bX_ {l:List Oper}{L:Array Bool}(hr:Region.ready md l.toArray L=[])(ho:l[k]?=some o)(hd:∀ e∈o.after,Region.binds md e=true->L.getD e.on false=true):L.getD k true=true:=by
 cases h:L.getD k true with
 |true=>rfl
 |false=>
  have hq:l.toArray[k]?=some o:=by simpa using ho
  have:=(mem_ready (md:=md)).2 ⟨h,o,hq,hd⟩
  rw[hr] at this
  cases this
def Gk (B:Nat)(t:TypeId)(u:World)(x:Value):Prop:=∃ b,x=.slice (some ⟨b,0,none⟩) 0 0∧Blk u b #[] t∧B<=b
def Gn (cs:α->List Value)(sz:Nat)(t:TypeId)(B n:Nat)(l:List α)(u:World)(x:Value):Prop:=∃ a cap,x=.slice a n cap∧Ae cs sz t u B a n cap l∧a≠none
def H6 (x y:Value):Prop:=∀ a n cap a' n' cap',x=.slice a n cap->y=.slice a' n' cap'->∀ p q,a=some p->a'=some q->0<cap->0<cap'->p.block≠q.block
def Ha (B:Nat)(t:TypeId)(c:Array Value)(u:World)(x:Value):Prop:=∃ b,x=.pointer (some ⟨b,0,none⟩)∧Blk u b c t∧B<=b
theorem Gk.below (h:Gk B t u x)(hb:Below u.heap.size u u'):Gk B t u' x:=by
 obtain⟨b,h1,h2,h3⟩:=h;exact⟨b,h1,h2.below hb,h3⟩
theorem Gn.below (h:Gn cs sz t B n l u x)(hb:Below u.heap.size u u'):Gn cs sz t B n l u' x:=by
 obtain⟨a,cap,h1,h2,h3⟩:=h;exact⟨a,cap,h1,h2.below hb,h3⟩
theorem Ha.below {c:Array Value}(h:Ha B t c u x)(hb:Below u.heap.size u u'):Ha B t c u' x:=by
 obtain⟨b,h1,h2,h3⟩:=h;exact⟨b,h1,h2.below hb,h3⟩
def AI (l:List Pt)(at':Int)(m:List Pt):List Pt:=
 Al (Al (if Af l<at' then AJ (Al [] (slp 0 (min at' (Af l)) 0 l)) ⟨0,0,at'-Af l⟩ else Al [] (slp 0 (min at' (Af l)) 0 l)) m) (Al [] (slp (min (Af l) (at'+Af m)) (Af l) 0 l))
theorem cM_ (a:Option Addr)(n cap:Nat)(l:List Pt)(at':Int)(a':Option Addr)(n' cap':Nat)(m:List Pt)(w:World)(h:AN w a n l)(h':AN w a' n' m)(hok:Ac l=true)(hok':Ac m=true)(h0:0<=at')(h1:at'<=100):
  Calls prog 165 #[.slice a n cap,.int .i64 at',.slice a' n' cap'] w fun e w'=>(∃ a1 n1 cap1,e=.returned (.slice a1 n1 cap1)∧n1<=1000∧Ae Pt.cs 3 201 w' w.heap.size a1 n1 cap1 (AI l at' m))∧Below w.heap.size w w':=by
 have hh:n<=16:=by rw[<-h.len];exact (ae_ hok).1
 have hu:n'<=16:=by rw[<-h'.len];exact (ae_ hok').1
 have hs:Hid (∀ k,0<=Af (l.take k)∧Af (l.take k)<=100):=i8_ hok;have hn:Hid (∀ k,0<=Af (m.take k)∧Af (m.take k)<=100):=i8_ hok';have ht:=(ae_ hok).2.2;have hB:=az_ l (ae_ hok).2.1;have ho:=(ae_ hok').2.2;have hy:=az_ m (ae_ hok').2.1;have hj:=hq_ hok;by_cases hgt:Af l<at'
 ·have hl:Hid (AI l at' m=Al (Al (AJ (Al [] (slp 0 (Af l) 0 l)) ⟨0,0,at'-Af l⟩) m) (Al [] (slp (Af l) (Af l) 0 l))):=by
   show _=_;simp only[AI,hgt,if_true];rw[Int.min_eq_right (by omega),Int.min_eq_left (by omega)]
  have hw:¬ at'+Af m<Af l:=by omega
  go_enter func165,ntmps165
  go_wp2_with fail
  refine (aZ_ a n cap l _ h (by omega) hs.out).mono ?_;rintro e w1 ⟨rfl,rfl⟩
  go_wp2_with fail
  refine (ba_ a n cap l 0 (Af l) _ h hh hj (by omega) (by omega) (by omega) (by omega)).mono ?_;rintro e w2 ⟨⟨a2,n2,cap2,rfl,hA,R2⟩,hv⟩
  go_wp2_with fail
  refine (bg_ a2 n2 cap2 _ ⟨0,0,at'-Af l⟩ _ R2.sl (by omega) R2.arg).mono ?_;rintro e w3 ⟨⟨a3,n3,cap3,rfl,R3⟩,hm⟩;have hz:=bZ_ R3.sl.len R2.sl.len;have hf:=Aa hv hm
  go_wp2_with fail
  refine (bS_ a3 n3 cap3 _ a' n' cap' m _ R3.sl (by omega) R3.arg (h'.below hf) (by omega)).mono ?_;rintro e w4 ⟨⟨a4,n4,cap4,rfl,hp,R4⟩,hc⟩;have hb:=Aa hf hc
  go_wp2_with fail
  refine (aZ_ a' n' cap' m _ (h'.below hb) (by omega) hn.out).mono ?_;rintro e w5 ⟨rfl,rfl⟩
  go_wp2_with fail
  refine (ba_ a n cap l (Af l) (Af l) _ (h.below hb) hh hj (by omega) (by omega) (by omega) (by omega)).mono ?_;rintro e w6 ⟨⟨a6,n6,cap6,rfl,hq,R6⟩,ha⟩;have R6b:=R4.below ha;have hg:=Aa hb ha
  go_wp2_with fail
  refine (bS_ a4 n4 cap4 _ a6 n6 cap6 _ _ R6b.sl (by omega) R6b.arg R6.sl (by omega)).mono ?_;rintro e w7 ⟨⟨a7,n7,cap7,rfl,hr,R7⟩,he⟩;have hk:=Aa hg he;go_wp2;go_returns;exact⟨⟨a7,n7,cap7,rfl,by omega,by rw[hl.out];exact R7.mono hg.size⟩,hk⟩
 ·by_cases hm2:at'+Af m<Af l
  ·have hl:Hid (AI l at' m=Al (Al (Al [] (slp 0 at' 0 l)) m) (Al [] (slp (at'+Af m) (Af l) 0 l))):=by
    show _=_;simp only[AI,hgt,if_false];rw[Int.min_eq_left (by omega),Int.min_eq_right (by omega)]
   go_enter func165,ntmps165
   go_wp2_with fail
   refine (aZ_ a n cap l _ h (by omega) hs.out).mono ?_;rintro e w1 ⟨rfl,rfl⟩
   go_wp2_with fail
   refine (ba_ a n cap l 0 at' _ h hh hj (by omega) (by omega) (by omega) (by omega)).mono ?_;rintro e w2 ⟨⟨a3,n3,cap3,rfl,hx,R3⟩,hf⟩
   go_wp2_with fail
   refine (bS_ a3 n3 cap3 _ a' n' cap' m _ R3.sl (by omega) R3.arg (h'.below hf) (by omega)).mono ?_;rintro e w4 ⟨⟨a4,n4,cap4,rfl,hp,R4⟩,hc⟩;have hb:=Aa hf hc
   go_wp2_with fail
   refine (aZ_ a' n' cap' m _ (h'.below hb) (by omega) hn.out).mono ?_;rintro e w5 ⟨rfl,rfl⟩
   go_wp2_with fail
   refine (ba_ a n cap l (at'+Af m) (Af l) _ (h.below hb) hh hj (by omega) (by omega) (by omega) (by omega)).mono ?_;rintro e w6 ⟨⟨a6,n6,cap6,rfl,hq,R6⟩,ha⟩;have R6b:=R4.below ha;have hg:=Aa hb ha
   go_wp2_with fail
   refine (bS_ a4 n4 cap4 _ a6 n6 cap6 _ _ R6b.sl (by omega) R6b.arg R6.sl (by omega)).mono ?_;rintro e w7 ⟨⟨a7,n7,cap7,rfl,hr,R7⟩,he⟩;have hk:=Aa hg he;go_wp2;go_returns;exact⟨⟨a7,n7,cap7,rfl,by omega,by rw[hl.out];exact R7.mono hg.size⟩,hk⟩
  ·have hl:Hid (AI l at' m=Al (Al (Al [] (slp 0 at' 0 l)) m) (Al [] (slp (Af l) (Af l) 0 l))):=by
    show _=_;simp only[AI,hgt,if_false];rw[Int.min_eq_left (by omega),Int.min_eq_left (by omega)]
   go_enter func165,ntmps165
   go_wp2_with fail
   refine (aZ_ a n cap l _ h (by omega) hs.out).mono ?_;rintro e w1 ⟨rfl,rfl⟩
   go_wp2_with fail
   refine (ba_ a n cap l 0 at' _ h hh hj (by omega) (by omega) (by omega) (by omega)).mono ?_;rintro e w2 ⟨⟨a3,n3,cap3,rfl,hx,R3⟩,hf⟩
   go_wp2_with fail
   refine (bS_ a3 n3 cap3 _ a' n' cap' m _ R3.sl (by omega) R3.arg (h'.below hf) (by omega)).mono ?_;rintro e w4 ⟨⟨a4,n4,cap4,rfl,hp,R4⟩,hc⟩;have hb:=Aa hf hc
   go_wp2_with fail
   refine (aZ_ a' n' cap' m _ (h'.below hb) (by omega) hn.out).mono ?_;rintro e w5 ⟨rfl,rfl⟩
   go_wp2_with fail
   refine (ba_ a n cap l (Af l) (Af l) _ (h.below hb) hh hj (by omega) (by omega) (by omega) (by omega)).mono ?_;rintro e w6 ⟨⟨a6,n6,cap6,rfl,hq,R6⟩,ha⟩;have R6b:=R4.below ha;have hg:=Aa hb ha
   go_wp2_with fail
   refine (bS_ a4 n4 cap4 _ a6 n6 cap6 _ _ R6b.sl (by omega) R6b.arg R6.sl (by omega)).mono ?_;rintro e w7 ⟨⟨a7,n7,cap7,rfl,hr,R7⟩,he⟩;have hk:=Aa hg he;go_wp2;go_returns;exact⟨⟨a7,n7,cap7,rfl,by omega,by rw[hl.out];exact R7.mono hg.size⟩,hk⟩
def F7 (l:List Pt)(at':Int)(m:List Pt):Option (List Pt):=if (Ac l=true∧0<=at'∧at'<=100∧Ac m=true)∧Ac (AI l at' m)=true then some (AI l at' m) else none
theorem bl_ {d:ByteArray}(h:As d=true):1<=d.size:=by simp[As] at h;omega
theorem fe_ {size:Int}:∀ {l:List Ex} {next addr:Int},xgo size next l=true->addr<next->Cx addr l=l
 |[],_,_,_,_=>rfl
 |e::r,next,addr,h,ha=>by
  simp only[xgo,Zf,ZU] at h;obtain⟨⟨⟨h1,h2⟩,h3⟩,h4⟩:=h;have hr:=fe_ h4 (show addr<e.a+e.d.size by omega);have hb:(e.a==addr)=false:=ZV.2 (by omega);simp only[Cx,ZH,hb,Bool.not_false,if_true] at hr ⊢;rw[hr]
theorem AF.take {a:Option Addr}(h:AF cs sz w a n l)(hj:j<=n):AF cs sz w a j (l.take j):=
 ⟨by rw[Zz,h.len];omega,fun i x hx=>by
  rw[List.getElem?_take] at hx;split at hx
  ·exact h.cell i x hx
  ·cases hx⟩
theorem AF.drop {o:Nat}(h:AF cs sz w (some ⟨b,o,none⟩) n l)(j:Nat):AF cs sz w (some ⟨b,o+j*sz,none⟩) (n-j) (l.drop j):=
 ⟨by rw[List.length_drop,h.len],fun i x hx=>by
  rw[List.getElem?_drop] at hx;obtain⟨b',o',he,hc⟩:=h.cell _ _ hx;simp at he;obtain⟨rfl,rfl⟩:=he;refine⟨b,_,rfl,fun u v hv=>?_⟩
  have:=hc u v hv
  rw[Yd] at this;rw[<-this];congr 2;omega⟩
def CE (addr:Int):List Ex->Nat
 |[]=>0
 |e::r=>if e.a<addr then CE addr r+1 else 0
theorem mH_ (addr:Int):∀ l:List Ex,CE addr l<=l.length
 |[]=>Zd _
 |e::r=>by have:=mH_ addr r;unfold CE;split<;>simp<;>omega
def Cy (l:List Ex)(x:Ex):List Ex:=l.take (CE x.a l)++[x]++l.drop (CE x.a l)
theorem iM_ {o:Nat}{l:List Ex}(h:Bf w (some ⟨b,o,none⟩) n l)(j cap:Nat)(hj:j<=n)(hc:n<=cap):
  Bf w (if cap=j then some ⟨b,o,none⟩ else some ⟨b,o+j*2,none⟩) (n-j) (l.drop j):=by
 split
 ·rw[Ze (by rw[h.len];omega)];exact⟨by simp;omega,fun i x hx=>by simp at hx⟩
 ·exact h.drop j
end
section
open Go Go.RowKit
variable{m size:Int}
def AW (size:Int)(l:List Ex)(d:ByteArray):Option (List Ex×Int):=
 if Ao size l=true∧As d=true∧l.length≠60 then ((ggo size 1 l).find? (fun x=>decide ((d.size:Int)<=x.2))).map (fun x=>(Cy l ⟨x.1,d⟩,x.1)) else none
def Ca (size m:Int):Nat->Int->List Ex->Option (Nat×Int)
 |k,next,[]=>if m<=size+1-next then some (k,next) else none
 |k,next,e::r=>if m<=e.a-next then some (k,next) else Ca size m (k+1) (e.a+e.d.size) r
theorem iN_ (hm:1<=m):∀ {L:List Ex} {next:Int} (k:Nat),xgo size next L=true->
  ((ggo size next L).find? (fun x=>decide (m<=x.2))).map (·.1)=(Ca size m k next L).map (·.2)
 |[],next,k,_=>by
  rw[ggo,Ca];by_cases h:m<=size+1-next
  ·rw[if_pos (show next<=size by omega),if_pos h];simp[h]
  ·rw[if_neg h];split
   ·simp[h]
   ·rfl
 |e::r,next,k,hx=>by
  simp only[xgo,Zf,ZU] at hx;obtain⟨⟨⟨h1,h2⟩,h3⟩,h4⟩:=hx;have ih:=iN_ hm (k+1) h4;rw[ggo,Ca];by_cases h:m<=e.a-next
  ·rw[if_pos (show next<e.a by omega),if_pos h];simp[h]
  ·rw[if_neg h,<-ih];split
   ·simp[h]
   ·simp
theorem ol_:∀ {L:List Ex} {next:Int},xgo size next L=true->∀ addr,addr<=next->CE addr L=0
 |[],_,_,_,_=>rfl
 |e::r,next,hx,addr,ha=>by
  simp only[xgo,Zf,ZU] at hx;rw[CE,if_neg (by omega)]
theorem ks_ (hm:1<=m):∀ {L:List Ex} {next:Int} (k:Nat),xgo size next L=true->∀ j nx,Ca size m k next L=some (j,nx)->next<=nx∧j=k+CE nx L
 |[],next,k,_,j,nx,h=>by
  rw[Ca] at h;split at h
  ·cases h;exact⟨YB _,rfl⟩
  ·cases h
 |e::r,next,k,hx,j,nx,h=>by
  have ha:=hx;simp only[xgo,Zf,ZU] at hx;obtain⟨⟨⟨h1,h2⟩,h3⟩,h4⟩:=hx;rw[Ca] at h;split at h
  ·cases h;exact⟨YB _,by rw[ol_ ha _ (YB _)];rfl⟩
  ·obtain⟨q1,q2⟩:=ks_ hm (k+1) h4 j nx h;have hp:=bl_ h1;refine⟨by omega,?_⟩;rw[CE,if_pos (by omega)];omega
def Bt (size:Int)(l:List Ex)(d:ByteArray):Option (List Ex×Int):=
 if Ao size l=true∧As d=true∧l.length≠60 then (Ca size d.size 0 1 l).map (fun x=>(l.take x.1++[⟨x.2,d⟩]++l.drop x.1,x.2)) else none
theorem hE_ (size:Int)(l:List Ex)(d:ByteArray):Bt size l d=AW size l d:=by
 unfold Bt AW;by_cases h:Ao size l=true∧As d=true∧l.length≠60
 ·rw[if_pos h,if_pos h];obtain⟨h1,h2,h3⟩:=h;obtain⟨_,_,_,hx⟩:=cu_ h1;have hd:=bl_ h2;have e1:=iN_ (m:=d.size) (by omega) 0 hx
  cases hp:Ca size d.size 0 1 l with
  |none=>
   rw[hp] at e1
   cases hf:(ggo size 1 l).find? (fun x=>decide ((d.size:Int)<=x.2)) with
   |none=>rfl
   |some y=>rw[hf] at e1;cases e1
  |some x=>
   obtain⟨j,nx⟩:=x;obtain⟨q1,q2⟩:=ks_ (by omega) 0 hx j nx hp;rw[hp] at e1
   cases hf:(ggo size 1 l).find? (fun x=>decide ((d.size:Int)<=x.2)) with
   |none=>rw[hf] at e1;cases e1
   |some y=>
    rw[hf] at e1;simp at e1;simp only[Option.map_some,Cy];rw[e1,show CE nx l=j by omega]
 ·rw[if_neg h,if_neg h]
end
section
open Go Go.RowKit Go.BigFrame Tryz
variable{size:Int}{l:List Ex}
def GG (B:Nat)(e:Ending)(w':World):Option (List Ex×Int)->Prop
 |none=>e=.returned (.tuple #[.slice none 0 0,.int .i64 0,.bool false])
 |some (L,x)=>∃ a n cap,e=.returned (.tuple #[.slice a n cap,.int .i64 x,.bool true])∧Ae Ex.cs 2 76 w' B a n cap L
theorem qp_ (k:Nat)(hk:k<=l.length):(gl size 1 l)[k]?=some ((match l[k]? with | some e=>e.a | none=>size+1)-(glA size l k).2):=by
 rw[lB_ k hk,Zv (by rw[jd_ k hk];omega),jd_ k hk,Nat.sub_self];by_cases h:k<l.length
 ·have hp:l[k]?=some l[k]:=by simp[h]
  rw[al_ hp,hp,gl];rfl
 ·rw[Ze (by omega),show l[k]?=none by simp;omega,gl];rfl
theorem pA_ {m:Int}(k:Nat)(hk:k<l.length+1):Ca size m k (glA size l k).2 (l.drop k)=(if m<=(match l[k]? with | some e=>e.a | none=>size+1)-(glA size l k).2 then some (k,(glA size l k).2) else (if k<l.length then Ca size m (k+1) (glA size l (k+1)).2 (l.drop (k+1)) else none)):=by
 by_cases h:k<l.length
 ·have hp:l[k]?=some l[k]:=by simp[h]
  rw[al_ hp,hp,Ca,if_pos h,da_ hp]
 ·rw[Ze (by omega),show l[k]?=none by simp;omega,Ca,if_neg h]
theorem gK_ (size:Int)(b o n cap:Nat)(l:List Ex)(d:ByteArray)(w:World)(h:Bf w (some ⟨b,o,none⟩) n l)(hstr:BS l)(hn:n<=4194304)(hcap:n<=cap)(hd:d.size<=9223372036854775807):
  Calls prog 164 #[.int .i64 size,.slice (some ⟨b,o,none⟩) n cap,.string d] w fun e w'=>GG w.heap.size e w' (AW size l d)∧Below w.heap.size w w':=by
 have ha:Hid (l.length=n):=h.len;rw[<-hE_]
 have hw:d.toList=[]↔d.size=0:=by
  constructor
  ·intro e
   have:d=ByteArray.mk #[]:=jV_ (by rw[e,Zu])
   rw[this];rfl
  ·intro e;rw[show d=ByteArray.mk #[] from ByteArray.ext (Array.eq_empty_of_size_eq_zero e),Zu]
 cases hj:Ao size l
 ·have hf:Bt size l d=none:=by simp[Bt,hj]
  rw[hf];go_enter func164,ntmps164
  go_wp2_with fail
  refine (aT_ size _ n cap l _ h hstr hn).mono ?_;rintro e w1 ⟨rfl,rfl⟩;rw[hj];go_wp2;go_returns;exact⟨rfl,Yg _ _⟩
 ·obtain⟨qa,hX,h5,hY⟩:=cu_ hj;rw[ha.out] at h5;by_cases hz:d.size=0
  ·have hQ:d.toList=[]:=hw.2 hz;have qb:d.toList.isEmpty=true:=by rw[hQ];rfl
   have hf:Bt size l d=none:=by simp[Bt,As,hz]
   rw[hf];go_enter func164,ntmps164
   go_wp2_with fail
   refine (aT_ size _ n cap l _ h hstr hn).mono ?_;rintro e w1 ⟨rfl,rfl⟩;rw[hj];go_wp2;go_returns;exact⟨rfl,Yg _ _⟩
  ·have hQ:¬ d.toList=[]:=fun e=>hz (hw.1 e);have qb:d.toList.isEmpty=false:=by cases hh:d.toList.isEmpty;rfl;exact absurd (List.isEmpty_iff.1 hh) hQ
   cases hm:(plainB d&&decide (d.size<=20))
   ·have hf:Bt size l d=none:=by
     have:As d=false:=by rw[dz_,hm];simp
     simp[Bt,this]
    rw[hf];go_enter func164,ntmps164
    go_wp2_with fail
    refine (aT_ size _ n cap l _ h hstr hn).mono ?_;rintro e w1 ⟨rfl,rfl⟩;rw[hj]
    go_wp2_with fail
    refine (a7_ d _ hd).mono ?_;rintro e w1 ⟨rfl,rfl⟩;rw[hm];go_wp2;go_returns;exact⟨rfl,Yg _ _⟩
   ·have h2:As d=true:=by rw[dz_,hm];simp;omega
    by_cases h60:n=60
    ·have hJ:((n:Int)==60)=true:=by simp[h60]
     have hf:Bt size l d=none:=by simp[Bt,ha.out,h60]
     rw[hf];clear h60;go_enter func164,ntmps164
     go_wp2_with fail
     refine (aT_ size _ n cap l _ h hstr hn).mono ?_;rintro e w1 ⟨rfl,rfl⟩;rw[hj]
     go_wp2_with fail
     refine (a7_ d _ hd).mono ?_;rintro e w1 ⟨rfl,rfl⟩;rw[hm];go_wp2;go_returns;exact⟨rfl,Yg _ _⟩
    ·have hJ:((n:Int)==60)=false:=ZV.2 (by omega);have h1:d.size<=20:=by simp at hm;exact hm.2
     have hf:Hid (Bt size l d=(Ca size d.size 0 1 l).map (fun x=>(l.take x.1++[⟨x.2,d⟩]++l.drop x.1,x.2))):=by show _=_;unfold Bt;rw[if_pos ⟨hj,h2,by rw[ha.out];exact h60⟩]
     have hO:=n3_ (size:=size) (L:=l) (next:=1);rw[ha.out] at hO;generalize hR:Bt size l d=R at *;clear hR;obtain⟨i0,hi,hr,hs,ht⟩:=info_parts Fj;go_enter func164,ntmps164
     go_wp2_with fail
     refine (aT_ size _ n cap l _ h hstr hn).mono ?_;rintro e w1 ⟨rfl,rfl⟩;rw[hj]
     go_wp2_with fail
     refine (a7_ d _ hd).mono ?_;rintro e w1 ⟨rfl,rfl⟩;rw[hm]
     go_wp2_with fail
     refine (j4_ size _ n cap l _ h (by omega) qa hX hY).mono ?_;rintro e w2 ⟨⟨ag,ng,capg,rfl,Rg⟩,hS⟩;have hW:=Rg.sl.len;rw[hO] at hW;have h6:ng<=n+1:=by omega
     have h7:n+1<=ng:=by omega
     clear hW hO;have hG:=Rg.sl
     go_wp2_with fail
     go_loopw [10,11] (fun nx ix wr=>∃ (k:Nat),k<=ng∧ix=.int .i64 k∧(k<ng->nx=.int .i64 (glA size l k).2∧Hid (Ca size d.size 0 1 l=Ca size d.size k (glA size l k).2 (l.drop k)))∧(k=ng->(∃ y:Int,nx=.int .i64 y)∧Hid (Ca size d.size 0 1 l=none))∧Below w2.heap.size w2 wr) (fun _ ix _=>ng-(intOf ix).toNat)
     case atStart=>exact⟨0,Zg _,rfl,fun _=>⟨rfl,by show _=_;simp[glA]⟩,fun e=>by omega,Yg _ _⟩
     case round=>
      obtain⟨k,hk,rfl,hP,hl,hB⟩:=hrel;by_cases hlt:k<ng
      ·obtain⟨rfl,hI⟩:=hP hlt;clear hP hl;have hV:k<=l.length:=by rw[ha.out];omega
       obtain⟨bg,og,x,h0,hx,c0⟩:=nW_ (hG.below hB) hlt
       have hH:x=(match l[k]? with | some e=>e.a | none=>size+1)-(glA size l k).2:=by
        have:=qp_ (size:=size) (l:=l) k hV
        rw[this] at hx;exact (Zi hx).symm
       have hc:=pA_ (size:=size) (m:=d.size) (l:=l) k (by omega);rw[<-hH] at hc;obtain⟨q1,q2,q3⟩:=lC_ (l:=l) hX k hV hY;subst h0;have hv:=Aa hS hB;have hF:=hv.size;have qc:(k:Int)<ng:=by omega
       have qd:(0:Int)<=k:=by omega
       have hL:∀ u,Below w1.heap.size w1 u->Bf u (some ⟨b,o,none⟩) k (l.take k):=fun u hu=>(h.below hu).take (by omega);have hZ:∀ u,Below w1.heap.size w1 u->Bf u (if cap=k then some ⟨b,o,none⟩ else some ⟨b,o+k*2,none⟩) (n-k) (l.drop k):=fun u hu=>iM_ (h.below hu) k cap (by omega) hcap;by_cases hfit:(d.size:Int)<=x
       ·rw[if_pos hfit] at hc;have hA:Hid (R=some ([]++l.take k++[⟨(glA size l k).2,d⟩]++l.drop k,(glA size l k).2)):=by show _=_;rw[hf.out,hI.out,hc];simp
        clear hc hI hf q3 hx hH;generalize (glA size l k).2=nk at *;by_cases hkn:k=n
        ·subst hkn;have hT:∀ (u:World) (q:Option Addr),Bf u q 0 (l.drop k):=fun u q=>by rw[Ze (Zm ha.out)];exact⟨rfl,fun i x hx=>by simp at hx⟩
         go_wp2_with (first | (at_builtin;refine ag_ rfl (fun K hK=>ay_ _ _ 31 rfl w1.heap.size 76 i0 (.agg #[.int .i64 0,.string .empty]) 24 underlying31 hi hr hs ht rfl (by decide) aK_ aU_ _ 0 0 [] rfl (aw_ (Blk.new' _ _ _ _ (by simp)) (by omega)) (some ⟨b,o,none⟩) k cap (l.take k) rfl (hL _ (hv.alloc hF _)) (fun ad h=>(by cases h;rfl)) (fun h=>(by cases h)) k (Zq _) (by unfold maxLen;omega) (by omega) (by simp;omega) (fun a1 cap1 u1 hC hM=>hK _ _ ?_));have he:Below w1.heap.size w1 u1:=Yi (hv.alloc hF _) hM (by simp;omega) (fun k e=>by simp[Value.ownBlock] at e;omega)) | (at_builtin;refine ag_ rfl (fun K hK=>ay_ _ _ 31 rfl w1.heap.size 76 i0 (.agg #[.int .i64 0,.string .empty]) 24 underlying31 hi hr hs ht rfl (by decide) aK_ aU_ a1 k cap1 ([]++l.take k) rfl (hC.alloc _) _ 1 1 [(⟨nk,d⟩:Ex)] rfl (c9_ _ ⟨nk,d⟩ _ _ (by simp)) (fun ad h=>(by cases h;rfl)) (fun h=>(by cases h)) (k+1) rfl (by unfold maxLen;omega) (by omega) (by have:=he.size;simp;omega) (fun a2 cap2 u2 ho hN=>hK _ _ ?_));have hb:Below w1.heap.size w1 u2:=Yi (he.alloc he.size _) hN (by have:=he.size;simp;omega) (aG_ fun ad hg=>(hC.block ad hg).1)) | (at_builtin;refine ag_ rfl (fun K hK=>ay_ _ _ 31 rfl w1.heap.size 76 i0 (.agg #[.int .i64 0,.string .empty]) 24 underlying31 hi hr hs ht rfl (by decide) aK_ aU_ a2 (k+1) cap2 ([]++l.take k++[(⟨nk,d⟩:Ex)]) rfl ho (if cap=k then some ⟨b,o,none⟩ else some ⟨b,o+k*2,none⟩) 0 (cap-k) (l.drop k) rfl (hT _ _) (fun ad h=>(by first | (cases h;rfl) | (split at h<;>cases h<;>rfl))) (fun h=>(by first | cases h | (split at h<;>cases h))) (k+1) (by omega) (by unfold maxLen;omega) (by omega) hb.size (fun a3 cap3 u3 hE hy=>hK _ _ ?_));have hD:Below w1.heap.size w1 u3:=Yi hb hy hb.size (aG_ fun ad hg=>(ho.block ad hg).1)) | (at_builtin;refine ag_ rfl (fun K hK=>ay_ _ _ 31 rfl w1.heap.size 76 i0 (.agg #[.int .i64 0,.string .empty]) 24 underlying31 hi hr hs ht rfl (by decide) aK_ aU_ a2 (k+1) cap2 ([]++l.take k++[(⟨nk,d⟩:Ex)]) rfl ho (if cap=k then some ⟨b,o,none⟩ else some ⟨b,o+k*2,none⟩) (k-k) (cap-k) (l.drop k) rfl (by rw[Nat.sub_self];exact hT _ _) (fun ad h=>(by first | (cases h;rfl) | (split at h<;>cases h<;>rfl))) (fun h=>(by first | cases h | (split at h<;>cases h))) (k+1) (by omega) (by unfold maxLen;omega) (by omega) hb.size (fun a3 cap3 u3 hE hy=>hK _ _ ?_));have hD:Below w1.heap.size w1 u3:=Yi hb hy hb.size (aG_ fun ad hg=>(ho.block ad hg).1)))
         all_goals go_returns
         all_goals (rw[hA.out];exact⟨⟨a3,k+1,cap3,rfl,hE⟩,hD⟩)
        ·have h4:k<n:=by omega
         go_wp2_with (first | (at_builtin;refine ag_ rfl (fun K hK=>ay_ _ _ 31 rfl w1.heap.size 76 i0 (.agg #[.int .i64 0,.string .empty]) 24 underlying31 hi hr hs ht rfl (by decide) aK_ aU_ _ 0 0 [] rfl (aw_ (Blk.new' _ _ _ _ (by simp)) (by omega)) (some ⟨b,o,none⟩) k cap (l.take k) rfl (hL _ (hv.alloc hF _)) (fun ad h=>(by cases h;rfl)) (fun h=>(by cases h)) k (Zq _) (by unfold maxLen;omega) (by omega) (by simp;omega) (fun a1 cap1 u1 hC hM=>hK _ _ ?_));have he:Below w1.heap.size w1 u1:=Yi (hv.alloc hF _) hM (by simp;omega) (fun k e=>by simp[Value.ownBlock] at e;omega)) | (at_builtin;refine ag_ rfl (fun K hK=>ay_ _ _ 31 rfl w1.heap.size 76 i0 (.agg #[.int .i64 0,.string .empty]) 24 underlying31 hi hr hs ht rfl (by decide) aK_ aU_ a1 k cap1 ([]++l.take k) rfl (hC.alloc _) _ 1 1 [(⟨nk,d⟩:Ex)] rfl (c9_ _ ⟨nk,d⟩ _ _ (by simp)) (fun ad h=>(by cases h;rfl)) (fun h=>(by cases h)) (k+1) rfl (by unfold maxLen;omega) (by omega) (by have:=he.size;simp;omega) (fun a2 cap2 u2 ho hN=>hK _ _ ?_));have hb:Below w1.heap.size w1 u2:=Yi (he.alloc he.size _) hN (by have:=he.size;simp;omega) (aG_ fun ad hg=>(hC.block ad hg).1)) | (at_builtin;refine ag_ rfl (fun K hK=>ay_ _ _ 31 rfl w1.heap.size 76 i0 (.agg #[.int .i64 0,.string .empty]) 24 underlying31 hi hr hs ht rfl (by decide) aK_ aU_ a2 (k+1) cap2 ([]++l.take k++[(⟨nk,d⟩:Ex)]) rfl ho (some ⟨b,o+k*2,none⟩) (n-k) (cap-k) (l.drop k) rfl ((h.below hb).drop k) (fun ad h=>(by first | (cases h;rfl) | (split at h<;>cases h<;>rfl))) (fun h=>(by first | cases h | (split at h<;>cases h))) (n+1) (by omega) (by unfold maxLen;omega) (by omega) hb.size (fun a3 cap3 u3 hE hy=>hK _ _ ?_));have hD:Below w1.heap.size w1 u3:=Yi hb hy hb.size (aG_ fun ad hg=>(ho.block ad hg).1)))
         all_goals go_returns
         all_goals (rw[hA.out];exact⟨⟨a3,n+1,cap3,rfl,hE⟩,hD⟩)
       ·rw[if_neg hfit] at hc;clear hL hZ hx;by_cases hkn:k<n
        ·rw[if_pos (by rw[ha.out];exact hkn)] at hc;obtain⟨b',o',p,hU,hp,d0,d1⟩:=be_ (h.below hv) hkn;obtain⟨rfl,rfl⟩:b=b'∧o=o':=by simpa using hU
         have h3:Hid ((glA size l (k+1)).2=p.a+p.d.size):=by show _=_;rw[da_ hp]
         have hq:Hid (Ca size d.size 0 1 l=Ca size d.size (k+1) (glA size l (k+1)).2 (l.drop (k+1))):=by show _=_;rw[hI.out,hc]
         rw[al_ hp] at q3;simp only[xgo,Zf,ZU] at q3;have h8:p.d.size<=20:=by have:=q3.1.1.1;simp[As] at this;omega
         have qf:p.a<=400:=by have:=q3.1.2;have:=bl_ q3.1.1.1;omega
         have h9:1<=p.a:=by have:=q3.1.1.2;omega
         clear hp hU q3 hc hI hH;generalize (glA size l k).2=nk at *;have qe:(k:Int)<n:=by omega
         go_wp2_with fail
         go_quiet (fail)
         go_wp2;go_roundw
         case rel=>exact⟨k+1,by omega,by go_num,fun _=>⟨by rw[h3.out],hq⟩,fun e=>by omega,Aa hB (AK _ _)⟩
         case measure=>simp[intOf];omega
        ·rw[if_neg (by rw[ha.out];exact hkn)] at hc;have hq:Hid (Ca size d.size 0 1 l=none):=by show _=_;rw[hI.out,hc]
         clear q3 hc hI hH;generalize (glA size l k).2=nk at *;go_wp2;go_roundw
         case rel=>exact⟨k+1,by omega,by go_num,fun e=>by omega,fun _=>⟨⟨_,rfl⟩,hq⟩,hB⟩
         case measure=>simp[intOf];omega
      ·obtain⟨⟨y,rfl⟩,hI⟩:=hl (by omega);obtain rfl:k=ng:=by omega
       clear hP hl;go_wp2;go_returns;rw[hf.out,hI.out];exact⟨rfl,Aa hS hB⟩
end
section
open Go Go.RowKit Go.BigFrame Tryz
variable{file vol:ByteArray}{i k:Nat}
structure Opr where
 k:Int
 vol:ByteArray
 file:ByteArray
 to:ByteArray
 into:ByteArray
 at':Int
 fr:Int
 ln:Int
 data:ByteArray
abbrev FK:=AF (fun x:ByteArray=>[Value.string x]) 1
theorem pB_ {w:World}{a:Option Addr}{n:Nat}{l:List ByteArray}(h:FK w a n l)(hk:k<n):
  ∃ b o p,a=some ⟨b,o,none⟩∧l[k]?=some p∧w.cell? ⟨b,o+k,none⟩=some (.string p):=by
 have hl:k<l.length:=by rw[h.len];exact hk
 have hx:l[k]?=some l[k]:=by simp[hl]
 obtain⟨b,o,ha,hc⟩:=h.cell k _ hx;exact⟨b,o,l[k],ha,hx,by simpa using hc 0 _ rfl⟩
theorem bs_ (a:Option Addr)(n cap:Nat)(l:List ByteArray)(w:World)(h:FK w a n l)(hn:n<=16)(hs:∀ x∈l,x.size<=9223372036854775807):
  Calls prog 103 #[.slice a n cap] w fun e w'=>e=.returned (.bool (l.all nameB))∧w'=w:=by
 have hb:Hid (l.length=n):=h.len;have ha:Hid (l.all nameB=(l.drop 0).all nameB):=by show _=_;simp
 go_enter func103,ntmps103
 go_wp2_with fail
 go_loop [7] (fun ix=>∃ (k:Nat),k<=n∧ix=.int .i64 k∧Hid (l.all nameB=(l.drop k).all nameB)) (fun ix=>n-(intOf ix).toNat)
 case atStart=>exact⟨0,Zg _,rfl,ha⟩
 case round=>
  obtain⟨k,hk,rfl,hI⟩:=hrel;by_cases hlt:k<n
  ·obtain⟨b,o,p,rfl,hp,c0⟩:=pB_ h hlt;have hd:Hid (l.drop k=p::l.drop (k+1)):=al_ hp;have he:=hs p (Zc hp)
   cases hc:nameB p
   ·go_wp2_with (first | (go_at_call 158;refine (bT_ p _ he).mono ?_;rintro e w1 ⟨rfl,rfl⟩;rw[hc]))
    all_goals go_returns
    all_goals go_light
    all_goals (refine⟨ac_ ?_,rfl⟩;rw[hI.out,hd.out];simp[hc])
   ·go_wp2_with (first | (go_at_call 158;refine (bT_ p _ he).mono ?_;rintro e w1 ⟨rfl,rfl⟩;rw[hc]))
    go_round
    case rel=>exact⟨k+1,by omega,by go_num,by show _=_;rw[hI.out,hd.out];simp[hc]⟩
    case measure=>simp[intOf];omega
  ·obtain rfl:k=n:=by omega
   go_wp2;go_returns;go_light;refine⟨ac_ ?_,rfl⟩;rw[hI.out,Ze (by rw[hb.out];exact Zd _)];rfl
theorem bP_ (n lo:Int)(w:World):
  Calls prog 104 #[.int .i64 n,.int .i64 lo] w fun e w'=>e=.returned (.bool (decide (lo<=n)&&decide (n<=100)))∧w'=w:=by
 go_enter func104,ntmps104;go_wp2
 all_goals go_returns
 all_goals go_light
 all_goals refine⟨ac_ ?_,rfl⟩
 all_goals first | (simp_all;done) | (simp_all;omega)
def B6 (p q:Opr):Bool:=p.k==q.k&&(p.vol.toList==q.vol.toList&&(p.file.toList==q.file.toList&&(p.to.toList==q.to.toList&&(p.into.toList==q.into.toList&&(p.at'==q.at'&&(p.fr==q.fr&&(p.ln==q.ln&&p.data.toList==q.data.toList)))))))
theorem Eg (p q:Opr)(w:World):(binOp .eql 39 (.agg #[.int .i64 p.k,.string p.vol,.string p.file,.string p.to,.string p.into,.int .i64 p.at',.int .i64 p.fr,.int .i64 p.ln,.string p.data]) (.agg #[.int .i64 q.k,.string q.vol,.string q.file,.string q.to,.string q.into,.int .i64 q.at',.int .i64 q.fr,.int .i64 q.ln,.string q.data])).run prog w=.ok (.bool (B6 p q)) w:=by
 have u2:=underlying2;have u9:=underlying9;have a2:=Tryz.isAgg2;have a9:=Tryz.isAgg9;have z2:=Tryz.sizeOf2;have z9:=Tryz.sizeOf9;have hS:prog.underlying 39=some (.struct (prog.fieldsOf 39)):=by kernel_rfl
 have hp:prog.stoodInHeld 39=false:=by kernel_rfl
 rw[run_eql_struct,show (10000:Nat)=9999+1 from rfl,run_equalIn_agg w 9999 39 _ _ hS hp];simp only[Program.fieldsOf,underlying39];go_simp;unfold B6;by_cases h1:p.k=q.k
 case neg=>simp[h1]
 by_cases h2:p.vol.toList=q.vol.toList
 case neg=>simp[h1,h2]
 by_cases h3:p.file.toList=q.file.toList
 case neg=>simp[h1,h2,h3]
 by_cases h4:p.to.toList=q.to.toList
 case neg=>simp[h1,h2,h3,h4]
 by_cases h5:p.into.toList=q.into.toList
 case neg=>simp[h1,h2,h3,h4,h5]
 by_cases h6:p.at'=q.at'
 case neg=>simp[h1,h2,h3,h4,h5,h6]
 by_cases h7:p.fr=q.fr
 case neg=>simp[h1,h2,h3,h4,h5,h6,h7]
 by_cases h8:p.ln=q.ln
 case neg=>simp[h1,h2,h3,h4,h5,h6,h7,h8]
 by_cases h9:p.data.toList=q.data.toList<;>simp[h1,h2,h3,h4,h5,h6,h7,h8,h9]
def zB (d:ByteArray):Bool:=d.toList==(⟨#[]⟩:ByteArray).toList
def inB (n lo hi:Int):Bool:=decide (lo<=n)&&decide (n<=hi)
def opB (o:Opr):Bool:=
 if o.k=1∨o.k=7∨o.k=8 then nameB o.vol&&(zB o.file&&zB o.to&&zB o.into&&o.at'==0&&o.fr==0&&o.ln==0&&zB o.data)
 else if o.k=2 then nameB o.vol&&nameB o.file&&inB o.at' 0 100&&As o.data&&(zB o.to&&zB o.into&&o.fr==0&&o.ln==0)
 else if o.k=3 then nameB o.vol&&nameB o.file&&inB o.ln 0 100&&(zB o.to&&zB o.into&&o.at'==0&&o.fr==0&&zB o.data)
 else if o.k=4 then nameB o.vol&&nameB o.file&&(zB o.to&&zB o.into&&o.at'==0&&o.fr==0&&o.ln==0&&zB o.data)
 else if o.k=10 then nameB o.vol&&nameB o.file&&inB o.at' 0 100&&inB o.ln 1 100&&(zB o.to&&zB o.into&&o.fr==0&&zB o.data)
 else if o.k=5 then nameB o.vol&&nameB o.file&&nameB o.to&&nameB o.into&&inB o.at' 0 100&&inB o.fr 0 100&&inB o.ln 1 100&&zB o.data
 else if o.k=6 then nameB o.vol&&nameB o.to&&(zB o.file&&zB o.into&&o.at'==0&&o.fr==0&&o.ln==0&&zB o.data)
 else if o.k=9 then zB o.vol&&zB o.file&&zB o.to&&zB o.into&&o.at'==0&&o.fr==0&&o.ln==0&&zB o.data
 else false
structure BC (o:Opr):Prop where
 vol:o.vol.size<=9223372036854775807
 file:o.file.size<=9223372036854775807
 to:o.to.size<=9223372036854775807
 into:o.into.size<=9223372036854775807
 data:o.data.size<=9223372036854775807
theorem cw_ (w:World)(l:List ByteArray)(t:TypeId)(b:Nat)(hb:b=w.heap.size)(cs:Array Value)(hc:cs=(l.map Value.string).toArray):FK (w.alloc (.cells cs t)) (some ⟨b,0,none⟩) l.length l:=by
 subst hb hc;refine⟨rfl,fun i x hx=>⟨_,0,rfl,fun j v hv=>?_⟩⟩
 match j,hv with
 |0,hv=>
  obtain rfl:=Zi hv;rw[Yv];simp[hx]
 |j+1,hv=>simp at hv
theorem fr_ (k:Int)(vol file to into:ByteArray)(at' fr ln:Int)(data:ByteArray)(w:World)(hs:BC ⟨k,vol,file,to,into,at',fr,ln,data⟩)(hk:k=1∨k=7∨k=8):
  Calls prog 49 #[.agg #[.int .i64 k,.string vol,.string file,.string to,.string into,.int .i64 at',.int .i64 fr,.int .i64 ln,.string data]] w fun e w'=>e=.returned (.bool ([vol].all nameB&&(B6 ⟨k,vol,file,to,into,at',fr,ln,data⟩ ⟨k,vol,⟨#[]⟩,⟨#[]⟩,⟨#[]⟩,0,0,0,⟨#[]⟩⟩)))∧Below w.heap.size w w':=by
 have ha:=Eg ⟨k,vol,file,to,into,at',fr,ln,data⟩ ⟨k,vol,⟨#[]⟩,⟨#[]⟩,⟨#[]⟩,0,0,0,⟨#[]⟩⟩;dsimp only at ha;generalize B6 _ _=E at ha ⊢;generalize hN:[vol].all nameB=N;rcases hk with rfl | rfl | rfl
 all_goals go_enter func49,ntmps49
 all_goals go_wp2_with fail
 all_goals refine (bs_ _ 1 1 [vol] _ (cw_ _ [vol] _ _ (by simp) _ rfl) (by omega) (by simpa using hs.vol)).mono ?_
 all_goals rintro e w1 ⟨rfl,rfl⟩
 all_goals rw[hN]
 all_goals cases N
 all_goals go_wp2
 all_goals go_returns
 all_goals go_light
 all_goals exact⟨by simp,by go_grown⟩
theorem lJ_ (k:Int)(vol file to into:ByteArray)(at' fr ln:Int)(data:ByteArray)(w:World)(hs:BC ⟨k,vol,file,to,into,at',fr,ln,data⟩)(hk:k=4):
  Calls prog 49 #[.agg #[.int .i64 k,.string vol,.string file,.string to,.string into,.int .i64 at',.int .i64 fr,.int .i64 ln,.string data]] w fun e w'=>e=.returned (.bool ([vol,file].all nameB&&(B6 ⟨k,vol,file,to,into,at',fr,ln,data⟩ ⟨k,vol,file,⟨#[]⟩,⟨#[]⟩,0,0,0,⟨#[]⟩⟩)))∧Below w.heap.size w w':=by
 have ha:=Eg ⟨k,vol,file,to,into,at',fr,ln,data⟩ ⟨k,vol,file,⟨#[]⟩,⟨#[]⟩,0,0,0,⟨#[]⟩⟩;dsimp only at ha;generalize B6 _ _=E at ha ⊢;generalize hN:[vol,file].all nameB=N;subst hk;go_enter func49,ntmps49
 go_wp2_with fail
 refine (bs_ _ 2 2 [vol,file] _ (cw_ _ [vol,file] _ _ (by simp) _ rfl) (by omega) (by intro x hx;simp at hx;rcases hx with rfl | rfl<;>first | exact hs.vol | exact hs.file)).mono ?_;rintro e w1 ⟨rfl,rfl⟩;rw[hN]
 cases N
 all_goals go_wp2
 all_goals go_returns
 all_goals go_light
 all_goals exact⟨by simp,by go_grown⟩
theorem lK_ (k:Int)(vol file to into:ByteArray)(at' fr ln:Int)(data:ByteArray)(w:World)(hs:BC ⟨k,vol,file,to,into,at',fr,ln,data⟩)(hk:k=6):
  Calls prog 49 #[.agg #[.int .i64 k,.string vol,.string file,.string to,.string into,.int .i64 at',.int .i64 fr,.int .i64 ln,.string data]] w fun e w'=>e=.returned (.bool ([vol,to].all nameB&&(B6 ⟨k,vol,file,to,into,at',fr,ln,data⟩ ⟨k,vol,⟨#[]⟩,to,⟨#[]⟩,0,0,0,⟨#[]⟩⟩)))∧Below w.heap.size w w':=by
 have ha:=Eg ⟨k,vol,file,to,into,at',fr,ln,data⟩ ⟨k,vol,⟨#[]⟩,to,⟨#[]⟩,0,0,0,⟨#[]⟩⟩;dsimp only at ha;generalize B6 _ _=E at ha ⊢;generalize hN:[vol,to].all nameB=N;subst hk;go_enter func49,ntmps49
 go_wp2_with fail
 refine (bs_ _ 2 2 [vol,to] _ (cw_ _ [vol,to] _ _ (by simp) _ rfl) (by omega) (by intro x hx;simp at hx;rcases hx with rfl | rfl<;>first | exact hs.vol | exact hs.to)).mono ?_;rintro e w1 ⟨rfl,rfl⟩;rw[hN]
 cases N
 all_goals go_wp2
 all_goals go_returns
 all_goals go_light
 all_goals exact⟨by simp,by go_grown⟩
theorem lL_ (k:Int)(vol file to into:ByteArray)(at' fr ln:Int)(data:ByteArray)(w:World)(hs:BC ⟨k,vol,file,to,into,at',fr,ln,data⟩)(hk:k=2):
  Calls prog 49 #[.agg #[.int .i64 k,.string vol,.string file,.string to,.string into,.int .i64 at',.int .i64 fr,.int .i64 ln,.string data]] w fun e w'=>e=.returned (.bool ([vol,file].all nameB&&(decide (0<=at')&&decide (at'<=100)&&(As data&&(B6 ⟨k,vol,file,to,into,at',fr,ln,data⟩ ⟨k,vol,file,⟨#[]⟩,⟨#[]⟩,at',0,0,data⟩)))))∧Below w.heap.size w w':=by
 have ha:=Eg ⟨k,vol,file,to,into,at',fr,ln,data⟩ ⟨k,vol,file,⟨#[]⟩,⟨#[]⟩,at',0,0,data⟩;dsimp only at ha;generalize B6 _ _=E at ha ⊢;generalize hN:[vol,file].all nameB=N;generalize hC0:(decide (0<=at')&&decide (at'<=100))=C0;generalize hC1:(As data)=C1;subst hk;go_enter func49,ntmps49
 go_wp2_with fail
 refine (bs_ _ 2 2 [vol,file] _ (cw_ _ [vol,file] _ _ (by simp) _ rfl) (by omega) (by intro x hx;simp at hx;rcases hx with rfl | rfl<;>first | exact hs.vol | exact hs.file)).mono ?_;rintro e w1 ⟨rfl,rfl⟩;rw[hN]
 cases N
 ·go_wp2;go_returns;go_light;exact⟨by simp,by go_grown⟩
 ·go_wp2_with fail
  refine (bP_ at' 0 _).mono ?_;rintro e w1 ⟨rfl,rfl⟩;rw[hC0]
  cases C0
  ·go_wp2;go_returns;go_light;exact⟨by simp,by go_grown⟩
  ·go_wp2_with fail
   refine (by_ data _ hs.data).mono ?_;rintro e w1 ⟨rfl,rfl⟩;rw[hC1]
   cases C1
   ·go_wp2;go_returns;go_light;exact⟨by simp,by go_grown⟩
   ·go_wp2
    all_goals go_returns
    all_goals go_light
    all_goals exact⟨by simp[],by go_grown⟩
theorem lM_ (k:Int)(vol file to into:ByteArray)(at' fr ln:Int)(data:ByteArray)(w:World)(hs:BC ⟨k,vol,file,to,into,at',fr,ln,data⟩)(hk:k=3):
  Calls prog 49 #[.agg #[.int .i64 k,.string vol,.string file,.string to,.string into,.int .i64 at',.int .i64 fr,.int .i64 ln,.string data]] w fun e w'=>e=.returned (.bool ([vol,file].all nameB&&(decide (0<=ln)&&decide (ln<=100)&&(B6 ⟨k,vol,file,to,into,at',fr,ln,data⟩ ⟨k,vol,file,⟨#[]⟩,⟨#[]⟩,0,0,ln,⟨#[]⟩⟩))))∧Below w.heap.size w w':=by
 have ha:=Eg ⟨k,vol,file,to,into,at',fr,ln,data⟩ ⟨k,vol,file,⟨#[]⟩,⟨#[]⟩,0,0,ln,⟨#[]⟩⟩;dsimp only at ha;generalize B6 _ _=E at ha ⊢;generalize hN:[vol,file].all nameB=N;generalize hC0:(decide (0<=ln)&&decide (ln<=100))=C0;subst hk;go_enter func49,ntmps49
 go_wp2_with fail
 refine (bs_ _ 2 2 [vol,file] _ (cw_ _ [vol,file] _ _ (by simp) _ rfl) (by omega) (by intro x hx;simp at hx;rcases hx with rfl | rfl<;>first | exact hs.vol | exact hs.file)).mono ?_;rintro e w1 ⟨rfl,rfl⟩;rw[hN]
 cases N
 ·go_wp2;go_returns;go_light;exact⟨by simp,by go_grown⟩
 ·go_wp2_with fail
  refine (bP_ ln 0 _).mono ?_;rintro e w1 ⟨rfl,rfl⟩;rw[hC0]
  cases C0
  ·go_wp2;go_returns;go_light;exact⟨by simp,by go_grown⟩
  ·go_wp2
   all_goals go_returns
   all_goals go_light
   all_goals exact⟨by simp[],by go_grown⟩
theorem kt_ (k:Int)(vol file to into:ByteArray)(at' fr ln:Int)(data:ByteArray)(w:World)(hs:BC ⟨k,vol,file,to,into,at',fr,ln,data⟩)(hk:k=10):
  Calls prog 49 #[.agg #[.int .i64 k,.string vol,.string file,.string to,.string into,.int .i64 at',.int .i64 fr,.int .i64 ln,.string data]] w fun e w'=>e=.returned (.bool ([vol,file].all nameB&&(decide (0<=at')&&decide (at'<=100)&&(decide (1<=ln)&&decide (ln<=100)&&(B6 ⟨k,vol,file,to,into,at',fr,ln,data⟩ ⟨k,vol,file,⟨#[]⟩,⟨#[]⟩,at',0,ln,⟨#[]⟩⟩)))))∧Below w.heap.size w w':=by
 have ha:=Eg ⟨k,vol,file,to,into,at',fr,ln,data⟩ ⟨k,vol,file,⟨#[]⟩,⟨#[]⟩,at',0,ln,⟨#[]⟩⟩;dsimp only at ha;generalize B6 _ _=E at ha ⊢;generalize hN:[vol,file].all nameB=N;generalize hC0:(decide (0<=at')&&decide (at'<=100))=C0;generalize hC1:(decide (1<=ln)&&decide (ln<=100))=C1;subst hk;go_enter func49,ntmps49
 go_wp2_with fail
 refine (bs_ _ 2 2 [vol,file] _ (cw_ _ [vol,file] _ _ (by simp) _ rfl) (by omega) (by intro x hx;simp at hx;rcases hx with rfl | rfl<;>first | exact hs.vol | exact hs.file)).mono ?_;rintro e w1 ⟨rfl,rfl⟩;rw[hN]
 cases N
 ·go_wp2;go_returns;go_light;exact⟨by simp,by go_grown⟩
 ·go_wp2_with fail
  refine (bP_ at' 0 _).mono ?_;rintro e w1 ⟨rfl,rfl⟩;rw[hC0]
  cases C0
  ·go_wp2;go_returns;go_light;exact⟨by simp,by go_grown⟩
  ·go_wp2_with fail
   refine (bP_ ln 1 _).mono ?_;rintro e w1 ⟨rfl,rfl⟩;rw[hC1]
   cases C1
   ·go_wp2;go_returns;go_light;exact⟨by simp,by go_grown⟩
   ·go_wp2
    all_goals go_returns
    all_goals go_light
    all_goals exact⟨by simp[],by go_grown⟩
theorem lN_ (k:Int)(vol file to into:ByteArray)(at' fr ln:Int)(data:ByteArray)(w:World)(hs:BC ⟨k,vol,file,to,into,at',fr,ln,data⟩)(hk:k=5):
  Calls prog 49 #[.agg #[.int .i64 k,.string vol,.string file,.string to,.string into,.int .i64 at',.int .i64 fr,.int .i64 ln,.string data]] w fun e w'=>e=.returned (.bool ([vol,file,to,into].all nameB&&(decide (0<=at')&&decide (at'<=100)&&(decide (0<=fr)&&decide (fr<=100)&&(decide (1<=ln)&&decide (ln<=100)&&(zB data))))))∧Below w.heap.size w w':=by
 generalize hN:[vol,file,to,into].all nameB=N;generalize hC0:(decide (0<=at')&&decide (at'<=100))=C0;generalize hC1:(decide (0<=fr)&&decide (fr<=100))=C1;generalize hC2:(decide (1<=ln)&&decide (ln<=100))=C2;subst hk;go_enter func49,ntmps49
 go_wp2_with fail
 refine (bs_ _ 4 4 [vol,file,to,into] _ (cw_ _ [vol,file,to,into] _ _ (by simp) _ rfl) (by omega) (by intro x hx;simp at hx;rcases hx with rfl | rfl | rfl | rfl<;>first | exact hs.vol | exact hs.file | exact hs.to | exact hs.into)).mono ?_;rintro e w1 ⟨rfl,rfl⟩;rw[hN]
 cases N
 ·go_wp2;go_returns;go_light;exact⟨by simp,by go_grown⟩
 ·go_wp2_with fail
  refine (bP_ at' 0 _).mono ?_;rintro e w1 ⟨rfl,rfl⟩;rw[hC0]
  cases C0
  ·go_wp2;go_returns;go_light;exact⟨by simp,by go_grown⟩
  ·go_wp2_with fail
   refine (bP_ fr 0 _).mono ?_;rintro e w1 ⟨rfl,rfl⟩;rw[hC1]
   cases C1
   ·go_wp2;go_returns;go_light;exact⟨by simp,by go_grown⟩
   ·go_wp2_with fail
    refine (bP_ ln 1 _).mono ?_;rintro e w1 ⟨rfl,rfl⟩;rw[hC2]
    cases C2
    ·go_wp2;go_returns;go_light;exact⟨by simp,by go_grown⟩
    ·go_wp2
     all_goals go_returns
     all_goals go_light
     all_goals exact⟨by simp[zB],by go_grown⟩
end
end Go.Proofs.YtahenegmbmnmjaaGreatDoor
