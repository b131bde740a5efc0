/- Plain functions over lists, and what it says that a slice in memory holds a list: the ground of this seat's proofs. -/
import Derived.Test.YtkiceokhlceciaaGreatDoorU00
set_option maxHeartbeats 20000000
set_option maxRecDepth 100000
namespace Go.Proofs.YtkiceokhlceciaaGreatDoor
section
open Go Go.RowKit
variable{w w1:World}
theorem Ld (h:Below w.drew.heap.size w.drew w1):Below w.heap.size w w1:=((Yg _ _).drew).trans h
end
section
open Go.RowKit Go.Lib
variable{P:Program}
theorem i4_ (w:World)(t tn u ty e:TypeId)(i:TypeInfo)(kn kq:IntKind)(ht:P.underlying t=some (.slice e))(htn:P.underlying tn=some (.int kn))(hu:P.underlying u=some .string)(hi:P.info? e=some i)(hz:i.zero=some (.int .u8 0))(hsize:i.size=1)(hby:i.bytes=1)
  (base:Option Addr)(sLen sCap k:Nat)(hk:0<k)(hb:sLen+k<=140737488355328):
  (Builtin.append_ #[t,tn] ty #[.slice base sLen sCap,.int kq k]).run P w=(Builtin.append_ #[t,u] ty #[.slice base sLen sCap,.string (zs k)]).run P w:=by
 have hw:IntKind.i64.wrap (k:Int)=k:=by rw[Ys];omega
 have hg:k≠0:=by omega
 have hc:¬ ((k:Int)<0):=by omega
 have ha:¬ (281474976710656<(k:Int)):=by omega
 have he:¬ (9223372036854775807<((sLen:Int)+(k:Int))):=by omega
 have hf:=fun W=>run_firstCells_string (P:=P) W 1 (zs k);rw[ca_,jN_] at hf;by_cases hn:sLen+k<=sCap
 ·simp[Builtin.append_,YY ht,YY htn,YY hu,sizeOf,typeInfo,zeroValue,hi,hz,hsize,hby,asInt,asIntOf,hw,Builtin.lenOf,ca_,hn,hc,hg,ha,hf,Value.cells]
 ·simp[Builtin.append_,YY ht,YY htn,YY hu,sizeOf,typeInfo,zeroValue,hi,hz,hsize,hby,asInt,asIntOf,hw,Builtin.lenOf,ca_,hn,hc,hg,ha,he,hf,Value.cells];have hj:Builtin.nextslicecap (sLen+k) sCap*1<=281474976710656:=growslice_fits (by omega) (by omega);have hh:¬ (281474976710656<Builtin.nextslicecap (sLen+k) sCap):=by omega
  rw[if_neg hh,if_neg hh]
theorem eY_ (w:World){ops:Array Oper}{rest:List Oper}{o:Oper}{a:Act}{Q:Exit->Act->World->Prop}(hgd:o.guard=none)(sl x:Operand)(t tn u:TypeId)
  (ho:o.op=.call {callee:=.builtin .append,args:=#[sl,x],argTypes:=#[t,tn]})
  (base:Nat)(e:TypeId)(i:TypeInfo)(kn:IntKind)(ht:P.underlying t=some (.slice e))(htn:P.underlying tn=some (.int kn))(hu:P.underlying u=some .string)(hi:P.info? e=some i)(hz:i.zero=some (.int .u8 0))
  (hsize:i.size=1)(hby:i.bytes=1)
  (v:Value)(n:Nat)(xs:List Value)(hs:a.eval sl=v)(ha:w.ownsRow base e 1 v n xs)(kq:IntKind)(k:Nat)(hx:a.eval x=.int kq k)(hk:0<k)
  (hbytes:n+k<=140737488355328)(hbase:base<=w.heap.size)
  (h:∀ v' w',w'.ownsRow base e 1 v' (n+k) (xs++strCells (zs k))->w.grownBy w' v.ownBlock->wpList P ops Q rest (a.put o.dst v') w'):wpList P ops Q (o::rest) a w:=by
 refine wpList_plain hgd fun K hK=>?_;obtain⟨v',w',hr,h2,h3,_⟩:=run_append_own_string (P:=P) w base t u o.type e i ht hu hi hz hsize hby v n xs ha (zs k) (by rw[ca_];unfold maxLen;omega) (by rw[ca_];omega) hbase;rw[ca_] at h2
 obtain⟨b0,l0,c0,rfl⟩:∃ b0 l0 c0,v=.slice b0 l0 c0:=by
  rcases ha.2 with⟨rfl,_⟩ | ⟨g,cap,cur,rfl,_⟩
  ·exact⟨_,_,_,rfl⟩
  ·exact⟨_,_,_,rfl⟩
 have hb:l0+k<=140737488355328:=by
  rcases ha.2 with⟨e1,_⟩ | ⟨g,cap,cur,e1,_⟩
  ·simp at e1;omega
  ·simp at e1;omega
 rw[<-i4_ w t tn u o.type e i kn kq ht htn hu hi hz hsize hby b0 l0 c0 k hk hb] at hr;unfold Oper.wp execOp;simp only[ho,resolve,invoke,builtin,Sem.run_bind,Sem.run_pure,Result.andThen_ok,List.map_toArray,YD,List.map_nil,hs,hx,hr];exact hK _ _ (h v' w' h2 h3)
end
section
open Go Go.RowKit Tryz
variable{α:Type}{b k n r:Nat}{w w':World}{l:List α}
theorem cG_ (p:Pt)(w:World):
  Calls prog 184 #[.agg #[.int .i64 p.a,.int .i64 p.f,.int .i64 p.n]] w fun e w'=>e=.returned (.bool (Ao p))∧Below w.heap.size w w':=by
 obtain⟨a,f,n⟩:=p;go_enter func184,ntmps184;go_wp2
 all_goals go_returns
 all_goals go_light
 all_goals refine⟨?_,by go_grown⟩
 all_goals simp[Ao, *]
 all_goals try omega
theorem gB_ (p q:Pt)(w:World):
  Calls prog 185 #[.agg #[.int .i64 p.a,.int .i64 p.f,.int .i64 p.n],.agg #[.int .i64 q.a,.int .i64 q.f,.int .i64 q.n]] w fun e w'=>e=.returned (.bool (Be p q))∧Below w.heap.size w w':=by
 obtain⟨a,f,n⟩:=p;obtain⟨b,g,m⟩:=q;go_enter func185,ntmps185;go_wp2
 all_goals go_returns
 all_goals go_light
 all_goals refine⟨?_,by go_grown⟩
 all_goals simp_all [Be]
theorem as_ (a:Option Addr)(n cap:Nat)(l:List Pt)(w:World)(h:BI w a n l)(hn:n<=4194304):
  Calls prog 170 #[.slice a n cap] w fun e w'=>e=.returned (.bool (Ae l))∧Below w.heap.size w w':=by
 have hf:=h.len;by_cases h16:n<=16
 ·have he:Hid (Ae l=pgo none 100 l):=by show _=_;simp[Ae,hf,h16]
  have hl:Hid (l.length=n):=hf;clear hf;go_enter func170,ntmps170
  go_wp2_with fail
  go_loopw [2,3,4,5,11] (fun r left i p ix wr=>∃ (k:Nat) (lf:Int),k<=n∧ix=.int .i64 k∧left=.int .i64 lf∧0<=lf∧lf<=100∧Hid (pgo none 100 l=pgo (ahead l k) lf (l.drop k))∧Below w.heap.size w wr) (fun _ _ _ _ ix _=>n-(intOf ix).toNat)
  case atStart=>exact⟨0,100,Zg _,rfl,rfl,by omega,by omega,rfl,Yg _ _⟩
  case round=>
   obtain⟨k,lf,hk,rfl,rfl,hv,hw,hI,hB⟩:=hrel;by_cases hlt:k<n
   ·obtain⟨b,o,p,rfl,hp,c0,c1,c2⟩:=bi_ (h.below hB) hlt;have hd:Hid (l.drop k=p::l.drop (k+1)):=al_ hp;have hq:Hid (l[k]?=some p):=hp;clear hp;have hC:w.heap.size<=wr.heap.size:=hB.size
    cases hg:Ao p
    ·go_wp2_with fail
     refine (cG_ p _).mono ?_;rintro e w1 ⟨rfl,hc⟩;obtain⟨x0,x1,x2,hb,ho⟩:=Fp hc;rw[hg]
     go_wp2_with fail
     go_returns;go_light;refine⟨ac_ ?_,Aa hB hb⟩;rw[he.out,hI.out,hd.out];cases ahead l k<;>simp[pgo,hg]
    by_cases hle:p.n<=lf
    ·rcases k with _ | j
     ·simp only[Nat.zero_mul,Nat.add_zero] at c0 c1 c2
      go_wp2_with fail
      refine (cG_ p _).mono ?_;rintro e w1 ⟨rfl,hc⟩;rw[hg];obtain⟨x0,x1,x2,hb,ho⟩:=Fp hc;clear hc c0 c1 c2;have hu:=av_ hg
      go_wp2_with fail
      go_quiet (fail)
      go_wp2;go_roundw
      case rel=>exact⟨1,lf-p.n,by omega,by go_num,by go_num,by omega,by omega,by show _=_;rw[hI.out,hd.out,hh_,b6_,hq.out];simp[pgo,hg,hle],Aa hB (Aa hb (Bi _ _))⟩
      case measure=>simp[intOf];omega
     ·obtain⟨b',o',q,hr,ht,d0,d1,d2⟩:=bi_ (h.below hB) (k:=j) (by omega);obtain⟨rfl,rfl⟩:b=b'∧o=o':=by simpa using hr
      have ha:Hid (ahead l (j+1)=some q):=by show _=_;rw[b6_];exact ht
      clear ht hr;have hu:=av_ hg
      cases hs:Be q p
      all_goals
       go_wp2_with fail
       refine (cG_ p _).mono ?_;rintro e w1 ⟨rfl,hc⟩;rw[hg];obtain⟨x0,x1,x2,hb,ho⟩:=Fp hc;clear hc;replace d0:=Ab hb d0;replace d1:=Ab hb d1;replace d2:=Ab hb d2;clear c0 c1 c2;have hj:(0:Int)<(j:Int)+1:=by omega
       have hx:(j:Int)<n:=by omega
       have hy:(0:Int)<=j:=by omega
       have hz:IntKind.i64.wrap ((j:Int)+1-1)=(j:Int):=by rw[Ys];omega
       have hA:IntKind.i64.wrap (j:Int)=(j:Int):=by rw[Ys];omega
       go_wp2_with fail
       go_region_held3 (fun w'=>w'.cell? ⟨b,o+j*3,none⟩=some (.int .i64 q.a)∧w'.cell? ⟨b,o+j*3+1,none⟩=some (.int .i64 q.f)∧w'.cell? ⟨b,o+j*3+2,none⟩=some (.int .i64 q.n)∧w'.cell? ⟨wr.heap.size,0,none⟩=some (.int .i64 p.a)∧w'.cell? ⟨wr.heap.size,1,none⟩=some (.int .i64 p.f)∧w'.cell? ⟨wr.heap.size,2,none⟩=some (.int .i64 p.n)) (go_keep)
        (first | (go_at_call 185;refine (gB_ q p _).mono ?_;rintro e w2 ⟨rfl,hh⟩;have y0:=Ab hh d0;have y1:=Ab hh d1;have y2:=Ab hh d2;have z0:=Ab hh x0;have z1:=Ab hh x1;have z2:=Ab hh x2))
       go_wp2
      ·go_roundw
       case rel=>exact⟨j+2,lf-p.n,by omega,by go_num,by go_num,by omega,by omega,by show _=_;rw[hI.out,hd.out,ha.out,b6_,hq.out];simp[pgo,hg,hle,hs],Aa hB (Aa hb (Ld hh))⟩
       case measure=>simp[intOf];omega
      ·go_returns;go_light;refine⟨ac_ ?_,Aa hB (Aa hb (Ld hh))⟩;rw[he.out,hI.out,hd.out,ha.out];simp[pgo,hs]
    ·go_wp2_with fail
     refine (cG_ p _).mono ?_;rintro e w1 ⟨rfl,hc⟩;rw[hg];obtain⟨x0,x1,x2,hb,ho⟩:=Fp hc;go_wp2;go_returns;go_light;refine⟨ac_ ?_,Aa hB hb⟩;have hm:¬ p.n<=lf:=by omega
     rw[he.out,hI.out,hd.out];cases ahead l k<;>simp[pgo,hm]
   ·obtain rfl:k=n:=by omega
    go_wp2;go_returns;go_light;refine⟨ac_ ?_,hB⟩;rw[he.out,hI.out,Ze (Zm hl.out)];cases ahead l k<;>rfl
 ·go_enter func170,ntmps170;go_wp2;go_returns;go_light;refine⟨ac_ ?_,Yg _ _⟩;simp[Ae,hf];omega
end
section
open Go Go.RowKit Go.BigFrame Tryz
variable{l:List Ex}
theorem by_ (d:ByteArray)(w:World)(hd:d.size<=9223372036854775807):
  Calls prog 112 #[.string d] w fun e w'=>e=.returned (.bool (Aw d))∧w'=w:=by
 by_cases h1:1<=d.size∧d.size<=20
 ·have ha:Hid (Aw d=(d.data.toList.drop 0).all Ei):=by show _=_;simp[Aw,plainB,h1]
  obtain⟨h1,he⟩:=h1;go_enter func112,ntmps112
  go_wp2_with fail
  go_loop [14] (fun ix=>∃ (k:Nat),k<=d.size∧ix=.int .i64 k∧Hid (Aw d=(d.data.toList.drop k).all Ei)) (fun ix=>d.size-(intOf ix).toNat)
  case atStart=>exact⟨0,Zg _,rfl,ha⟩
  case round=>
   obtain⟨k,hk,rfl,hI⟩:=hrel;by_cases hlt:k<d.size
   ·have hs:Hid (d.data.toList.drop k=d[k]::d.data.toList.drop (k+1)):=fH_ d k hlt
    cases hc:Ei d[k]
    ·have hb:(d[k].toNat:Int)<32∨126<(d[k].toNat:Int):=by simp[Ei] at hc;omega
     go_wp2
     all_goals go_returns
     all_goals go_light
     all_goals (refine⟨ac_ ?_,rfl⟩;rw[hI.out,hs.out];simp[hc])
    ·have hb:32<=(d[k].toNat:Int)∧(d[k].toNat:Int)<=126:=by simp[Ei] at hc;omega
     obtain⟨hf,hg⟩:=hb;go_wp2;go_round
     case rel=>exact⟨k+1,by omega,by go_num,by show _=_;rw[hI.out,hs.out];simp[hc]⟩
     case measure=>simp[intOf];omega
   ·obtain rfl:k=d.size:=by omega
    go_wp2;go_returns;go_light;refine⟨ac_ ?_,rfl⟩;rw[hI.out,Ze (by simp)];rfl
 ·have ha:Hid (Aw d=false):=by show _=_;simp[Aw];omega
  go_enter func112,ntmps112;go_wp2
  all_goals go_returns
  all_goals go_light
  all_goals exact⟨ac_ ha.out.symm,rfl⟩
theorem a8_ (size:Int)(a:Option Addr)(n cap:Nat)(l:List Ex)(w:World)(h:BZ w a n l)(hstr:Dt l)(hn:n<=4194304):
  Calls prog 70 #[.int .i64 size,.slice a n cap] w fun e w'=>e=.returned (.bool (Am size l))∧Below w.heap.size w w':=by
 have hc:Hid (l.length=n):=h.len;by_cases h0:1<=size∧size<=400∧n<=60
 ·have hb:Hid (Am size l=xgo size 1 (l.drop 0)):=by show _=_;simp[Am,hc.out,h0]
  obtain⟨h1,hg,hl⟩:=h0;go_enter func70,ntmps70
  go_wp2_with fail
  go_loopw [5,21] (fun nx ix wr=>∃ (k:Nat) (next:Int),k<=n∧ix=.int .i64 k∧nx=.int .i64 next∧1<=next∧next<=421∧Hid (Am size l=xgo size next (l.drop k))∧Below w.heap.size w wr) (fun _ ix _=>n-(intOf ix).toNat)
  case atStart=>exact⟨0,1,Zg _,rfl,rfl,by omega,by omega,hb,Yg _ _⟩
  case round=>
   obtain⟨k,next,hk,rfl,rfl,hr,hs,hI,hB⟩:=hrel;by_cases hlt:k<n
   ·obtain⟨b,o,p,rfl,hp,c0,c1⟩:=be_ (h.below hB) hlt;have hd:Hid (l.drop k=p::l.drop (k+1)):=al_ hp;have hf:=hstr.at hp;clear hp;have hq:=hB.size
    cases ha:Aw p.d
    ·go_wp2_with fail
     refine (by_ p.d _ hf).mono ?_;rintro e w1 ⟨rfl,rfl⟩;rw[ha];go_wp2;go_returns;go_light;refine⟨ac_ ?_,by go_grown⟩;rw[hI.out,hd.out];simp[xgo,ha]
    ·have he:1<=p.d.size∧p.d.size<=20:=by simp[Aw] at ha;exact ha.1
     obtain⟨hm,ho⟩:=he;by_cases hok:next<=p.a∧p.a<=size+1-p.d.size
     ·obtain⟨hh,hj⟩:=hok
      go_wp2_with fail
      refine (by_ p.d _ hf).mono ?_;rintro e w1 ⟨rfl,rfl⟩;rw[ha];go_wp2;go_roundw
      case rel=>exact⟨k+1,p.a+p.d.size,by omega,by go_num,by go_num,by omega,by omega,by show _=_;rw[hI.out,hd.out];simp[xgo,ha,hh,hj],by go_grown⟩
      case measure=>simp[intOf];omega
     ·go_wp2_with fail
      refine (by_ p.d _ hf).mono ?_;rintro e w1 ⟨rfl,rfl⟩;rw[ha];go_wp2
      all_goals go_returns
      all_goals go_light
      all_goals refine⟨ac_ ?_,by go_grown⟩
      all_goals (rw[hI.out,hd.out];simp[xgo,ha];omega)
   ·obtain rfl:k=n:=by omega
    go_wp2;go_returns;go_light;refine⟨ac_ ?_,hB⟩;rw[hI.out,Ze (Zm hc.out)];rfl
 ·have hb:Hid (Am size l=false):=by show _=_;have:=hc.out;simp[Am];omega
  go_enter func70,ntmps70;go_wp2
  all_goals go_returns
  all_goals go_light
  all_goals exact⟨ac_ hb.out.symm,Yg _ _⟩
end
section
open Go Go.RowKit Go.BigFrame Tryz
theorem jS_ (a:Option Addr)(n cap:Nat)(l:List Ex)(addr:Int)(w:World)(h:BZ w a n l)(hn:n<=4194304):
  Calls prog 171 #[.slice a n cap,.int .i64 addr] w fun e w'=>e=.returned (.string (A6 addr l))∧Below w.heap.size w w':=by
 have hb:Hid (l.length=n):=h.len;have ha:Hid (A6 addr l=A6 addr (l.drop 0)):=rfl;generalize A6 addr l=R at *;go_enter func171,ntmps171
 go_wp2_with fail
 go_loopw [9] (fun ix wr=>∃ (k:Nat),k<=n∧ix=.int .i64 k∧Hid (R=A6 addr (l.drop k))∧Below w.heap.size w wr) (fun ix _=>n-(intOf ix).toNat)
 case atStart=>exact⟨0,Zg _,rfl,ha,Yg _ _⟩
 case round=>
  obtain⟨k,hk,rfl,hI,hB⟩:=hrel;have hc:=hB.size;by_cases hlt:k<n
  ·obtain⟨b,o,p,rfl,hp,c0,c1⟩:=be_ (h.below hB) hlt;have hd:Hid (l.drop k=p::l.drop (k+1)):=al_ hp
   cases he:(p.a==addr)
   ·go_wp2;go_roundw
    case rel=>exact⟨k+1,by omega,by go_num,by show _=_;rw[hI.out,hd.out];simp[A6,he],by go_grown⟩
    case measure=>simp[intOf];omega
   ·go_wp2;go_returns;go_light;refine⟨?_,by go_grown⟩;rw[hI.out,hd.out];simp[A6,he]
  ·obtain rfl:k=n:=by omega
   go_wp2;go_returns;go_light;refine⟨?_,hB⟩;rw[hI.out,Ze (by rw[hb.out];exact Zd _)];rfl
end
section
open Go Go.RowKit
variable{a b:Ow}
theorem cn_:∀ x:List UInt8,bl x x=false
 |[]=>rfl
 |a::x=>by simp[bl,Op.bytesLess];exact cn_ x
theorem jT_:∀ {x y:List UInt8},bl x y=false->x≠y->bl y x=true
 |[],[],_,h=>absurd rfl h
 |[],b::y,h,_=>by simp[bl,Op.bytesLess] at h
 |a::x,[],_,_=>rfl
 |a::x,b::y,h,hne=>by
  simp only[bl,Op.bytesLess,Bool.or_eq_false_iff,Bool.and_eq_false_iff,YU] at h;obtain⟨h1,h2⟩:=h;simp only[bl,Op.bytesLess,Bool.or_eq_true,Zf,ZU,beq_iff_eq];by_cases hab:a=b
  ·subst hab;right;refine⟨rfl,jT_ (h2.resolve_left (by simp)) (fun e=>hne (by rw[e]))⟩
  ·left;have ha:b.toNat<=a.toNat:=by simpa[UInt8.lt_iff_toNat_lt] using h1
   have:a.toNat≠b.toNat:=fun e=>hab (UInt8.toNat_inj.1 e)
   rw[UInt8.lt_iff_toNat_lt];omega
theorem jU_:∀ {x y:List UInt8},bl x y=true->bl y x=false
 |[],[],h=>by simp[bl,Op.bytesLess] at h
 |[],b::y,_=>rfl
 |a::x,[],h=>by simp[bl,Op.bytesLess] at h
 |a::x,b::y,h=>by
  simp only[bl,Op.bytesLess,Bool.or_eq_true,Zf,ZU,beq_iff_eq] at h;simp only[bl,Op.bytesLess,Bool.or_eq_false_iff,Bool.and_eq_false_iff,YU,ZV];rcases h with h | ⟨rfl,h⟩
  ·have h':=UInt8.lt_iff_toNat_lt.1 h;refine⟨fun k=>by have:=UInt8.lt_iff_toNat_lt.1 k;omega,.inl fun e=>by subst e;omega⟩
  ·exact⟨fun k=>by have:=UInt8.lt_iff_toNat_lt.1 k;omega,.inr (jU_ h)⟩
theorem hl_:∀ {x y z:List UInt8},bl x y=true->bl y z=true->bl x z=true
 |[],[],_,h,_=>by simp[bl,Op.bytesLess] at h
 |[],b::y,[],_,h=>by simp[bl,Op.bytesLess] at h
 |[],b::y,c::z,_,_=>rfl
 |a::x,[],_,h,_=>by simp[bl,Op.bytesLess] at h
 |a::x,b::y,[],_,h=>by simp[bl,Op.bytesLess] at h
 |a::x,b::y,c::z,h1,h2=>by
  simp only[bl,Op.bytesLess,Bool.or_eq_true,Zf,ZU,beq_iff_eq,UInt8.lt_iff_toNat_lt] at *;rcases h1 with h1 | ⟨rfl,h1⟩
  ·rcases h2 with h2 | ⟨rfl,h2⟩
   ·left;omega
   ·left;exact h1
  ·rcases h2 with h2 | ⟨rfl,h2⟩
   ·left;exact h2
   ·right;exact⟨rfl,hl_ h1 h2⟩
theorem gD_ (a:Ow):Bk a a=false:=by simp[Bk,cn_]
theorem ct_ (h:Bk a b=false)(hne:a≠b):Bk b a=true:=by
 by_cases h1:a.a=b.a
 ·by_cases h2:a.v=b.v
  ·have h3:a.f.toList≠b.f.toList:=fun e=>hne (aM_.1 (by simp[BV,h1,h2,e]));simp only[Bk,h1,h2,ne_eq,not_true,if_false] at h ⊢;exact jT_ h h3
  ·simp only[Bk,h1,ne_eq,not_true,if_false,h2,not_false_eq_true,if_true,YU] at h;simp only[Bk,h1,ne_eq,not_true,if_false,if_pos (Ne.symm h2),ZU];omega
 ·simp only[Bk,ne_eq,h1,not_false_eq_true,if_true,YU] at h;simp only[Bk,ne_eq,if_pos (Ne.symm h1),ZU];omega
theorem ly_ (h:Bk a b=true):Bk b a=false:=by
 by_cases h1:a.a=b.a
 ·by_cases h2:a.v=b.v
  ·simp only[Bk,h1,h2,ne_eq,not_true,if_false] at h ⊢;exact jU_ h
  ·simp only[Bk,h1,ne_eq,not_true,if_false,h2,not_false_eq_true,if_true,ZU] at h;simp only[Bk,h1,ne_eq,not_true,if_false,if_pos (Ne.symm h2),YU];omega
 ·simp only[Bk,ne_eq,h1,not_false_eq_true,if_true,ZU] at h;simp only[Bk,ne_eq,if_pos (Ne.symm h1),YU];omega
theorem jW_:Bk a b=true↔a.a<b.a∨(a.a=b.a∧(a.v<b.v∨(a.v=b.v∧bl a.f.toList b.f.toList=true))):=by
 unfold Bk;split
 ·rename_i h;simp;omega
 ·rename_i h;split
  ·rename_i k;simp;omega
  ·rename_i k;simp at h k;constructor
   ·intro e;exact .inr ⟨h,.inr ⟨k,e⟩⟩
   ·rintro (e | ⟨_,e | ⟨_,e⟩⟩)
    ·omega
    ·omega
    ·exact e
theorem b7_ {c:Ow}(h:Bk a b=true)(k:Bk b c=true):Bk a c=true:=by
 rw[jW_] at *;rcases h with h | ⟨h1,h | ⟨h2,h⟩⟩<;>rcases k with k | ⟨k1,k | ⟨k2,k⟩⟩
 case inr.inr.inr.inr=>exact .inr ⟨by omega,.inr ⟨by omega,hl_ h k⟩⟩
 case inl.inl=>exact .inl (by omega)
 case inl.inr.inl=>exact .inl (by omega)
 case inl.inr.inr=>exact .inl (by omega)
 case inr.inl.inl=>exact .inl (by omega)
 case inr.inr.inl=>exact .inl (by omega)
 case inr.inl.inr.inl=>exact .inr ⟨by omega,.inl (by omega)⟩
 case inr.inl.inr.inr=>exact .inr ⟨by omega,.inl (by omega)⟩
 case inr.inr.inr.inl=>exact .inr ⟨by omega,.inl (by omega)⟩
def Fq (x y:Int):Int:=if x<y then -1 else if y<x then 1 else 0
def HL (x y:ByteArray):Int:=if bl x.toList y.toList=true then -1 else if x.toList=y.toList then 0 else 1
def or3 (x y z:Int):Int:=if x≠0 then x else if y≠0 then y else z
def EJ (a b:Ow):Int:=or3 (Fq a.a b.a) (Fq a.v b.v) (HL a.f b.f)
theorem i6_ (a b:Ow):decide (EJ a b<0)=Bk a b:=by
 rw[YH,jW_,ZU];unfold EJ or3 Fq HL;rcases Int.lt_trichotomy a.a b.a with h | h | h
 ·rw[if_pos h,if_pos (by decide)];constructor
  ·intro _;exact .inl h
  ·intro _;decide
 ·rw[h,if_neg (Int.lt_irrefl _),if_neg (Int.lt_irrefl _),if_neg (by decide)];rcases Int.lt_trichotomy a.v b.v with k | k | k
  ·rw[if_pos k,if_pos (by decide)];constructor
   ·intro _;exact .inr ⟨rfl,.inl k⟩
   ·intro _;decide
  ·rw[k,if_neg (Int.lt_irrefl _),if_neg (Int.lt_irrefl _),if_neg (by decide)]
   cases h5:bl a.f.toList b.f.toList
   ·constructor
    ·intro e;rw[if_neg (by decide)] at e;split at e<;>omega
    ·rintro (e | ⟨_,e | ⟨_,e⟩⟩)
     ·omega
     ·omega
     ·cases e
   ·constructor
    ·intro _;exact .inr ⟨rfl,.inr ⟨rfl,rfl⟩⟩
    ·intro _;rw[if_pos rfl];decide
  ·rw[if_neg (show ¬ a.v<b.v by omega),if_pos k,if_pos (by decide)];constructor
   ·intro e;omega
   ·rintro (e | ⟨_,e | ⟨_,e⟩⟩)<;>omega
 ·rw[if_neg (show ¬ a.a<b.a by omega),if_pos h,if_pos (by decide)];constructor
  ·intro e;omega
  ·rintro (e | ⟨e,_⟩)<;>omega
end
end Go.Proofs.YtkiceokhlceciaaGreatDoor
