/- Counts that are the same, and extents that somebody names, by the model. -/
import Derived.Test.YtdmeabghpchckaaGreatDoorU07
set_option maxHeartbeats 20000000
set_option maxRecDepth 100000
namespace Go.Proofs.YtdmeabghpchckaaGreatDoor
section
open Go Go.RowKit Go.BigFrame Tryz
variable{α:Type}{x:IR}{rs:List IR}{b:List Nat}{l:List Vo}{B i k n:Nat}{a:Option Addr}{r:VR}{y:Vo}{w w':World}
theorem co_ {qs:List IR}(h:AE irs 2 w a n rs)(h':AE irs 2 w a n qs):rs=qs:=by
 refine List.ext_getElem? (fun i=>?_);by_cases hi:i<n
 ·have e1:rs[i]?=some (rs[i]'(by rw[h.len];exact hi)):=by simp[h.len,hi]
  have e2:qs[i]?=some (qs[i]'(by rw[h'.len];exact hi)):=by simp[h'.len,hi]
  rw[e1,e2];obtain⟨b,o,ha,hc⟩:=h.cell i _ e1;obtain⟨b',o',hb,he⟩:=h'.cell i _ e2;rw[ha] at hb
  cases hb
  have c0:=hc 0 _ rfl;have c1:=hc 1 _ rfl;have d0:=he 0 _ rfl;have d1:=he 1 _ rfl;rw[c0] at d0;rw[c1] at d1;generalize rs[i]'(by rw[h.len];exact hi)=x at *;generalize qs[i]'(by rw[h'.len];exact hi)=y at *;obtain⟨x1,x2,x3,x4⟩:=x;obtain⟨y1,y2,y3,y4⟩:=y;simp only[Zo,Value.string.injEq,Value.slice.injEq] at d0 d1;obtain⟨rfl,rfl,rfl⟩:=d1;subst d0;rfl
 ·rw[List.getElem?_eq_none (by rw[h.len];omega),List.getElem?_eq_none (by rw[h'.len];omega)]
theorem ng_ {rows:List IR}(h:∀ (i j:Nat) (r s:IR) (x y:Addr),i≠j->rows[i]?=some r->rows[j]?=some s->r.pa=some x->s.pa=some y->x.block≠y.block):(bkI rows).Nodup:=by
 unfold bkI;rw[List.nodup_iff_pairwise_ne,List.pairwise_filterMap,Yb];intro i j hi hj hc a ha b hb;obtain⟨x,hx,rfl⟩:=ZW.1 ha;obtain⟨y,hy,rfl⟩:=ZW.1 hb;exact h i j _ _ x y (by omega) (by simp[hi]) (by simp[hj]) hx hy
theorem jn_ {rows:List IR}{z:Nat}(h:z∈bkI rows):∃ (i:Nat) (r:IR) (x:Addr),rows[i]?=some r∧r.pa=some x∧x.block=z:=by
 unfold bkI at h;obtain⟨r,hr,e⟩:=YQ.1 h;obtain⟨x,hx,rfl⟩:=ZW.1 e;obtain⟨i,hi,rfl⟩:=YS hr;exact⟨i,_,x,by simp[hi],hx,rfl⟩
theorem Dy.sub {a:List Nat}(h:b.Sublist a):Dy n a b:=fun h1 _=>⟨h1.sublist h,fun _ hx=>.inl (h.subset hx)⟩
theorem kn_ {A M C M':List Nat}(hM:M'.length<=1)(hz:∀ z∈M',n<=z):Dy n (A++M++C) (A++M'++C):=fun h1 h2=>by
 have ha:(A++C).Nodup:=h1.sublist ((List.sublist_append_left A M).append (List.Sublist.refl C));have hA:∀ x∈A,x<n:=fun x hx=>h2 x (by simp[hx]);have hC:∀ x∈C,x<n:=fun x hx=>h2 x (by simp[hx])
 have hb:M'.Nodup:=by
  match M',hM with
  |[],_=>simp
  |[_],_=>simp
 rw[Yf] at ha;obtain⟨a1,a2,a3⟩:=ha;refine⟨?_,fun x hx=>?_⟩
 ·rw[ZC,Yf,Yf];refine⟨a1,⟨hb,a2,fun x hx y hy e=>?_⟩,fun x hx y hy e=>?_⟩
  ·have:=hz x hx;have:=hC y hy;omega
  ·rcases Zs.1 hy with hy | hy
   ·have:=hz y hy;have:=hA x hx;omega
   ·exact a3 x hx y hy e
 ·rcases Zs.1 hx with hx | hx
  ·rcases Zs.1 hx with hx | hx
   ·exact .inl (by simp[hx])
   ·exact .inr (hz x hx)
  ·exact .inl (by simp[hx])
theorem mC_:(bkI [x]).length<=1:=by unfold bkI;cases h:x.pa<;>simp[h]
theorem iJ_ (hx:∀ ad,x.pa=some ad->n<=ad.block):∀ z∈bkI [x],n<=z:=by
 intro z hz;unfold bkI at hz
 cases h:x.pa with
 |none=>simp[h] at hz
 |some ad=>simp[h] at hz;subst hz;exact hx ad h
theorem dB_ (a b:List IR):bkI (a++b)=bkI a++bkI b:=List.filterMap_append
theorem ko_ (hx:∀ ad,x.pa=some ad->n<=ad.block):Dy n (bkI rs) (bkI (rs.take k++[x]++rs.drop k)):=by
 have h:=kn_ (n:=n) (A:=bkI (rs.take k)) (M:=[]) (C:=bkI (rs.drop k)) (M':=bkI [x]) mC_ (iJ_ hx);rw[Yy,<-dB_,YM] at h;rw[dB_,dB_];exact h
theorem oa_ {r:IR}(hk:rs[k]?=some r)(hx:∀ ad,x.pa=some ad->n<=ad.block):Dy n (bkI rs) (bkI (rs.set k x)):=by
 have hl:=(Zb.1 hk).1;have h:=kn_ (n:=n) (A:=bkI (rs.take k)) (M:=bkI [r]) (C:=bkI (rs.drop (k+1))) (M':=bkI [x]) mC_ (iJ_ hx)
 have e1:rs=rs.take k++[r]++rs.drop (k+1):=by
  rw[ZC,List.singleton_append]
  have:r::rs.drop (k+1)=rs.drop k:=by rw[List.drop_eq_getElem_cons hl];congr 1;have:=(Zb.1 hk).2;exact this.symm
  rw[this,YM]
 have e2:rs.set k x=rs.take k++[x]++rs.drop (k+1):=by
  rw[List.set_eq_take_append_cons_drop,if_pos hl,ZC,List.singleton_append]
 rw[<-dB_,<-dB_,<-dB_,<-dB_,<-e1,<-e2] at h;exact h
theorem nh_ {a b' c:List Nat}(h:(a++b++c).Nodup)(hn:∀ x∈a++b++c,x<n)(hm:Dy n b b'):(a++b'++c).Nodup:=by
 rw[ZC,Yf,Yf] at h ⊢;obtain⟨h1,⟨h2,h3,h4⟩,h5⟩:=h;obtain⟨m1,m2⟩:=hm h2 (fun x hx=>hn x (by simp[hx]));refine⟨h1,⟨m1,h3,fun x hx y hy e=>?_⟩,fun x hx y hy e=>?_⟩
 ·rcases m2 x hx with h | h
  ·exact h4 x h y hy e
  ·have:=hn y (by simp[hy]);omega
 ·rcases Zs.1 hy with hy | hy
  ·rcases m2 y hy with h | h
   ·exact h5 x hx y (by simp[h]) e
   ·have:=hn x (by simp[hx]);omega
  ·exact h5 x hx y (by simp[hy]) e
theorem hC_ {f:α->List Nat}:∀ {l m:List α},l.Sublist m->(l.flatMap f).Sublist (m.flatMap f)
 |_,_,.slnil=>List.Sublist.refl _
 |_,_,.cons a h=>by rw[ZF];exact (hC_ h).trans (List.sublist_append_right _ _)
 |_,_,.cons_cons a h=>by rw[ZF,ZF];exact (List.Sublist.refl _).append (hC_ h)
theorem iK_ {f:α->List Nat}{l:List α}{x:α}(hi:i<l.length):(l.set i x).flatMap f=(l.take i).flatMap f++f x++(l.drop (i+1)).flatMap f:=by
 rw[List.set_eq_take_append_cons_drop,if_pos hi,ZQ,ZF,ZC]
theorem ob_ {f:α->List Nat}{l:List α}{x:α}(hi:l[i]?=some x):l.flatMap f=(l.take i).flatMap f++f x++(l.drop (i+1)).flatMap f:=by
 have hl:=(Zb.1 hi).1
 have e:l.set i x=l:=by
  refine List.ext_getElem? (fun j=>?_);rw[List.getElem?_set];split
  ·rename_i e;subst e;exact hi.symm
  ·rfl
 have h:=iK_ (f:=f) (x:=x) hl
 rwa [e] at h
theorem oc_ (V:Bd B w r y):∀ z∈pbk w r,B<=z∧z<w.heap.size:=by
 obtain⟨_,_,_,rs,R,T⟩:=V;rw[cv_ R.sl];intro z hz;obtain⟨i,q,x,h1,h2,rfl⟩:=jn_ hz;have hi:i<y.its.length:=by rw[<-T.len];exact (Zb.1 h1).1
 exact (T.at' i q y.its[i] h1 (by simp[hi])).ps.block x h2
theorem mD_ {rows:List VR}(T:Ax B w rows l):∀ z∈rows.flatMap (pbk w),z<w.heap.size:=fun z hz=>by
 obtain⟨r,hr,hz⟩:=ZL.1 hz;obtain⟨y,V⟩:=T.of_mem hr;exact (oc_ V z hz).2
theorem lG_ {rows:List VR}(T:Ax B w rows l)(N:NP w rows)(hg:w.grownBy w' (some k))(hk:k<B):NP w' rows:=g3_ T N (fun _ _ _ R=>(R.grown hg (fun ad e=>by have:=(R.block ad e).1;omega)).sl)
theorem mE_ {a:List Nat}(ha:a.Nodup)(hl:∀ z∈a,z<n)(hb:b.Nodup)(hf:∀ z∈b,n<=z):(a++b).Nodup:=by
 rw[Yf];exact⟨ha,hb,fun x hx y hy e=>by have:=hl x hx;have:=hf y hy;omega⟩
end
section
open Go.ChangeShapes Go.WideShapes Go.ChangeAt Go.RowKit Go.Deep Tryz
variable{n:Nat}{a:Option Addr}{w:World}
theorem GW {a:Addr}{v:Value}(h:w.cell? (a.add n)=some v)(hn:n=0):∃ b o,a=⟨b,o,none⟩:=by
 subst hn;obtain⟨b,off,spot⟩:=a;have ha:spot=none:=by simpa[Addr.add] using World.cell?_spot h
 exact⟨b,off,by rw[ha]⟩
theorem own:ownKnob prog.godebug=none:=by kernel_rfl
end
end Go.Proofs.YtdmeabghpchckaaGreatDoor
