/- A file appended to, and one renamed, by the program. A change that is done, through its interface; disks that are right, by the program. Disks that are right, by the program. -/
import Derived.Test.YtigldeccfpkdmaaGreatDoorK29
namespace Go.Proofs.YtigldeccfpkdmaaGreatDoor
open Go Go.RowKit Go.BigFrame
set_option maxHeartbeats 20000000
set_option maxRecDepth 100000
theorem kV_ {P:Program} {w w':World} {v v':Value} (base:Nat) (t ty e:TypeId) (i:TypeInfo) (z:Value) (size bytes:Nat) (ht:P.underlying t=some (.slice e)) (hi:P.info? e=some i) (hz:i.zero=some z)
  (hsize:i.size=size) (hby:i.bytes=bytes) (n:Nat) (xs:List Value) (hown:w.ownsRow base e size v n xs)
  (a:Addr) (m c:Nat) (news:List Value) (hm:0<m) (hl:news.length=m*size) (hnews:∀ j u,news[j]?=some u->w.cell? (a.add j)=some u) (h1:∀ u∈news,u.oneCell'=true)
  (h63:n+m<=maxLen) (hbytes:(n+m)*bytes<=140737488355328) (hr:(Builtin.append_ #[t,t] ty #[v,.slice (some a) m c]).run P w=.ok v' w') :
  ∀ g,v'.ownBlock=some g->v.ownBlock=some g∨w.heap.size<=g:=by
 subst hsize
 subst hby
 have hsmall:n+m<=9223372036854775807:=by simp only [maxLen] at h63;omega
 intro g' hg'
 rcases hown.2 with ⟨rfl,rfl⟩ | ⟨g,cap,cur,rfl,hbg,hg,hnc,hcm,hcs,htake⟩
 ·have hr2:=run_append_nil (P:=P) w t ty e i z ht hi hz a m c news hl hnews (by omega) (by omega) (by have hb:=hbytes;simp only [Nat.zero_add] at hb;omega)
  rw [hr] at hr2
  cases hr2
  right
  simp [Value.ownBlock] at hg'
  omega
 ·by_cases hroom:n+m<=cap
  ·have hfit:n*i.size+news.length<=cur.size:=by rw [hl,hcs,<-Nat.add_mul];exact Nat.mul_le_mul_right _ hroom
   have hr2:=run_append_room (P:=P) w t ty e i ht hi g n cap cur hg a m c news hl hnews h1 hroom hfit
   rw [hr] at hr2
   cases hr2
   left
   simpa [Value.ownBlock] using hg'
  ·have holds:∀ j u,xs[j]?=some u->w.cell? ((⟨g,0,none⟩:Addr).add j)=some u:=hown.cells (g:=g) rfl
   have hr2:=run_append_grow (P:=P) w t ty e i z ht hi hz ⟨g,0,none⟩ n cap xs hown.1 holds a m c news hl hnews (by omega) (by omega) (growslice_fits (by omega) hbytes)
   rw [hr] at hr2
   cases hr2
   right
   simp [Value.ownBlock] at hg'
   omega
theorem oJ_ {α:Type} {cs:α->List Value} {size:Nat} {P:Program} {o:Oper} {a:Act} {w:World} {K:Act->World->Prop} {Q:Exit->Act->World->Prop}
  (s x:Operand) (t:TypeId) (ho:o.op=.call {callee:=.builtin .append,args:=#[s,x],argTypes:=#[t,t]})
  (B:Nat) (e:TypeId) (i:TypeInfo) (z:Value) (bytes:Nat) (ht:P.underlying t=some (.slice e)) (hi:P.info? e=some i) (hz:i.zero=some z) (hsize:i.size=size) (hby:i.bytes=bytes) (hzs:z.cells.size=size) (hpos:0<size)
  (hsz:∀ y,(cs y).length=size) (hone:∀ (l:List α),∀ u∈l.flatMap cs,u.oneCell'=true)
  (da:Option Addr) (dn dcap:Nat) (ld:List α) (hs:a.eval s=.slice da dn dcap) (hd:ResAt cs size e w B da dn dcap ld)
  (b off:Nat) (ls:List α) (hx:a.eval x=.slice (some ⟨b,off,none⟩) 1 1) (hsrc:SlAt cs size w (some ⟨b,off,none⟩) 1 ls)
  (h63:dn+1<=maxLen) (hbytes:(dn+1)*bytes<=140737488355328) (hbase:B<=w.heap.size)
  (h:∀ a' cap' w',ResAt cs size e w' B a' (dn+1) cap' (ld++ls)->w.grownBy w' (Value.ownBlock (.slice da dn dcap))->(∀ ad',a'=some ad'->(∃ ad,da=some ad∧ad.block=ad'.block)∨w.heap.size<=ad'.block)->K (a.put o.dst (.slice a' (dn+1) cap')) w'):o.wp P a w K Q:=by
 have hrow:=hd.row hsz
 have hlen:(ld++ls).length=dn+1:=by rw [List.length_append,hd.sl.len,hsrc.len]
 have hnl:(ls.flatMap cs).length=1*size:=by rw [aT_ hsz,hsrc.len]
 obtain ⟨v',w',hr,hrow',hg,_⟩:=run_append_own (P:=P) w B t o.type e i z size bytes ht hi hz hsize hby hzs hpos (.slice da dn dcap) dn (ld.flatMap cs) hrow ⟨b,off,none⟩ 1 1 (ls.flatMap cs) hnl (SlAt.src hsz hsrc) (hone ls) h63 hbytes hbase
 have hfr:=kV_ (P:=P) B t o.type e i z size bytes ht hi hz hsize hby dn (ld.flatMap cs) hrow ⟨b,off,none⟩ 1 1 (ls.flatMap cs) (by omega) hnl (SlAt.src hsz hsrc) (hone ls) h63 hbytes hr
 rw [<-List.flatMap_append] at hrow'
 obtain ⟨a',cap',rfl,hres⟩:=cH_ hsz hlen hrow'
 unfold Oper.wp
 simp [execOp,ho,resolve,invoke,builtin,hs,hx,hr,Result.andThen]
 refine h a' cap' w' hres hg (fun ad' had'=>?_)
 subst had'
 rcases hfr ad'.block (by simp [Value.ownBlock]) with h1 | h1
 ·cases da with
  |none=>simp [Value.ownBlock] at h1
  |some ad=>exact .inl ⟨ad,rfl,by simpa [Value.ownBlock] using h1⟩
 ·exact .inr h1
theorem infoStr:(Tryz.prog.info? 9).map (fun i=>(i.zero,i.size,i.bytes))=some (some (.string .empty),1,16):=by kernel_rfl
/-- What is left when a file was lifted, or none was there. -/
structure LiftAt (B B0 sb:Nat) (rows0:List Hr) (l:List Hy) (s:ByteArray) (r:Hr) (w w':World):Prop where
 sh:∃ a n cap rows,Blk w' sb #[.slice a n cap] 207∧ResAt hrs 2 253 w' B a n cap rows∧HsT B w' rows (popH l s)∧(∀ (i:Nat) q x z,rows[i]?=some q->q.pa=some x->r.pa=some z->x.block≠z.block)∧(∀ ad,a=some ad->ad.block<w.heap.size)∧∀ (i:Nat) q,rows[i]?=some q->∃ j:Nat,rows0[j]?=some q
 ps:ResAt sps 1 9 w' B r.pa r.pn r.pc (pieH l s)
 old:∀ ad,r.pa=some ad->ad.block<w.heap.size
 low:Below B0 w w'
theorem eI_ (B B0 sb:Nat) (a:Option Addr) (n cap:Nat) (rows:List Hr) (l:List Hy) (s:ByteArray) (w:World) (hS:Blk w sb #[.slice a n cap] 207) (R:ResAt hrs 2 253 w B a n cap rows) (T:HsT B w rows l) (hs:SrtH l) (hn:n<=4194304) (h0:B0<=B) (h1:B0<=sb) :
  Calls Tryz.prog 302 #[.pointer (some ⟨sb,0,none⟩),.string s] w fun e w'=>∃ nm r,e=.returned (.agg #[.string nm,.slice r.pa r.pn r.pc])∧LiftAt B B0 sb rows l s r w w'∧FrS sb a w w':=by
 have hba:∀ ad,a=some ad->ad.block<w.heap.size:=fun ad e=>(R.block ad e).2
 have hsb:=hS.lt
 cases hh:hasH l s
 ·refine (f7_ B sb a n cap rows l s w hS R T hs hn hh).mono ?_
  rintro e w' ⟨rfl,hB⟩
  have hp:popH l s=l:=by simp [popH,hh]
  have hq:pieH l s=[]:=by simp [pieH,hh]
  exact ⟨s,⟨s,none,0,0⟩,rfl,⟨⟨a,n,cap,rows,hS.below hB,R.below hB,by rw [hp];exact T.below hB,(fun i q x z _ _ h=>(by cases h)),hba,fun i q hi=>⟨i,hi⟩⟩,(by rw [hq];exact aL_),(fun ad h=>(by cases h)),hB.mono (by omega)⟩,FrS.of hB⟩
 ·refine (c8_ B B0 sb a n cap rows l s w hS R T hs hn hh h0 h1).mono ?_
  rintro e w' ⟨r,y,hr,hy,_,rfl,L⟩
  have hp:popH l s=l.eraseIdx (plH l s):=by simp [popH,hh]
  have hq:pieH l s=y.ps:=by simp [pieH,hh,hy]
  refine ⟨y.nm,r,rfl,⟨⟨a,n-1,cap,_,L.sh,L.res,by rw [hp];exact L.its,fun i q x z hi hx hz=>?_,hba,fun i q hi=>?_⟩,by rw [hq];exact L.one.ps,fun ad e=>(T.block hr ad e).2,L.low⟩,L.fr⟩
  ·obtain ⟨j,g1,g2,_⟩:=bK_ hi
   exact T.apart j _ q r x z g2 g1 hr hx hz
  ·obtain ⟨j,g1,_⟩:=bK_ hi
   exact ⟨j,g1⟩
theorem ResAt.frs {α:Type} {cs:α->List Value} {sz:Nat} (hsz:∀ x,(cs x).length=sz) {t:TypeId} {w w':World} {B n cap sb:Nat} {a a':Option Addr} {l:List α} (h:ResAt cs sz t w B a' n cap l) (hF:FrS sb a w w') (hr:∀ ad,a'=some ad->ad.block≠sb∧∀ ad2,a=some ad2->ad.block≠ad2.block):ResAt cs sz t w' B a' n cap l:=by
 rcases h.own with ⟨rfl,rfl,rfl⟩ | ⟨b,rfl,hB,h1,h2,c,hc,h3,h4⟩
 ·obtain rfl:l=[]:=List.eq_nil_of_length_eq_zero h.sl.len
  exact aL_
 ·obtain ⟨g1,g2⟩:=hr _ rfl
  exact bn_ hsz (hF.blk hc g1 g2) hB h.sl.len h1 h2 h3 h4
theorem ResAt.ne_blk {α:Type} {cs:α->List Value} {sz:Nat} {t t':TypeId} {w:World} {B n cap b:Nat} {a:Option Addr} {l:List α} {c:Array Value} (h:ResAt cs sz t w B a n cap l) (hb:Blk w b c t') (ht:t≠t'):∀ ad,a=some ad->ad.block≠b:=by
 rintro ad rfl rfl
 rcases h.own with ⟨h0,_⟩ | ⟨b',h1,_,_,_,c',hc,_⟩
 ·cases h0
 ·cases h1
  exact ht (c2_ hc hb)
theorem ResAt.ne_res {α β:Type} {cs:α->List Value} {cs':β->List Value} {sz sz':Nat} {t t':TypeId} {w:World} {B n cap B' n' cap':Nat} {a a':Option Addr} {l:List α} {l':List β} (h:ResAt cs sz t w B a n cap l) (h':ResAt cs' sz' t' w B' a' n' cap' l') (ht:t≠t'):∀ ad ad',a=some ad->a'=some ad'->ad.block≠ad'.block:=by
 rintro ad ad' e rfl
 rcases h'.own with ⟨h0,_⟩ | ⟨b',h1,_,_,_,c',hc,_⟩
 ·cases h0
 ·cases h1
  exact h.ne_blk hc ht ad e
theorem HsT.off {B:Nat} {w w':World} {rows:List Hr} {l:List Hy} {row:Option Nat} (h:HsT B w rows l) (hg:w.grownBy w' row) (hr:∀ (i:Nat) q x,rows[i]?=some q->q.pa=some x->some x.block≠row):HsT B w' rows l:=
 ⟨h.len,fun i r y h1 h2=>⟨(h.at' i r y h1 h2).nm,(h.at' i r y h1 h2).ps.off hg (fun ad e=>hr i r ad h1 e)⟩,h.apart⟩
theorem jX_ (B B0 sb:Nat) (l:List Hy) (nm d:ByteArray) (w:World) (h:ShAt B sb w l) (hs:SrtH l) (hn:l.length<=4194303) (hp:∀ y∈l,y.ps.length<=4194303) (h0:B0<=B) (h1:B0<=sb) (hBw:B<=w.heap.size) :
  Calls Tryz.prog 300 #[.agg #[.string nm,.string d],.pointer (some ⟨sb,0,none⟩)] w fun e w'=>e=.returned (.bool true)∧ShAt B sb w' (appH l nm d)∧Below B0 w w':=by
 obtain ⟨a,n,cap,rows,S,R,T⟩:=h
 have hlen:l.length=n:=by rw [<-T.len];exact R.sl.len
 rw [hlen] at hn
 have hsb:=S.lt
 have hba:∀ ad,a=some ad->ad.block<w.heap.size:=fun ad e=>(R.block ad e).2
 have hA:Below w.heap.size w (w.alloc (.cells #[.string nm,.string d] 255)):=(Below.refl _ _).alloc (Nat.le_refl _) _
 have D:=Blk.new w #[.string nm,.string d] 255
 have hl:=eI_ B B0 sb a n cap rows l nm _ (S.below hA) (R.below hA) (T.below hA) hs (by omega) h0 h1
 have hpie:(pieH l nm).length<=4194303:=by
  rcases lI_ (l:=l) (s:=nm) with e | ⟨y,hy,e⟩
  ·rw [e];simp
  ·rw [e];exact hp y hy
 have hsp:=aM_ hs nm
 have hpl:(popH l nm).length<=n:=by rw [<-hlen];exact da_ l nm
 have happ:Hid (appH l nm d=putH (popH l nm) ⟨nm,pieH l nm++[d]⟩):=rfl
 clear S R T hs hp hlen
 go_enter Tryz.func300,Tryz.ntmps300
 go_wp2_with fail
 refine hl.mono ?_
 rintro e w1 ⟨fnm,r,rfl,L,hF⟩
 obtain ⟨⟨a1,n1,cap1,rows1,S1,R1,T1,hap,hold1,_⟩,P1,hold,hlow⟩:=L
 have hA0:=hA.size
 have D1:=hF.blk D (by omega) (fun ad e=>by have:=hba ad e;omega)
 have hB1:Below B0 w w1:=(hA.mono (by omega)).trans hlow
 have hw1:=D1.lt
 clear hl hA D hF hlow hba
 generalize popH l nm=l1 at *
 generalize pieH l nm=ps at *
 have hn1:n1<=n:=by rw [<-R1.sl.len,T1.len];exact hpl
 have hpn:ps.length=r.pn:=P1.sl.len
 obtain ⟨rn,pa,pn,pc⟩:=r
 simp only at hpn P1 hap hold ⊢
 have hA2:Below w1.heap.size w1 (w1.alloc (.cells #[.string fnm,.slice pa pn pc] 253)):=(Below.refl _ _).alloc (Nat.le_refl _) _
 have F2:=Blk.new w1 #[.string fnm,.slice pa pn pc] 253
 go_wp2_with fail
 have S2:=S1.below hA2
 have R2:=R1.below hA2
 have T2:=T1.below hA2
 have P2:=P1.below hA2
 have D2:=D1.below hA2
 have hB2:Below B0 w _:=hB1.trans (hA2.mono (by omega))
 have hs2:=hA2.size
 have hs3:w1.heap.size<(w1.alloc (.cells #[.string fnm,.slice pa pn pc] 253)).heap.size:=by simp
 have hblt:∀ (i:Nat) q x,rows1[i]?=some q->q.pa=some x->x.block<w1.heap.size:=fun i q x hi hx=>(T1.block hi x hx).2
 generalize w1.alloc (.cells #[.string fnm,.slice pa pn pc] 253)=W2 at *
 clear S1 R1 T1 P1 D1 hB1 hA2
 have hS0:(fun u=>u.cell? ⟨w.heap.size,0,none⟩=some (.string nm)∧u.cell? ⟨w.heap.size,1,none⟩=some (.string d)∧u.cell? ⟨w1.heap.size,1,none⟩=some (.slice pa pn pc)) W2.drew:=⟨D2.cell 0,D2.cell 1,F2.cell 1⟩
 refine ax_ (S:=(fun u=>u.cell? ⟨w.heap.size,0,none⟩=some (.string nm)∧u.cell? ⟨w.heap.size,1,none⟩=some (.string d)∧u.cell? ⟨w1.heap.size,1,none⟩=some (.slice pa pn pc))) 10 (by kernel_rfl) (by kernel_rfl) ?_
 refine tk 0 ?_
 refine tk 1 ?_
 refine tk 2 ?_
 refine tk 3 ?_
 refine tk 4 ?_
 refine tk 5 ?_
 refine tk 6 ?_
 refine oneL (i:=7) (by kernel_rfl) rfl (fun K hK=>?_)
 go_simp
 have hA3:Below W2.heap.size W2 (W2.alloc (.cells #[.string d] 9)).drew:=((Below.refl _ _).alloc (Nat.le_refl _) _).drew
 have V3:Blk (W2.alloc (.cells #[.string d] 9)).drew W2.heap.size (sps d).toArray 9:=(Blk.new W2 _ _).drew
 have S3:=S2.below hA3
 have R3:=R2.below hA3
 have T3:=T2.below hA3
 have P3:=P2.below hA3
 have D3:=D2.below hA3
 have F3:=F2.below hA3
 have hB3:Below B0 w _:=hB2.trans (hA3.mono (by omega))
 have hs4:=hA3.size
 refine hK.out _ _ ⟨D3.cell 0,D3.cell 1,F3.cell 1⟩ (fun hHeld=>?_)
 clear hK K
 try simp only [Act.put,lsA,lsB,lsC]
 generalize hW3:(W2.alloc (.cells #[.string d] 9)).drew=W3 at *
 clear hW3 S2 R2 T2 P2 D2 F2 hB2 hA3
 refine oneL (i:=8) (by kernel_rfl) rfl (fun K hK=>?_)
 obtain ⟨i0,hi,hz0,hz1,hz2⟩:=info_parts infoStr
 refine aD_ rfl (oJ_ _ _ _ rfl B 9 i0 _ 16 Tryz.underlying79 hi hz0 hz1 hz2 rfl (by decide) h8_ oG_ pa pn pc ps rfl P3 W2.heap.size 0 [d] rfl (kU_ h8_ V3) (by unfold maxLen;omega) (by omega) (by omega) (fun a4 c4 w4 R4 hg4 hfr4=>?_))
 have hty:=P3.rowTy (m:=pn) (k:=pc)
 have S4:=S3.ty hg4 hty (by decide)
 have Q4:=R3.ty hg4 hty (by decide)
 have D4:=D3.ty hg4 hty (by decide)
 have F4:=F3.ty hg4 hty (by decide)
 have T4:=T3.off hg4 (fun i q x hi hx=>ck_ fun ad e=>hap i q x ad hi hx e)
 have hB4:Below B0 w w4:=hB3.grown hg4 (by have:=hB3.size;omega) (aI_ fun ad e=>by have:=(P3.block ad e).1;omega)
 have hap4:Hid (∀ (i:Nat) q x z,rows1[i]?=some q->q.pa=some x->a4=some z->x.block≠z.block):=fun i q x z hi hx hz=>by
  rcases hfr4 z hz with ⟨ad,e1,e2⟩ | e1
  ·rw [<-e2];exact hap i q x ad hi hx e1
  ·have:=hblt i q x hi hx;omega
 have hs5:=hg4.size
 dsimp only
 refine hK.out _ _ ⟨D4.cell 0,D4.cell 1,F4.cell 1⟩ (fun hHeld=>?_)
 clear hK K
 try simp only [Act.put,lsA,lsB,lsC]
 clear S3 R3 T3 P3 D3 F3 V3 hB3 hty hg4 hfr4
 refine tk 9 ?_
 refine wpAnyH_done (by kernel_rfl) ?_ _
 refine lastL rfl ?_
 go_wp2_with fail
 refine (jW_ B B0 sb a1 n1 cap1 rows1 l1 ⟨nm,a4,pn+1,c4⟩ ⟨nm,ps++[d]⟩ w4 S4 Q4 T4 hsp (by omega) ⟨rfl,R4⟩ hap4.out h0 h1 (by omega)).mono ?_
 rintro e w5 ⟨rfl,Sh5,hB5⟩
 have hB6:=hB4.trans hB5
 clear S4 Q4 D4 F4 T4 hap4 hS0 hHeld hB4 hB5
 go_wp2
 go_returns
 exact ⟨rfl,by rw [happ.out];exact Sh5,hB6⟩
theorem eJ_ (B sb:Nat) (l:List Hy) (nm tt:ByteArray) (w:World) (h:ShAt B sb w l) (hs:SrtH l) (hn:l.length<=4194303) (hh:hasH l nm=false) :
  Calls Tryz.prog 316 #[.agg #[.string nm,.string tt],.pointer (some ⟨sb,0,none⟩)] w fun e w'=>e=.returned (.bool false)∧Below w.heap.size w w':=by
 obtain ⟨a,n,cap,rows,S,R,T⟩:=h
 have hlen:l.length=n:=by rw [<-T.len];exact R.sl.len
 rw [hlen] at hn
 have hA:Below w.heap.size w (w.alloc (.cells #[.string nm,.string tt] 257)):=(Below.refl _ _).alloc (Nat.le_refl _) _
 have hc:=ef_ B sb a n cap rows l nm _ (S.below hA) (R.below hA) (T.below hA) hs (by omega)
 rw [hh] at hc
 clear S R T hs hh hlen
 go_enter Tryz.func316,Tryz.ntmps316
 go_wp2_with (go_at_call 318;refine hc.mono ?_;rintro e w1 ⟨rfl,hB1⟩)
 go_returns
 exact ⟨rfl,chain hA hB1⟩
theorem jY_ (B B0 sb:Nat) (l:List Hy) (nm tt:ByteArray) (w:World) (h:ShAt B sb w l) (hs:SrtH l) (hn:l.length<=4194303) (hh:hasH l nm=true) (h0:B0<=B) (h1:B0<=sb) (hBw:B<=w.heap.size) :
  Calls Tryz.prog 316 #[.agg #[.string nm,.string tt],.pointer (some ⟨sb,0,none⟩)] w fun e w'=>e=.returned (.bool true)∧ShAt B sb w' (renH l nm tt)∧Below B0 w w':=by
 obtain ⟨a,n,cap,rows,S,R,T⟩:=h
 have hlen:l.length=n:=by rw [<-T.len];exact R.sl.len
 rw [hlen] at hn
 have hsb:=S.lt
 have hba:∀ ad,a=some ad->ad.block<w.heap.size:=fun ad e=>(R.block ad e).2
 have hA:Below w.heap.size w (w.alloc (.cells #[.string nm,.string tt] 257)):=(Below.refl _ _).alloc (Nat.le_refl _) _
 have D:=Blk.new w #[.string nm,.string tt] 257
 have hc:=ef_ B sb a n cap rows l nm _ (S.below hA) (R.below hA) (T.below hA) hs (by omega)
 rw [hh] at hc
 have hl:=fun u (hu:Below w.heap.size w u)=>eI_ B B0 sb a n cap rows l nm u (S.below hu) (R.below hu) (T.below hu) hs (by omega) h0 h1
 have hsp:=aM_ hs nm
 have hpl:(popH l nm).length<=n:=by rw [<-hlen];exact da_ l nm
 have hren:Hid (renH l nm tt=putH (popH (popH l nm) tt) ⟨tt,pieH l nm⟩):=rfl
 clear S R T hs hh hlen
 go_enter Tryz.func316,Tryz.ntmps316
 go_wp2_with fail
 refine hc.mono ?_
 rintro e w1 ⟨rfl,hB1⟩
 have D1:=D.below hB1
 have hB2:=chain hA hB1
 have hw1:=D1.lt
 have d0:w1.cell? ⟨w.heap.size,0,none⟩=some (.string nm):=D1.cell 0
 clear hc D hA hB1
 go_wp2_with fail
 refine (hl w1 hB2).mono ?_
 rintro e w2 ⟨fnm,r,rfl,L,hF⟩
 obtain ⟨⟨a1,n1,cap1,rows1,S1,R1,T1,hap,hold1,_⟩,P1,hold,hlow⟩:=L
 have D2:=hF.blk D1 (by omega) (fun ad e=>by have:=hba ad e;omega)
 have hB3:Below B0 w w2:=(hB2.mono (by omega)).trans hlow
 have hw2:=D2.lt
 have hs2:=hlow.size
 clear hl D1 hF hlow hba hB2 d0
 generalize popH l nm=l1 at *
 generalize pieH l nm=ps at *
 have hn1:n1<=n:=by rw [<-R1.sl.len,T1.len];exact hpl
 obtain ⟨rn,pa,pn,pc⟩:=r
 simp only at P1 hap hold ⊢
 have hA2:Below w2.heap.size w2 (w2.alloc (.cells #[.string fnm,.slice pa pn pc] 253)):=(Below.refl _ _).alloc (Nat.le_refl _) _
 have F3:=Blk.new w2 #[.string fnm,.slice pa pn pc] 253
 have d1:(w2.alloc (.cells #[.string fnm,.slice pa pn pc] 253)).cell? ⟨w.heap.size,1,none⟩=some (.string tt):=(D2.below hA2).cell 1
 go_wp2_with fail
 have S3:=S1.below hA2
 have R3:=R1.below hA2
 have T3:=T1.below hA2
 have P3:=P1.below hA2
 have D3:=D2.below hA2
 have hB4:Below B0 w _:=hB3.trans (hA2.mono (by omega))
 have hs3:w2.heap.size<(w2.alloc (.cells #[.string fnm,.slice pa pn pc] 253)).heap.size:=by simp
 generalize w2.alloc (.cells #[.string fnm,.slice pa pn pc] 253)=W3 at *
 have hb1:∀ ad,a1=some ad->ad.block<w2.heap.size:=fun ad e=>(R1.block ad e).2
 have hbp:∀ ad,pa=some ad->B<=ad.block∧ad.block<w2.heap.size:=fun ad e=>P1.block ad e
 have hsb2:=S1.lt
 clear S1 R1 T1 P1 D2 hB3 hA2 d1
 have hpn1:=P3.ne_blk S3 (by decide)
 have hpn2:=P3.ne_res R3 (by decide)
 have hl2:=eI_ B B0 sb a1 n1 cap1 rows1 l1 tt W3 S3 R3 T3 hsp (by omega) h0 h1
 refine hl2.mono ?_
 rintro e w4 ⟨fnm2,r2,rfl,L,hF⟩
 obtain ⟨⟨a2,n2,cap2,rows2,S4,R4,T4,_,_,hsub⟩,_,_,hlow⟩:=L
 have D4:=hF.blk D3 (by omega) (fun ad e=>by have:=hold1 ad e;have:=hb1 ad e;have:=(R3.ne_blk D3 (by decide)) ad e;omega)
 have F4:=hF.blk F3 (by omega) (fun ad e=>by have:=hb1 ad e;omega)
 have P4:=P3.frs h8_ hF (fun ad e=>⟨hpn1 ad e,fun ad2 e2=>hpn2 ad ad2 e e2⟩)
 have hB5:Below B0 w w4:=hB4.trans hlow
 have hs4:=hlow.size
 have hsp2:=aM_ hsp tt
 have hpl2:(popH l1 tt).length<=n:=Nat.le_trans (da_ l1 tt) hpl
 generalize popH l1 tt=l2 at *
 have hn2:n2<=n:=by rw [<-R4.sl.len,T4.len];exact hpl2
 have hap2:Hid (∀ (i:Nat) q x z,rows2[i]?=some q->q.pa=some x->pa=some z->x.block≠z.block):=fun i q x z hi hx hz=>by
  obtain ⟨j,hj⟩:=hsub i q hi
  exact hap j q x z hj hx hz
 have e1:w4.cell? ⟨w.heap.size,1,none⟩=some (.string tt):=D4.cell 1
 have e2:w4.cell? ⟨w2.heap.size,1,none⟩=some (.slice pa pn pc):=F4.cell 1
 clear hl2 hF hlow S3 R3 T3 P3 D3 F3 hB4 hsub hap hb1 hbp hold hold1 hpn1 hpn2
 go_wp2_with fail
 refine (jW_ B B0 sb a2 n2 cap2 rows2 l2 ⟨tt,pa,pn,pc⟩ ⟨tt,ps⟩ w4 S4 R4 T4 hsp2 (by omega) ⟨rfl,P4⟩ hap2.out h0 h1 (by omega)).mono ?_
 rintro e w5 ⟨rfl,Sh5,hB6⟩
 have hB7:=hB5.trans hB6
 clear S4 R4 T4 D4 F4 P4 hap2 hB5 hB6 e1 e2
 go_wp2
 go_returns
 exact ⟨rfl,by rw [hren.out];exact Sh5,hB7⟩
theorem pi_ (x y:Value) (w:World):(method 465 255 (.agg #[x,y]) "loop.example/g00336/impl.doneOn").run Tryz.prog w=.ok (300,.agg #[x,y]) w:=by kernel_rfl
theorem pj_ (x y:Value) (w:World):(method 465 257 (.agg #[x,y]) "loop.example/g00336/impl.doneOn").run Tryz.prog w=.ok (316,.agg #[x,y]) w:=by kernel_rfl
theorem pk_ (x:Value) (w:World):(method 465 259 (.agg #[x]) "loop.example/g00336/impl.doneOn").run Tryz.prog w=.ok (319,.agg #[x]) w:=by kernel_rfl
theorem pl_ (x y:Value) (w:World):(callFunc 300 #[x,y]).run Tryz.prog w=.ok (.enter 300 #[x,y]) w:=by kernel_rfl
theorem pm_ (x y:Value) (w:World):(callFunc 316 #[x,y]).run Tryz.prog w=.ok (.enter 316 #[x,y]) w:=by kernel_rfl
theorem pn_ (x y:Value) (w:World):(callFunc 319 #[x,y]).run Tryz.prog w=.ok (.enter 319 #[x,y]) w:=by kernel_rfl
theorem oK_ {o:Dp} (h:formB o=true):o.k=1∨o.k=2∨o.k=3:=by
 simp only [formB,Bool.and_eq_true,decide_eq_true_eq] at h
 omega
/-- A change that is done, whichever it is. -/
theorem mL_ (B B0 sb:Nat) (l:List Hy) (o:Dp) (hf:formB o=true) (hs:SrtH l) (hn:l.length<=4194303) (hp:∀ y∈l,y.ps.length<=4194303) (h0:B0<=B) (h1:B0<=sb) :
  ∃ (T:TypeId) (x:Value) (f:FuncId),chV o=.iface T x∧(∀ w:World,(method 465 T x "loop.example/g00336/impl.doneOn").run Tryz.prog w=.ok (f,x) w)∧(∀ (a b:Value) (w:World),(callFunc f #[a,b]).run Tryz.prog w=.ok (.enter f #[a,b]) w)∧
   ∀ u,ShAt B sb u l->B<=u.heap.size->Calls Tryz.prog f #[x,.pointer (some ⟨sb,0,none⟩)] u fun e w'=>e=.returned (.bool (doH l o).2)∧ShAt B sb w' (doH l o).1∧Below B0 u w':=by
 rcases oK_ hf with hk | hk | hk
 ·have hd:doH l o=(appH l o.nm o.d,true):=by simp [doH,hk]
  refine ⟨_,_,_,by simp only [chV,hk,if_true];rfl,pi_ _ _,pl_,fun u hu hB=>?_⟩
  rw [hd]
  exact jX_ B B0 sb l o.nm o.d u hu hs hn hp h0 h1 hB
 ·refine ⟨_,_,_,by simp only [chV,hk,if_true];rfl,pj_ _ _,pm_,fun u hu hB=>?_⟩
  cases hh:hasH l o.nm
  ·have hd:doH l o=(l,false):=by simp [doH,hk,hh]
   rw [hd]
   refine (eJ_ B sb l o.nm o.tt u hu hs hn hh).mono ?_
   rintro e w' ⟨rfl,hb⟩
   exact ⟨rfl,hu.below hb,hb.mono (by omega)⟩
  ·have hd:doH l o=(renH l o.nm o.tt,true):=by simp [doH,hk,hh]
   rw [hd]
   exact jY_ B B0 sb l o.nm o.tt u hu hs hn hh h0 h1 hB
 ·have hk1:¬ o.k=1:=by omega
  have hk2:¬ o.k=2:=by omega
  refine ⟨_,_,_,by simp only [chV,hk1,hk2,if_false];rfl,pk_ _,pn_,fun u hu hB=>?_⟩
  obtain ⟨a,n,cap,rows,S,R,T⟩:=hu
  have hlen:n<=4194303:=by rw [<-R.sl.len,T.len];exact hn
  cases hh:hasH l o.nm
  ·have hd:doH l o=(l,false):=by simp [doH,hk,hh]
   rw [hd]
   refine (eD_ B sb a n cap rows l o.nm u S R T hs (by omega) hh).mono ?_
   rintro e w' ⟨rfl,hb⟩
   exact ⟨rfl,⟨a,n,cap,rows,S.below hb,R.below hb,T.below hb⟩,hb.mono (by omega)⟩
  ·have hd:doH l o=(popH l o.nm,true):=by simp [doH,hk,hh]
   have hp2:popH l o.nm=l.eraseIdx (plH l o.nm):=by simp [popH,hh]
   rw [hd]
   refine (eE_ B B0 sb a n cap rows l o.nm u S R T hs (by omega) hh h0 h1).mono ?_
   rintro e w' ⟨rfl,r,y,L⟩
   exact ⟨rfl,⟨a,n-1,cap,_,L.sh,L.res,by rw [hp2];exact L.its⟩,L.low⟩
theorem mM_ (d:ByteArray):joinB [d]=d:=by
 have:=ga_ [] d
 rw [List.nil_append,hA_,lG_] at this
 exact this
theorem jZ_ (l:List Fl):(l.map oneH).map toldF=l:=by
 rw [List.map_map]
 have:toldF ∘ oneH=id:=by funext f;simp [toldF,oneH,mM_]
 rw [this,List.map_id]
theorem lM_:∀ (l:List Fl) (q:Option Fl),fgo q l=true->(∀ p,q=some p->∀ x∈l,bl p.nm.toList x.nm.toList=true)∧∀ (i j:Nat) x y,i<j->l[i]?=some x->l[j]?=some y->bl x.nm.toList y.nm.toList=true
 |[],q,_=>⟨fun p _ x hx=>(by cases hx),fun i j x y _ hx=>(by simp at hx)⟩
 |z::r,q,h=>by
  have h':nmB z.nm=true∧(∀ p,q=some p->bl p.nm.toList z.nm.toList=true)∧fgo (some z) r=true:=by
   cases q with
   |none=>simp only [fgo,Bool.and_eq_true] at h;exact ⟨h.1.1,fun p e=>(by cases e),h.2⟩
   |some p=>simp only [fgo,Bool.and_eq_true] at h;exact ⟨h.1.1,fun p' e=>(by cases e;exact h.1.2),h.2⟩
  obtain ⟨ih1,ih2⟩:=lM_ r (some z) h'.2.2
  refine ⟨fun p hp x hx=>?_,fun i j x y hij hx hy=>?_⟩
  ·rcases List.mem_cons.1 hx with rfl | hx
   ·exact h'.2.1 p hp
   ·exact cr_ (h'.2.1 p hp) (ih1 z rfl x hx)
  ·cases j with
   |zero=>omega
   |succ j=>
    have hy':r[j]?=some y:=by simpa using hy
    cases i with
    |zero=>
     obtain rfl:z=x:=by simpa using hx
     exact ih1 z rfl y (List.mem_of_getElem? hy')
    |succ i=>exact ih2 i j x y (by omega) (by simpa using hx) hy'
theorem lN_ {l:List Fl} (h:fgo none l=true):SrtH (l.map oneH):=by
 intro i j x y hij hx hy
 rw [List.getElem?_map] at hx hy
 obtain ⟨f,hf,rfl⟩:=Option.map_eq_some_iff.1 hx
 obtain ⟨g,hg,rfl⟩:=Option.map_eq_some_iff.1 hy
 exact (lM_ l none h).2 i j f g hij hf hg
theorem lO_ {l:List Fl} (h:filesB l=true):BndH 1 200000 (l.map oneH):=by
 obtain ⟨_,hs,hg⟩:=cO_ h
 refine ⟨fun y hy=>?_,fun y hy s hm=>?_,fun y hy=>?_⟩<;>obtain ⟨f,hf,rfl⟩:=List.mem_map.1 hy
 ·simp [oneH]
 ·simp [oneH] at hm
  subst hm
  have:=ec_ hf
  omega
 ·exact eB_ hg f hf
theorem e2_ (v:Value) (d:Dk) (w:World) (h:DiskAt w v d) (hd:DimD d) :
  Calls Tryz.prog 87 #[v] w fun e w'=>e=.returned (.bool (diskB d))∧Below w.heap.size w w':=by
 obtain ⟨la,ln,lc,sa,sn,sc,oa,on,oc,rfl,hL,hS,hO⟩:=h
 obtain ⟨⟨dl1,dl2⟩,⟨ds1,ds2⟩,do1,do2⟩:=hd
 obtain ⟨live,safe,ops⟩:=d
 simp only at dl1 dl2 ds1 ds2 do1 do2 hL hS hO
 have lL:Hid (live.length=ln):=hL.sl.len
 have lS:Hid (safe.length=sn):=hS.sl.len
 have lO:Hid (ops.length=on):=hO.sl.len
 have sL:StrsF live:=fun x hx=>⟨(dl2 x hx).1,by have:=(dl2 x hx).2;omega⟩
 have sS:StrsF safe:=fun x hx=>⟨(ds2 x hx).1,by have:=(ds2 x hx).2;omega⟩
 have hB0:Below w.heap.size w (w.alloc (.cells #[.slice la ln lc,.slice sa sn sc,.slice oa on oc] 52)):=by go_grown
 have D0:=Blk.new w #[.slice la ln lc,.slice sa sn sc,.slice oa on oc] 52
 rw [lL.out] at dl1
 rw [lS.out] at ds1
 rw [lO.out] at do1
 cases hfl:filesB live
 ·have hf:Hid (diskB ⟨live,safe,ops⟩=false):=by show _=_;simp [diskB,hfl]
  go_enter Tryz.func87,Tryz.ntmps87
  go_wp2_with fail
  refine (bm_ la ln lc live _ (hL.sl.below hB0) sL (by omega)).mono ?_
  rintro e w1 ⟨rfl,hB1⟩
  rw [hfl]
  go_wp2
  go_returns
  exact ⟨ab_ hf.out.symm,chain hB0 hB1⟩
 ·cases hfs:filesB safe
  ·have hf:Hid (diskB ⟨live,safe,ops⟩=false):=by show _=_;simp [diskB,hfs]
   go_enter Tryz.func87,Tryz.ntmps87
   go_wp2_with fail
   refine (bm_ la ln lc live _ (hL.sl.below hB0) sL (by omega)).mono ?_
   rintro e w1 ⟨rfl,hB1⟩
   rw [hfl]
   have D1:=D0.below hB1
   have x1:w1.cell? ⟨w.heap.size,1,none⟩=some (.slice sa sn sc):=D1.cell 1
   have hC1:=chain hB0 hB1
   go_wp2_with fail
   refine (bm_ sa sn sc safe _ (hS.sl.below hC1) sS (by omega)).mono ?_
   rintro e w2 ⟨rfl,hB2⟩
   rw [hfs]
   go_wp2
   go_returns
   exact ⟨ab_ hf.out.symm,chain hC1 hB2⟩
  ·go_enter Tryz.func87,Tryz.ntmps87
   go_wp2_with fail
   refine (bm_ la ln lc live _ (hL.sl.below hB0) sL (by omega)).mono ?_
   rintro e w1 ⟨rfl,hB1⟩
   rw [hfl]
   have D1:=D0.below hB1
   have x1:w1.cell? ⟨w.heap.size,1,none⟩=some (.slice sa sn sc):=D1.cell 1
   have hC1:=chain hB0 hB1
   go_wp2_with fail
   refine (bm_ sa sn sc safe _ (hS.sl.below hC1) sS (by omega)).mono ?_
   rintro e w2 ⟨rfl,hB2⟩
   rw [hfs]
   have D2:=D1.below hB2
   have hC2:=chain hC1 hB2
   clear x1
   have x1:w2.cell? ⟨w.heap.size,1,none⟩=some (.slice sa sn sc):=D2.cell 1
   have x2:w2.cell? ⟨w.heap.size,2,none⟩=some (.slice oa on oc):=D2.cell 2
   by_cases h200:on<=200
   ·have h2b:¬ (200:Int)<on:=by omega
    have hf:Hid (diskB ⟨live,safe,ops⟩=(match runF safe ops with | none=>false | some l=>eqFls l live)):=by
     show _=_
     have h200':ops.length<=200:=by rw [lO.out];exact h200
     show (filesB live&&filesB safe&&decide (ops.length<=200)&&_)=_
     rw [hfl,hfs,decide_eq_true h200']
     cases runF safe ops<;>rfl
    obtain ⟨_,_,hgs⟩:=cO_ hfs
    go_wp2_with fail
    refine (ed_ sa sn sc safe w2 (hS.sl.below hC2) (by omega)).mono ?_
    rintro e w3 ⟨⟨a3,c3,rows3,rfl,R3,T3⟩,hB3⟩
    have D3:=D2.below hB3
    have hw2:=D2.lt
    have hA3:Below w3.heap.size w3 (w3.alloc (.cells #[.slice a3 sn c3] 207)):=(Below.refl _ _).alloc (Nat.le_refl _) _
    have S4:=Blk.new w3 #[.slice a3 sn c3] 207
    have Sh4:ShAt w2.heap.size w3.heap.size (w3.alloc (.cells #[.slice a3 sn c3] 207)) (safe.map oneH):=⟨a3,sn,c3,rows3,S4,R3.below hA3,T3.below hA3⟩
    have hB4:=chain hB3 hA3
    have hw3:=hB3.size
    have x2b:(w3.alloc (.cells #[.slice a3 sn c3] 207)).cell? ⟨w.heap.size,2,none⟩=some (.slice oa on oc):=(D3.below hA3).cell 2
    clear D3 S4 R3 T3 x1 x2 hB3 hA3 D0 D1
    go_wp2_with fail
    generalize w3.alloc (.cells #[.slice a3 sn c3] 207)=W4 at *
    go_loopw [30] (fun ix wr=>∃ (k:Nat) (cur:List Hy),k<=on∧ix=.int .i64 k∧ShAt w2.heap.size w3.heap.size wr cur∧SrtH cur∧BndH (1+k) 10000000 cur∧fitsB cur=true∧Hid (runF safe ops=runF (cur.map toldF) (ops.drop k))∧Below w2.heap.size w2 wr) (fun ix _=>on-(intOf ix).toNat)
    case atStart=>exact ⟨0,safe.map oneH,Nat.zero_le _,rfl,Sh4,lN_ hgs,(lO_ hfs).mono (by omega) (by omega),by rw [<-gc_ (lN_ hgs) (lO_ hfs),jZ_];exact hfs,by show _=_;rw [jZ_];simp,hB4⟩
    case round=>
     obtain ⟨k,cur,hk,rfl,Sh,hs,hb,hfit,hI,hB⟩:=hrel
     have hC3:=chain hC2 hB
     have hc60:cur.length<=60∧sumH cur<=200000:=by simpa [fitsB] using hfit
     have D3:=D2.below hB
     have hsz:=hB.size
     clear x2b
     by_cases hlt:k<on
     ·obtain ⟨b,o,op,rfl,hp,c0,c1,c2',c3'⟩:=hv_ (hO.sl.below hC3) hlt
      obtain ⟨hso,hod⟩:=do2 op (List.mem_of_getElem? hp)
      have hrun:Hid (runF safe ops=if ((doH cur op).2&&formB op&&fitsB (doH cur op).1)=true then runF ((doH cur op).1.map toldF) (ops.drop (k+1)) else none):=by
       show _=_
       rw [hI.out,aj_ hp]
       cases hfo:formB op
       ·simp [runF,hfo]
       ·have e1:=gc_ (lH_ hs op) (lJ_ hb hfo hod)
        show (if ((doF (cur.map toldF) op).2&&formB op&&filesB (doF (cur.map toldF) op).1)=true then runF (doF (cur.map toldF) op).1 (ops.drop (k+1)) else none)=_
        rw [ph_ hs op]
        simp only [hfo,e1]
      clear hp
      have hk1:(k:Int)<on:=by omega
      have hk2:(0:Int)<=k:=by omega
      have hA5:Below wr.heap.size wr (wr.alloc (.cells #[.int .i64 op.k,.string op.nm,.string op.tt,.string op.d] 120)):=(Below.refl _ _).alloc (Nat.le_refl _) _
      go_wp2_with fail
      refine (gG_ op.k op.nm op.tt op.d _ hso.1 hso.2.1).mono ?_
      rintro e w5 ⟨⟨v5,rfl,hv5⟩,hB5⟩
      have hC5:=chain hA5 hB5
      have Sh5:=Sh.below hC5
      have hB6:=chain hB hC5
      cases hfo:formB op
      ·have hend:Hid (runF safe ops=none):=by show _=_;rw [hrun.out,hfo];simp
       go_wp2
       go_returns
       exact ⟨by rw [hf.out,hend.out]<;>rfl,chain hC2 hB6⟩
      ·obtain rfl:=hv5 hfo
       obtain ⟨TT,xx,ff,hch,hme,hent,hcall⟩:=mL_ w2.heap.size w2.heap.size w3.heap.size cur op hfo hs (by omega) (fun y hy=>by have:=hb.ps y hy;omega) (Nat.le_refl _) hw3
       rw [show chV ⟨op.k,op.nm,op.tt,op.d⟩=.iface TT xx from hch]
       have hbn:=lJ_ hb hfo hod
       have hsn:=lH_ hs op
       have hln:=oI_ cur op
       clear hv5 hA5 hB5 Sh hch
       go_wp2_with fail
       refine (hcall w5 Sh5 hB6.size).mono ?_
       rintro e w6 ⟨rfl,Sh6,hB7⟩
       have hB8:Below w2.heap.size w2 w6:=hB6.trans hB7
       clear hcall hme hent Sh5 hB7 hB6 hC5
       cases hok:(doH cur op).2
       ·have hend:Hid (runF safe ops=none):=by show _=_;rw [hrun.out,hok];simp
        go_wp2
        go_returns
        exact ⟨by rw [hf.out,hend.out]<;>rfl,chain hC2 hB8⟩
       ·generalize hnx:(doH cur op).1=nx at *
        obtain ⟨a6,n6,c6,rows6,S6,R6,T6⟩:=Sh6
        have hn6:n6<=61:=by rw [<-R6.sl.len,T6.len];omega
        go_wp2_with fail
        refine (hy_ w2.heap.size w3.heap.size a6 n6 c6 rows6 nx w6 S6 R6 T6 (by omega) (fun y hy=>by have:=hbn.ps y hy;omega) (fun y hy s hm=>by have:=hbn.sz y hy s hm;omega)).mono ?_
        rintro e w7 ⟨rfl,hB9⟩
        have hC7:=chain hB8 hB9
        cases hft:fitsB nx
        ·have hend:Hid (runF safe ops=none):=by show _=_;rw [hrun.out,hok,hfo,hft];simp
         go_wp2
         go_returns
         exact ⟨by rw [hf.out,hend.out]<;>rfl,chain hC2 hC7⟩
        ·have hnext:Hid (runF safe ops=runF (nx.map toldF) (ops.drop (k+1))):=by show _=_;rw [hrun.out,hok,hfo,hft];simp
         have Sh7:ShAt w2.heap.size w3.heap.size w7 nx:=⟨a6,n6,c6,rows6,S6.below hB9,R6.below hB9,T6.below hB9⟩
         go_wp2
         go_roundw
         case rel=>exact ⟨k+1,nx,by omega,by go_num,Sh7,hsn,by rw [show 1+(k+1)=1+k+1 by omega];exact hbn,hft,hnext,hC7⟩
         case measure=>simp [intOf];omega
     ·obtain rfl:k=on:=by omega
      have hend:Hid (runF safe ops=some (cur.map toldF)):=by
       show _=_
       rw [hI.out,List.drop_of_length_le (Nat.le_of_eq lO.out)];rfl
      have hok:¬ (k:Int)<k:=by omega
      obtain ⟨a6,n6,c6,rows6,S6,R6,T6⟩:=Sh
      have hn6:n6<=60:=by rw [<-R6.sl.len,T6.len];omega
      go_wp2_with fail
      have hS0:(fun u=>u.cell? ⟨w.heap.size,0,none⟩=some (.slice la ln lc)) wr.drew:=D3.cell 0
      refine ad_ (S:=(fun u=>u.cell? ⟨w.heap.size,0,none⟩=some (.slice la ln lc))) 5 (by kernel_rfl) rfl ?_
      refine tk 1 ?_
      refine tk 2 ?_
      refine oneL (i:=0) (by kernel_rfl) rfl (fun K hK=>?_)
      go_simp
      have hd0:Below wr.heap.size wr wr.drew:=(Below.refl _ _).drew
      refine (kO_ w2.heap.size w3.heap.size a6 n6 c6 rows6 cur wr.drew (S6.below hd0) (R6.below hd0) (T6.below hd0) (by omega) (fun y hy=>by have:=hb.ps y hy;omega) hc60.2).mono ?_
      rintro e w7 ⟨⟨a7,c7,rfl,R7⟩,hB7⟩
      have hC7:=chain hd0 hB7
      dsimp only
      refine hK.out _ _ ((D3.below hC7).cell 0) (fun hHeld=>?_)
      clear hK K
      try simp only [Act.put,lsA,lsB,lsC]
      refine oneL (i:=3) (by kernel_rfl) rfl (fun K hK=>?_)
      go_simp
      refine (jO_ a7 n6 c7 (cur.map toldF) la ln lc live w7 R7.sl ((hL.sl.below hC3).below hC7) (by omega) (by omega)).mono ?_
      rintro e w8 ⟨rfl,hB8⟩
      have hC8:=chain hC7 hB8
      dsimp only
      refine hK.out _ _ ((D3.below hC8).cell 0) (fun hHeld=>?_)
      clear hK K
      try simp only [Act.put,lsA,lsB,lsC]
      refine tk 4 ?_
      refine wpAnyH_done (by kernel_rfl) ?_ _
      clear hS0 hHeld
      go_wp2
      go_returns
      exact ⟨by rw [hf.out,hend.out]<;>rfl,chain hC3 hC8⟩
   ·have h2b:(200:Int)<on:=by omega
    have hf:Hid (diskB ⟨live,safe,ops⟩=false):=by show _=_;simp [diskB,lO.out,h200]
    go_wp2
    go_returns
    exact ⟨ab_ hf.out.symm,hC2⟩
end Go.Proofs.YtigldeccfpkdmaaGreatDoor
