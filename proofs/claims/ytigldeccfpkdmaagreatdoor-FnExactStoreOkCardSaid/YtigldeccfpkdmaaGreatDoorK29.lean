/- slices.Insert of one row, at impl.held. Putting a file into its place. -/
import Derived.Test.YtigldeccfpkdmaaGreatDoorK28
namespace Go.Proofs.YtigldeccfpkdmaaGreatDoor
open Go Go.RowKit Go.BigFrame
set_option maxHeartbeats 20000000
set_option maxRecDepth 100000
theorem hC_:∃ i0,Tryz.prog.info? 253=some i0∧i0.zero=some (.agg #[.string .empty,.slice none 0 0])∧i0.size=2∧i0.bytes=40:=by
 have h:=infoHr
 cases hh:Tryz.prog.info? 253 with
 |none=>rw [hh] at h;cases h
 |some i0=>rw [hh] at h;simp at h;exact ⟨i0,rfl,h.1,h.2.1,h.2.2⟩
theorem du_:(Tryz.prog.info? 253).map (·.size)=some 2:=by
 obtain ⟨i0,h,_,h2,_⟩:=hC_
 rw [h];simp [h2]
theorem fc_ (B:Nat) (a:Option Addr) (n cap vb:Nat) (rows:List Hr) (x:Hr) (w:World) (R:ResAt hrs 2 253 w B a n cap rows) (hv:Blk w vb (hrs x).toArray 253) (hn:n<=4194304) (hBw:B<=w.heap.size) :
  Calls Tryz.prog 306 #[.slice a n cap,.int .i64 n,.slice (some ⟨vb,0,none⟩) 1 1] w fun e w'=>(∃ a' cap',e=.returned (.slice a' (n+1) cap')∧ResAt hrs 2 253 w' B a' (n+1) cap' (rows++[x]))∧w.grownBy w' (Value.ownBlock (.slice a n cap)):=by
 have hS:=kU_ aE_ hv
 have hnc:n<=cap:=R.le
 have hz1:¬ ((1:Int)=0):=by omega
 cases a with
 |none=>
  obtain ⟨rfl,rfl⟩:=R.empt
  go_enter Tryz.func306,Tryz.ntmps306
  go_wp2_with (at_builtin;refine al_ rfl (fun K hK=>f6_ _ _ rfl B none 0 0 rows rfl R (some ⟨vb,0,none⟩) 1 1 [x] rfl hS (fun ad h=>(by cases h;rfl)) (fun h=>(by cases h)) (0+1) rfl (by omega) hBw (fun a3 c3 w3 R3 hg3=>hK _ _ ?_)))
  go_returns
  exact ⟨⟨a3,c3,rfl,R3⟩,hg3⟩
 |some ad=>
  obtain ⟨b,rfl⟩:∃ b,ad=⟨b,0,none⟩:=by
   rcases R.own with ⟨h0,_⟩ | ⟨b,h0,_⟩
   ·cases h0
   ·cases h0;exact ⟨b,rfl⟩
  go_enter Tryz.func306,Tryz.ntmps306
  go_wp2_with (at_builtin;refine al_ rfl (fun K hK=>f6_ _ _ rfl B (some ⟨b,0,none⟩) n cap rows rfl R (some ⟨vb,0,none⟩) 1 1 [x] rfl hS (fun ad h=>(by cases h;rfl)) (fun h=>(by cases h)) (n+1) rfl (by omega) hBw (fun a3 c3 w3 R3 hg3=>hK _ _ ?_)))
  all_goals (go_returns;exact ⟨⟨a3,c3,rfl,R3⟩,hg3⟩)
theorem eG_ (B b n cap i vb:Nat) (rows:List Hr) (x:Hr) (w:World) (R:ResAt hrs 2 253 w B (some ⟨b,0,none⟩) n cap rows) (hv:Blk w vb (hrs x).toArray 253) (hn:n<=4194304) (hBw:B<=w.heap.size) (hi:i<n) (hcap:cap=n) :
  Calls Tryz.prog 306 #[.slice (some ⟨b,0,none⟩) n cap,.int .i64 i,.slice (some ⟨vb,0,none⟩) 1 1] w fun e w'=>(∃ a' cap',e=.returned (.slice a' (n+1) cap')∧ResAt hrs 2 253 w' B a' (n+1) cap' (rows.take i++[x]++rows.drop i))∧w.grownBy w' (Value.ownBlock (.slice (some ⟨b,0,none⟩) n cap)):=by
 subst hcap
 have hlen:=R.sl.len
 have hS:=kU_ aE_ hv
 have hblt:=(R.block _ rfl).2
 have hvlt:=hv.lt
 obtain ⟨i0,hi0,hz0,hzs,hzb⟩:=hC_
 have hkk:(cap:Int)+1-(i:Int)=((cap+1-i:Nat):Int):=by omega
 have hik:i+(cap+1-i)=cap+1:=by omega
 have hzc:((.agg #[.string .empty,.slice none 0 0]):Value).cells.size=2:=rfl
 have hfl:((rows.take i).flatMap hrs).length=i*2:=by rw [aT_ aE_,List.length_take,hlen,Nat.min_eq_left (by omega)]
 have hold:(Builtin.firstCells i0.size i (.slice (some ⟨b,0,none⟩) i cap)).run Tryz.prog w.drew=.ok ((rows.take i).flatMap hrs).toArray w.drew:=by
  rw [hzs]
  refine run_firstCells_some w.drew 2 i ⟨b,0,none⟩ i cap _ hfl (fun j v hj=>?_)
  have:=SlAt.src aE_ R.sl j v (by
   rw [<-dt_ aE_,List.getElem?_take] at hj
   split at hj
   ·exact hj
   ·cases hj)
  exact this
 have hrz:∀ ty,(Builtin.append_ #[205,3] ty #[.slice (some ⟨b,0,none⟩) i cap,.int .i64 ((cap:Int)+1-(i:Int))]).run Tryz.prog w =
   .ok (.slice (some ⟨w.heap.size,0,none⟩) (cap+1) (grownCap w (cap+1) cap 253)) (w.drew.alloc (.cells (((rows.take i).flatMap hrs).toArray++Builtin.zeroCells ((.agg #[.string .empty,.slice none 0 0]):Value).cells (cap+1-i)++Builtin.zeroCells ((.agg #[.string .empty,.slice none 0 0]):Value).cells (grownCap w (cap+1) cap 253-(cap+1))) 253)):=fun ty=>by
  have h:=Lib.run_append_grow_zeros w 205 3 ty 253 i0 _ .i64 .i64 Tryz.underlying205 Tryz.underlying3 hi0 hz0 (some ⟨b,0,none⟩) i cap ((rows.take i).flatMap hrs) hold (cap+1-i) (by omega) (by omega) (by omega) (by omega) (by rw [hzb];omega) (by rw [hzb,hik];exact growslice_fits (by omega) (by omega))
  rw [hik] at h
  rw [hkk]
  exact h
 have hGn:cap+1<=grownCap w (cap+1) cap 253:=grownCap_ge w _ _ _
 have hGm:grownCap w (cap+1) cap 253<=maxLen:=grownCap_le_maxLen w (cap+1) cap 253 (by unfold maxLen;omega)
 generalize grownCap w (cap+1) cap 253=G at *
 obtain ⟨ROW,hRl,hRt,hRe⟩:∃ ROW:List Value,ROW.length=G*2∧ROW.take (i*2)=(rows.take i).flatMap hrs∧(((rows.take i).flatMap hrs).toArray++Builtin.zeroCells ((.agg #[.string .empty,.slice none 0 0]):Value).cells (cap+1-i)++Builtin.zeroCells ((.agg #[.string .empty,.slice none 0 0]):Value).cells (G-(cap+1)))=ROW.toArray:=by
  refine ⟨((rows.take i).flatMap hrs)++(Builtin.zeroCells ((.agg #[.string .empty,.slice none 0 0]):Value).cells (cap+1-i)).toList++(Builtin.zeroCells ((.agg #[.string .empty,.slice none 0 0]):Value).cells (G-(cap+1))).toList,?_,?_,?_⟩
  ·simp only [List.length_append,Array.length_toList,size_zeroCells,hzc,hfl];omega
  ·rw [List.append_assoc,<-hfl,List.take_left]
  ·apply Array.toList_inj.1;simp
 rw [hRe] at hrz
 have hC:=pD_ (cs:=hrs) (x:=x) aE_ hlen (Nat.le_of_lt hi) hRl hGn hRt
 replace hC:Hid _:=hC
 have D1:Blk (w.drew.alloc (.cells ROW.toArray 253)) w.heap.size ROW.toArray 253:=Blk.new w.drew _ _
 have hB1:Below w.heap.size w (w.drew.alloc (.cells ROW.toArray 253)):=((Below.refl _ _).drew).alloc (Nat.le_refl _) _
 have hz1:¬ ((1:Int)=0):=by omega
 have hz2:¬ ((i:Int)=(cap:Int)):=by omega
 have hz3:(cap:Int)<(cap:Int)+1:=by omega
 have hGi:¬ (G=i):=by omega
 have hGim:¬ (G=i+1):=by omega
 have hci:¬ (cap=i):=by omega
 have hw1:IntKind.i64.wrap ((i:Int)+1)=(i:Int)+1:=by rw [IntKind.wrap_i64];omega
 have hb1:(0:Int)<=(i:Int)+1:=by omega
 have hin:i<=cap:=by omega
 have htn:((i:Int)+1).toNat=i+1:=by omega
 have hb3:(i:Int)<=(cap:Int):=by omega
 have hG63:G<=9223372036854775807:=by unfold maxLen at hGm;omega
 have hSl:=R.sl
 have hone1:∀ v∈hrs x,v.oneCell'=true:=fun v hv=>ds_ [x] v (by simpa using hv)
 have hone2:∀ v∈(rows.drop i).flatMap hrs,v.oneCell'=true:=ds_ _
 have hbl:Hid (B<=w.heap.size∧rows.length=cap):=⟨hBw,hlen⟩
 clear hkk hik hold R hfl hi0 hz0 hzs hzb hRe hRt hlen hRl
 generalize hW1:w.drew.alloc (.cells ROW.toArray 253)=W1 at *
 clear hW1
 obtain ⟨w2,hcp,D2,hg2,hs2⟩:=lK_ (P:=Tryz.prog) W1 205 205 253 2 w.heap.size (i*2) (cap+1-i) (G-i) ⟨vb,0,none⟩ 1 1 ROW 253 (hrs x) 1 Tryz.underlying205 du_ D1 (by simp only [Nat.min_def];split<;>omega) (by rw [aE_,Nat.one_mul]) (fun j v hj=>by rw [Addr.add_lit];exact bcell hB1 ((hv.cell _).trans (by simpa using hj))) hC.out.1 hone1
 go_enter Tryz.func306,Tryz.ntmps306
 go_wp2_with (first
  |(at_builtin;refine Lib.wpList_append_run _ rfl _ _ _ _ rfl _ _ rfl rfl _ _ (hrz _) ?_)
  |(at_builtin;refine ei_ _ rfl _ _ 205 205 rfl _ _ rfl rfl (hcp _) ?_))
 clear hcp
 have hB2:=am_ hB1 hg2 (Nat.le_refl _)
 have hw2:=D2.lt
 clear hrz hB1 hg2 hs2
 have hS0:(fun _=>True) w2.drew:=trivial
 refine ad_ (S:=(fun _=>True)) 9 (by kernel_rfl) rfl ?_
 refine tk 0 ?_
 refine tk 1 ?_
 refine tk 2 ?_
 refine tk 3 ?_
 refine tk 4 ?_
 refine tk 5 ?_
 refine tk 6 ?_
 refine tk 7 ?_
 refine oneL (i:=8) (by kernel_rfl) rfl (fun K hK=>?_)
 refine aD_ rfl (jT_ _ _ 205 205 253 2 rfl Tryz.underlying205 du_ w.heap.size ((i+1)*2) (cap-i) (G-(i+1)) ⟨b,i*2,none⟩ (cap-i) (cap-i) rfl rfl _ 253 D2.drew ((rows.drop i).flatMap hrs) (cap-i) (by simp only [Nat.min_def];split<;>omega) hC.out.2.2.2.1 (fun j v hj=>?src) hC.out.2.2.1 hone2 (fun w3 D3 hg3 hs3=>?_))
 case src=>
  have:=SlAt.src aE_ hSl (i*2+j) v (by rw [<-hj];exact eF_ aE_ rows i j)
  rw [Addr.add_lit] at this ⊢
  rw [Nat.zero_add] at this
  exact bcell hB2 this
 dsimp only
 refine hK.out _ _ trivial (fun hHeld=>?_)
 clear hK K
 try simp only [Act.put,lsA,lsB,lsC]
 refine wpAnyH_done (by kernel_rfl) ?_ _
 have hB3:Below w.heap.size w w3:=am_ (chain hB2 (Below.refl _ _).drew) hg3 (Nat.le_refl _)
 have R3:=bn_ (l:=rows.take i++[x]++rows.drop i) (n:=cap+1) (cap:=G) aE_ D3 hbl.out.1 (lL_ hbl.out.2 (Nat.le_of_lt hi)) hGn hGm (by rw [List.size_toArray];exact hC.out.2.2.2.2.1) hC.out.2.2.2.2.2
 clear D3 D2 hg3 hs3 hS0 hHeld
 have hG3:w.grownBy w3 (Value.ownBlock (.slice (some ⟨b,0,none⟩) cap cap)):=⟨hB3.os,hB3.tape,hB3.output,hB3.size,fun k hk _=>hB3.block k hk⟩
 go_wp2
 go_returns
 exact ⟨⟨_,G,rfl,R3⟩,hG3⟩
theorem eH_ (B b n cap i vb:Nat) (rows:List Hr) (x:Hr) (w:World) (R:ResAt hrs 2 253 w B (some ⟨b,0,none⟩) n cap rows) (hv:Blk w vb (hrs x).toArray 253) (hvb:vb≠b) (hn:n<=4194304) (hi:i<n) (hcap:n+1<=cap) :
  Calls Tryz.prog 306 #[.slice (some ⟨b,0,none⟩) n cap,.int .i64 i,.slice (some ⟨vb,0,none⟩) 1 1] w fun e w'=>(∃ a' cap',e=.returned (.slice a' (n+1) cap')∧ResAt hrs 2 253 w' B a' (n+1) cap' (rows.take i++[x]++rows.drop i))∧w.grownBy w' (Value.ownBlock (.slice (some ⟨b,0,none⟩) n cap)):=by
 have hlen:=R.sl.len
 rcases R.own with ⟨h0,_⟩ | ⟨b',ha,hBb,_,hcm,c,hb,hc,ht⟩
 ·cases h0
 cases ha
 obtain ⟨L,rfl⟩:∃ L:List Value,c=L.toArray:=⟨c.toList,by simp⟩
 have hC:=pE_ (cs:=hrs) (x:=x) (L:=L) aE_ hlen (Nat.le_of_lt hi) (by simpa using hc) hcap (by simpa using ht)
 replace hC:Hid _:=hC
 have hov:∀ lb cb,(callFunc 310 #[.slice (some ⟨vb,0,none⟩) 1 1,.slice (some ⟨b,(i+1)*2,none⟩) lb cb]).run Tryz.prog w=.ok (.value (.bool false)) w:=fun lb cb=>by
  rw [run_callFunc_extern Tryz.func310 (by kernel_rfl) (by kernel_rfl) (by kernel_rfl) (e:=Extern.SlicesOverlaps.overlaps #[205,205] #[4]) (by kernel_rfl),
   Lib.run_overlaps_apart w 205 4 253 Tryz.underlying205 2 Tryz.sizeOf253 ⟨vb,0,none⟩ ⟨b,(i+1)*2,none⟩ 1 1 lb cb hvb 253 253 (hrs x).toArray.size L.toArray.size (by unfold Blk at hv;simp [World.shape?,hv]) (by unfold Blk at hb;simp [World.shape?,hb]) (by rw [hc];omega) (hv.frozen _) (hv.frozen _)]
  rfl
 have hz1:¬ ((1:Int)=0):=by omega
 have hz2:¬ ((i:Int)=(n:Int)):=by omega
 have hz3:¬ (cap:Int)<(n:Int)+1:=by omega
 have hci:¬ (cap=i):=by omega
 have hcim:¬ (cap=i+1):=by omega
 have hw1:IntKind.i64.wrap ((i:Int)+1)=(i:Int)+1:=by rw [IntKind.wrap_i64];omega
 have hb1:(0:Int)<=(i:Int)+1:=by omega
 have hin:i<=n:=by omega
 have htn:((i:Int)+1).toNat=i+1:=by omega
 have hb3:(i:Int)<=(n:Int):=by omega
 have hb4:(i:Int)<=(n:Int)+1:=by omega
 have hcap63:cap<=9223372036854775807:=by unfold maxLen at hcm;omega
 have hSl:=R.sl
 have hone1:∀ v∈hrs x,v.oneCell'=true:=fun v hv=>ds_ [x] v (by simpa using hv)
 have hone2:∀ v∈(rows.drop i).flatMap hrs,v.oneCell'=true:=ds_ _
 have hbl:Hid (B<=b∧rows.length=n∧n+1<=cap∧cap<=maxLen):=⟨hBb,hlen,hcap,hcm⟩
 clear R hlen ht hc hBb hcm
 go_enter Tryz.func306,Tryz.ntmps306
 go_wp2_with (simp only [hov])
 clear hov
 have hS0:(fun _=>True) w.drew:=trivial
 refine ad_ (S:=(fun _=>True)) 9 (by kernel_rfl) rfl ?_
 refine tk 0 ?_
 refine tk 1 ?_
 refine tk 2 ?_
 refine tk 3 ?_
 refine tk 4 ?_
 refine tk 5 ?_
 refine tk 6 ?_
 refine tk 7 ?_
 refine oneL (i:=8) (by kernel_rfl) rfl (fun K hK=>?_)
 refine aD_ rfl (jT_ _ _ 205 205 253 2 rfl Tryz.underlying205 du_ b ((i+1)*2) (n-i) (cap-(i+1)) ⟨b,i*2,none⟩ (n+1-i) (cap-i) rfl rfl L 253 hb.drew ((rows.drop i).flatMap hrs) (n-i) (by simp only [Nat.min_def];split<;>omega) hC.out.2.2.2.1 (fun j v hj=>?src) hC.out.1 hone2 (fun w2 D2 hg2 hs2=>?_))
 case src=>
  have:=SlAt.src aE_ hSl (i*2+j) v (by rw [<-hj];exact eF_ aE_ rows i j)
  rw [Addr.add_lit] at this ⊢
  rw [Nat.zero_add] at this
  exact this
 dsimp only
 refine hK.out _ _ trivial (fun hHeld=>?_)
 clear hK K
 try simp only [Act.put,lsA,lsB,lsC]
 refine wpAnyH_done (by kernel_rfl) ?_ _
 have hg2':w.grownBy w2 (some b):=eP_ (aP_ (World.grownBy.refl _ _) (Below.refl _ _).drew) hg2
 have hv2:=hv.grown hg2' hvb
 clear hg2 hs2 hS0 hHeld
 obtain ⟨w3,hcp,D3,hg3,hs3⟩:=lK_ (P:=Tryz.prog) w2 205 205 253 2 b (i*2) (n+1-i) (cap-i) ⟨vb,0,none⟩ 1 1 _ 253 (hrs x) 1 Tryz.underlying205 du_ D2 (by simp only [Nat.min_def];split<;>omega) (by rw [aE_,Nat.one_mul]) (fun j v hj=>by rw [Addr.add_lit];exact (hv2.cell _).trans (by simpa using hj)) hC.out.2.2.1 hone1
 go_wp2_with (at_builtin;refine ei_ _ rfl _ _ 205 205 rfl _ _ rfl rfl (hcp _) ?_)
 clear hcp
 have hG3:w.grownBy w3 (some b):=eP_ hg2' hg3
 have R3:=bn_ (l:=rows.take i++[x]++rows.drop i) (n:=n+1) (cap:=cap) aE_ D3 hbl.out.1 (lL_ hbl.out.2.1 (Nat.le_of_lt hi)) hbl.out.2.2.1 hbl.out.2.2.2 (by rw [List.size_toArray];exact hC.out.2.2.2.2.1) hC.out.2.2.2.2.2
 clear D3 D2 hg3 hs3
 go_returns
 exact ⟨⟨_,cap,rfl,R3⟩,hG3⟩
theorem jV_ (B:Nat) (a:Option Addr) (n cap i vb:Nat) (rows:List Hr) (x:Hr) (w:World) (R:ResAt hrs 2 253 w B a n cap rows) (hv:Blk w vb (hrs x).toArray 253) (hvb:∀ ad,a=some ad->vb≠ad.block) (hn:n<=4194304) (hBw:B<=w.heap.size) (hi:i<=n) :
  Calls Tryz.prog 306 #[.slice a n cap,.int .i64 i,.slice (some ⟨vb,0,none⟩) 1 1] w fun e w'=>(∃ a' cap',e=.returned (.slice a' (n+1) cap')∧ResAt hrs 2 253 w' B a' (n+1) cap' (rows.take i++[x]++rows.drop i))∧w.grownBy w' (Value.ownBlock (.slice a n cap)):=by
 by_cases hin:i=n
 ·subst hin
  have hl:=R.sl.len
  have:=fc_ B a i cap vb rows x w R hv hn hBw
  rw [List.take_of_length_le (by omega),List.drop_of_length_le (by omega),List.append_nil]
  exact this
 ·rcases R.own with ⟨_,h0,_⟩ | ⟨b,rfl,_,hnc,_⟩
  ·omega
  ·by_cases hc:cap=n
   ·exact eG_ B b n cap i vb rows x w R hv hn hBw (by omega) hc
   ·exact eH_ B b n cap i vb rows x w R hv (hvb _ rfl) hn (by omega) (by omega)
theorem ej_ {α:Type} {l:List α} {x:α} {p:Nat} (hp:p<=l.length) {i:Nat} {z:α} (h:(l.take p++[x]++l.drop p)[i]?=some z):(i<p∧l[i]?=some z)∨(i=p∧z=x)∨(p<i∧l[i-1]?=some z):=by
 have hlt:(l.take p).length=p:=by simp;omega
 rw [List.append_assoc] at h
 by_cases h1:i<p
 ·rw [List.getElem?_append_left (by omega),List.getElem?_take] at h
  exact .inl ⟨h1,by simpa [h1] using h⟩
 ·rw [List.getElem?_append_right (by omega),hlt] at h
  by_cases h2:i=p
  ·rw [h2] at h
   simp at h
   exact .inr (.inl ⟨h2,h.symm⟩)
  ·obtain ⟨k,hk⟩:∃ k,i-p=k+1:=⟨i-p-1,by omega⟩
   rw [hk] at h
   simp only [List.singleton_append,List.getElem?_cons_succ,List.getElem?_drop] at h
   exact .inr (.inr ⟨by omega,by rw [show i-1=p+k by omega];exact h⟩)
/-- One more file, whose pieces lie apart from those of the others. -/
theorem HsT.ins {B:Nat} {w:World} {rows:List Hr} {l:List Hy} {r:Hr} {y:Hy} (h:HsT B w rows l) (p:Nat) (hp:p<=l.length) (hr:HT B w r y) (hap:∀ (i:Nat) q x z,rows[i]?=some q->q.pa=some x->r.pa=some z->x.block≠z.block):HsT B w (rows.take p++[r]++rows.drop p) (l.take p++[y]++l.drop p):=by
 have hp':p<=rows.length:=by rw [h.len];exact hp
 refine ⟨by simp [h.len],fun i q z h1 h2=>?_,fun i j q s x z hij h1 h2 hx hz=>?_⟩
 ·rcases ej_ hp' h1 with ⟨a1,a2⟩ | ⟨a1,a2⟩ | ⟨a1,a2⟩<;>rcases ej_ hp h2 with ⟨b1,b2⟩ | ⟨b1,b2⟩ | ⟨b1,b2⟩<;>first | omega | skip
  ·exact h.at' i q z a2 b2
  ·rw [a2,b2];exact hr
  ·exact h.at' (i-1) q z a2 b2
 ·rcases ej_ hp' h1 with ⟨a1,a2⟩ | ⟨a1,a2⟩ | ⟨a1,a2⟩<;>rcases ej_ hp' h2 with ⟨b1,b2⟩ | ⟨b1,b2⟩ | ⟨b1,b2⟩<;>first | omega | skip
  ·exact h.apart i j q s x z hij a2 b2 hx hz
  ·rw [b2] at hz;exact hap i q x z a2 hx hz
  ·exact h.apart i (j-1) q s x z (by omega) a2 b2 hx hz
  ·rw [a2] at hx;exact fun e=>hap j s z x b2 hz hx e.symm
  ·rw [a2] at hx;exact fun e=>hap (j-1) s z x b2 hz hx e.symm
  ·exact h.apart (i-1) j q s x z (by omega) a2 b2 hx hz
  ·rw [b2] at hz;exact hap (i-1) q x z a2 hx hz
  ·exact h.apart (i-1) (j-1) q s x z (by omega) a2 b2 hx hz
theorem ck_ {a:Option Addr} {n cap x:Nat} (h:∀ ad,a=some ad->x≠ad.block):some x≠Value.ownBlock (.slice a n cap):=by
 cases a with
 |none=>simp [Value.ownBlock]
 |some ad=>have:=h ad rfl;simpa [Value.ownBlock] using this
theorem Blk.grownO {w w':World} {b:Nat} {c:Array Value} {t:TypeId} {row:Option Nat} (h:Blk w b c t) (hg:w.grownBy w' row) (hr:some b≠row):Blk w' b c t:=by
 unfold Blk;rw [hg.block b h.lt hr];exact h
/-- A shelf in memory. -/
def ShAt (B sb:Nat) (w:World) (l:List Hy):Prop:=∃ a n cap rows,Blk w sb #[.slice a n cap] 207∧ResAt hrs 2 253 w B a n cap rows∧HsT B w rows l
theorem ShAt.below {B sb:Nat} {w w':World} {l:List Hy} (h:ShAt B sb w l) (hb:Below w.heap.size w w'):ShAt B sb w' l:=by
 obtain ⟨a,n,cap,rows,h1,h2,h3⟩:=h
 exact ⟨a,n,cap,rows,h1.below hb,h2.below hb,h3.below hb⟩
theorem jW_ (B B0 sb:Nat) (a:Option Addr) (n cap:Nat) (rows:List Hr) (l:List Hy) (r:Hr) (y:Hy) (w:World) (hS:Blk w sb #[.slice a n cap] 207) (R:ResAt hrs 2 253 w B a n cap rows) (T:HsT B w rows l) (hs:SrtH l) (hn:n<=4194303) (hr:HT B w r y)
  (hap:∀ (i:Nat) q x z,rows[i]?=some q->q.pa=some x->r.pa=some z->x.block≠z.block) (h0:B0<=B) (h1:B0<=sb) (hBw:B<=w.heap.size) :
  Calls Tryz.prog 303 #[.pointer (some ⟨sb,0,none⟩),.agg #[.string y.nm,.slice r.pa r.pn r.pc]] w fun e w'=>e=.returned (.tuple #[])∧ShAt B sb w' (putH l y)∧Below B0 w w':=by
 have hlen:l.length=n:=by rw [<-T.len];exact R.sl.len
 have hpl:plH l y.nm<=n:=by rw [<-hlen];unfold plH;exact (List.takeWhile_sublist _).length_le
 have hsb:=hS.lt
 have hA:Below w.heap.size w (w.alloc (.cells #[.string y.nm,.slice r.pa r.pn r.pc] 253)):=(Below.refl _ _).alloc (Nat.le_refl _) _
 have D:=Blk.new w #[.string y.nm,.slice r.pa r.pn r.pc] 253
 have hc:=cP_ B sb a n cap rows l y.nm _ (hS.below hA) (R.below hA) (T.below hA) hs (by omega)
 have hput:Hid (putH l y=l.take (plH l y.nm)++[y]++l.drop (plH l y.nm)):=rfl
 have hrow:Hid (hrs r=[.string y.nm,.slice r.pa r.pn r.pc]):=by show _=_;rw [<-hr.nm];rfl
 generalize plH l y.nm=p at *
 have hG:∀ u,Below w.heap.size w u->Blk u sb #[.slice a n cap] 207∧ResAt hrs 2 253 u B a n cap rows∧HsT B u rows l∧HT B u r y:=fun u hu=>⟨hS.below hu,R.below hu,T.below hu,hr.below hu⟩
 have hba:∀ ad,a=some ad->ad.block<w.heap.size:=fun ad e=>(R.block ad e).2
 have hbB:∀ ad,a=some ad->B<=ad.block:=fun ad e=>(R.block ad e).1
 have hapH:Hid (∀ (i:Nat) q x z,rows[i]?=some q->q.pa=some x->r.pa=some z->x.block≠z.block):=hap
 have hlenH:Hid (l.length=n):=hlen
 clear hS R T hs hr hap hlen
 obtain ⟨rn,pa,pn,pc⟩:=r
 simp only at D hA hc hrow ⊢
 go_enter Tryz.func303,Tryz.ntmps303
 go_wp2_with fail
 refine hc.mono ?_
 rintro e w1 ⟨rfl,hB1⟩
 have D1:=D.below hB1
 have hB2:=chain hA hB1
 clear hc D hA hB1
 obtain ⟨S1,R1,T1,N1⟩:=hG w1 hB2
 clear hG
 have hw1:=D1.lt
 have x0:=S1.one
 have z0:=D1.cell 0
 have z1:=D1.cell 1
 simp only [lgA,lgB,lgC] at z0 z1
 go_wp2_with fail
 have hS0:(fun u=>u.cell? ⟨sb,0,none⟩=some (.slice a n cap)∧u.cell? ⟨w.heap.size,0,none⟩=some (.string y.nm)∧u.cell? ⟨w.heap.size,1,none⟩=some (.slice pa pn pc)) w1.drew:=⟨x0,z0,z1⟩
 refine ax_ (S:=(fun u=>u.cell? ⟨sb,0,none⟩=some (.slice a n cap)∧u.cell? ⟨w.heap.size,0,none⟩=some (.string y.nm)∧u.cell? ⟨w.heap.size,1,none⟩=some (.slice pa pn pc))) 11 (by kernel_rfl) (by kernel_rfl) ?_
 refine tk 0 ?_
 refine tk 1 ?_
 refine tk 2 ?_
 refine tk 3 ?_
 refine tk 4 ?_
 refine tk 5 ?_
 refine tk 6 ?_
 refine oneL (i:=7) (by kernel_rfl) rfl (fun K hK=>?_)
 go_simp
 have hA2:Below w1.heap.size w1 ((w1.alloc (.cells #[.string y.nm,.slice pa pn pc] 253)).drew):=((Below.refl _ _).alloc (Nat.le_refl _) _).drew
 have V2:Blk ((w1.alloc (.cells #[.string y.nm,.slice pa pn pc] 253)).drew) w1.heap.size (hrs ⟨rn,pa,pn,pc⟩).toArray 253:=by rw [hrow.out];exact (Blk.new w1 _ _).drew
 have S2:=S1.below hA2
 have R2:=R1.below hA2
 have T2:=T1.below hA2
 have N2:=N1.below hA2
 have D2:=D1.below hA2
 have hB3:=chain hB2 hA2
 have hw3:=hB3.size
 refine hK.out _ _ ⟨S2.one,D2.cell 0,D2.cell 1⟩ (fun hHeld=>?_)
 clear hK K
 try simp only [Act.put,lsA,lsB,lsC]
 generalize hW2:(w1.alloc (.cells #[.string y.nm,.slice pa pn pc] 253)).drew=W2 at *
 clear hW2
 refine oneL (i:=8) (by kernel_rfl) rfl (fun K hK=>?_)
 go_simp
 refine (jV_ B a n cap p w1.heap.size rows ⟨rn,pa,pn,pc⟩ W2 R2 V2 (fun ad e=>by have:=hba ad e;omega) (by omega) (by omega) hpl).mono ?_
 rintro e w3 ⟨⟨a3,c3,rfl,R3⟩,hg3⟩
 have hty:=R2.rowTy (m:=n) (k:=cap)
 have S3:=S2.ty hg3 hty (by decide)
 have T3:=T2.ty hg3 hty (by decide)
 have N3:=N2.ty hg3 hty (by decide)
 have D3:=D2.grownO hg3 (ck_ fun ad e=>by have:=hba ad e;omega)
 have hB4:Below B0 w w3:=Below.grown (hB3.mono (show B0<=w.heap.size by omega)) hg3 (by have:=hB3.size;omega) (aI_ fun ad e=>by have:=hbB ad e;omega)
 dsimp only
 refine hK.out _ _ ⟨S3.one,D3.cell 0,D3.cell 1⟩ (fun hHeld=>?_)
 clear hK K
 try simp only [Act.put,lsA,lsB,lsC]
 refine tk 9 ?_
 refine tk 10 ?_
 refine wpAnyH_done (by kernel_rfl) ?_ _
 refine lastL rfl ?_
 clear S2 R2 T2 N2 D2 V2 hty hg3 hHeld hS0 x0 z0 z1 D1 S1 R1 T1 N1
 have y0:=S3.one
 have y1:=S3.frozen 0
 go_wp2
 have hg4:w3.grownBy (w3.setCell ⟨sb,0,none⟩ (.slice a3 (n+1) c3)) (some sb):=ac_ (World.grownBy.refl _ _) _ _
 have S4:Blk (w3.setCell ⟨sb,0,none⟩ (.slice a3 (n+1) c3)) sb #[.slice a3 (n+1) c3] 207:=by simpa using S3.set 0 (.slice a3 (n+1) c3)
 have R4:=R3.ty hg4 (ap_ S3) (by decide)
 have T4:=T3.ty hg4 (ap_ S3) (by decide)
 have N4:=N3.ty hg4 (ap_ S3) (by decide)
 have hw4:=S3.lt
 have hB5:=hB4.grown hg4 (by have:=hB4.size;omega) (fun j e=>by cases e;omega)
 have T5:=T4.ins p (by rw [hlenH.out];exact hpl) N4 hapH.out
 go_returns
 exact ⟨rfl,⟨a3,n+1,c3,_,S4,R4,by rw [hput.out];exact T5⟩,hB5⟩
end Go.Proofs.YtigldeccfpkdmaaGreatDoor
