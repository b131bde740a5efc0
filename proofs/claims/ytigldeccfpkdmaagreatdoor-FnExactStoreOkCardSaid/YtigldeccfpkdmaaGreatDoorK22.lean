/- A right pool has plain names and small numbers; what both read of a text. A contract of the library, laid at this program. The reader of a text; lines and what they hold are short. Regions in which several operations come up in whatever order, each laying memory of its own. Files and ops of a disk, as they lie in memory. The laws' sizes, copies and comparisons of lists of these. -/
import Derived.Test.YtigldeccfpkdmaaGreatDoorK12
import Derived.Test.YtigldeccfpkdmaaGreatDoorK21
import Derived.Test.YtigldeccfpkdmaaGreatDoorProg
import Derived.Shelf.Strings.SplitShaped
import Derived.Test.YtigldeccfpkdmaaGreatDoorK16
import Derived.Test.YtigldeccfpkdmaaGreatDoorK11
import Derived.Test.YtigldeccfpkdmaaGreatDoorK02
import Derived.Test.YtigldeccfpkdmaaGreatDoorK04
namespace Go.Proofs.YtigldeccfpkdmaaGreatDoor
open Go
set_option maxHeartbeats 20000000
set_option maxRecDepth 100000
theorem h6_ {d:ByteArray} (h:nameB d=true):(32:UInt8)∉d.data.toList∧(10:UInt8)∉d.data.toList:=by
 simp only [nameB,Bool.and_eq_true,List.all_eq_true] at h
 exact ⟨fun hm=>by have:=h.2 _ hm;revert this;decide,fun hm=>by have:=h.2 _ hm;revert this;decide⟩
theorem oB_ {d:ByteArray} (h:dataOkB d=true):(10:UInt8)∉d.data.toList:=fun hm=>by
 simp only [dataOkB,plainB,Bool.and_eq_true,List.all_eq_true] at h
 have:=h.2 _ hm
 revert this;decide
theorem hs_ {size:Int}:∀ {l:List Ex} {next:Int},xgo size next l=true->∀ e∈l,dataOkB e.d=true
 |[],_,_=>by simp
 |e::r,next,h=>by
  simp only [xgo,Bool.and_eq_true] at h
  intro x hx
  rcases List.mem_cons.1 hx with rfl | hx
  ·exact h.1.1.1
  ·exact hs_ h.2 x hx
theorem ht_ {next:Int} {e:List Ex}:∀ {l:List Vo} {last:Int},vgo next e last l=true->∀ v∈l,nameB v.nm=true
 |[],_,_=>by simp
 |v::r,last,h=>by
  simp only [vgo,Bool.and_eq_true] at h
  intro x hx
  rcases List.mem_cons.1 hx with rfl | hx
  ·exact h.1.1.2
  ·exact ht_ h.2 x hx
theorem hu_ {e:List Ex}:∀ {l:List It} {q:Option It},igo e q l=true->∀ x∈l,nameB x.nm=true
 |[],_,_=>by simp
 |y::r,q,h=>by
  simp only [igo,Bool.and_eq_true] at h
  intro x hx
  rcases List.mem_cons.1 hx with rfl | hx
  ·exact h.1.1.1
  ·exact hu_ h.2 x hx
theorem nI_ {p:Pt} (h:partOkB p=true) (hn:p.n<=100):Ten p.a∧Ten p.f∧Ten p.n:=by
 unfold partOkB at h
 unfold Ten
 split at h
 ·rename_i ha
  simp only [Bool.and_eq_true,decide_eq_true_eq,beq_iff_eq] at h ha
  omega
 ·simp only [Bool.and_eq_true,decide_eq_true_eq] at h
  omega
theorem nJ_ {c:Ct} (h:ownerOkB c.o=true) (h1:-1000<=c.n) (h2:c.n<=1000):(Ten c.o.a∧Ten c.o.v∧Ten c.n)∧(32:UInt8)∉c.o.f.data.toList∧(10:UInt8)∉c.o.f.data.toList:=by
 simp only [ownerOkB,Bool.and_eq_true,decide_eq_true_eq] at h
 exact ⟨by unfold Ten;omega,h6_ h.2⟩
theorem cN_ {p:Po} (h:poolB p=true):NiceP p:=by
 obtain ⟨v1,v2,v3,v4,_⟩:=jn_ h
 obtain ⟨s1,s2,s3,s4⟩:=iV_ v4
 obtain ⟨r1,r2⟩:=hr_ h
 have hnx:1<=p.next:=by
  simp only [poolB,Bool.and_eq_true,decide_eq_true_eq] at h
  exact h.1.1.1.1.1.2
 have hE:=ew_ s4 (by omega)
 have hV:=ex_ v2 (by omega)
 simp only [refsOkB,Bool.and_eq_true,decide_eq_true_eq] at r1
 simp only [lateOkB,Bool.and_eq_true,decide_eq_true_eq,List.all_eq_true] at r2
 refine ⟨⟨⟨by omega,by omega⟩,⟨by omega,by omega⟩⟩,fun e he=>⟨by have:=hE e he;exact ⟨by omega,by omega⟩,oB_ (hs_ s4 e he)⟩,fun v hv=>?_,fun c hc=>?_⟩
 ·obtain ⟨a1,a2,_,_,a5⟩:=hV v hv
  refine ⟨⟨by omega,by omega⟩,h6_ (ht_ v2 v hv),fun x hx=>⟨h6_ (hu_ a5 x hx),fun t ht=>?_⟩⟩
  obtain ⟨b1,b2⟩:=ey_ a5 x hx
  simp only [partsOkB,Bool.and_eq_true,decide_eq_true_eq] at b2
  exact nI_ (cs_ b2.2 (by omega) t ht).1 (cs_ b2.2 (by omega) t ht).2
 ·rcases List.mem_append.1 hc with hc | hc
  ·have:=dl_ r1.2 c hc
   simp only [refB,Bool.and_eq_true,decide_eq_true_eq] at this
   exact nJ_ this.1.1 (by omega) this.2
  ·have:=r2.2 c hc
   simp only [lateB,Bool.and_eq_true,decide_eq_true_eq] at this
   exact nJ_ this.1.1.1 this.1.1.2 this.1.2
/-- What is read of a text: a right pool's, or none. -/
noncomputable def readO (s:By):Option Po:=open Classical in if h:∃ p,poolB p=true∧s=textW p then some (Classical.choose h) else none
theorem nK_ {p q:Po} (hp:poolB p=true) (hq:poolB q=true) (h:textW p=textW q):p=q:=by
 have h1:=fd_ (cN_ hp)
 rw [h,fd_ (cN_ hq)] at h1
 exact (Option.some.inj h1).symm
theorem lB_ {p:Po} (hp:poolB p=true):readO (textW p)=some p:=by
 unfold readO
 have h:∃ q,poolB q=true∧textW p=textW q:=⟨p,hp,rfl⟩
 rw [dif_pos h]
 exact congrArg some (nK_ hp (Classical.choose_spec h).1 (Classical.choose_spec h).2).symm
theorem fl_ {s:By} (h:∀ p,poolB p=true->s≠textW p):readO s=none:=by
 unfold readO
 rw [dif_neg]
 rintro ⟨p,h1,h2⟩
 exact h p h1 h2
theorem h7_ (s:By):readO s=(readI s).bind fun p=>if poolB p=true then some p else none:=by
 cases hI:readI s with
 |none=>
  refine fl_ fun p hp e=>?_
  subst e
  rw [fd_ (cN_ hp)] at hI
  cases hI
 |some p=>
  have hs:=hV_ hI
  by_cases hp:poolB p=true
  ·rw [Option.bind_some,if_pos hp,hs,lB_ hp]
  ·rw [Option.bind_some,if_neg hp]
   refine fl_ fun q hq e=>?_
   rw [e,fd_ (cN_ hq)] at hI
   obtain rfl:=Option.some.inj hI
   exact hp hq
theorem kF_ {p:Po} (h:textO p≠⟨#[]⟩):poolB p=true∧textO p=bA (textW p):=by
 unfold textO at h ⊢
 split
 ·next hp=>exact ⟨hp,rfl⟩
 ·next hp=>rw [if_neg hp] at h;exact absurd rfl h
theorem lC_ (s:ByteArray) (hs:s.data.toList≠[]):readO s.data.toList=(readM s.data.toList).bind fun p=>if textO p=s then some p else none:=by
 have hne:s≠⟨#[]⟩:=fun e=>hs (by rw [e])
 cases hM:readM s.data.toList with
 |none=>
  refine fl_ fun p hp e=>?_
  rw [e,ln_ (cN_ hp)] at hM
  cases hM
 |some p=>
  rw [Option.bind_some]
  by_cases hp:textO p=s
  ·obtain ⟨h1,h2⟩:=kF_ (p:=p) (by rw [hp];exact hne)
   rw [if_pos hp,<-hp,h2,af_,lB_ h1]
  ·rw [if_neg hp]
   refine fl_ fun q hq e=>?_
   rw [e,ln_ (cN_ hq)] at hM
   obtain rfl:=Option.some.inj hM
   refine hp ?_
   unfold textO
   rw [if_pos hq,<-e]
end Go.Proofs.YtigldeccfpkdmaaGreatDoor
namespace Go.Proofs.YtigldeccfpkdmaaGreatDoor
open Go.Shelf Go.RowKit Go.Lib
set_option maxHeartbeats 20000000
set_option maxRecDepth 100000
def oC_:Go.Shelf.Ren:=⟨fun | 146=>93 | 221=>159 | 268=>199 | 138=>200 | 143=>201 | 195=>231 | 197=>232 | 218=>233 | 219=>191 | 260=>258 | 217=>222 | 225=>223 | 224=>224 | 267=>225 | 266=>251 | 314=>252 | n=>n,fun | 9=>9 | 31=>79 | 3=>3 | 4=>4 | 0=>0 | 105=>288 | 21=>21 | 5=>5 | 46=>172 | 119=>326 | 139=>329 | 138=>328 | 146=>304 | 51=>98 | n=>n,fun | 1=>1 | 3=>5 | 4=>6 | n=>n⟩
theorem spL:Lays.n146 Tryz.prog oC_ where
 mixed:=by kernel_rfl
 f138:=Tryz.func200.trans (congrArg some (by kernel_rfl))
 f143:=Tryz.func201.trans (congrArg some (by kernel_rfl))
 f146:=Tryz.func93.trans (congrArg some (by kernel_rfl))
 f195:=Tryz.func231.trans (congrArg some (by kernel_rfl))
 f197:=Tryz.func232.trans (congrArg some (by kernel_rfl))
 f217:=Tryz.func222.trans (congrArg some (by kernel_rfl))
 f218:=Tryz.func233.trans (congrArg some (by kernel_rfl))
 f219:=Tryz.func191.trans (congrArg some (by kernel_rfl))
 f221:=Tryz.func159.trans (congrArg some (by kernel_rfl))
 f224:=Tryz.func224.trans (congrArg some (by kernel_rfl))
 f225:=Tryz.func223.trans (congrArg some (by kernel_rfl))
 f260:=Tryz.func258.trans (congrArg some (by kernel_rfl))
 f266:=Tryz.func251.trans (congrArg some (by kernel_rfl))
 f267:=Tryz.func225.trans (congrArg some (by kernel_rfl))
 f268:=Tryz.func199.trans (congrArg some (by kernel_rfl))
 f314:=Tryz.func252.trans (congrArg some (by kernel_rfl))
 t0:=Tryz.underlying0
 a0:=Tryz.isAgg0
 z0:=Tryz.sizeOf0
 v0:=Tryz.zeroValue0
 t3:=Tryz.underlying3
 a3:=Tryz.isAgg3
 z3:=Tryz.sizeOf3
 v3:=Tryz.zeroValue3
 t4:=Tryz.underlying4
 a4:=Tryz.isAgg4
 z4:=Tryz.sizeOf4
 v4:=Tryz.zeroValue4
 t5:=Tryz.underlying5
 a5:=Tryz.isAgg5
 z5:=Tryz.sizeOf5
 v5:=Tryz.zeroValue5
 t9:=Tryz.underlying9
 a9:=Tryz.isAgg9
 z9:=Tryz.sizeOf9
 v9:=Tryz.zeroValue9
 t21:=Tryz.underlying21
 a21:=Tryz.isAgg21
 z21:=Tryz.sizeOf21
 v21:=Tryz.zeroValue21
 t31:=Tryz.underlying79
 a31:=Tryz.isAgg79
 z31:=Tryz.sizeOf79
 v31:=Tryz.zeroValue79
 t46:=Tryz.underlying172
 a46:=Tryz.isAgg172
 z46:=Tryz.sizeOf172
 v46:=Tryz.zeroValue172
 t51:=Tryz.underlying98
 a51:=Tryz.isAgg98
 z51:=Tryz.sizeOf98
 v51:=Tryz.zeroValue98
 t105:=Tryz.underlying288
 a105:=Tryz.isAgg288
 z105:=Tryz.sizeOf288
 v105:=Tryz.zeroValue288
 t119:=Tryz.underlying326
 a119:=Tryz.isAgg326
 z119:=Tryz.sizeOf326
 t138:=Tryz.underlying328
 a138:=Tryz.isAgg328
 z138:=Tryz.sizeOf328
 v138:=Tryz.zeroValue328
 t139:=Tryz.underlying329
 a139:=Tryz.isAgg329
 z139:=Tryz.sizeOf329
 v139:=Tryz.zeroValue329
 t146:=Tryz.underlying304
 a146:=Tryz.isAgg304
 z146:=Tryz.sizeOf304
 v146:=Tryz.zeroValue304
 g1:=by kernel_rfl
 g3:=by kernel_rfl
 g4:=by kernel_rfl
end Go.Proofs.YtigldeccfpkdmaaGreatDoor
namespace Go.Proofs.YtigldeccfpkdmaaGreatDoor
open Go Go.RowKit Go.BigFrame
set_option maxHeartbeats 20000000
set_option maxRecDepth 100000
theorem fm_:∀ {ls:List By} {l:By},l∈ls->l.length+1<=(catL ls).length
 |a::ls,l,h=>by
  rw [bU_]
  rcases List.mem_cons.1 h with rfl | h
  ·simp
  ·have:=fm_ h
   simp;omega
theorem fn_:∀ (ls:List By),ls.length<=(catL ls).length
 |[]=>Nat.zero_le _
 |a::ls=>by
  rw [bU_]
  have:=fn_ ls
  simp;omega
theorem cy_ {α β:Type} {f:α->List β}:∀ {l:List α} {x:α},x∈l->(f x).length<=(l.flatMap f).length
 |a::l,x,h=>by
  rcases List.mem_cons.1 h with rfl | h
  ·simp
  ·have:=cy_ (f:=f) h
   simp at this ⊢;omega
theorem c6_ {α β:Type} {f:α->List β}:∀ (l:List α),(∀ x∈l,1<=(f x).length)->l.length<=(l.flatMap f).length
 |[],_=>Nat.zero_le _
 |a::l,h=>by
  have h1:=h a (by simp)
  have h2:=c6_ l (fun x hx=>h x (by simp [hx]))
  simp at h2 ⊢;omega
theorem ca_:∀ {l:List By} {x:By},x∈l->x.length<=(joW l).length
 |[a],x,h=>by simp at h;subst h;exact Nat.le_refl _
 |a::b::l,x,h=>by
  show _<=(a++32::joW (b::l)).length
  rcases List.mem_cons.1 h with rfl | h
  ·simp
  ·have:=ca_ h
   simp;omega
theorem nL_ {p:Po} (h:(textW p).length<=60000):DimP p:=by
 rw [cJ_] at h
 have hc:=fn_ (poLn p)
 have hm:∀ l∈poLn p,l.length<=60000:=fun l hl=>by have:=fm_ hl;omega
 have hL:(poLn p).length<=60000:=by omega
 have hvl:(p.vs.flatMap voLn).length<=60000:=by
  have e:poLn p=joW [poolK,Lib.itoa p.size,Lib.itoa p.next]::(p.ex.map exLn++(p.vs.flatMap voLn++(p.rf.map (ctLn refK)++p.lt.map (ctLn lateK)))):=by simp [poLn]
  rw [e] at hL
  simp only [List.length_cons,List.length_append] at hL
  omega
 have e:poLn p=joW [poolK,Lib.itoa p.size,Lib.itoa p.next]::(p.ex.map exLn++(p.vs.flatMap voLn++(p.rf.map (ctLn refK)++p.lt.map (ctLn lateK)))):=by simp [poLn]
 have hL2:=hL
 rw [e] at hL2
 simp only [List.length_cons,List.length_append,List.length_map] at hL2
 have hw:∀ (x:ByteArray) (l:By),l∈poLn p->x.data.toList.length<=l.length->x.size<=9223372036854775807:=fun x l hl hx=>by
  have:=hm l hl
  rw [Lib.size_eq]
  omega
 have hvm:∀ v∈p.vs,∀ l∈voLn v,l∈poLn p:=fun v hv l hl=>by
  rw [e]
  simp only [List.mem_cons,List.mem_append,List.mem_flatMap]
  exact .inr (.inr (.inl ⟨v,hv,hl⟩))
 refine ⟨by omega,fun x hx=>?_,?_,fun v hv=>⟨?_,?_,fun x hx=>⟨?_,?_⟩⟩,by omega,fun c hc'=>?_,by omega,fun c hc'=>?_⟩
 ·exact hw _ (exLn x) (by rw [e];simp only [List.mem_cons,List.mem_append,List.mem_map];exact .inr (.inl ⟨x,hx,rfl⟩)) (ca_ (l:=[exK,Lib.itoa x.a,x.d.data.toList]) (by simp))
 ·have:=c6_ (f:=voLn) p.vs (fun v _=>by simp [voLn])
  omega
 ·exact hw _ (joW [volK,Lib.itoa v.id,v.nm.data.toList,flagL v.fx]) (hvm v hv _ (by simp [voLn])) (ca_ (by simp))
 ·have h1:=cy_ (f:=voLn) hv
  have h2:=c6_ (f:=itLn) v.its (fun x _=>by simp [itLn])
  have h3:(voLn v).length=1+(v.its.flatMap itLn).length:=by simp [voLn];omega
  omega
 ·exact hw _ (joW [fileK,x.nm.data.toList]) (hvm v hv _ (by simp only [voLn,List.mem_cons,List.mem_flatMap];exact .inr ⟨x,hx,by simp [itLn]⟩)) (ca_ (by simp))
 ·have h1:=cy_ (f:=voLn) hv
  have h2:=cy_ (f:=itLn) hx
  have h3:(voLn v).length=1+(v.its.flatMap itLn).length:=by simp [voLn];omega
  have h4:(itLn x).length=1+x.ps.length:=by simp [itLn];omega
  omega
 ·exact hw _ (ctLn refK c) (by rw [e];simp only [List.mem_cons,List.mem_append,List.mem_map];exact .inr (.inr (.inr (.inl ⟨c,hc',rfl⟩)))) (ca_ (l:=[refK,Lib.itoa c.o.a,Lib.itoa c.o.v,c.o.f.data.toList,Lib.itoa c.n]) (by simp))
 ·exact hw _ (ctLn lateK c) (by rw [e];simp only [List.mem_cons,List.mem_append,List.mem_map];exact .inr (.inr (.inr (.inr ⟨c,hc',rfl⟩)))) (ca_ (l:=[lateK,Lib.itoa c.o.a,Lib.itoa c.o.v,c.o.f.data.toList,Lib.itoa c.n]) (by simp))
theorem jy_ (c:UInt8):∀ (k:Nat) (l:By),(splC c k l).length<=l.length+1
 |0,l=>by simp [splC]
 |k+1,l=>by
  rw [splC]
  cases hc:cutB c l with
  |none=>simp
  |some q=>
   have h1:=jy_ c k q.2
   have h2:=cu_ hc
   simp only [List.length_cons]
   omega
theorem gE_ (s:ByteArray) (w:World) (hs:s.size<=60000) (hG:Glb w) :
  Calls Tryz.prog 39 #[.string s] w fun e w'=>(match lnsB s.data.toList.length s.data.toList with
   |none=>Pan e
   |some ls=>∃ rb,e=.returned (.pointer (some ⟨rb,0,none⟩))∧w.heap.size<=rb∧RdAt w' rb ls∧ls.length<=60000)∧Below w.heap.size w w':=by
 obtain ⟨m,hm⟩:=hG.mx
 have q:=Any.strings_Split spL infT9 s ⟨#[10]⟩ m w (by omega) hm (by decide)
 have hlen:=Lib.splitB_all ⟨#[10]⟩ (by decide) 0 _ s rfl
 rw [<-hlen,hU_,List.length_map] at q
 clear hlen
 obtain ⟨hS1,hS2⟩:=ha_ s.data.toList.length s.data.toList (Nat.le_refl _)
 cases hL:lnsB s.data.toList.length s.data.toList with
 |none=>
  obtain ⟨a,x,e,hx⟩:=hS2 hL
  rw [e] at q
  have hal:(a++[x]).length=a.length+1:=by simp
  rw [hal] at q
  have hal2:a.length<=60000:=by have:=jy_ 10 s.data.toList.length s.data.toList;rw [e,hal] at this;rw [Lib.size_eq] at hs;omega
  go_enter Tryz.func39,Tryz.ntmps39
  go_wp2_with fail
  refine q.mono ?_
  rintro e w1 ⟨rfl,hw1⟩
  have hB1:Below w.heap.size w w1:=by rw [hw1];go_grown
  have LB:Blk w1 w.heap.size (((a++[x]).map bA).map Value.string).toArray 9:=by rw [hw1];exact Blk.new _ _ _
  have c1:w1.cell? ⟨w.heap.size,a.length,none⟩=some (.string (bA x)):=by rw [LB.cell];simp
  have hxe:(bA x).toList.isEmpty=false:=Bool.eq_false_iff.2 fun e=>hx (by rw [ByteArray.toList_eq,af_] at e;exact List.isEmpty_iff.1 e)
  have hxp:¬ (bA x).toList=[]:=fun e=>hx (by rw [ByteArray.toList_eq,af_] at e;exact e)
  obtain ⟨tp,pe,hE⟩:=(hG.below hB1).err
  clear hw1 LB q hS1 hS2 hL hx
  generalize bA x=xx at *
  go_wp2
  exact ⟨rfl,⟨tp,pe,rfl⟩,hB1⟩
 |some ls=>
  have e:=hS1 ls hL
  rw [e] at q
  have hal:(ls++[[]]).length=ls.length+1:=by simp
  rw [hal] at q
  obtain ⟨hc,_⟩:=en_ hL
  have hll:ls.length<=60000:=by have:=fn_ ls;rw [<-hc] at this;rw [Lib.size_eq] at hs;omega
  have hls:∀ l∈ls,l.length<=60000:=fun l hl=>by have:=fm_ hl;rw [<-hc] at this;rw [Lib.size_eq] at hs;omega
  go_enter Tryz.func39,Tryz.ntmps39
  go_wp2_with fail
  refine q.mono ?_
  rintro e w1 ⟨rfl,hw1⟩
  have hB1:Below w.heap.size w w1:=by rw [hw1];go_grown
  have LB:Blk w1 w.heap.size (((ls++[[]]).map bA).map Value.string).toArray 9:=by rw [hw1];exact Blk.new _ _ _
  have c1:w1.cell? ⟨w.heap.size,ls.length,none⟩=some (.string ⟨#[]⟩):=by rw [LB.cell];simp;rfl
  clear hw1 q hS1 hS2 hL
  go_wp2
  have hA:Below w1.heap.size w1 (w1.alloc (.cells #[.slice (some ⟨w.heap.size,0,none⟩) ls.length (ls.length+1)] tRd)):=(Below.refl _ _).alloc (Nat.le_refl _) _
  have RB:=Blk.new w1 #[.slice (some ⟨w.heap.size,0,none⟩) ls.length (ls.length+1)] tRd
  go_returns
  refine ⟨⟨w1.heap.size,rfl,hB1.size,⟨w.heap.size,0,ls.length+1,_,RB,LB.below hA,?_,by omega,by omega,hls⟩,hll⟩,chain hB1 hA⟩
  simp [strV,Function.comp_def]
/-- Two states that differ in these slots alone. -/
structure Agree (D:List Nat) (a0 a:Act):Prop where
 rest:∀ k,k∉D->a.tmps[k]?=a0.tmps[k]?
 size:a.tmps.size=a0.tmps.size
 defers:a.defers=a0.defers
theorem Agree.refl (D:List Nat) (a:Act):Agree D a a:=⟨fun _ _=>rfl,rfl,rfl⟩
theorem Agree.put {D:List Nat} {a0 a:Act} (h:Agree D a0 a) {k:Nat} (v:Value) (hk:k∈D):Agree D a0 (a.put (some k) v):=by
 refine ⟨fun j hj=>?_,by simp [Act.put,h.size],h.defers⟩
 rw [<-h.rest j hj]
 have hne:k≠j:=fun e=>hj (e▸hk)
 simp [Act.put,Array.getElem?_setIfInBounds_ne hne]
theorem Agree.eval {D:List Nat} {a0 a:Act} (h:Agree D a0 a) {k:Nat} (hk:k∉D):a.eval (.tmp k)=a0.eval (.tmp k):=by
 have:=h.rest k hk
 simp only [Act.eval,Array.getD_eq_getD_getElem?,this]
/-- All of them put, one behind the other. -/
def putAll (x:Nat->Value) (D:List Nat) (a:Act):Act:=D.foldl (fun b k=>b.put (some k) (x k)) a
end Go.Proofs.YtigldeccfpkdmaaGreatDoor
namespace Go.Proofs.YtigldeccfpkdmaaGreatDoor
open Go.RowKit
set_option maxHeartbeats 20000000
set_option maxRecDepth 100000
structure Fl where
 nm:ByteArray
 d:ByteArray
def Fl.cs (p:Fl):List Value:=[.string p.nm,.string p.d]
abbrev FlsAt (w:World) (a:Option Addr) (n:Nat) (l:List Fl):Prop:=SlAt Fl.cs 2 w a n l
theorem f1_ (p:Fl):p.cs.length=2:=rfl
theorem nM_ (l:List Fl):∀ u∈l.flatMap Fl.cs,u.oneCell'=true:=by
 intro u hu
 obtain ⟨p,_,hp⟩:=List.mem_flatMap.1 hu
 simp [Fl.cs] at hp
 rcases hp with rfl | rfl<;>rfl
theorem bk_ {w:World} {a:Option Addr} {n:Nat} {l:List Fl} (h:FlsAt w a n l) {k:Nat} (hk:k<n) :
  ∃ b o p,a=some ⟨b,o,none⟩∧l[k]?=some p∧w.cell? ⟨b,o+k*2,none⟩=some (.string p.nm)∧w.cell? ⟨b,o+k*2+1,none⟩=some (.string p.d):=by
 have hl:k<l.length:=by rw [h.len];exact hk
 have hx:l[k]?=some l[k]:=by simp [hl]
 obtain ⟨b,o,ha,hc⟩:=h.cell k _ hx
 exact ⟨b,o,_,ha,hx,hc 0 _ rfl,hc 1 _ rfl⟩
/-- Its texts are texts. -/
def StrF (p:Fl):Prop:=p.nm.size<=9223372036854775807∧p.d.size<=9223372036854775807
def StrsF (l:List Fl):Prop:=∀ p∈l,StrF p
structure Dp where
 k:Int
 nm:ByteArray
 tt:ByteArray
 d:ByteArray
def Dp.cs (p:Dp):List Value:=[.int .i64 p.k,.string p.nm,.string p.tt,.string p.d]
abbrev DpsAt (w:World) (a:Option Addr) (n:Nat) (l:List Dp):Prop:=SlAt Dp.cs 4 w a n l
theorem hv_ {w:World} {a:Option Addr} {n:Nat} {l:List Dp} (h:DpsAt w a n l) {k:Nat} (hk:k<n) :
  ∃ b o p,a=some ⟨b,o,none⟩∧l[k]?=some p∧w.cell? ⟨b,o+k*4,none⟩=some (.int .i64 p.k)∧w.cell? ⟨b,o+k*4+1,none⟩=some (.string p.nm)∧w.cell? ⟨b,o+k*4+2,none⟩=some (.string p.tt)∧w.cell? ⟨b,o+k*4+3,none⟩=some (.string p.d):=by
 have hl:k<l.length:=by rw [h.len];exact hk
 have hx:l[k]?=some l[k]:=by simp [hl]
 obtain ⟨b,o,ha,hc⟩:=h.cell k _ hx
 exact ⟨b,o,_,ha,hx,hc 0 _ rfl,hc 1 _ rfl,hc 2 _ rfl,hc 3 _ rfl⟩
/-- Its texts are texts. -/
def StrD (p:Dp):Prop:=p.nm.size<=9223372036854775807∧p.tt.size<=9223372036854775807∧p.d.size<=9223372036854775807
def StrsD (l:List Dp):Prop:=∀ p∈l,StrD p
end Go.Proofs.YtigldeccfpkdmaaGreatDoor
namespace Go.Proofs.YtigldeccfpkdmaaGreatDoor
open Go.RowKit Go.BigFrame
set_option maxHeartbeats 20000000
set_option maxRecDepth 100000
theorem jz_ (p:Fl) (w:World) :
  Calls Tryz.prog 143 #[.agg #[.string p.nm,.string p.d]] w fun e w'=>e=.returned (.agg #[.string p.nm,.string p.d])∧Below w.heap.size w w':=by
 obtain ⟨nm,d⟩:=p
 go_enter Tryz.func143,Tryz.ntmps143
 go_wp2
 go_returns
 go_light
 refine ⟨rfl,by go_grown⟩
def eqFl (p q:Fl):Bool:=p.nm.toList==q.nm.toList&&p.d.toList==q.d.toList
theorem jA_ (p q:Fl) (w:World) :
  Calls Tryz.prog 145 #[.agg #[.string p.nm,.string p.d],.agg #[.string q.nm,.string q.d]] w fun e w'=>e=.returned (.bool (eqFl p q))∧Below w.heap.size w w':=by
 obtain ⟨nm1,d1⟩:=p
 obtain ⟨nm2,d2⟩:=q
 go_enter Tryz.func145,Tryz.ntmps145
 go_wp2
 all_goals go_returns
 all_goals go_light
 all_goals refine ⟨?_,by go_grown⟩
 all_goals simp_all [eqFl]
/-- All bytes of it. -/
def bytesF (p:Fl):Nat:=p.nm.size+p.d.size
def szF (left:Int) (p:Fl):Int:=if left-bytesF p<0 then -1 else left-bytesF p
theorem e0_ (p:Fl) (left:Int) (w:World) (h0:0<=left) (h1:left<=1048576) (hd:StrF p) :
  Calls Tryz.prog 135 #[.agg #[.string p.nm,.string p.d],.int .i64 left] w fun e w'=>e=.returned (.int .i64 (szF left p))∧Below w.heap.size w w':=by
 obtain ⟨nm,d⟩:=p
 obtain ⟨gnm,gd⟩:=hd
 simp only at gnm gd
 by_cases h_nm:left-(nm.size:Int)<0
 ·have hf:Hid (szF left ⟨nm,d⟩=-1):=by show _=_;simp [szF,bytesF];omega
  go_enter Tryz.func135,Tryz.ntmps135
  go_wp2
  go_returns
  go_light
  exact ⟨aA_ hf.out.symm,by go_grown⟩
 by_cases h_d:left-(nm.size:Int)-(d.size:Int)<0
 ·have hf:Hid (szF left ⟨nm,d⟩=-1):=by show _=_;simp [szF,bytesF];omega
  go_enter Tryz.func135,Tryz.ntmps135
  go_wp2
  go_returns
  go_light
  exact ⟨aA_ hf.out.symm,by go_grown⟩
 have hf:Hid (szF left ⟨nm,d⟩=left-(nm.size:Int)-(d.size:Int)):=by show _=_;simp [szF,bytesF];omega
 go_enter Tryz.func135,Tryz.ntmps135
 go_wp2
 go_returns
 go_light
 exact ⟨aA_ hf.out.symm,by go_grown⟩
/-- A list that is within the budget. -/
def SmallF (n:Nat) (l:List Fl):Prop:=n<=1048576∧∀ e∈l,bytesF e<=1048576
theorem SmallF.strs {n:Nat} {l:List Fl} (h:SmallF n l):StrsF l:=fun e he=>by
 have:=h.2 e he
 unfold bytesF at this
 exact ⟨by omega,by omega⟩
theorem d9_ (a:Option Addr) (n cap:Nat) (l:List Fl) (L:Int) (w:World) (h:FlsAt w a n l) (hstr:StrsF l) (hn:n<=9223372036854775807) (hL0:0<=L) (hL:L<=1048576) :
  Calls Tryz.prog 68 #[.slice a n cap,.int .i64 L] w fun e w'=>(∃ r:Int,e=.returned (.int .i64 r)∧(r=-1∨(0<=r∧r<=1048576∧SmallF n l)))∧Below w.heap.size w w':=by
 have hlen:Hid (l.length=n):=h.len
 by_cases hb:L-(n:Int)<0
 ·go_enter Tryz.func68,Tryz.ntmps68
  go_wp2
  go_returns
  go_light
  exact ⟨⟨_,rfl,.inl rfl⟩,Below.refl _ _⟩
 ·go_enter Tryz.func68,Tryz.ntmps68
  go_wp2_with fail
  go_loopw [1,5] (fun lf ix wr=>∃ (k:Nat) (r:Int),k<=n∧ix=.int .i64 k∧lf=.int .i64 r∧0<=r∧r<=1048576∧Hid (∀ i e,i<k->l[i]?=some e->bytesF e<=1048576)∧Below w.heap.size w wr) (fun _ ix _=>n-(intOf ix).toNat)
  case atStart=>exact ⟨0,_,Nat.zero_le _,rfl,rfl,by omega,by omega,fun i e hi=>by omega,Below.refl _ _⟩
  case round=>
   obtain ⟨k,r,hk,rfl,rfl,hr0,hr1,hI,hB⟩:=hrel
   by_cases hlt:k<n
   ·obtain ⟨b,o,p,rfl,hp,c0,c1⟩:=bk_ (h.below hB) hlt
    have hp':Hid (l[k]?=some p):=hp
    have hsz:=hstr p (List.mem_of_getElem? hp)
    clear hp
    by_cases hs:r-(bytesF p:Int)<0
    ·have hf:Hid (szF r p=-1):=by show _=_;simp [szF];omega
     go_wp2_with fail
     refine (e0_ p r _ hr0 hr1 hsz).mono ?_
     rintro e w1 ⟨rfl,hB1⟩
     rw [hf.out]
     go_wp2
     go_returns
     go_light
     exact ⟨⟨_,rfl,.inl rfl⟩,chain hB hB1⟩
    ·have hf:Hid (szF r p=r-bytesF p):=by show _=_;simp [szF];omega
     go_wp2_with fail
     refine (e0_ p r _ hr0 hr1 hsz).mono ?_
     rintro e w1 ⟨rfl,hB1⟩
     rw [hf.out]
     have hbp:Hid (bytesF p<=1048576):=by show _<=_;omega
     have hr2:0<=r-(bytesF p:Int):=by omega
     have hr3:r-(bytesF p:Int)<=1048576:=by omega
     generalize r-(bytesF p:Int)=r' at *
     go_wp2
     go_roundw
     case rel=>
      refine ⟨k+1,r',by omega,by go_num,rfl,by omega,by omega,?_,chain hB hB1⟩
      intro i e hi he
      by_cases hik:i=k
      ·subst hik
       rw [hp'.out] at he
       obtain rfl:=Option.some.inj he
       exact hbp.out
      ·exact hI.out i e (by omega) he
     case measure=>simp [intOf];omega
   ·obtain rfl:k=n:=by omega
    go_wp2
    go_returns
    go_light
    refine ⟨⟨_,rfl,.inr ⟨hr0,hr1,by omega,?_⟩⟩,hB⟩
    intro e he
    obtain ⟨i,hi⟩:=List.mem_iff_getElem?.1 he
    refine hI.out i e ?_ hi
    have:=(List.getElem?_eq_some_iff.1 hi).1
    rw [hlen.out] at this;exact this
def eqFls:List Fl->List Fl->Bool
 |[],[]=>true
 |p::r,q::s=>eqFl p q&&eqFls r s
 |_,_=>false
theorem kG_ (l:List Fl):eqFls l l=true:=by
 induction l with
 |nil=>rfl
 |cons p r ih=>simp [eqFls,eqFl,ih]
theorem ez_ {l:List Fl}:∀ {m:List Fl},l.length≠m.length->eqFls l m=false:=by
 induction l with
 |nil=>intro m h;cases m<;>simp [eqFls] at *
 |cons p r ih=>intro m h;cases m<;>simp [eqFls] at *;exact fun _=>ih h
theorem ea_ (a:Option Addr) (n cap:Nat) (l:List Fl) (a':Option Addr) (n' cap':Nat) (m:List Fl) (w:World) (h:FlsAt w a n l) (h':FlsAt w a' n' m) (hn:n<=4194304) (hn':n'<=4194304) :
  Calls Tryz.prog 76 #[.slice a n cap,.slice a' n' cap'] w fun e w'=>e=.returned (.bool (eqFls l m))∧Below w.heap.size w w':=by
 have hlen:Hid (l.length=n):=h.len
 have hlen':Hid (m.length=n'):=h'.len
 by_cases hne:n=n'
 ·subst hne
  have hbn:((n:Int) != (n:Int))=false:=by simp
  go_enter Tryz.func76,Tryz.ntmps76
  go_wp2_with fail
  go_loopw [5] (fun ix wr=>∃ (k:Nat),k<=n∧ix=.int .i64 k∧Hid (eqFls l m=eqFls (l.drop k) (m.drop k))∧Below w.heap.size w wr) (fun ix _=>n-(intOf ix).toNat)
  case atStart=>exact ⟨0,Nat.zero_le _,rfl,rfl,Below.refl _ _⟩
  case round=>
   obtain ⟨k,hk,rfl,hI,hB⟩:=hrel
   by_cases hlt:k<n
   ·obtain ⟨b,o,p,rfl,hp,c0,c1⟩:=bk_ (h.below hB) hlt
    obtain ⟨b',o',q,rfl,hq,d0,d1⟩:=bk_ (h'.below hB) hlt
    have hd:Hid (l.drop k=p::l.drop (k+1)):=aj_ hp
    have hd':Hid (m.drop k=q::m.drop (k+1)):=aj_ hq
    clear hp hq
    have hk1:(k:Int)<n:=by omega
    have hk2:(0:Int)<=k:=by omega
    cases hpq:eqFl p q
    all_goals
     go_wp2_with fail
     have g0:=gcell c0
     have j0:=gcell d0
     have g1:=gcell c1
     have j1:=gcell d1
     have hne:=aq_ wr
     refine aa_ (by kernel_rfl) (by kernel_rfl) ?_
     repeat (go_big_quiet_step (first | (go_at_call 145;have qq:=jA_ p q;rw [hpq] at qq;exact ag_ (qq _))))
     refine wpQuiet_nil ?_
     intro w2 hx
     have hB2:=ae_ hx
     clear hx
     go_wp2
    ·go_returns
     go_light
     refine ⟨ab_ ?_,chain hB hB2⟩
     rw [hI.out,hd.out,hd'.out];simp only [eqFls,hpq,Bool.false_and]
    ·go_roundw
     case rel=>exact ⟨k+1,by omega,by go_num,by show _=_;rw [hI.out,hd.out,hd'.out];simp only [eqFls,hpq,Bool.true_and],chain hB hB2⟩
     case measure=>simp [intOf];omega
   ·obtain rfl:k=n:=by omega
    go_wp2
    go_returns
    go_light
    refine ⟨ab_ ?_,hB⟩
    rw [hI.out,List.drop_of_length_le (Nat.le_of_eq hlen.out),List.drop_of_length_le (Nat.le_of_eq hlen'.out)];rfl
 ·have hbn:((n:Int) != (n':Int))=true:=by simp;omega
  go_enter Tryz.func76,Tryz.ntmps76
  go_wp2
  go_returns
  go_light
  refine ⟨ab_ ?_,Below.refl _ _⟩
  rw [ez_ (by rw [hlen.out,hlen'.out];exact hne)]
theorem eb_ (a:Option Addr) (n cap:Nat) (l:List Fl) (w:World) (h:FlsAt w a n l) (hn:n<=4194304) :
  Calls Tryz.prog 72 #[.slice a n cap] w fun e w'=>e=.returned (.slice (some ⟨w.heap.size,0,none⟩) n n)∧OwnAt Fl.cs 2 123 w' w.heap.size n l∧Below w.heap.size w w':=by
 have hlen':Hid (l.length=n):=h.len
 have hinfo:(Tryz.prog.info? 123).map (fun i=>(i.zero,i.size,i.bytes))=some (some (.agg #[.string .empty,.string .empty]),2,32):=by kernel_rfl
 obtain ⟨i0,hi,hz0,hz1,hz2⟩:=info_parts hinfo
 have hmk:∀ u:World,(Instr.makeSlice 49 (.int .i64 (n:Int)) (.int .i64 (n:Int))).run Tryz.prog u =
   .ok (.slice (some ⟨u.heap.size,0,none⟩) n n) (u.alloc (.cells (madeCells #[.string .empty,.string .empty] (n*2)) 123)):=fun u=>by
  have hm:=run_make (P:=Tryz.prog) u 49 123 i0 (.agg #[.string .empty,.string .empty]) Tryz.underlying49 hi hz0 .i64 .i64 (n:Int) (n:Int) (by omega) (Int.le_refl _) (by rw [hz2];omega) (by omega)
  simpa [hz1,Value.cells] using hm
 clear hinfo hi hz0 hz1 hz2
 go_enter Tryz.func72,Tryz.ntmps72
 go_wp2_with fail
 go_loopw [4] (fun ix wr=>∃ (k:Nat) (c:Array Value),k<=n∧ix=.int .i64 k∧Blk wr w.heap.size c 123∧Hid (c.size=n*2)∧Hid (∀ i p,i<k->l[i]?=some p->c[i*2]?=some (.string p.nm)∧c[i*2+1]?=some (.string p.d))∧Below w.heap.size w wr) (fun ix _=>n-(intOf ix).toNat)
 case atStart=>exact ⟨0,_,Nat.zero_le _,rfl,Blk.new _ _ _,size_madeCells _ _,fun i p hi=>by omega,(Below.refl _ _).alloc (Nat.le_refl _) _⟩
 case round=>
  obtain ⟨k,c,hk,rfl,hblk,hcs,hcc,hB⟩:=hrel
  by_cases hlt:k<n
  ·obtain ⟨b,o,p,rfl,hp,c0,c1⟩:=bk_ (h.below hB) hlt
   have hp':Hid (l[k]?=some p):=hp
   clear hp hmk
   go_wp2_with fail
   refine (jz_ p _).mono ?_
   rintro e w1 ⟨rfl,hB1⟩
   have hb1:=hblk.below hB1
   have hsz:=hB.size
   have f0:=hb1.frozen (k*2)
   obtain ⟨v0,y0⟩:=hb1.has (i:=k*2) (by rw [hcs.out];omega)
   have f1:=hb1.frozen (k*2+1)
   obtain ⟨v1,y1⟩:=hb1.has (i:=k*2+1) (by rw [hcs.out];omega)
   go_wp2
   go_roundw
   case rel=>
    refine ⟨k+1,_,by omega,by go_num,((hb1.set _ _).set _ _),by show _=_;simp [hcs.out],?_,?_⟩
    ·intro i q hi hq
     have hcs':=hcs.out
     by_cases hik:i=k
     ·subst hik
      obtain rfl:p=q:=by rw [hp'.out] at hq;exact Option.some.inj hq
      refine ⟨?_,?_⟩
      all_goals (simp [Array.getElem?_setIfInBounds];omega)
     ·obtain ⟨r0,r1⟩:=hcc.out i q (by omega) hq
      refine ⟨?_,?_⟩
      all_goals (rw [Array.getElem?_setIfInBounds_ne (by omega),Array.getElem?_setIfInBounds_ne (by omega)];assumption)
    ·exact (((chain hB hB1).setCell (by simp) _).setCell (by simp) _)
   case measure=>simp [intOf];omega
  ·obtain rfl:k=n:=by omega
   go_wp2
   go_returns
   go_light
   refine ⟨rfl,⟨hlen'.out,c,hblk,Nat.le_of_eq hcs.out.symm,?_⟩,hB⟩
   intro i x hx j v hv
   have hi:i<k:=by have:=(List.getElem?_eq_some_iff.1 hx).1;rw [hlen'.out] at this;exact this
   obtain ⟨r0,r1⟩:=hcc.out i x hi hx
   match j,hv with
   |0,hv=>obtain rfl:=Option.some.inj hv;exact r0
   |1,hv=>obtain rfl:=Option.some.inj hv;exact r1
   |j+2,hv=>simp [Fl.cs] at hv
end Go.Proofs.YtigldeccfpkdmaaGreatDoor
