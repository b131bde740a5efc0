/- Volumes of the model: l4Vol. Right pools, as plain functions: what the model asks in its rounds is what a right pool is. Counts that are the same, and extents that somebody names, by the model. The laws' sizes of lists of items and volumes. The laws' copies of lists of items and volumes. The laws' copies of volumes. The laws' comparisons of lists of items and volumes, where they are the same. How the laws' arguments, as they are read, lie in memory: lists of extents. The laws' sizes, copies and comparisons of pools. -/
import Derived.Test.YtigldeccfpkdmaaGreatDoorProg
import Derived.Test.YtigldeccfpkdmaaGreatDoorK13
import Derived.Test.YtigldeccfpkdmaaGreatDoorK08
import Derived.Test.YtigldeccfpkdmaaGreatDoorK04
import Derived.Laws.StructEq
import Derived.Test.YtigldeccfpkdmaaGreatDoorK06
import Derived.Test.YtigldeccfpkdmaaGreatDoorK00
import Derived.Test.YtigldeccfpkdmaaGreatDoorK07
import Derived.Lib.SmallJoins
namespace Go.Proofs.YtigldeccfpkdmaaGreatDoor
open Go.RowKit Go.BigFrame
set_option maxHeartbeats 20000000
set_option maxRecDepth 100000
def prevI (l:List It) (k:Nat):Option It:=if k=0 then none else l[k-1]?
theorem fP_ (l:List It) (k:Nat):prevI l (k+1)=l[k]?:=by simp [prevI]
theorem hZ_ {ps:List Pt} {e:List Ex} (h:spaceOkB 400 e=true):(contentO ps e).isSome=(partsOkB ps&&(cgo e ⟨#[]⟩ ps).isSome):=by
 unfold contentO
 cases hp:partsOkB ps<;>simp [h]
theorem ky_ (B:Nat) (v:Vo) (pa:Option Addr) (pn pc:Nat) (ea:Option Addr) (en ec:Nat) (e:List Ex) (w:World) (h:ItsAt B w pa pn v.its) (he:ExsAt w ea en e) (hstr:Strs e) (hen:en<=4194304) (hsp:spaceOkB 400 e=true) (hnm:v.nm.size<=9223372036854775807) (hpn:pn<=4194304) (hI:StrI v.its) :
  Calls Tryz.prog 116 #[.agg #[.int .i64 v.id,.string v.nm,.bool v.fx,.slice pa pn pc],.slice ea en ec] w fun x w'=>x=.returned (.bool (nameB v.nm&&itemsB v.its e))∧Below w.heap.size w w':=by
 obtain ⟨id,nm,fx,its⟩:=v
 simp only at h hnm hI ⊢
 have hlen:Hid (its.length=pn):=h.len
 cases hn1:nameB nm
 ·go_enter Tryz.func116,Tryz.ntmps116
  go_wp2_with fail
  refine (bH_ nm _ hnm).mono ?_
  rintro x w1 ⟨rfl,rfl⟩
  rw [hn1]
  go_wp2
  go_returns
  exact ⟨rfl,by go_grown⟩
 ·have hR:Hid ((true&&itemsB its e)=(decide (its.length<=5)&&igo e none its)):=by show _=_;rw [Bool.true_and];rfl
  generalize (true&&itemsB its e)=R at *
  by_cases h5:pn<=5
  ·rw [hlen.out,decide_eq_true h5,Bool.true_and] at hR
   go_enter Tryz.func116,Tryz.ntmps116
   go_wp2_with fail
   refine (bH_ nm _ hnm).mono ?_
   rintro x w1 ⟨rfl,hw1⟩
   rw [hn1]
   have hB1:Below w.heap.size w w1:=by rw [hw1];go_grown
   have C:Blk w1 w.heap.size #[.int .i64 id,.string nm,.bool fx,.slice pa pn pc] 128:=by rw [hw1];exact Blk.new w _ _
   have hlt:=C.lt
   clear hw1
   have c3:=C.cell 3
   simp only [lgA,lgB,lgC] at c3
   go_wp2_with fail
   go_loopw [5] (fun ix wr=>∃ (k:Nat),k<=pn∧ix=.int .i64 k∧Hid (R=igo e (prevI its k) (its.drop k))∧Blk wr w.heap.size #[.int .i64 id,.string nm,.bool fx,.slice pa pn pc] 128∧Below w.heap.size w wr) (fun ix _=>pn-(intOf ix).toNat)
   case atStart=>exact ⟨0,Nat.zero_le _,rfl,hR,C,hB1⟩
   case round=>
    clear c3
    obtain ⟨k,hk,rfl,hv,C',hB⟩:=hrel
    have c3:=C'.cell 3
    simp only [lgA,lgB,lgC] at c3
    by_cases hlt:k<pn
    ·obtain ⟨b,o,x,qa,qn,qc,rfl,hx,c0,c1,hP,_,_,_⟩:=bt_ (h.below hB) hlt
     have hst:Hid (R=(nameB x.nm&&(match prevI its k with | none=>true | some p=>bl p.nm.toList x.nm.toList)&&(contentO x.ps e).isSome&&igo e (prevI its (k+1)) (its.drop (k+1)))):=by
      show _=_
      rw [hv.out,aj_ hx,fP_,hx]
      rfl
     rw [hZ_ hsp] at hst
     obtain ⟨m1,m2⟩:=hI x (List.mem_of_getElem? hx)
     have hqn:x.ps.length=qn:=hP.len
     rw [hqn] at m2
     have hk1:(k:Int)<pn:=by omega
     have hk2:(0:Int)<=k:=by omega
     have hprev:0<k->∃ y,prevI its k=some y∧wr.cell? ⟨b,o+(k-1)*2,none⟩=some (.string y.nm):=fun h0=>by
      obtain ⟨b',o',y,_,_,_,hbo,hy,d0,_⟩:=bt_ (h.below hB) (show k-1<pn by omega)
      obtain ⟨rfl,rfl⟩:b=b'∧o=o':=by simpa using hbo
      exact ⟨y,by unfold prevI;rw [if_neg (by omega)];exact hy,d0⟩
     have hend:∀ u:World,Below wr.heap.size wr u->Below w.heap.size w u:=fun u hu=>chain hB hu
     clear hx hv hqn
     have hname:=fun u:World=>bH_ x.nm u m1
     have hparts:=fun (u:World) (hu:Below wr.heap.size wr u)=>hO_ qa qn qc x.ps u (hP.below hu) m2
     have hW0:Below wr.heap.size wr (wr.alloc (.cells #[.string x.nm,.slice qa qn qc] 139)):=by go_grown
     have X:=Blk.new wr #[.string x.nm,.slice qa qn qc] 139
     have x0:∀ g:Grw (wr.alloc (.cells #[.string x.nm,.slice qa qn qc] 139)),g.w.cell? ⟨wr.heap.size,0,none⟩=some (.string x.nm):=gcell (X.cell 0)
     have x1:∀ g:Grw (wr.alloc (.cells #[.string x.nm,.slice qa qn qc] 139)),g.w.cell? ⟨wr.heap.size,1,none⟩=some (.slice qa qn qc):=gcell (X.cell 1)
     have x3:=gcell (bcell hW0 c3)
     have hne:=aq_ (wr.alloc (.cells #[.string x.nm,.slice qa qn qc] 139))
     cases hnx:nameB x.nm
     ·rw [hnx] at hst
      go_wp2_with fail
      refine aa_ (by kernel_rfl) (by kernel_rfl) ?_
      repeat (go_big_quiet_step (first | (go_at_call 178;have qq:=hname;rw [hnx] at qq;exact ah_ (qq _))))
      refine wpQuiet_nil ?_
      intro w2 hx
      have hB2:=chain hW0 (ae_ hx)
      clear hx
      go_wp2
      go_returns
      exact ⟨by rw [hst.out];simp,hend _ hB2⟩
     ·rw [hnx,Bool.true_and] at hst
      by_cases hk0:0<k
      ·obtain ⟨y,hy,d0⟩:=hprev hk0
       have y0:=gcell (bcell hW0 d0)
       rw [hy] at hst
       have hk0':decide ((0:Int)<(k:Int))=true:=decide_eq_true (by omega)
       have hk9:((k:Int)-1).toNat=k-1:=by omega
       cases hbl:bl y.nm.toList x.nm.toList
       ·simp only [hbl,Bool.false_and] at hst
        go_wp2_with fail
        refine aa_ (by kernel_rfl) (by kernel_rfl) ?_
        repeat (go_big_quiet_step (first | (go_at_call 178;have qq:=hname;rw [hnx] at qq;exact ah_ (qq _))))
        refine wpQuiet_nil ?_
        intro w2 hx
        have hB2:=chain hW0 (ae_ hx)
        have x1':=bcell (ae_ hx) (show (wr.alloc (.cells #[.string x.nm,.slice qa qn qc] 139)).cell? ⟨wr.heap.size,1,none⟩=some (.slice qa qn qc) from X.cell 1)
        have C2:=C'.below hB2
        clear hx
        go_wp2
        go_returns
        exact ⟨by rw [hst.out];rfl,hend _ hB2⟩
       ·simp only [hbl,Bool.true_and] at hst
        cases hpk:partsOkB x.ps
        ·rw [hpk,Bool.false_and,Bool.false_and] at hst
         go_wp2_with fail
         refine aa_ (by kernel_rfl) (by kernel_rfl) ?_
         repeat (go_big_quiet_step (first | (go_at_call 178;have qq:=hname;rw [hnx] at qq;exact ah_ (qq _)) | (go_at_call 179;have qq:=fun (u:World) (hu:Below wr.heap.size wr u)=>hparts u hu;rw [hpk] at qq;exact ag_ (qq _ (chain hW0 (Grw.h _))))))
         refine wpQuiet_nil ?_
         intro w2 hx
         have hB2:=chain hW0 (ae_ hx)
         have x1':=bcell (ae_ hx) (show (wr.alloc (.cells #[.string x.nm,.slice qa qn qc] 139)).cell? ⟨wr.heap.size,1,none⟩=some (.slice qa qn qc) from X.cell 1)
         have C2:=C'.below hB2
         clear hx
         go_wp2
         go_returns
         exact ⟨by rw [hst.out];rfl,hend _ hB2⟩
        ·rw [hpk,Bool.true_and] at hst
         obtain ⟨hl16,hall⟩:=eo_ hpk
         rw [hP.len] at hl16
         go_wp2_with fail
         refine aa_ (by kernel_rfl) (by kernel_rfl) ?_
         repeat (go_big_quiet_step (first | (go_at_call 178;have qq:=hname;rw [hnx] at qq;exact ah_ (qq _)) | (go_at_call 179;have qq:=fun (u:World) (hu:Below wr.heap.size wr u)=>hparts u hu;rw [hpk] at qq;exact ag_ (qq _ (chain hW0 (Grw.h _))))))
         refine wpQuiet_nil ?_
         intro w2 hx
         have hB2:=chain hW0 (ae_ hx)
         have x1':=bcell (ae_ hx) (show (wr.alloc (.cells #[.string x.nm,.slice qa qn qc] 139)).cell? ⟨wr.heap.size,1,none⟩=some (.slice qa qn qc) from X.cell 1)
         have C2:=C'.below hB2
         clear hx
         go_wp2_with fail
         refine (c4_ qa qn qc x.ps ea en ec e _ (hP.below hB2) (he.below (hend _ hB2)) hstr hl16 hen hall).mono ?_
         rintro e1 w3 ⟨hret,hB3⟩
         replace C2:=C2.below hB3
         replace hB3:=chain hB2 hB3
         cases hcg:cgo e ⟨#[]⟩ x.ps with
         |none=>
          rw [hcg] at hret hst
          replace hret:e1=.returned (.tuple #[.string ⟨#[]⟩,.bool false]):=hret
          subst hret
          clear hcg
          go_wp2
          go_returns
          exact ⟨by rw [hst.out];rfl,hend _ hB3⟩
         |some s=>
          rw [hcg] at hret hst
          replace hret:e1=.returned (.tuple #[.string s,.bool true]):=hret
          subst hret
          clear hcg
          go_wp2
          go_roundw
          case rel=>exact ⟨k+1,by omega,by go_num,by show _=_;rw [hst.out];rfl,C2,hend _ hB3⟩
          case measure=>simp [intOf];omega
      ·have hpv:prevI its k=none:=by unfold prevI;rw [if_pos (by omega)]
       have hk0':decide ((0:Int)<(k:Int))=false:=decide_eq_false (by omega)
       rw [hpv] at hst
       simp only [Bool.true_and] at hst
       cases hpk:partsOkB x.ps
       ·rw [hpk,Bool.false_and,Bool.false_and] at hst
        go_wp2_with fail
        refine aa_ (by kernel_rfl) (by kernel_rfl) ?_
        repeat (go_big_quiet_step (first | (go_at_call 178;have qq:=hname;rw [hnx] at qq;exact ah_ (qq _)) | (go_at_call 179;have qq:=fun (u:World) (hu:Below wr.heap.size wr u)=>hparts u hu;rw [hpk] at qq;exact ag_ (qq _ (chain hW0 (Grw.h _))))))
        refine wpQuiet_nil ?_
        intro w2 hx
        have hB2:=chain hW0 (ae_ hx)
        have x1':=bcell (ae_ hx) (show (wr.alloc (.cells #[.string x.nm,.slice qa qn qc] 139)).cell? ⟨wr.heap.size,1,none⟩=some (.slice qa qn qc) from X.cell 1)
        have C2:=C'.below hB2
        clear hx
        go_wp2
        go_returns
        exact ⟨by rw [hst.out];rfl,hend _ hB2⟩
       ·rw [hpk,Bool.true_and] at hst
        obtain ⟨hl16,hall⟩:=eo_ hpk
        rw [hP.len] at hl16
        go_wp2_with fail
        refine aa_ (by kernel_rfl) (by kernel_rfl) ?_
        repeat (go_big_quiet_step (first | (go_at_call 178;have qq:=hname;rw [hnx] at qq;exact ah_ (qq _)) | (go_at_call 179;have qq:=fun (u:World) (hu:Below wr.heap.size wr u)=>hparts u hu;rw [hpk] at qq;exact ag_ (qq _ (chain hW0 (Grw.h _))))))
        refine wpQuiet_nil ?_
        intro w2 hx
        have hB2:=chain hW0 (ae_ hx)
        have x1':=bcell (ae_ hx) (show (wr.alloc (.cells #[.string x.nm,.slice qa qn qc] 139)).cell? ⟨wr.heap.size,1,none⟩=some (.slice qa qn qc) from X.cell 1)
        have C2:=C'.below hB2
        clear hx
        go_wp2_with fail
        refine (c4_ qa qn qc x.ps ea en ec e _ (hP.below hB2) (he.below (hend _ hB2)) hstr hl16 hen hall).mono ?_
        rintro e1 w3 ⟨hret,hB3⟩
        replace C2:=C2.below hB3
        replace hB3:=chain hB2 hB3
        cases hcg:cgo e ⟨#[]⟩ x.ps with
        |none=>
         rw [hcg] at hret hst
         replace hret:e1=.returned (.tuple #[.string ⟨#[]⟩,.bool false]):=hret
         subst hret
         clear hcg
         go_wp2
         go_returns
         exact ⟨by rw [hst.out];rfl,hend _ hB3⟩
        |some s=>
         rw [hcg] at hret hst
         replace hret:e1=.returned (.tuple #[.string s,.bool true]):=hret
         subst hret
         clear hcg
         go_wp2
         go_roundw
         case rel=>exact ⟨k+1,by omega,by go_num,by show _=_;rw [hst.out];rfl,C2,hend _ hB3⟩
         case measure=>simp [intOf];omega
    ·obtain rfl:k=pn:=by omega
     go_wp2
     go_returns
     exact ⟨by rw [hv.out,List.drop_of_length_le (Nat.le_of_eq hlen.out)];rfl,hB⟩
  ·rw [hlen.out,decide_eq_false h5,Bool.false_and] at hR
   go_enter Tryz.func116,Tryz.ntmps116
   go_wp2_with fail
   refine (bH_ nm _ hnm).mono ?_
   rintro x w1 ⟨rfl,rfl⟩
   rw [hn1]
   go_wp2
   go_returns
   exact ⟨by rw [hR.out];rfl,by go_grown⟩
end Go.Proofs.YtigldeccfpkdmaaGreatDoor
namespace Go.Proofs.YtigldeccfpkdmaaGreatDoor
open Go.RowKit
set_option maxHeartbeats 20000000
set_option maxRecDepth 100000
def idB (next:Int) (q:Option Vo) (v:Vo):Bool:=decide (1<=v.id)&&decide (v.id<=1000000000)&&decide (v.id<next)&&(match q with | none=>true | some u=>decide (u.id<v.id))
def sameN (u v:Vo):Bool:=u.nm.toList==v.nm.toList
/-- The model's rounds: those that were seen, those to come. -/
def sgoV (next:Int) (e:List Ex):List Vo->List Vo->Bool
 |_,[]=>true
 |seen,v::r=>idB next seen.getLast? v&&(nameB v.nm&&itemsB v.its e)&&!(seen.any (fun u=>sameN u v))&&sgoV next e (seen++[v]) r
def ndV:List Vo->List Vo->Bool
 |_,[]=>true
 |seen,v::r=>!(seen.any (fun u=>sameN u v))&&ndV (seen++[v]) r
def lastId (seen:List Vo):Int:=match seen.getLast? with | none=>0 | some u=>u.id
theorem lq_ {next:Int} {e:List Ex} (hn:next<=1000000000):∀ (vs seen:List Vo),(∀ u∈seen,1<=u.id)->sgoV next e seen vs=(vgo next e (lastId seen) vs&&ndV seen vs)
 |[],seen,_=>rfl
 |v::r,seen,hs=>by
  have hid:idB next seen.getLast? v=(decide (lastId seen<v.id)&&decide (v.id<next)):=by
   unfold idB lastId
   cases hl:seen.getLast? with
   |none=>rw [Bool.eq_iff_iff];simp;omega
   |some u=>
    have:=hs u (List.mem_of_getLast? hl)
    rw [Bool.eq_iff_iff];simp;omega
  by_cases hv:1<=v.id
  ·have ih:=lq_ (e:=e) hn r (seen++[v]) (fun u hu=>by
    rcases List.mem_append.1 hu with hu | hu
    ·exact hs u hu
    ·simp at hu;subst hu;exact hv)
   have hl:lastId (seen++[v])=v.id:=by simp [lastId]
   rw [hl] at ih
   simp only [sgoV,vgo,ndV,hid,ih]
   cases decide (lastId seen<v.id)<;>cases decide (v.id<next)<;>cases nameB v.nm<;>cases itemsB v.its e<;>cases vgo next e v.id r<;>cases (seen.any fun u=>sameN u v)<;>simp
  ·have h0:decide (lastId seen<v.id)=false:=by
    rw [decide_eq_false_iff_not]
    unfold lastId
    cases hl:seen.getLast? with
    |none=>simp;omega
    |some u=>have:=hs u (List.mem_of_getLast? hl);simp;omega
   simp only [sgoV,vgo,hid,h0,Bool.false_and]
theorem nr_:∀ (vs seen:List Vo),(seen.map (·.nm.toList)).Nodup->ndV seen vs=decide (((seen++vs).map (·.nm.toList)).Nodup)
 |[],seen,h=>by simp [ndV,h]
 |v::r,seen,h=>by
  cases ha:(seen.any fun u=>sameN u v)
  ·have hnot:v.nm.toList∉seen.map (·.nm.toList):=by
    intro hm
    obtain ⟨u,hu,he⟩:=List.mem_map.1 hm
    rw [List.any_eq_false] at ha
    exact ha u hu (by simp [sameN,he])
   have h2:((seen++[v]).map (·.nm.toList)).Nodup:=by
    rw [List.map_append,List.nodup_append]
    exact ⟨h,by simp,fun x hx y hy=>by simp at hy;subst hy;intro e;subst e;exact hnot hx⟩
   have ih:=nr_ r (seen++[v]) h2
   simp only [ndV,ha,Bool.not_false,Bool.true_and,ih,List.append_assoc,List.cons_append,List.nil_append]
  ·have:¬ ((seen++v::r).map (·.nm.toList)).Nodup:=by
    intro hn
    rw [List.map_append,List.nodup_append] at hn
    obtain ⟨u,hu,he⟩:=List.any_eq_true.1 ha
    exact hn.2.2 u.nm.toList (List.mem_map_of_mem hu) v.nm.toList (by simp) (by simpa [sameN] using he)
   simp only [ndV,ha,Bool.not_true,Bool.false_and]
   exact (decide_eq_false this).symm
theorem ji_ {next:Int} {e:List Ex} {vs:List Vo} (hn:next<=1000000000):sgoV next e [] vs=(vgo next e 0 vs&&namesB vs):=by
 rw [lq_ hn vs [] (fun u hu=>by cases hu),nr_ vs [] List.nodup_nil];rfl
theorem jj_ {size size':Int} (h:size<=size'):∀ {l:List Ex} {next:Int},xgo size next l=true->xgo size' next l=true
 |[],_,_=>rfl
 |x::r,next,hx=>by
  simp only [xgo,Bool.and_eq_true,decide_eq_true_eq] at hx ⊢
  exact ⟨⟨⟨hx.1.1.1,hx.1.1.2⟩,by omega⟩,jj_ h hx.2⟩
theorem mp_ {size:Int} {e:List Ex} (h:spaceOkB size e=true):spaceOkB 400 e=true:=by
 simp only [spaceOkB,Bool.and_eq_true,decide_eq_true_eq] at h ⊢
 exact ⟨⟨⟨by omega,by omega⟩,h.1.2⟩,jj_ h.1.1.2 h.2⟩
theorem fQ_ {e:List Ex}:∀ {l:List It} {q:Option It},igo e q l=true->∀ x∈l,(contentO x.ps e).isSome=true
 |[],_,_,x,hx=>by cases hx
 |y::r,q,h,x,hx=>by
  simp only [igo,Bool.and_eq_true] at h
  rcases List.mem_cons.1 hx with rfl | hx
  ·exact h.1.2
  ·exact fQ_ h.2 x hx
theorem fR_ {next:Int} {e:List Ex}:∀ {l:List Vo} {last:Int},vgo next e last l=true->∀ v∈l,itemsB v.its e=true∧nameB v.nm=true∧last<v.id∧v.id<next
 |[],_,_,v,hv=>by cases hv
 |u::r,last,h,v,hv=>by
  simp only [vgo,Bool.and_eq_true,decide_eq_true_eq] at h
  rcases List.mem_cons.1 hv with rfl | hv
  ·exact ⟨h.1.2,h.1.1.2,h.1.1.1.1,h.1.1.1.2⟩
  ·have:=fR_ h.2 v hv
   exact ⟨this.1,this.2.1,by omega,this.2.2.2⟩
theorem gz_ {p:Pt} (h:partOkB p=true):0<=p.a:=by
 unfold partOkB at h
 split at h
 ·rename_i h0;simp at h0;omega
 ·simp at h;omega
theorem lr_ {next:Int} {e:List Ex} {l:List Vo} {last:Int} (h6:l.length<=6) (h:vgo next e last l=true):TinyV l:=by
 refine ⟨h6,fun v hv=>?_⟩
 obtain ⟨hi,_⟩:=fR_ h v hv
 simp only [itemsB,Bool.and_eq_true,decide_eq_true_eq] at hi
 refine ⟨hi.1,fun x hx=>?_⟩
 have hc:=fQ_ hi.2 x hx
 have hp:partsOkB x.ps=true:=by
  unfold contentO at hc
  split at hc
  ·rename_i hh;exact hh.1
  ·cases hc
 obtain ⟨q1,q2,_⟩:=dP_ hp
 exact ⟨q1,fun p hp'=>gz_ (q2 p hp')⟩
theorem ls_ (addr:Int):∀ (l:List Ex) (k:Nat),decide (atG addr k l<0)=!(l.any (fun x=>x.a==addr))
 |[],k=>by simp [atG]
 |x::r,k=>by
  cases hx:(x.a==addr)
  ·simp only [atG,hx,Bool.false_eq_true,if_false,List.any_cons,Bool.false_or];exact ls_ addr r (k+1)
  ·simp only [atG,hx,if_true,List.any_cons,Bool.true_or,Bool.not_true,decide_eq_false_iff_not];omega
end Go.Proofs.YtigldeccfpkdmaaGreatDoor
namespace Go.Proofs.YtigldeccfpkdmaaGreatDoor
open Go.RowKit Go.BigFrame
set_option maxHeartbeats 20000000
set_option maxRecDepth 100000
theorem ox_ (p q:Ow) (w:World):(Op.equalIn 9999 132 (.agg #[.int .i64 p.a,.int .i64 p.v,.string p.f]) (.agg #[.int .i64 q.a,.int .i64 q.v,.string q.f])).run Tryz.prog w=.ok (owEq p q) w:=by
 have u2:=Tryz.underlying2
 have u9:=Tryz.underlying9
 have a2:=Tryz.isAgg2
 have a9:=Tryz.isAgg9
 have z2:=Tryz.sizeOf2
 have z9:=Tryz.sizeOf9
 have hS:Tryz.prog.underlying 132=some (.struct (Tryz.prog.fieldsOf 132)):=by kernel_rfl
 have hp:Tryz.prog.stoodInHeld 132=false:=by kernel_rfl
 rw [show (9999:Nat)=9998+1 from rfl,run_equalIn_agg w 9998 132 _ _ hS hp]
 simp only [Program.fieldsOf,Tryz.underlying132]
 clear hS hp
 go_simp
 unfold owEq
 by_cases h1:p.a=q.a<;>by_cases h2:p.v=q.v<;>by_cases h3:p.f.toList=q.f.toList<;>simp [h1,h2,h3]
theorem neqCG (p q:Ct) (w:World):(binOp .neq 134 (.agg #[.int .i64 p.o.a,.int .i64 p.o.v,.string p.o.f,.int .i64 p.n]) (.agg #[.int .i64 q.o.a,.int .i64 q.o.v,.string q.o.f,.int .i64 q.n])).run Tryz.prog w=.ok (.bool (!eqCt p q)) w:=by
 have he:=ox_ p.o q.o
 have u2:=Tryz.underlying2
 have a2:=Tryz.isAgg2
 have z2:=Tryz.sizeOf2
 have hz:=Tryz.sizeOf132
 have ha:=Tryz.isAgg132
 have hS:Tryz.prog.underlying 134=some (.struct (Tryz.prog.fieldsOf 134)):=by kernel_rfl
 have hp:Tryz.prog.stoodInHeld 134=false:=by kernel_rfl
 rw [run_neq_struct,show (10000:Nat)=9999+1 from rfl,run_equalIn_agg w 9999 134 _ _ hS hp]
 simp only [Program.fieldsOf,Tryz.underlying134]
 clear hS hp
 unfold eqCt
 cases hoo:owEq p.o q.o
 all_goals rw [hoo] at he
 ·go_simp
 ·by_cases h1:p.n=q.n
  ·go_simp
  ·go_simp
theorem jk_ (a:Option Addr) (n cap:Nat) (l:List Ct) (a':Option Addr) (n' cap':Nat) (m:List Ct) (w:World) (h:CtsAt w a n l) (h':CtsAt w a' n' m) (hn:n<=4194304) (hn':n'<=4194304) :
  Calls Tryz.prog 118 #[.slice a n cap,.slice a' n' cap'] w fun e w'=>e=.returned (.bool (eqCts l m))∧Below w.heap.size w w':=by
 have hlen:Hid (l.length=n):=h.len
 have hlen':Hid (m.length=n'):=h'.len
 by_cases hne:n=n'
 ·subst hne
  have hbn:((n:Int) != (n:Int))=false:=by simp
  go_enter Tryz.func118,Tryz.ntmps118
  go_wp2_with fail
  go_loopw [5] (fun ix wr=>∃ (k:Nat),k<=n∧ix=.int .i64 k∧Hid (eqCts l m=eqCts (l.drop k) (m.drop k))∧Below w.heap.size w wr) (fun ix _=>n-(intOf ix).toNat)
  case atStart=>exact ⟨0,Nat.zero_le _,rfl,rfl,Below.refl _ _⟩
  case round=>
   obtain ⟨k,hk,rfl,hI,hB⟩:=hrel
   by_cases hlt:k<n
   ·obtain ⟨b,o,p,rfl,hp,c0,c1,c2,c3⟩:=az_ (h.below hB) hlt
    obtain ⟨b',o',q,rfl,hq,d0,d1,d2,d3⟩:=az_ (h'.below hB) hlt
    have hd:Hid (l.drop k=p::l.drop (k+1)):=aj_ hp
    have hd':Hid (m.drop k=q::m.drop (k+1)):=aj_ hq
    clear hp hq
    have hk1:(k:Int)<n:=by omega
    have hk2:(0:Int)<=k:=by omega
    have hneq:=neqCG p q
    cases hpq:eqCt p q
    all_goals rw [hpq] at hneq
    ·go_wp2_with fail
     go_quiet (fail)
     have hB2:=below_drewN hB nq
     go_wp2
     go_returns
     go_light
     refine ⟨ab_ ?_,hB2⟩
     rw [hI.out,hd.out,hd'.out];simp only [eqCts,hpq,Bool.false_and]
    ·go_wp2_with fail
     go_quiet (fail)
     have hB2:=below_drewN hB nq
     go_wp2
     go_roundw
     case rel=>exact ⟨k+1,by omega,by go_num,by show _=_;rw [hI.out,hd.out,hd'.out];simp only [eqCts,hpq,Bool.true_and],hB2⟩
     case measure=>simp [intOf];omega
   ·obtain rfl:k=n:=by omega
    go_wp2
    go_returns
    go_light
    refine ⟨ab_ ?_,hB⟩
    rw [hI.out,List.drop_of_length_le (Nat.le_of_eq hlen.out),List.drop_of_length_le (Nat.le_of_eq hlen'.out)];rfl
 ·have hbn:((n:Int) != (n':Int))=true:=by simp;omega
  go_enter Tryz.func118,Tryz.ntmps118
  go_wp2
  go_returns
  go_light
  refine ⟨ab_ ?_,Below.refl _ _⟩
  rw [eq_ (by rw [hlen.out,hlen'.out];exact hne)]
theorem jl_ (size next:Int) (ea:Option Addr) (en ec:Nat) (va:Option Addr) (vn vc:Nat) (ra:Option Addr) (rn rc:Nat) (la:Option Addr) (ln lc:Nat) (rf lt:List Ct) (addr:Int) (w:World) (h:CtsAt w ra rn rf) (h':CtsAt w la ln lt) (hn:rn<=4194304) (hn':ln<=4194304) :
  Calls Tryz.prog 120 #[.agg #[.int .i64 size,.int .i64 next,.slice ea en ec,.slice va vn vc,.slice ra rn rc,.slice la ln lc],.int .i64 addr] w fun e w'=>e=.returned (.bool ((rf++lt).any (fun c=>c.o.a==addr)))∧Below w.heap.size w w':=by
 have hlen:Hid (rf.length=rn):=h.len
 have hlen':Hid (lt.length=ln):=h'.len
 have hR:Hid ((rf++lt).any (fun c=>c.o.a==addr)=((rf.drop 0).any (fun c=>c.o.a==addr)||lt.any (fun c=>c.o.a==addr))):=by show _=_;rw [List.any_append];rfl
 generalize (rf++lt).any (fun c=>c.o.a==addr)=R at *
 go_enter Tryz.func120,Tryz.ntmps120
 go_wp2_with fail
 have C4:(w.alloc (.cells #[.int .i64 size,.int .i64 next,.slice ea en ec,.slice va vn vc,.slice ra rn rc,.slice la ln lc] 26)).cell? ⟨w.heap.size,4,none⟩=some (.slice ra rn rc):=(Blk.new w _ _).cell 4
 have C5:(w.alloc (.cells #[.int .i64 size,.int .i64 next,.slice ea en ec,.slice va vn vc,.slice ra rn rc,.slice la ln lc] 26)).cell? ⟨w.heap.size,5,none⟩=some (.slice la ln lc):=(Blk.new w _ _).cell 5
 have hW0:Below w.heap.size w (w.alloc (.cells #[.int .i64 size,.int .i64 next,.slice ea en ec,.slice va vn vc,.slice ra rn rc,.slice la ln lc] 26)):=by go_grown
 generalize w.alloc (.cells #[.int .i64 size,.int .i64 next,.slice ea en ec,.slice va vn vc,.slice ra rn rc,.slice la ln lc] 26)=W0 at *
 go_loopw [5] (fun ix wr=>∃ (k:Nat),k<=rn∧ix=.int .i64 k∧Hid (R=((rf.drop k).any (fun c=>c.o.a==addr)||lt.any (fun c=>c.o.a==addr)))∧Below W0.heap.size W0 wr) (fun ix _=>rn-(intOf ix).toNat)
 case atStart=>exact ⟨0,Nat.zero_le _,rfl,hR,Below.refl _ _⟩
 case round=>
  clear hR
  obtain ⟨k,hk,rfl,hI,hB⟩:=hrel
  have c4:=bcell hB C4
  by_cases hlt:k<rn
  ·obtain ⟨b,o,p,rfl,hp,c0,c1,c2,c3⟩:=az_ (h.below (chain hW0 hB)) hlt
   have hd:Hid (rf.drop k=p::rf.drop (k+1)):=aj_ hp
   clear hp c1 c2 c3
   have hk1:(k:Int)<rn:=by omega
   have hk2:(0:Int)<=k:=by omega
   cases he:(p.o.a==addr)
   ·go_wp2
    go_roundw
    case rel=>exact ⟨k+1,by omega,by go_num,by show _=_;rw [hI.out,hd.out];simp only [List.any_cons,he,Bool.false_or],hB⟩
    case measure=>simp [intOf];omega
   ·go_wp2
    go_returns
    exact ⟨ab_ (by rw [hI.out,hd.out];simp [he]),chain hW0 hB⟩
  ·obtain rfl:k=rn:=by omega
   have hI2:Hid (R=(lt.drop 0).any (fun c=>c.o.a==addr)):=by show _=_;rw [hI.out,List.drop_of_length_le (Nat.le_of_eq hlen.out)];rfl
   obtain ⟨wi,hwi⟩:∃ x,x=wr:=⟨_,rfl⟩
   subst hwi
   clear hI
   go_wp2_with fail
   go_loopw [6] (fun ix wr=>∃ (j:Nat),j<=ln∧ix=.int .i64 j∧Hid (R=(lt.drop j).any (fun c=>c.o.a==addr))∧Below W0.heap.size W0 wr) (fun ix _=>ln-(intOf ix).toNat)
   case atStart=>exact ⟨0,Nat.zero_le _,rfl,hI2,hB⟩
   case round=>
    clear hI2 hB c4
    obtain ⟨j,hj,rfl,hI,hB⟩:=hrel
    have c5:=bcell hB C5
    by_cases hlt2:j<ln
    ·obtain ⟨b,o,p,rfl,hp,c0,c1,c2,c3⟩:=az_ (h'.below (chain hW0 hB)) hlt2
     have hd:Hid (lt.drop j=p::lt.drop (j+1)):=aj_ hp
     clear hp c1 c2 c3
     have hk1:(j:Int)<ln:=by omega
     have hk2:(0:Int)<=j:=by omega
     cases he:(p.o.a==addr)
     ·go_wp2
      go_roundw
      case rel=>exact ⟨j+1,by omega,by go_num,by show _=_;rw [hI.out,hd.out];simp only [List.any_cons,he,Bool.false_or],hB⟩
      case measure=>simp [intOf];omega
     ·go_wp2
      go_returns
      exact ⟨ab_ (by rw [hI.out,hd.out];simp [he]),chain hW0 hB⟩
    ·obtain rfl:j=ln:=by omega
     go_wp2
     go_returns
     exact ⟨ab_ (by rw [hI.out,List.drop_of_length_le (Nat.le_of_eq hlen'.out)];rfl),chain hW0 hB⟩
def SmallI (n:Nat) (l:List It):Prop:=n<=1048576∧∀ x∈l,x.nm.size<=1048576∧x.ps.length<=1048576
def SmallV (n:Nat) (l:List Vo):Prop:=n<=1048576∧∀ v∈l,v.nm.size<=1048576∧SmallI v.its.length v.its
/-- Cells of a block that is being filled with items. -/
def FillI (B:Nat) (w:World) (c:Array Value) (l:List It) (k:Nat):Prop:=
 ∀ i x,i<k->l[i]?=some x->∃ pa pn pc,c[i*2]?=some (.string x.nm)∧c[i*2+1]?=some (.slice pa pn pc)∧PtsAt w pa pn x.ps∧Hd B pa pn pc∧(∀ ad,pa=some ad->B<=ad.block)∧Sf B w pa
theorem FillI.below {B:Nat} {w w':World} {c:Array Value} {l:List It} {k:Nat} (h:FillI B w c l k) (hb:Below w.heap.size w w'):FillI B w' c l k:=fun i x hi hx=>by
 obtain ⟨pa,pn,pc,c0,c1,hp,hh,hA,sf⟩:=h i x hi hx
 exact ⟨pa,pn,pc,c0,c1,hp.below hb,hh,hA,sf.below hb⟩
theorem FillI.grown {B r:Nat} {w w':World} {c:Array Value} {l:List It} {k:Nat} (h:FillI B w c l k) (hg:w.grownBy w' (some r)) (hr:r<B):FillI B w' c l k:=fun i x hi hx=>by
 obtain ⟨pa,pn,pc,c0,c1,hp,hh,hA,sf⟩:=h i x hi hx
 exact ⟨pa,pn,pc,c0,c1,hp.grown hg (fun ad had=>by have:=hA ad had;omega),hh,hA,sf.grown hg hr⟩
/-- Cells of a block that is being filled with volumes. -/
def FillV (B:Nat) (w:World) (c:Array Value) (l:List Vo) (k:Nat):Prop:=
 ∀ i x,i<k->l[i]?=some x->∃ pa pn pc,c[i*4]?=some (.int .i64 x.id)∧c[i*4+1]?=some (.string x.nm)∧c[i*4+2]?=some (.bool x.fx)∧c[i*4+3]?=some (.slice pa pn pc)∧ItsAt B w pa pn x.its∧Hd B pa pn pc
theorem FillV.below {B:Nat} {w w':World} {c:Array Value} {l:List Vo} {k:Nat} (h:FillV B w c l k) (hb:Below w.heap.size w w'):FillV B w' c l k:=fun i x hi hx=>by
 obtain ⟨pa,pn,pc,c0,c1,c2,c3,hp,r⟩:=h i x hi hx
 exact ⟨pa,pn,pc,c0,c1,c2,c3,hp.below hb,r⟩
theorem FillV.grown {B r:Nat} {w w':World} {c:Array Value} {l:List Vo} {k:Nat} (h:FillV B w c l k) (hg:w.grownBy w' (some r)) (hr:r<B):FillV B w' c l k:=fun i x hi hx=>by
 obtain ⟨pa,pn,pc,c0,c1,c2,c3,hp,hh⟩:=h i x hi hx
 exact ⟨pa,pn,pc,c0,c1,c2,c3,hp.grown hg hr,hh⟩
theorem jm_ (nm:ByteArray) (ps:List Pt) (pa:Option Addr) (pn pc:Nat) (pa':Option Addr) (pn' pc':Nat) (w:World) (h:PtsAt w pa pn ps) (h':PtsAt w pa' pn' ps) (hn:pn<=4194304) :
  Calls Tryz.prog 209 #[.agg #[.string nm,.slice pa pn pc],.agg #[.string nm,.slice pa' pn' pc']] w fun e w'=>e=.returned (.bool true)∧Below w.heap.size w w':=by
 have hn':pn'<=4194304:=by rw [<-h'.len,h.len];exact hn
 go_enter Tryz.func209,Tryz.ntmps209
 go_wp2_with fail
 refine (hP_ pa pn pc ps pa' pn' pc' ps _ (h.below (by go_grown)) (h'.below (by go_grown)) hn hn').mono ?_
 rintro e w1 ⟨rfl,hB1⟩
 rw [kp_]
 replace hB1:Below w.heap.size w w1:=chain (by go_grown) hB1
 go_wp2
 go_returns
 exact ⟨rfl,hB1⟩
theorem h0_ (B B':Nat) (a:Option Addr) (n cap:Nat) (a':Option Addr) (n' cap':Nat) (l:List It) (w:World) (h:ItsAt B w a n l) (h':ItsAt B' w a' n' l) (hn:n<=4194304) (hps:∀ x∈l,x.ps.length<=4194304) :
  Calls Tryz.prog 171 #[.slice a n cap,.slice a' n' cap'] w fun e w'=>e=.returned (.bool true)∧Below w.heap.size w w':=by
 obtain rfl:n=n':=by rw [<-h.len,<-h'.len]
 have hbn:((n:Int) != (n:Int))=false:=by simp
 go_enter Tryz.func171,Tryz.ntmps171
 go_wp2_with fail
 go_loopw [5] (fun ix wr=>∃ (k:Nat),k<=n∧ix=.int .i64 k∧Below w.heap.size w wr) (fun ix _=>n-(intOf ix).toNat)
 case atStart=>exact ⟨0,Nat.zero_le _,rfl,Below.refl _ _⟩
 case round=>
  obtain ⟨k,hk,rfl,hB⟩:=hrel
  by_cases hlt:k<n
  ·obtain ⟨b,o,x,pa,pn,pc,rfl,hp,c0,c1,hP,_,_,_⟩:=bt_ (h.below hB) hlt
   obtain ⟨b',o',y,qa,qn,qc,rfl,hq,d0,d1,hQ,_,_,_⟩:=bt_ (h'.below hB) hlt
   rw [hp] at hq
   obtain rfl:=Option.some.inj hq
   have hpn:pn<=4194304:=by have:=hps x (List.mem_of_getElem? hp);rw [hP.len] at this;exact this
   have hk1:(k:Int)<n:=by omega
   have hk2:(0:Int)<=k:=by omega
   clear hp hq
   have qq:=fun (u:World) (hu:Below wr.heap.size wr u)=>jm_ x.nm x.ps pa pn pc qa qn qc u (hP.below hu) (hQ.below hu) hpn
   go_wp2_with fail
   have g0:=gcell c0
   have g1:=gcell c1
   have g3:=gcell d0
   have g4:=gcell d1
   have hne:=aq_ wr
   refine aa_ (by kernel_rfl) (by kernel_rfl) ?_
   repeat (go_big_quiet_step (first | (go_at_call 209;exact ag_ (qq _ (Grw.h _)))))
   refine wpQuiet_nil ?_
   intro w2 hx
   have hB2:=ae_ hx
   clear hx
   go_wp2
   go_roundw
   case rel=>exact ⟨k+1,by omega,by go_num,chain hB hB2⟩
   case measure=>simp [intOf];omega
  ·obtain rfl:k=n:=by omega
   go_wp2
   go_returns
   exact ⟨rfl,hB⟩
theorem gA_ (B B':Nat) (v:Vo) (pa:Option Addr) (pn pc:Nat) (pa':Option Addr) (pn' pc':Nat) (w:World) (h:ItsAt B w pa pn v.its) (h':ItsAt B' w pa' pn' v.its) (hn:pn<=4194304) (hps:∀ x∈v.its,x.ps.length<=4194304) :
  Calls Tryz.prog 107 #[.agg #[.int .i64 v.id,.string v.nm,.bool v.fx,.slice pa pn pc],.agg #[.int .i64 v.id,.string v.nm,.bool v.fx,.slice pa' pn' pc']] w fun e w'=>e=.returned (.bool true)∧Below w.heap.size w w':=by
 obtain ⟨id,nm,fx,its⟩:=v
 simp only at h h' hps
 have hid:(id != id)=false:=by simp
 have hfx:(fx != fx)=false:=by simp
 go_enter Tryz.func107,Tryz.ntmps107
 go_wp2_with fail
 refine (h0_ B B' pa pn pc pa' pn' pc' its _ (h.below (by go_grown)) (h'.below (by go_grown)) hn hps).mono ?_
 rintro e w1 ⟨rfl,hB1⟩
 replace hB1:Below w.heap.size w w1:=chain (by go_grown) hB1
 go_wp2
 go_returns
 exact ⟨rfl,hB1⟩
theorem fS_ (B B':Nat) (a:Option Addr) (n cap:Nat) (a':Option Addr) (n' cap':Nat) (l:List Vo) (w:World) (h:VsAt B w a n l) (h':VsAt B' w a' n' l) (hn:n<=4194304) (hps:∀ v∈l,v.its.length<=4194304∧∀ x∈v.its,x.ps.length<=4194304) :
  Calls Tryz.prog 43 #[.slice a n cap,.slice a' n' cap'] w fun e w'=>e=.returned (.bool true)∧Below w.heap.size w w':=by
 obtain rfl:n=n':=by rw [<-h.len,<-h'.len]
 have hbn:((n:Int) != (n:Int))=false:=by simp
 go_enter Tryz.func43,Tryz.ntmps43
 go_wp2_with fail
 go_loopw [5] (fun ix wr=>∃ (k:Nat),k<=n∧ix=.int .i64 k∧Below w.heap.size w wr) (fun ix _=>n-(intOf ix).toNat)
 case atStart=>exact ⟨0,Nat.zero_le _,rfl,Below.refl _ _⟩
 case round=>
  obtain ⟨k,hk,rfl,hB⟩:=hrel
  by_cases hlt:k<n
  ·obtain ⟨b,o,x,pa,pn,pc,rfl,hp,c0,c1,c2,c3,hP,_,_⟩:=cg_ (h.below hB) hlt
   obtain ⟨b',o',y,qa,qn,qc,rfl,hq,d0,d1,d2,d3,hQ,_,_⟩:=cg_ (h'.below hB) hlt
   rw [hp] at hq
   obtain rfl:=Option.some.inj hq
   obtain ⟨m1,m2⟩:=hps x (List.mem_of_getElem? hp)
   rw [hP.len] at m1
   have hk1:(k:Int)<n:=by omega
   have hk2:(0:Int)<=k:=by omega
   clear hp hq
   have qq:=fun (u:World) (hu:Below wr.heap.size wr u)=>gA_ B B' x pa pn pc qa qn qc u (hP.below hu) (hQ.below hu) m1 m2
   go_wp2_with fail
   have g0:=gcell c0
   have g1:=gcell c1
   have g2:=gcell c2
   have g3:=gcell c3
   have e0:=gcell d0
   have e1:=gcell d1
   have e2:=gcell d2
   have e3:=gcell d3
   have hne:=aq_ wr
   refine aa_ (by kernel_rfl) (by kernel_rfl) ?_
   repeat (go_big_quiet_step (first | (go_at_call 107;exact ag_ (qq _ (Grw.h _)))))
   refine wpQuiet_nil ?_
   intro w2 hx
   have hB2:=ae_ hx
   clear hx
   go_wp2
   go_roundw
   case rel=>exact ⟨k+1,by omega,by go_num,chain hB hB2⟩
   case measure=>simp [intOf];omega
  ·obtain rfl:k=n:=by omega
   go_wp2
   go_returns
   exact ⟨rfl,hB⟩
end Go.Proofs.YtigldeccfpkdmaaGreatDoor
namespace Go.Proofs.YtigldeccfpkdmaaGreatDoor
open Go.ChangeShapes Go.WideShapes Go.ChangeAt Go.RowKit Go.Deep
set_option maxHeartbeats 20000000
set_option maxRecDepth 100000
theorem c9:Tryz.prog.cellsOf 9=1:=by kernel_rfl
end Go.Proofs.YtigldeccfpkdmaaGreatDoor
namespace Go.Proofs.YtigldeccfpkdmaaGreatDoor
open Go.RowKit Go.BigFrame
set_option maxHeartbeats 20000000
set_option maxRecDepth 100000
theorem VsAt.grown {B r:Nat} {w w':World} {a:Option Addr} {n:Nat} {l:List Vo} (h:VsAt B w a n l) (hg:w.grownBy w' (some r)) (hr:r<B):VsAt B w' a n l:=
 ⟨h.len,fun i x hx=>by
  obtain ⟨b,o,pa,pn,pc,ha,c0,c1,c2,c3,hp,hh,hB,s2⟩:=h.cell i x hx
  exact ⟨b,o,pa,pn,pc,ha,hg.cell c0 (by simp;omega),hg.cell c1 (by simp;omega),hg.cell c2 (by simp;omega),hg.cell c3 (by simp;omega),hp.grown hg hr,hh,hB,s2.grown hg hr⟩⟩
/-- A pool's value, and what its slices hold. -/
def PoolAt (B:Nat) (w:World) (v:Value) (p:Po):Prop:=
 ∃ ea en ec va vn vc ra rn rc la ln lc,v=.agg #[.int .i64 p.size,.int .i64 p.next,.slice ea en ec,.slice va vn vc,.slice ra rn rc,.slice la ln lc]∧
  (ExsAt w ea en p.ex∧Hd B ea en ec∧Sf B w ea)∧(VsAt B w va vn p.vs∧Hd B va vn vc)∧(CtsAt w ra rn p.rf∧Hd B ra rn rc∧Sf B w ra)∧(CtsAt w la ln p.lt∧Hd B la ln lc∧Sf B w la)
theorem PoolAt.below {B:Nat} {w w':World} {v:Value} {p:Po} (h:PoolAt B w v p) (hb:Below w.heap.size w w'):PoolAt B w' v p:=by
 obtain ⟨ea,en,ec,va,vn,vc,ra,rn,rc,la,ln,lc,hv,⟨h1,k1⟩,⟨h2,k2⟩,⟨h3,k3⟩,h4,k4⟩:=h
 exact ⟨ea,en,ec,va,vn,vc,ra,rn,rc,la,ln,lc,hv,⟨h1.below hb,k1.1,k1.2.below hb⟩,⟨h2.below hb,k2⟩,⟨h3.below hb,k3.1,k3.2.below hb⟩,h4.below hb,k4.1,k4.2.below hb⟩
theorem PoolAt.mono {B B':Nat} {w:World} {v:Value} {p:Po} (h:PoolAt B w v p) (hb:B'<=B):PoolAt B' w v p:=by
 obtain ⟨ea,en,ec,va,vn,vc,ra,rn,rc,la,ln,lc,hv,⟨h1,k1⟩,⟨h2,k2⟩,⟨h3,k3⟩,h4,k4⟩:=h
 exact ⟨ea,en,ec,va,vn,vc,ra,rn,rc,la,ln,lc,hv,⟨h1,k1.1.mono hb,k1.2.mono hb⟩,⟨h2.mono hb,k2.mono hb⟩,⟨h3,k3.1.mono hb,k3.2.mono hb⟩,h4,k4.1.mono hb,k4.2.mono hb⟩
def SmallP (p:Po):Prop:=Small p.ex.length p.ex∧SmallV p.vs.length p.vs∧SmallC p.rf.length p.rf∧SmallC p.lt.length p.lt
end Go.Proofs.YtigldeccfpkdmaaGreatDoor
