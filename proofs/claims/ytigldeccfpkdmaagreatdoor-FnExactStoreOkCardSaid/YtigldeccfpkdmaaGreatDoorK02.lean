/- Texts cut, and numbers read, by the model. A Builder that is a writer's field. What a writer's Builder is written, and told. A contract of the library, laid at this program. A region that draws its order, whose last operation waits for all others. -/
import Derived.Lib.Strings
import Derived.Deep.DeepCutAuto
import Derived.Test.YtigldeccfpkdmaaGreatDoorK01
import Derived.Test.YtigldeccfpkdmaaGreatDoorProg
import Derived.Shelf.Strings.BuilderK
import Derived.Test.YtigldeccfpkdmaaGreatDoorK00
import Derived.Shelf.Strings.OnBuilder
import Derived.OrdersHeld
import Derived.StillTail
namespace Go.Proofs.YtigldeccfpkdmaaGreatDoor
open Go Go.RowKit Go.BigFrame
set_option maxHeartbeats 20000000
set_option maxRecDepth 100000
def cutV (c:UInt8) (s:ByteArray):Value:=match cutB c s.data.toList with
 |none=>.tuple #[.string s,.string ⟨#[]⟩,.bool false]
 |some q=>.tuple #[.string (bA q.1),.string (bA q.2),.bool true]
theorem m2_ {l:By} {c x:UInt8} {k:Nat} (h:c∉l.take k) (hx:l[k]?=some x) (hc:x≠c):c∉l.take (k+1):=by
 rw [List.take_add_one,hx]
 simp [h]
 exact fun e=>hc e.symm
theorem oi_ {s:ByteArray} {c:UInt8} {k:Nat} (hk:k<s.size) (h:c∉s.data.toList.take k) (hc:s[k]=c):cutB c s.data.toList=some (s.data.toList.take k,s.data.toList.drop (k+1)):=by
 have e:s.data.toList=s.data.toList.take k++c::s.data.toList.drop (k+1):=by
  rw [<-hc,<-a5_ s k hk,List.take_append_drop]
 have e2:=bd_ (c:=c) (s.data.toList.drop (k+1)) h
 rw [<-e] at e2
 exact e2
theorem b0_ (c:UInt8) (s:ByteArray) (w:World) (hs:s.size<=2000000) :
  Calls Tryz.prog 35 #[.string s,.int .u8 c.toNat] w fun e w'=>e=.returned (cutV c s)∧Below w.heap.size w w':=by
 obtain ⟨R,hR⟩:∃ R,Hid (cutV c s=R):=⟨_,rfl⟩
 rw [hR.out]
 go_enter Tryz.func35,Tryz.ntmps35
 go_wp2_with fail
 go_loop [7] (fun ix=>∃ (k:Nat),k<=s.size∧ix=.int .i64 k∧Hid (c∉s.data.toList.take k)) (fun ix=>s.size-(intOf ix).toNat)
 case atStart=>exact ⟨0,Nat.zero_le _,rfl,by show c∉_;simp⟩
 case round=>
  obtain ⟨k,hk,rfl,hI⟩:=hrel
  by_cases hlt:k<s.size
  ·have hb:s.data.toList[k]?=some s[k]:=by rw [List.getElem?_eq_getElem (by simpa using hlt)];rfl
   by_cases hc:s[k]=c
   ·have hfin:Hid (R=.tuple #[.string (s.extract 0 k),.string (s.extract (k+1) s.size),.bool true]):=by
     show _=_
     rw [<-hR.out,cutV,oi_ hlt hI.out hc]
     simp only [bA]
     rw [Lib.extract_eq,Lib.extract_eq]
     have e:(s.data.toList.drop (k+1)).take (s.size-(k+1))=s.data.toList.drop (k+1):=List.take_of_length_le (by simp)
     rw [e]
     simp
    have hcc:(s[k].toNat:Int)=c.toNat:=by rw [hc]
    go_wp2_with fail
    go_quiet (fail)
    go_wp2
    go_returns
    exact ⟨by rw [hfin.out];rfl,drewNB _ _⟩
   ·have hcc:¬ (s[k].toNat:Int)=c.toNat:=fun e=>hc (UInt8.toNat_inj.1 (by omega))
    go_wp2
    go_round
    case rel=>exact ⟨k+1,by omega,by go_num,m2_ hI.out hb hc⟩
    case measure=>simp [intOf];omega
  ·obtain rfl:k=s.size:=by omega
   have hfin:Hid (R=.tuple #[.string s,.string ⟨#[]⟩,.bool false]):=by
    show _=_
    have:=hI.out
    rw [List.take_of_length_le (by simp)] at this
    rw [<-hR.out,cutV,em_ this]
   go_wp2
   go_returns
   exact ⟨by rw [hfin.out];rfl,Below.refl _ _⟩
/-- A number that is read, and whether it is one. -/
def intV (o:Option Int):Value:=match o with
 |none=>.tuple #[.int .i64 0,.bool false]
 |some n=>.tuple #[.int .i64 n,.bool true]
theorem iK_ {l:By} {k n:Nat} {x:UInt8} (h:Lib.decFrom 0 (l.take k)=some n) (hx:l[k]?=some x) (h1:48<=x.toNat) (h2:x.toNat<=57):Lib.decFrom 0 (l.take (k+1))=some (n*10+(x.toNat-48)):=by
 refine Lib.decFrom_take l k 0 n x _ h hx ?_
 unfold Lib.digitVal
 rw [if_pos ⟨h1,h2⟩]
theorem iL_ {l:By} {k:Nat} {x:UInt8} (hx:l[k]?=some x) (h1:¬ (48<=x.toNat∧x.toNat<=57)):Lib.decFrom 0 l=none:=by
 obtain ⟨hk,rfl⟩:=List.getElem?_eq_some_iff.1 hx
 rw [<-List.take_append_drop k l,cd_,List.drop_eq_getElem_cons hk]
 cases Lib.decFrom 0 (l.take k) with
 |none=>rfl
 |some m=>
  simp only [Option.bind_some,Lib.decFrom,Lib.digitVal]
  rw [if_neg h1]
theorem k7_ {l:By} {k n:Nat} (h:Lib.decFrom 0 (l.take k)=some n) (hl:l.length<=10):n<10000000000:=by
 have h1:=cG_ _ 0 n h
 have h2:10 ^ (l.take k).length<=10 ^ 10:=Nat.pow_le_pow_right (by omega) (by simp;omega)
 have h3:(10:Nat) ^ 10=10000000000:=by decide
 omega
theorem fA_ (t:ByteArray) (w:World) (hs:t.size<=2000000) (hneg:¬ (1<t.size∧∃ h:0<t.size,t[0]=45)) :
  Calls Tryz.prog 65 #[.string t] w fun e w'=>e=.returned (intV (numP t.data.toList))∧w'=w:=by
 obtain ⟨R,hR⟩:∃ R,Hid (intV (numP t.data.toList)=R):=⟨_,rfl⟩
 rw [hR.out]
 have hn:Hid (numP t.data.toList=if t.data.toList.length<1∨10<t.data.toList.length∨(t.data.toList.head?=some 48∧1<t.data.toList.length) then none else (Lib.decFrom 0 t.data.toList).map fun (n:Nat)=>(n:Int)):=by
  show _=_
  by_cases hh:t.data.toList.head?=some 45
  ·obtain ⟨x,l,e⟩:∃ x l,t.data.toList=x::l:=by
    cases hc:t.data.toList with
    |nil=>rw [hc] at hh;cases hh
    |cons x l=>exact ⟨x,l,rfl⟩
   have hp:0<t.size:=by rw [Lib.size_eq t,e];simp
   have h0:t[0]=45:=by
    have:=a5_ t 0 hp
    rw [List.drop_zero] at this
    rw [this] at hh
    exact Option.some.inj hh
   have h1:t.size=1:=by
    by_cases h:1<t.size
    ·exact absurd ⟨h,hp,h0⟩ hneg
    ·omega
   have e2:t.data.toList=[45]:=by
    have:=a5_ t 0 hp
    rw [List.drop_zero,h0] at this
    rw [this,List.drop_of_length_le (by rw [<-Lib.size_eq];omega)]
   rw [e2]
   decide
  ·exact fx_ hh
 have hng:1<t.size->∀ h:0<t.size,¬ (t[0].toNat:Int)=45:=fun h1 h e=>hneg ⟨h1,h,UInt8.toNat_inj.1 (by simp;omega)⟩
 clear hneg
 go_enter Tryz.func65,Tryz.ntmps65
 by_cases h1:1<t.size
 all_goals (try have hg:=hng h1 (by omega))
 all_goals clear hng
 all_goals go_upto_region 4 with fail
 all_goals (
  have htl:Hid (t.data.toList.length=t.size):=(Lib.size_eq t).symm
  by_cases h10:t.size<1∨10<t.size
  ·have hfin:Hid (R=.tuple #[.int .i64 0,.bool false]):=by
    show _=_
    rw [<-hR.out,hn.out,if_pos (by rw [htl.out];omega)];rfl
   rcases h10 with h10 | h10
   all_goals go_wp2
   all_goals go_returns
   all_goals exact ⟨by rw [hfin.out];rfl,rfl⟩
  ·have htp:0<t.size:=by omega
   have ht10:t.size<=10:=by omega
   clear h10
   have hh:Hid (t.data.toList.head?=some t[0]):=by
    show _=_
    have:=a5_ t 0 htp
    rw [List.drop_zero] at this
    rw [this];rfl
   by_cases h48:t[0]=48∧1<t.size
   ·have hfin:Hid (R=.tuple #[.int .i64 0,.bool false]):=by
     show _=_
     rw [<-hR.out,hn.out,if_pos (by rw [hh.out,htl.out,h48.1];simp [h48.2])];rfl
    have h48a:(t[0].toNat:Int)=48:=by rw [h48.1];rfl
    have h48b:=h48.2
    clear h48
    go_wp2
    all_goals go_returns
    all_goals exact ⟨by rw [hfin.out];rfl,rfl⟩
   ·have hn2:Hid (numP t.data.toList=(Lib.decFrom 0 t.data.toList).map fun (n:Nat)=>(n:Int)):=by
     show _=_
     rw [hn.out,if_neg]
     rw [hh.out,htl.out]
     rintro (h | h | h)
     ·omega
     ·omega
     ·exact h48 ⟨Option.some.inj h.1,h.2⟩
    have h48a:¬ (t[0].toNat:Int)=48∨t.size<=1:=by
     by_cases h1:1<t.size
     ·exact .inl fun e=>h48 ⟨UInt8.toNat_inj.1 (by simp;omega),h1⟩
     ·exact .inr (by omega)
    clear h48 hh hn
    by_cases h480:(t[0].toNat:Int)=48
    all_goals (try have hle:t.size<=1:=by omega)
    all_goals clear h48a
    all_goals go_wp2_with fail
    all_goals (
     go_loop [5,6] (fun nv ix=>∃ (k m:Nat),k<=t.size∧ix=.int .i64 k∧nv=.int .i64 m∧m<10000000000∧Hid (Lib.decFrom 0 (t.data.toList.take k)=some m)) (fun _ ix=>t.size-(intOf ix).toNat)
     case atStart=>exact ⟨0,0,Nat.zero_le _,rfl,rfl,by omega,rfl⟩
     case round=>
      obtain ⟨k,m,hk,rfl,rfl,hm,hI⟩:=hrel
      by_cases hlt:k<t.size
      ·have hb:t.data.toList[k]?=some t[k]:=by rw [List.getElem?_eq_getElem (by simpa using hlt)];rfl
       by_cases hc:48<=t[k].toNat∧t[k].toNat<=57
       ·have hnx:Hid (Lib.decFrom 0 (t.data.toList.take (k+1))=some (m*10+(t[k].toNat-48))):=iK_ hI.out hb hc.1 hc.2
        have hlm:=k7_ hnx.out (by rw [htl.out];exact ht10)
        obtain ⟨hc1,hc2⟩:=hc
        have hc1':(48:Int)<=t[k].toNat:=by omega
        have hc2':(t[k].toNat:Int)<=57:=by omega
        go_wp2
        go_round
        case rel=>exact ⟨k+1,m*10+(t[k].toNat-48),by omega,by go_num,by congr 1;omega,hlm,hnx⟩
        case measure=>simp [intOf];omega
       ·have hfin:Hid (R=.tuple #[.int .i64 0,.bool false]):=by
         show _=_
         rw [<-hR.out,hn2.out,iL_ hb hc];rfl
        have hc':(t[k].toNat:Int)<48∨57<(t[k].toNat:Int):=by omega
        clear hc
        rcases hc' with hc' | hc'
        all_goals go_wp2
        all_goals go_returns
        all_goals exact ⟨by rw [hfin.out];rfl,rfl⟩
      ·obtain rfl:k=t.size:=by omega
       have hfin:Hid (R=.tuple #[.int .i64 (m:Int),.bool true]):=by
        show _=_
        have:=hI.out
        rw [List.take_of_length_le (by rw [htl.out];exact Nat.le_refl _)] at this
        rw [<-hR.out,hn2.out,this];rfl
       go_wp2
       go_returns
       exact ⟨by rw [hfin.out];rfl,rfl⟩))
theorem br_ (s:ByteArray) (w:World) (hs:s.size<=2000000) :
  Calls Tryz.prog 65 #[.string s] w fun e w'=>e=.returned (intV (numP s.data.toList))∧w'=w:=by
 obtain ⟨R,hR⟩:∃ R,Hid (intV (numP s.data.toList)=R):=⟨_,rfl⟩
 rw [hR.out]
 by_cases hneg:1<s.size∧∃ h:0<s.size,s[0]=45
 ·obtain ⟨g1,g0,g2⟩:=hneg
  have hg:(s[0].toNat:Int)=45:=by rw [g2];rfl
  obtain ⟨t,ht⟩:∃ t,Hid (s.extract 1 s.size=t):=⟨_,rfl⟩
  have hsd:Hid (s.data.toList=45::t.data.toList):=by
   show _=_
   have:=a5_ s 0 g0
   rw [List.drop_zero,g2] at this
   rw [<-ht.out,Lib.extract_data,this]
   simp
   exact (List.take_of_length_le (by simp)).symm
  have hn:Hid (numP s.data.toList=if t.data.toList.length<1∨10<t.data.toList.length∨t.data.toList.head?=some 48 then none else (Lib.decFrom 0 t.data.toList).map fun (n:Nat)=>-(n:Int)):=by
   show _=_
   rw [hsd.out];rfl
  go_enter Tryz.func65,Tryz.ntmps65
  go_upto_region 4 with fail
  rw [ht.out]
  have hts:t.size<=2000000:=by rw [<-ht.out];simp;omega
  clear ht hsd
  have htl:Hid (t.data.toList.length=t.size):=(Lib.size_eq t).symm
  by_cases h10:t.size<1∨10<t.size
  ·have hfin:Hid (R=.tuple #[.int .i64 0,.bool false]):=by
    show _=_
    rw [<-hR.out,hn.out,if_pos (by rw [htl.out];omega)];rfl
   rcases h10 with h10 | h10
   all_goals go_wp2
   all_goals go_returns
   all_goals exact ⟨by rw [hfin.out];rfl,rfl⟩
  ·have htp:0<t.size:=by omega
   have ht10:t.size<=10:=by omega
   clear h10
   have hh:Hid (t.data.toList.head?=some t[0]):=by
    show _=_
    have:=a5_ t 0 htp
    rw [List.drop_zero] at this
    rw [this];rfl
   by_cases h48:t[0]=48∧True
   ·have hfin:Hid (R=.tuple #[.int .i64 0,.bool false]):=by
     show _=_
     rw [<-hR.out,hn.out,if_pos (by rw [hh.out,htl.out,h48.1];simp)];rfl
    have h48a:(t[0].toNat:Int)=48:=by rw [h48.1];rfl
    have h48b:=h48.2
    clear h48
    go_wp2
    all_goals go_returns
    all_goals exact ⟨by rw [hfin.out];rfl,rfl⟩
   ·have hn2:Hid (numP s.data.toList=(Lib.decFrom 0 t.data.toList).map fun (n:Nat)=>-(n:Int)):=by
     show _=_
     rw [hn.out,if_neg]
     rw [hh.out,htl.out]
     rintro (h | h | h)
     ·omega
     ·omega
     ·exact h48 ⟨Option.some.inj h,trivial⟩
    have h48a:¬ (t[0].toNat:Int)=48:=fun e=>h48 ⟨UInt8.toNat_inj.1 (by simp;omega),trivial⟩
    clear h48 hh hn
    skip
    go_wp2_with fail
    all_goals (
     go_loop [5,6] (fun nv ix=>∃ (k m:Nat),k<=t.size∧ix=.int .i64 k∧nv=.int .i64 m∧m<10000000000∧Hid (Lib.decFrom 0 (t.data.toList.take k)=some m)) (fun _ ix=>t.size-(intOf ix).toNat)
     case atStart=>exact ⟨0,0,Nat.zero_le _,rfl,rfl,by omega,rfl⟩
     case round=>
      obtain ⟨k,m,hk,rfl,rfl,hm,hI⟩:=hrel
      by_cases hlt:k<t.size
      ·have hb:t.data.toList[k]?=some t[k]:=by rw [List.getElem?_eq_getElem (by simpa using hlt)];rfl
       by_cases hc:48<=t[k].toNat∧t[k].toNat<=57
       ·have hnx:Hid (Lib.decFrom 0 (t.data.toList.take (k+1))=some (m*10+(t[k].toNat-48))):=iK_ hI.out hb hc.1 hc.2
        have hlm:=k7_ hnx.out (by rw [htl.out];exact ht10)
        obtain ⟨hc1,hc2⟩:=hc
        have hc1':(48:Int)<=t[k].toNat:=by omega
        have hc2':(t[k].toNat:Int)<=57:=by omega
        go_wp2
        go_round
        case rel=>exact ⟨k+1,m*10+(t[k].toNat-48),by omega,by go_num,by congr 1;omega,hlm,hnx⟩
        case measure=>simp [intOf];omega
       ·have hfin:Hid (R=.tuple #[.int .i64 0,.bool false]):=by
         show _=_
         rw [<-hR.out,hn2.out,iL_ hb hc];rfl
        have hc':(t[k].toNat:Int)<48∨57<(t[k].toNat:Int):=by omega
        clear hc
        rcases hc' with hc' | hc'
        all_goals go_wp2
        all_goals go_returns
        all_goals exact ⟨by rw [hfin.out];rfl,rfl⟩
      ·obtain rfl:k=t.size:=by omega
       have hfin:Hid (R=.tuple #[.int .i64 (-(m:Int)),.bool true]):=by
        show _=_
        have:=hI.out
        rw [List.take_of_length_le (by rw [htl.out];exact Nat.le_refl _)] at this
        rw [<-hR.out,hn2.out,this];rfl
       go_wp2
       go_returns
       exact ⟨by rw [hfin.out];rfl,rfl⟩)
 ·rw [<-hR.out];exact fA_ s w hs hneg
end Go.Proofs.YtigldeccfpkdmaaGreatDoor
namespace Go.Proofs.YtigldeccfpkdmaaGreatDoor
open Go Go.RowKit Go.BigFrame Go.Shelf
set_option maxHeartbeats 20000000
set_option maxRecDepth 100000
theorem k8_:(Tryz.prog.info? 180).map (·.size)=some 2:=by kernel_rfl
theorem oj_:liesAt Tryz.prog Tryz.prog.depth 182 (2 / Tryz.prog.cellsOf 182) 0 180 1=true:=by kernel_rfl
theorem gw_ (b:Nat) (w:World) (h0:w.cell? ⟨b,0,none⟩=some (.pointer (some ⟨b,0,none⟩))) :
  Calls Tryz.prog 216 #[.pointer (some ⟨b,0,none⟩)] w fun e w'=>e=.returned (.tuple #[])∧w'=w:=by
 obtain ⟨j,hj,_⟩:=Option.map_eq_some_iff.1 k8_
 go_enter Tryz.func216,Tryz.ntmps216
 go_wp2
 rw [Lib.run_neq_ptr_same w _ Tryz.underlying178 hj]
 go_wp2
 go_end0
 exact ⟨rfl,rfl⟩
theorem fB_ (b:Nat) (w:World) (h0:w.cell? ⟨b,0,none⟩=some (.pointer none)) (hsh:w.shape? b=some (182,2)) (hfz:w.frozen? ⟨b,0,none⟩=false) :
  Calls Tryz.prog 216 #[.pointer (some ⟨b,0,none⟩)] w fun e w'=>e=.returned (.tuple #[])∧w'=w.setCell ⟨b,0,none⟩ (.pointer (some ⟨b,0,none⟩)):=by
 obtain ⟨j,hj,hjs⟩:=Option.map_eq_some_iff.1 k8_
 go_enter Tryz.func216,Tryz.ntmps216
 go_wp2
 rw [Lib.run_to_unsafe w ⟨b,0,none⟩ Tryz.underlying178 Tryz.underlying298 hj (by rw [hjs];decide) hsh (Nat.zero_lt_succ 1)]
 simp only [Result.andThen]
 rw [Oper.upon_value]
 go_wp2
 rw [run_callFunc_extern Tryz.func244 (by kernel_rfl) (by kernel_rfl) (by kernel_rfl) (e:=Extern.AbiNoEscape.same) (by kernel_rfl)]
 rw [Lib.run_noEscape]
 simp only [Result.andThen]
 rw [Oper.upon_value]
 go_wp2
 rw [Lib.run_from_unsafe w ⟨b,0,none⟩ Tryz.underlying298 Tryz.underlying178 hj hsh oj_]
 simp only [Result.andThen]
 rw [Oper.upon_value]
 go_wp2
 go_end0
 exact ⟨rfl,rfl⟩
theorem iM_ (B b:Nat) (bs:List Value) (w:World) (h:Lib.IsBuilderF 182 5 B b bs w) :
  Calls Tryz.prog 216 #[.pointer (some ⟨b,0,none⟩)] w fun e w'=>e=.returned (.tuple #[])∧Lib.BuilderAtF 182 5 B b (.pointer (some ⟨b,0,none⟩)) bs w'∧Below B w w'∧Lib.OthersKept 5 (some b) w w':=by
 rcases h with h | h
 ·refine (fB_ b w h.cell0 h.shape h.frozen0).mono ?_
  rintro e w' ⟨rfl,rfl⟩
  exact ⟨rfl,h.used _,(Below.refl B w).setCell (p:=⟨b,0,none⟩) h.1 _,(Lib.OthersKept.refl _ _ w).setCell ⟨b,0,none⟩ rfl _⟩
 ·refine (gw_ b w h.cell0).mono ?_
  rintro e w' ⟨rfl,rfl⟩
  exact ⟨rfl,h,Below.refl B _,Lib.OthersKept.refl _ _ _⟩
theorem infoU8:(Tryz.prog.info? 5).map (fun i=>(i.zero,i.size,i.bytes))=some (some (.int .u8 0),1,1):=by kernel_rfl
theorem cellsU8:Tryz.prog.cellsOf 5=1:=by kernel_rfl
theorem hJ_ (B b:Nat) (bs:List Value) (c:Int) (w:World) (h:Lib.IsBuilderF 182 5 B b bs w) (hlen:bs.length+1<=140737488355328) (hBw:B<=w.heap.size) :
  Calls Tryz.prog 189 #[.pointer (some ⟨b,0,none⟩),.int .u8 c] w fun e w'=>e=.returned .nilIface∧Lib.BuilderAtF 182 5 B b (.pointer (some ⟨b,0,none⟩)) (bs++[.int .u8 c]) w'∧Below B w w'∧Lib.OthersKept 5 (some b) w w':=by
 obtain ⟨i0,hi,hz0,hz1,hz2⟩:=info_parts infoU8
 go_enter Tryz.func189,Tryz.ntmps189
 go_wp2_with fail
 refine (iM_ B b bs w h).mono ?_
 rintro e w1 ⟨rfl,h1,hb1,hk1⟩
 obtain ⟨hB,v,hbk,hown,hne⟩:=h1
 have c0:w1.cell? ⟨b,0,none⟩=some (.pointer (some ⟨b,0,none⟩)):=by rw [Lib.cell_of_heap hbk];rfl
 have c1:w1.cell? ⟨b,1,none⟩=some v:=by rw [Lib.cell_of_heap hbk];rfl
 have hz:=hb1.size
 go_wp2_with (at_builtin;refine wpList_append_ownF _ rfl _ _ 173 rfl B 5 i0 (.int .u8 0) 1 1 Tryz.underlying173 hi hz0 hz1 hz2 rfl (by decide) _ _ _ rfl (hown.alloc _) ⟨w1.heap.size,0,none⟩ 1 1 [.int .u8 c] rfl rfl ?c1 ?c2 ?c3 ?c4 ?c5 ?_)
 case c1=>
  intro j u hj
  match j,hj with
  |0,hj=>simp at hj;subst hj;simp [Addr.add]
 case c2=>intro u hu;simp at hu;subst hu;rfl
 case c3=>unfold maxLen;omega
 case c4=>omega
 case c5=>simp;omega
 intro v' w2 hown' hgrow _
 have hlt:b<w1.heap.size:=(Array.getElem?_eq_some_iff.1 hbk).1
 have hb2:w2.heap[b]?=some (.cells #[.pointer (some ⟨b,0,none⟩),v] 182 (0,0)):=by
  rw [hgrow.block b (by simp;omega) (fun e=>hne e.symm),Lib.alloc_old w1 _ b hlt]
  exact hbk
 have d0:w2.cell? ⟨b,0,none⟩=some (.pointer (some ⟨b,0,none⟩)):=by rw [Lib.cell_of_heap hb2];rfl
 have d1:w2.cell? ⟨b,1,none⟩=some v:=by rw [Lib.cell_of_heap hb2];rfl
 have f1:w2.frozen? ⟨b,1,none⟩=false:=Lib.frozen_of_heap hb2 1
 obtain ⟨g,cap,rfl⟩:∃ g cap,v'=.slice (some ⟨g,0,none⟩) (bs.length+1) cap:=by
  rcases hown'.2 with ⟨_,h0⟩ | ⟨g,cap,cur,fz,hv,_⟩
  ·omega
  ·exact ⟨g,cap,hv⟩
 go_wp2
 go_ret
 refine ⟨rfl,?_,?_,((hk1.alloc _).grown hgrow (Lib.ownsRowF_kind (hown.alloc _))).setCell ⟨b,1,none⟩ rfl _⟩
 ·exact Lib.BuilderAtF.put (T:=182) (e:=5) hB hb2 (bs':=bs++[.int .u8 c]) (by simpa using hown') (by decide)
 ·exact ((hb1.alloc (by omega) _).grown hgrow (by simp;omega) (fun k hk=>(hown.lt k hk).1)).setCell (p:=⟨b,1,none⟩) hB _
theorem fC_ (B b:Nat) (bs:List Value) (s:ByteArray) (w:World) (h:Lib.IsBuilderF 182 5 B b bs w) (hlen:bs.length+s.size<=140737488355328) (hBw:B<=w.heap.size) :
  Calls Tryz.prog 187 #[.pointer (some ⟨b,0,none⟩),.string s] w fun e w'=>e=.returned (.tuple #[.int .i64 s.size,.nilIface])∧Lib.BuilderAtF 182 5 B b (.pointer (some ⟨b,0,none⟩)) (bs++Lib.strCells s) w'∧Below B w w'∧Lib.OthersKept 5 (some b) w w':=by
 obtain ⟨i0,hi,hz0,hz1,hz2⟩:=info_parts infoU8
 go_enter Tryz.func187,Tryz.ntmps187
 go_wp2_with fail
 refine (iM_ B b bs w h).mono ?_
 rintro e w1 ⟨rfl,h1,hb1,hk1⟩
 obtain ⟨hB,v,hbk,hown,hne⟩:=h1
 have c0:w1.cell? ⟨b,0,none⟩=some (.pointer (some ⟨b,0,none⟩)):=by rw [Lib.cell_of_heap hbk];rfl
 have c1:w1.cell? ⟨b,1,none⟩=some v:=by rw [Lib.cell_of_heap hbk];rfl
 have hz:=hb1.size
 go_wp2_with (at_builtin;refine Lib.wpList_append_own_stringF _ rfl _ _ 173 9 rfl B 5 i0 Tryz.underlying173 Tryz.underlying9 hi hz0 hz1 hz2 _ _ _ rfl hown s rfl ?c3 ?c4 ?c5 ?_)
 case c3=>unfold maxLen;omega
 case c4=>omega
 case c5=>omega
 intro v' w2 hown' hgrow _
 have hlt:b<w1.heap.size:=(Array.getElem?_eq_some_iff.1 hbk).1
 have hb2:w2.heap[b]?=some (.cells #[.pointer (some ⟨b,0,none⟩),v] 182 (0,0)):=by
  rw [hgrow.block b hlt (fun e=>hne e.symm)]
  exact hbk
 have d0:w2.cell? ⟨b,0,none⟩=some (.pointer (some ⟨b,0,none⟩)):=by rw [Lib.cell_of_heap hb2];rfl
 have d1:w2.cell? ⟨b,1,none⟩=some v:=by rw [Lib.cell_of_heap hb2];rfl
 have f1:w2.frozen? ⟨b,1,none⟩=false:=Lib.frozen_of_heap hb2 1
 obtain ⟨ao,n',cap,rfl⟩:∃ ao n' cap,v'=.slice ao n' cap:=by
  rcases hown'.2 with ⟨hv,_⟩ | ⟨g,cap,cur,fz,hv,_⟩
  ·exact ⟨_,_,_,hv⟩
  ·exact ⟨_,_,_,hv⟩
 go_wp2
 go_ret2
 refine ⟨rfl,?_,?_,(hk1.grown hgrow (Lib.ownsRowF_kind hown)).setCell ⟨b,1,none⟩ rfl _⟩
 ·exact Lib.BuilderAtF.put (T:=182) (e:=5) hB hb2 (bs':=bs++Lib.strCells s) (by simpa [Lib.strCells_length] using hown') (by decide)
 ·exact (hb1.grown hgrow (by omega) (fun k hk=>(hown.lt k hk).1)).setCell (p:=⟨b,1,none⟩) hB _
theorem l6_ (B b:Nat) (l:List UInt8) (w:World) (h:Lib.IsBuilderF 182 5 B b (Lib.byteCells l) w) (h0:l≠[]) :
  Calls Tryz.prog 130 #[.pointer (some ⟨b,0,none⟩)] w fun e w'=>e=.returned (.string ⟨l.toArray⟩)∧Below B w w':=by
 obtain ⟨p,hAt⟩:∃ p,Lib.BuilderAtF 182 5 B b p (Lib.byteCells l) w:=by
  rcases h with h | h
  ·exact ⟨_,h⟩
  ·exact ⟨_,h⟩
 obtain ⟨hB,v,hbk,hown,hne⟩:=hAt
 have hl0:l.length≠0:=by simpa using h0
 rw [Lib.byteCells_length] at hown
 obtain ⟨g,cap,cur,fz,rfl,hbg,hg,hfz,hnc,hcm,hcs,htake⟩:∃ g cap cur fz,v=.slice (some ⟨g,0,none⟩) l.length cap∧B<=g∧w.heap[g]?=some (.cells cur 5 fz)∧fz.2<=l.length*1∧l.length<=cap∧cap<=maxLen∧cur.size=cap*1∧cur.toList.take (l.length*1)=Lib.byteCells l:=by
  rcases hown.2 with ⟨_,hz⟩ | ⟨g,cap,cur,fz,hv,r⟩
  ·exact absurd hz hl0
  ·exact ⟨g,cap,cur,fz,hv,r⟩
 have c1:w.drew.cell? ⟨b,1,none⟩=some (.slice (some ⟨g,0,none⟩) l.length cap):=by
  have:w.drew.heap[b]?=some (.cells #[p,.slice (some ⟨g,0,none⟩) l.length cap] 182 (0,0)):=hbk
  rw [Lib.cell_of_heap this];rfl
 have hSD:(Builtin.unsafeSliceData_ #[173] 247 #[.slice (some ⟨g,0,none⟩) l.length cap]).run Tryz.prog w.drew=.ok (.pointer (some ⟨g,0,none⟩)) w.drew:=
  Lib.run_unsafeSliceData_row _ _ _ _ _ _ (by omega)
 have hUS:(Builtin.unsafeString_ #[247,3] 9 #[.pointer (some ⟨g,0,none⟩),.int .i64 l.length]).run Tryz.prog w.drew=.ok (.string ⟨l.toArray⟩) (w.drew.freeze ⟨g,0,none⟩ l.length):=by
  refine Lib.run_unsafeString_row w.drew 247 3 9 5 Tryz.underlying247 cellsU8 g cur.size (by have hg':w.drew.heap[g]?=some (.cells cur 5 fz):=hg;simp [World.shape?,hg']) l h0 (by omega) (by unfold maxLen at hcm;omega) ?_
  intro j x hx
  have:=hown.cells (g:=g) rfl j (.int .u8 x.toNat) (by simp [Lib.byteCells,hx])
  exact this
 have mixed:Tryz.prog.follows .mixedOrders=true:=by kernel_rfl
 go_enter Tryz.func130,Tryz.ntmps130
 go_wp2
 go_region_o
 all_goals (go_wp2;go_ret;exact ⟨rfl,Lib.below_freeze (Below.drew (Below.refl B w)) (p:=⟨g,0,none⟩) hbg _⟩)
end Go.Proofs.YtigldeccfpkdmaaGreatDoor
namespace Go.Proofs.YtigldeccfpkdmaaGreatDoor
open Go.Shelf Go.RowKit Go.Lib
set_option maxHeartbeats 20000000
set_option maxRecDepth 100000
def k9_:Go.Shelf.Ren:=⟨fun | 156=>188 | 165=>217 | 166=>187 | 169=>130 | 240=>216 | 241=>245 | 276=>244 | 277=>274 | n=>n,fun | 31=>79 | 9=>9 | 3=>3 | 4=>4 | 0=>0 | 20=>20 | 72=>180 | 76=>243 | 70=>178 | 37=>173 | 75=>75 | 127=>247 | 164=>298 | 5=>5 | 80=>186 | n=>n,fun | n=>n⟩
theorem jnL:Lays.n156 Tryz.prog k9_ where
 mixed:=by kernel_rfl
 f156:=Tryz.func188.trans (congrArg some (by kernel_rfl))
 f165:=Tryz.func217.trans (congrArg some (by kernel_rfl))
 f166:=Tryz.func187.trans (congrArg some (by kernel_rfl))
 f169:=Tryz.func130.trans (congrArg some (by kernel_rfl))
 f240:=Tryz.func216.trans (congrArg some (by kernel_rfl))
 f241:=Tryz.func245.trans (congrArg some (by kernel_rfl))
 f276:=Tryz.func244.trans (congrArg some (by kernel_rfl))
 f277:=Tryz.func274.trans (congrArg some (by kernel_rfl))
 t0:=Tryz.underlying0
 a0:=Tryz.isAgg0
 z0:=Tryz.sizeOf0
 v0:=Tryz.zeroValue0
 t3:=Tryz.underlying3
 a3:=Tryz.isAgg3
 z3:=Tryz.sizeOf3
 v3:=Tryz.zeroValue3
 t4:=Tryz.underlying4
 a4:=Tryz.isAgg4
 z4:=Tryz.sizeOf4
 v4:=Tryz.zeroValue4
 t9:=Tryz.underlying9
 a9:=Tryz.isAgg9
 z9:=Tryz.sizeOf9
 v9:=Tryz.zeroValue9
 t20:=Tryz.underlying20
 a20:=Tryz.isAgg20
 z20:=Tryz.sizeOf20
 v20:=Tryz.zeroValue20
 t31:=Tryz.underlying79
 a31:=Tryz.isAgg79
 z31:=Tryz.sizeOf79
 v31:=Tryz.zeroValue79
 t37:=Tryz.underlying173
 a37:=Tryz.isAgg173
 z37:=Tryz.sizeOf173
 v37:=Tryz.zeroValue173
 t70:=Tryz.underlying178
 a70:=Tryz.isAgg178
 z70:=Tryz.sizeOf178
 v70:=Tryz.zeroValue178
 t72:=Tryz.underlying180
 a72:=Tryz.isAgg180
 z72:=Tryz.sizeOf180
 v72:=Tryz.zeroValue180
 t75:=Tryz.underlying75
 a75:=Tryz.isAgg75
 z75:=Tryz.sizeOf75
 v75:=Tryz.zeroValue75
 t76:=Tryz.underlying243
 a76:=Tryz.isAgg243
 z76:=Tryz.sizeOf243
 v76:=Tryz.zeroValue243
 t127:=Tryz.underlying247
 a127:=Tryz.isAgg247
 z127:=Tryz.sizeOf247
 v127:=Tryz.zeroValue247
 t164:=Tryz.underlying298
 a164:=Tryz.isAgg298
 z164:=Tryz.sizeOf298
 v164:=Tryz.zeroValue298
theorem jnX:Builder.Extra Tryz.prog k9_ where
 sizeBuilder:=by kernel_rfl
 liesBuilder:=by kernel_rfl
 t5:=Tryz.underlying5
 a5:=Tryz.isAgg5
 z5:=Tryz.sizeOf5
 v5:=Tryz.zeroValue5
 infoByte:=by kernel_rfl
 cellsByte:=by kernel_rfl
 sizeByte:=by kernel_rfl
 neB5:=by decide
end Go.Proofs.YtigldeccfpkdmaaGreatDoor
namespace Go.Proofs.YtigldeccfpkdmaaGreatDoor
open Go Go.RowKit
set_option maxHeartbeats 20000000
set_option maxRecDepth 100000
section
variable {P:Program} {ops:Array Oper} {Q:Exit->Act->World->Prop} {md:Region.Mode}
/-- What is to hold behind all but the last: the last one leads on. -/
def LastQ (P:Program) (ops:Array Oper) (n:Nat) (Q:Exit->Act->World->Prop):Exit->Act->World->Prop
 |.normal,a,w=>wpOp P ops Q n (Q .normal) a w
 |e,a,w=>Q e a w
theorem l7_ {n:Nat} (h:LetsOut (LastQ P ops n Q)):LetsOut Q:=by
 obtain ⟨a,w,h⟩:=h
 exact ⟨a,w,h⟩
theorem l8_ {n i:Nat} {K:Act->World->Prop} {a:Act} {w:World} (h:wpOp P ops (LastQ P ops n Q) i K a w):wpOp P ops Q i K a w:=by
 unfold wpOp at *
 split
 ·rename_i h0;simp only [h0] at h;exact h
 ·rename_i o h0
  simp only [h0] at h
  split
  ·rename_i hw
   rw [if_pos hw] at h
   rcases h with h | ⟨h1,h2⟩
   ·left
    unfold Oper.wp at *
    generalize (execOp a.eval o).run P w=r at *
    cases r with
    |ok nx w'=>
     cases nx<;>simp only [Oper.upon] at h ⊢<;>try exact h
    |halt x w'=>
     cases x<;>simp only [Oper.upon] at h ⊢
     exact h
   ·exact .inr ⟨h1,l7_ h2⟩
  ·rename_i hw
   rw [if_neg hw] at h
   exact h
/-- How many ahead of n have not come up. -/
def unl (n:Nat) (listed:Array Bool):Nat:=(List.range n).countP (fun i=>listed.getD i true==false)
/-- Each waits for elder ones alone. -/
def dagB (ops:Array Oper):Bool:=(List.range ops.size).all fun j=>match ops[j]? with | some o=>o.after.all fun e=>decide (e.on<j) | none=>true
theorem dS_ (h:dagB ops=true) {j:Nat} {o:Oper} (hj:ops[j]?=some o):∀ e∈o.after,e.on<j:=by
 intro e he
 have h1:=List.all_eq_true.1 h j (List.mem_range.2 (Array.getElem?_eq_some_iff.1 hj).1)
 simp only [hj] at h1
 have:=Array.all_eq_true_iff_forall_mem.1 h1 e he
 simpa using this
theorem ok_ {n:Nat} {listed:Array Bool} (h:0<unl n listed):∃ i,i<n∧listed.getD i true=false:=by
 obtain ⟨i,hi,h1⟩:=List.countP_pos_iff.1 h
 exact ⟨i,List.mem_range.1 hi,by simpa using h1⟩
theorem m3_ {n:Nat} {listed:Array Bool} (h:unl n listed=0):∀ i,i<n->listed.getD i true=true:=by
 intro i hi
 have:=List.countP_eq_zero.1 h i (List.mem_range.2 hi)
 simpa using this
theorem g4_ {listed:Array Bool} {i:Nat} (hi:i<listed.size) (hf:listed.getD i true=false):∀ (l:List Nat),l.Nodup->i∈l->l.countP (fun k=>(listed.setIfInBounds i true).getD k true==false)+1=l.countP (fun k=>listed.getD k true==false)
 |[],_,h=>by cases h
 |x::r,hn,h=>by
  rw [List.countP_cons,List.countP_cons]
  by_cases hx:x=i
  ·subst hx
   have hr:∀ k∈r,((listed.setIfInBounds x true).getD k true==false)=(listed.getD k true==false):=fun k hk=>by
    rw [getD_set_ne true (fun e=>by subst e;exact (List.nodup_cons.1 hn).1 hk)]
   rw [List.countP_congr (fun k hk=>by rw [hr k hk])]
   have h1:(listed.setIfInBounds x true).getD x true=true:=by simp [hi]
   simp only [h1,hf]
   simp
  ·have ih:=g4_ hi hf r (List.nodup_cons.1 hn).2 (by rcases List.mem_cons.1 h with e | e;exact absurd e.symm hx;exact e)
   rw [getD_set_ne true (Ne.symm hx)]
   omega
theorem l9_ {n:Nat} {listed:Array Bool} (h:0<unl n listed):∃ i,i<n∧listed.getD i true=false∧∀ k,k<i->listed.getD k true=true:=by
 obtain ⟨i,hi,hf⟩:=ok_ h
 induction i using Nat.strongRecOn with
 |_ i ih=>
  by_cases hk:∃ k,k<i∧listed.getD k true=false
  ·obtain ⟨k,h1,h2⟩:=hk
   exact ih k h1 (by omega) h2
  ·refine ⟨i,hi,hf,fun k hki=>?_⟩
   cases hb:listed.getD k true with
   |true=>rfl
   |false=>exact absurd ⟨k,hki,hb⟩ hk
theorem fD_ {listed:Array Bool} {i:Nat} (hi:i<listed.size) (h:listed.getD i true=true):listed.getD i false=true:=by
 simp [hi] at h ⊢;exact h
theorem kl_ {n:Nat} (hn:ops.size=n+1) (hs:Region.sinkB md ops n=true) (hd:dagB ops=true) :
  ∀ (fuel:Nat) (listed:Array Bool) (a:Act) (w:World),HeadInv md ops n listed->unl n listed=fuel->
   wpAny P md ops (LastQ P ops n Q) fuel (listed.setIfInBounds n true) a w->wpAny P md ops Q (fuel+1) listed a w:=by
 have hc:Region.chainB md ops n=true:=by
  refine List.all_eq_true.2 fun t ht=>?_
  have:=List.mem_range.1 ht
  simp;left;omega
 intro fuel
 induction fuel with
 |zero=>
  intro listed a w inv hu h
  have hall:=m3_ hu
  have hsz:=inv.size
  obtain ⟨h1,h2⟩:=h
  have hrn:∀ i∈Region.ready md ops listed,i=n:=fun i hi=>by
   obtain ⟨q1,o,q2,_⟩:=mem_ready.1 hi
   have:=(Array.getElem?_eq_some_iff.1 q2).1
   rcases Nat.lt_or_ge i n with q | q
   ·rw [hall i q] at q1;cases q1
   ·omega
  have hin:n∈Region.ready md ops listed:=by
   have hlt:n<ops.size:=by omega
   have ho:ops[n]?=some ops[n]:=by simp [hlt]
   exact mem_ready.2 ⟨inv.tail n (Nat.le_refl _) hlt,_,ho,fun e he _=>fD_ (by have:=dS_ hd ho e he;omega) (hall _ (dS_ hd ho e he))⟩
  refine ⟨fun h0=>(by rw [h0] at hin;cases hin),fun i hi=>?_⟩
  obtain rfl:=hrn i hi
  exact wpOp_mono (fun a' w' hq=>⟨h1,hq⟩) h2
 |succ fuel ih=>
  intro listed a w inv hu h
  have hsz:=inv.size
  obtain ⟨i0,hi0,hf0,hk0⟩:=l9_ (n:=n) (listed:=listed) (by omega)
  have hin:i0∈Region.ready md ops listed:=by
   have hlt:i0<ops.size:=by omega
   have ho:ops[i0]?=some ops[i0]:=by simp [hlt]
   exact mem_ready.2 ⟨hf0,_,ho,fun e he _=>fD_ (by have:=dS_ hd ho e he;omega) (hk0 _ (dS_ hd ho e he))⟩
  refine ⟨fun h0=>(by rw [h0] at hin;cases hin),fun i hi=>?_⟩
  obtain ⟨q1,o,q2,_⟩:=mem_ready.1 hi
  have hlt:=(Array.getElem?_eq_some_iff.1 q2).1
  have hni:i<n:=by
   rcases Nat.lt_or_ge i n with q | q
   ·exact q
   ·exact absurd hi (tail_waits hs hc (by omega) inv _ i0 rfl hi0 hf0 i q)
  have h2:=h.2 i (ready_mono hi (by omega))
  refine l8_ (n:=n) (wpOp_mono (fun a' w' hq=>?_) h2)
  refine ih _ a' w' (inv.set hi hni) ?_ ?_
  ·have:=g4_ (listed:=listed) (i:=i) (by omega) q1 (List.range n) List.nodup_range (List.mem_range.2 hni)
   unfold unl at *
   omega
  ·rw [Array.setIfInBounds_comm _ _ (by omega)]
   exact hq
/-- A region whose last operation waits for all others: S is to hold behind each of these, not behind the last. -/
theorem ax_ {S:World->Prop} {id:Nat} {a:Act} {w:World} (n:Nat) (hm:P.follows .mixedOrders=true) (hB:(decide (ops.size=n+1)&&Region.sinkB .any ops n&&dagB ops)=true)
  (h:wpAnyH P .any ops (LastQ P ops n Q) S n ((Array.replicate ops.size false).setIfInBounds n true) a w.drew):(Code.region id ops true).wp P Q a w:=by
 simp only [Bool.and_eq_true,decide_eq_true_eq] at hB
 refine wp_region_any hm ?_
 have hx:=kl_ (P:=P) (Q:=Q) hB.1.1 hB.1.2 hB.2 n (Array.replicate ops.size false) a w.drew ⟨by simp,fun j oj _ hl=>(by rw [getD_replicate_false] at hl;cases hl),fun t _ ht=>(by simp [ht])⟩ (by
  unfold unl
  rw [List.countP_eq_length.2 (fun k hk=>by have:=List.mem_range.1 hk;have:k<ops.size:=(by omega);simp [this])]
  simp) (wpAny_of_held _ _ _ _ h)
 rw [hB.1.1] at hx ⊢
 rw [<-hB.1.1]
 rw [<-hB.1.1] at hx
 exact hx
variable {S:World->Prop}
theorem takeL {l:List Oper} {i:Nat} {oi:Oper} {v:Value} {fuel:Nat} {listed:Array Bool} {a:Act} {w:World} (hi:l[i]?=some oi)
  (hs:Region.noSelect l.toArray=true) (hf:Region.free md l.toArray listed i=true) (hr:(Region.ready md l.toArray listed).contains i=true)
  (hQ:∀ c a w,Q (.panic c) (a.put oi.dst v) w->Q (.panic c) a w) (hy:YieldsIf P l.toArray S oi v a) (hS:S w)
  (h:wpAnyH P md l.toArray Q S fuel (listed.setIfInBounds i true) (a.put oi.dst v) w):wpAnyH P md l.toArray Q S (fuel+1) listed a w:=
 wpAnyH_take (by simpa using hi) hs hf hr hQ hy hS h
theorem tk {l:List Oper} (i:Nat) {oi:Oper} {v:Value} {fuel:Nat} {listed li:Array Bool} {a b:Act} {w:World} (h:wpAnyH P md l.toArray Q S fuel li b w) (hi:l[i]?=some oi:=by rfl)
  (hB:(Region.noSelect l.toArray&&Region.free md l.toArray listed i&&(Region.ready md l.toArray listed).contains i)=true:=by kernel_rfl) (hw:Region.wanted oi (yielded l.toArray a.tmps)=true:=by rfl)
  (hy:∀ w,S w->(execOp a.eval oi).run P w=.ok (.value v) w:=by (intro u hu;(try dsimp only at hu);go_simp<;>with_reducible rfl)) (hQ:∀ c a w,Q (.panic c) (a.put oi.dst v) w->Q (.panic c) a w:=by exact fun _ _ _ h=>h) (hS:S w:=by first | assumption | trivial)
  (hl:listed.setIfInBounds i true=li:=by (try simp only [List.setIfInBounds_toArray,List.set_cons_zero,List.set_cons_succ]);rfl) (ha:a.put oi.dst v=b:=by (try simp only [Act.put,lsA,lsB,lsC]);rfl):wpAnyH P md l.toArray Q S (fuel+1) listed a w:=by
 subst hl ha
 simp only [Bool.and_eq_true] at hB
 exact takeL hi hB.1.1 hB.1.2 hB.2 hQ (.inl ⟨hw,hy⟩) hS h
theorem tku {l:List Oper} (i:Nat) {oi:Oper} {fuel:Nat} {listed li:Array Bool} {a b:Act} {w:World} (h:wpAnyH P md l.toArray Q S fuel li b w) (hi:l[i]?=some oi:=by rfl)
  (hB:(Region.noSelect l.toArray&&Region.free md l.toArray listed i&&(Region.ready md l.toArray listed).contains i)=true:=by kernel_rfl) (hw:Region.wanted oi (yielded l.toArray a.tmps)=false:=by rfl)
  (hQ:∀ c a w,Q (.panic c) (a.put oi.dst undef) w->Q (.panic c) a w:=by exact fun _ _ _ h=>h) (hS:S w:=by first | assumption | trivial)
  (hl:listed.setIfInBounds i true=li:=by (try simp only [List.setIfInBounds_toArray,List.set_cons_zero,List.set_cons_succ]);rfl) (ha:a.put oi.dst undef=b:=by (try simp only [Act.put,lsA,lsB,lsC]);rfl):wpAnyH P md l.toArray Q S (fuel+1) listed a w:=by
 subst hl ha
 simp only [Bool.and_eq_true] at hB
 exact takeL hi hB.1.1 hB.1.2 hB.2 hQ (.inr ⟨hw,rfl⟩) hS h
theorem oneL {l:List Oper} {i:Nat} {o:Oper} {fuel:Nat} {listed:Array Bool} {a:Act} {w:World} (hr:Region.ready md l.toArray listed=[i]) (hi:l[i]?=some o)
  (h:∀ K':Act->World->Prop,Shut (∀ a w,S w->(S w->wpAnyH P md l.toArray Q S fuel (listed.setIfInBounds i true) a w)->K' a w)->if Region.wanted o (yielded l.toArray a.tmps)=true then Oper.wp P o a w K' Q else K' (a.put o.dst undef) w) :
  wpAnyH P md l.toArray Q S (fuel+1) listed a w:=
 wpAnyH_ready hr (by simp) (AllReadyH.cons (by simpa using hi) h AllReadyH.nil)
theorem lastL {l:List Oper} {n:Nat} {o:Oper} {a:Act} {w:World} (hi:l[n]?=some o) (h:wpList P l.toArray Q [o] a w):LastQ P l.toArray n Q .normal a w:=by
 have hi':l.toArray[n]?=some o:=by simpa using hi
 show wpOp P l.toArray Q n (Q .normal) a w
 unfold wpOp
 simp only [hi']
 exact h
end
end Go.Proofs.YtigldeccfpkdmaaGreatDoor
