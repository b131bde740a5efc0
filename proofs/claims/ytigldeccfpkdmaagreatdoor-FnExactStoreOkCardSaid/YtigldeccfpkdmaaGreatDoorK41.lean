/- A commitment's bytes, by the model. A commitment's bytes, by the program. A contract of the library, laid at this program. The laws' marks of parts, extents and counts: written from a number on, and held. The laws' marks of items and volumes: plain, and what they leave alone. The laws' marks of a pool that was read. A text read by both: the law's walk. -/
import Derived.Test.YtigldeccfpkdmaaGreatDoorK21
import Derived.Test.YtigldeccfpkdmaaGreatDoorK40
import Derived.Test.YtigldeccfpkdmaaGreatDoorK20
import Derived.Test.YtigldeccfpkdmaaGreatDoorProg
import Derived.Shelf.Strings.Cut
import Derived.Test.YtigldeccfpkdmaaGreatDoorK00
import Derived.Test.YtigldeccfpkdmaaGreatDoorK12
import Derived.Test.YtigldeccfpkdmaaGreatDoorK22
namespace Go.Proofs.YtigldeccfpkdmaaGreatDoor
open Go Go.RowKit Go.BigFrame Go.Shelf
set_option maxHeartbeats 20000000
set_option maxRecDepth 100000
/-- The bytes of a commitment; none where it is not right. -/
def superO (n:Int) (p:Po):ByteArray:=if (0<=n∧n<=1000000000)∧poolB p=true∧p.lt=[] then superC n (textW p) else ⟨#[]⟩
theorem eM_ {n:Int} {p:Po} (h:¬ ((0<=n∧n<=1000000000)∧poolB p=true∧p.lt=[])):superO n p=⟨#[]⟩:=if_neg h
theorem ge_ {n:Int} {p:Po} (h0:0<=n) (h1:n<=1000000000) (hp:poolB p=true) (hl:p.lt=[]):superO n p=superC n (textW p):=if_pos ⟨⟨h0,h1⟩,hp,hl⟩
theorem ig_ (B0:Nat) (v:Value) (p:Po) (n:Int) (w:World) (h:PoolAt B0 w v p) (hd:DimP p) (hN:NumO p) (h0:0<=n) (h1:n<=1000000000) :
  Calls Tryz.prog 56 #[.int .i64 n,v] w fun e w'=>e=.returned (.string (superC n (textW p)))∧Below w.heap.size w w':=by
 have hPA:=h
 obtain ⟨ea,en,ec,va,vn,vc,ra,rn,rc,la,ln,lc,rfl,_⟩:=h
 have hs:(⟨(textW p).toArray⟩:ByteArray).size<=1000000:=by show (textW p).toArray.size<=_;simpa using hN.len
 have:=gK_ p.size p.next ea en ec va vn vc ra rn rc la ln lc n ⟨(textW p).toArray⟩ w h0 h1 hs (fun u hu=>eZ_ B0 _ p u (hPA.below hu) hd hN)
 simpa using this
theorem gf_ (B0:Nat) (hB0:0<B0) (v:Value) (p:Po) (n:Int) (w:World) (h:PoolAt B0 w v p) (hd:DimP p) (hN:poolB p=true->NumO p) :
  Calls Tryz.prog 15 #[.int .i64 n,v] w fun e w'=>e=.returned (.string (superO n p))∧Below w.heap.size w w':=by
 have hPA:=h
 obtain ⟨ea,en,ec,va,vn,vc,ra,rn,rc,la,ln,lc,rfl,_,_,_,h4,_⟩:=h
 have hlen:Hid (p.lt.length=ln):=h4.len
 clear h4
 have C:=Blk.new w #[.int .i64 p.size,.int .i64 p.next,.slice ea en ec,.slice va vn vc,.slice ra rn rc,.slice la ln lc] 26
 have hBw:Below w.heap.size w (w.alloc (.cells #[.int .i64 p.size,.int .i64 p.next,.slice ea en ec,.slice va vn vc,.slice ra rn rc,.slice la ln lc] 26)):=by go_grown
 have kin:=fun (u:World)=>ao_ n 0 1000000000 u
 by_cases hx:(0<=n∧n<=1000000000)∧poolB p=true∧p.lt=[]
 ·obtain ⟨⟨h0,h1⟩,hp,hl⟩:=hx
  have hln:ln=0:=by rw [<-hlen.out,hl];rfl
  subst hln
  have ks:=fun (u:World) (hu:Below w.heap.size w u)=>ig_ B0 _ p n u (hPA.below hu) hd (hN hp) h0 h1
  have kp:=fun (u:World) (hu:Below w.heap.size w u)=>bJ_ B0 hB0 _ p u (hPA.below hu) hd
  rw [hp] at kp
  rw [ge_ h0 h1 hp hl]
  obtain ⟨T,hT⟩:∃ z,Hid (superC n (textW p)=z):=⟨_,rfl⟩
  rw [hT.out] at ks
  rw [hT.out]
  go_enter Tryz.func15,Tryz.ntmps15
  go_wp2_with fail
  generalize w.alloc (.cells #[.int .i64 p.size,.int .i64 p.next,.slice ea en ec,.slice va vn vc,.slice ra rn rc,.slice la 0 lc] 26)=W at *
  have d0:=C.cell 0
  have d1:=C.cell 1
  have d2:=C.cell 2
  have d3:=C.cell 3
  have d4:=C.cell 4
  have d5:=C.cell 5
  refine (kin W).mono ?_
  rintro e w1 ⟨rfl,rfl⟩
  rw [show (decide (0<=n)&&decide (n<=1000000000))=true by simp [h0,h1]]
  go_wp2_with fail
  refine (kp _ hBw).mono ?_
  rintro e w2 ⟨rfl,hB2⟩
  have C2:=C.below hB2
  replace hB2:=chain hBw hB2
  clear d0 d1 d2 d3 d4 d5 C hBw
  obtain ⟨d0,d1,d2,d3,d4,d5⟩:=C2.six
  go_wp2_with fail
  refine (ks w2 hB2).mono ?_
  rintro e w3 ⟨rfl,hB3⟩
  go_wp2
  go_returns
  exact ⟨rfl,chain hB2 hB3⟩
 ·rw [eM_ hx]
  have kp:=fun (u:World) (hu:Below w.heap.size w u)=>bJ_ B0 hB0 _ p u (hPA.below hu) hd
  go_enter Tryz.func15,Tryz.ntmps15
  go_wp2_with fail
  generalize w.alloc (.cells #[.int .i64 p.size,.int .i64 p.next,.slice ea en ec,.slice va vn vc,.slice ra rn rc,.slice la ln lc] 26)=W at *
  obtain ⟨d0,d1,d2,d3,d4,d5⟩:=C.six
  refine (kin W).mono ?_
  rintro e w1 ⟨rfl,rfl⟩
  by_cases hin:0<=n∧n<=1000000000
  ·rw [show (decide (0<=n)&&decide (n<=1000000000))=true by simp [hin.1,hin.2]]
   go_wp2_with fail
   refine (kp _ hBw).mono ?_
   rintro e w2 ⟨rfl,hB2⟩
   have C2:=C.below hB2
   replace hB2:=chain hBw hB2
   clear d0 d1 d2 d3 d4 d5 C hBw
   obtain ⟨d0,d1,d2,d3,d4,d5⟩:=C2.six
   cases hp:poolB p
   ·go_wp2
    go_returns
    exact ⟨rfl,hB2⟩
   ·have hl:0<ln:=by
     rcases Nat.eq_zero_or_pos ln with h | h
     ·exact absurd ⟨hin,hp,List.eq_nil_of_length_eq_zero (by rw [hlen.out];exact h)⟩ hx
     ·exact h
    go_wp2
    go_returns
    exact ⟨rfl,hB2⟩
  ·have hb:(decide (0<=n)&&decide (n<=1000000000))=false:=by
    cases hc:(decide (0<=n)&&decide (n<=1000000000)) with
    |false=>rfl
    |true=>simp at hc;exact absurd hc hin
   rw [hb]
   go_wp2
   go_returns
   exact ⟨rfl,hBw⟩
theorem lS_ (p:Po):¬ (⟨(textW p).toArray⟩:ByteArray).toList=[]:=by
 have h:textW p≠[]:=by unfold textW lineL;simp
 rw [ByteArray.toList_eq]
 simpa using h
theorem n0_ {T:ByteArray} (h:¬ T.toList=[]):T.toList.isEmpty=false:=by
 cases hc:T.toList with
 |nil=>exact absurd hc h
 |cons x l=>rfl
theorem gg_ (B0:Nat) (v:Value) (p:Po) (n:Int) (w:World) (h:PoolAt B0 w v p) (hd:DimP p) (hN:poolB p=true->NumO p) (ht:TabP w) (hg:9<=w.heap.size) :
  Calls Tryz.prog 17 #[.int .i64 n,v] w fun e w'=>e=.returned (.string (superO n p))∧Below w.heap.size w w':=by
 have hPA:=h
 obtain ⟨ea,en,ec,va,vn,vc,ra,rn,rc,la,ln,lc,rfl,_,_,_,h4,_⟩:=h
 have hlen:Hid (p.lt.length=ln):=h4.len
 clear h4
 have C:=Blk.new w #[.int .i64 p.size,.int .i64 p.next,.slice ea en ec,.slice va vn vc,.slice ra rn rc,.slice la ln lc] 26
 have hBw:Below w.heap.size w (w.alloc (.cells #[.int .i64 p.size,.int .i64 p.next,.slice ea en ec,.slice va vn vc,.slice ra rn rc,.slice la ln lc] 26)):=by go_grown
 have kt:=fun (u:World) (hu:Below w.heap.size w u)=>gD_ B0 _ p u (hPA.below hu) hd hN (aK_ ht hu hg) (by have:=hu.size;omega)
 obtain ⟨T,hT⟩:∃ z,Hid (textO p=z):=⟨_,rfl⟩
 rw [hT.out] at kt
 by_cases hx:(0<=n∧n<=1000000000)∧poolB p=true∧p.lt=[]
 ·obtain ⟨⟨h0,h1⟩,hp,hl⟩:=hx
  have hln:ln=0:=by rw [<-hlen.out,hl];rfl
  subst hln
  have hTw:Hid (T=⟨(textW p).toArray⟩):=by show _=_;rw [<-hT.out];unfold textO;rw [hp];rfl
  have hT0:¬ T.toList=[]:=by rw [hTw.out];exact lS_ p
  have hT1:=n0_ hT0
  have hTs:T.size<=1000000:=by rw [hTw.out];show (textW p).toArray.size<=_;simpa using (hN hp).len
  obtain ⟨dn,hdn⟩:∃ zz,Hid (decB n=zz):=⟨_,rfl⟩
  have hdl:dn.size<=13:=by rw [<-hdn.out];exact cq_ (by omega) (by omega)
  obtain ⟨b,hb⟩:∃ z,Hid (z=dn++⟨#[10]⟩++T):=⟨_,rfl⟩
  have hbb:Hid (b=⟨(bodyC n (textW p)).toArray⟩):=by show _=_;rw [hb.out,lR_ hdn.out hTw.out.symm]
  have hbs:b.size<=1000014:=by
   rw [hbb.out]
   show (bodyC n (textW p)).toArray.size<=_
   simpa using j4_ h0 h1 (hN hp).len
  have e1:¬ 9223372036854775807<dn.size+(⟨#[10]⟩:ByteArray).size:=by show ¬ _<_+1;omega
  have e2:¬ 9223372036854775807<dn.size+(⟨#[10]⟩:ByteArray).size+T.size:=by show ¬ _<_+1+_;omega
  have hfin:Hid (superO n p=hiB b.size++b++loB (crcS b.data.toList)):=by
   show _=_
   rw [ge_ h0 h1 hp hl]
   unfold superC
   rw [hbb.out]
   have:((⟨(bodyC n (textW p)).toArray⟩:ByteArray).size)=(bodyC n (textW p)).length:=by show (bodyC n (textW p)).toArray.size=_;simp
   rw [this]
  generalize superO n p=R at *
  go_enter Tryz.func17,Tryz.ntmps17
  go_wp2_with fail
  generalize w.alloc (.cells #[.int .i64 p.size,.int .i64 p.next,.slice ea en ec,.slice va vn vc,.slice ra rn rc,.slice la 0 lc] 26)=W at *
  refine (kt W hBw).mono ?_
  rintro e w1 ⟨rfl,hB1⟩
  have c5:=(C.below hB1).cell 5
  replace hB1:=chain hBw hB1
  clear C hBw kt
  go_wp2_with fail
  refine (ak_ n _ (by omega) (by omega) (aK_ ht hB1 hg)).mono ?_
  rintro e w2 ⟨rfl,hB2⟩
  rw [hdn.out]
  replace hB2:=chain hB1 hB2
  go_wp2_with fail
  have hsz:(dn.size:Int)+1+T.size=b.size:=by
   rw [hb.out,cp_,cp_]
   show _=((dn.size+1+T.size:Nat):Int)
   omega
  rw [hsz,<-hb.out]
  clear hsz
  refine (ek_ b.size _ ⟨by omega,by omega⟩).mono ?_
  rintro e w3 ⟨rfl,hB3⟩
  replace hB3:=chain hB2 hB3
  obtain ⟨H,hH⟩:∃ z,Hid (hiB b.size=z):=⟨_,rfl⟩
  obtain ⟨L,hL⟩:∃ z,Hid (loB (crcS b.data.toList)=z):=⟨_,rfl⟩
  have e3:¬ 9223372036854775807<H.size+b.size:=by
   have:H.size=4:=by rw [<-hH.out,hiB,strOfNums_size];rfl
   omega
  have e4:¬ 9223372036854775807<H.size+b.size+L.size:=by
   have:H.size=4:=by rw [<-hH.out,hiB,strOfNums_size];rfl
   have:L.size=4:=by rw [<-hL.out,loB,strOfNums_size];rfl
   omega
  rw [hH.out,hL.out] at hfin
  rw [hH.out]
  go_wp2_with fail
  refine (gJ_ b _ (by omega)).mono ?_
  rintro e w4 ⟨rfl,rfl⟩
  go_wp2_with fail
  refine (eL_ (crcS b.data.toList) _ (df_ _ _ _)).mono ?_
  rintro e w5 ⟨rfl,hB5⟩
  rw [hL.out]
  go_wp2
  go_returns
  exact ⟨by rw [hfin.out];rfl,chain hB3 hB5⟩
 ·rw [eM_ hx]
  go_enter Tryz.func17,Tryz.ntmps17
  go_wp2_with fail
  generalize w.alloc (.cells #[.int .i64 p.size,.int .i64 p.next,.slice ea en ec,.slice va vn vc,.slice ra rn rc,.slice la ln lc] 26)=W at *
  refine (kt W hBw).mono ?_
  rintro e w1 ⟨rfl,hB1⟩
  have c5:=(C.below hB1).cell 5
  replace hB1:=chain hBw hB1
  clear C hBw kt
  by_cases x0:n<0
  ·go_wp2
   go_returns
   exact ⟨rfl,hB1⟩
  ·by_cases x1:1000000000<n
   ·go_wp2
    go_returns
    exact ⟨rfl,hB1⟩
   ·cases hp:poolB p
    ·have hT0:T.toList=[]:=by
      rw [<-hT.out];unfold textO
      rw [hp,if_neg (by simp),ByteArray.toList_eq]
     have hT1:T.toList.isEmpty=true:=by rw [hT0];rfl
     go_wp2
     go_returns
     exact ⟨rfl,hB1⟩
    ·have hT0:¬ T.toList=[]:=by rw [<-hT.out];unfold textO;rw [hp];exact lS_ p
     have hT1:=n0_ hT0
     have hl:0<ln:=by
      rcases Nat.eq_zero_or_pos ln with h | h
      ·exact absurd ⟨⟨by omega,by omega⟩,hp,List.eq_nil_of_length_eq_zero (by rw [hlen.out];exact h)⟩ hx
      ·exact h
     go_wp2
     go_returns
     exact ⟨rfl,hB1⟩
end Go.Proofs.YtigldeccfpkdmaaGreatDoor
namespace Go.Proofs.YtigldeccfpkdmaaGreatDoor
open Go.Shelf Go.RowKit Go.Lib
set_option maxHeartbeats 20000000
set_option maxRecDepth 100000
def oY_:Go.Shelf.Ren:=⟨fun | 145=>66 | 220=>132 | 219=>191 | 217=>222 | 225=>223 | 224=>224 | 267=>225 | 266=>251 | 314=>252 | n=>n,fun | 9=>9 | 4=>4 | 59=>70 | 3=>3 | 5=>5 | 46=>172 | 146=>304 | 51=>98 | n=>n,fun | 1=>1 | n=>n⟩
theorem cuL:Lays.n145 Tryz.prog oY_ where
 mixed:=by kernel_rfl
 f145:=Tryz.func66.trans (congrArg some (by kernel_rfl))
 f217:=Tryz.func222.trans (congrArg some (by kernel_rfl))
 f219:=Tryz.func191.trans (congrArg some (by kernel_rfl))
 f220:=Tryz.func132.trans (congrArg some (by kernel_rfl))
 f224:=Tryz.func224.trans (congrArg some (by kernel_rfl))
 f225:=Tryz.func223.trans (congrArg some (by kernel_rfl))
 f266:=Tryz.func251.trans (congrArg some (by kernel_rfl))
 f267:=Tryz.func225.trans (congrArg some (by kernel_rfl))
 f314:=Tryz.func252.trans (congrArg some (by kernel_rfl))
 t3:=Tryz.underlying3
 a3:=Tryz.isAgg3
 z3:=Tryz.sizeOf3
 v3:=Tryz.zeroValue3
 t4:=Tryz.underlying4
 a4:=Tryz.isAgg4
 z4:=Tryz.sizeOf4
 v4:=Tryz.zeroValue4
 t5:=Tryz.underlying5
 a5:=Tryz.isAgg5
 z5:=Tryz.sizeOf5
 v5:=Tryz.zeroValue5
 t9:=Tryz.underlying9
 a9:=Tryz.isAgg9
 z9:=Tryz.sizeOf9
 v9:=Tryz.zeroValue9
 t46:=Tryz.underlying172
 a46:=Tryz.isAgg172
 z46:=Tryz.sizeOf172
 v46:=Tryz.zeroValue172
 t51:=Tryz.underlying98
 a51:=Tryz.isAgg98
 z51:=Tryz.sizeOf98
 v51:=Tryz.zeroValue98
 t59:=Tryz.underlying70
 a59:=Tryz.isAgg70
 z59:=Tryz.sizeOf70
 v59:=Tryz.zeroValue70
 t146:=Tryz.underlying304
 a146:=Tryz.isAgg304
 z146:=Tryz.sizeOf304
 v146:=Tryz.zeroValue304
 g1:=by kernel_rfl
end Go.Proofs.YtigldeccfpkdmaaGreatDoor
namespace Go.Proofs.YtigldeccfpkdmaaGreatDoor
open Go.RowKit Go.BigFrame
set_option maxHeartbeats 20000000
set_option maxRecDepth 100000
/-- The slice holds the marks from k0 on. -/
def MkP (w:World) (a:Option Addr) (n k0:Nat):Prop:=∀ j,j<n->∃ b,a=some ⟨b,0,none⟩∧w.cell? ⟨b,j*3,none⟩=some (.int .i64 ((k0+3*j:Nat):Int))∧w.cell? ⟨b,j*3+1,none⟩=some (.int .i64 ((k0+3*j+1:Nat):Int))∧w.cell? ⟨b,j*3+2,none⟩=some (.int .i64 ((k0+3*j+2:Nat):Int))
theorem MkP.below {w w':World} {a:Option Addr} {n k0:Nat} (h:MkP w a n k0) (hb:Below w.heap.size w w'):MkP w' a n k0:=fun j hj=>by
 obtain ⟨b,ha,c0,c1,c2⟩:=h j hj
 exact ⟨b,ha,bcell hb c0,bcell hb c1,bcell hb c2⟩
theorem MkP.off {w w':World} {a:Option Addr} {n k0:Nat} {row:Option Nat} (h:MkP w a n k0) (hg:w.grownBy w' row) (hr:0<n->∀ ad,a=some ad->some ad.block≠row):MkP w' a n k0:=fun j hj=>by
 obtain ⟨b,ha,c0,c1,c2⟩:=h j hj
 have hne:=hr (by omega) _ ha
 exact ⟨b,ha,hg.cell c0 hne,hg.cell c1 hne,hg.cell c2 hne⟩
/-- The slice holds the marks from k0 on. -/
def MkE (w:World) (a:Option Addr) (n k0:Nat):Prop:=∀ j,j<n->∃ b,a=some ⟨b,0,none⟩∧w.cell? ⟨b,j*2,none⟩=some (.int .i64 ((k0+2*j:Nat):Int))∧w.cell? ⟨b,j*2+1,none⟩=some (.string (markT (k0+2*j+1)))
theorem MkE.below {w w':World} {a:Option Addr} {n k0:Nat} (h:MkE w a n k0) (hb:Below w.heap.size w w'):MkE w' a n k0:=fun j hj=>by
 obtain ⟨b,ha,c0,c1⟩:=h j hj
 exact ⟨b,ha,bcell hb c0,bcell hb c1⟩
theorem MkE.off {w w':World} {a:Option Addr} {n k0:Nat} {row:Option Nat} (h:MkE w a n k0) (hg:w.grownBy w' row) (hr:0<n->∀ ad,a=some ad->some ad.block≠row):MkE w' a n k0:=fun j hj=>by
 obtain ⟨b,ha,c0,c1⟩:=h j hj
 have hne:=hr (by omega) _ ha
 exact ⟨b,ha,hg.cell c0 hne,hg.cell c1 hne⟩
/-- The slice holds the marks from k0 on. -/
def MkC (w:World) (a:Option Addr) (n k0:Nat):Prop:=∀ j,j<n->∃ b,a=some ⟨b,0,none⟩∧w.cell? ⟨b,j*4,none⟩=some (.int .i64 ((k0+4*j:Nat):Int))∧w.cell? ⟨b,j*4+1,none⟩=some (.int .i64 ((k0+4*j+1:Nat):Int))∧w.cell? ⟨b,j*4+2,none⟩=some (.string (markT (k0+4*j+2)))∧w.cell? ⟨b,j*4+3,none⟩=some (.int .i64 ((k0+4*j+3:Nat):Int))
theorem MkC.below {w w':World} {a:Option Addr} {n k0:Nat} (h:MkC w a n k0) (hb:Below w.heap.size w w'):MkC w' a n k0:=fun j hj=>by
 obtain ⟨b,ha,c0,c1,c2,c3⟩:=h j hj
 exact ⟨b,ha,bcell hb c0,bcell hb c1,bcell hb c2,bcell hb c3⟩
theorem MkC.off {w w':World} {a:Option Addr} {n k0:Nat} {row:Option Nat} (h:MkC w a n k0) (hg:w.grownBy w' row) (hr:0<n->∀ ad,a=some ad->some ad.block≠row):MkC w' a n k0:=fun j hj=>by
 obtain ⟨b,ha,c0,c1,c2,c3⟩:=h j hj
 have hne:=hr (by omega) _ ha
 exact ⟨b,ha,hg.cell c0 hne,hg.cell c1 hne,hg.cell c2 hne,hg.cell c3 hne⟩
end Go.Proofs.YtigldeccfpkdmaaGreatDoor
namespace Go.Proofs.YtigldeccfpkdmaaGreatDoor
open Go Go.RowKit Go.BigFrame
set_option maxHeartbeats 20000000
set_option maxRecDepth 100000
/-- Only these blocks have turned. -/
structure Chg (L:List Nat) (w w':World):Prop where
 os:w'.os=w.os
 tape:w'.tape=w.tape
 output:w'.output=w.output
 size:w.heap.size<=w'.heap.size
 block:∀ k,k<w.heap.size->k∉L->w'.heap[k]?=w.heap[k]?
theorem Chg.refl (L:List Nat) (w:World):Chg L w w:=⟨rfl,rfl,rfl,Nat.le_refl _,fun _ _ _=>rfl⟩
theorem Chg.mono {L L':List Nat} {w w':World} (h:Chg L w w') (hL:∀ k∈L,k∈L'):Chg L' w w':=⟨h.os,h.tape,h.output,h.size,fun k hk hn=>h.block k hk (fun e=>hn (hL k e))⟩
theorem Chg.trans {L:List Nat} {a b c:World} (h:Chg L a b) (h':Chg L b c):Chg L a c:=⟨h'.os.trans h.os,h'.tape.trans h.tape,h'.output.trans h.output,Nat.le_trans h.size h'.size,fun k hk hn=>(h'.block k (Nat.lt_of_lt_of_le hk h.size) hn).trans (h.block k hk hn)⟩
theorem Chg.cell {L:List Nat} {w w':World} (h:Chg L w w') {b o:Nat} {v:Value} (hc:w.cell? ⟨b,o,none⟩=some v) (hb:b∉L):w'.cell? ⟨b,o,none⟩=some v:=by
 have hl:b<w.heap.size:=World.block_lt_of_cell? w ⟨b,o,none⟩ hc
 unfold World.cell? at hc ⊢
 simp only at hc ⊢
 rw [h.block b hl hb]
 exact hc
theorem Chg.blk {L:List Nat} {w w':World} (h:Chg L w w') {b:Nat} {c:Array Value} {t:TypeId} (hc:Blk w b c t) (hb:b∉L):Blk w' b c t:=(h.block b hc.lt hb).trans hc
/-- The number behind the marks of items, of volumes. -/
def kIt (k0:Nat) (irs:List IR):Nat:=k0+(irs.map fun x=>1+3*x.n).sum
def kVo (k0:Nat) (vr:List VR):Nat:=k0+(vr.map fun x=>3+(x.irs.map fun x=>1+3*x.n).sum).sum
/-- Marked items, from k0 on. -/
def MkI (w:World) (a:Option Addr) (irs:List IR) (k0:Nat):Prop:=∀ j x,irs[j]?=some x->∃ b,a=some ⟨b,0,none⟩∧w.cell? ⟨b,j*2,none⟩=some (.string (markT (kIt k0 (irs.take j))))∧w.cell? ⟨b,j*2+1,none⟩=some (.slice x.a x.n x.c)∧MkP w x.a x.n (kIt k0 (irs.take j)+1)
/-- Marked volumes. -/
def MkV (w:World) (a:Option Addr) (vr:List VR) (k0:Nat):Prop:=∀ j x,vr[j]?=some x->∃ b,a=some ⟨b,0,none⟩∧w.cell? ⟨b,j*4,none⟩=some (.int .i64 ((kVo k0 (vr.take j):Nat):Int))∧w.cell? ⟨b,j*4+1,none⟩=some (.string (markT (kVo k0 (vr.take j)+1)))∧w.cell? ⟨b,j*4+2,none⟩=some (.bool ((((kVo k0 (vr.take j):Nat):Int)+1+1) % 3==0))∧w.cell? ⟨b,j*4+3,none⟩=some (.slice x.a x.n x.c)∧MkI w x.a x.irs (kVo k0 (vr.take j)+3)
theorem MkI.below {w w':World} {a:Option Addr} {irs:List IR} {k0:Nat} (h:MkI w a irs k0) (hb:Below w.heap.size w w'):MkI w' a irs k0:=fun j x hx=>by
 obtain ⟨b,ha,c0,c1,m⟩:=h j x hx
 exact ⟨b,ha,bcell hb c0,bcell hb c1,m.below hb⟩
theorem MkV.below {w w':World} {a:Option Addr} {vr:List VR} {k0:Nat} (h:MkV w a vr k0) (hb:Below w.heap.size w w'):MkV w' a vr k0:=fun j x hx=>by
 obtain ⟨b,ha,c0,c1,c2,c3,m⟩:=h j x hx
 exact ⟨b,ha,bcell hb c0,bcell hb c1,bcell hb c2,bcell hb c3,m.below hb⟩
/-- How many marks volumes take. -/
def nVs (vs:List Vo):Nat:=(vs.map fun v=>3+(v.its.map fun x=>1+3*x.ps.length).sum).sum
theorem po_ (its:List It):(its.map fun x=>1+3*x.ps.length).sum<=3*(its.flatMap itLn).length:=by
 induction its with
 |nil=>simp
 |cons x l ih=>simp [itLn] at ih ⊢;omega
theorem pp_ (vs:List Vo):nVs vs<=3*(vs.flatMap voLn).length:=by
 unfold nVs
 induction vs with
 |nil=>simp
 |cons v l ih=>
  have:=po_ v.its
  simp [voLn] at ih this ⊢
  omega
/-- Lists and texts as small as those of a text that is read. -/
structure DimK (p:Po):Prop where
 small:SmallP p
 ex:p.ex.length<=60000
 vs:p.vs.length<=60000
 its:∀ v∈p.vs,v.its.length<=60000∧∀ x∈v.its,x.ps.length<=60000
 nv:nVs p.vs<=180000
 rf:p.rf.length<=60000
 lt:p.lt.length<=60000
theorem mT_ {p:Po} (h:(textW p).length<=60000):DimK p:=by
 rw [cJ_] at h
 have hc:=fn_ (poLn p)
 have hm:∀ l∈poLn p,l.length<=60000:=fun l hl=>by have:=fm_ hl;omega
 have hL:(poLn p).length<=60000:=by omega
 have e:poLn p=joW [poolK,Lib.itoa p.size,Lib.itoa p.next]::(p.ex.map exLn++(p.vs.flatMap voLn++(p.rf.map (ctLn refK)++p.lt.map (ctLn lateK)))):=by simp [poLn]
 rw [e] at hL
 simp only [List.length_cons,List.length_append,List.length_map] at hL
 have hw:∀ (x:ByteArray) (l:By),l∈poLn p->x.data.toList.length<=l.length->x.size<=1048576:=fun x l hl hx=>by
  have:=hm l hl
  rw [Lib.size_eq]
  omega
 have hvm:∀ v∈p.vs,∀ l∈voLn v,l∈poLn p:=fun v hv l hl=>by
  rw [e]
  simp only [List.mem_cons,List.mem_append,List.mem_flatMap]
  exact .inr (.inr (.inl ⟨v,hv,hl⟩))
 have hvs:p.vs.length<=60000:=by
  have:=c6_ (f:=voLn) p.vs (fun v _=>by simp [voLn])
  omega
 have hits:∀ v∈p.vs,v.its.length<=60000∧∀ x∈v.its,x.ps.length<=60000:=fun v hv=>by
  have h1:=cy_ (f:=voLn) hv
  have h3:(voLn v).length=1+(v.its.flatMap itLn).length:=by simp [voLn];omega
  refine ⟨?_,fun x hx=>?_⟩
  ·have h2:=c6_ (f:=itLn) v.its (fun x _=>by simp [itLn])
   omega
  ·have h2:=cy_ (f:=itLn) hx
   have h4:(itLn x).length=1+x.ps.length:=by simp [itLn];omega
   omega
 refine ⟨⟨⟨by omega,fun x hx=>?_⟩,⟨by omega,fun v hv=>⟨?_,⟨by have:=(hits v hv).1;omega,fun x hx=>⟨?_,by have:=(hits v hv).2 x hx;omega⟩⟩⟩⟩,⟨by omega,fun c hc'=>?_⟩,by omega,fun c hc'=>?_⟩,by omega,hvs,hits,?_,by omega,by omega⟩
 ·exact hw _ (exLn x) (by rw [e];simp only [List.mem_cons,List.mem_append,List.mem_map];exact .inr (.inl ⟨x,hx,rfl⟩)) (ca_ (l:=[exK,Lib.itoa x.a,x.d.data.toList]) (by simp))
 ·exact hw _ (joW [volK,Lib.itoa v.id,v.nm.data.toList,flagL v.fx]) (hvm v hv _ (by simp [voLn])) (ca_ (by simp))
 ·exact hw _ (joW [fileK,x.nm.data.toList]) (hvm v hv _ (by simp only [voLn,List.mem_cons,List.mem_flatMap];exact .inr ⟨x,hx,by simp [itLn]⟩)) (ca_ (by simp))
 ·exact hw _ (ctLn refK c) (by rw [e];simp only [List.mem_cons,List.mem_append,List.mem_map];exact .inr (.inr (.inr (.inl ⟨c,hc',rfl⟩)))) (ca_ (l:=[refK,Lib.itoa c.o.a,Lib.itoa c.o.v,c.o.f.data.toList,Lib.itoa c.n]) (by simp))
 ·exact hw _ (ctLn lateK c) (by rw [e];simp only [List.mem_cons,List.mem_append,List.mem_map];exact .inr (.inr (.inr (.inr ⟨c,hc',rfl⟩)))) (ca_ (l:=[lateK,Lib.itoa c.o.a,Lib.itoa c.o.v,c.o.f.data.toList,Lib.itoa c.n]) (by simp))
 ·have:=pp_ p.vs
  omega
theorem aS_:DimK emptyP:=by
 refine ⟨⟨⟨by simp [emptyP],fun x hx=>by simp [emptyP] at hx⟩,⟨by simp [emptyP],fun x hx=>by simp [emptyP] at hx⟩,⟨by simp [emptyP],fun x hx=>by simp [emptyP] at hx⟩,by simp [emptyP],fun x hx=>by simp [emptyP] at hx⟩,by simp [emptyP],by simp [emptyP],fun x hx=>by simp [emptyP] at hx,by simp [emptyP,nVs],by simp [emptyP],by simp [emptyP]⟩
/-- A pool that bears marks, up to k. -/
structure MkPo (w:World) (v:Value) (k:Nat):Prop where
 out:∃ (s n:Int) (ea:Option Addr) (en ec:Nat) (va:Option Addr) (vn vc:Nat) (ra:Option Addr) (rn rc:Nat) (la:Option Addr) (ln lc:Nat) (vr:List VR),v=.agg #[.int .i64 s,.int .i64 n,.slice ea en ec,.slice va vn vc,.slice ra rn rc,.slice la ln lc]∧
  MkE w ea en 1∧MkV w va vr (1+2*en)∧MkC w ra rn (kVo (1+2*en) vr)∧MkC w la ln (kVo (1+2*en) vr+4*rn)∧k=kVo (1+2*en) vr+4*rn+4*ln∧
  vr.length=vn∧(∀ x∈vr,x.irs.length=x.n)∧(∀ x∈vr,x.n<=4194304∧∀ y∈x.irs,y.n<=4194304)∧en<=60000∧vn<=60000∧rn<=60000∧ln<=60000∧kVo (1+2*en) vr<=400000
theorem MkPo.below {w w':World} {v:Value} {k:Nat} (h:MkPo w v k) (hb:Below w.heap.size w w'):MkPo w' v k:=by
 obtain ⟨s,n,ea,en,ec,va,vn,vc,ra,rn,rc,la,ln,lc,vr,e,h1,h2,h3,h4,r⟩:=h.out
 exact ⟨s,n,ea,en,ec,va,vn,vc,ra,rn,rc,la,ln,lc,vr,e,h1.below hb,h2.below hb,h3.below hb,h4.below hb,r⟩
theorem gh_ (s:By):DimK ((ansO s).getD emptyP):=by
 unfold ansO
 split
 ·next hs=>
  rw [h7_]
  cases hI:readI s with
  |none=>exact aS_
  |some p=>
   show DimK ((if poolB p=true then some p else none).getD emptyP)
   split
   ·exact mT_ (p:=p) (by rw [<-hV_ hI];exact hs)
   ·exact aS_
 ·exact aS_
end Go.Proofs.YtigldeccfpkdmaaGreatDoor
