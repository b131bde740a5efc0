/- What files are asked for: of the program. -/
import Derived.Stop.Asserts
import Derived.Stop.LaidTwo
import Derived.Test.YtdmeabghpchckaaGreatDoorU34
set_option maxHeartbeats 20000000
set_option maxRecDepth 100000
namespace Go.Proofs.YtdmeabghpchckaaGreatDoor
section
open Go.RowKit Go.BigFrame Tryz
abbrev scs:ByteArray->List Value:=fun x=>[Value.string x]
end
section
open Go.ChangeShapes Go.WideShapes Go.ChangeAt Go.RowKit Go.Deep Tryz
theorem c5:prog.cellsOf 5=1:=by kernel_rfl
end
section
open Go.RowKit Go.BigFrame Tryz
def Dx (p:Po)(vol file:ByteArray):Int×Bool:=if Ai p=true then (match Ar p.vs vol file with | none=>(0,false) | some ps=>(Cb ps,true)) else (0,false)
end
section
open Go.RowKit Go.BigFrame Tryz
open Go.Maps (Keyed)
def BV (p:Po)(vol file:ByteArray):Option (List Pt):=if Ai p=true then Ar p.vs vol file else none
end
section
open Go.RowKit Go.BigFrame Tryz
def Dj (p:Po)(vol file:ByteArray)(fr tz:Int):ByteArray×Bool:=
 match BV p vol file with
 |none=>(⟨#[]⟩,false)
 |some ps=>if 0<=fr∧fr<=Af ps∧fr<=tz∧tz<=Af ps then (((Aj ps p.ex).getD ⟨#[]⟩).extract fr.toNat tz.toNat,true) else (⟨#[]⟩,false)
def Ci (p:Po)(vol:ByteArray):Option (List ByteArray):=if Ai p=true then (volI p.vs vol).bind fun i=>p.vs[i]?.map fun v=>v.its.map (·.nm) else none
theorem AR (w:World)(B:Nat):w.grownBy w (some B):=Yh _ _
theorem CK (B:Nat)(w:World)(h:Rd w B) :
  Calls prog 90 #[.pointer (some ⟨B,0,none⟩)] w fun e w'=>(∃ v:Int,e=.returned (.int .i64 v)∧0<=v∧v<=255)∧Rd w' B∧w.grownBy w' (some B):=by
 have h':Hid (Rd w B):=h
 obtain⟨a,n,cap,p,t,hb,hp,hn,hc,hg⟩:=h
 have c0:w.cell? ⟨B,0,none⟩=some (.slice a n cap):=hb.cell 0
 have c1:w.cell? ⟨B,1,none⟩=some (.int .i64 (p:Int)):=hb.cell 1
 have f1:=hb.frozen 1
 by_cases hlt:p<n
 ·obtain⟨b,o,v,rfl,ht,hv,he⟩:=hc p hlt
  have hr:b≠B:=by have:b<B:=hg _ (by omega) rfl;omega
  have hS:∀ u:World,Below w.heap.size w u->u.grownBy u (some B)∧w.grownBy u (some B):=fun u hu=>⟨AR u B,au_ (AR w B) hu⟩
  go_enter func90,ntmps90
  go_wp2_with fail
  go_quiet (fail)
  have hj:=hb.below (AJ w nq)
  have hm:=hc.below (AJ w nq)
  have c0q:=Ab (AJ w nq) c0
  have c1q:=Ab (AJ w nq) c1
  have f1q:=hj.frozen 1
  have ha:=Ab (AJ w nq) he
  have ho:w.grownBy (w.drewN nq) (some B):=au_ (AR w B) (AJ w nq)
  clear hb hc c0 c1 f1 he hS
  generalize w.drewN nq=wq at *
  go_wp2_with fail
  have hf:=hj.set 1 (.int .i64 ((p:Int)+1))
  have hl:=hm.grown (af_ (AR wq B) 1 (.int .i64 ((p:Int)+1))) (fun ad h0 hq=>by have:=hg ad h0 hq;omega)
  have hs:=aV_ ho (af_ (AR wq B) 1 (.int .i64 ((p:Int)+1)))
  have hk:(wq.setCell ⟨B,1,none⟩ (.int .i64 ((p:Int)+1))).cell? ⟨b,o+p,none⟩=some (.int .u8 v):=(af_ (AR wq B) 1 (.int .i64 ((p:Int)+1))).cell ha (by simpa using hr)
  clear hj hm c0q c1q f1q ha ho
  generalize wq.setCell ⟨B,1,none⟩ (.int .i64 ((p:Int)+1))=W2 at *
  have d0:W2.cell? ⟨B,0,none⟩=some (.slice (some ⟨b,o,none⟩) n cap):=by rw[hf.cell];simp
  have d1:W2.cell? ⟨B,1,none⟩=some (.int .i64 ((p:Int)+1)):=by rw[hf.cell];simp
  have hR:Rd W2 B:=⟨some ⟨b,o,none⟩,n,cap,p+1,t,by simpa using hf,by omega,hn,hl,hg⟩
  clear hf hl h' hg
  have hx:(p:Int)+1-1=p:=by omega
  have hz:IntKind.i64.wrap ((p:Int)+1-1)=(p:Int):=by rw[Ys];omega
  have hA:IntKind.i64.wrap (p:Int)=(p:Int):=by rw[Ys];omega
  have hB:IntKind.i64.wrap v=v:=by rw[Ys];omega
  have hy:(p:Int)<n:=by omega
  have hw:(0:Int)<=p:=by omega
  go_quiet (fail)
  have hh:=hR.below (AJ W2 nq)
  go_wp2
  go_returns
  go_light
  exact⟨⟨v,rfl,ht,hv⟩,hh,au_ hs (AJ _ _)⟩
 ·go_enter func90,ntmps90
  go_wp2_with fail
  go_quiet (fail)
  have hh:=h'.out.below (AJ w nq)
  go_wp2
  go_returns
  go_light
  exact⟨⟨0,rfl,by omega,by omega⟩,hh,au_ (AR w B) (AJ _ _)⟩
theorem FK (B:Nat)(k:Int)(w:World)(h:Rd w B)(hk:k<=65536) :
  Calls prog 44 #[.pointer (some ⟨B,0,none⟩),.int .i64 k] w fun e w'=>(∃ v:Int,e=.returned (.int .i64 v)∧0<=v∧(v=0∨v<k))∧Rd w' B∧w.grownBy w' (some B):=by
 by_cases h1:k<=1
 ·go_enter func44,ntmps44
  go_wp2
  go_returns
  go_light
  exact⟨⟨0,rfl,by omega,.inl rfl⟩,h,AR w B⟩
 ·by_cases h2:k<=256
  ·go_enter func44,ntmps44
   go_wp2_with fail
   refine (CK B _ h).mono ?_
   rintro e w1 ⟨⟨v,rfl,hf,hh⟩,ha,hb⟩
   go_wp2
   go_returns
   go_light
   exact⟨⟨v % k,rfl,Int.emod_nonneg _ (by omega),.inr (Int.emod_lt_of_pos _ (by omega))⟩,ha,hb⟩
  ·go_enter func44,ntmps44
   go_wp2_with fail
   refine (CK B _ h).mono ?_
   rintro e w1 ⟨⟨v,rfl,hf,hh⟩,ha,hb⟩
   go_wp2_with fail
   refine (CK B _ ha).mono ?_
   rintro e w2 ⟨⟨u,rfl,hj,hl⟩,hc,he⟩
   have hg:=aV_ hb he
   have hx:0<=v*256+u:=by omega
   go_wp2
   go_returns
   go_light
   exact⟨⟨(v*256+u) % k,rfl,Int.emod_nonneg _ (by omega),.inr (Int.emod_lt_of_pos _ (by omega))⟩,hc,hg⟩
theorem Au (B:Nat)(k:Int)(w:World)(h:Rd w B)(hk:k<=65536)(h1:1<=k) :
  Calls prog 44 #[.pointer (some ⟨B,0,none⟩),.int .i64 k] w fun e w'=>(∃ v:Nat,e=.returned (.int .i64 v)∧(v:Int)<k)∧Rd w' B∧w.grownBy w' (some B):=
 (FK B k w h hk).mono fun e w' ⟨⟨v,he,h0,hv⟩,r⟩=>by
  obtain⟨m,rfl⟩:=Int.eq_ofNat_of_zero_le h0
  exact⟨⟨m,he,by rcases hv with hv | hv<;>omega⟩,r⟩
theorem CM (B:Nat)(k:Int)(w:World)(h:Rd w B)(hk:k<=65536)(h1:1<=k) :
  Calls prog 36 #[.pointer (some ⟨B,0,none⟩),.int .i64 k] w fun e w'=>(∃ v:Bool,e=.returned (.bool v))∧Rd w' B∧w.grownBy w' (some B):=by
 go_enter func36,ntmps36
 go_wp2_with fail
 refine (Au B k _ h hk h1).mono ?_
 rintro e w1 ⟨⟨v,rfl,hv⟩,ha,hb⟩
 go_wp2
 go_returns
 go_light
 exact⟨⟨_,rfl⟩,ha,hb⟩
theorem Gt (B:Nat)(w:World)(h:Rd w B) :
  Calls prog 135 #[.pointer (some ⟨B,0,none⟩)] w fun e w'=>(∃ v:Int,e=.returned (.int .u64 v)∧0<=v∧v<=18446744073709551615)∧Rd w' B∧w.grownBy w' (some B):=by
 go_enter func135,ntmps135
 go_wp2_with fail
 go_loopw [3,4] (fun x ix wr=>∃ (k:Nat) (v:Int),k<=8∧ix=.int .i64 k∧x=.int .u64 v∧0<=v∧v<=18446744073709551615∧Rd wr B∧w.grownBy wr (some B)) (fun _ ix _=>8-(intOf ix).toNat)
 case atStart=>exact⟨0,0,by omega,rfl,rfl,by omega,by omega,h,AR w B⟩
 case round=>
  obtain⟨k,v,hk,rfl,rfl,hf,hg,hR,hG⟩:=hrel
  by_cases hlt:k<8
  ·go_wp2_with fail
   refine (CK B _ hR).mono ?_
   rintro e w1 ⟨⟨u,rfl,hh,hj⟩,hc,he⟩
   have hb:=aV_ hG he
   have ha:=bounds_u64 (wf_bits .or .u64 (IntKind.u64.wrap (v*256)) u)
   go_wp2
   generalize bits BinOp.or IntKind.u64 (IntKind.u64.wrap (v*256)) u=x at *
   go_roundw
   case rel=>exact⟨k+1,x,by omega,by go_num,rfl,ha.1,ha.2,hc,hb⟩
   case measure=>simp[intOf];omega
  ·obtain rfl:k=8:=by omega
   go_wp2
   go_returns
   exact⟨⟨v,rfl,hf,hg⟩,hR,hG⟩
theorem Gr (B:Nat)(lo hi:Int)(w:World)(h:Rd w B)(h1:-1000<=lo)(h2:lo<=hi)(h3:hi<=1000) :
  Calls prog 87 #[.pointer (some ⟨B,0,none⟩),.int .i64 lo,.int .i64 hi] w fun e w'=>(∃ v:Int,e=.returned (.int .i64 v)∧lo<=v∧v<=hi)∧Rd w' B∧w.grownBy w' (some B):=by
 go_enter func87,ntmps87
 go_wp2_with fail
 refine (Au B 8 _ h (by omega) (by omega)).mono ?_
 rintro e w1 ⟨⟨x,rfl,hx⟩,ha,hb⟩
 by_cases hx0:x=0
 ·subst hx0
  go_wp2
  go_returns
  exact⟨⟨lo,rfl,by omega,h2⟩,ha,hb⟩
 ·have b0:((x:Int)==0)=false:=by simp;omega
  by_cases hx1:x=1
  ·subst hx1
   go_wp2
   go_returns
   exact⟨⟨hi,rfl,h2,by omega⟩,ha,hb⟩
  ·have b1:((x:Int)==1)=false:=by simp;omega
   have hh:¬ hi<lo:=by omega
   go_wp2_with fail
   refine (Gt B _ ha).mono ?_
   rintro e w2 ⟨⟨v,rfl,hj,hk⟩,hc,he⟩
   have hG:=aV_ hb he
   have hf:0<=v / 2 % (hi-lo+1):=Int.emod_nonneg _ (by omega)
   have hg:v / 2 % (hi-lo+1)<hi-lo+1:=Int.emod_lt_of_pos _ (by omega)
   go_wp2
   generalize v / 2 % (hi-lo+1)=m at *
   have hl:wrap64 m=m:=by unfold wrap64;omega
   have hm:wrap64 (lo+m)=lo+m:=by unfold wrap64;omega
   go_returns
   exact⟨⟨lo+m,rfl,by omega,by omega⟩,hc,hG⟩
theorem CI (B:Nat)(lo hi:Int)(w:World)(h:Rd w B)(h1:-1000<=lo)(h2:lo<=hi)(h3:hi<=1000) :
  Calls prog 37 #[.pointer (some ⟨B,0,none⟩),.int .i64 lo,.int .i64 hi] w fun e w'=>(∃ v:Int,e=.returned (.int .i64 v)∧-9223372036854775808<=v∧v<=9223372036854775807)∧Rd w' B∧w.grownBy w' (some B):=by
 have hB:=h.lt
 go_enter func37,ntmps37
 go_wp2_with fail
 refine (CM B 24 _ h (by omega) (by omega)).mono ?_
 rintro e w1 ⟨⟨x,rfl⟩,hc,hf⟩
 cases x
 ·go_wp2_with fail
  refine (Gr B lo hi _ hc h1 h2 h3).mono ?_
  rintro e w2 ⟨⟨v,rfl,hj,hk⟩,he,ha⟩
  have hG:=aV_ hf ha
  go_wp2
  go_returns
  exact⟨⟨v,rfl,by omega,by omega⟩,he,hG⟩
 ·go_wp2_with fail
  refine (Au B 4 _ (hc.below (by go_grown)) (by omega) (by omega)).mono ?_
  rintro e w2 ⟨⟨v,rfl,hv⟩,he,ha⟩
  have hb:=(Blk.new w1 _ _).grown ha (by have:=hc.lt;omega)
  have hG:w.grownBy w2 (some B):=aV_ (au_ hf (by go_grown)) ha
  have z0:=hb.cell 0
  have z1:=hb.cell 1
  have z2:=hb.cell 2
  have z3:=hb.cell 3
  simp only[Yp,Yo,Yt] at z0 z1 z2 z3
  obtain⟨y,hy,hg,hh⟩:∃ y:Int,w2.cell? ⟨w1.heap.size,v,none⟩=some (.int .i64 y)∧-9223372036854775808<=y∧y<=9223372036854775807:=by
   rcases (show v=0∨v=1∨v=2∨v=3 by omega) with rfl | rfl | rfl | rfl
   ·exact⟨_,z0,by omega,by omega⟩
   ·exact⟨_,z1,by omega,by omega⟩
   ·exact⟨_,z2,by omega,by omega⟩
   ·exact⟨_,z3,by omega,by omega⟩
  clear z0 z1 z2 z3 hb
  have hl:(v:Int)<4:=by omega
  have hm:(0:Int)<=v:=by omega
  go_wp2
  go_returns
  exact⟨⟨y,rfl,hg,hh⟩,he,hG⟩
theorem Az {w u w':World}{B:Nat}{row:Option Nat}(h:w.grownBy u (some B))(hg:u.grownBy w' row)(hr:∀ k,row=some k->w.heap.size<=k):w.grownBy w' (some B):=
 h.andThen hg (fun j hj=>.inl (hr j hj))
theorem Gq (B:Nat)(w:World)(h:Rd w B) :
  Calls prog 86 #[.pointer (some ⟨B,0,none⟩)] w fun e w'=>(∃ d:ByteArray,e=.returned (.string d)∧d.size<=20)∧Rd w' B∧w.grownBy w' (some B):=by
 have hf:=h.lt
 go_enter func86,ntmps86
 go_wp2_with fail
 refine (Au B 7 _ (h.below (by go_grown)) (by omega) (by omega)).mono ?_
 rintro e w1 ⟨⟨x,rfl,hx⟩,hc,ha⟩
 have b1:=(Blk.new w _ _).grown ha (by omega)
 have hb:w.grownBy w1 (some B):=aV_ (au_ (AR w B) (by go_grown)) ha
 clear ha
 obtain⟨s,hs,he⟩:∃ s:ByteArray,w1.cell? ⟨w.heap.size,x,none⟩=some (.string s)∧s.size<=20:=by
  rw[b1.cell]
  rcases (show x=0∨x=1∨x=2∨x=3∨x=4∨x=5∨x=6 by omega) with rfl | rfl | rfl | rfl | rfl | rfl | rfl
  all_goals exact⟨_,rfl,by decide⟩
 have hg:(x:Int)<7:=by omega
 clear b1
 go_wp2
 go_returns
 exact⟨⟨s,rfl,he⟩,hc,hb⟩
end
section
open Go Go.RowKit Go.BigFrame Tryz
def Av (a:Act)(C H D J M N E Q R T G U:Value):Act:=((((((((((((a.put (some 42) C).put (some 44) H).put (some 45) D).put (some 46) J).put (some 48) M).put (some 49) N).put (some 50) E).put (some 51) Q).put (some 53) R).put (some 54) T).put (some 55) G).put (some 57) U)
theorem FS (a:Act)(C H D J M N E Q R T G U v:Value):(Av a C H D J M N E Q R T G U).put (some 42) v=Av a v H D J M N E Q R T G U:=by
 unfold Av
 rw[ax_ (show 57≠42 by decide),ax_ (show 55≠42 by decide),ax_ (show 54≠42 by decide),ax_ (show 53≠42 by decide),ax_ (show 51≠42 by decide),ax_ (show 50≠42 by decide),ax_ (show 49≠42 by decide),ax_ (show 48≠42 by decide),ax_ (show 46≠42 by decide),ax_ (show 45≠42 by decide),ax_ (show 44≠42 by decide),ce_]
theorem Ff {a:Act}(h:a.tmps.size=103)(C H D J M N E Q R T G U:Value):(Av a C H D J M N E Q R T G U).eval (.tmp 42)=C:=by
 unfold Av
 rw[aj_ (show 57≠42 by decide),aj_ (show 55≠42 by decide),aj_ (show 54≠42 by decide),aj_ (show 53≠42 by decide),aj_ (show 51≠42 by decide),aj_ (show 50≠42 by decide),aj_ (show 49≠42 by decide),aj_ (show 48≠42 by decide),aj_ (show 46≠42 by decide),aj_ (show 45≠42 by decide),aj_ (show 44≠42 by decide),cp_ (by first | omega | (simp only[dd_];omega))]
theorem FU (a:Act)(C H D J M N E Q R T G U v:Value):(Av a C H D J M N E Q R T G U).put (some 44) v=Av a C v D J M N E Q R T G U:=by
 unfold Av
 rw[ax_ (show 57≠44 by decide),ax_ (show 55≠44 by decide),ax_ (show 54≠44 by decide),ax_ (show 53≠44 by decide),ax_ (show 51≠44 by decide),ax_ (show 50≠44 by decide),ax_ (show 49≠44 by decide),ax_ (show 48≠44 by decide),ax_ (show 46≠44 by decide),ax_ (show 45≠44 by decide),ce_]
theorem Fh {a:Act}(h:a.tmps.size=103)(C H D J M N E Q R T G U:Value):(Av a C H D J M N E Q R T G U).eval (.tmp 44)=H:=by
 unfold Av
 rw[aj_ (show 57≠44 by decide),aj_ (show 55≠44 by decide),aj_ (show 54≠44 by decide),aj_ (show 53≠44 by decide),aj_ (show 51≠44 by decide),aj_ (show 50≠44 by decide),aj_ (show 49≠44 by decide),aj_ (show 48≠44 by decide),aj_ (show 46≠44 by decide),aj_ (show 45≠44 by decide),cp_ (by first | omega | (simp only[dd_];omega))]
theorem FV (a:Act)(C H D J M N E Q R T G U v:Value):(Av a C H D J M N E Q R T G U).put (some 45) v=Av a C H v J M N E Q R T G U:=by
 unfold Av
 rw[ax_ (show 57≠45 by decide),ax_ (show 55≠45 by decide),ax_ (show 54≠45 by decide),ax_ (show 53≠45 by decide),ax_ (show 51≠45 by decide),ax_ (show 50≠45 by decide),ax_ (show 49≠45 by decide),ax_ (show 48≠45 by decide),ax_ (show 46≠45 by decide),ce_]
theorem Fi {a:Act}(h:a.tmps.size=103)(C H D J M N E Q R T G U:Value):(Av a C H D J M N E Q R T G U).eval (.tmp 45)=D:=by
 unfold Av
 rw[aj_ (show 57≠45 by decide),aj_ (show 55≠45 by decide),aj_ (show 54≠45 by decide),aj_ (show 53≠45 by decide),aj_ (show 51≠45 by decide),aj_ (show 50≠45 by decide),aj_ (show 49≠45 by decide),aj_ (show 48≠45 by decide),aj_ (show 46≠45 by decide),cp_ (by first | omega | (simp only[dd_];omega))]
theorem FW (a:Act)(C H D J M N E Q R T G U v:Value):(Av a C H D J M N E Q R T G U).put (some 46) v=Av a C H D v M N E Q R T G U:=by
 unfold Av
 rw[ax_ (show 57≠46 by decide),ax_ (show 55≠46 by decide),ax_ (show 54≠46 by decide),ax_ (show 53≠46 by decide),ax_ (show 51≠46 by decide),ax_ (show 50≠46 by decide),ax_ (show 49≠46 by decide),ax_ (show 48≠46 by decide),ce_]
theorem Fj {a:Act}(h:a.tmps.size=103)(C H D J M N E Q R T G U:Value):(Av a C H D J M N E Q R T G U).eval (.tmp 46)=J:=by
 unfold Av
 rw[aj_ (show 57≠46 by decide),aj_ (show 55≠46 by decide),aj_ (show 54≠46 by decide),aj_ (show 53≠46 by decide),aj_ (show 51≠46 by decide),aj_ (show 50≠46 by decide),aj_ (show 49≠46 by decide),aj_ (show 48≠46 by decide),cp_ (by first | omega | (simp only[dd_];omega))]
theorem FX (a:Act)(C H D J M N E Q R T G U v:Value):(Av a C H D J M N E Q R T G U).put (some 48) v=Av a C H D J v N E Q R T G U:=by
 unfold Av
 rw[ax_ (show 57≠48 by decide),ax_ (show 55≠48 by decide),ax_ (show 54≠48 by decide),ax_ (show 53≠48 by decide),ax_ (show 51≠48 by decide),ax_ (show 50≠48 by decide),ax_ (show 49≠48 by decide),ce_]
theorem Fl {a:Act}(h:a.tmps.size=103)(C H D J M N E Q R T G U:Value):(Av a C H D J M N E Q R T G U).eval (.tmp 48)=M:=by
 unfold Av
 rw[aj_ (show 57≠48 by decide),aj_ (show 55≠48 by decide),aj_ (show 54≠48 by decide),aj_ (show 53≠48 by decide),aj_ (show 51≠48 by decide),aj_ (show 50≠48 by decide),aj_ (show 49≠48 by decide),cp_ (by first | omega | (simp only[dd_];omega))]
theorem FY (a:Act)(C H D J M N E Q R T G U v:Value):(Av a C H D J M N E Q R T G U).put (some 49) v=Av a C H D J M v E Q R T G U:=by
 unfold Av
 rw[ax_ (show 57≠49 by decide),ax_ (show 55≠49 by decide),ax_ (show 54≠49 by decide),ax_ (show 53≠49 by decide),ax_ (show 51≠49 by decide),ax_ (show 50≠49 by decide),ce_]
theorem Fm {a:Act}(h:a.tmps.size=103)(C H D J M N E Q R T G U:Value):(Av a C H D J M N E Q R T G U).eval (.tmp 49)=N:=by
 unfold Av
 rw[aj_ (show 57≠49 by decide),aj_ (show 55≠49 by decide),aj_ (show 54≠49 by decide),aj_ (show 53≠49 by decide),aj_ (show 51≠49 by decide),aj_ (show 50≠49 by decide),cp_ (by first | omega | (simp only[dd_];omega))]
theorem FZ (a:Act)(C H D J M N E Q R T G U v:Value):(Av a C H D J M N E Q R T G U).put (some 50) v=Av a C H D J M N v Q R T G U:=by
 unfold Av
 rw[ax_ (show 57≠50 by decide),ax_ (show 55≠50 by decide),ax_ (show 54≠50 by decide),ax_ (show 53≠50 by decide),ax_ (show 51≠50 by decide),ce_]
theorem Fn {a:Act}(h:a.tmps.size=103)(C H D J M N E Q R T G U:Value):(Av a C H D J M N E Q R T G U).eval (.tmp 50)=E:=by
 unfold Av
 rw[aj_ (show 57≠50 by decide),aj_ (show 55≠50 by decide),aj_ (show 54≠50 by decide),aj_ (show 53≠50 by decide),aj_ (show 51≠50 by decide),cp_ (by first | omega | (simp only[dd_];omega))]
theorem F3 (a:Act)(C H D J M N E Q R T G U v:Value):(Av a C H D J M N E Q R T G U).put (some 51) v=Av a C H D J M N E v R T G U:=by
 unfold Av
 rw[ax_ (show 57≠51 by decide),ax_ (show 55≠51 by decide),ax_ (show 54≠51 by decide),ax_ (show 53≠51 by decide),ce_]
theorem Fo {a:Act}(h:a.tmps.size=103)(C H D J M N E Q R T G U:Value):(Av a C H D J M N E Q R T G U).eval (.tmp 51)=Q:=by
 unfold Av
 rw[aj_ (show 57≠51 by decide),aj_ (show 55≠51 by decide),aj_ (show 54≠51 by decide),aj_ (show 53≠51 by decide),cp_ (by first | omega | (simp only[dd_];omega))]
theorem F4 (a:Act)(C H D J M N E Q R T G U v:Value):(Av a C H D J M N E Q R T G U).put (some 53) v=Av a C H D J M N E Q v T G U:=by
 unfold Av
 rw[ax_ (show 57≠53 by decide),ax_ (show 55≠53 by decide),ax_ (show 54≠53 by decide),ce_]
theorem Fq {a:Act}(h:a.tmps.size=103)(C H D J M N E Q R T G U:Value):(Av a C H D J M N E Q R T G U).eval (.tmp 53)=R:=by
 unfold Av
 rw[aj_ (show 57≠53 by decide),aj_ (show 55≠53 by decide),aj_ (show 54≠53 by decide),cp_ (by first | omega | (simp only[dd_];omega))]
theorem F5 (a:Act)(C H D J M N E Q R T G U v:Value):(Av a C H D J M N E Q R T G U).put (some 54) v=Av a C H D J M N E Q R v G U:=by
 unfold Av
 rw[ax_ (show 57≠54 by decide),ax_ (show 55≠54 by decide),ce_]
theorem Fr {a:Act}(h:a.tmps.size=103)(C H D J M N E Q R T G U:Value):(Av a C H D J M N E Q R T G U).eval (.tmp 54)=T:=by
 unfold Av
 rw[aj_ (show 57≠54 by decide),aj_ (show 55≠54 by decide),cp_ (by first | omega | (simp only[dd_];omega))]
theorem F6 (a:Act)(C H D J M N E Q R T G U v:Value):(Av a C H D J M N E Q R T G U).put (some 55) v=Av a C H D J M N E Q R T v U:=by
 unfold Av
 rw[ax_ (show 57≠55 by decide),ce_]
theorem Fs {a:Act}(h:a.tmps.size=103)(C H D J M N E Q R T G U:Value):(Av a C H D J M N E Q R T G U).eval (.tmp 55)=G:=by
 unfold Av
 rw[aj_ (show 57≠55 by decide),cp_ (by first | omega | (simp only[dd_];omega))]
theorem F7 (a:Act)(C H D J M N E Q R T G U v:Value):(Av a C H D J M N E Q R T G U).put (some 57) v=Av a C H D J M N E Q R T G v:=by
 unfold Av
 rw[ce_]
theorem Fc (a:Act)(C H D J M N E Q R T G U:Value):(Av a C H D J M N E Q R T G U).eval (.tmp 39)=a.eval (.tmp 39):=by
 unfold Av
 rw[aj_ (show 57≠39 by decide),aj_ (show 55≠39 by decide),aj_ (show 54≠39 by decide),aj_ (show 53≠39 by decide),aj_ (show 51≠39 by decide),aj_ (show 50≠39 by decide),aj_ (show 49≠39 by decide),aj_ (show 48≠39 by decide),aj_ (show 46≠39 by decide),aj_ (show 45≠39 by decide),aj_ (show 44≠39 by decide),aj_ (show 42≠39 by decide)]
theorem Fd (a:Act)(C H D J M N E Q R T G U:Value):(Av a C H D J M N E Q R T G U).eval (.tmp 40)=a.eval (.tmp 40):=by
 unfold Av
 rw[aj_ (show 57≠40 by decide),aj_ (show 55≠40 by decide),aj_ (show 54≠40 by decide),aj_ (show 53≠40 by decide),aj_ (show 51≠40 by decide),aj_ (show 50≠40 by decide),aj_ (show 49≠40 by decide),aj_ (show 48≠40 by decide),aj_ (show 46≠40 by decide),aj_ (show 45≠40 by decide),aj_ (show 44≠40 by decide),aj_ (show 42≠40 by decide)]
theorem Fe (a:Act)(C H D J M N E Q R T G U:Value):(Av a C H D J M N E Q R T G U).eval (.tmp 41)=a.eval (.tmp 41):=by
 unfold Av
 rw[aj_ (show 57≠41 by decide),aj_ (show 55≠41 by decide),aj_ (show 54≠41 by decide),aj_ (show 53≠41 by decide),aj_ (show 51≠41 by decide),aj_ (show 50≠41 by decide),aj_ (show 49≠41 by decide),aj_ (show 48≠41 by decide),aj_ (show 46≠41 by decide),aj_ (show 45≠41 by decide),aj_ (show 44≠41 by decide),aj_ (show 42≠41 by decide)]
theorem Fg (a:Act)(C H D J M N E Q R T G U:Value):(Av a C H D J M N E Q R T G U).eval (.tmp 43)=a.eval (.tmp 43):=by
 unfold Av
 rw[aj_ (show 57≠43 by decide),aj_ (show 55≠43 by decide),aj_ (show 54≠43 by decide),aj_ (show 53≠43 by decide),aj_ (show 51≠43 by decide),aj_ (show 50≠43 by decide),aj_ (show 49≠43 by decide),aj_ (show 48≠43 by decide),aj_ (show 46≠43 by decide),aj_ (show 45≠43 by decide),aj_ (show 44≠43 by decide),aj_ (show 42≠43 by decide)]
theorem Fk (a:Act)(C H D J M N E Q R T G U:Value):(Av a C H D J M N E Q R T G U).eval (.tmp 47)=a.eval (.tmp 47):=by
 unfold Av
 rw[aj_ (show 57≠47 by decide),aj_ (show 55≠47 by decide),aj_ (show 54≠47 by decide),aj_ (show 53≠47 by decide),aj_ (show 51≠47 by decide),aj_ (show 50≠47 by decide),aj_ (show 49≠47 by decide),aj_ (show 48≠47 by decide),aj_ (show 46≠47 by decide),aj_ (show 45≠47 by decide),aj_ (show 44≠47 by decide),aj_ (show 42≠47 by decide)]
theorem Fp (a:Act)(C H D J M N E Q R T G U:Value):(Av a C H D J M N E Q R T G U).eval (.tmp 52)=a.eval (.tmp 52):=by
 unfold Av
 rw[aj_ (show 57≠52 by decide),aj_ (show 55≠52 by decide),aj_ (show 54≠52 by decide),aj_ (show 53≠52 by decide),aj_ (show 51≠52 by decide),aj_ (show 50≠52 by decide),aj_ (show 49≠52 by decide),aj_ (show 48≠52 by decide),aj_ (show 46≠52 by decide),aj_ (show 45≠52 by decide),aj_ (show 44≠52 by decide),aj_ (show 42≠52 by decide)]
theorem Ft (a:Act)(C H D J M N E Q R T G U:Value):(Av a C H D J M N E Q R T G U).eval (.tmp 56)=a.eval (.tmp 56):=by
 unfold Av
 rw[aj_ (show 57≠56 by decide),aj_ (show 55≠56 by decide),aj_ (show 54≠56 by decide),aj_ (show 53≠56 by decide),aj_ (show 51≠56 by decide),aj_ (show 50≠56 by decide),aj_ (show 49≠56 by decide),aj_ (show 48≠56 by decide),aj_ (show 46≠56 by decide),aj_ (show 45≠56 by decide),aj_ (show 44≠56 by decide),aj_ (show 42≠56 by decide)]
def EN (k:Nat)(x:Value):Prop:=∃ n:Nat,x=.int .i64 n∧(n:Int)<k
def HX (x:Value):Prop:=∃ n:Int,x=.int .i64 n
def G1 (x:Value):Prop:=∃ s:ByteArray,x=.string s∧s.size<=1
def Ek (B k:Nat)(u:World)(x:Value):Prop:=∃ b cs t,x=.slice (some ⟨b,0,none⟩) k k∧Blk u b cs t∧cs.size=k∧(∀ v∈cs,∃ s:ByteArray,v=.string s∧s.size<=1)∧B<b
def El (B:Nat)(u:World)(x:Value):Prop:=∃ b i s,x=.pointer (some ⟨b,i,none⟩)∧u.cell? ⟨b,i,none⟩=some (.string s)∧s.size<=1∧B<b
theorem Ek.below {B k:Nat}{u u':World}{x:Value}(h:Ek B k u x)(hb:Below u.heap.size u u'):Ek B k u' x:=by
 obtain⟨b,cs,t,h1,h2,h3⟩:=h
 exact⟨b,cs,t,h1,h2.below hb,h3⟩
theorem El.below {B:Nat}{u u':World}{x:Value}(h:El B u x)(hb:Below u.heap.size u u'):El B u' x:=by
 obtain⟨b,i,s,h1,h2,h3⟩:=h
 exact⟨b,i,s,h1,Ab hb h2,h3⟩
theorem Ek.grown {B k:Nat}{u u':World}{x:Value}(h:Ek B k u x)(hg:u.grownBy u' (some B)):Ek B k u' x:=by
 obtain⟨b,cs,t,h1,h2,h3,h4,h5⟩:=h
 exact⟨b,cs,t,h1,h2.grown hg (by omega),h3,h4,h5⟩
theorem El.grown {B:Nat}{u u':World}{x:Value}(h:El B u x)(hg:u.grownBy u' (some B)):El B u' x:=by
 obtain⟨b,i,s,h1,h2,h3,h4⟩:=h
 exact⟨b,i,s,h1,hg.cell h2 (by simp only[ne_eq,Zo];omega),h3,h4⟩
theorem CE {w:World}{b x n:Nat}{cs:Array Value}{t:TypeId}(h:Blk w b cs t)(hn:cs.size=n)(hs:∀ v∈cs,∃ s:ByteArray,v=.string s∧s.size<=1)(hx:(x:Int)<n):∃ s:ByteArray,w.cell? ⟨b,x,none⟩=some (.string s)∧s.size<=1:=by
 have ha:x<cs.size:=by omega
 obtain⟨s,h1,h2⟩:=hs cs[x] (Array.getElem_mem ha)
 refine ⟨s,?_,h2⟩
 rw[h.cell,<-h1]
 simp[ha]
theorem CT {w:World}{b:Nat}{c0 c1 c2 c3 c4 c5 c6 c7 c8:Value}{t:TypeId}(h:Blk w b #[c0,c1,c2,c3,c4,c5,c6,c7,c8] t)(v0 v1 v2 v3 v4 v5 v6 v7 v8:Value) :
  Blk (((((((((w.setCell ⟨b,0,none⟩ v0).setCell ⟨b,1,none⟩ v1).setCell ⟨b,2,none⟩ v2).setCell ⟨b,3,none⟩ v3).setCell ⟨b,4,none⟩ v4).setCell ⟨b,5,none⟩ v5).setCell ⟨b,6,none⟩ v6).setCell ⟨b,7,none⟩ v7).setCell ⟨b,8,none⟩ v8) b #[v0,v1,v2,v3,v4,v5,v6,v7,v8] t∧w.grownBy (((((((((w.setCell ⟨b,0,none⟩ v0).setCell ⟨b,1,none⟩ v1).setCell ⟨b,2,none⟩ v2).setCell ⟨b,3,none⟩ v3).setCell ⟨b,4,none⟩ v4).setCell ⟨b,5,none⟩ v5).setCell ⟨b,6,none⟩ v6).setCell ⟨b,7,none⟩ v7).setCell ⟨b,8,none⟩ v8) (some b):=
 ⟨by simpa using (((((((((h.set 0 v0).set 1 v1).set 2 v2).set 3 v3).set 4 v4).set 5 v5).set 6 v6).set 7 v7).set 8 v8),(af_ (af_ (af_ (af_ (af_ (af_ (af_ (af_ (BW w b 0 v0) 1 v1) 2 v2) 3 v3) 4 v4) 5 v5) 6 v6) 7 v7) 8 v8)⟩
theorem At:(⟨#[]⟩:ByteArray).size<=9223372036854775807:=by decide
end
end Go.Proofs.YtdmeabghpchckaaGreatDoor
