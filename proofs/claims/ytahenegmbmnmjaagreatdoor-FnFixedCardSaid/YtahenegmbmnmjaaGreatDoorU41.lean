/- Ground. -/
import Derived.Test.YtahenegmbmnmjaaGreatDoorU40
set_option maxHeartbeats 20000000
set_option maxRecDepth 100000
namespace Go.Proofs.YtahenegmbmnmjaaGreatDoor
section
open Go.RowKit Go.BigFrame _root_.Go.Proofs.Tryz
theorem GD (B:Nat)(w:World)(h:Rd w B) :
  Calls prog 193 #[.pointer (some ⟨B,0,none⟩)] w fun e w'=>(∃ v:Int,e=.returned (.int .u64 v)∧0<=v∧v<=18446744073709551615)∧Rd w' B∧w.grownBy w' (some B):=by
 go_enter func193,ntmps193
 go_wp2_with fail
 go_loopw [3,4] (fun x ix wr=>∃ (k:Nat) (v:Int),k<=8∧ix=.int .i64 k∧x=.int .u64 v∧0<=v∧v<=18446744073709551615∧Rd wr B∧w.grownBy wr (some B)) (fun _ ix _=>8-(intOf ix).toNat)
 case atStart=>exact⟨0,0,by omega,rfl,rfl,by omega,by omega,h,AS w B⟩
 case round=>
  obtain⟨k,v,hk,rfl,rfl,hf,hg,hR,hG⟩:=hrel
  by_cases hlt:k<8
  ·go_wp2_with fail
   refine (CU B _ hR).mono ?_
   rintro e w1 ⟨⟨u,rfl,hh,hj⟩,hc,he⟩
   have hb:=aV_ hG he
   have ha:=bounds_u64 (wf_bits .or .u64 (IntKind.u64.wrap (v*256)) u)
   go_wp2
   generalize bits BinOp.or IntKind.u64 (IntKind.u64.wrap (v*256)) u=x at *
   go_roundw
   case rel=>exact⟨k+1,x,by omega,by go_num,rfl,ha.1,ha.2,hc,hb⟩
   case measure=>simp[intOf];omega
  ·obtain rfl:k=8:=by omega
   go_wp2
   go_returns
   exact⟨⟨v,rfl,hf,hg⟩,hR,hG⟩
theorem GB (B:Nat)(lo hi:Int)(w:World)(h:Rd w B)(h1:-1000<=lo)(h2:lo<=hi)(h3:hi<=1000) :
  Calls prog 140 #[.pointer (some ⟨B,0,none⟩),.int .i64 lo,.int .i64 hi] w fun e w'=>(∃ v:Int,e=.returned (.int .i64 v)∧lo<=v∧v<=hi)∧Rd w' B∧w.grownBy w' (some B):=by
 go_enter func140,ntmps140
 go_wp2_with fail
 refine (Av B 8 _ h (by omega) (by omega)).mono ?_
 rintro e w1 ⟨⟨x,rfl,hx⟩,ha,hb⟩
 by_cases hx0:x=0
 ·subst hx0
  go_wp2
  go_returns
  exact⟨⟨lo,rfl,by omega,h2⟩,ha,hb⟩
 ·have b0:((x:Int)==0)=false:=by simp;omega
  by_cases hx1:x=1
  ·subst hx1
   go_wp2
   go_returns
   exact⟨⟨hi,rfl,h2,by omega⟩,ha,hb⟩
  ·have b1:((x:Int)==1)=false:=by simp;omega
   have hh:¬ hi<lo:=by omega
   go_wp2_with fail
   refine (GD B _ ha).mono ?_
   rintro e w2 ⟨⟨v,rfl,hj,hk⟩,hc,he⟩
   have hG:=aV_ hb he
   have hf:0<=v / 2 % (hi-lo+1):=Int.emod_nonneg _ (by omega)
   have hg:v / 2 % (hi-lo+1)<hi-lo+1:=Int.emod_lt_of_pos _ (by omega)
   go_wp2
   generalize v / 2 % (hi-lo+1)=m at *
   have hl:wrap64 m=m:=by unfold wrap64;omega
   have hm:wrap64 (lo+m)=lo+m:=by unfold wrap64;omega
   go_returns
   exact⟨⟨lo+m,rfl,by omega,by omega⟩,hc,hG⟩
theorem CO (B:Nat)(lo hi:Int)(w:World)(h:Rd w B)(h1:-1000<=lo)(h2:lo<=hi)(h3:hi<=1000) :
  Calls prog 77 #[.pointer (some ⟨B,0,none⟩),.int .i64 lo,.int .i64 hi] w fun e w'=>(∃ v:Int,e=.returned (.int .i64 v)∧-9223372036854775808<=v∧v<=9223372036854775807)∧Rd w' B∧w.grownBy w' (some B):=by
 have hB:=h.lt
 go_enter func77,ntmps77
 go_wp2_with fail
 refine (CV B 24 _ h (by omega) (by omega)).mono ?_
 rintro e w1 ⟨⟨x,rfl⟩,hc,hf⟩
 cases x
 ·go_wp2_with fail
  refine (GB B lo hi _ hc h1 h2 h3).mono ?_
  rintro e w2 ⟨⟨v,rfl,hj,hk⟩,he,ha⟩
  have hG:=aV_ hf ha
  go_wp2
  go_returns
  exact⟨⟨v,rfl,by omega,by omega⟩,he,hG⟩
 ·go_wp2_with fail
  refine (Av B 4 _ (hc.below (by go_grown)) (by omega) (by omega)).mono ?_
  rintro e w2 ⟨⟨v,rfl,hv⟩,he,ha⟩
  have hb:=(Blk.new w1 _ _).grown ha (by have:=hc.lt;omega)
  have hG:w.grownBy w2 (some B):=aV_ (au_ hf (by go_grown)) ha
  have z0:=hb.cell 0
  have z1:=hb.cell 1
  have z2:=hb.cell 2
  have z3:=hb.cell 3
  simp only[Yp,Yo,Yt] at z0 z1 z2 z3
  obtain⟨y,hy,hg,hh⟩:∃ y:Int,w2.cell? ⟨w1.heap.size,v,none⟩=some (.int .i64 y)∧-9223372036854775808<=y∧y<=9223372036854775807:=by
   rcases (show v=0∨v=1∨v=2∨v=3 by omega) with rfl | rfl | rfl | rfl
   ·exact⟨_,z0,by omega,by omega⟩
   ·exact⟨_,z1,by omega,by omega⟩
   ·exact⟨_,z2,by omega,by omega⟩
   ·exact⟨_,z3,by omega,by omega⟩
  clear z0 z1 z2 z3 hb
  have hl:(v:Int)<4:=by omega
  have hm:(0:Int)<=v:=by omega
  go_wp2
  go_returns
  exact⟨⟨y,rfl,hg,hh⟩,he,hG⟩
theorem AA {w u w':World}{B:Nat}{row:Option Nat}(h:w.grownBy u (some B))(hg:u.grownBy w' row)(hr:∀ k,row=some k->w.heap.size<=k):w.grownBy w' (some B):=
 h.andThen hg (fun j hj=>.inl (hr j hj))
def G4 (s n:Int):Value:=.agg #[.int .i64 s,.int .i64 n,.slice none 0 0,.slice none 0 0,.slice none 0 0,.slice none 0 0]
def GZ (size:Int):Bool:=decide (1<=size)&&decide (size<=400)
theorem EU (size:Int)(w:World) :
  Calls prog 138 #[.int .i64 size] w fun e w'=>e=.returned (.tuple #[if GZ size=true then G4 size 1 else G4 0 0,.bool (GZ size)])∧Below w.heap.size w w':=by
 cases hn:GZ size
 all_goals
  have ha:(decide (1<=size)&&decide (size<=400))=_:=hn
  go_enter func138,ntmps138
  go_wp2_with fail
  refine (ai_ _ _ _ _).mono ?_
  rintro e w1 ⟨rfl,rfl⟩
  rw[ha]
  go_wp2
  go_returns
  go_light
  exact⟨rfl,by go_grown⟩
theorem GA (B:Nat)(w:World)(h:Rd w B) :
  Calls prog 139 #[.pointer (some ⟨B,0,none⟩)] w fun e w'=>(∃ d:ByteArray,e=.returned (.string d)∧d.size<=20)∧Rd w' B∧w.grownBy w' (some B):=by
 have hf:=h.lt
 go_enter func139,ntmps139
 go_wp2_with fail
 refine (Av B 7 _ (h.below (by go_grown)) (by omega) (by omega)).mono ?_
 rintro e w1 ⟨⟨x,rfl,hx⟩,hc,ha⟩
 have b1:=(Blk.new w _ _).grown ha (by omega)
 have hb:w.grownBy w1 (some B):=aV_ (au_ (AS w B) (by go_grown)) ha
 clear ha
 obtain⟨s,hs,he⟩:∃ s:ByteArray,w1.cell? ⟨w.heap.size,x,none⟩=some (.string s)∧s.size<=20:=by
  rw[b1.cell]
  rcases (show x=0∨x=1∨x=2∨x=3∨x=4∨x=5∨x=6 by omega) with rfl | rfl | rfl | rfl | rfl | rfl | rfl
  all_goals exact⟨_,rfl,by decide⟩
 have hg:(x:Int)<7:=by omega
 clear b1
 go_wp2
 go_returns
 exact⟨⟨s,rfl,he⟩,hc,hb⟩
theorem CT (a:Option Addr)(n cap:Nat)(w:World)(hn:n<=9223372036854775807) :
  Calls prog 32 #[.slice a n cap] w fun e w'=>e=.returned (.bool (decide (1048576<n)))∧w'=w:=by
 go_enter func32,ntmps32
 go_wp2
 go_returns
 go_light
 refine ⟨ac_ ?_,rfl⟩
 rw[YH]
 simp
 omega
end
section
open Go.ChangeShapes Go.WideShapes Go.ChangeAt Go.RowKit Go.Deep _root_.Go.Proofs.Tryz
theorem c5:prog.cellsOf 5=1:=by kernel_rfl
theorem EF {H:Type}{enc:TypeId×Value->H}{w:World}{spare:Nat->Bool}{held:Bool}{a:Option Addr}{n cap:Nat}{d:DataW H}{p:List MemPlace}
  (h:DataW.Trod enc prog w 0 spare held 56 (.slice a n cap) d p):n<=maxLen∧BX w a n:=by
 obtain⟨fuel,hf⟩:=h
 rcases open_slice underlying56 hf with⟨hb,_⟩ | ⟨ad,len,cap',m,n',D,Pl,hb,_,hl,hm,hn,_,hk⟩
 ·simp[Value.cells] at hb
  obtain⟨rfl,rfl,rfl⟩:=hb
  exact⟨Zg _,fun i hi=>by omega⟩
 ·simp[Value.cells] at hb
  obtain⟨rfl,rfl,rfl⟩:=hb
  have ho:n<=m:=by rw[hn];split<;>omega
  refine ⟨Zl hl hm,fun i hi=>?_⟩
  have he:∀ i,i<n->∃ z:Int,0<=z∧z<=255∧w.cell? (ad.add i)=some (.int .u8 z):=by
   intro i hi
   obtain⟨cs',h1,h2⟩:=hk i (by omega)
   rw[c5] at h1
   obtain⟨_,hg,ha⟩:=World.cells?_some h1
   obtain⟨z,e,_,hz⟩:=DataW.trod_int underlying5 h2
   match cs',hg with
   |[x0],_=>
    simp at e
    subst e
    have hc:=ha 0 (by omega)
    rw[Addr.add_add] at hc
    have hh:=bounds_u8 hz
    exact⟨z,hh.1,hh.2,by simpa using hc⟩
  obtain⟨z,h0,h1,hc⟩:=he i hi
  obtain⟨z',_,_,hj⟩:=he 0 (by omega)
  obtain⟨b,o,rfl⟩:=G6 hj rfl
  exact⟨b,o,z,rfl,h0,h1,by rw[Addr.add_lit] at hc;exact hc⟩
end
section
open Go Go.RowKit Go.BigFrame _root_.Go.Proofs.Tryz
def Aw (a:Act)(C H D J M N E Q R T G U:Value):Act:=((((((((((((a.put (some 42) C).put (some 44) H).put (some 45) D).put (some 46) J).put (some 48) M).put (some 49) N).put (some 50) E).put (some 51) Q).put (some 53) R).put (some 54) T).put (some 55) G).put (some 57) U)
theorem F8 (a:Act)(C H D J M N E Q R T G U v:Value):(Aw a C H D J M N E Q R T G U).put (some 42) v=Aw a v H D J M N E Q R T G U:=by
 unfold Aw
 rw[ax_ (show 57≠42 by decide),ax_ (show 55≠42 by decide),ax_ (show 54≠42 by decide),ax_ (show 53≠42 by decide),ax_ (show 51≠42 by decide),ax_ (show 50≠42 by decide),ax_ (show 49≠42 by decide),ax_ (show 48≠42 by decide),ax_ (show 46≠42 by decide),ax_ (show 45≠42 by decide),ax_ (show 44≠42 by decide),ce_]
theorem Fs {a:Act}(h:a.tmps.size=103)(C H D J M N E Q R T G U:Value):(Aw a C H D J M N E Q R T G U).eval (.tmp 42)=C:=by
 unfold Aw
 rw[aj_ (show 57≠42 by decide),aj_ (show 55≠42 by decide),aj_ (show 54≠42 by decide),aj_ (show 53≠42 by decide),aj_ (show 51≠42 by decide),aj_ (show 50≠42 by decide),aj_ (show 49≠42 by decide),aj_ (show 48≠42 by decide),aj_ (show 46≠42 by decide),aj_ (show 45≠42 by decide),aj_ (show 44≠42 by decide),cp_ (by first | omega | (simp only[dd_];omega))]
theorem F9 (a:Act)(C H D J M N E Q R T G U v:Value):(Aw a C H D J M N E Q R T G U).put (some 44) v=Aw a C v D J M N E Q R T G U:=by
 unfold Aw
 rw[ax_ (show 57≠44 by decide),ax_ (show 55≠44 by decide),ax_ (show 54≠44 by decide),ax_ (show 53≠44 by decide),ax_ (show 51≠44 by decide),ax_ (show 50≠44 by decide),ax_ (show 49≠44 by decide),ax_ (show 48≠44 by decide),ax_ (show 46≠44 by decide),ax_ (show 45≠44 by decide),ce_]
theorem Fu {a:Act}(h:a.tmps.size=103)(C H D J M N E Q R T G U:Value):(Aw a C H D J M N E Q R T G U).eval (.tmp 44)=H:=by
 unfold Aw
 rw[aj_ (show 57≠44 by decide),aj_ (show 55≠44 by decide),aj_ (show 54≠44 by decide),aj_ (show 53≠44 by decide),aj_ (show 51≠44 by decide),aj_ (show 50≠44 by decide),aj_ (show 49≠44 by decide),aj_ (show 48≠44 by decide),aj_ (show 46≠44 by decide),aj_ (show 45≠44 by decide),cp_ (by first | omega | (simp only[dd_];omega))]
theorem Ga (a:Act)(C H D J M N E Q R T G U v:Value):(Aw a C H D J M N E Q R T G U).put (some 45) v=Aw a C H v J M N E Q R T G U:=by
 unfold Aw
 rw[ax_ (show 57≠45 by decide),ax_ (show 55≠45 by decide),ax_ (show 54≠45 by decide),ax_ (show 53≠45 by decide),ax_ (show 51≠45 by decide),ax_ (show 50≠45 by decide),ax_ (show 49≠45 by decide),ax_ (show 48≠45 by decide),ax_ (show 46≠45 by decide),ce_]
theorem Fv {a:Act}(h:a.tmps.size=103)(C H D J M N E Q R T G U:Value):(Aw a C H D J M N E Q R T G U).eval (.tmp 45)=D:=by
 unfold Aw
 rw[aj_ (show 57≠45 by decide),aj_ (show 55≠45 by decide),aj_ (show 54≠45 by decide),aj_ (show 53≠45 by decide),aj_ (show 51≠45 by decide),aj_ (show 50≠45 by decide),aj_ (show 49≠45 by decide),aj_ (show 48≠45 by decide),aj_ (show 46≠45 by decide),cp_ (by first | omega | (simp only[dd_];omega))]
theorem Gb (a:Act)(C H D J M N E Q R T G U v:Value):(Aw a C H D J M N E Q R T G U).put (some 46) v=Aw a C H D v M N E Q R T G U:=by
 unfold Aw
 rw[ax_ (show 57≠46 by decide),ax_ (show 55≠46 by decide),ax_ (show 54≠46 by decide),ax_ (show 53≠46 by decide),ax_ (show 51≠46 by decide),ax_ (show 50≠46 by decide),ax_ (show 49≠46 by decide),ax_ (show 48≠46 by decide),ce_]
theorem Fw {a:Act}(h:a.tmps.size=103)(C H D J M N E Q R T G U:Value):(Aw a C H D J M N E Q R T G U).eval (.tmp 46)=J:=by
 unfold Aw
 rw[aj_ (show 57≠46 by decide),aj_ (show 55≠46 by decide),aj_ (show 54≠46 by decide),aj_ (show 53≠46 by decide),aj_ (show 51≠46 by decide),aj_ (show 50≠46 by decide),aj_ (show 49≠46 by decide),aj_ (show 48≠46 by decide),cp_ (by first | omega | (simp only[dd_];omega))]
theorem Gc (a:Act)(C H D J M N E Q R T G U v:Value):(Aw a C H D J M N E Q R T G U).put (some 48) v=Aw a C H D J v N E Q R T G U:=by
 unfold Aw
 rw[ax_ (show 57≠48 by decide),ax_ (show 55≠48 by decide),ax_ (show 54≠48 by decide),ax_ (show 53≠48 by decide),ax_ (show 51≠48 by decide),ax_ (show 50≠48 by decide),ax_ (show 49≠48 by decide),ce_]
theorem Fy {a:Act}(h:a.tmps.size=103)(C H D J M N E Q R T G U:Value):(Aw a C H D J M N E Q R T G U).eval (.tmp 48)=M:=by
 unfold Aw
 rw[aj_ (show 57≠48 by decide),aj_ (show 55≠48 by decide),aj_ (show 54≠48 by decide),aj_ (show 53≠48 by decide),aj_ (show 51≠48 by decide),aj_ (show 50≠48 by decide),aj_ (show 49≠48 by decide),cp_ (by first | omega | (simp only[dd_];omega))]
theorem Gd (a:Act)(C H D J M N E Q R T G U v:Value):(Aw a C H D J M N E Q R T G U).put (some 49) v=Aw a C H D J M v E Q R T G U:=by
 unfold Aw
 rw[ax_ (show 57≠49 by decide),ax_ (show 55≠49 by decide),ax_ (show 54≠49 by decide),ax_ (show 53≠49 by decide),ax_ (show 51≠49 by decide),ax_ (show 50≠49 by decide),ce_]
theorem Fz {a:Act}(h:a.tmps.size=103)(C H D J M N E Q R T G U:Value):(Aw a C H D J M N E Q R T G U).eval (.tmp 49)=N:=by
 unfold Aw
 rw[aj_ (show 57≠49 by decide),aj_ (show 55≠49 by decide),aj_ (show 54≠49 by decide),aj_ (show 53≠49 by decide),aj_ (show 51≠49 by decide),aj_ (show 50≠49 by decide),cp_ (by first | omega | (simp only[dd_];omega))]
theorem Ge (a:Act)(C H D J M N E Q R T G U v:Value):(Aw a C H D J M N E Q R T G U).put (some 50) v=Aw a C H D J M N v Q R T G U:=by
 unfold Aw
 rw[ax_ (show 57≠50 by decide),ax_ (show 55≠50 by decide),ax_ (show 54≠50 by decide),ax_ (show 53≠50 by decide),ax_ (show 51≠50 by decide),ce_]
theorem FA {a:Act}(h:a.tmps.size=103)(C H D J M N E Q R T G U:Value):(Aw a C H D J M N E Q R T G U).eval (.tmp 50)=E:=by
 unfold Aw
 rw[aj_ (show 57≠50 by decide),aj_ (show 55≠50 by decide),aj_ (show 54≠50 by decide),aj_ (show 53≠50 by decide),aj_ (show 51≠50 by decide),cp_ (by first | omega | (simp only[dd_];omega))]
theorem Gf (a:Act)(C H D J M N E Q R T G U v:Value):(Aw a C H D J M N E Q R T G U).put (some 51) v=Aw a C H D J M N E v R T G U:=by
 unfold Aw
 rw[ax_ (show 57≠51 by decide),ax_ (show 55≠51 by decide),ax_ (show 54≠51 by decide),ax_ (show 53≠51 by decide),ce_]
theorem FB {a:Act}(h:a.tmps.size=103)(C H D J M N E Q R T G U:Value):(Aw a C H D J M N E Q R T G U).eval (.tmp 51)=Q:=by
 unfold Aw
 rw[aj_ (show 57≠51 by decide),aj_ (show 55≠51 by decide),aj_ (show 54≠51 by decide),aj_ (show 53≠51 by decide),cp_ (by first | omega | (simp only[dd_];omega))]
theorem Gg (a:Act)(C H D J M N E Q R T G U v:Value):(Aw a C H D J M N E Q R T G U).put (some 53) v=Aw a C H D J M N E Q v T G U:=by
 unfold Aw
 rw[ax_ (show 57≠53 by decide),ax_ (show 55≠53 by decide),ax_ (show 54≠53 by decide),ce_]
theorem FD {a:Act}(h:a.tmps.size=103)(C H D J M N E Q R T G U:Value):(Aw a C H D J M N E Q R T G U).eval (.tmp 53)=R:=by
 unfold Aw
 rw[aj_ (show 57≠53 by decide),aj_ (show 55≠53 by decide),aj_ (show 54≠53 by decide),cp_ (by first | omega | (simp only[dd_];omega))]
theorem Gh (a:Act)(C H D J M N E Q R T G U v:Value):(Aw a C H D J M N E Q R T G U).put (some 54) v=Aw a C H D J M N E Q R v G U:=by
 unfold Aw
 rw[ax_ (show 57≠54 by decide),ax_ (show 55≠54 by decide),ce_]
theorem FE {a:Act}(h:a.tmps.size=103)(C H D J M N E Q R T G U:Value):(Aw a C H D J M N E Q R T G U).eval (.tmp 54)=T:=by
 unfold Aw
 rw[aj_ (show 57≠54 by decide),aj_ (show 55≠54 by decide),cp_ (by first | omega | (simp only[dd_];omega))]
theorem Gi (a:Act)(C H D J M N E Q R T G U v:Value):(Aw a C H D J M N E Q R T G U).put (some 55) v=Aw a C H D J M N E Q R T v U:=by
 unfold Aw
 rw[ax_ (show 57≠55 by decide),ce_]
theorem FF {a:Act}(h:a.tmps.size=103)(C H D J M N E Q R T G U:Value):(Aw a C H D J M N E Q R T G U).eval (.tmp 55)=G:=by
 unfold Aw
 rw[aj_ (show 57≠55 by decide),cp_ (by first | omega | (simp only[dd_];omega))]
theorem Gj (a:Act)(C H D J M N E Q R T G U v:Value):(Aw a C H D J M N E Q R T G U).put (some 57) v=Aw a C H D J M N E Q R T G v:=by
 unfold Aw
 rw[ce_]
theorem Fp (a:Act)(C H D J M N E Q R T G U:Value):(Aw a C H D J M N E Q R T G U).eval (.tmp 39)=a.eval (.tmp 39):=by
 unfold Aw
 rw[aj_ (show 57≠39 by decide),aj_ (show 55≠39 by decide),aj_ (show 54≠39 by decide),aj_ (show 53≠39 by decide),aj_ (show 51≠39 by decide),aj_ (show 50≠39 by decide),aj_ (show 49≠39 by decide),aj_ (show 48≠39 by decide),aj_ (show 46≠39 by decide),aj_ (show 45≠39 by decide),aj_ (show 44≠39 by decide),aj_ (show 42≠39 by decide)]
theorem Fq (a:Act)(C H D J M N E Q R T G U:Value):(Aw a C H D J M N E Q R T G U).eval (.tmp 40)=a.eval (.tmp 40):=by
 unfold Aw
 rw[aj_ (show 57≠40 by decide),aj_ (show 55≠40 by decide),aj_ (show 54≠40 by decide),aj_ (show 53≠40 by decide),aj_ (show 51≠40 by decide),aj_ (show 50≠40 by decide),aj_ (show 49≠40 by decide),aj_ (show 48≠40 by decide),aj_ (show 46≠40 by decide),aj_ (show 45≠40 by decide),aj_ (show 44≠40 by decide),aj_ (show 42≠40 by decide)]
theorem Fr (a:Act)(C H D J M N E Q R T G U:Value):(Aw a C H D J M N E Q R T G U).eval (.tmp 41)=a.eval (.tmp 41):=by
 unfold Aw
 rw[aj_ (show 57≠41 by decide),aj_ (show 55≠41 by decide),aj_ (show 54≠41 by decide),aj_ (show 53≠41 by decide),aj_ (show 51≠41 by decide),aj_ (show 50≠41 by decide),aj_ (show 49≠41 by decide),aj_ (show 48≠41 by decide),aj_ (show 46≠41 by decide),aj_ (show 45≠41 by decide),aj_ (show 44≠41 by decide),aj_ (show 42≠41 by decide)]
theorem Ft (a:Act)(C H D J M N E Q R T G U:Value):(Aw a C H D J M N E Q R T G U).eval (.tmp 43)=a.eval (.tmp 43):=by
 unfold Aw
 rw[aj_ (show 57≠43 by decide),aj_ (show 55≠43 by decide),aj_ (show 54≠43 by decide),aj_ (show 53≠43 by decide),aj_ (show 51≠43 by decide),aj_ (show 50≠43 by decide),aj_ (show 49≠43 by decide),aj_ (show 48≠43 by decide),aj_ (show 46≠43 by decide),aj_ (show 45≠43 by decide),aj_ (show 44≠43 by decide),aj_ (show 42≠43 by decide)]
theorem Fx (a:Act)(C H D J M N E Q R T G U:Value):(Aw a C H D J M N E Q R T G U).eval (.tmp 47)=a.eval (.tmp 47):=by
 unfold Aw
 rw[aj_ (show 57≠47 by decide),aj_ (show 55≠47 by decide),aj_ (show 54≠47 by decide),aj_ (show 53≠47 by decide),aj_ (show 51≠47 by decide),aj_ (show 50≠47 by decide),aj_ (show 49≠47 by decide),aj_ (show 48≠47 by decide),aj_ (show 46≠47 by decide),aj_ (show 45≠47 by decide),aj_ (show 44≠47 by decide),aj_ (show 42≠47 by decide)]
theorem FC (a:Act)(C H D J M N E Q R T G U:Value):(Aw a C H D J M N E Q R T G U).eval (.tmp 52)=a.eval (.tmp 52):=by
 unfold Aw
 rw[aj_ (show 57≠52 by decide),aj_ (show 55≠52 by decide),aj_ (show 54≠52 by decide),aj_ (show 53≠52 by decide),aj_ (show 51≠52 by decide),aj_ (show 50≠52 by decide),aj_ (show 49≠52 by decide),aj_ (show 48≠52 by decide),aj_ (show 46≠52 by decide),aj_ (show 45≠52 by decide),aj_ (show 44≠52 by decide),aj_ (show 42≠52 by decide)]
theorem FG (a:Act)(C H D J M N E Q R T G U:Value):(Aw a C H D J M N E Q R T G U).eval (.tmp 56)=a.eval (.tmp 56):=by
 unfold Aw
 rw[aj_ (show 57≠56 by decide),aj_ (show 55≠56 by decide),aj_ (show 54≠56 by decide),aj_ (show 53≠56 by decide),aj_ (show 51≠56 by decide),aj_ (show 50≠56 by decide),aj_ (show 49≠56 by decide),aj_ (show 48≠56 by decide),aj_ (show 46≠56 by decide),aj_ (show 45≠56 by decide),aj_ (show 44≠56 by decide),aj_ (show 42≠56 by decide)]
def EZ (k:Nat)(x:Value):Prop:=∃ n:Nat,x=.int .i64 n∧(n:Int)<k
def H2 (x:Value):Prop:=∃ n:Int,x=.int .i64 n
def Hc (x:Value):Prop:=∃ s:ByteArray,x=.string s∧s.size<=1
def Ev (B k:Nat)(u:World)(x:Value):Prop:=∃ b cs t,x=.slice (some ⟨b,0,none⟩) k k∧Blk u b cs t∧cs.size=k∧(∀ v∈cs,∃ s:ByteArray,v=.string s∧s.size<=1)∧B<b
def Ew (B:Nat)(u:World)(x:Value):Prop:=∃ b i s,x=.pointer (some ⟨b,i,none⟩)∧u.cell? ⟨b,i,none⟩=some (.string s)∧s.size<=1∧B<b
theorem Ev.below {B k:Nat}{u u':World}{x:Value}(h:Ev B k u x)(hb:Below u.heap.size u u'):Ev B k u' x:=by
 obtain⟨b,cs,t,h1,h2,h3⟩:=h
 exact⟨b,cs,t,h1,h2.below hb,h3⟩
theorem Ew.below {B:Nat}{u u':World}{x:Value}(h:Ew B u x)(hb:Below u.heap.size u u'):Ew B u' x:=by
 obtain⟨b,i,s,h1,h2,h3⟩:=h
 exact⟨b,i,s,h1,Ab hb h2,h3⟩
theorem Ev.grown {B k:Nat}{u u':World}{x:Value}(h:Ev B k u x)(hg:u.grownBy u' (some B)):Ev B k u' x:=by
 obtain⟨b,cs,t,h1,h2,h3,h4,h5⟩:=h
 exact⟨b,cs,t,h1,h2.grown hg (by omega),h3,h4,h5⟩
theorem Ew.grown {B:Nat}{u u':World}{x:Value}(h:Ew B u x)(hg:u.grownBy u' (some B)):Ew B u' x:=by
 obtain⟨b,i,s,h1,h2,h3,h4⟩:=h
 exact⟨b,i,s,h1,hg.cell h2 (by simp only[ne_eq,Zo];omega),h3,h4⟩
theorem CJ {w:World}{b x n:Nat}{cs:Array Value}{t:TypeId}(h:Blk w b cs t)(hn:cs.size=n)(hs:∀ v∈cs,∃ s:ByteArray,v=.string s∧s.size<=1)(hx:(x:Int)<n):∃ s:ByteArray,w.cell? ⟨b,x,none⟩=some (.string s)∧s.size<=1:=by
 have ha:x<cs.size:=by omega
 obtain⟨s,h1,h2⟩:=hs cs[x] (Array.getElem_mem ha)
 refine ⟨s,?_,h2⟩
 rw[h.cell,<-h1]
 simp[ha]
theorem Db {w:World}{b:Nat}{c0 c1 c2 c3 c4 c5 c6 c7 c8:Value}{t:TypeId}(h:Blk w b #[c0,c1,c2,c3,c4,c5,c6,c7,c8] t)(v0 v1 v2 v3 v4 v5 v6 v7 v8:Value) :
  Blk (((((((((w.setCell ⟨b,0,none⟩ v0).setCell ⟨b,1,none⟩ v1).setCell ⟨b,2,none⟩ v2).setCell ⟨b,3,none⟩ v3).setCell ⟨b,4,none⟩ v4).setCell ⟨b,5,none⟩ v5).setCell ⟨b,6,none⟩ v6).setCell ⟨b,7,none⟩ v7).setCell ⟨b,8,none⟩ v8) b #[v0,v1,v2,v3,v4,v5,v6,v7,v8] t∧w.grownBy (((((((((w.setCell ⟨b,0,none⟩ v0).setCell ⟨b,1,none⟩ v1).setCell ⟨b,2,none⟩ v2).setCell ⟨b,3,none⟩ v3).setCell ⟨b,4,none⟩ v4).setCell ⟨b,5,none⟩ v5).setCell ⟨b,6,none⟩ v6).setCell ⟨b,7,none⟩ v7).setCell ⟨b,8,none⟩ v8) (some b):=
 ⟨by simpa using (((((((((h.set 0 v0).set 1 v1).set 2 v2).set 3 v3).set 4 v4).set 5 v5).set 6 v6).set 7 v7).set 8 v8),(af_ (af_ (af_ (af_ (af_ (af_ (af_ (af_ (B3 w b 0 v0) 1 v1) 2 v2) 3 v3) 4 v4) 5 v5) 6 v6) 7 v7) 8 v8)⟩
theorem Au:(⟨#[]⟩:ByteArray).size<=9223372036854775807:=by decide
end
end Go.Proofs.YtahenegmbmnmjaaGreatDoor
