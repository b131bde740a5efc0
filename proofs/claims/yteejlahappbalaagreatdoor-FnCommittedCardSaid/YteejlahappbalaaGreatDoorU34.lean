/- Texts of pools, read and written; what is drawn. -/
import Derived.Stop.Asserts
import Derived.Lib.ItoaNum
import Derived.Lib.Atoi
import Derived.Lib.AtoiTie
import Derived.Lib.ParseIntBTie
import Derived.Lib.Strings
import Derived.Shelf.Strings.BuilderK
import Derived.Shelf.Strings.OnBuilder
import Derived.OrdersHeld
import Derived.StillTail
import Derived.Lib.AppendIntMem
import Derived.Shelf.Strconv.Itoa4
import Derived.Shelf.Strconv.ErrVarParseInt
import Derived.Shelf.Strings.Prefix
import Derived.Lib.Split
import Derived.Shelf.Strings.SplitShaped
import Derived.Shelf.Small.Strs
import Derived.Laws.StructEq
import Derived.ArgAppend
import Derived.Defers
import Derived.Recover
import Derived.Laws.Closers25b
import Derived.Laws.BitsLemmas
import Derived.Shelf.Strings.Cut
import Derived.Deep.CutBlock
import Derived.Test.YteejlahappbalaaGreatDoorU14
set_option maxHeartbeats 20000000
set_option maxRecDepth 100000
namespace Go.Proofs.YteejlahappbalaaGreatDoor
section
open Go.RowKit Go.BigFrame Tryz
theorem AN (w:World)(B:Nat):w.grownBy w (some B):=Yh _ _
theorem Gd (B:Nat)(w:World)(h:Rd w B) :
  Calls prog 68 #[.pointer (some ⟨B,0,none⟩)] w fun e w'=>(∃ v:Int,e=.returned (.int .i64 v)∧0<=v∧v<=255)∧Rd w' B∧w.grownBy w' (some B):=by
 have h':Hid (Rd w B):=h;obtain⟨a,n,cap,p,t,hb,hp,hn,hc,hg⟩:=h;have c0:w.cell? ⟨B,0,none⟩=some (.slice a n cap):=hb.cell 0;have c1:w.cell? ⟨B,1,none⟩=some (.int .i64 (p:Int)):=hb.cell 1;have f1:=hb.frozen 1;by_cases hlt:p<n
 ·obtain⟨b,o,v,rfl,ht,hv,he⟩:=hc p hlt;have hr:b≠B:=by have:b<B:=hg _ sH rfl;omega
  have hS:∀ u:World,Below w.heap.size w u->u.grownBy u (some B)∧w.grownBy u (some B):=fun u hu=>⟨AN u B,au_ (AN w B) hu⟩;go_enter func68,ntmps68;go_wp2_with fail;go_quiet (fail);have hj:=hb.below (Bj w nq);have hm:=hc.below (Bj w nq);have c0q:=Ab (Bj w nq) c0;have c1q:=Ab (Bj w nq) c1;have f1q:=hj.frozen 1;have ha:=Ab (Bj w nq) he;have ho:w.grownBy (w.drewN nq) (some B):=au_ (AN w B) (Bj w nq);clear hb hc c0 c1 f1 he hS;generalize w.drewN nq=wq at *;go_wp2_with fail;have hf:=hj.set 1 (.int .i64 ((p:Int)+1));have hl:=hm.grown (af_ (AN wq B) 1 (.int .i64 ((p:Int)+1))) (fun ad h0 hq=>by have:=hg ad h0 hq;omega);have hs:=aV_ ho (af_ (AN wq B) 1 (.int .i64 ((p:Int)+1)));have hk:(wq.setCell ⟨B,1,none⟩ (.int .i64 ((p:Int)+1))).cell? ⟨b,o+p,none⟩=some (.int .u8 v):=(af_ (AN wq B) 1 (.int .i64 ((p:Int)+1))).cell ha (by simpa using hr);clear hj hm c0q c1q f1q ha ho;generalize wq.setCell ⟨B,1,none⟩ (.int .i64 ((p:Int)+1))=W2 at *;have d0:W2.cell? ⟨B,0,none⟩=some (.slice (some ⟨b,o,none⟩) n cap):=by rw[hf.cell];simp
  have d1:W2.cell? ⟨B,1,none⟩=some (.int .i64 ((p:Int)+1)):=by rw[hf.cell];simp
  have hR:Rd W2 B:=⟨some ⟨b,o,none⟩,n,cap,p+1,t,by simpa using hf,sH,hn,hl,hg⟩;clear hf hl h' hg;have hx:(p:Int)+1-1=p:=sH;have hz:IntKind.i64.wrap ((p:Int)+1-1)=(p:Int):=rj;have hA:IntKind.i64.wrap (p:Int)=(p:Int):=rj;have hB:IntKind.i64.wrap v=v:=rj;have hy:(p:Int)<n:=sH;have hw:(0:Int)<=p:=sH;go_quiet (fail);have hh:=hR.below (Bj W2 nq);go_wp2;go_returns;go_light;exact⟨⟨v,rfl,ht,hv⟩,hh,au_ hs (Bj _ _)⟩
 ·go_enter func68,ntmps68;go_wp2_with fail;go_quiet (fail);have hh:=h'.out.below (Bj w nq);go_wp2;go_returns;go_light;exact⟨⟨0,rfl,sH,sH⟩,hh,au_ (AN w B) (Bj _ _)⟩
theorem Co (B:Nat)(k:Int)(w:World)(h:Rd w B)(hk:k<=65536) :
  Calls prog 30 #[.pointer (some ⟨B,0,none⟩),.int .i64 k] w fun e w'=>(∃ v:Int,e=.returned (.int .i64 v)∧0<=v∧(v=0∨v<k))∧Rd w' B∧w.grownBy w' (some B):=by
 by_cases h1:k<=1
 ·go_enter func30,ntmps30;go_wp2;go_returns;go_light;exact⟨⟨0,rfl,sH,.inl rfl⟩,h,AN w B⟩
 ·by_cases h2:k<=256
  ·go_enter func30,ntmps30;go_wp2_with fail;refine (Gd B _ h).mono ?_;rintro e w1 ⟨⟨v,rfl,hf,hh⟩,ha,hb⟩;go_wp2;go_returns;go_light;exact⟨⟨v % k,rfl,Int.emod_nonneg _ sH,.inr (Int.emod_lt_of_pos _ sH)⟩,ha,hb⟩
  ·go_enter func30,ntmps30;go_wp2_with fail;refine (Gd B _ h).mono ?_;rintro e w1 ⟨⟨v,rfl,hf,hh⟩,ha,hb⟩;go_wp2_with fail;refine (Gd B _ ha).mono ?_;rintro e w2 ⟨⟨u,rfl,hj,hl⟩,hc,he⟩;have hg:=aV_ hb he;have hx:0<=v*256+u:=sH;go_wp2;go_returns;go_light;exact⟨⟨(v*256+u) % k,rfl,Int.emod_nonneg _ sH,.inr (Int.emod_lt_of_pos _ sH)⟩,hc,hg⟩
theorem AR (B:Nat)(k:Int)(w:World)(h:Rd w B)(hk:k<=65536)(h1:1<=k) :
  Calls prog 30 #[.pointer (some ⟨B,0,none⟩),.int .i64 k] w fun e w'=>(∃ v:Nat,e=.returned (.int .i64 v)∧(v:Int)<k)∧Rd w' B∧w.grownBy w' (some B):=
 (Co B k w h hk).mono fun e w' ⟨⟨v,he,h0,hv⟩,r⟩=>by
  obtain⟨m,rfl⟩:=Int.eq_ofNat_of_zero_le h0
  exact⟨⟨m,he,by rcases hv with hv | hv<;>omega⟩,r⟩
theorem C9 (B:Nat)(k:Int)(w:World)(h:Rd w B)(hk:k<=65536)(h1:1<=k) :
  Calls prog 72 #[.pointer (some ⟨B,0,none⟩),.int .i64 k] w fun e w'=>(∃ v:Bool,e=.returned (.bool v))∧Rd w' B∧w.grownBy w' (some B):=by
 go_enter func72,ntmps72;go_wp2_with fail;refine (AR B k _ h hk h1).mono ?_;rintro e w1 ⟨⟨v,rfl,hv⟩,ha,hb⟩;go_wp2;go_returns;go_light;exact⟨⟨_,rfl⟩,ha,hb⟩
theorem OR (B:Nat)(w:World)(h:Rd w B) :
  Calls prog 128 #[.pointer (some ⟨B,0,none⟩)] w fun e w'=>(∃ v:Int,e=.returned (.int .u64 v)∧0<=v∧v<=18446744073709551615)∧Rd w' B∧w.grownBy w' (some B):=by
 go_enter func128,ntmps128;go_wp2_with fail;go_loopw [3,4] (fun x ix wr=>∃ (k:Nat) (v:Int),k<=8∧ix=.int .i64 k∧x=.int .u64 v∧0<=v∧v<=18446744073709551615∧Rd wr B∧w.grownBy wr (some B)) (fun _ ix _=>8-(intOf ix).toNat)
 case atStart=>exact⟨0,0,sH,rfl,rfl,sH,sH,h,AN w B⟩
 case round=>
  obtain⟨k,v,hk,rfl,rfl,hf,hg,hR,hG⟩:=hrel;by_cases hlt:k<8
  ·go_wp2_with fail;refine (Gd B _ hR).mono ?_;rintro e w1 ⟨⟨u,rfl,hh,hj⟩,hc,he⟩;have hb:=aV_ hG he;have ha:=bounds_u64 (wf_bits .or .u64 (IntKind.u64.wrap (v*256)) u);go_wp2;generalize bits BinOp.or IntKind.u64 (IntKind.u64.wrap (v*256)) u=x at *;go_roundw
   case rel=>exact⟨k+1,x,sH,sQ,rfl,ha.1,ha.2,hc,hb⟩
   case measure=>simp[intOf];omega
  ·obtain rfl:k=8:=sH;go_wp2;go_returns;exact⟨⟨v,rfl,hf,hg⟩,hR,hG⟩
theorem OQ (B:Nat)(lo hi:Int)(w:World)(h:Rd w B)(h1:-1000<=lo)(h2:lo<=hi)(h3:hi<=1000) :
  Calls prog 74 #[.pointer (some ⟨B,0,none⟩),.int .i64 lo,.int .i64 hi] w fun e w'=>(∃ v:Int,e=.returned (.int .i64 v)∧lo<=v∧v<=hi)∧Rd w' B∧w.grownBy w' (some B):=by
 go_enter func74,ntmps74;go_wp2_with fail;refine (AR B 8 _ h sH sH).mono ?_;rintro e w1 ⟨⟨x,rfl,hx⟩,ha,hb⟩;by_cases hx0:x=0
 ·subst hx0;go_wp2;go_returns;exact⟨⟨lo,rfl,sH,h2⟩,ha,hb⟩
 ·have b0:((x:Int)==0)=false:=sN;by_cases hx1:x=1
  ·subst hx1;go_wp2;go_returns;exact⟨⟨hi,rfl,h2,sH⟩,ha,hb⟩
  ·have b1:((x:Int)==1)=false:=sN;have hh:¬ hi<lo:=sH;go_wp2_with fail;refine (OR B _ ha).mono ?_;rintro e w2 ⟨⟨v,rfl,hj,hk⟩,hc,he⟩;have hG:=aV_ hb he;have hf:0<=v / 2 % (hi-lo+1):=Int.emod_nonneg _ sH;have hg:v / 2 % (hi-lo+1)<hi-lo+1:=Int.emod_lt_of_pos _ sH;go_wp2;generalize v / 2 % (hi-lo+1)=m at *;have hl:wrap64 m=m:=by unfold wrap64;omega
   have hm:wrap64 (lo+m)=lo+m:=by unfold wrap64;omega
   go_returns;exact⟨⟨lo+m,rfl,sH,sH⟩,hc,hG⟩
theorem I0 (B:Nat)(lo hi:Int)(w:World)(h:Rd w B)(h1:-1000<=lo)(h2:lo<=hi)(h3:hi<=1000) :
  Calls prog 33 #[.pointer (some ⟨B,0,none⟩),.int .i64 lo,.int .i64 hi] w fun e w'=>(∃ v:Int,e=.returned (.int .i64 v)∧-9223372036854775808<=v∧v<=9223372036854775807)∧Rd w' B∧w.grownBy w' (some B):=by
 have hB:=h.lt;go_enter func33,ntmps33;go_wp2_with fail;refine (C9 B 24 _ h sH sH).mono ?_;rintro e w1 ⟨⟨x,rfl⟩,hc,hf⟩
 cases x
 ·go_wp2_with fail;refine (OQ B lo hi _ hc h1 h2 h3).mono ?_;rintro e w2 ⟨⟨v,rfl,hj,hk⟩,he,ha⟩;have hG:=aV_ hf ha;go_wp2;go_returns;exact⟨⟨v,rfl,sH,sH⟩,he,hG⟩
 ·go_wp2_with fail;refine (AR B 4 _ (hc.below sM) sH sH).mono ?_;rintro e w2 ⟨⟨v,rfl,hv⟩,he,ha⟩;have hb:=(Blk.new w1 _ _).grown ha (by have:=hc.lt;omega);have hG:w.grownBy w2 (some B):=aV_ (au_ hf sM) ha;have z0:=hb.cell 0;have z1:=hb.cell 1;have z2:=hb.cell 2;have z3:=hb.cell 3;simp only[Yp,Yo,Yt] at z0 z1 z2 z3;obtain⟨y,hy,hg,hh⟩:∃ y:Int,w2.cell? ⟨w1.heap.size,v,none⟩=some (.int .i64 y)∧-9223372036854775808<=y∧y<=9223372036854775807:=by
   rcases (show v=0∨v=1∨v=2∨v=3 by omega) with rfl | rfl | rfl | rfl
   ·exact⟨_,z0,sH,sH⟩
   ·exact⟨_,z1,sH,sH⟩
   ·exact⟨_,z2,sH,sH⟩
   ·exact⟨_,z3,sH,sH⟩
  clear z0 z1 z2 z3 hb;have hl:(v:Int)<4:=sH;have hm:(0:Int)<=v:=sH;go_wp2;go_returns;exact⟨⟨y,rfl,hg,hh⟩,he,hG⟩
theorem BE {w u w':World}{B:Nat}{row:Option Nat}(h:w.grownBy u (some B))(hg:u.grownBy w' row)(hr:∀ k,row=some k->w.heap.size<=k):w.grownBy w' (some B):=
 h.andThen hg (fun j hj=>.inl (hr j hj))
theorem OP (B:Nat)(w:World)(h:Rd w B) :
  Calls prog 127 #[.pointer (some ⟨B,0,none⟩)] w fun e w'=>(∃ d:ByteArray,e=.returned (.string d)∧d.size<=20)∧Rd w' B∧w.grownBy w' (some B):=by
 have hf:=h.lt;go_enter func127,ntmps127;go_wp2_with fail;refine (AR B 7 _ (h.below sM) sH sH).mono ?_;rintro e w1 ⟨⟨x,rfl,hx⟩,hc,ha⟩;have b1:=(Blk.new w _ _).grown ha sH;have hb:w.grownBy w1 (some B):=aV_ (au_ (AN w B) sM) ha;clear ha;obtain⟨s,hs,he⟩:∃ s:ByteArray,w1.cell? ⟨w.heap.size,x,none⟩=some (.string s)∧s.size<=20:=by
  rw[b1.cell];rcases (show x=0∨x=1∨x=2∨x=3∨x=4∨x=5∨x=6 by omega) with rfl | rfl | rfl | rfl | rfl | rfl | rfl;all_goals exact⟨_,rfl,sJ⟩
 have hg:(x:Int)<7:=sH;clear b1;go_wp2;go_returns;exact⟨⟨s,rfl,he⟩,hc,hb⟩
end
section
open Go Go.RowKit Go.BigFrame Tryz
def AA (a:Act)(x42 x44 x45 x46 x48 x49 x50 x51 x53 x54 x55 x57:Value):Act:=((((((((((((a.put (some 42) x42).put (some 44) x44).put (some 45) x45).put (some 46) x46).put (some 48) x48).put (some 49) x49).put (some 50) x50).put (some 51) x51).put (some 53) x53).put (some 54) x54).put (some 55) x55).put (some 57) x57)
theorem SS (a:Act)(x42 x44 x45 x46 x48 x49 x50 x51 x53 x54 x55 x57 v:Value):(AA a x42 x44 x45 x46 x48 x49 x50 x51 x53 x54 x55 x57).put (some 42) v=AA a v x44 x45 x46 x48 x49 x50 x51 x53 x54 x55 x57:=by
 unfold AA;rw[ax_ (show 57≠42 by decide),ax_ (show 55≠42 by decide),ax_ (show 54≠42 by decide),ax_ (show 53≠42 by decide),ax_ (show 51≠42 by decide),ax_ (show 50≠42 by decide),ax_ (show 49≠42 by decide),ax_ (show 48≠42 by decide),ax_ (show 46≠42 by decide),ax_ (show 45≠42 by decide),ax_ (show 44≠42 by decide),ce_]
theorem QK {a:Act}(h:a.tmps.size=103)(x42 x44 x45 x46 x48 x49 x50 x51 x53 x54 x55 x57:Value):(AA a x42 x44 x45 x46 x48 x49 x50 x51 x53 x54 x55 x57).eval (.tmp 42)=x42:=by
 unfold AA;rw[aj_ (show 57≠42 by decide),aj_ (show 55≠42 by decide),aj_ (show 54≠42 by decide),aj_ (show 53≠42 by decide),aj_ (show 51≠42 by decide),aj_ (show 50≠42 by decide),aj_ (show 49≠42 by decide),aj_ (show 48≠42 by decide),aj_ (show 46≠42 by decide),aj_ (show 45≠42 by decide),aj_ (show 44≠42 by decide),cp_ sU]
theorem ST (a:Act)(x42 x44 x45 x46 x48 x49 x50 x51 x53 x54 x55 x57 v:Value):(AA a x42 x44 x45 x46 x48 x49 x50 x51 x53 x54 x55 x57).put (some 44) v=AA a x42 v x45 x46 x48 x49 x50 x51 x53 x54 x55 x57:=by
 unfold AA;rw[ax_ (show 57≠44 by decide),ax_ (show 55≠44 by decide),ax_ (show 54≠44 by decide),ax_ (show 53≠44 by decide),ax_ (show 51≠44 by decide),ax_ (show 50≠44 by decide),ax_ (show 49≠44 by decide),ax_ (show 48≠44 by decide),ax_ (show 46≠44 by decide),ax_ (show 45≠44 by decide),ce_]
theorem QM {a:Act}(h:a.tmps.size=103)(x42 x44 x45 x46 x48 x49 x50 x51 x53 x54 x55 x57:Value):(AA a x42 x44 x45 x46 x48 x49 x50 x51 x53 x54 x55 x57).eval (.tmp 44)=x44:=by
 unfold AA;rw[aj_ (show 57≠44 by decide),aj_ (show 55≠44 by decide),aj_ (show 54≠44 by decide),aj_ (show 53≠44 by decide),aj_ (show 51≠44 by decide),aj_ (show 50≠44 by decide),aj_ (show 49≠44 by decide),aj_ (show 48≠44 by decide),aj_ (show 46≠44 by decide),aj_ (show 45≠44 by decide),cp_ sU]
theorem SU (a:Act)(x42 x44 x45 x46 x48 x49 x50 x51 x53 x54 x55 x57 v:Value):(AA a x42 x44 x45 x46 x48 x49 x50 x51 x53 x54 x55 x57).put (some 45) v=AA a x42 x44 v x46 x48 x49 x50 x51 x53 x54 x55 x57:=by
 unfold AA;rw[ax_ (show 57≠45 by decide),ax_ (show 55≠45 by decide),ax_ (show 54≠45 by decide),ax_ (show 53≠45 by decide),ax_ (show 51≠45 by decide),ax_ (show 50≠45 by decide),ax_ (show 49≠45 by decide),ax_ (show 48≠45 by decide),ax_ (show 46≠45 by decide),ce_]
theorem QN {a:Act}(h:a.tmps.size=103)(x42 x44 x45 x46 x48 x49 x50 x51 x53 x54 x55 x57:Value):(AA a x42 x44 x45 x46 x48 x49 x50 x51 x53 x54 x55 x57).eval (.tmp 45)=x45:=by
 unfold AA;rw[aj_ (show 57≠45 by decide),aj_ (show 55≠45 by decide),aj_ (show 54≠45 by decide),aj_ (show 53≠45 by decide),aj_ (show 51≠45 by decide),aj_ (show 50≠45 by decide),aj_ (show 49≠45 by decide),aj_ (show 48≠45 by decide),aj_ (show 46≠45 by decide),cp_ sU]
theorem SW (a:Act)(x42 x44 x45 x46 x48 x49 x50 x51 x53 x54 x55 x57 v:Value):(AA a x42 x44 x45 x46 x48 x49 x50 x51 x53 x54 x55 x57).put (some 46) v=AA a x42 x44 x45 v x48 x49 x50 x51 x53 x54 x55 x57:=by
 unfold AA;rw[ax_ (show 57≠46 by decide),ax_ (show 55≠46 by decide),ax_ (show 54≠46 by decide),ax_ (show 53≠46 by decide),ax_ (show 51≠46 by decide),ax_ (show 50≠46 by decide),ax_ (show 49≠46 by decide),ax_ (show 48≠46 by decide),ce_]
theorem QO {a:Act}(h:a.tmps.size=103)(x42 x44 x45 x46 x48 x49 x50 x51 x53 x54 x55 x57:Value):(AA a x42 x44 x45 x46 x48 x49 x50 x51 x53 x54 x55 x57).eval (.tmp 46)=x46:=by
 unfold AA;rw[aj_ (show 57≠46 by decide),aj_ (show 55≠46 by decide),aj_ (show 54≠46 by decide),aj_ (show 53≠46 by decide),aj_ (show 51≠46 by decide),aj_ (show 50≠46 by decide),aj_ (show 49≠46 by decide),aj_ (show 48≠46 by decide),cp_ sU]
theorem SX (a:Act)(x42 x44 x45 x46 x48 x49 x50 x51 x53 x54 x55 x57 v:Value):(AA a x42 x44 x45 x46 x48 x49 x50 x51 x53 x54 x55 x57).put (some 48) v=AA a x42 x44 x45 x46 v x49 x50 x51 x53 x54 x55 x57:=by
 unfold AA;rw[ax_ (show 57≠48 by decide),ax_ (show 55≠48 by decide),ax_ (show 54≠48 by decide),ax_ (show 53≠48 by decide),ax_ (show 51≠48 by decide),ax_ (show 50≠48 by decide),ax_ (show 49≠48 by decide),ce_]
theorem QQ {a:Act}(h:a.tmps.size=103)(x42 x44 x45 x46 x48 x49 x50 x51 x53 x54 x55 x57:Value):(AA a x42 x44 x45 x46 x48 x49 x50 x51 x53 x54 x55 x57).eval (.tmp 48)=x48:=by
 unfold AA;rw[aj_ (show 57≠48 by decide),aj_ (show 55≠48 by decide),aj_ (show 54≠48 by decide),aj_ (show 53≠48 by decide),aj_ (show 51≠48 by decide),aj_ (show 50≠48 by decide),aj_ (show 49≠48 by decide),cp_ sU]
theorem S0 (a:Act)(x42 x44 x45 x46 x48 x49 x50 x51 x53 x54 x55 x57 v:Value):(AA a x42 x44 x45 x46 x48 x49 x50 x51 x53 x54 x55 x57).put (some 49) v=AA a x42 x44 x45 x46 x48 v x50 x51 x53 x54 x55 x57:=by
 unfold AA;rw[ax_ (show 57≠49 by decide),ax_ (show 55≠49 by decide),ax_ (show 54≠49 by decide),ax_ (show 53≠49 by decide),ax_ (show 51≠49 by decide),ax_ (show 50≠49 by decide),ce_]
theorem QR {a:Act}(h:a.tmps.size=103)(x42 x44 x45 x46 x48 x49 x50 x51 x53 x54 x55 x57:Value):(AA a x42 x44 x45 x46 x48 x49 x50 x51 x53 x54 x55 x57).eval (.tmp 49)=x49:=by
 unfold AA;rw[aj_ (show 57≠49 by decide),aj_ (show 55≠49 by decide),aj_ (show 54≠49 by decide),aj_ (show 53≠49 by decide),aj_ (show 51≠49 by decide),aj_ (show 50≠49 by decide),cp_ sU]
theorem S7 (a:Act)(x42 x44 x45 x46 x48 x49 x50 x51 x53 x54 x55 x57 v:Value):(AA a x42 x44 x45 x46 x48 x49 x50 x51 x53 x54 x55 x57).put (some 50) v=AA a x42 x44 x45 x46 x48 x49 v x51 x53 x54 x55 x57:=by
 unfold AA;rw[ax_ (show 57≠50 by decide),ax_ (show 55≠50 by decide),ax_ (show 54≠50 by decide),ax_ (show 53≠50 by decide),ax_ (show 51≠50 by decide),ce_]
theorem QS {a:Act}(h:a.tmps.size=103)(x42 x44 x45 x46 x48 x49 x50 x51 x53 x54 x55 x57:Value):(AA a x42 x44 x45 x46 x48 x49 x50 x51 x53 x54 x55 x57).eval (.tmp 50)=x50:=by
 unfold AA;rw[aj_ (show 57≠50 by decide),aj_ (show 55≠50 by decide),aj_ (show 54≠50 by decide),aj_ (show 53≠50 by decide),aj_ (show 51≠50 by decide),cp_ sU]
theorem Ta (a:Act)(x42 x44 x45 x46 x48 x49 x50 x51 x53 x54 x55 x57 v:Value):(AA a x42 x44 x45 x46 x48 x49 x50 x51 x53 x54 x55 x57).put (some 51) v=AA a x42 x44 x45 x46 x48 x49 x50 v x53 x54 x55 x57:=by
 unfold AA;rw[ax_ (show 57≠51 by decide),ax_ (show 55≠51 by decide),ax_ (show 54≠51 by decide),ax_ (show 53≠51 by decide),ce_]
theorem QT {a:Act}(h:a.tmps.size=103)(x42 x44 x45 x46 x48 x49 x50 x51 x53 x54 x55 x57:Value):(AA a x42 x44 x45 x46 x48 x49 x50 x51 x53 x54 x55 x57).eval (.tmp 51)=x51:=by
 unfold AA;rw[aj_ (show 57≠51 by decide),aj_ (show 55≠51 by decide),aj_ (show 54≠51 by decide),aj_ (show 53≠51 by decide),cp_ sU]
theorem Tc (a:Act)(x42 x44 x45 x46 x48 x49 x50 x51 x53 x54 x55 x57 v:Value):(AA a x42 x44 x45 x46 x48 x49 x50 x51 x53 x54 x55 x57).put (some 53) v=AA a x42 x44 x45 x46 x48 x49 x50 x51 v x54 x55 x57:=by
 unfold AA;rw[ax_ (show 57≠53 by decide),ax_ (show 55≠53 by decide),ax_ (show 54≠53 by decide),ce_]
theorem QV {a:Act}(h:a.tmps.size=103)(x42 x44 x45 x46 x48 x49 x50 x51 x53 x54 x55 x57:Value):(AA a x42 x44 x45 x46 x48 x49 x50 x51 x53 x54 x55 x57).eval (.tmp 53)=x53:=by
 unfold AA;rw[aj_ (show 57≠53 by decide),aj_ (show 55≠53 by decide),aj_ (show 54≠53 by decide),cp_ sU]
theorem Td (a:Act)(x42 x44 x45 x46 x48 x49 x50 x51 x53 x54 x55 x57 v:Value):(AA a x42 x44 x45 x46 x48 x49 x50 x51 x53 x54 x55 x57).put (some 54) v=AA a x42 x44 x45 x46 x48 x49 x50 x51 x53 v x55 x57:=by
 unfold AA;rw[ax_ (show 57≠54 by decide),ax_ (show 55≠54 by decide),ce_]
theorem QW {a:Act}(h:a.tmps.size=103)(x42 x44 x45 x46 x48 x49 x50 x51 x53 x54 x55 x57:Value):(AA a x42 x44 x45 x46 x48 x49 x50 x51 x53 x54 x55 x57).eval (.tmp 54)=x54:=by
 unfold AA;rw[aj_ (show 57≠54 by decide),aj_ (show 55≠54 by decide),cp_ sU]
theorem Te (a:Act)(x42 x44 x45 x46 x48 x49 x50 x51 x53 x54 x55 x57 v:Value):(AA a x42 x44 x45 x46 x48 x49 x50 x51 x53 x54 x55 x57).put (some 55) v=AA a x42 x44 x45 x46 x48 x49 x50 x51 x53 x54 v x57:=by
 unfold AA;rw[ax_ (show 57≠55 by decide),ce_]
theorem QX {a:Act}(h:a.tmps.size=103)(x42 x44 x45 x46 x48 x49 x50 x51 x53 x54 x55 x57:Value):(AA a x42 x44 x45 x46 x48 x49 x50 x51 x53 x54 x55 x57).eval (.tmp 55)=x55:=by
 unfold AA;rw[aj_ (show 57≠55 by decide),cp_ sU]
theorem Tf (a:Act)(x42 x44 x45 x46 x48 x49 x50 x51 x53 x54 x55 x57 v:Value):(AA a x42 x44 x45 x46 x48 x49 x50 x51 x53 x54 x55 x57).put (some 57) v=AA a x42 x44 x45 x46 x48 x49 x50 x51 x53 x54 x55 v:=by
 unfold AA;rw[ce_]
theorem QH (a:Act)(x42 x44 x45 x46 x48 x49 x50 x51 x53 x54 x55 x57:Value):(AA a x42 x44 x45 x46 x48 x49 x50 x51 x53 x54 x55 x57).eval (.tmp 39)=a.eval (.tmp 39):=by
 unfold AA;rw[aj_ (show 57≠39 by decide),aj_ (show 55≠39 by decide),aj_ (show 54≠39 by decide),aj_ (show 53≠39 by decide),aj_ (show 51≠39 by decide),aj_ (show 50≠39 by decide),aj_ (show 49≠39 by decide),aj_ (show 48≠39 by decide),aj_ (show 46≠39 by decide),aj_ (show 45≠39 by decide),aj_ (show 44≠39 by decide),aj_ (show 42≠39 by decide)]
theorem QI (a:Act)(x42 x44 x45 x46 x48 x49 x50 x51 x53 x54 x55 x57:Value):(AA a x42 x44 x45 x46 x48 x49 x50 x51 x53 x54 x55 x57).eval (.tmp 40)=a.eval (.tmp 40):=by
 unfold AA;rw[aj_ (show 57≠40 by decide),aj_ (show 55≠40 by decide),aj_ (show 54≠40 by decide),aj_ (show 53≠40 by decide),aj_ (show 51≠40 by decide),aj_ (show 50≠40 by decide),aj_ (show 49≠40 by decide),aj_ (show 48≠40 by decide),aj_ (show 46≠40 by decide),aj_ (show 45≠40 by decide),aj_ (show 44≠40 by decide),aj_ (show 42≠40 by decide)]
theorem QJ (a:Act)(x42 x44 x45 x46 x48 x49 x50 x51 x53 x54 x55 x57:Value):(AA a x42 x44 x45 x46 x48 x49 x50 x51 x53 x54 x55 x57).eval (.tmp 41)=a.eval (.tmp 41):=by
 unfold AA;rw[aj_ (show 57≠41 by decide),aj_ (show 55≠41 by decide),aj_ (show 54≠41 by decide),aj_ (show 53≠41 by decide),aj_ (show 51≠41 by decide),aj_ (show 50≠41 by decide),aj_ (show 49≠41 by decide),aj_ (show 48≠41 by decide),aj_ (show 46≠41 by decide),aj_ (show 45≠41 by decide),aj_ (show 44≠41 by decide),aj_ (show 42≠41 by decide)]
theorem QL (a:Act)(x42 x44 x45 x46 x48 x49 x50 x51 x53 x54 x55 x57:Value):(AA a x42 x44 x45 x46 x48 x49 x50 x51 x53 x54 x55 x57).eval (.tmp 43)=a.eval (.tmp 43):=by
 unfold AA;rw[aj_ (show 57≠43 by decide),aj_ (show 55≠43 by decide),aj_ (show 54≠43 by decide),aj_ (show 53≠43 by decide),aj_ (show 51≠43 by decide),aj_ (show 50≠43 by decide),aj_ (show 49≠43 by decide),aj_ (show 48≠43 by decide),aj_ (show 46≠43 by decide),aj_ (show 45≠43 by decide),aj_ (show 44≠43 by decide),aj_ (show 42≠43 by decide)]
theorem QP (a:Act)(x42 x44 x45 x46 x48 x49 x50 x51 x53 x54 x55 x57:Value):(AA a x42 x44 x45 x46 x48 x49 x50 x51 x53 x54 x55 x57).eval (.tmp 47)=a.eval (.tmp 47):=by
 unfold AA;rw[aj_ (show 57≠47 by decide),aj_ (show 55≠47 by decide),aj_ (show 54≠47 by decide),aj_ (show 53≠47 by decide),aj_ (show 51≠47 by decide),aj_ (show 50≠47 by decide),aj_ (show 49≠47 by decide),aj_ (show 48≠47 by decide),aj_ (show 46≠47 by decide),aj_ (show 45≠47 by decide),aj_ (show 44≠47 by decide),aj_ (show 42≠47 by decide)]
theorem QU (a:Act)(x42 x44 x45 x46 x48 x49 x50 x51 x53 x54 x55 x57:Value):(AA a x42 x44 x45 x46 x48 x49 x50 x51 x53 x54 x55 x57).eval (.tmp 52)=a.eval (.tmp 52):=by
 unfold AA;rw[aj_ (show 57≠52 by decide),aj_ (show 55≠52 by decide),aj_ (show 54≠52 by decide),aj_ (show 53≠52 by decide),aj_ (show 51≠52 by decide),aj_ (show 50≠52 by decide),aj_ (show 49≠52 by decide),aj_ (show 48≠52 by decide),aj_ (show 46≠52 by decide),aj_ (show 45≠52 by decide),aj_ (show 44≠52 by decide),aj_ (show 42≠52 by decide)]
theorem QY (a:Act)(x42 x44 x45 x46 x48 x49 x50 x51 x53 x54 x55 x57:Value):(AA a x42 x44 x45 x46 x48 x49 x50 x51 x53 x54 x55 x57).eval (.tmp 56)=a.eval (.tmp 56):=by
 unfold AA;rw[aj_ (show 57≠56 by decide),aj_ (show 55≠56 by decide),aj_ (show 54≠56 by decide),aj_ (show 53≠56 by decide),aj_ (show 51≠56 by decide),aj_ (show 50≠56 by decide),aj_ (show 49≠56 by decide),aj_ (show 48≠56 by decide),aj_ (show 46≠56 by decide),aj_ (show 45≠56 by decide),aj_ (show 44≠56 by decide),aj_ (show 42≠56 by decide)]
def RH (k:Nat)(x:Value):Prop:=∃ n:Nat,x=.int .i64 n∧(n:Int)<k
def Vc (x:Value):Prop:=∃ n:Int,x=.int .i64 n
def UJ (x:Value):Prop:=∃ s:ByteArray,x=.string s∧s.size<=1
theorem IH {w:World}{b x n:Nat}{cs:Array Value}{t:TypeId}(h:Blk w b cs t)(hn:cs.size=n)(hs:∀ v∈cs,∃ s:ByteArray,v=.string s∧s.size<=1)(hx:(x:Int)<n):∃ s:ByteArray,w.cell? ⟨b,x,none⟩=some (.string s)∧s.size<=1:=by
 have ha:x<cs.size:=sH;obtain⟨s,h1,h2⟩:=hs cs[x] (Array.getElem_mem ha);refine ⟨s,?_,h2⟩;rw[h.cell,<-h1];simp[ha]
theorem Vq {w:World}{b:Nat}{c0 c1 c2 c3 c4 c5 c6 c7 c8:Value}{t:TypeId}(h:Blk w b #[c0,c1,c2,c3,c4,c5,c6,c7,c8] t)(v0 v1 v2 v3 v4 v5 v6 v7 v8:Value) :
  Blk (((((((((w.setCell ⟨b,0,none⟩ v0).setCell ⟨b,1,none⟩ v1).setCell ⟨b,2,none⟩ v2).setCell ⟨b,3,none⟩ v3).setCell ⟨b,4,none⟩ v4).setCell ⟨b,5,none⟩ v5).setCell ⟨b,6,none⟩ v6).setCell ⟨b,7,none⟩ v7).setCell ⟨b,8,none⟩ v8) b #[v0,v1,v2,v3,v4,v5,v6,v7,v8] t∧w.grownBy (((((((((w.setCell ⟨b,0,none⟩ v0).setCell ⟨b,1,none⟩ v1).setCell ⟨b,2,none⟩ v2).setCell ⟨b,3,none⟩ v3).setCell ⟨b,4,none⟩ v4).setCell ⟨b,5,none⟩ v5).setCell ⟨b,6,none⟩ v6).setCell ⟨b,7,none⟩ v7).setCell ⟨b,8,none⟩ v8) (some b):=
 ⟨by simpa using (((((((((h.set 0 v0).set 1 v1).set 2 v2).set 3 v3).set 4 v4).set 5 v5).set 6 v6).set 7 v7).set 8 v8),(af_ (af_ (af_ (af_ (af_ (af_ (af_ (af_ (CE w b 0 v0) 1 v1) 2 v2) 3 v3) 4 v4) 5 v5) 6 v6) 7 v7) 8 v8)⟩
theorem Au:(⟨#[]⟩:ByteArray).size<=9223372036854775807:=by decide
theorem fz9 {w:World}{b:Nat}{c:Array Value}{t:TypeId}(h:Blk w b c t):w.frozen? ⟨b,0,none⟩=false∧w.frozen? ⟨b,1,none⟩=false∧w.frozen? ⟨b,2,none⟩=false∧w.frozen? ⟨b,3,none⟩=false∧w.frozen? ⟨b,4,none⟩=false∧w.frozen? ⟨b,5,none⟩=false∧w.frozen? ⟨b,6,none⟩=false∧w.frozen? ⟨b,7,none⟩=false∧w.frozen? ⟨b,8,none⟩=false:=⟨h.frozen 0,h.frozen 1,h.frozen 2,h.frozen 3,h.frozen 4,h.frozen 5,h.frozen 6,h.frozen 7,h.frozen 8⟩
theorem Fe {B:Nat}{w u:World}{a:Act}{c0 c1 c2 c3 c4 c5 c6 c7 c8:Value}(o:Opr)(D:Blk u w.heap.size #[c0,c1,c2,c3,c4,c5,c6,c7,c8] 80)(hR:Rd u B)(hG:w.grownBy u (some B))(hlt:B<w.heap.size)(hs:EM o)(hp:a.tmps.getD 2 undef=.pointer (some ⟨w.heap.size,0,none⟩))(hd:a.defers=[]) :
  bodyPost prog f71 (fun e w'=>(∃ o:Opr,e=.returned (.agg #[.int .i64 o.k,.string o.vol,.string o.file,.string o.to,.string o.into,.int .i64 o.at',.int .i64 o.fr,.int .i64 o.ln,.string o.data])∧EM o)∧Rd w' B∧w.grownBy w' (some B)) .ret a (((((((((u.setCell ⟨w.heap.size,0,none⟩ (.int .i64 o.k)).setCell ⟨w.heap.size,1,none⟩ (.string o.vol)).setCell ⟨w.heap.size,2,none⟩ (.string o.file)).setCell ⟨w.heap.size,3,none⟩ (.string o.to)).setCell ⟨w.heap.size,4,none⟩ (.string o.into)).setCell ⟨w.heap.size,5,none⟩ (.int .i64 o.at')).setCell ⟨w.heap.size,6,none⟩ (.int .i64 o.fr)).setCell ⟨w.heap.size,7,none⟩ (.int .i64 o.ln)).setCell ⟨w.heap.size,8,none⟩ (.string o.data)):=by
 obtain⟨W0,ha⟩:=Vq D (.int .i64 o.k) (.string o.vol) (.string o.file) (.string o.to) (.string o.into) (.int .i64 o.at') (.int .i64 o.fr) (.int .i64 o.ln) (.string o.data);have hc:=hR.grown ha hlt;have hb:=BE hG ha (fun k e=>by cases e;exact Zd _);exact YW (results_cell_row rfl _ _ w.heap.size _ _ _ _ hp W0 underlying80 rfl sI) hd ⟨⟨o,rfl,hs⟩,hc,hb⟩
theorem oM{p:Prop}(h:p:=by simpa [Act.eval] using e1):p:=h
end
end Go.Proofs.YteejlahappbalaaGreatDoor
