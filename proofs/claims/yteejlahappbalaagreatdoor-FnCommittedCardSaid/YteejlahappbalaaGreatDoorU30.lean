/- Texts of pools, read and written; what is drawn. -/
import Derived.Deep.DeepCutAuto
import Derived.Laws.EntriesVeiled
import Derived.Stop.Asserts
import Derived.Lib.ItoaNum
import Derived.Lib.Atoi
import Derived.Lib.AtoiTie
import Derived.Lib.ParseIntBTie
import Derived.Lib.Strings
import Derived.Shelf.Strings.BuilderK
import Derived.Shelf.Strings.OnBuilder
import Derived.OrdersHeld
import Derived.StillTail
import Derived.Lib.AppendIntMem
import Derived.Shelf.Strconv.Itoa4
import Derived.Shelf.Strconv.ErrVarParseInt
import Derived.Shelf.Strings.Prefix
import Derived.Lib.Split
import Derived.Shelf.Strings.SplitShaped
import Derived.Shelf.Small.Strs
import Derived.Laws.StructEq
import Derived.ArgAppend
import Derived.Defers
import Derived.Recover
import Derived.Laws.Closers25b
import Derived.Laws.BitsLemmas
import Derived.Shelf.Strings.Cut
import Derived.Deep.CutBlock
import Derived.Test.YteejlahappbalaaGreatDoorU09
set_option maxHeartbeats 20000000
set_option maxRecDepth 100000
namespace Go.Proofs.YteejlahappbalaaGreatDoor
open Go.RowKit Go.BigFrame Tryz
theorem GD (o:Opr)(w:World)(hs:EM o) :
  Calls prog 166 #[.agg #[.int .i64 o.k,.string o.vol,.string o.file,.string o.to,.string o.into,.int .i64 o.at',.int .i64 o.fr,.int .i64 o.ln,.string o.data]] w fun e w'=>e=.returned (.bool (opB o))∧Below w.heap.size w w':=by
 obtain⟨k,vol,file,tt,into,at',fr,ln,data⟩:=o;have hv:=hs.vol;have hf:=hs.file;have ht:=hs.to;have hi:=hs.into;have hd:=hs.data;dsimp only at hv hf ht hi hd;clear hs;have ha:Hid (At data=(!data.toList.isEmpty&&(plainB data&&decide (data.size<=20)))):=by
  show _=_;have h1:decide (1<=data.size)=!data.toList.isEmpty:=by
   rw[Zu,Lib.size_eq]
   cases data.data.toList<;>simp
  unfold At;rw[h1]
  cases plainB data<;>simp
 obtain⟨R,hR⟩:∃ R,Hid (opB ⟨k,vol,file,tt,into,at',fr,ln,data⟩=R):=⟨_,rfl⟩;rw[hR.out];go_enter func166,ntmps166;go_upto_region 1 with fail;go_cut [3] (fun s wc=>s=.bool (at'==0&&(fr==0&&(ln==0&&zB data)))∧wc=w.alloc (.cells #[.int .i64 k,.string vol,.string file,.string tt,.string into,.int .i64 at',.int .i64 fr,.int .i64 ln,.string data] 80))
 case first=>
  cases h1:(at'==0)
  case false=>
   go_wp2;go_meet;exact⟨by rw[h1];rfl,rfl⟩
  cases h2:(fr==0)
  case false=>
   go_wp2;go_meet;exact⟨by rw[h1,h2];rfl,rfl⟩
  cases h3:(ln==0)
  case false=>
   go_wp2;go_meet;exact⟨by rw[h1,h2,h3];rfl,rfl⟩
  go_wp2;go_meet;exact⟨by rw[h1,h2,h3];simp[zB],rfl⟩
 case rest=>
  obtain⟨rfl,rfl⟩:=hcut;go_upto_region 2 with fail;go_cut [4] (fun s wc=>s=.bool (zB tt&&zB into)∧wc=w.alloc (.cells #[.int .i64 k,.string vol,.string file,.string tt,.string into,.int .i64 at',.int .i64 fr,.int .i64 ln,.string data] 80))
  case first=>
   go_wp2;(all_goals go_meet);all_goals (refine ⟨?_,rfl⟩;simp_all [zB])
  case rest=>
   obtain⟨rfl,rfl⟩:=hcut;generalize hB:(at'==0&&(fr==0&&(ln==0&&zB data)))=B at *;generalize hT:(zB tt&&zB into)=T at *;go_wp2_with fail;refine (ai_ at' 0 100 _).mono ?_;rintro e w1 ⟨rfl,rfl⟩;generalize hC1:(decide (0<=at')&&decide (at'<=100))=C1 at *;go_wp2_with fail;refine (ai_ ln 1 100 _).mono ?_;rintro e w1 ⟨rfl,rfl⟩;generalize hC2:(decide (1<=ln)&&decide (ln<=100))=C2 at *;rcases (show k=1∨k=7∨k=8∨k=2∨k=3∨k=4∨k=10∨k=5∨k=6∨k=9∨¬ (1<=k∧k<=10) by omega) with rfl | rfl | rfl | rfl | rfl | rfl | rfl | rfl | rfl | rfl | hk
   case' inr.inr.inr.inr.inr.inr.inr.inr.inr.inr=>
    have n1:¬ k=1:=sH;have n2:¬ k=2:=sH;have n3:¬ k=3:=sH;have n4:¬ k=4:=sH;have n5:¬ k=5:=sH;have n6:¬ k=6:=sH;have n7:¬ k=7:=sH;have n8:¬ k=8:=sH;have n9:¬ k=9:=sH;have n10:¬ k=10:=sH;clear hk
   all_goals as_aux_lemma=>
    go_wp2_with (first | (refine (aq_ _ _ rQ).mono ?_;rintro e w1 ⟨rfl,rfl⟩) | (refine (ai_ _ _ _ _).mono ?_;rintro e w1 ⟨rfl,rfl⟩) | (refine (a7_ _ _ rQ).mono ?_;rintro e w1 ⟨rfl,rfl⟩));(all_goals go_returns);(all_goals go_light);(all_goals refine ⟨ac_ ?_,sM⟩);(all_goals rw[<-hR.out]);(all_goals clear hR);(all_goals subst hB hT hC1 hC2);(all_goals simp_all [opB,inB,zB,ha.out,ZO]);all_goals (intros;omega)
end Go.Proofs.YteejlahappbalaaGreatDoor
