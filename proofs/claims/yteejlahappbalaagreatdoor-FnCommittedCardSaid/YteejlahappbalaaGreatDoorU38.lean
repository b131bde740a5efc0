/- Texts of pools, read and written; what is drawn. -/
import Derived.Test.YteejlahappbalaaGreatDoorU36
set_option maxHeartbeats 20000000
set_option maxRecDepth 100000
namespace Go.Proofs.YteejlahappbalaaGreatDoor
open Go Go.RowKit Go.BigFrame Tryz
theorem Ms {w:World}{b:Nat}{c0 c1 c2 c3 c4 c5:Value}{t:TypeId}(h:Blk w b #[c0,c1,c2,c3,c4,c5] t):w.cell? ⟨b,0,none⟩=some c0∧w.cell? ⟨b,1,none⟩=some c1∧w.cell? ⟨b,2,none⟩=some c2∧w.cell? ⟨b,3,none⟩=some c3∧w.cell? ⟨b,4,none⟩=some c4∧w.cell? ⟨b,5,none⟩=some c5:=h.sixM
theorem Nx {w:World}{B:Nat}:∀ {l:List IQ} {m:List It},Al2 (ItR w B) l m->∀ b∈l.filterMap (fun x=>Di x.a),B<=b
 |_,_,.nil,b,hb=>by simp at hb
 |r::l,_,.cons hr ht,b,hb=>by
  obtain⟨x,hx,e⟩:=YQ.1 hb
  rcases Zn.1 hx with rfl | hx
  ·cases ha:x.a with
   |none=>rw[ha] at e;cases e
   |some ad=>
    rw[ha] at e
    obtain rfl:=Zi e
    exact (hr.ps.block ad ha).1
  ·exact Nx ht b (YQ.2 ⟨x,hx,e⟩)
def fC (n1 n2:Int)(ex:List Ex)(vs:List Vo)(rest:List By):Option (Po×List By):=(manyP DK ctP rest).bind fun c=>(manyP BQ ctP c.2).map fun d=>(⟨n1,n2,ex,vs,c.1,d.1⟩,d.2)
def fV (n1 n2:Int)(ex:List Ex)(rest:List By):Option (Po×List By):=(volsP rest.length rest).bind fun b=>fC n1 n2 ex b.1 b.2
theorem MN {ls:List By}(h:CP Cj 2 ls=none):Ff ls=none:=by
 cases ls with
 |nil=>rfl
 |cons l r=>
  rw[Ff];split
  ·next ha=>rw[SA ha h];rfl
  ·rfl
theorem MO {ls:List By}{q:List By×List By}(h:CP Cj 2 ls=some q):∃ l r a b,ls=l::r∧q=([a,b],r)∧Ff ls=((numP a).bind fun a=>(numP b).map fun b=>(a,b)).bind fun h=>(manyP exK exP r).bind fun x=>fV h.1 h.2 x.1 x.2:=by
 cases ls with
 |nil=>cases h
 |cons l r=>
  cases ha:ahP Cj l with
  |false=>
   have:CP Cj 2 (l::r)=none:=by
    show (if ahP Cj l=true then _ else none)=_;rw[ha];rfl
   rw[this] at h;cases h
  |true=>
   obtain⟨a,b,e,h2⟩:=SB ha h;refine ⟨l,r,a,b,rfl,e,?_⟩;rw[Ff,if_pos ha,h2];rfl
theorem lv{p:Prop}(h:p:=by
 obtain⟨t0,t1,t2,t3,t4,t5⟩:=Ms FB;have s0:=FB.frozen 0;have s1:=FB.frozen 1;have s2:=FB.frozen 2;have s3:=FB.frozen 3;have s4:=FB.frozen 4;have s5:=FB.frozen 5;refine Ag (i:=10) sI rfl (fun K hK=>?_);go_simp;obtain⟨F9,zE⟩:=Gs FB (.int .i64 n1) (.int .i64 n2) (.slice none 0 0) (.slice none 0 0) (.slice none 0 0) (.slice none 0 0);have ki:=ao_ zr zE qJ.out;refine hK.out _ _ (qI _ ki) (fun hHeld=>?_);clear hK K;(try simp only[Act.put,Yj,Yq,Yr]);refine wpAnyH_done sI ?_ _;refine IG (by simp only[AY,YE,List.foldl_nil,Act.put,Act.eval,Yj,Yq,Yr,Array.getD_eq_getD_getElem?,Yp,Yt,Yo,Yw]) ?_
 exact⟨ob,n1,n2,(by first | exact qE | rfl),(by simp only[Act.eval,Array.getD_eq_getD_getElem?,Yp,Yt,Yo,Yw]),(by first | exact qC | rfl),F9,ki,qJ.out⟩):p:=h
theorem pt{p:Prop}(h:p:=by
 rw[qC] at hm;obtain⟨tp,pe,rfl⟩:=hm
 exact⟨rfl,⟨tp,pe,rfl⟩,zr,(by first | exact .inr qC | rfl | exact .inr rfl)⟩):p:=h
theorem sg{p:Prop}(h:p:=by
 go_wp2
 exact⟨rfl,⟨tp,pe,rfl⟩,Bk qv qA (fun k e=>by cases e;exact .inr rfl)⟩):p:=h
theorem fw{p:Prop}(h:p:=by first | exact .inl qE | rfl | exact .inl rfl):p:=h
end Go.Proofs.YteejlahappbalaaGreatDoor
