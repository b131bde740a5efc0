/- Texts of pools, read and written; what is drawn. -/
import Derived.Test.YtkiceokhlceciaaGreatDoorU38
set_option maxHeartbeats 20000000
set_option maxRecDepth 100000
namespace Go.Proofs.YtkiceokhlceciaaGreatDoor
open Go Go.RowKit Go.BigFrame Tryz
theorem Hi {w:World}{b:Nat}{c0 c1 c2 c3 c4 c5:Value}{t:TypeId}(h:Blk w b #[c0,c1,c2,c3,c4,c5] t):w.cell? ⟨b,0,none⟩=some c0∧w.cell? ⟨b,1,none⟩=some c1∧w.cell? ⟨b,2,none⟩=some c2∧w.cell? ⟨b,3,none⟩=some c3∧w.cell? ⟨b,4,none⟩=some c4∧w.cell? ⟨b,5,none⟩=some c5:=h.sixM
theorem FM {w:World}{b:Nat}{c0 c1 c2 c3 c4 c5:Value}{t:TypeId}(h:Blk w b #[c0,c1,c2,c3,c4,c5] t)(x0 x1 x2 x3 x4 x5:Value):Blk ((((((w.setCell ⟨b,0,none⟩ x0).setCell ⟨b,1,none⟩ x1).setCell ⟨b,2,none⟩ x2).setCell ⟨b,3,none⟩ x3).setCell ⟨b,4,none⟩ x4).setCell ⟨b,5,none⟩ x5) b #[x0,x1,x2,x3,x4,x5] t∧w.grownBy ((((((w.setCell ⟨b,0,none⟩ x0).setCell ⟨b,1,none⟩ x1).setCell ⟨b,2,none⟩ x2).setCell ⟨b,3,none⟩ x3).setCell ⟨b,4,none⟩ x4).setCell ⟨b,5,none⟩ x5) (some b):=
 ⟨by have:=(((((h.set 0 x0).set 1 x1).set 2 x2).set 3 x3).set 4 x4).set 5 x5;simpa using this,af_ (af_ (af_ (af_ (af_ (af_ (Yh _ _) _ _) _ _) _ _) _ _) _ _) _ _⟩
theorem VoR.offB {w w':World}{B b:Nat}{r:VQ}{v:Vo}(h:VoR w B r v)(hg:w.grownBy w' (some b))(hb:b<B):VoR w' B r v:=⟨h.id,h.nm,h.fx,h.rows.offB hg hb,h.its.imp fun _ _ _ h=>h.offB hg hb⟩
theorem Ja {w:World}{B:Nat}:∀ {l:List IQ} {m:List It},Al2 (ItR w B) l m->∀ b∈l.filterMap (fun x=>CF x.a),B<=b
 |_,_,.nil,b,hb=>by simp at hb
 |r::l,_,.cons hr ht,b,hb=>by
  obtain⟨x,hx,e⟩:=YQ.1 hb
  rcases Zn.1 hx with rfl | hx
  ·cases ha:x.a with
   |none=>rw[ha] at e;cases e
   |some ad=>
    rw[ha] at e
    obtain rfl:=Zi e
    exact (hr.ps.block ad ha).1
  ·exact Ja ht b (YQ.2 ⟨x,hx,e⟩)
def fC (n1 n2:Int)(ex:List Ex)(vs:List Vo)(rest:List By):Option (Po×List By):=(manyP B7 ctP rest).bind fun c=>(manyP Bj ctP c.2).map fun d=>(⟨n1,n2,ex,vs,c.1,d.1⟩,d.2)
def fV (n1 n2:Int)(ex:List Ex)(rest:List By):Option (Po×List By):=(volsP rest.length rest).bind fun b=>fC n1 n2 ex b.1 b.2
theorem IM {ls:List By}(h:Ck BA 2 ls=none):Ea ls=none:=by
 cases ls with
 |nil=>rfl
 |cons l r=>
  rw[Ea]
  split
  ·next ha=>rw[LJ ha h];rfl
  ·rfl
theorem IN {ls:List By}{q:List By×List By}(h:Ck BA 2 ls=some q):∃ l r a b,ls=l::r∧q=([a,b],r)∧Ea ls=((numP a).bind fun a=>(numP b).map fun b=>(a,b)).bind fun h=>(manyP exK exP r).bind fun x=>fV h.1 h.2 x.1 x.2:=by
 cases ls with
 |nil=>cases h
 |cons l r=>
  cases ha:ahP BA l with
  |false=>
   have:Ck BA 2 (l::r)=none:=by
    show (if ahP BA l=true then _ else none)=_
    rw[ha];rfl
   rw[this] at h;cases h
  |true=>
   obtain⟨a,b,e,h2⟩:=LK ha h
   refine ⟨l,r,a,b,rfl,e,?_⟩
   rw[Ea,if_pos ha,h2]
   rfl
end Go.Proofs.YtkiceokhlceciaaGreatDoor
