/- Appends at the program's own types, in few words. -/
import Derived.Test.YtahenegmbmnmjaaGreatDoorU07
set_option maxHeartbeats 20000000
set_option maxRecDepth 100000
namespace Go.Proofs.YtahenegmbmnmjaaGreatDoor
section
open Go Go.RowKit Go.BigFrame Tryz
variable{o:Oper}{a:Act}{w:World}{K:Act->World->Prop}{Q:Exit->Act->World->Prop}
theorem g4_ (s x:Operand)(ho:o.op=.call {callee:=.builtin .append,args:=#[s,x],argTypes:=#[60,60]})
  (B:Nat)(da:Option Addr)(dn dcap:Nat)(ld:List IR)(hs:a.eval s=.slice da dn dcap)(hd:Ae irs 2 125 w B da dn dcap ld)
  (sa:Option Addr)(sn scap:Nat)(ls:List IR)(hx:a.eval x=.slice sa sn scap)(hsrc:AF irs 2 w sa sn ls)(hspot:∀ ad,sa=some ad->ad.spot=none)(hnone:sa=none->scap=0)
  (tot:Nat)(htot:dn+sn=tot)(h63:tot<=9000000)(hbase:B<=w.heap.size)
  (h:∀ a' cap' w',Ae irs 2 125 w' B a' tot cap' (ld++ls)->w.grownBy w' (Value.ownBlock (.slice da dn dcap))->K (a.put o.dst (.slice a' tot cap')) w'):o.wp prog a w K Q:=by
 obtain⟨i0,hi,ha,hb,hc⟩:=info_parts FU;exact ay_ s x _ ho B _ i0 _ 40 underlying60 hi ha hb hc rfl (by decide) aI_ eP_ da dn dcap ld hs hd sa sn scap ls hx hsrc hspot hnone tot htot (by unfold maxLen;omega) (by omega) hbase h
theorem dC_ (s x:Operand)(ho:o.op=.call {callee:=.builtin .append,args:=#[s,x],argTypes:=#[32,32]})
  (B:Nat)(da:Option Addr)(dn dcap:Nat)(ld:List VR)(hs:a.eval s=.slice da dn dcap)(hd:Ae vrs 4 62 w B da dn dcap ld)
  (sa:Option Addr)(sn scap:Nat)(ls:List VR)(hx:a.eval x=.slice sa sn scap)(hsrc:AF vrs 4 w sa sn ls)(hspot:∀ ad,sa=some ad->ad.spot=none)(hnone:sa=none->scap=0)
  (tot:Nat)(htot:dn+sn=tot)(h63:tot<=9000000)(hbase:B<=w.heap.size)
  (h:∀ a' cap' w',Ae vrs 4 62 w' B a' tot cap' (ld++ls)->w.grownBy w' (Value.ownBlock (.slice da dn dcap))->K (a.put o.dst (.slice a' tot cap')) w'):o.wp prog a w K Q:=by
 obtain⟨i0,hi,ha,hb,hc⟩:=info_parts HP;exact ay_ s x _ ho B _ i0 _ 56 underlying32 hi ha hb hc rfl (by decide) a2_ pm_ da dn dcap ld hs hd sa sn scap ls hx hsrc hspot hnone tot htot (by unfold maxLen;omega) (by omega) hbase h
theorem mF_ (s x:Operand)(ho:o.op=.call {callee:=.builtin .append,args:=#[s,x],argTypes:=#[116,116]})
  (B:Nat)(da:Option Addr)(dn dcap:Nat)(ld:List Pt)(hs:a.eval s=.slice da dn dcap)(hd:Ae Pt.cs 3 201 w B da dn dcap ld)
  (sa:Option Addr)(sn scap:Nat)(ls:List Pt)(hx:a.eval x=.slice sa sn scap)(hsrc:AN w sa sn ls)(hspot:∀ ad,sa=some ad->ad.spot=none)(hnone:sa=none->scap=0)
  (tot:Nat)(htot:dn+sn=tot)(h63:tot<=9000000)(hbase:B<=w.heap.size)
  (h:∀ a' cap' w',Ae Pt.cs 3 201 w' B a' tot cap' (ld++ls)->w.grownBy w' (Value.ownBlock (.slice da dn dcap))->K (a.put o.dst (.slice a' tot cap')) w'):o.wp prog a w K Q:=by
 obtain⟨i0,hi,ha,hb,hc⟩:=info_parts F6;exact ay_ s x _ ho B _ i0 _ 24 underlying116 hi ha hb hc rfl (by decide) bF_ cI_ da dn dcap ld hs hd sa sn scap ls hx hsrc hspot hnone tot htot (by unfold maxLen;omega) (by omega) hbase h
theorem pp_ (s x:Operand)(ho:o.op=.call {callee:=.builtin .append,args:=#[s,x],argTypes:=#[33,33]})
  (B:Nat)(da:Option Addr)(dn dcap:Nat)(ld:List Ct)(hs:a.eval s=.slice da dn dcap)(hd:Ae Ct.cs 4 80 w B da dn dcap ld)
  (sa:Option Addr)(sn scap:Nat)(ls:List Ct)(hx:a.eval x=.slice sa sn scap)(hsrc:A5 w sa sn ls)(hspot:∀ ad,sa=some ad->ad.spot=none)(hnone:sa=none->scap=0)
  (tot:Nat)(htot:dn+sn=tot)(h63:tot<=9000000)(hbase:B<=w.heap.size)
  (h:∀ a' cap' w',Ae Ct.cs 4 80 w' B a' tot cap' (ld++ls)->w.grownBy w' (Value.ownBlock (.slice da dn dcap))->K (a.put o.dst (.slice a' tot cap')) w'):o.wp prog a w K Q:=by
 obtain⟨i0,hi,ha,hb,hc⟩:=info_parts Dr;exact ay_ s x _ ho B _ i0 _ 40 underlying33 hi ha hb hc rfl (by decide) aS_ a9_ da dn dcap ld hs hd sa sn scap ls hx hsrc hspot hnone tot htot (by unfold maxLen;omega) (by omega) hbase h
theorem mG_ (s x:Operand)(ho:o.op=.call {callee:=.builtin .append,args:=#[s,x],argTypes:=#[31,31]})
  (B:Nat)(da:Option Addr)(dn dcap:Nat)(ld:List Ex)(hs:a.eval s=.slice da dn dcap)(hd:Ae Ex.cs 2 76 w B da dn dcap ld)
  (sa:Option Addr)(sn scap:Nat)(ls:List Ex)(hx:a.eval x=.slice sa sn scap)(hsrc:Bf w sa sn ls)(hspot:∀ ad,sa=some ad->ad.spot=none)(hnone:sa=none->scap=0)
  (tot:Nat)(htot:dn+sn=tot)(h63:tot<=9000000)(hbase:B<=w.heap.size)
  (h:∀ a' cap' w',Ae Ex.cs 2 76 w' B a' tot cap' (ld++ls)->w.grownBy w' (Value.ownBlock (.slice da dn dcap))->(da≠none->a'≠none)->K (a.put o.dst (.slice a' tot cap')) w'):o.wp prog a w K Q:=by
 obtain⟨i0,hi,ha,hb,hc⟩:=info_parts Fj;exact po_ s x _ ho B _ i0 _ 24 underlying31 hi ha hb hc rfl (by decide) aK_ aU_ da dn dcap ld hs hd sa sn scap ls hx hsrc hspot hnone tot htot (by unfold maxLen;omega) (by omega) hbase h
end
section
open Go Go.RowKit Go.BigFrame Tryz
theorem b1_ {o:Oper}{a:Act}{w:World}{K:Act->World->Prop}{Q:Exit->Act->World->Prop}(s x:Operand)(ho:o.op=.call {callee:=.builtin .append,args:=#[s,x],argTypes:=#[60,60]})
  (B:Nat)(da:Option Addr)(dn dcap:Nat)(ld:List IR)(hs:a.eval s=.slice da dn dcap)(hd:Ae irs 2 125 w B da dn dcap ld)
  (b off:Nat)(r:IR)(hx:a.eval x=.slice (some ⟨b,off,none⟩) 1 1)(hsrc:AF irs 2 w (some ⟨b,off,none⟩) 1 [r])(h63:dn<=9000000)(hbase:B<=w.heap.size)
  (h:∀ a' cap' w',Ae irs 2 125 w' B a' (dn+1) cap' (ld++[r])->w.grownBy w' (Value.ownBlock (.slice da dn dcap))->(∀ ad',a'=some ad'->(∃ ad,da=some ad∧ad.block=ad'.block)∨w.heap.size<=ad'.block)->K (a.put o.dst (.slice a' (dn+1) cap')) w'):o.wp prog a w K Q:=by
 obtain⟨i0,hi,ha,hb,hc⟩:=info_parts FU;exact ph_ s x _ ho B _ i0 _ 40 underlying60 hi ha hb hc rfl (by decide) aI_ eP_ da dn dcap ld hs hd b off [r] hx hsrc (by unfold maxLen;omega) (by omega) hbase h
theorem jo_ {α:Type}{cs:α->List Value}{sz:Nat}{w:World}{b:Nat}{c:Array Value}{t:TypeId}(x:α)(h:Blk w b c t)(hc:c.toList=cs x):AF cs sz w (some ⟨b,0,none⟩) 1 [x]:=by
 refine⟨rfl,fun i y hy=>⟨b,0,rfl,fun j v hv=>?_⟩⟩;have hi:i=0:=by have:=(Zb.1 hy).1;simp at this;exact this
 subst hi;simp at hy;subst hy;rw[h.cell];simp only[Nat.zero_mul,Zq];rw[<-hc] at hv;simpa using hv
theorem cd_ (w:World)(r:IR)(t:TypeId)(b:Nat)(hb:b=w.heap.size):AF irs 2 (w.alloc (.cells #[.string r.nm,.slice r.pa r.pn r.pc] t)) (some ⟨b,0,none⟩) 1 [r]:=jo_ r (Blk.new' w _ t b hb) rfl
theorem fQ_ (w:World)(r:VR)(t:TypeId)(b:Nat)(hb:b=w.heap.size):AF vrs 4 (w.alloc (.cells #[.int .i64 r.id,.string r.nm,.bool r.fx,.slice r.pa r.pn r.pc] t)) (some ⟨b,0,none⟩) 1 [r]:=jo_ r (Blk.new' w _ t b hb) rfl
theorem HV {w:World}{b:Nat}{c0 c1 c2 c3:Value}{t:TypeId}(h:Blk w b #[c0,c1,c2,c3] t)(v0 v1 v2 v3:Value):
  Blk ((((w.setCell ⟨b,0,none⟩ v0).setCell ⟨b,1,none⟩ v1).setCell ⟨b,2,none⟩ v2).setCell ⟨b,3,none⟩ v3) b #[v0,v1,v2,v3] t∧w.grownBy ((((w.setCell ⟨b,0,none⟩ v0).setCell ⟨b,1,none⟩ v1).setCell ⟨b,2,none⟩ v2).setCell ⟨b,3,none⟩ v3) (some b):=
 ⟨by simpa using (((h.set 0 v0).set 1 v1).set 2 v2).set 3 v3,af_ (af_ (af_ (B3 w b 0 v0) 1 v1) 2 v2) 3 v3⟩
theorem AV {w:World}{b:Nat}{c0 c1 c2 c3 c4 c5:Value}{t:TypeId}(h:Blk w b #[c0,c1,c2,c3,c4,c5] t)(v0 v1 v2 v3 v4 v5:Value):
  ∃ W,W=((((((w.setCell ⟨b,0,none⟩ v0).setCell ⟨b,1,none⟩ v1).setCell ⟨b,2,none⟩ v2).setCell ⟨b,3,none⟩ v3).setCell ⟨b,4,none⟩ v4).setCell ⟨b,5,none⟩ v5)∧Blk W b #[v0,v1,v2,v3,v4,v5] t∧w.grownBy W (some b):=
 ⟨_,rfl,by simpa using (((((h.set 0 v0).set 1 v1).set 2 v2).set 3 v3).set 4 v4).set 5 v5,af_ (af_ (af_ (af_ (af_ (B3 w b 0 v0) 1 v1) 2 v2) 3 v3) 4 v4) 5 v5⟩
theorem Blk.four {w:World}{b:Nat}{c0 c1 c2 c3:Value}{t:TypeId}(h:Blk w b #[c0,c1,c2,c3] t):w.cell? ⟨b,0,none⟩=some c0∧w.cell? ⟨b,1,none⟩=some c1∧w.cell? ⟨b,2,none⟩=some c2∧w.cell? ⟨b,3,none⟩=some c3:=⟨h.cell 0,h.cell 1,h.cell 2,h.cell 3⟩
theorem Blk.six' {w:World}{b:Nat}{c0 c1 c2 c3 c4 c5:Value}{t:TypeId}(h:Blk w b #[c0,c1,c2,c3,c4,c5] t):w.cell? ⟨b,0,none⟩=some c0∧w.cell? ⟨b,1,none⟩=some c1∧w.cell? ⟨b,2,none⟩=some c2∧w.cell? ⟨b,3,none⟩=some c3∧w.cell? ⟨b,4,none⟩=some c4∧w.cell? ⟨b,5,none⟩=some c5:=⟨h.cell 0,h.cell 1,h.cell 2,h.cell 3,h.cell 4,h.cell 5⟩
theorem ni_ (a:Option Addr)(n cap:Nat)(l:List Ex)(w:World)(h:AF Ex.cs 2 w a n l)(hn:n<=4194304)(ha1:∀ ad,a=some ad->ad.spot=none)(ha2:a=none->n=0∧cap=0):
  Calls prog 128 #[.slice a n cap] w fun e w'=>(∃ a' cap',e=.returned (.slice a' n cap')∧Ae Ex.cs 2 76 w' w.heap.size a' n cap' l)∧Below w.heap.size w w':=by
 have he:∀ (w:World) (a:Option Addr) (n c n' c':Nat),(binOp .eql 31 (.slice a n c) (.slice none n' c')).run prog w=.ok (.bool a.isNone) w:=fun w a n c n' c'=>Lib.run_eql_slice_nil w _ _ a n c n' c' underlying31
 cases a with
 |none=>
  obtain⟨rfl,rfl⟩:=ha2 rfl;have hl:l=[]:=Zt h.len;subst hl;go_enter func128,ntmps128;go_wp2;go_returns;exact⟨⟨none,0,rfl,aB_⟩,Yg _ _⟩
 |some ad=>
  go_enter func128,ntmps128
  go_wp2_with (at_builtin;refine ag_ rfl (fun K hK=>mG_ _ _ rfl w.heap.size _ 0 0 [] rfl (aw_ (Blk.new' _ _ _ _ (by simp)) (Zd _)) (some ad) n cap l rfl (h.alloc _) ha1 (fun h=>(by cases h)) n (Zq _) (by omega) (by simp) (fun a3 cap3 w3 R3 hc _=>hK _ _ ?_)))
  have ha:Below w.heap.size w (w.alloc (.cells #[] 76)):=(Yg _ _).alloc (Zd _) _;have hb:Below w.heap.size w w3:=Yi ha hc (by simp) (fun j e=>by simp[Value.ownBlock] at e;omega);go_wp2;go_returns;exact⟨⟨a3,cap3,rfl,by simpa using R3⟩,hb⟩
theorem nj_ (a:Option Addr)(n cap:Nat)(l:List VR)(w:World)(h:AF vrs 4 w a n l)(hn:n<=4194304)(ha1:∀ ad,a=some ad->ad.spot=none)(ha2:a=none->n=0∧cap=0):
  Calls prog 129 #[.slice a n cap] w fun e w'=>(∃ a' cap',e=.returned (.slice a' n cap')∧Ae vrs 4 62 w' w.heap.size a' n cap' l)∧Below w.heap.size w w':=by
 have he:∀ (w:World) (a:Option Addr) (n c n' c':Nat),(binOp .eql 32 (.slice a n c) (.slice none n' c')).run prog w=.ok (.bool a.isNone) w:=fun w a n c n' c'=>Lib.run_eql_slice_nil w _ _ a n c n' c' underlying32
 cases a with
 |none=>
  obtain⟨rfl,rfl⟩:=ha2 rfl;have hl:l=[]:=Zt h.len;subst hl;go_enter func129,ntmps129;go_wp2;go_returns;exact⟨⟨none,0,rfl,aB_⟩,Yg _ _⟩
 |some ad=>
  go_enter func129,ntmps129
  go_wp2_with (at_builtin;refine ag_ rfl (fun K hK=>dC_ _ _ rfl w.heap.size _ 0 0 [] rfl (aw_ (Blk.new' _ _ _ _ (by simp)) (Zd _)) (some ad) n cap l rfl (h.alloc _) ha1 (fun h=>(by cases h)) n (Zq _) (by omega) (by simp) (fun a3 cap3 w3 R3 hc=>hK _ _ ?_)))
  have ha:Below w.heap.size w (w.alloc (.cells #[] 62)):=(Yg _ _).alloc (Zd _) _;have hb:Below w.heap.size w w3:=Yi ha hc (by simp) (fun j e=>by simp[Value.ownBlock] at e;omega);go_wp2;go_returns;exact⟨⟨a3,cap3,rfl,by simpa using R3⟩,hb⟩
theorem iL_ (a:Option Addr)(n cap:Nat)(l:List Ct)(w:World)(h:AF Ct.cs 4 w a n l)(hn:n<=4194304)(ha1:∀ ad,a=some ad->ad.spot=none)(ha2:a=none->n=0∧cap=0):
  Calls prog 131 #[.slice a n cap] w fun e w'=>(∃ a' cap',e=.returned (.slice a' n cap')∧Ae Ct.cs 4 80 w' w.heap.size a' n cap' l)∧Below w.heap.size w w':=by
 have he:∀ (w:World) (a:Option Addr) (n c n' c':Nat),(binOp .eql 33 (.slice a n c) (.slice none n' c')).run prog w=.ok (.bool a.isNone) w:=fun w a n c n' c'=>Lib.run_eql_slice_nil w _ _ a n c n' c' underlying33
 cases a with
 |none=>
  obtain⟨rfl,rfl⟩:=ha2 rfl;have hl:l=[]:=Zt h.len;subst hl;go_enter func131,ntmps131;go_wp2;go_returns;exact⟨⟨none,0,rfl,aB_⟩,Yg _ _⟩
 |some ad=>
  go_enter func131,ntmps131
  go_wp2_with (at_builtin;refine ag_ rfl (fun K hK=>pp_ _ _ rfl w.heap.size _ 0 0 [] rfl (aw_ (Blk.new' _ _ _ _ (by simp)) (Zd _)) (some ad) n cap l rfl (h.alloc _) ha1 (fun h=>(by cases h)) n (Zq _) (by omega) (by simp) (fun a3 cap3 w3 R3 hc=>hK _ _ ?_)))
  have ha:Below w.heap.size w (w.alloc (.cells #[] 80)):=(Yg _ _).alloc (Zd _) _;have hb:Below w.heap.size w w3:=Yi ha hc (by simp) (fun j e=>by simp[Value.ownBlock] at e;omega);go_wp2;go_returns;exact⟨⟨a3,cap3,rfl,by simpa using R3⟩,hb⟩
theorem nk_ (a:Option Addr)(n cap:Nat)(l:List IR)(w:World)(h:AF irs 2 w a n l)(hn:n<=4194304)(ha1:∀ ad,a=some ad->ad.spot=none)(ha2:a=none->n=0∧cap=0):
  Calls prog 187 #[.slice a n cap] w fun e w'=>(∃ a' cap',e=.returned (.slice a' n cap')∧Ae irs 2 125 w' w.heap.size a' n cap' l)∧Below w.heap.size w w':=by
 have he:∀ (w:World) (a:Option Addr) (n c n' c':Nat),(binOp .eql 60 (.slice a n c) (.slice none n' c')).run prog w=.ok (.bool a.isNone) w:=fun w a n c n' c'=>Lib.run_eql_slice_nil w _ _ a n c n' c' underlying60
 cases a with
 |none=>
  obtain⟨rfl,rfl⟩:=ha2 rfl;have hl:l=[]:=Zt h.len;subst hl;go_enter func187,ntmps187;go_wp2;go_returns;exact⟨⟨none,0,rfl,aB_⟩,Yg _ _⟩
 |some ad=>
  go_enter func187,ntmps187
  go_wp2_with (at_builtin;refine ag_ rfl (fun K hK=>g4_ _ _ rfl w.heap.size _ 0 0 [] rfl (aw_ (Blk.new' _ _ _ _ (by simp)) (Zd _)) (some ad) n cap l rfl (h.alloc _) ha1 (fun h=>(by cases h)) n (Zq _) (by omega) (by simp) (fun a3 cap3 w3 R3 hc=>hK _ _ ?_)))
  have ha:Below w.heap.size w (w.alloc (.cells #[] 125)):=(Yg _ _).alloc (Zd _) _;have hb:Below w.heap.size w w3:=Yi ha hc (by simp) (fun j e=>by simp[Value.ownBlock] at e;omega);go_wp2;go_returns;exact⟨⟨a3,cap3,rfl,by simpa using R3⟩,hb⟩
theorem nl_ (a:Option Addr)(n cap:Nat)(l:List Pt)(w:World)(h:AF Pt.cs 3 w a n l)(hn:n<=4194304)(ha1:∀ ad,a=some ad->ad.spot=none)(ha2:a=none->n=0∧cap=0):
  Calls prog 188 #[.slice a n cap] w fun e w'=>(∃ a' cap',e=.returned (.slice a' n cap')∧Ae Pt.cs 3 201 w' w.heap.size a' n cap' l)∧Below w.heap.size w w':=by
 have he:∀ (w:World) (a:Option Addr) (n c n' c':Nat),(binOp .eql 116 (.slice a n c) (.slice none n' c')).run prog w=.ok (.bool a.isNone) w:=fun w a n c n' c'=>Lib.run_eql_slice_nil w _ _ a n c n' c' underlying116
 cases a with
 |none=>
  obtain⟨rfl,rfl⟩:=ha2 rfl;have hl:l=[]:=Zt h.len;subst hl;go_enter func188,ntmps188;go_wp2;go_returns;exact⟨⟨none,0,rfl,aB_⟩,Yg _ _⟩
 |some ad=>
  go_enter func188,ntmps188
  go_wp2_with (at_builtin;refine ag_ rfl (fun K hK=>mF_ _ _ rfl w.heap.size _ 0 0 [] rfl (aw_ (Blk.new' _ _ _ _ (by simp)) (Zd _)) (some ad) n cap l rfl (h.alloc _) ha1 (fun h=>(by cases h)) n (Zq _) (by omega) (by simp) (fun a3 cap3 w3 R3 hc=>hK _ _ ?_)))
  have ha:Below w.heap.size w (w.alloc (.cells #[] 201)):=(Yg _ _).alloc (Zd _) _;have hb:Below w.heap.size w w3:=Yi ha hc (by simp) (fun j e=>by simp[Value.ownBlock] at e;omega);go_wp2;go_returns;exact⟨⟨a3,cap3,rfl,by simpa using R3⟩,hb⟩
end
section
open Go Go.RowKit
variable{P:Program}{ops:Array Oper}{Q:Exit->Act->World->Prop}{md:Region.Mode}
def EY (P:Program)(ops:Array Oper)(n:Nat)(Q:Exit->Act->World->Prop):Exit->Act->World->Prop
 |.normal,a,w=>wpOp P ops Q n (Q .normal) a w
 |e,a,w=>Q e a w
theorem nm_ {n:Nat}(h:LetsOut (EY P ops n Q)):LetsOut Q:=by
 obtain⟨a,w,h⟩:=h;exact⟨a,w,h⟩
theorem nn_ {n i:Nat}{K:Act->World->Prop}{a:Act}{w:World}(h:wpOp P ops (EY P ops n Q) i K a w):wpOp P ops Q i K a w:=by
 unfold wpOp at *;split
 ·rename_i h0;simp only[h0] at h;exact h
 ·rename_i o h0;simp only[h0] at h;split
  ·rename_i hw;rw[if_pos hw] at h;rcases h with h | ⟨h1,h2⟩
   ·left;unfold Oper.wp at *;generalize (execOp a.eval o).run P w=r at *
    cases r with
    |ok nx w'=>
     cases nx<;>simp only[Oper.upon] at h ⊢<;>try exact h
    |halt x w'=>
     cases x<;>simp only[Oper.upon] at h ⊢
     exact h
   ·exact .inr ⟨h1,nm_ h2⟩
  ·rename_i hw;rw[if_neg hw] at h;exact h
def unl (n:Nat)(listed:Array Bool):Nat:=(List.range n).countP (fun i=>listed.getD i true==false)
def HO (ops:Array Oper):Bool:=(List.range ops.size).all fun j=>match ops[j]? with | some o=>o.after.all fun e=>decide (e.on<j) | none=>true
theorem fR_ (h:HO ops=true){j:Nat}{o:Oper}(hj:ops[j]?=some o):∀ e∈o.after,e.on<j:=by
 intro e he;have h1:=List.all_eq_true.1 h j (List.mem_range.2 (ZG.1 hj).1);simp only[hj] at h1
 have:=Array.all_eq_true_iff_forall_mem.1 h1 e he
 simpa using this
theorem pq_ {n:Nat}{listed:Array Bool}(h:0<unl n listed):∃ i,i<n∧listed.getD i true=false:=by
 obtain⟨i,hi,h1⟩:=List.countP_pos_iff.1 h;exact⟨i,List.mem_range.1 hi,by simpa using h1⟩
theorem kq_ {n:Nat}{listed:Array Bool}(h:unl n listed=0):∀ i,i<n->listed.getD i true=true:=by
 intro i hi
 have:=List.countP_eq_zero.1 h i (List.mem_range.2 hi)
 simpa using this
theorem gj_ {listed:Array Bool}{i:Nat}(hi:i<listed.size)(hf:listed.getD i true=false):∀ (l:List Nat),l.Nodup->i∈l->l.countP (fun k=>(listed.setIfInBounds i true).getD k true==false)+1=l.countP (fun k=>listed.getD k true==false)
 |[],_,h=>by cases h
 |x::r,hn,h=>by
  rw[List.countP_cons,List.countP_cons];by_cases hx:x=i
  ·subst hx
   have hr:∀ k∈r,((listed.setIfInBounds x true).getD k true==false)=(listed.getD k true==false):=fun k hk=>by
    rw[getD_set_ne true (fun e=>by subst e;exact (List.nodup_cons.1 hn).1 hk)]
   rw[List.countP_congr (fun k hk=>by rw[hr k hk])];have h1:(listed.setIfInBounds x true).getD x true=true:=by simp[hi]
   simp only[h1,hf];simp
  ·have ih:=gj_ hi hf r (List.nodup_cons.1 hn).2 (by rcases Zn.1 h with e | e;exact absurd e.symm hx;exact e);rw[getD_set_ne true (Ne.symm hx)];omega
theorem no_ {n:Nat}{listed:Array Bool}(h:0<unl n listed):∃ i,i<n∧listed.getD i true=false∧∀ k,k<i->listed.getD k true=true:=by
 obtain⟨i,hi,hf⟩:=pq_ h
 induction i using Nat.strongRecOn with
 |_ i ih=>
  by_cases hk:∃ k,k<i∧listed.getD k true=false
  ·obtain⟨k,h1,h2⟩:=hk;exact ih k h1 (by omega) h2
  ·refine⟨i,hi,hf,fun k ha=>?_⟩
   cases hb:listed.getD k true with
   |true=>rfl
   |false=>exact absurd ⟨k,ha,hb⟩ hk
theorem hD_ {listed:Array Bool}{i:Nat}(hi:i<listed.size)(h:listed.getD i true=true):listed.getD i false=true:=by
 simp[hi] at h ⊢;exact h
theorem lH_ {n:Nat}(hn:ops.size=n+1)(hs:Region.sinkB md ops n=true)(hd:HO ops=true):
  ∀ (fuel:Nat) (listed:Array Bool) (a:Act) (w:World),HeadInv md ops n listed->unl n listed=fuel->
   wpAny P md ops (EY P ops n Q) fuel (listed.setIfInBounds n true) a w->wpAny P md ops Q (fuel+1) listed a w:=by
 have hc:Region.chainB md ops n=true:=by
  refine List.all_eq_true.2 fun t ht=>?_
  have:=List.mem_range.1 ht
  simp;left;omega
 intro fuel
 induction fuel with
 |zero=>
  intro listed a w inv hu h;have ha:=kq_ hu;have hm:=inv.size;obtain⟨h1,h2⟩:=h
  have hl:∀ i∈Region.ready md ops listed,i=n:=fun i hi=>by
   obtain⟨q1,o,q2,_⟩:=mem_ready.1 hi
   have:=(ZG.1 q2).1
   rcases Nat.lt_or_ge i n with q | q
   ·rw[ha i q] at q1;cases q1
   ·omega
  have hb:n∈Region.ready md ops listed:=by
   have hf:n<ops.size:=by omega
   have ho:ops[n]?=some ops[n]:=by simp[hf]
   exact mem_ready.2 ⟨inv.tail n (Zd _) hf,_,ho,fun e he _=>hD_ (by have:=fR_ hd ho e he;omega) (ha _ (fR_ hd ho e he))⟩
  refine⟨fun h0=>(by rw[h0] at hb;cases hb),fun i hi=>?_⟩;obtain rfl:=hl i hi;exact wpOp_mono (fun a' w' hq=>⟨h1,hq⟩) h2
 |succ fuel ih=>
  intro listed a w inv hu h;have hm:=inv.size;obtain⟨i0,hj,hg,hk⟩:=no_ (n:=n) (listed:=listed) (by omega)
  have hb:i0∈Region.ready md ops listed:=by
   have hf:i0<ops.size:=by omega
   have ho:ops[i0]?=some ops[i0]:=by simp[hf]
   exact mem_ready.2 ⟨hg,_,ho,fun e he _=>hD_ (by have:=fR_ hd ho e he;omega) (hk _ (fR_ hd ho e he))⟩
  refine⟨fun h0=>(by rw[h0] at hb;cases hb),fun i hi=>?_⟩;obtain⟨q1,o,q2,_⟩:=mem_ready.1 hi;have hf:=(ZG.1 q2).1
  have hh:i<n:=by
   rcases Nat.lt_or_ge i n with q | q
   ·exact q
   ·exact absurd hi (tail_waits hs hc (by omega) inv _ i0 rfl hj hg i q)
  have h2:=h.2 i (ready_mono hi (by omega));refine nn_ (n:=n) (wpOp_mono (fun a' w' hq=>?_) h2);refine ih _ a' w' (inv.set hi hh) ?_ ?_
  ·have:=gj_ (listed:=listed) (i:=i) (by omega) q1 (List.range n) List.nodup_range (List.mem_range.2 hh)
   unfold unl at *;omega
  ·rw[Array.setIfInBounds_comm _ _ (by omega)];exact hq
theorem ar_ {S:World->Prop}{id:Nat}{a:Act}{w:World}(n:Nat)(hm:P.follows .mixedOrders=true)(hB:(decide (ops.size=n+1)&&Region.sinkB .any ops n&&HO ops)=true)
  (h:wpAnyH P .any ops (EY P ops n Q) S n ((Array.replicate ops.size false).setIfInBounds n true) a w.drew):(Code.region id ops true).wp P Q a w:=by
 simp only[Zf,ZU] at hB;refine wp_region_any hm ?_
 have hx:=lH_ (P:=P) (Q:=Q) hB.1.1 hB.1.2 hB.2 n (Array.replicate ops.size false) a w.drew ⟨by simp,fun j oj _ hl=>(by rw[getD_replicate_false] at hl;cases hl),fun t _ ht=>(by simp[ht])⟩ (by
  unfold unl;rw[List.countP_eq_length.2 (fun k hk=>by have:=List.mem_range.1 hk;have:k<ops.size:=(by omega);simp[this])];simp) (wpAny_of_held _ _ _ _ h)
 rw[hB.1.1] at hx ⊢;rw[<-hB.1.1];rw[<-hB.1.1] at hx;exact hx
end
section
open Go Go.RowKit
variable{P:Program}{Q:Exit->Act->World->Prop}{md:Region.Mode}
variable{S:World->Prop}
theorem Ih {l:List Oper}{i:Nat}{oi:Oper}{v:Value}{fuel:Nat}{listed:Array Bool}{a:Act}{w:World}(hi:l[i]?=some oi)
  (hs:Region.noSelect l.toArray=true)(hf:Region.free md l.toArray listed i=true)(hr:(Region.ready md l.toArray listed).contains i=true)
  (hQ:∀ c a w,Q (.panic c) (a.put oi.dst v) w->Q (.panic c) a w)(hy:YieldsIf P l.toArray S oi v a)(hS:S w)
  (h:wpAnyH P md l.toArray Q S fuel (listed.setIfInBounds i true) (a.put oi.dst v) w):wpAnyH P md l.toArray Q S (fuel+1) listed a w:=
 wpAnyH_take (by simpa using hi) hs hf hr hQ hy hS h
theorem tk {l:List Oper}(i:Nat){oi:Oper}{v:Value}{fuel:Nat}{listed li:Array Bool}{a b:Act}{w:World}(h:wpAnyH P md l.toArray Q S fuel li b w)(hi:l[i]?=some oi:=by rfl)
  (hB:(Region.noSelect l.toArray&&Region.free md l.toArray listed i&&(Region.ready md l.toArray listed).contains i)=true:=by kernel_rfl)(hw:Region.wanted oi (yielded l.toArray a.tmps)=true:=by rfl)
  (hy:∀ w,S w->(execOp a.eval oi).run P w=.ok (.value v) w:=by (intro u hu;(try dsimp only at hu);go_simp<;>with_reducible rfl))(hQ:∀ c a w,Q (.panic c) (a.put oi.dst v) w->Q (.panic c) a w:=by exact fun _ _ _ h=>h)(hS:S w:=by first | assumption | trivial)
  (hl:listed.setIfInBounds i true=li:=by (try simp only[Yj,Yq,Yr]);rfl)(ha:a.put oi.dst v=b:=by (try simp only[Act.put,lsA,lsB,lsC]);rfl):wpAnyH P md l.toArray Q S (fuel+1) listed a w:=by
 subst hl ha;simp only[Zf] at hB;exact Ih hi hB.1.1 hB.1.2 hB.2 hQ (.inl ⟨hw,hy⟩) hS h
theorem AX {l:List Oper}{i:Nat}{o:Oper}{fuel:Nat}{listed:Array Bool}{a:Act}{w:World}(hr:Region.ready md l.toArray listed=[i])(hi:l[i]?=some o)
  (h:∀ K':Act->World->Prop,Shut (∀ a w,S w->(S w->wpAnyH P md l.toArray Q S fuel (listed.setIfInBounds i true) a w)->K' a w)->if Region.wanted o (yielded l.toArray a.tmps)=true then Oper.wp P o a w K' Q else K' (a.put o.dst undef) w):
  wpAnyH P md l.toArray Q S (fuel+1) listed a w:=
 wpAnyH_ready hr (by simp) (AllReadyH.cons (by simpa using hi) h AllReadyH.nil)
theorem BK {l:List Oper}{n:Nat}{o:Oper}{a:Act}{w:World}(hi:l[n]?=some o)(h:wpList P l.toArray Q [o] a w):EY P l.toArray n Q .normal a w:=by
 have ha:l.toArray[n]?=some o:=by simpa using hi
 show wpOp P l.toArray Q n (Q .normal) a w;unfold wpOp;simp only[ha];exact h
end
section
open Go Go.RowKit Go.BigFrame Tryz
variable{α:Type}{a:Act}{K:Act->World->Prop}{ops:Array Oper}{Q:Exit->Act->World->Prop}{B b j k:Nat}{o:Oper}{P:Program}{md:Region.Mode}{t:TypeId}{x:Value}{u u' w:World}{S:World->Prop}{l:List α}{cs:α->List Value}
theorem eq_ (B0:Nat)(hB0:0<B0)(id:Int)(nm:ByteArray)(fx:Bool)(its:List It)(qa:Option Addr)(qn qc:Nat)(w:World)(h:Bg B0 w qa qn its)(hn:qn<=4194304)(hps:∀ x∈its,x.ps.length<=4194304):
  Calls prog 137 #[.agg #[.int .i64 id,.string nm,.bool fx,.slice qa qn qc]] w fun e w'=>(∃ pa pc rows,e=.returned (.agg #[.int .i64 id,.string nm,.bool fx,.slice pa qn pc])∧Ae irs 2 125 w' w.heap.size pa qn pc rows∧AE w.heap.size w' rows its)∧Below w.heap.size w w':=by
 have hl:Hid (its.length=qn):=h.len;go_enter func137,ntmps137
 go_wp2_with fail
 go_loopw [4] (fun ix wr=>∃ (k:Nat) (a2:Option Addr) (cap2:Nat) (rows:List IR),k<=qn∧ix=.int .i64 k∧Blk wr w.heap.size #[.int .i64 id,.string nm,.bool fx,.slice qa qn qc] 62∧Blk wr (w.heap.size+1) #[.int .i64 0,.string ⟨#[]⟩,.bool false,.slice none 0 0] 62∧Blk wr (w.heap.size+2) #[.int .i64 id,.string nm,.bool fx,.slice a2 k cap2] 62∧Ae irs 2 125 wr (w.heap.size+3) a2 k cap2 rows∧AE (w.heap.size+3) wr rows (its.take k)∧w.heap.size+3<=wr.heap.size∧Below w.heap.size w wr) (fun ix _=>qn-(intOf ix).toNat)
 case atStart=>exact⟨0,none,0,[],Zg _,rfl,((Blk.new w _ _).alloc _).alloc _,(Blk.new' _ _ _ _ (by simp)).alloc _,Blk.new' _ _ _ _ (by simp),aB_,by simpa using AE.nil _ _,by simp,by go_grown⟩
 case round=>
  obtain⟨k,a2,cap2,rows,hk,rfl,K1,K2,K3,R2,T2,hD,hB⟩:=hrel;have z3:wr.cell? ⟨w.heap.size,3,none⟩=some (.slice qa qn qc):=K1.cell 3;have y3:wr.cell? ⟨w.heap.size+2,3,none⟩=some (.slice a2 k cap2):=K3.cell 3;by_cases hlt:k<qn
  ·obtain⟨b,o,x,pa,pn,pc,rfl,hx,d0,d1,hP,hh,_,_⟩:=bO_ (h.below hB) hlt;have hA:pn<=4194304:=by have:=hps x (Zc hx);rw[hP.len] at this;exact this
   have hy:(k:Int)<qn:=by omega
   have hz:(0:Int)<=k:=by omega
   have hs:∀ ad,pa=some ad->ad.spot=none:=(hh.2.2 hB0).2;have ht:pa=none->pc=0:=(hh.2.2 hB0).1
   have hq:b<w.heap.size:=by
    obtain⟨b',o',_,_,_,_,hp,_,f0,_⟩:=bO_ h hlt;obtain⟨rfl,rfl⟩:b=b'∧o=o':=by simpa using hp
    exact Yk w _ f0
   have ho:b<w.heap.size+3:=by omega
   have hw:¬ w.heap.size+1+1=b:=by omega
   have hF:w.heap.size<w.heap.size+3:=by omega
   have hu:Hid (its.take (k+1)=its.take k++[x]):=bx_ hx;clear hx;have za:=fun ob=>Ah (w:=wr) ob z3;have ya:=fun ob=>Ah (w:=wr) ob y3;have da:=fun ob=>Ah (w:=wr) ob d0;have de:=fun ob=>Ah (w:=wr) ob d1
   go_wp2_with fail
   have hv:(fun u=>u.cell? ⟨w.heap.size,3,none⟩=some (.slice (some ⟨b,o,none⟩) qn qc)∧u.cell? ⟨w.heap.size+1+1,3,none⟩=some (.slice a2 k cap2)∧u.cell? ⟨b,o+k*2,none⟩=some (.string x.nm)∧u.cell? ⟨b,o+k*2+1,none⟩=some (.slice pa pn pc)) wr.drew:=⟨z3,y3,d0,d1⟩;refine ar_ (S:=(fun u=>u.cell? ⟨w.heap.size,3,none⟩=some (.slice (some ⟨b,o,none⟩) qn qc)∧u.cell? ⟨w.heap.size+1+1,3,none⟩=some (.slice a2 k cap2)∧u.cell? ⟨b,o+k*2,none⟩=some (.string x.nm)∧u.cell? ⟨b,o+k*2+1,none⟩=some (.slice pa pn pc))) 20 (by kernel_rfl) (by kernel_rfl) ?_;refine tk 0 ?_;refine tk 1 ?_;refine tk 2 ?_;refine tk 3 ?_;refine tk 4 ?_;refine tk 5 ?_;refine tk 6 ?_;refine tk 7 ?_;refine tk 9 ?_;refine tk 10 ?_;refine tk 11 ?_;refine tk 12 ?_;refine tk 13 ?_;refine tk 14 ?_;refine AX (i:=8) (by kernel_rfl) rfl (fun K hK=>?_);go_simp;refine hK.out _ _ ⟨za _,ya _,da _,de _⟩ (fun hHeld=>?_);clear hK K
   try simp only[Act.put,lsA,lsB,lsC]
   refine AX (i:=15) (by kernel_rfl) rfl (fun K hK=>?_);refine aJ_ rfl (mF_ _ _ rfl wr.heap.size _ 0 0 [] rfl (aw_ (Blk.new' _ _ _ _ (by simp)) (by simp)) pa pn pc x.ps rfl (hP.below (by go_grown)) hs ht pn (Zq _) (by omega) (by simp) ?_);intro a3 cap3 w3 R3 hr;have hb:Below wr.heap.size wr w3:=Yi (by go_grown) hr (by simp) (fun j e=>by simp[Value.ownBlock] at e;omega);have hC:=hb.size;refine hK.out _ _ ⟨Ab hb z3,Ab hb y3,Ab hb d0,Ab hb d1⟩ (fun hHeld=>?_);clear hK K
   try simp only[Act.put,lsA,lsB,lsC]
   refine tk 16 ?_;refine AX (i:=17) (by kernel_rfl) rfl (fun K hK=>?_);go_simp;refine hK.out _ _ ⟨Ah _ (Ab hb z3),Ah _ (Ab hb y3),Ah _ (Ab hb d0),Ah _ (Ab hb d1)⟩ (fun hHeld=>?_);clear hK K
   try simp only[Act.put,lsA,lsB,lsC]
   refine AX (i:=18) (by kernel_rfl) rfl (fun K hK=>?_);have ha:Below wr.heap.size wr (w3.alloc (.cells #[.string x.nm,.slice a3 pn cap3] 125)):=Aa hb (by go_grown);refine aJ_ rfl (g4_ _ _ rfl (w.heap.size+3) a2 k cap2 rows rfl (R2.below ha) _ 1 1 [(⟨x.nm,a3,pn,cap3⟩:IR)] rfl (cd_ _ (⟨x.nm,a3,pn,cap3⟩:IR) _ _ (by simp)) (fun ad h=>(by cases h;rfl)) (fun h=>(by cases h)) (k+1) rfl (by omega) (by have:=ha.size;omega) ?_);intro a4 cap4 w4 R4 he;have hc:∀ j,Value.ownBlock (.slice a2 k cap2)=some j->w.heap.size+3<=j:=aG_ fun ad hf=>(R2.block ad hf).1;have L1:=(K1.below ha).offB he hc (by omega);have L3:=(K3.below ha).offB he hc (by omega);have L2:=(K2.below ha).offB he hc (by omega);have e0:=he.cell (a:=⟨b,o+k*2,none⟩) (Ab ha d0) (at_ (fun ad hf=>(R2.block ad hf).1) ho);have e1:=he.cell (a:=⟨b,o+k*2+1,none⟩) (Ab ha d1) (at_ (fun ad hf=>(R2.block ad hf).1) ho);refine hK.out _ _ ⟨L1.cell 3,L3.cell 3,e0,e1⟩ (fun hHeld=>?_);clear hK K
   try simp only[Act.put,lsA,lsB,lsC]
   refine tk 19 ?_;refine wpAnyH_done (by kernel_rfl) ?_ _;refine BK rfl ?_;have y4:w4.cell? ⟨w.heap.size+1+1,3,none⟩=some (.slice a2 k cap2):=L3.cell 3;have f4:w4.frozen? ⟨w.heap.size+1+1,3,none⟩=false:=L3.frozen 3;go_wp2;go_roundw
   case rel=>
    have hj:=B3 w4 (w.heap.size+1+1) 3 (.slice a4 (k+1) cap4);have hE:=hB.size;refine⟨k+1,a4,cap4,rows++[⟨x.nm,a3,pn,cap3⟩],by omega,by go_num,L1.other _ _ (by simp only[ne_eq];omega),L2.other _ _ (by simp only[ne_eq];omega),by simpa using L3.set 3 (.slice a4 (k+1) cap4),R4.ty hj (aa_ L3) (by decide),?_,?_,?_⟩
    ·rw[hu.out];have hm:=(((R3.alloc (.cells #[.string x.nm,.slice a3 pn cap3] 125)).ty he (R2.below ha).rowTy (by decide)).mono (show w.heap.size+3<=wr.heap.size by omega));rw[ZM] at hm;exact (((T2.below ha).ty he (R2.below ha).rowTy (by decide)).snoc ⟨rfl,hm⟩).ty hj (aa_ L3) (by decide)
    ·have h4:=L3.lt
     have:=hj.size
     omega
    ·exact Below.setCell (Yi (Aa hB ha) he (by have:=ha.size;omega) (fun j e=>by have:=hc j e;omega)) (by simp only;omega) _
   case measure=>simp[intOf];omega
  ·obtain rfl:k=qn:=by omega
   obtain⟨y0,y1,y2,_⟩:=K3.four;obtain⟨x0,x1,x2,x3⟩:=K2.four;have f0:=K2.frozen 0;have f1:=K2.frozen 1;have f2:=K2.frozen 2;have f3:=K2.frozen 3;obtain⟨W0,hg⟩:=HV K2 (.int .i64 id) (.string nm) (.bool fx) (.slice a2 k cap2);have R0:=R2.ty hg (aa_ K2) (by decide);have T0:=T2.ty hg (aa_ K2) (by decide);have B1:=hB.grown hg hB.size (fun j e=>by cases e;omega);go_wp2;generalize (((wr.setCell ⟨w.heap.size+1,0,none⟩ (.int .i64 id)).setCell ⟨w.heap.size+1,1,none⟩ (.string nm)).setCell ⟨w.heap.size+1,2,none⟩ (.bool fx)).setCell ⟨w.heap.size+1,3,none⟩ (.slice a2 k cap2)=W8 at *;refine YW (results_cell_row rfl _ W8 (w.heap.size+1) _ _ _ _ rfl W0 underlying62 rfl (by kernel_rfl)) rfl ?_;rw[Zk (Zm hl.out)] at T0;exact⟨⟨a2,cap2,rows,rfl,R0.mono (by omega),T0.mono (by omega)⟩,B1⟩
theorem eQ_ {size:Nat}
  (s x:Operand)(t:TypeId)(ho:o.op=.call {callee:=.builtin .append,args:=#[s,x],argTypes:=#[t,t]})
  (B:Nat)(e:TypeId)(i:TypeInfo)(z:Value)(bytes:Nat)(ht:P.underlying t=some (.slice e))(hi:P.info? e=some i)(hz:i.zero=some z)(hsize:i.size=size)(hby:i.bytes=bytes)(hzs:z.cells.size=size)(hpos:0<size)
  (hsz:∀ y,(cs y).length=size)(hone:∀ (l:List α),∀ u∈l.flatMap cs,u.oneCell'=true)
  (b:Nat)(hs:a.eval s=.slice (some ⟨b,0,none⟩) 0 0)(hb:Blk w b #[] e)(hBb:B<=b)
  (sa:Option Addr)(sn scap:Nat)(ls:List α)(hx:a.eval x=.slice sa sn scap)(hsrc:AF cs size w sa sn ls)(hspot:∀ ad,sa=some ad->ad.spot=none)(hnone:sa=none->scap=0)
  (h63:sn<=maxLen)(hbytes:sn*bytes<=140737488355328)(hbase:B<=w.heap.size)
  (h:∀ a' cap' w',Ae cs size e w' B a' sn cap' ls->Below w.heap.size w w'->a'≠none->(0<cap'->∀ ad,a'=some ad->w.heap.size<=ad.block)->K (a.put o.dst (.slice a' sn cap')) w'):o.wp P a w K Q:=by
 have hd:Ae cs size e w B (some ⟨b,0,none⟩) 0 0 ([]:List α):=aw_ hb hBb;have hf:=hd.row hsz;have he:sn=0->ls=[]:=fun h0=>Zt (by rw[hsrc.len];exact h0)
 cases sa with
 |none=>
  have h0:sn=0:=by
   cases ls with
   |nil=>rw[<-hsrc.len];rfl
   |cons y r=>obtain⟨b,o',hb,_⟩:=hsrc.cell 0 y rfl;cases hb
  obtain rfl:=he h0;obtain rfl:=h0;obtain rfl:=hnone rfl;have hc:=run_append_owned_none (P:=P) w B t o.type e i size ht hi (.slice (some ⟨b,0,none⟩) 0 0) 0 _ hf;unfold Oper.wp;simp[execOp,ho,resolve,invoke,builtin,hs,hx,hc,Result.andThen];exact h _ 0 w hd (Yg _ _) (by simp) (fun h=>absurd h (by omega))
 |some ad=>
  obtain⟨sb,off,spot⟩:=ad
  have:=hspot _ rfl
  simp only at this;subst this;have hl:(ls.flatMap cs).length=sn*size:=by rw[aY_ hsz,hsrc.len]
  by_cases hm:0<sn
  ·obtain⟨v',w',hr,ha,hg,hq⟩:=run_append_own (P:=P) w B t o.type e i z size bytes ht hi hz hsize hby hzs hpos (.slice (some ⟨b,0,none⟩) 0 0) 0 [] (by simpa using hf) ⟨sb,off,none⟩ sn scap (ls.flatMap cs) hl (AF.src hsz hsrc) (hone ls) (by omega) (by rw[Zq];exact hbytes) hbase;subst hsize;subst hby;have hn:=run_append_grow (P:=P) w t o.type e i z ht hi hz ⟨b,0,none⟩ 0 0 [] (by simp) (fun j v hv=>by simp at hv) ⟨sb,off,none⟩ sn scap (ls.flatMap cs) hl (AF.src hsz hsrc) (by omega) (by simp only[maxLen] at h63;omega) (growslice_fits (by omega) (by rw[Zq];exact hbytes));rw[hr] at hn;rw[ZM,Zq] at ha;obtain⟨a',cap',rfl,hh⟩:=bz_ hsz hsrc.len ha;injection hn with e1 e2;injection e1 with e3 e4 e5;have hp:Below w.heap.size w w':=by rw[e2];exact ((Yg _ _).drew).alloc (Zd _) _
   unfold Oper.wp;simp[execOp,ho,resolve,invoke,builtin,hs,hx,hr,Result.andThen];refine h a' cap' w' hh hp (by rw[e3];simp) (fun _ ad hk=>?_);rw[e3] at hk
   cases hk
   exact Zd _
  ·obtain rfl:sn=0:=by omega
   obtain rfl:=he rfl;subst hsize;have hc:=run_append_room_cells (P:=P) (w:=w) t o.type e i ht hi b 0 0 0 ⟨sb,off,none⟩ 0 scap [] (by simp) (fun j u hu=>by simp at hu) (fun u hu=>by simp at hu) (by omega) (fun j hj=>by simp at hj) (fun j hj=>by simp at hj);unfold Oper.wp;simp[execOp,ho,resolve,invoke,builtin,hs,hx,hc,Result.andThen];exact h _ 0 w hd (Yg _ _) (by simp) (fun h=>absurd h (by omega))
theorem lI_ (I:Array Bool->Act->World->Prop)
  (hstep:∀ listed a u i,I listed a u->i∈Region.ready md ops listed->wpOp P ops Q i (fun a' u'=>S u'∧I (listed.setIfInBounds i true) a' u') a u)
  (hdone:∀ listed a u,I listed a u->Region.ready md ops listed=[]->Q .normal a u)(hsz:∀ listed a u,I listed a u->listed.size=ops.size):
  ∀ (fuel:Nat) (listed:Array Bool) (a:Act) (u:World),unl ops.size listed<=fuel->I listed a u->wpAnyH P md ops Q S fuel listed a u:=by
 have ha:∀ (listed:Array Bool) i,i∈Region.ready md ops listed->i<ops.size∧listed.getD i true=false:=fun listed i hi=>by
  obtain⟨h1,o,h2,_⟩:=mem_ready.1 hi;exact⟨(ZG.1 h2).1,h1⟩
 intro fuel
 induction fuel with
 |zero=>
  intro listed a u hu hI
  have hr:Region.ready md ops listed=[]:=by
   cases hl:Region.ready md ops listed with
   |nil=>rfl
   |cons i r=>
    obtain⟨h1,h2⟩:=ha listed i (by rw[hl];simp);rw[kq_ (by omega) i h1] at h2
    cases h2
  exact⟨hr,hdone listed a u hI hr⟩
 |succ fuel ih=>
  intro listed a u hu hI;refine⟨fun hr=>hdone listed a u hI hr,fun i hi=>?_⟩;obtain⟨h1,h2⟩:=ha listed i hi;refine wpOp_mono (fun a' u' hq=>⟨hq.1,ih _ a' u' ?_ hq.2⟩) (hstep listed a u i hI hi)
  have:=gj_ (listed:=listed) (i:=i) (by rw[hsz listed a u hI];exact h1) h2 (List.range ops.size) List.nodup_range (List.mem_range.2 h1)
  unfold unl at *;omega
theorem cL_ {l:List Oper}{i:Nat}(hi:l[i]?=some o)(hg:o.guard=none)(h:∀ K':Act->World->Prop,Shut (∀ a w,K a w->K' a w)->o.wp P a w K' Q):wpOp P l.toArray Q i K a w:=by
 have ha:l.toArray[i]?=some o:=by simpa using hi
 unfold wpOp;simp only[ha];rw[if_pos (by simp[Region.wanted,hg])];exact .inl (h K (fun _ _ h=>h))
theorem kr_ {L0:Array Bool}{a0:Act}{u0:World}{fuel:Nat}(F:Act->Prop)(I:Act->Array Bool->Act->World->Prop)
  (hF:F a0)(hstep:∀ a0,F a0->∀ listed a u i,I a0 listed a u->i∈Region.ready md ops listed->wpOp P ops Q i (fun a' u'=>S u'∧I a0 (listed.setIfInBounds i true) a' u') a u)
  (hdone:∀ listed a u,I a0 listed a u->Region.ready md ops listed=[]->Q .normal a u)(hsz:∀ listed a u,I a0 listed a u->listed.size=ops.size)
  (hu:unl ops.size L0<=fuel)(hI:I a0 L0 a0 u0):wpAnyH P md ops Q S fuel L0 a0 u0:=lI_ (I a0) (hstep a0 hF) hdone hsz fuel L0 a0 u0 hu hI
theorem ce_ (a:Act)(k:Nat)(x y:Value):(a.put (some k) x).put (some k) y=a.put (some k) y:=by simp[Act.put]
theorem ax_ (h:k≠j)(a:Act)(x y:Value):(a.put (some k) x).put (some j) y=(a.put (some j) y).put (some k) x:=by
 simp only[Act.put];rw[Array.setIfInBounds_comm _ _ h]
theorem dd_ (a:Act)(k:Nat)(x:Value):(a.put (some k) x).tmps.size=a.tmps.size:=by simp[Act.put]
theorem cp_ (h:k<a.tmps.size):(a.put (some k) x).eval (.tmp k)=x:=by simp[Act.put,Act.eval,h]
theorem aj_ (h:k≠j)(a:Act)(x:Value):(a.put (some k) x).eval (.tmp j)=a.eval (.tmp j):=by simp[Act.put,Act.eval,Za h]
def A9 (a:Act)(x9 x12 x13 x16 x17 x20 x21 x3:Value):Act:=((((((((a.put (some 9) x9).put (some 12) x12).put (some 13) x13).put (some 16) x16).put (some 17) x17).put (some 20) x20).put (some 21) x21).put (some 3) x3)
theorem pW_ (a:Act)(x9 x12 x13 x16 x17 x20 x21 x3 v:Value):(A9 a x9 x12 x13 x16 x17 x20 x21 x3).put (some 9) v=A9 a v x12 x13 x16 x17 x20 x21 x3:=by
 unfold A9;rw[ax_ (show (3:Nat)≠9 by decide),ax_ (show (21:Nat)≠9 by decide),ax_ (show (20:Nat)≠9 by decide),ax_ (show (17:Nat)≠9 by decide),ax_ (show (16:Nat)≠9 by decide),ax_ (show (13:Nat)≠9 by decide),ax_ (show (12:Nat)≠9 by decide),ce_]
theorem pr_ (h:a.tmps.size=41)(x9 x12 x13 x16 x17 x20 x21 x3:Value):(A9 a x9 x12 x13 x16 x17 x20 x21 x3).eval (.tmp 9)=x9:=by
 unfold A9;rw[aj_ (show (3:Nat)≠9 by decide),aj_ (show (21:Nat)≠9 by decide),aj_ (show (20:Nat)≠9 by decide),aj_ (show (17:Nat)≠9 by decide),aj_ (show (16:Nat)≠9 by decide),aj_ (show (13:Nat)≠9 by decide),aj_ (show (12:Nat)≠9 by decide),cp_ (by first | omega | (simp only[dd_];omega))]
theorem ps_ (a:Act)(x9 x12 x13 x16 x17 x20 x21 x3 v:Value):(A9 a x9 x12 x13 x16 x17 x20 x21 x3).put (some 12) v=A9 a x9 v x13 x16 x17 x20 x21 x3:=by
 unfold A9;rw[ax_ (show (3:Nat)≠12 by decide),ax_ (show (21:Nat)≠12 by decide),ax_ (show (20:Nat)≠12 by decide),ax_ (show (17:Nat)≠12 by decide),ax_ (show (16:Nat)≠12 by decide),ax_ (show (13:Nat)≠12 by decide),ce_]
theorem od_ (h:a.tmps.size=41)(x9 x12 x13 x16 x17 x20 x21 x3:Value):(A9 a x9 x12 x13 x16 x17 x20 x21 x3).eval (.tmp 12)=x12:=by
 unfold A9;rw[aj_ (show (3:Nat)≠12 by decide),aj_ (show (21:Nat)≠12 by decide),aj_ (show (20:Nat)≠12 by decide),aj_ (show (17:Nat)≠12 by decide),aj_ (show (16:Nat)≠12 by decide),aj_ (show (13:Nat)≠12 by decide),cp_ (by first | omega | (simp only[dd_];omega))]
theorem pt_ (a:Act)(x9 x12 x13 x16 x17 x20 x21 x3 v:Value):(A9 a x9 x12 x13 x16 x17 x20 x21 x3).put (some 13) v=A9 a x9 x12 v x16 x17 x20 x21 x3:=by
 unfold A9;rw[ax_ (show (3:Nat)≠13 by decide),ax_ (show (21:Nat)≠13 by decide),ax_ (show (20:Nat)≠13 by decide),ax_ (show (17:Nat)≠13 by decide),ax_ (show (16:Nat)≠13 by decide),ce_]
theorem oe_ (h:a.tmps.size=41)(x9 x12 x13 x16 x17 x20 x21 x3:Value):(A9 a x9 x12 x13 x16 x17 x20 x21 x3).eval (.tmp 13)=x13:=by
 unfold A9;rw[aj_ (show (3:Nat)≠13 by decide),aj_ (show (21:Nat)≠13 by decide),aj_ (show (20:Nat)≠13 by decide),aj_ (show (17:Nat)≠13 by decide),aj_ (show (16:Nat)≠13 by decide),cp_ (by first | omega | (simp only[dd_];omega))]
theorem pu_ (a:Act)(x9 x12 x13 x16 x17 x20 x21 x3 v:Value):(A9 a x9 x12 x13 x16 x17 x20 x21 x3).put (some 16) v=A9 a x9 x12 x13 v x17 x20 x21 x3:=by
 unfold A9;rw[ax_ (show (3:Nat)≠16 by decide),ax_ (show (21:Nat)≠16 by decide),ax_ (show (20:Nat)≠16 by decide),ax_ (show (17:Nat)≠16 by decide),ce_]
theorem of_ (h:a.tmps.size=41)(x9 x12 x13 x16 x17 x20 x21 x3:Value):(A9 a x9 x12 x13 x16 x17 x20 x21 x3).eval (.tmp 16)=x16:=by
 unfold A9;rw[aj_ (show (3:Nat)≠16 by decide),aj_ (show (21:Nat)≠16 by decide),aj_ (show (20:Nat)≠16 by decide),aj_ (show (17:Nat)≠16 by decide),cp_ (by first | omega | (simp only[dd_];omega))]
theorem pv_ (a:Act)(x9 x12 x13 x16 x17 x20 x21 x3 v:Value):(A9 a x9 x12 x13 x16 x17 x20 x21 x3).put (some 17) v=A9 a x9 x12 x13 x16 v x20 x21 x3:=by
 unfold A9;rw[ax_ (show (3:Nat)≠17 by decide),ax_ (show (21:Nat)≠17 by decide),ax_ (show (20:Nat)≠17 by decide),ce_]
theorem og_ (h:a.tmps.size=41)(x9 x12 x13 x16 x17 x20 x21 x3:Value):(A9 a x9 x12 x13 x16 x17 x20 x21 x3).eval (.tmp 17)=x17:=by
 unfold A9;rw[aj_ (show (3:Nat)≠17 by decide),aj_ (show (21:Nat)≠17 by decide),aj_ (show (20:Nat)≠17 by decide),cp_ (by first | omega | (simp only[dd_];omega))]
theorem pw_ (a:Act)(x9 x12 x13 x16 x17 x20 x21 x3 v:Value):(A9 a x9 x12 x13 x16 x17 x20 x21 x3).put (some 20) v=A9 a x9 x12 x13 x16 x17 v x21 x3:=by
 unfold A9;rw[ax_ (show (3:Nat)≠20 by decide),ax_ (show (21:Nat)≠20 by decide),ce_]
theorem oh_ (h:a.tmps.size=41)(x9 x12 x13 x16 x17 x20 x21 x3:Value):(A9 a x9 x12 x13 x16 x17 x20 x21 x3).eval (.tmp 20)=x20:=by
 unfold A9;rw[aj_ (show (3:Nat)≠20 by decide),aj_ (show (21:Nat)≠20 by decide),cp_ (by first | omega | (simp only[dd_];omega))]
theorem px_ (a:Act)(x9 x12 x13 x16 x17 x20 x21 x3 v:Value):(A9 a x9 x12 x13 x16 x17 x20 x21 x3).put (some 21) v=A9 a x9 x12 x13 x16 x17 x20 v x3:=by
 unfold A9;rw[ax_ (show (3:Nat)≠21 by decide),ce_]
theorem pX_ (a:Act)(x9 x12 x13 x16 x17 x20 x21 x3 v:Value):(A9 a x9 x12 x13 x16 x17 x20 x21 x3).put (some 3) v=A9 a x9 x12 x13 x16 x17 x20 x21 v:=by
 unfold A9;rw[ce_]
end
end Go.Proofs.YtahenegmbmnmjaaGreatDoor
