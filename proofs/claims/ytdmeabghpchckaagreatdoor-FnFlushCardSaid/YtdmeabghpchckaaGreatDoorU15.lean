/- Appends at the program's own types, in few words. -/
import Derived.Test.YtdmeabghpchckaaGreatDoorU05
import Derived.Test.YtdmeabghpchckaaGreatDoorU12
set_option maxHeartbeats 20000000
set_option maxRecDepth 100000
namespace Go.Proofs.YtdmeabghpchckaaGreatDoor
section
open Go Go.RowKit Go.BigFrame Tryz
variable{o:Oper}{a:Act}{w:World}{K:Act->World->Prop}{Q:Exit->Act->World->Prop}
theorem pp_ (s x:Operand)(ho:o.op=.call {callee:=.builtin .append,args:=#[s,x],argTypes:=#[26,26]})
  (B:Nat)(da:Option Addr)(dn dcap:Nat)(ld:List Ct)(hs:a.eval s=.slice da dn dcap)(hd:Ad Ct.cs 4 46 w B da dn dcap ld)
  (sa:Option Addr)(sn scap:Nat)(ls:List Ct)(hx:a.eval x=.slice sa sn scap)(hsrc:A4 w sa sn ls)(hspot:∀ ad,sa=some ad->ad.spot=none)(hnone:sa=none->scap=0)
  (tot:Nat)(htot:dn+sn=tot)(h63:tot<=9000000)(hbase:B<=w.heap.size)
  (h:∀ a' cap' w',Ad Ct.cs 4 46 w' B a' tot cap' (ld++ls)->w.grownBy w' (Value.ownBlock (.slice da dn dcap))->K (a.put o.dst (.slice a' tot cap')) w'):o.wp prog a w K Q:=by
 obtain⟨i0,hi,ha,hb,hc⟩:=info_parts Dg;exact ay_ s x _ ho B _ i0 _ 40 underlying26 hi ha hb hc rfl (by decide) aS_ a9_ da dn dcap ld hs hd sa sn scap ls hx hsrc hspot hnone tot htot (by unfold maxLen;omega) (by omega) hbase h
end
section
open Go Go.RowKit Go.BigFrame Tryz
theorem ni_ (a:Option Addr)(n cap:Nat)(l:List Ex)(w:World)(h:AE Ex.cs 2 w a n l)(hn:n<=4194304)(ha1:∀ ad,a=some ad->ad.spot=none)(ha2:a=none->n=0∧cap=0):
  Calls prog 57 #[.slice a n cap] w fun e w'=>(∃ a' cap',e=.returned (.slice a' n cap')∧Ad Ex.cs 2 42 w' w.heap.size a' n cap' l)∧Below w.heap.size w w':=by
 have he:∀ (w:World) (a:Option Addr) (n c n' c':Nat),(binOp .eql 24 (.slice a n c) (.slice none n' c')).run prog w=.ok (.bool a.isNone) w:=fun w a n c n' c'=>Lib.run_eql_slice_nil w _ _ a n c n' c' underlying24
 cases a with
 |none=>
  obtain⟨rfl,rfl⟩:=ha2 rfl;have hl:l=[]:=Zt h.len;subst hl;go_enter func57,ntmps57;go_wp2;go_returns;exact⟨⟨none,0,rfl,aB_⟩,Yg _ _⟩
 |some ad=>
  go_enter func57,ntmps57
  go_wp2_with (at_builtin;refine ag_ rfl (fun K hK=>mG_ _ _ rfl w.heap.size _ 0 0 [] rfl (aw_ (Blk.new' _ _ _ _ (by simp)) (Zd _)) (some ad) n cap l rfl (h.alloc _) ha1 (fun h=>(by cases h)) n (Zq _) (by omega) (by simp) (fun a3 cap3 w3 R3 hc _=>hK _ _ ?_)))
  have ha:Below w.heap.size w (w.alloc (.cells #[] 42)):=(Yg _ _).alloc (Zd _) _;have hb:Below w.heap.size w w3:=Yi ha hc (by simp) (fun j e=>by simp[Value.ownBlock] at e;omega);go_wp2;go_returns;exact⟨⟨a3,cap3,rfl,by simpa using R3⟩,hb⟩
theorem nj_ (a:Option Addr)(n cap:Nat)(l:List VR)(w:World)(h:AE vrs 4 w a n l)(hn:n<=4194304)(ha1:∀ ad,a=some ad->ad.spot=none)(ha2:a=none->n=0∧cap=0):
  Calls prog 58 #[.slice a n cap] w fun e w'=>(∃ a' cap',e=.returned (.slice a' n cap')∧Ad vrs 4 38 w' w.heap.size a' n cap' l)∧Below w.heap.size w w':=by
 have he:∀ (w:World) (a:Option Addr) (n c n' c':Nat),(binOp .eql 25 (.slice a n c) (.slice none n' c')).run prog w=.ok (.bool a.isNone) w:=fun w a n c n' c'=>Lib.run_eql_slice_nil w _ _ a n c n' c' underlying25
 cases a with
 |none=>
  obtain⟨rfl,rfl⟩:=ha2 rfl;have hl:l=[]:=Zt h.len;subst hl;go_enter func58,ntmps58;go_wp2;go_returns;exact⟨⟨none,0,rfl,aB_⟩,Yg _ _⟩
 |some ad=>
  go_enter func58,ntmps58
  go_wp2_with (at_builtin;refine ag_ rfl (fun K hK=>dC_ _ _ rfl w.heap.size _ 0 0 [] rfl (aw_ (Blk.new' _ _ _ _ (by simp)) (Zd _)) (some ad) n cap l rfl (h.alloc _) ha1 (fun h=>(by cases h)) n (Zq _) (by omega) (by simp) (fun a3 cap3 w3 R3 hc=>hK _ _ ?_)))
  have ha:Below w.heap.size w (w.alloc (.cells #[] 38)):=(Yg _ _).alloc (Zd _) _;have hb:Below w.heap.size w w3:=Yi ha hc (by simp) (fun j e=>by simp[Value.ownBlock] at e;omega);go_wp2;go_returns;exact⟨⟨a3,cap3,rfl,by simpa using R3⟩,hb⟩
theorem iL_ (a:Option Addr)(n cap:Nat)(l:List Ct)(w:World)(h:AE Ct.cs 4 w a n l)(hn:n<=4194304)(ha1:∀ ad,a=some ad->ad.spot=none)(ha2:a=none->n=0∧cap=0):
  Calls prog 60 #[.slice a n cap] w fun e w'=>(∃ a' cap',e=.returned (.slice a' n cap')∧Ad Ct.cs 4 46 w' w.heap.size a' n cap' l)∧Below w.heap.size w w':=by
 have he:∀ (w:World) (a:Option Addr) (n c n' c':Nat),(binOp .eql 26 (.slice a n c) (.slice none n' c')).run prog w=.ok (.bool a.isNone) w:=fun w a n c n' c'=>Lib.run_eql_slice_nil w _ _ a n c n' c' underlying26
 cases a with
 |none=>
  obtain⟨rfl,rfl⟩:=ha2 rfl;have hl:l=[]:=Zt h.len;subst hl;go_enter func60,ntmps60;go_wp2;go_returns;exact⟨⟨none,0,rfl,aB_⟩,Yg _ _⟩
 |some ad=>
  go_enter func60,ntmps60
  go_wp2_with (at_builtin;refine ag_ rfl (fun K hK=>pp_ _ _ rfl w.heap.size _ 0 0 [] rfl (aw_ (Blk.new' _ _ _ _ (by simp)) (Zd _)) (some ad) n cap l rfl (h.alloc _) ha1 (fun h=>(by cases h)) n (Zq _) (by omega) (by simp) (fun a3 cap3 w3 R3 hc=>hK _ _ ?_)))
  have ha:Below w.heap.size w (w.alloc (.cells #[] 46)):=(Yg _ _).alloc (Zd _) _;have hb:Below w.heap.size w w3:=Yi ha hc (by simp) (fun j e=>by simp[Value.ownBlock] at e;omega);go_wp2;go_returns;exact⟨⟨a3,cap3,rfl,by simpa using R3⟩,hb⟩
theorem nk_ (a:Option Addr)(n cap:Nat)(l:List IR)(w:World)(h:AE irs 2 w a n l)(hn:n<=4194304)(ha1:∀ ad,a=some ad->ad.spot=none)(ha2:a=none->n=0∧cap=0):
  Calls prog 108 #[.slice a n cap] w fun e w'=>(∃ a' cap',e=.returned (.slice a' n cap')∧Ad irs 2 134 w' w.heap.size a' n cap' l)∧Below w.heap.size w w':=by
 have he:∀ (w:World) (a:Option Addr) (n c n' c':Nat),(binOp .eql 36 (.slice a n c) (.slice none n' c')).run prog w=.ok (.bool a.isNone) w:=fun w a n c n' c'=>Lib.run_eql_slice_nil w _ _ a n c n' c' underlying36
 cases a with
 |none=>
  obtain⟨rfl,rfl⟩:=ha2 rfl;have hl:l=[]:=Zt h.len;subst hl;go_enter func108,ntmps108;go_wp2;go_returns;exact⟨⟨none,0,rfl,aB_⟩,Yg _ _⟩
 |some ad=>
  go_enter func108,ntmps108
  go_wp2_with (at_builtin;refine ag_ rfl (fun K hK=>g4_ _ _ rfl w.heap.size _ 0 0 [] rfl (aw_ (Blk.new' _ _ _ _ (by simp)) (Zd _)) (some ad) n cap l rfl (h.alloc _) ha1 (fun h=>(by cases h)) n (Zq _) (by omega) (by simp) (fun a3 cap3 w3 R3 hc=>hK _ _ ?_)))
  have ha:Below w.heap.size w (w.alloc (.cells #[] 134)):=(Yg _ _).alloc (Zd _) _;have hb:Below w.heap.size w w3:=Yi ha hc (by simp) (fun j e=>by simp[Value.ownBlock] at e;omega);go_wp2;go_returns;exact⟨⟨a3,cap3,rfl,by simpa using R3⟩,hb⟩
theorem nl_ (a:Option Addr)(n cap:Nat)(l:List Pt)(w:World)(h:AE Pt.cs 3 w a n l)(hn:n<=4194304)(ha1:∀ ad,a=some ad->ad.spot=none)(ha2:a=none->n=0∧cap=0):
  Calls prog 109 #[.slice a n cap] w fun e w'=>(∃ a' cap',e=.returned (.slice a' n cap')∧Ad Pt.cs 3 146 w' w.heap.size a' n cap' l)∧Below w.heap.size w w':=by
 have he:∀ (w:World) (a:Option Addr) (n c n' c':Nat),(binOp .eql 85 (.slice a n c) (.slice none n' c')).run prog w=.ok (.bool a.isNone) w:=fun w a n c n' c'=>Lib.run_eql_slice_nil w _ _ a n c n' c' underlying85
 cases a with
 |none=>
  obtain⟨rfl,rfl⟩:=ha2 rfl;have hl:l=[]:=Zt h.len;subst hl;go_enter func109,ntmps109;go_wp2;go_returns;exact⟨⟨none,0,rfl,aB_⟩,Yg _ _⟩
 |some ad=>
  go_enter func109,ntmps109
  go_wp2_with (at_builtin;refine ag_ rfl (fun K hK=>mF_ _ _ rfl w.heap.size _ 0 0 [] rfl (aw_ (Blk.new' _ _ _ _ (by simp)) (Zd _)) (some ad) n cap l rfl (h.alloc _) ha1 (fun h=>(by cases h)) n (Zq _) (by omega) (by simp) (fun a3 cap3 w3 R3 hc=>hK _ _ ?_)))
  have ha:Below w.heap.size w (w.alloc (.cells #[] 146)):=(Yg _ _).alloc (Zd _) _;have hb:Below w.heap.size w w3:=Yi ha hc (by simp) (fun j e=>by simp[Value.ownBlock] at e;omega);go_wp2;go_returns;exact⟨⟨a3,cap3,rfl,by simpa using R3⟩,hb⟩
end
section
open Go Go.RowKit Go.BigFrame Tryz
variable{α:Type}{l:List α}
def FQ (l:List Pt)(at':Int)(m:List Pt):Option (List Pt):=if (Ac l=true∧0<=at'∧at'<=100∧Ac m=true)∧Ac (AH l at' m)=true then some (AH l at' m) else none
theorem mH_ (addr:Int):∀ l:List Ex,Cy addr l<=l.length
 |[]=>Zd _
 |e::r=>by have:=mH_ addr r;unfold Cy;split<;>simp<;>omega
end
section
open Go Go.RowKit Go.BigFrame Tryz
variable{file vol:ByteArray}{i k:Nat}
theorem pB_ {w:World}{a:Option Addr}{n:Nat}{l:List ByteArray}(h:Fx w a n l)(hk:k<n):
  ∃ b o p,a=some ⟨b,o,none⟩∧l[k]?=some p∧w.cell? ⟨b,o+k,none⟩=some (.string p):=by
 have hl:k<l.length:=by rw[h.len];exact hk
 have hx:l[k]?=some l[k]:=by simp[hl]
 obtain⟨b,o,ha,hc⟩:=h.cell k _ hx;exact⟨b,o,l[k],ha,hx,by simpa using hc 0 _ rfl⟩
theorem bs_ (a:Option Addr)(n cap:Nat)(l:List ByteArray)(w:World)(h:Fx w a n l)(hn:n<=16)(hs:∀ x∈l,x.size<=9223372036854775807):
  Calls prog 91 #[.slice a n cap] w fun e w'=>e=.returned (.bool (l.all nameB))∧w'=w:=by
 have hb:Hid (l.length=n):=h.len;have ha:Hid (l.all nameB=(l.drop 0).all nameB):=by show _=_;simp
 go_enter func91,ntmps91
 go_wp2_with fail
 go_loop [7] (fun ix=>∃ (k:Nat),k<=n∧ix=.int .i64 k∧Hid (l.all nameB=(l.drop k).all nameB)) (fun ix=>n-(intOf ix).toNat)
 case atStart=>exact⟨0,Zg _,rfl,ha⟩
 case round=>
  obtain⟨k,hk,rfl,hI⟩:=hrel;by_cases hlt:k<n
  ·obtain⟨b,o,p,rfl,hp,c0⟩:=pB_ h hlt;have hd:Hid (l.drop k=p::l.drop (k+1)):=al_ hp;have he:=hs p (Zc hp)
   cases hc:nameB p
   ·go_wp2_with (first | (go_at_call 131;refine (bT_ p _ he).mono ?_;rintro e w1 ⟨rfl,rfl⟩;rw[hc]))
    all_goals go_returns
    all_goals go_light
    all_goals (refine⟨ac_ ?_,rfl⟩;rw[hI.out,hd.out];simp[hc])
   ·go_wp2_with (first | (go_at_call 131;refine (bT_ p _ he).mono ?_;rintro e w1 ⟨rfl,rfl⟩;rw[hc]))
    go_round
    case rel=>exact⟨k+1,by omega,by go_num,by show _=_;rw[hI.out,hd.out];simp[hc]⟩
    case measure=>simp[intOf];omega
  ·obtain rfl:k=n:=by omega
   go_wp2;go_returns;go_light;refine⟨ac_ ?_,rfl⟩;rw[hI.out,Ze (by rw[hb.out];exact Zd _)];rfl
theorem bP_ (n lo:Int)(w:World):
  Calls prog 92 #[.int .i64 n,.int .i64 lo] w fun e w'=>e=.returned (.bool (decide (lo<=n)&&decide (n<=100)))∧w'=w:=by
 go_enter func92,ntmps92;go_wp2
 all_goals go_returns
 all_goals go_light
 all_goals refine⟨ac_ ?_,rfl⟩
 all_goals first | (simp_all;done) | (simp_all;omega)
def BY (p q:Opr):Bool:=p.k==q.k&&(p.vol.toList==q.vol.toList&&(p.file.toList==q.file.toList&&(p.to.toList==q.to.toList&&(p.into.toList==q.into.toList&&(p.at'==q.at'&&(p.fr==q.fr&&(p.ln==q.ln&&p.data.toList==q.data.toList)))))))
theorem DV (p q:Opr)(w:World):(binOp .eql 33 (.agg #[.int .i64 p.k,.string p.vol,.string p.file,.string p.to,.string p.into,.int .i64 p.at',.int .i64 p.fr,.int .i64 p.ln,.string p.data]) (.agg #[.int .i64 q.k,.string q.vol,.string q.file,.string q.to,.string q.into,.int .i64 q.at',.int .i64 q.fr,.int .i64 q.ln,.string q.data])).run prog w=.ok (.bool (BY p q)) w:=by
 have u2:=underlying2;have u9:=underlying9;have a2:=Tryz.isAgg2;have a9:=Tryz.isAgg9;have z2:=Tryz.sizeOf2;have z9:=Tryz.sizeOf9;have hS:prog.underlying 33=some (.struct (prog.fieldsOf 33)):=by kernel_rfl
 have hp:prog.stoodInHeld 33=false:=by kernel_rfl
 rw[run_eql_struct,show (10000:Nat)=9999+1 from rfl,run_equalIn_agg w 9999 33 _ _ hS hp];simp only[Program.fieldsOf,underlying33];go_simp;unfold BY;by_cases h1:p.k=q.k
 case neg=>simp[h1]
 by_cases h2:p.vol.toList=q.vol.toList
 case neg=>simp[h1,h2]
 by_cases h3:p.file.toList=q.file.toList
 case neg=>simp[h1,h2,h3]
 by_cases h4:p.to.toList=q.to.toList
 case neg=>simp[h1,h2,h3,h4]
 by_cases h5:p.into.toList=q.into.toList
 case neg=>simp[h1,h2,h3,h4,h5]
 by_cases h6:p.at'=q.at'
 case neg=>simp[h1,h2,h3,h4,h5,h6]
 by_cases h7:p.fr=q.fr
 case neg=>simp[h1,h2,h3,h4,h5,h6,h7]
 by_cases h8:p.ln=q.ln
 case neg=>simp[h1,h2,h3,h4,h5,h6,h7,h8]
 by_cases h9:p.data.toList=q.data.toList<;>simp[h1,h2,h3,h4,h5,h6,h7,h8,h9]
theorem cw_ (w:World)(l:List ByteArray)(t:TypeId)(b:Nat)(hb:b=w.heap.size)(cs:Array Value)(hc:cs=(l.map Value.string).toArray):Fx (w.alloc (.cells cs t)) (some ⟨b,0,none⟩) l.length l:=by
 subst hb hc;refine⟨rfl,fun i x hx=>⟨_,0,rfl,fun j v hv=>?_⟩⟩
 match j,hv with
 |0,hv=>
  obtain rfl:=Zi hv;rw[Yv];simp[hx]
 |j+1,hv=>simp at hv
theorem fr_ (k:Int)(vol file to into:ByteArray)(at' fr ln:Int)(data:ByteArray)(w:World)(hs:BA ⟨k,vol,file,to,into,at',fr,ln,data⟩)(hk:k=1∨k=7∨k=8):
  Calls prog 45 #[.agg #[.int .i64 k,.string vol,.string file,.string to,.string into,.int .i64 at',.int .i64 fr,.int .i64 ln,.string data]] w fun e w'=>e=.returned (.bool ([vol].all nameB&&(BY ⟨k,vol,file,to,into,at',fr,ln,data⟩ ⟨k,vol,⟨#[]⟩,⟨#[]⟩,⟨#[]⟩,0,0,0,⟨#[]⟩⟩)))∧Below w.heap.size w w':=by
 have ha:=DV ⟨k,vol,file,to,into,at',fr,ln,data⟩ ⟨k,vol,⟨#[]⟩,⟨#[]⟩,⟨#[]⟩,0,0,0,⟨#[]⟩⟩;dsimp only at ha;generalize BY _ _=E at ha ⊢;generalize hN:[vol].all nameB=N;rcases hk with rfl | rfl | rfl
 all_goals go_enter func45,ntmps45
 all_goals go_wp2_with fail
 all_goals refine (bs_ _ 1 1 [vol] _ (cw_ _ [vol] _ _ (by simp) _ rfl) (by omega) (by simpa using hs.vol)).mono ?_
 all_goals rintro e w1 ⟨rfl,rfl⟩
 all_goals rw[hN]
 all_goals cases N
 all_goals go_wp2
 all_goals go_returns
 all_goals go_light
 all_goals exact⟨by simp,by go_grown⟩
theorem lJ_ (k:Int)(vol file to into:ByteArray)(at' fr ln:Int)(data:ByteArray)(w:World)(hs:BA ⟨k,vol,file,to,into,at',fr,ln,data⟩)(hk:k=4):
  Calls prog 45 #[.agg #[.int .i64 k,.string vol,.string file,.string to,.string into,.int .i64 at',.int .i64 fr,.int .i64 ln,.string data]] w fun e w'=>e=.returned (.bool ([vol,file].all nameB&&(BY ⟨k,vol,file,to,into,at',fr,ln,data⟩ ⟨k,vol,file,⟨#[]⟩,⟨#[]⟩,0,0,0,⟨#[]⟩⟩)))∧Below w.heap.size w w':=by
 have ha:=DV ⟨k,vol,file,to,into,at',fr,ln,data⟩ ⟨k,vol,file,⟨#[]⟩,⟨#[]⟩,0,0,0,⟨#[]⟩⟩;dsimp only at ha;generalize BY _ _=E at ha ⊢;generalize hN:[vol,file].all nameB=N;subst hk;go_enter func45,ntmps45
 go_wp2_with fail
 refine (bs_ _ 2 2 [vol,file] _ (cw_ _ [vol,file] _ _ (by simp) _ rfl) (by omega) (by intro x hx;simp at hx;rcases hx with rfl | rfl<;>first | exact hs.vol | exact hs.file)).mono ?_;rintro e w1 ⟨rfl,rfl⟩;rw[hN]
 cases N
 all_goals go_wp2
 all_goals go_returns
 all_goals go_light
 all_goals exact⟨by simp,by go_grown⟩
theorem lK_ (k:Int)(vol file to into:ByteArray)(at' fr ln:Int)(data:ByteArray)(w:World)(hs:BA ⟨k,vol,file,to,into,at',fr,ln,data⟩)(hk:k=6):
  Calls prog 45 #[.agg #[.int .i64 k,.string vol,.string file,.string to,.string into,.int .i64 at',.int .i64 fr,.int .i64 ln,.string data]] w fun e w'=>e=.returned (.bool ([vol,to].all nameB&&(BY ⟨k,vol,file,to,into,at',fr,ln,data⟩ ⟨k,vol,⟨#[]⟩,to,⟨#[]⟩,0,0,0,⟨#[]⟩⟩)))∧Below w.heap.size w w':=by
 have ha:=DV ⟨k,vol,file,to,into,at',fr,ln,data⟩ ⟨k,vol,⟨#[]⟩,to,⟨#[]⟩,0,0,0,⟨#[]⟩⟩;dsimp only at ha;generalize BY _ _=E at ha ⊢;generalize hN:[vol,to].all nameB=N;subst hk;go_enter func45,ntmps45
 go_wp2_with fail
 refine (bs_ _ 2 2 [vol,to] _ (cw_ _ [vol,to] _ _ (by simp) _ rfl) (by omega) (by intro x hx;simp at hx;rcases hx with rfl | rfl<;>first | exact hs.vol | exact hs.to)).mono ?_;rintro e w1 ⟨rfl,rfl⟩;rw[hN]
 cases N
 all_goals go_wp2
 all_goals go_returns
 all_goals go_light
 all_goals exact⟨by simp,by go_grown⟩
theorem lL_ (k:Int)(vol file to into:ByteArray)(at' fr ln:Int)(data:ByteArray)(w:World)(hs:BA ⟨k,vol,file,to,into,at',fr,ln,data⟩)(hk:k=2):
  Calls prog 45 #[.agg #[.int .i64 k,.string vol,.string file,.string to,.string into,.int .i64 at',.int .i64 fr,.int .i64 ln,.string data]] w fun e w'=>e=.returned (.bool ([vol,file].all nameB&&(decide (0<=at')&&decide (at'<=100)&&(As data&&(BY ⟨k,vol,file,to,into,at',fr,ln,data⟩ ⟨k,vol,file,⟨#[]⟩,⟨#[]⟩,at',0,0,data⟩)))))∧Below w.heap.size w w':=by
 have ha:=DV ⟨k,vol,file,to,into,at',fr,ln,data⟩ ⟨k,vol,file,⟨#[]⟩,⟨#[]⟩,at',0,0,data⟩;dsimp only at ha;generalize BY _ _=E at ha ⊢;generalize hN:[vol,file].all nameB=N;generalize hC0:(decide (0<=at')&&decide (at'<=100))=C0;generalize hC1:(As data)=C1;subst hk;go_enter func45,ntmps45
 go_wp2_with fail
 refine (bs_ _ 2 2 [vol,file] _ (cw_ _ [vol,file] _ _ (by simp) _ rfl) (by omega) (by intro x hx;simp at hx;rcases hx with rfl | rfl<;>first | exact hs.vol | exact hs.file)).mono ?_;rintro e w1 ⟨rfl,rfl⟩;rw[hN]
 cases N
 ·go_wp2;go_returns;go_light;exact⟨by simp,by go_grown⟩
 ·go_wp2_with fail
  refine (bP_ at' 0 _).mono ?_;rintro e w1 ⟨rfl,rfl⟩;rw[hC0]
  cases C0
  ·go_wp2;go_returns;go_light;exact⟨by simp,by go_grown⟩
  ·go_wp2_with fail
   refine (by_ data _ hs.data).mono ?_;rintro e w1 ⟨rfl,rfl⟩;rw[hC1]
   cases C1
   ·go_wp2;go_returns;go_light;exact⟨by simp,by go_grown⟩
   ·go_wp2
    all_goals go_returns
    all_goals go_light
    all_goals exact⟨by simp[],by go_grown⟩
theorem lM_ (k:Int)(vol file to into:ByteArray)(at' fr ln:Int)(data:ByteArray)(w:World)(hs:BA ⟨k,vol,file,to,into,at',fr,ln,data⟩)(hk:k=3):
  Calls prog 45 #[.agg #[.int .i64 k,.string vol,.string file,.string to,.string into,.int .i64 at',.int .i64 fr,.int .i64 ln,.string data]] w fun e w'=>e=.returned (.bool ([vol,file].all nameB&&(decide (0<=ln)&&decide (ln<=100)&&(BY ⟨k,vol,file,to,into,at',fr,ln,data⟩ ⟨k,vol,file,⟨#[]⟩,⟨#[]⟩,0,0,ln,⟨#[]⟩⟩))))∧Below w.heap.size w w':=by
 have ha:=DV ⟨k,vol,file,to,into,at',fr,ln,data⟩ ⟨k,vol,file,⟨#[]⟩,⟨#[]⟩,0,0,ln,⟨#[]⟩⟩;dsimp only at ha;generalize BY _ _=E at ha ⊢;generalize hN:[vol,file].all nameB=N;generalize hC0:(decide (0<=ln)&&decide (ln<=100))=C0;subst hk;go_enter func45,ntmps45
 go_wp2_with fail
 refine (bs_ _ 2 2 [vol,file] _ (cw_ _ [vol,file] _ _ (by simp) _ rfl) (by omega) (by intro x hx;simp at hx;rcases hx with rfl | rfl<;>first | exact hs.vol | exact hs.file)).mono ?_;rintro e w1 ⟨rfl,rfl⟩;rw[hN]
 cases N
 ·go_wp2;go_returns;go_light;exact⟨by simp,by go_grown⟩
 ·go_wp2_with fail
  refine (bP_ ln 0 _).mono ?_;rintro e w1 ⟨rfl,rfl⟩;rw[hC0]
  cases C0
  ·go_wp2;go_returns;go_light;exact⟨by simp,by go_grown⟩
  ·go_wp2
   all_goals go_returns
   all_goals go_light
   all_goals exact⟨by simp[],by go_grown⟩
theorem kt_ (k:Int)(vol file to into:ByteArray)(at' fr ln:Int)(data:ByteArray)(w:World)(hs:BA ⟨k,vol,file,to,into,at',fr,ln,data⟩)(hk:k=10):
  Calls prog 45 #[.agg #[.int .i64 k,.string vol,.string file,.string to,.string into,.int .i64 at',.int .i64 fr,.int .i64 ln,.string data]] w fun e w'=>e=.returned (.bool ([vol,file].all nameB&&(decide (0<=at')&&decide (at'<=100)&&(decide (1<=ln)&&decide (ln<=100)&&(BY ⟨k,vol,file,to,into,at',fr,ln,data⟩ ⟨k,vol,file,⟨#[]⟩,⟨#[]⟩,at',0,ln,⟨#[]⟩⟩)))))∧Below w.heap.size w w':=by
 have ha:=DV ⟨k,vol,file,to,into,at',fr,ln,data⟩ ⟨k,vol,file,⟨#[]⟩,⟨#[]⟩,at',0,ln,⟨#[]⟩⟩;dsimp only at ha;generalize BY _ _=E at ha ⊢;generalize hN:[vol,file].all nameB=N;generalize hC0:(decide (0<=at')&&decide (at'<=100))=C0;generalize hC1:(decide (1<=ln)&&decide (ln<=100))=C1;subst hk;go_enter func45,ntmps45
 go_wp2_with fail
 refine (bs_ _ 2 2 [vol,file] _ (cw_ _ [vol,file] _ _ (by simp) _ rfl) (by omega) (by intro x hx;simp at hx;rcases hx with rfl | rfl<;>first | exact hs.vol | exact hs.file)).mono ?_;rintro e w1 ⟨rfl,rfl⟩;rw[hN]
 cases N
 ·go_wp2;go_returns;go_light;exact⟨by simp,by go_grown⟩
 ·go_wp2_with fail
  refine (bP_ at' 0 _).mono ?_;rintro e w1 ⟨rfl,rfl⟩;rw[hC0]
  cases C0
  ·go_wp2;go_returns;go_light;exact⟨by simp,by go_grown⟩
  ·go_wp2_with fail
   refine (bP_ ln 1 _).mono ?_;rintro e w1 ⟨rfl,rfl⟩;rw[hC1]
   cases C1
   ·go_wp2;go_returns;go_light;exact⟨by simp,by go_grown⟩
   ·go_wp2
    all_goals go_returns
    all_goals go_light
    all_goals exact⟨by simp[],by go_grown⟩
theorem lN_ (k:Int)(vol file to into:ByteArray)(at' fr ln:Int)(data:ByteArray)(w:World)(hs:BA ⟨k,vol,file,to,into,at',fr,ln,data⟩)(hk:k=5):
  Calls prog 45 #[.agg #[.int .i64 k,.string vol,.string file,.string to,.string into,.int .i64 at',.int .i64 fr,.int .i64 ln,.string data]] w fun e w'=>e=.returned (.bool ([vol,file,to,into].all nameB&&(decide (0<=at')&&decide (at'<=100)&&(decide (0<=fr)&&decide (fr<=100)&&(decide (1<=ln)&&decide (ln<=100)&&(zB data))))))∧Below w.heap.size w w':=by
 generalize hN:[vol,file,to,into].all nameB=N;generalize hC0:(decide (0<=at')&&decide (at'<=100))=C0;generalize hC1:(decide (0<=fr)&&decide (fr<=100))=C1;generalize hC2:(decide (1<=ln)&&decide (ln<=100))=C2;subst hk;go_enter func45,ntmps45
 go_wp2_with fail
 refine (bs_ _ 4 4 [vol,file,to,into] _ (cw_ _ [vol,file,to,into] _ _ (by simp) _ rfl) (by omega) (by intro x hx;simp at hx;rcases hx with rfl | rfl | rfl | rfl<;>first | exact hs.vol | exact hs.file | exact hs.to | exact hs.into)).mono ?_;rintro e w1 ⟨rfl,rfl⟩;rw[hN]
 cases N
 ·go_wp2;go_returns;go_light;exact⟨by simp,by go_grown⟩
 ·go_wp2_with fail
  refine (bP_ at' 0 _).mono ?_;rintro e w1 ⟨rfl,rfl⟩;rw[hC0]
  cases C0
  ·go_wp2;go_returns;go_light;exact⟨by simp,by go_grown⟩
  ·go_wp2_with fail
   refine (bP_ fr 0 _).mono ?_;rintro e w1 ⟨rfl,rfl⟩;rw[hC1]
   cases C1
   ·go_wp2;go_returns;go_light;exact⟨by simp,by go_grown⟩
   ·go_wp2_with fail
    refine (bP_ ln 1 _).mono ?_;rintro e w1 ⟨rfl,rfl⟩;rw[hC2]
    cases C2
    ·go_wp2;go_returns;go_light;exact⟨by simp,by go_grown⟩
    ·go_wp2
     all_goals go_returns
     all_goals go_light
     all_goals exact⟨by simp[zB],by go_grown⟩
theorem lO_ (k:Int)(vol file to into:ByteArray)(at' fr ln:Int)(data:ByteArray)(w:World)(hk:k=9):
  Calls prog 45 #[.agg #[.int .i64 k,.string vol,.string file,.string to,.string into,.int .i64 at',.int .i64 fr,.int .i64 ln,.string data]] w fun e w'=>e=.returned (.bool (BY ⟨k,vol,file,to,into,at',fr,ln,data⟩ ⟨k,⟨#[]⟩,⟨#[]⟩,⟨#[]⟩,⟨#[]⟩,0,0,0,⟨#[]⟩⟩))∧Below w.heap.size w w':=by
 have ha:=DV ⟨k,vol,file,to,into,at',fr,ln,data⟩ ⟨k,⟨#[]⟩,⟨#[]⟩,⟨#[]⟩,⟨#[]⟩,0,0,0,⟨#[]⟩⟩;dsimp only at ha;generalize BY _ _=E at ha ⊢;subst hk;go_enter func45,ntmps45;go_wp2;go_returns;go_light;exact⟨rfl,by go_grown⟩
theorem lP_ (k:Int)(vol file to into:ByteArray)(at' fr ln:Int)(data:ByteArray)(w:World)(hk:¬ (1<=k∧k<=10)):
  Calls prog 45 #[.agg #[.int .i64 k,.string vol,.string file,.string to,.string into,.int .i64 at',.int .i64 fr,.int .i64 ln,.string data]] w fun e w'=>e=.returned (.bool false)∧Below w.heap.size w w':=by
 have h1:k≠1:=by omega
 have h2:k≠2:=by omega
 have h3:k≠3:=by omega
 have h4:k≠4:=by omega
 have h5:k≠5:=by omega
 have h6:k≠6:=by omega
 have h7:k≠7:=by omega
 have h8:k≠8:=by omega
 have h9:k≠9:=by omega
 have ha:k≠10:=by omega
 go_enter func45,ntmps45;go_wp2;go_returns;go_light;exact⟨rfl,by go_grown⟩
theorem iO_ (o:Opr)(w:World)(hs:BA o):
  Calls prog 45 #[.agg #[.int .i64 o.k,.string o.vol,.string o.file,.string o.to,.string o.into,.int .i64 o.at',.int .i64 o.fr,.int .i64 o.ln,.string o.data]] w fun e w'=>e=.returned (.bool (opB o))∧Below w.heap.size w w':=by
 obtain⟨k,vol,file,to,into,at',fr,ln,data⟩:=o;by_cases hk:1<=k∧k<=10
 ·have ha:k=1∨k=2∨k=3∨k=4∨k=5∨k=6∨k=7∨k=8∨k=9∨k=10:=by omega
  rcases ha with h | h | h | h | h | h | h | h | h | h
  ·refine (fr_ k vol file to into at' fr ln data w hs (by omega)).mono fun e w' ⟨h1,h2⟩=>⟨by rw[h1];subst h;simp[opB,BY,zB,ZO],h2⟩
  ·refine (lL_ k vol file to into at' fr ln data w hs h).mono fun e w' ⟨h1,h2⟩=>⟨by rw[h1];subst h;simp[opB,BY,zB,inB,ZO],h2⟩
  ·refine (lM_ k vol file to into at' fr ln data w hs h).mono fun e w' ⟨h1,h2⟩=>⟨by rw[h1];subst h;simp[opB,BY,zB,inB,ZO],h2⟩
  ·refine (lJ_ k vol file to into at' fr ln data w hs h).mono fun e w' ⟨h1,h2⟩=>⟨by rw[h1];subst h;simp[opB,BY,zB,ZO],h2⟩
  ·refine (lN_ k vol file to into at' fr ln data w hs h).mono fun e w' ⟨h1,h2⟩=>⟨by rw[h1];subst h;simp[opB,zB,inB,ZO],h2⟩
  ·refine (lK_ k vol file to into at' fr ln data w hs h).mono fun e w' ⟨h1,h2⟩=>⟨by rw[h1];subst h;simp[opB,BY,zB,ZO],h2⟩
  ·refine (fr_ k vol file to into at' fr ln data w hs (by omega)).mono fun e w' ⟨h1,h2⟩=>⟨by rw[h1];subst h;simp[opB,BY,zB,ZO],h2⟩
  ·refine (fr_ k vol file to into at' fr ln data w hs (by omega)).mono fun e w' ⟨h1,h2⟩=>⟨by rw[h1];subst h;simp[opB,BY,zB,ZO],h2⟩
  ·refine (lO_ k vol file to into at' fr ln data w h).mono fun e w' ⟨h1,h2⟩=>⟨by rw[h1];subst h;simp[opB,BY,zB,ZO],h2⟩
  ·refine (kt_ k vol file to into at' fr ln data w hs h).mono fun e w' ⟨h1,h2⟩=>⟨by rw[h1];subst h;simp[opB,BY,zB,inB,ZO],h2⟩
 ·refine (lP_ k vol file to into at' fr ln data w hk).mono fun e w' ⟨h1,h2⟩=>⟨by rw[h1];refine ac_ (Eq.symm ?_);unfold opB;dsimp only;repeat (rw[if_neg (by omega)]),h2⟩
end
end Go.Proofs.YtdmeabghpchckaaGreatDoor
