/- The laws' marks in a pool: cells of the same kinds, the slices as they were, nothing else turned. -/
import Derived.Test.YtbbhcnjhohidnaaGreatDoorV29
set_option maxHeartbeats 20000000
set_option maxRecDepth 100000
namespace Go.Proofs.YtbbhcnjhohidnaaGreatDoor
section
open Go Go.RowKit Go.BigFrame Tryz
variable{B T:Nat}{w w' w1:World}
theorem ma_ (vol file tt into:ByteArray)(at' fr ln:Int)(data:ByteArray)(w:World)(hs:StrO ⟨3,vol,file,tt,into,at',fr,ln,data⟩):
  Calls prog 59 #[.agg #[.int .i64 3,.string vol,.string file,.string tt,.string into,.int .i64 at',.int .i64 fr,.int .i64 ln,.string data]] w fun e w'=>e=.returned (.bool (opB ⟨3,vol,file,tt,into,at',fr,ln,data⟩))∧Below w.heap.size w w':=by
 have hv:=hs.vol;have hf:=hs.file;have ht:=hs.to;have hi:=hs.into;have hd:=hs.data;dsimp only at hv hf ht hi hd;clear hs
 have ha:Hid (opB ⟨3,vol,file,tt,into,at',fr,ln,data⟩=(nameB vol&&(nameB file&&((zB tt&&zB into)&&(at'==0&&(fr==0&&((decide (0<=ln)&&decide (ln<=100))&&zB data))))))):=by
  show _=_;simp[opB,inB,ZO,Bool.and_comm,Bool.and_left_comm]
 generalize opB ⟨3,vol,file,tt,into,at',fr,ln,data⟩=R at *;go_enter func59,ntmps59
 go_upto_region 1 with fail
 go_cut [3] (fun s wc=>s=.bool (at'==0&&(fr==0&&(ln==0&&zB data)))∧wc=w.alloc (.cells #[.int .i64 3,.string vol,.string file,.string tt,.string into,.int .i64 at',.int .i64 fr,.int .i64 ln,.string data] 39))
 case first=>
  cases h1:(at'==0)
  case false=>
   go_wp2;go_meet;exact⟨by rw[h1];rfl,rfl⟩
  cases h2:(fr==0)
  case false=>
   go_wp2;go_meet;exact⟨by rw[h1,h2];rfl,rfl⟩
  cases h3:(ln==0)
  case false=>
   go_wp2;go_meet;exact⟨by rw[h1,h2,h3];rfl,rfl⟩
  go_wp2;go_meet;exact⟨by rw[h1,h2,h3];simp[zB],rfl⟩
 case rest=>
  obtain⟨rfl,rfl⟩:=hcut
  go_upto_region 2 with fail
  go_cut [4] (fun s wc=>s=.bool (zB tt&&zB into)∧wc=w.alloc (.cells #[.int .i64 3,.string vol,.string file,.string tt,.string into,.int .i64 at',.int .i64 fr,.int .i64 ln,.string data] 39))
  case first=>
   go_wp2
   all_goals go_meet
   all_goals (refine⟨?_,rfl⟩;simp_all [zB])
  case rest=>
   obtain⟨rfl,rfl⟩:=hcut;generalize hB:(at'==0&&(fr==0&&(ln==0&&zB data)))=B;generalize hT:(zB tt&&zB into)=T at *
   go_wp2_with fail
   refine (ai_ at' 0 100 _).mono ?_;rintro e w1 ⟨rfl,rfl⟩;generalize hC1:(decide (0<=at')&&decide (at'<=100))=C1
   go_wp2_with fail
   refine (ai_ ln 1 100 _).mono ?_;rintro e w1 ⟨rfl,rfl⟩;generalize hC2:(decide (1<=ln)&&decide (ln<=100))=C2
   go_wp2_with fail
   refine (aq_ vol _ hv).mono ?_;rintro e w1 ⟨rfl,rfl⟩
   cases hc:nameB vol
   case false=>
    go_wp2
    all_goals go_returns
    all_goals go_light
    all_goals refine⟨ac_ ?_,by go_grown⟩
    all_goals rw[ha.out]
    all_goals simp_all [zB]
   go_wp2_with fail
   refine (aq_ file _ hf).mono ?_;rintro e w1 ⟨rfl,rfl⟩
   cases hb:nameB file
   case false=>
    go_wp2
    all_goals go_returns
    all_goals go_light
    all_goals refine⟨ac_ ?_,by go_grown⟩
    all_goals rw[ha.out]
    all_goals simp_all [zB]
   cases T
   case false=>
    go_wp2
    all_goals go_returns
    all_goals go_light
    all_goals refine⟨ac_ ?_,by go_grown⟩
    all_goals rw[ha.out]
    all_goals simp_all [zB]
   cases zat:(at'==0)
   case false=>
    go_wp2
    all_goals go_returns
    all_goals go_light
    all_goals refine⟨ac_ ?_,by go_grown⟩
    all_goals rw[ha.out]
    all_goals simp_all [zB]
   cases zfr:(fr==0)
   case false=>
    go_wp2
    all_goals go_returns
    all_goals go_light
    all_goals refine⟨ac_ ?_,by go_grown⟩
    all_goals rw[ha.out]
    all_goals simp_all [zB]
   go_wp2_with fail
   refine (ai_ ln 0 100 _).mono ?_;rintro e w1 ⟨rfl,rfl⟩;generalize hC3:(decide (0<=ln)&&decide (ln<=100))=C3 at *;go_wp2
   all_goals go_returns
   all_goals go_light
   all_goals refine⟨ac_ ?_,by go_grown⟩
   all_goals rw[ha.out]
   all_goals simp_all [zB]
end
section
open Go Go.RowKit Go.BigFrame Tryz
variable{x:Ct}{l:List Ct}{k m n size:Nat}{o:Oper}{p:Po}{a b w w':World}
theorem mb_ (vol file tt into:ByteArray)(at' fr ln:Int)(data:ByteArray)(w:World)(hs:StrO ⟨4,vol,file,tt,into,at',fr,ln,data⟩):
  Calls prog 59 #[.agg #[.int .i64 4,.string vol,.string file,.string tt,.string into,.int .i64 at',.int .i64 fr,.int .i64 ln,.string data]] w fun e w'=>e=.returned (.bool (opB ⟨4,vol,file,tt,into,at',fr,ln,data⟩))∧Below w.heap.size w w':=by
 have hv:=hs.vol;have hf:=hs.file;have ht:=hs.to;have hi:=hs.into;have hd:=hs.data;dsimp only at hv hf ht hi hd;clear hs
 have ha:Hid (opB ⟨4,vol,file,tt,into,at',fr,ln,data⟩=(nameB vol&&(nameB file&&((zB tt&&zB into)&&(at'==0&&(fr==0&&(ln==0&&zB data))))))):=by
  show _=_;simp[opB,ZO]
 generalize opB ⟨4,vol,file,tt,into,at',fr,ln,data⟩=R at *;go_enter func59,ntmps59
 go_upto_region 1 with fail
 go_cut [3] (fun s wc=>s=.bool (at'==0&&(fr==0&&(ln==0&&zB data)))∧wc=w.alloc (.cells #[.int .i64 4,.string vol,.string file,.string tt,.string into,.int .i64 at',.int .i64 fr,.int .i64 ln,.string data] 39))
 case first=>
  cases h1:(at'==0)
  case false=>
   go_wp2;go_meet;exact⟨by rw[h1];rfl,rfl⟩
  cases h2:(fr==0)
  case false=>
   go_wp2;go_meet;exact⟨by rw[h1,h2];rfl,rfl⟩
  cases h3:(ln==0)
  case false=>
   go_wp2;go_meet;exact⟨by rw[h1,h2,h3];rfl,rfl⟩
  go_wp2;go_meet;exact⟨by rw[h1,h2,h3];simp[zB],rfl⟩
 case rest=>
  obtain⟨rfl,rfl⟩:=hcut
  go_upto_region 2 with fail
  go_cut [4] (fun s wc=>s=.bool (zB tt&&zB into)∧wc=w.alloc (.cells #[.int .i64 4,.string vol,.string file,.string tt,.string into,.int .i64 at',.int .i64 fr,.int .i64 ln,.string data] 39))
  case first=>
   go_wp2
   all_goals go_meet
   all_goals (refine⟨?_,rfl⟩;simp_all [zB])
  case rest=>
   obtain⟨rfl,rfl⟩:=hcut;generalize hB:(at'==0&&(fr==0&&(ln==0&&zB data)))=B at *;generalize hT:(zB tt&&zB into)=T at *
   go_wp2_with fail
   refine (ai_ at' 0 100 _).mono ?_;rintro e w1 ⟨rfl,rfl⟩;generalize hC1:(decide (0<=at')&&decide (at'<=100))=C1
   go_wp2_with fail
   refine (ai_ ln 1 100 _).mono ?_;rintro e w1 ⟨rfl,rfl⟩;generalize hC2:(decide (1<=ln)&&decide (ln<=100))=C2
   go_wp2_with fail
   refine (aq_ vol _ hv).mono ?_;rintro e w1 ⟨rfl,rfl⟩
   cases hc:nameB vol
   case false=>
    go_wp2
    all_goals go_returns
    all_goals go_light
    all_goals refine⟨ac_ ?_,by go_grown⟩
    all_goals rw[ha.out]
    all_goals simp_all [zB]
   go_wp2_with fail
   refine (aq_ file _ hf).mono ?_;rintro e w1 ⟨rfl,rfl⟩
   cases hb:nameB file
   case false=>
    go_wp2
    all_goals go_returns
    all_goals go_light
    all_goals refine⟨ac_ ?_,by go_grown⟩
    all_goals rw[ha.out]
    all_goals simp_all [zB]
   go_wp2
   all_goals go_returns
   all_goals go_light
   all_goals refine⟨ac_ ?_,by go_grown⟩
   all_goals rw[ha.out]
   all_goals simp_all [zB]
theorem mc_ (vol file tt into:ByteArray)(at' fr ln:Int)(data:ByteArray)(w:World)(hs:StrO ⟨5,vol,file,tt,into,at',fr,ln,data⟩):
  Calls prog 59 #[.agg #[.int .i64 5,.string vol,.string file,.string tt,.string into,.int .i64 at',.int .i64 fr,.int .i64 ln,.string data]] w fun e w'=>e=.returned (.bool (opB ⟨5,vol,file,tt,into,at',fr,ln,data⟩))∧Below w.heap.size w w':=by
 have hv:=hs.vol;have hf:=hs.file;have ht:=hs.to;have hi:=hs.into;have hd:=hs.data;dsimp only at hv hf ht hi hd;clear hs
 have ha:Hid (opB ⟨5,vol,file,tt,into,at',fr,ln,data⟩=(nameB vol&&(nameB file&&(nameB tt&&(nameB into&&((decide (0<=at')&&decide (at'<=100))&&((decide (0<=fr)&&decide (fr<=100))&&((decide (1<=ln)&&decide (ln<=100))&&zB data)))))))):=by
  show _=_;simp[opB,inB,ZO]
 generalize opB ⟨5,vol,file,tt,into,at',fr,ln,data⟩=R at *;go_enter func59,ntmps59
 go_upto_region 1 with fail
 go_cut [3] (fun s wc=>s=.bool (at'==0&&(fr==0&&(ln==0&&zB data)))∧wc=w.alloc (.cells #[.int .i64 5,.string vol,.string file,.string tt,.string into,.int .i64 at',.int .i64 fr,.int .i64 ln,.string data] 39))
 case first=>
  cases h1:(at'==0)
  case false=>
   go_wp2;go_meet;exact⟨by rw[h1];rfl,rfl⟩
  cases h2:(fr==0)
  case false=>
   go_wp2;go_meet;exact⟨by rw[h1,h2];rfl,rfl⟩
  cases h3:(ln==0)
  case false=>
   go_wp2;go_meet;exact⟨by rw[h1,h2,h3];rfl,rfl⟩
  go_wp2;go_meet;exact⟨by rw[h1,h2,h3];simp[zB],rfl⟩
 case rest=>
  obtain⟨rfl,rfl⟩:=hcut
  go_upto_region 2 with fail
  go_cut [4] (fun s wc=>s=.bool (zB tt&&zB into)∧wc=w.alloc (.cells #[.int .i64 5,.string vol,.string file,.string tt,.string into,.int .i64 at',.int .i64 fr,.int .i64 ln,.string data] 39))
  case first=>
   go_wp2
   all_goals go_meet
   all_goals (refine⟨?_,rfl⟩;simp_all [zB])
  case rest=>
   obtain⟨rfl,rfl⟩:=hcut;generalize hB:(at'==0&&(fr==0&&(ln==0&&zB data)))=B;generalize hT:(zB tt&&zB into)=T
   go_wp2_with fail
   refine (ai_ at' 0 100 _).mono ?_;rintro e w1 ⟨rfl,rfl⟩;generalize hC1:(decide (0<=at')&&decide (at'<=100))=C1 at *
   go_wp2_with fail
   refine (ai_ ln 1 100 _).mono ?_;rintro e w1 ⟨rfl,rfl⟩;generalize hC2:(decide (1<=ln)&&decide (ln<=100))=C2 at *
   go_wp2_with fail
   refine (aq_ vol _ hv).mono ?_;rintro e w1 ⟨rfl,rfl⟩
   cases he:nameB vol
   case false=>
    go_wp2
    all_goals go_returns
    all_goals go_light
    all_goals refine⟨ac_ ?_,by go_grown⟩
    all_goals rw[ha.out]
    all_goals simp_all [zB]
   go_wp2_with fail
   refine (aq_ file _ hf).mono ?_;rintro e w1 ⟨rfl,rfl⟩
   cases hc:nameB file
   case false=>
    go_wp2
    all_goals go_returns
    all_goals go_light
    all_goals refine⟨ac_ ?_,by go_grown⟩
    all_goals rw[ha.out]
    all_goals simp_all [zB]
   go_wp2_with fail
   refine (aq_ tt _ ht).mono ?_;rintro e w1 ⟨rfl,rfl⟩
   cases hg:nameB tt
   case false=>
    go_wp2
    all_goals go_returns
    all_goals go_light
    all_goals refine⟨ac_ ?_,by go_grown⟩
    all_goals rw[ha.out]
    all_goals simp_all [zB]
   go_wp2_with fail
   refine (aq_ into _ hi).mono ?_;rintro e w1 ⟨rfl,rfl⟩
   cases hb:nameB into
   case false=>
    go_wp2
    all_goals go_returns
    all_goals go_light
    all_goals refine⟨ac_ ?_,by go_grown⟩
    all_goals rw[ha.out]
    all_goals simp_all [zB]
   cases C1
   case false=>
    go_wp2
    all_goals go_returns
    all_goals go_light
    all_goals refine⟨ac_ ?_,by go_grown⟩
    all_goals rw[ha.out]
    all_goals simp_all [zB]
   go_wp2_with fail
   refine (ai_ fr 0 100 _).mono ?_;rintro e w1 ⟨rfl,rfl⟩;generalize hC3:(decide (0<=fr)&&decide (fr<=100))=C3 at *;go_wp2
   all_goals go_returns
   all_goals go_light
   all_goals refine⟨ac_ ?_,by go_grown⟩
   all_goals rw[ha.out]
   all_goals simp_all [zB]
theorem md_ (vol file tt into:ByteArray)(at' fr ln:Int)(data:ByteArray)(w:World)(hs:StrO ⟨6,vol,file,tt,into,at',fr,ln,data⟩):
  Calls prog 59 #[.agg #[.int .i64 6,.string vol,.string file,.string tt,.string into,.int .i64 at',.int .i64 fr,.int .i64 ln,.string data]] w fun e w'=>e=.returned (.bool (opB ⟨6,vol,file,tt,into,at',fr,ln,data⟩))∧Below w.heap.size w w':=by
 have hv:=hs.vol;have hf:=hs.file;have ht:=hs.to;have hi:=hs.into;have hd:=hs.data;dsimp only at hv hf ht hi hd;clear hs
 have ha:Hid (opB ⟨6,vol,file,tt,into,at',fr,ln,data⟩=(nameB vol&&(zB file&&(nameB tt&&(zB into&&(at'==0&&(fr==0&&(ln==0&&zB data)))))))):=by
  show _=_;simp[opB,ZO,Bool.and_left_comm]
 generalize opB ⟨6,vol,file,tt,into,at',fr,ln,data⟩=R at *;go_enter func59,ntmps59
 go_upto_region 1 with fail
 go_cut [3] (fun s wc=>s=.bool (at'==0&&(fr==0&&(ln==0&&zB data)))∧wc=w.alloc (.cells #[.int .i64 6,.string vol,.string file,.string tt,.string into,.int .i64 at',.int .i64 fr,.int .i64 ln,.string data] 39))
 case first=>
  cases h1:(at'==0)
  case false=>
   go_wp2;go_meet;exact⟨by rw[h1];rfl,rfl⟩
  cases h2:(fr==0)
  case false=>
   go_wp2;go_meet;exact⟨by rw[h1,h2];rfl,rfl⟩
  cases h3:(ln==0)
  case false=>
   go_wp2;go_meet;exact⟨by rw[h1,h2,h3];rfl,rfl⟩
  go_wp2;go_meet;exact⟨by rw[h1,h2,h3];simp[zB],rfl⟩
 case rest=>
  obtain⟨rfl,rfl⟩:=hcut
  go_upto_region 2 with fail
  go_cut [4] (fun s wc=>s=.bool (zB tt&&zB into)∧wc=w.alloc (.cells #[.int .i64 6,.string vol,.string file,.string tt,.string into,.int .i64 at',.int .i64 fr,.int .i64 ln,.string data] 39))
  case first=>
   go_wp2
   all_goals go_meet
   all_goals (refine⟨?_,rfl⟩;simp_all [zB])
  case rest=>
   obtain⟨rfl,rfl⟩:=hcut;generalize hB:(at'==0&&(fr==0&&(ln==0&&zB data)))=B at *;generalize hT:(zB tt&&zB into)=T
   go_wp2_with fail
   refine (ai_ at' 0 100 _).mono ?_;rintro e w1 ⟨rfl,rfl⟩;generalize hC1:(decide (0<=at')&&decide (at'<=100))=C1
   go_wp2_with fail
   refine (ai_ ln 1 100 _).mono ?_;rintro e w1 ⟨rfl,rfl⟩;generalize hC2:(decide (1<=ln)&&decide (ln<=100))=C2
   go_wp2_with fail
   refine (aq_ vol _ hv).mono ?_;rintro e w1 ⟨rfl,rfl⟩
   cases hb:nameB vol
   case false=>
    go_wp2
    all_goals go_returns
    all_goals go_light
    all_goals refine⟨ac_ ?_,by go_grown⟩
    all_goals rw[ha.out]
    all_goals simp_all [zB]
   go_wp2_with fail
   refine (aq_ tt _ ht).mono ?_;rintro e w1 ⟨rfl,rfl⟩
   cases hc:nameB tt
   case false=>
    go_wp2
    all_goals go_returns
    all_goals go_light
    all_goals refine⟨ac_ ?_,by go_grown⟩
    all_goals rw[ha.out]
    all_goals simp_all [zB]
   go_wp2
   all_goals go_returns
   all_goals go_light
   all_goals refine⟨ac_ ?_,by go_grown⟩
   all_goals rw[ha.out]
   all_goals simp_all [zB]
theorem me_ (vol file tt into:ByteArray)(at' fr ln:Int)(data:ByteArray)(w:World)(hs:StrO ⟨7,vol,file,tt,into,at',fr,ln,data⟩):
  Calls prog 59 #[.agg #[.int .i64 7,.string vol,.string file,.string tt,.string into,.int .i64 at',.int .i64 fr,.int .i64 ln,.string data]] w fun e w'=>e=.returned (.bool (opB ⟨7,vol,file,tt,into,at',fr,ln,data⟩))∧Below w.heap.size w w':=by
 have hv:=hs.vol;have hf:=hs.file;have ht:=hs.to;have hi:=hs.into;have hd:=hs.data;dsimp only at hv hf ht hi hd;clear hs
 have ha:Hid (opB ⟨7,vol,file,tt,into,at',fr,ln,data⟩=(nameB vol&&(zB file&&((zB tt&&zB into)&&(at'==0&&(fr==0&&(ln==0&&zB data))))))):=by
  show _=_;simp[opB,ZO]
 generalize opB ⟨7,vol,file,tt,into,at',fr,ln,data⟩=R at *;go_enter func59,ntmps59
 go_upto_region 1 with fail
 go_cut [3] (fun s wc=>s=.bool (at'==0&&(fr==0&&(ln==0&&zB data)))∧wc=w.alloc (.cells #[.int .i64 7,.string vol,.string file,.string tt,.string into,.int .i64 at',.int .i64 fr,.int .i64 ln,.string data] 39))
 case first=>
  cases h1:(at'==0)
  case false=>
   go_wp2;go_meet;exact⟨by rw[h1];rfl,rfl⟩
  cases h2:(fr==0)
  case false=>
   go_wp2;go_meet;exact⟨by rw[h1,h2];rfl,rfl⟩
  cases h3:(ln==0)
  case false=>
   go_wp2;go_meet;exact⟨by rw[h1,h2,h3];rfl,rfl⟩
  go_wp2;go_meet;exact⟨by rw[h1,h2,h3];simp[zB],rfl⟩
 case rest=>
  obtain⟨rfl,rfl⟩:=hcut
  go_upto_region 2 with fail
  go_cut [4] (fun s wc=>s=.bool (zB tt&&zB into)∧wc=w.alloc (.cells #[.int .i64 7,.string vol,.string file,.string tt,.string into,.int .i64 at',.int .i64 fr,.int .i64 ln,.string data] 39))
  case first=>
   go_wp2
   all_goals go_meet
   all_goals (refine⟨?_,rfl⟩;simp_all [zB])
  case rest=>
   obtain⟨rfl,rfl⟩:=hcut;generalize hB:(at'==0&&(fr==0&&(ln==0&&zB data)))=B at *;generalize hT:(zB tt&&zB into)=T at *
   go_wp2_with fail
   refine (ai_ at' 0 100 _).mono ?_;rintro e w1 ⟨rfl,rfl⟩;generalize hC1:(decide (0<=at')&&decide (at'<=100))=C1
   go_wp2_with fail
   refine (ai_ ln 1 100 _).mono ?_;rintro e w1 ⟨rfl,rfl⟩;generalize hC2:(decide (1<=ln)&&decide (ln<=100))=C2
   go_wp2_with fail
   refine (aq_ vol _ hv).mono ?_;rintro e w1 ⟨rfl,rfl⟩
   cases hb:nameB vol
   case false=>
    go_wp2
    all_goals go_returns
    all_goals go_light
    all_goals refine⟨ac_ ?_,by go_grown⟩
    all_goals rw[ha.out]
    all_goals simp_all [zB]
   go_wp2
   all_goals go_returns
   all_goals go_light
   all_goals refine⟨ac_ ?_,by go_grown⟩
   all_goals rw[ha.out]
   all_goals simp_all [zB]
theorem mf_ (vol file tt into:ByteArray)(at' fr ln:Int)(data:ByteArray)(w:World)(hs:StrO ⟨8,vol,file,tt,into,at',fr,ln,data⟩):
  Calls prog 59 #[.agg #[.int .i64 8,.string vol,.string file,.string tt,.string into,.int .i64 at',.int .i64 fr,.int .i64 ln,.string data]] w fun e w'=>e=.returned (.bool (opB ⟨8,vol,file,tt,into,at',fr,ln,data⟩))∧Below w.heap.size w w':=by
 have hv:=hs.vol;have hf:=hs.file;have ht:=hs.to;have hi:=hs.into;have hd:=hs.data;dsimp only at hv hf ht hi hd;clear hs
 have ha:Hid (opB ⟨8,vol,file,tt,into,at',fr,ln,data⟩=(nameB vol&&(zB file&&((zB tt&&zB into)&&(at'==0&&(fr==0&&(ln==0&&zB data))))))):=by
  show _=_;simp[opB,ZO]
 generalize opB ⟨8,vol,file,tt,into,at',fr,ln,data⟩=R at *;go_enter func59,ntmps59
 go_upto_region 1 with fail
 go_cut [3] (fun s wc=>s=.bool (at'==0&&(fr==0&&(ln==0&&zB data)))∧wc=w.alloc (.cells #[.int .i64 8,.string vol,.string file,.string tt,.string into,.int .i64 at',.int .i64 fr,.int .i64 ln,.string data] 39))
 case first=>
  cases h1:(at'==0)
  case false=>
   go_wp2;go_meet;exact⟨by rw[h1];rfl,rfl⟩
  cases h2:(fr==0)
  case false=>
   go_wp2;go_meet;exact⟨by rw[h1,h2];rfl,rfl⟩
  cases h3:(ln==0)
  case false=>
   go_wp2;go_meet;exact⟨by rw[h1,h2,h3];rfl,rfl⟩
  go_wp2;go_meet;exact⟨by rw[h1,h2,h3];simp[zB],rfl⟩
 case rest=>
  obtain⟨rfl,rfl⟩:=hcut
  go_upto_region 2 with fail
  go_cut [4] (fun s wc=>s=.bool (zB tt&&zB into)∧wc=w.alloc (.cells #[.int .i64 8,.string vol,.string file,.string tt,.string into,.int .i64 at',.int .i64 fr,.int .i64 ln,.string data] 39))
  case first=>
   go_wp2
   all_goals go_meet
   all_goals (refine⟨?_,rfl⟩;simp_all [zB])
  case rest=>
   obtain⟨rfl,rfl⟩:=hcut;generalize hB:(at'==0&&(fr==0&&(ln==0&&zB data)))=B at *;generalize hT:(zB tt&&zB into)=T at *
   go_wp2_with fail
   refine (ai_ at' 0 100 _).mono ?_;rintro e w1 ⟨rfl,rfl⟩;generalize hC1:(decide (0<=at')&&decide (at'<=100))=C1
   go_wp2_with fail
   refine (ai_ ln 1 100 _).mono ?_;rintro e w1 ⟨rfl,rfl⟩;generalize hC2:(decide (1<=ln)&&decide (ln<=100))=C2
   go_wp2_with fail
   refine (aq_ vol _ hv).mono ?_;rintro e w1 ⟨rfl,rfl⟩
   cases hb:nameB vol
   case false=>
    go_wp2
    all_goals go_returns
    all_goals go_light
    all_goals refine⟨ac_ ?_,by go_grown⟩
    all_goals rw[ha.out]
    all_goals simp_all [zB]
   go_wp2
   all_goals go_returns
   all_goals go_light
   all_goals refine⟨ac_ ?_,by go_grown⟩
   all_goals rw[ha.out]
   all_goals simp_all [zB]
theorem mg_ (vol file tt into:ByteArray)(at' fr ln:Int)(data:ByteArray)(w:World)(hs:StrO ⟨9,vol,file,tt,into,at',fr,ln,data⟩):
  Calls prog 59 #[.agg #[.int .i64 9,.string vol,.string file,.string tt,.string into,.int .i64 at',.int .i64 fr,.int .i64 ln,.string data]] w fun e w'=>e=.returned (.bool (opB ⟨9,vol,file,tt,into,at',fr,ln,data⟩))∧Below w.heap.size w w':=by
 have hv:=hs.vol;have hf:=hs.file;have ht:=hs.to;have hi:=hs.into;have hd:=hs.data;dsimp only at hv hf ht hi hd;clear hs
 have ha:Hid (opB ⟨9,vol,file,tt,into,at',fr,ln,data⟩=(zB vol&&(zB file&&((zB tt&&zB into)&&(at'==0&&(fr==0&&(ln==0&&zB data))))))):=by
  show _=_;simp[opB,ZO]
 generalize opB ⟨9,vol,file,tt,into,at',fr,ln,data⟩=R at *;go_enter func59,ntmps59
 go_upto_region 1 with fail
 go_cut [3] (fun s wc=>s=.bool (at'==0&&(fr==0&&(ln==0&&zB data)))∧wc=w.alloc (.cells #[.int .i64 9,.string vol,.string file,.string tt,.string into,.int .i64 at',.int .i64 fr,.int .i64 ln,.string data] 39))
 case first=>
  cases h1:(at'==0)
  case false=>
   go_wp2;go_meet;exact⟨by rw[h1];rfl,rfl⟩
  cases h2:(fr==0)
  case false=>
   go_wp2;go_meet;exact⟨by rw[h1,h2];rfl,rfl⟩
  cases h3:(ln==0)
  case false=>
   go_wp2;go_meet;exact⟨by rw[h1,h2,h3];rfl,rfl⟩
  go_wp2;go_meet;exact⟨by rw[h1,h2,h3];simp[zB],rfl⟩
 case rest=>
  obtain⟨rfl,rfl⟩:=hcut
  go_upto_region 2 with fail
  go_cut [4] (fun s wc=>s=.bool (zB tt&&zB into)∧wc=w.alloc (.cells #[.int .i64 9,.string vol,.string file,.string tt,.string into,.int .i64 at',.int .i64 fr,.int .i64 ln,.string data] 39))
  case first=>
   go_wp2
   all_goals go_meet
   all_goals (refine⟨?_,rfl⟩;simp_all [zB])
  case rest=>
   obtain⟨rfl,rfl⟩:=hcut;generalize hB:(at'==0&&(fr==0&&(ln==0&&zB data)))=B at *;generalize hT:(zB tt&&zB into)=T at *
   go_wp2_with fail
   refine (ai_ at' 0 100 _).mono ?_;rintro e w1 ⟨rfl,rfl⟩;generalize hC1:(decide (0<=at')&&decide (at'<=100))=C1
   go_wp2_with fail
   refine (ai_ ln 1 100 _).mono ?_;rintro e w1 ⟨rfl,rfl⟩;generalize hC2:(decide (1<=ln)&&decide (ln<=100))=C2;go_wp2
   all_goals go_returns
   all_goals go_light
   all_goals refine⟨ac_ ?_,by go_grown⟩
   all_goals rw[ha.out]
   all_goals simp_all [zB]
theorem k0_ (vol file tt into:ByteArray)(at' fr ln:Int)(data:ByteArray)(w:World)(hs:StrO ⟨10,vol,file,tt,into,at',fr,ln,data⟩):
  Calls prog 59 #[.agg #[.int .i64 10,.string vol,.string file,.string tt,.string into,.int .i64 at',.int .i64 fr,.int .i64 ln,.string data]] w fun e w'=>e=.returned (.bool (opB ⟨10,vol,file,tt,into,at',fr,ln,data⟩))∧Below w.heap.size w w':=by
 have hv:=hs.vol;have hf:=hs.file;have ht:=hs.to;have hi:=hs.into;have hd:=hs.data;dsimp only at hv hf ht hi hd;clear hs
 have ha:Hid (opB ⟨10,vol,file,tt,into,at',fr,ln,data⟩=(nameB vol&&(nameB file&&((zB tt&&zB into)&&((decide (0<=at')&&decide (at'<=100))&&(fr==0&&((decide (1<=ln)&&decide (ln<=100))&&zB data))))))):=by
  show _=_;simp[opB,inB,ZO,Bool.and_comm,Bool.and_left_comm]
 generalize opB ⟨10,vol,file,tt,into,at',fr,ln,data⟩=R at *;go_enter func59,ntmps59
 go_upto_region 1 with fail
 go_cut [3] (fun s wc=>s=.bool (at'==0&&(fr==0&&(ln==0&&zB data)))∧wc=w.alloc (.cells #[.int .i64 10,.string vol,.string file,.string tt,.string into,.int .i64 at',.int .i64 fr,.int .i64 ln,.string data] 39))
 case first=>
  cases h1:(at'==0)
  case false=>
   go_wp2;go_meet;exact⟨by rw[h1];rfl,rfl⟩
  cases h2:(fr==0)
  case false=>
   go_wp2;go_meet;exact⟨by rw[h1,h2];rfl,rfl⟩
  cases h3:(ln==0)
  case false=>
   go_wp2;go_meet;exact⟨by rw[h1,h2,h3];rfl,rfl⟩
  go_wp2;go_meet;exact⟨by rw[h1,h2,h3];simp[zB],rfl⟩
 case rest=>
  obtain⟨rfl,rfl⟩:=hcut
  go_upto_region 2 with fail
  go_cut [4] (fun s wc=>s=.bool (zB tt&&zB into)∧wc=w.alloc (.cells #[.int .i64 10,.string vol,.string file,.string tt,.string into,.int .i64 at',.int .i64 fr,.int .i64 ln,.string data] 39))
  case first=>
   go_wp2
   all_goals go_meet
   all_goals (refine⟨?_,rfl⟩;simp_all [zB])
  case rest=>
   obtain⟨rfl,rfl⟩:=hcut;generalize hB:(at'==0&&(fr==0&&(ln==0&&zB data)))=B;generalize hT:(zB tt&&zB into)=T at *
   go_wp2_with fail
   refine (ai_ at' 0 100 _).mono ?_;rintro e w1 ⟨rfl,rfl⟩;generalize hC1:(decide (0<=at')&&decide (at'<=100))=C1 at *
   go_wp2_with fail
   refine (ai_ ln 1 100 _).mono ?_;rintro e w1 ⟨rfl,rfl⟩;generalize hC2:(decide (1<=ln)&&decide (ln<=100))=C2 at *
   go_wp2_with fail
   refine (aq_ vol _ hv).mono ?_;rintro e w1 ⟨rfl,rfl⟩
   cases hc:nameB vol
   case false=>
    go_wp2
    all_goals go_returns
    all_goals go_light
    all_goals refine⟨ac_ ?_,by go_grown⟩
    all_goals rw[ha.out]
    all_goals simp_all [zB]
   go_wp2_with fail
   refine (aq_ file _ hf).mono ?_;rintro e w1 ⟨rfl,rfl⟩
   cases hb:nameB file
   case false=>
    go_wp2
    all_goals go_returns
    all_goals go_light
    all_goals refine⟨ac_ ?_,by go_grown⟩
    all_goals rw[ha.out]
    all_goals simp_all [zB]
   go_wp2
   all_goals go_returns
   all_goals go_light
   all_goals refine⟨ac_ ?_,by go_grown⟩
   all_goals rw[ha.out]
   all_goals simp_all [zB]
theorem cs_ (o:Opr)(w:World)(hs:StrO o):
  Calls prog 59 #[.agg #[.int .i64 o.k,.string o.vol,.string o.file,.string o.to,.string o.into,.int .i64 o.at',.int .i64 o.fr,.int .i64 o.ln,.string o.data]] w fun e w'=>e=.returned (.bool (opB o))∧Below w.heap.size w w':=by
 obtain⟨k,vol,file,tt,into,at',fr,ln,data⟩:=o;by_cases hk:1<=k∧k<=10
 ·have ha:k=1∨k=2∨k=3∨k=4∨k=5∨k=6∨k=7∨k=8∨k=9∨k=10:=by omega
  rcases ha with rfl | rfl | rfl | rfl | rfl | rfl | rfl | rfl | rfl | rfl
  ·exact l8_ vol file tt into at' fr ln data w hs
  ·exact l9_ vol file tt into at' fr ln data w hs
  ·exact ma_ vol file tt into at' fr ln data w hs
  ·exact mb_ vol file tt into at' fr ln data w hs
  ·exact mc_ vol file tt into at' fr ln data w hs
  ·exact md_ vol file tt into at' fr ln data w hs
  ·exact me_ vol file tt into at' fr ln data w hs
  ·exact mf_ vol file tt into at' fr ln data w hs
  ·exact mg_ vol file tt into at' fr ln data w hs
  ·exact k0_ vol file tt into at' fr ln data w hs
 ·exact l7_ k vol file tt into at' fr ln data w hk
theorem k1_ (c:Ct):∀ (l:List Ct),(addC l c).length<=l.length+1
 |[]=>by simp[addC]
 |y::r=>by
  have:=k1_ c r
  unfold addC;split
  ·simp only[Zw];omega
  ·split
   ·split
    ·simp only[Zw];omega
    ·simp only[Zw];omega
   ·simp only[Zw];omega
theorem iZ_:∀ (m l:List Ct),(sumC l m).length<=l.length+m.length
 |[],l=>Zd _
 |c::r,l=>by
  have h1:=iZ_ r (addC l c);have h2:=k1_ c l;show (sumC (addC l c) r).length<=_;simp only[Zw];omega
theorem nI_ (hp:poolB p=true)(hd:DimP p):DimP (flushS p):=by
 obtain⟨_,_,_,hr,hl⟩:=aQ_ hp;obtain⟨z1,z2,z3,z4,z5,z6,z7,z8⟩:=hd;have hs:=iZ_ p.lt p.rf;have q1:=(a0_ hr).1;have q2:=(br_ hl).1;refine⟨Zl (Yc _ _) z1,fun e he=>z2 e (List.mem_filter.1 he).1,z3,z4,?_,g7_ z6 z8,Zg _,fun c hc=>by cases hc⟩;show (sumC p.rf p.lt).length<=_;omega
theorem gz_ (B0:Nat)(hB0:0<B0)(v:Value)(p:Po)(o:Opr)(w:World)(h:PoolAt B0 w v p)(hd:DimP p)(hp:poolB p=true)(hso:StrO o)(hf:opB o=false):
  Calls prog 27 #[v,.agg #[.int .i64 o.k,.string o.vol,.string o.file,.string o.to,.string o.into,.int .i64 o.at',.int .i64 o.fr,.int .i64 o.ln,.string o.data]] w fun e w'=>(∃ v' c,e=.returned (.tuple #[v',.int .i64 c])∧c=(opS p o).1∧PoolT w.heap.size w' v' (opS p o).2∧DimP (opS p o).2)∧Below w.heap.size w w':=by
 have _:=hB0;have _:=hp;have hj:=h;obtain⟨ea,en,ec,va,vn,vc,ra,rn,rc,la,ln,lc,rfl,⟨h1,k1⟩,⟨h2,k2⟩,⟨h3,k3⟩,h4,k4⟩:=h;have hS:Hid (opS p o=(2,p)):=by show _=_;simp[opS,hf]
 generalize opS p o=R at *;go_enter func27,ntmps27
 go_wp2_with fail
 refine (cs_ o _ hso).mono ?_;rintro e w1 ⟨rfl,hg⟩;obtain⟨C,O,D,ha,hm⟩:=bx3 hg;clear hg;rw[hf];obtain⟨x0,x1,x2,x3,x4,x5⟩:=D.six';obtain⟨f0,f1,f2,f3,f4,f5⟩:=fz6 D;obtain⟨c0,c1,c2,c3,c4,c5⟩:=C.six'
 go_wp2_with fail
 refine (aW_ B0 hB0 _ p _ (hj.below ha) hd).mono ?_;rintro e wk ⟨⟨v',rfl,PT,_⟩,hc⟩;have hk:=PT;obtain⟨ea',en',ec',va',vn',vc',ra',rn',rc',la',ln',lc',rows',rfl,_⟩:=PT;have Dk:=D.below hc;have hb:=chain ha hc;have hn:=hc.size;have hl:=ha.size;clear x0 x1 x2 x3 x4 x5 f0 f1 f2 f3 f4 f5;obtain⟨x0,x1,x2,x3,x4,x5⟩:=Dk.six';obtain⟨f0,f1,f2,f3,f4,f5⟩:=fz6 Dk;go_wp2;obtain⟨W8,he,W0,hh⟩:=set6 Dk (.int .i64 p.size) (.int .i64 p.next) (.slice ea' en' ec') (.slice va' vn' vc') (.slice ra' rn' rc') (.slice la' ln' lc');have PF:=(hk.tyP hh (aa_ Dk)).mono (show w.heap.size<=w1.heap.size by omega);have B8:=hb.grown hh hb.size (fun j e=>by cases e;omega);rw[<-he];clear he;refine bodyPost_ret (ad_ rfl _ W8 (w.heap.size+2) _ _ _ _ _ rfl W0 underlying35 rfl (by kernel_rfl) rfl) rfl ?_;exact⟨⟨_,2,rfl,by rw[hS.out],by rw[hS.out];exact PF,by rw[hS.out];exact hd⟩,B8⟩
theorem f9_ (B0:Nat)(hB0:0<B0)(v:Value)(p:Po)(o:Opr)(w:World)(h:PoolAt B0 w v p)(hd:DimP p)(hp:poolB p=true)(hso:StrO o)(hf:opB o=true)(hk:o.k=9):
  Calls prog 27 #[v,.agg #[.int .i64 o.k,.string o.vol,.string o.file,.string o.to,.string o.into,.int .i64 o.at',.int .i64 o.fr,.int .i64 o.ln,.string o.data]] w fun e w'=>(∃ v' c,e=.returned (.tuple #[v',.int .i64 c])∧c=(opS p o).1∧PoolT w.heap.size w' v' (opS p o).2∧DimP (opS p o).2)∧Below w.heap.size w w':=by
 have _:=hB0;have _:=hp;have hq:=h;obtain⟨ea,en,ec,va,vn,vc,ra,rn,rc,la,ln,lc,rfl,⟨h1,k1⟩,⟨h2,k2⟩,⟨h3,k3⟩,h4,k4⟩:=h;have hS:Hid (opS p o=(0,flushS p)):=by show _=_;simp[opS,hf,hk]
 generalize opS p o=R at *;obtain⟨_,_,_,hm,hn⟩:=aQ_ hp;have hr:Hid (o.k=9):=hk;clear hk;go_enter func27,ntmps27
 go_wp2_with fail
 refine (cs_ o _ hso).mono ?_;rintro e w1 ⟨rfl,hl⟩;obtain⟨C,O,D,ha,hv⟩:=bx3 hl;clear hl;rw[hf];obtain⟨x0,x1,x2,x3,x4,x5⟩:=D.six';obtain⟨f0,f1,f2,f3,f4,f5⟩:=fz6 D;obtain⟨c0,c1,c2,c3,c4,c5⟩:=C.six';have o0:w1.cell? ⟨w.heap.size+1,0,none⟩=some (.int .i64 9):=by rw[<-hr.out];exact O.cell 0
 go_wp2_with fail
 refine (aW_ B0 hB0 _ p _ (hq.below ha) hd).mono ?_;rintro e wk ⟨⟨v',rfl,PT,_⟩,he⟩;have hg:=chain ha he;have ht:=he.size
 go_wp2_with fail
 refine (jD_ w1.heap.size v' p _ PT ht hd.1 (by have:=(a0_ hm).1;omega) (by have:=(br_ hn).1;omega) (fun x hx=>by have:=(a0_ hm).2 x hx;omega) (fun x hx=>by have:=(br_ hn).2 x hx;omega)).mono ?_;rintro e wl ⟨⟨v2,rfl,hh⟩,hc⟩;have hs:=hh;obtain⟨ea',en',ec',va',vn',vc',ra',rn',rc',la',ln',lc',rows',rfl,_⟩:=hh;have Dl:=(D.below he).below hc;have hb:=chain hg hc;have hu:=hc.size;clear x0 x1 x2 x3 x4 x5 f0 f1 f2 f3 f4 f5;obtain⟨x0,x1,x2,x3,x4,x5⟩:=Dl.six';obtain⟨f0,f1,f2,f3,f4,f5⟩:=fz6 Dl;go_wp2;obtain⟨W8,hj,W0,ho⟩:=set6 Dl (.int .i64 (flushS p).size) (.int .i64 (flushS p).next) (.slice ea' en' ec') (.slice va' vn' vc') (.slice ra' rn' rc') (.slice la' ln' lc');have PF:=(hs.tyP ho (aa_ Dl)).mono (show w.heap.size<=w1.heap.size by omega);have B8:=hb.grown ho hb.size (fun j e=>by cases e;omega);rw[<-hj];clear hj;refine bodyPost_ret (ad_ rfl _ W8 (w.heap.size+2) _ _ _ _ _ rfl W0 underlying35 rfl (by kernel_rfl) rfl) rfl ?_;exact⟨⟨_,0,rfl,by rw[hS.out],by rw[hS.out];exact PF,by rw[hS.out];exact nI_ hp hd⟩,B8⟩
theorem chainB (h:Below n w a)(h':Below m a b)(hn:n<=m):Below n w b:=⟨h'.os.trans h.os,h'.tape.trans h.tape,h'.output.trans h.output,Zl h.size h'.size,fun k hk=>(h'.block k (by omega)).trans (h.block k hk)⟩
theorem bu_ (B0:Nat)(hB0:0<B0)(v:Value)(p:Po)(o:Opr)(w:World)(h:PoolAt B0 w v p)(hd:DimP p)(hp:poolB p=true)(hso:StrO o)(hf:opB o=true)(hk:o.k=1∨o.k=4∨o.k=6∨o.k=7∨o.k=8)(hno:(volS p o).1≠0):
  Calls prog 27 #[v,.agg #[.int .i64 o.k,.string o.vol,.string o.file,.string o.to,.string o.into,.int .i64 o.at',.int .i64 o.fr,.int .i64 o.ln,.string o.data]] w fun e w'=>(∃ v' c,e=.returned (.tuple #[v',.int .i64 c])∧c=(opS p o).1∧PoolT w.heap.size w' v' (opS p o).2∧DimP (opS p o).2)∧Below w.heap.size w w':=by
 have _:=hB0;have _:=hp;have ht:=h;obtain⟨ea,en,ec,va,vn,vc,ra,rn,rc,la,ln,lc,rfl,⟨h1,k1⟩,⟨h2,k2⟩,⟨h3,k3⟩,h4,k4⟩:=h;have nk9:¬ o.k=9:=by omega
 have mk9:(o.k==9)=false:=by simpa using nk9
 have nk2:¬ o.k=2:=by omega
 have mk2:(o.k==2)=false:=by simpa using nk2
 have nk3:¬ o.k=3:=by omega
 have mk3:(o.k==3)=false:=by simpa using nk3
 have nk5:¬ o.k=5:=by omega
 have mk5:(o.k==5)=false:=by simpa using nk5
 have nk10:¬ o.k=10:=by omega
 have mk10:(o.k==10)=false:=by simpa using nk10
 obtain⟨_,hx,hE,hH,hI⟩:=aQ_ hp;have hS:Hid (opS p o=((volS p o).1,p)):=by show _=_;simp[opS,triedS,hf,nk9,nk2,nk3,nk5,nk10,hno]
 generalize opS p o=R at *;have hz:Hid (o.k=1∨o.k=4∨o.k=6∨o.k=7∨o.k=8):=hk;have hK:Hid (opB o=true):=hf;clear hk;go_enter func27,ntmps27
 go_wp2_with fail
 refine (cs_ o _ hso).mono ?_;rintro e w1 ⟨rfl,hu⟩;obtain⟨C,O,D,hm,hF⟩:=bx3 hu;clear hu;rw[hf];obtain⟨x0,x1,x2,x3,x4,x5⟩:=D.six';obtain⟨f0,f1,f2,f3,f4,f5⟩:=fz6 D;obtain⟨c0,c1,c2,c3,c4,c5⟩:=C.six';have o0:w1.cell? ⟨w.heap.size+1,0,none⟩=some (.int .i64 o.k):=by exact O.cell 0
 go_wp2_with fail
 refine (aW_ B0 hB0 _ p _ (ht.below hm) hd).mono ?_;rintro e wk ⟨⟨v',rfl,PT,hJ⟩,ha⟩;have hr:=PT;obtain⟨ea',en',ec',va',vn',vc',ra',rn',rc',la',ln',lc',rows',rfl,_⟩:=PT;have hb:=chain hm ha;have hA:=ha.size;have hj:Below wk.heap.size wk (wk.alloc (.cells #[.int .i64 p.size,.int .i64 p.next,.slice ea' en' ec',.slice va' vn' vc',.slice ra' rn' rc',.slice la' ln' lc'] 35)):=(Below.refl _ _).alloc (Zd _) _;have XB:=Blk.new wk #[.int .i64 p.size,.int .i64 p.next,.slice ea' en' ec',.slice va' vn' vc',.slice ra' rn' rc',.slice la' ln' lc'] 35;have hL:(wk.alloc (.cells #[.int .i64 p.size,.int .i64 p.next,.slice ea' en' ec',.slice va' vn' vc',.slice ra' rn' rc',.slice la' ln' lc'] 35)).heap.size=wk.heap.size+1:=by simp
 have PX:=hr.below hj;have hq:=chain hb hj;have CX:=(C.below ha).below hj;have DX:=(D.below ha).below hj;have OX:=(O.below ha).below hj;have ox0:(wk.alloc (.cells #[.int .i64 p.size,.int .i64 p.next,.slice ea' en' ec',.slice va' vn' vc',.slice ra' rn' rc',.slice la' ln' lc'] 35)).cell? ⟨w.heap.size+1,0,none⟩=some (.int .i64 o.k):=by exact OX.cell 0
 clear x0 x1 x2 x3 x4 x5 f0 f1 f2 f3 f4 f5 c0 c1 c2 c3 c4 c5 o0 C D O;obtain⟨y0,y1,y2,y3,y4,y5⟩:=XB.six';have p1:=OX.cell 1;have p2:=OX.cell 2;have p3:=OX.cell 3;have p4:=OX.cell 4;have p5:=OX.cell 5;have p6:=OX.cell 6;have p7:=OX.cell 7;have p8:=OX.cell 8;simp only[lgA,lgB,lgC] at p1 p2 p3 p4 p5 p6 p7 p8
 go_wp2_with fail
 generalize wk.alloc (.cells #[.int .i64 p.size,.int .i64 p.next,.slice ea' en' ec',.slice va' vn' vc',.slice ra' rn' rc',.slice la' ln' lc'] 35)=wX at *;have hl:=fk_ w1.heap.size (by omega) _ p o wX PX (by omega) hd hx hz.out;refine hl.mono ?_;rintro e w5 ⟨⟨v2,c,rfl,⟨s2,n2,e2a,e2n,e2c,v2a,v2n,v2c,r2a,r2n,r2c,l2a,l2n,l2c,rfl⟩,hc,hs⟩,hv,ho⟩;have X5:=ho _ _ _ XB (by decide);have C5:=ho _ _ _ CX (by decide);have D5:=ho _ _ _ DX (by decide);have O5:=ho _ _ _ OX (by decide);have hn:Below w.heap.size w w5:=chainB hq hv (by omega);have hD:=hv.size;clear y0 y1 y2 y3 y4 y5 p1 p2 p3 p4 p5 p6 p7 p8 ox0;obtain⟨x0,x1,x2,x3,x4,x5⟩:=X5.six';obtain⟨f0,f1,f2,f3,f4,f5⟩:=fz6 X5;have hC:¬ c=0:=by rw[hc];exact hno
 have hy:Hid (c=(volS p o).1):=hc;clear hc;clear hs;obtain⟨c0,c1,c2,c3,c4,c5⟩:=C5.six';have n1:¬ w.heap.size=wk.heap.size:=by omega
 have n3:¬ wk.heap.size=w.heap.size:=by omega
 go_wp2_with fail
 obtain⟨w6,hh,X6,hg⟩:=set6 X5 (.int .i64 s2) (.int .i64 n2) (.slice e2a e2n e2c) (.slice v2a v2n v2c) (.slice r2a r2n r2c) (.slice l2a l2n l2c);have C6:Blk _ w.heap.size _ _:=(hg.block _ C5.lt (by simp only[ne_eq,Zo];omega)).trans C5;have D6:Blk _ (w.heap.size+2) _ _:=(hg.block _ D5.lt (by simp only[ne_eq,Zo];omega)).trans D5;have he:=hn.grown hg hn.size (fun j e=>by cases e;omega);have hG:=hg.size;rw[<-hh];clear hh;clear x0 x1 x2 x3 x4 x5 f0 f1 f2 f3 f4 f5 X5 C5 D5 O5 hg c0 c1 c2 c3 c4 c5;obtain⟨c0,c1,c2,c3,c4,c5⟩:=C6.six';obtain⟨x0,x1,x2,x3,x4,x5⟩:=D6.six';obtain⟨f0,f1,f2,f3,f4,f5⟩:=fz6 D6
 go_wp2_with fail
 refine (aW_ B0 hB0 _ p _ (ht.below he) hd).mono ?_;rintro e wk ⟨⟨v',rfl,PT,_⟩,ha⟩;have hr:=PT;obtain⟨ea',en',ec',va',vn',vc',ra',rn',rc',la',ln',lc',rows',rfl,_⟩:=PT;have Dk:=D6.below ha;have hb:=chain he ha;have hA:=ha.size;have hB:=he.size;clear x0 x1 x2 x3 x4 x5 f0 f1 f2 f3 f4 f5;obtain⟨x0,x1,x2,x3,x4,x5⟩:=Dk.six';obtain⟨f0,f1,f2,f3,f4,f5⟩:=fz6 Dk;go_wp2;obtain⟨W8,hh,W0,hw⟩:=set6 Dk (.int .i64 p.size) (.int .i64 p.next) (.slice ea' en' ec') (.slice va' vn' vc') (.slice ra' rn' rc') (.slice la' ln' lc');have PF:=(hr.tyP hw (aa_ Dk)).mono (show w.heap.size<=w6.heap.size by omega);have B8:=hb.grown hw hb.size (fun j e=>by cases e;omega);rw[<-hh];clear hh;refine bodyPost_ret (ad_ rfl _ W8 (w.heap.size+2) _ _ _ _ _ rfl W0 underlying35 rfl (by kernel_rfl) rfl) rfl ?_;exact⟨⟨_,c,rfl,by rw[hS.out];exact hy.out,by rw[hS.out];exact PF,by rw[hS.out];exact hd⟩,B8⟩
theorem bN_ (B0:Nat)(hB0:0<B0)(v:Value)(p:Po)(o:Opr)(w:World)(h:PoolAt B0 w v p)(hd:DimP p)(hp:poolB p=true)(hso:StrO o)(hf:opB o=true)(hz:o.k=2∨o.k=3∨o.k=5∨o.k=10)(hno:(fileS p o).1≠0):
  Calls prog 27 #[v,.agg #[.int .i64 o.k,.string o.vol,.string o.file,.string o.to,.string o.into,.int .i64 o.at',.int .i64 o.fr,.int .i64 o.ln,.string o.data]] w fun e w'=>(∃ v' c,e=.returned (.tuple #[v',.int .i64 c])∧c=(opS p o).1∧PoolT w.heap.size w' v' (opS p o).2∧DimP (opS p o).2)∧Below w.heap.size w w':=by
 rcases hz with hk | hk | hk | hk
 all_goals
  have _:=hB0;have _:=hp;have hu:=h;obtain⟨ea,en,ec,va,vn,vc,ra,rn,rc,la,ln,lc,rfl,⟨h1,k1⟩,⟨h2,k2⟩,⟨h3,k3⟩,h4,k4⟩:=h;obtain⟨_,hF,hH,hK,hL⟩:=aQ_ hp;have hS:Hid (opS p o=((fileS p o).1,p)):=by show _=_;simp[opS,triedS,hf,hk,hno]
  generalize opS p o=R at *;have ho:Hid (_=_):=hk;have hC:Hid (opB o=true):=hf;clear hk;go_enter func27,ntmps27
  go_wp2_with fail
  refine (cs_ o _ hso).mono ?_;rintro e w1 ⟨rfl,hv⟩;obtain⟨C,O,D,hm,hI⟩:=bx3 hv;clear hv;rw[hf];obtain⟨x0,x1,x2,x3,x4,x5⟩:=D.six';obtain⟨f0,f1,f2,f3,f4,f5⟩:=fz6 D;obtain⟨c0,c1,c2,c3,c4,c5⟩:=C.six';have o0:=O.cell 0;simp only[List.getElem?_toArray,List.getElem?_cons_zero,ho.out] at o0
  go_wp2_with fail
  refine (aW_ B0 hB0 _ p _ (hu.below hm) hd).mono ?_;rintro e wk ⟨⟨v',rfl,PT,hA⟩,ha⟩;have hs:=PT;obtain⟨ea',en',ec',va',vn',vc',ra',rn',rc',la',ln',lc',rows',rfl,_⟩:=PT;have hb:=chain hm ha;have hB:=ha.size;have hl:Below wk.heap.size wk (wk.alloc (.cells #[.int .i64 p.size,.int .i64 p.next,.slice ea' en' ec',.slice va' vn' vc',.slice ra' rn' rc',.slice la' ln' lc'] 35)):=(Below.refl _ _).alloc (Zd _) _;have XB:=Blk.new wk #[.int .i64 p.size,.int .i64 p.next,.slice ea' en' ec',.slice va' vn' vc',.slice ra' rn' rc',.slice la' ln' lc'] 35;have hM:(wk.alloc (.cells #[.int .i64 p.size,.int .i64 p.next,.slice ea' en' ec',.slice va' vn' vc',.slice ra' rn' rc',.slice la' ln' lc'] 35)).heap.size=wk.heap.size+1:=by simp
  have PX:=hs.below hl;have hr:=chain hb hl;have CX:=(C.below ha).below hl;have DX:=(D.below ha).below hl;have OX:=(O.below ha).below hl;have ox0:=OX.cell 0;simp only[List.getElem?_toArray,List.getElem?_cons_zero,ho.out] at ox0;clear x0 x1 x2 x3 x4 x5 f0 f1 f2 f3 f4 f5 c0 c1 c2 c3 c4 c5 o0 C D O;obtain⟨y0,y1,y2,y3,y4,y5⟩:=XB.six';have p1:=OX.cell 1;have p2:=OX.cell 2;have p3:=OX.cell 3;have p4:=OX.cell 4;have p5:=OX.cell 5;have p6:=OX.cell 6;have p7:=OX.cell 7;have p8:=OX.cell 8;simp only[lgA,lgB,lgC] at p1 p2 p3 p4 p5 p6 p7 p8
  go_wp2_with fail
  generalize wk.alloc (.cells #[.int .i64 p.size,.int .i64 p.next,.slice ea' en' ec',.slice va' vn' vc',.slice ra' rn' rc',.slice la' ln' lc'] 35)=wX at *;have he:=gN_ w1.heap.size (by omega) _ p o wX PX hA (by omega) hd hp hC.out (by rw[ho.out];simp);rw[ho.out] at he;refine he.mono ?_;rintro e w5 ⟨⟨v2,c,rfl,⟨s2,n2,e2a,e2n,e2c,v2a,v2n,v2c,r2a,r2n,r2c,l2a,l2n,l2c,rfl⟩,hc,ht⟩,hw,hq⟩;have X5:=hq _ _ _ XB (by decide);have C5:=hq _ _ _ CX (by decide);have D5:=hq _ _ _ DX (by decide);have O5:=hq _ _ _ OX (by decide);have hn:Below w.heap.size w w5:=chainB hr hw (by omega);have hG:=hw.size;clear y0 y1 y2 y3 y4 y5 p1 p2 p3 p4 p5 p6 p7 p8 ox0;obtain⟨x0,x1,x2,x3,x4,x5⟩:=X5.six';obtain⟨f0,f1,f2,f3,f4,f5⟩:=fz6 X5;have hE:¬ c=0:=by rw[hc];exact hno
  have hy:Hid (c=(fileS p o).1):=hc;clear hc;clear ht;obtain⟨c0,c1,c2,c3,c4,c5⟩:=C5.six';have n1:¬ w.heap.size=wk.heap.size:=by omega
  have n3:¬ wk.heap.size=w.heap.size:=by omega
  go_wp2_with fail
  obtain⟨w6,hj,X6,hh⟩:=set6 X5 (.int .i64 s2) (.int .i64 n2) (.slice e2a e2n e2c) (.slice v2a v2n v2c) (.slice r2a r2n r2c) (.slice l2a l2n l2c);have C6:Blk _ w.heap.size _ _:=(hh.block _ C5.lt (by simp only[ne_eq,Zo];omega)).trans C5;have D6:Blk _ (w.heap.size+2) _ _:=(hh.block _ D5.lt (by simp only[ne_eq,Zo];omega)).trans D5;have hg:=hn.grown hh hn.size (fun j e=>by cases e;omega);have hJ:=hh.size;rw[<-hj];clear hj;clear x0 x1 x2 x3 x4 x5 f0 f1 f2 f3 f4 f5 X5 C5 D5 O5 hh c0 c1 c2 c3 c4 c5;obtain⟨c0,c1,c2,c3,c4,c5⟩:=C6.six';obtain⟨x0,x1,x2,x3,x4,x5⟩:=D6.six';obtain⟨f0,f1,f2,f3,f4,f5⟩:=fz6 D6
  go_wp2_with fail
  refine (aW_ B0 hB0 _ p _ (hu.below hg) hd).mono ?_;rintro e wk ⟨⟨v',rfl,PT,_⟩,ha⟩;have hs:=PT;obtain⟨ea',en',ec',va',vn',vc',ra',rn',rc',la',ln',lc',rows',rfl,_⟩:=PT;have Dk:=D6.below ha;have hb:=chain hg ha;have hB:=ha.size;have hD:=hg.size;clear x0 x1 x2 x3 x4 x5 f0 f1 f2 f3 f4 f5;obtain⟨x0,x1,x2,x3,x4,x5⟩:=Dk.six';obtain⟨f0,f1,f2,f3,f4,f5⟩:=fz6 Dk;go_wp2;obtain⟨W8,hj,W0,hx⟩:=set6 Dk (.int .i64 p.size) (.int .i64 p.next) (.slice ea' en' ec') (.slice va' vn' vc') (.slice ra' rn' rc') (.slice la' ln' lc');have PF:=(hs.tyP hx (aa_ Dk)).mono (show w.heap.size<=w6.heap.size by omega);have B8:=hb.grown hx hb.size (fun j e=>by cases e;omega);rw[<-hj];clear hj;refine bodyPost_ret (ad_ rfl _ W8 (w.heap.size+2) _ _ _ _ _ rfl W0 underlying35 rfl (by kernel_rfl) rfl) rfl ?_;exact⟨⟨_,c,rfl,by rw[hS.out];exact hy.out,by rw[hS.out];exact PF,by rw[hS.out];exact hd⟩,B8⟩
end
end Go.Proofs.YtbbhcnjhohidnaaGreatDoor
