import Derived.Test.YtahocpjieffbaaaGreatDoorTookGs
import Derived.Test.YtahocpjieffbaaaGreatDoorChks
import Derived.Test.YtahocpjieffbaaaGreatDoorDrawPs
import Derived.Test.YtahocpjieffbaaaGreatDoorSSums
import Derived.Test.YtahocpjieffbaaaGreatDoorLaidAll
import Derived.Deep.RegionWith
import Derived.Deep.RegionHeld3
import Derived.Deep.CutRange
namespace Go.Proofs.YtahocpjieffbaaaGreatDoor
open Go.RowKit
set_option linter.unusedVariables false
theorem chunksR_len (ps:List PairL) (mo:Int):(chunksR ps mo).length≤ps.length+1:=by
 unfold chunksR
 split
 · unfold chunksL
   rw[chunksTo_length]
   unfold chunksN
   split
   · omega
   · have:=Nat.div_le_self (ps.length - 1) mo.toNat;omega
 · simp
theorem chunksR_mem (ps:List PairL) (mo:Int):∀ q∈chunksR ps mo,q.2.2.length≤ps.length∧∀ p∈q.2.2,p∈ps:=by
 intro q hq
 unfold chunksR at hq
 split at hq
 · simp only[chunksL,chunksTo,List.mem_map,List.mem_range] at hq
   obtain⟨i,_,rfl⟩:=hq
   exact⟨by rw[chunkAt_len];omega,fun p hp=>List.mem_of_mem_drop (List.mem_of_mem_take hp)⟩
 · simp at hq
theorem own_form {w:World} {lo e n m c:Nat} {a:Option Addr} {ps:List PairL} (h:w.ownsRow lo e 2 (.slice a m c) n (pcells ps)):m=ps.length∧IsPairs w a ps∧(a=none∨∃ b off,a=some ⟨b,off,none⟩)∧(a=none→c=0):=by
 obtain⟨h1,_,h3⟩:=isPairs_own h
 rcases h.2 with ⟨e1,_⟩ | ⟨g,cap,cur,e1,_⟩
 · cases e1;exact⟨h1,h3,.inl rfl,fun _=>rfl⟩
 · cases e1;exact⟨h1,h3,.inr ⟨g,0,rfl⟩,fun h=>by cases h⟩
theorem ownC_form {w:World} {lo e:Nat} {v:Value} {cs:List ChL} {vs:List Value} (h:OwnC w lo e v cs vs):(v=.slice none 0 0∧cs=[])∨∃ g cap,v=.slice (some ⟨g,0,none⟩) cs.length cap∧cs.length≤cap∧lo≤g∧g<w.heap.size:=by
 have hr:=h.row
 rcases hr.2 with ⟨e1,h0⟩ | ⟨g,cap,cur,e1,h1,h2,h3,_⟩
 · exact .inl ⟨e1,List.eq_nil_of_length_eq_zero h0⟩
 · exact .inr ⟨g,cap,e1,h3,h1,lt_of_block h2⟩
theorem chunk_form {w:World} {lo e:Nat} {cs:List ChL} {vs:List Value} {g m cap j:Nat} (h:OwnC w lo e (.slice (some ⟨g,0,none⟩) m cap) cs vs) (hj:j<cs.length):∃ (u:Option Addr) (k:Nat),w.cell? ⟨g,j*3,none⟩=some (.bool cs[j].1)∧w.cell? ⟨g,j*3+1,none⟩=some (.bool cs[j].2.1)∧w.cell? ⟨g,j*3+2,none⟩=some (.slice u cs[j].2.2.length k)∧w.ownsRow lo 56 2 (.slice u cs[j].2.2.length k) cs[j].2.2.length (pcells cs[j].2.2):=by
 have hm:m=cs.length:=by
  rcases ownC_form h with ⟨e1,_⟩ | ⟨g',c',e1,_⟩
  · cases e1
  · cases e1;rfl
 subst hm
 have hv:j<vs.length:=by rw[h.len];exact hj
 have hk:=h.kid j cs[j] vs[j] (List.getElem?_eq_getElem hj) (List.getElem?_eq_getElem hv)
 obtain⟨c0,c1,c2⟩:=ccells_at cs vs j cs[j] vs[j] (List.getElem?_eq_getElem hj) (List.getElem?_eq_getElem hv)
 obtain⟨u,m9,k,e9⟩:=own_slice2 hk
 rw[e9] at hk c2
 obtain⟨rfl,_⟩:=own_form hk
 exact⟨u,k,(h.row.cellAt (j*3) (by omega)).trans c0,(h.row.cellAt (j*3+1) (by omega)).trans c1,(h.row.cellAt (j*3+2) (by omega)).trans c2,hk⟩
theorem below_lenK (rd n cap m:Nat) (x:Int) (a:Option Addr) (w:World) (hx:x=(m:Int)) (hm:1≤m) (hm2:m≤256) (hn:n≤1048576) (h:Rd rd a n cap w) :
 Calls Tryz.prog 42 #[.pointer (some ⟨rd,0,none⟩),.int .i64 x] w fun e w'=>∃ x:Nat,x<m∧e=.returned (.int .i64 (x:Int))∧Rd rd a n cap w'∧w.grownBy w' (some rd):=by
 by_cases h1:m=1
 · subst hx h1
   have HR:Hid (Rd rd a n cap w):=h
   clear h
   go_enter Tryz.func42,Tryz.ntmps42
   go_wp2
   go_ret
   exact⟨0,by omega,rfl,HR.out,World.grownBy.refl _ _⟩
 · exact below_any rd n cap m x a w hx (by omega) hm2 hn h
theorem smallP_app {ps qs:List PairL} (h:smallP ps) (k:smallP qs):smallP (ps ++ qs):=fun p hp=>(List.mem_append.1 hp).elim (h p) (k p)
theorem took_small (r:List UInt8) (ps qs:List PairL) (d f l:Bool) (hr:r.length≤1048576) (hl:ps.length≤60) (h:smallP ps) (k:smallP qs):(tookRoot r ps d).length≤1048576∧(tookPs r ps d f l qs).length≤60∧smallP (tookPs r ps d f l qs):=by
 refine⟨?_,?_⟩
 · unfold tookRoot;split
   · exact hr
   · simp
 · unfold tookPs
   split
   · split
     · rename_i h1 h2
       unfold tookB at h2
       simp only[Bool.and_eq_true] at h2
       exact⟨(pairsOk_of _ h2.2.2.2.1).1,smallP_app h k⟩
     · exact⟨hl,h⟩
   · exact⟨by simp,fun p hp=>by simp at hp⟩
theorem smallP_le {ps:List PairL} (h:smallP ps):∀ p∈ps,p.1.length≤1048576∧p.2.length≤1048576:=fun p hp=>by have:=h p hp;omega
theorem ck_set {w:World} {b j:Nat} {u v x y:Value} {t:TypeId} (h:w.heap[b]? = some (.cells #[u,v,x] t (0,0))):(w.setCell ⟨b,j,none⟩ y).heap[b]? = some (.cells (#[u,v,x].setIfInBounds j y) t (0,0)):=im_set h
theorem ck_far {w:World} {b g:Nat} {x y z:Value} (hne:b≠g):(((w.setCell ⟨g,0,none⟩ x).setCell ⟨g,1,none⟩ y).setCell ⟨g,2,none⟩ z).heap[b]? = w.heap[b]? := (Below.heap_setCell _ _ _ _ hne).trans ((Below.heap_setCell _ _ _ _ hne).trans (Below.heap_setCell _ _ _ _ hne))
theorem ck_grown (w:World) (g:Nat) (x y z:Value):w.grownBy (((w.setCell ⟨g,0,none⟩ x).setCell ⟨g,1,none⟩ y).setCell ⟨g,2,none⟩ z) (some g):=⟨rfl,rfl,rfl,by simp[World.setCell],fun k _ hk=>ck_far (fun e=>hk (by rw[e]))⟩
theorem rd_three {rd n cap g:Nat} {a:Option Addr} {w:World} {x y z:Value} (h:Rd rd a n cap w) (hg:g≠rd) (hc:∀ cb off,a=some ⟨cb,off,none⟩→n≠0→cb≠g):Rd rd a n cap (((w.setCell ⟨g,0,none⟩ x).setCell ⟨g,1,none⟩ y).setCell ⟨g,2,none⟩ z) :=
 h.kept (ck_grown w g x y z) (by simp;exact hg) (fun cb off e hn=>by have:=hc cb off e hn;simp;exact this)
set_option maxRecDepth 100000 in
set_option maxHeartbeats 1000000 in
theorem chunks_any (rd n cap:Nat) (a:Option Addr) (w:World) (hn:n≤1048576) (h:Rd rd a n cap w) :
 Calls Tryz.prog 56 #[.pointer (some ⟨rd,0,none⟩)] w fun e w'=>∃ (v:Value) (cs:List ChL) (vs:List Value) (rt:List UInt8),e=.returned (.tuple #[v,.string ⟨rt.toArray⟩])∧OwnC w' w.heap.size 38 v cs vs∧rt.length≤1048576∧cs.length≤11∧(∀ q∈cs,q.2.2.length≤10∧smallP q.2.2)∧Rd rd a n cap w'∧w.grownBy w' (some rd):=by
 have K1:=pairs_any rd n cap 9 9 a w rfl (by omega) (by omega) hn h
 have hrd:=h.lt
 clear h
 go_enter Tryz.func56,Tryz.ntmps56
 go_wp2_with fail
 refine K1.mono ?_
 rintro e w1 ⟨ps,g,c,hpl,hsm,rfl,o1,R1,G1⟩
 have hs1:=(isPairs_own o1).2.2
 have hc1:=own_le o1
 have K2:=spec_rootOf (some ⟨g,0,none⟩) c ps w1 (by omega) (smallP_le hsm) hs1
 have hrl:=root_le ps
 obtain⟨rr,hrr⟩:∃ x,x=rootR ps:=⟨_,rfl⟩
 obtain⟨rk,hrk⟩:∃ x,x=rootOk ps:=⟨_,rfl⟩
 rw[←hrr] at hrl
 rw[←hrr,←hrk] at K2
 have HR1:Hid (Rd rd a n cap w1):=R1
 have HG1:Hid (w.grownBy w1 (some rd)):=G1
 have HO1:Hid (w1.ownsRow w.heap.size 56 2 (.slice (some ⟨g,0,none⟩) ps.length c) ps.length (pcells ps)):=o1
 have HSM:Hid (smallP ps∧ps.length≤10∧ps.length≤c∧rr.length≤1048576∧rd<w.heap.size):=⟨hsm,hpl,hc1,hrl,hrd⟩
 clear K1 o1 R1 G1 hs1 hrr hrk hpl hsm hc1 hrl hrd
 go_wp2_with fail
 refine K2.mono ?_
 rintro e w2 ⟨rfl,b2⟩
 have HR2:Hid (Rd rd a n cap w2):=HR1.out.keptNone b2
 have HG2:Hid (w.grownBy w2 (some rd)):=grown_below HG1.out b2
 have HO2:Hid (w2.ownsRow w.heap.size 56 2 (.slice (some ⟨g,0,none⟩) ps.length c) ps.length (pcells ps)):=kept_new HO1.out b2
 clear K2 b2 HR1 HG1 HO1
 go_upto_if 17 with fail
 go_cut [5] from 16 to 19 (fun v wx=>∃ rt:List UInt8,v=.string ⟨rt.toArray⟩∧Hid (rt.length≤1048576)∧Hid (Rd rd a n cap wx)∧Hid (w.grownBy wx (some rd))∧Hid (wx.ownsRow w.heap.size 56 2 (.slice (some ⟨g,0,none⟩) ps.length c) ps.length (pcells ps)))
 case first =>
  cases rk with
  | true =>
    go_wp2
    go_meet
    exact⟨rr,rfl,HSM.out.2.2.2.1,HR2,HG2,HO2⟩
  | false =>
    have KE:=spec_empty w2
    have hel:emptyL.length=32:=sumL_len _
    obtain⟨em,hem⟩:∃ x,x=emptyL:=⟨_,rfl⟩
    rw[←hem] at KE hel
    have HEL:Hid (em.length≤1048576):=by rw[Hid,hel];omega
    clear hem hel
    go_wp2_with fail
    refine KE.mono ?_
    rintro e w3 ⟨rfl,b3⟩
    have HR3:Hid (Rd rd a n cap w3):=HR2.out.keptNone b3
    have HG3:Hid (w.grownBy w3 (some rd)):=grown_below HG2.out b3
    have HO3:Hid (w3.ownsRow w.heap.size 56 2 (.slice (some ⟨g,0,none⟩) ps.length c) ps.length (pcells ps)):=kept_new HO2.out b3
    clear KE b3
    go_wp2
    go_meet
    exact⟨em,rfl,HEL,HR3,HG3,HO3⟩
 case rest =>
 obtain⟨rt,rfl,HRT,HR3,HG3,HO3⟩:=hcut
 obtain⟨w3,rfl⟩:∃ W,W=wc:=⟨_,rfl⟩
 clear HR2 HG2 HO2
 have K4:=below_any rd n cap 4 4 a w3 rfl (by omega) (by omega) hn HR3.out
 go_wp2_with fail
 refine K4.mono ?_
 rintro e w4 ⟨x,hx,rfl,R4,G4⟩
 have HR4:Hid (Rd rd a n cap w4):=R4
 have HG4:Hid (w.grownBy w4 (some rd)):=HG3.out.trans G4
 have HO4:Hid (w4.ownsRow w.heap.size 56 2 (.slice (some ⟨g,0,none⟩) ps.length c) ps.length (pcells ps)):=keptR HO3.out G4 (rd_far HO3.out HSM.out.2.2.2.2)
 have K5:=spec_chunksOf g 0 c ps (1+(x:Int)) w4 (by have:=HSM.out;omega) HSM.out.2.2.1 (smallP_le HSM.out.1) (isPairs_own HO4.out).2.2
 have hwx:IntKind.i64.wrap (1+(x:Int))=1+(x:Int):=i64_wrap_small _ (by omega) (by omega)
 have hcl:=chunksR_len ps (1+(x:Int))
 have hcm:=chunksR_mem ps (1+(x:Int))
 obtain⟨cs,hcs⟩:∃ y,y=chunksR ps (1+(x:Int)):=⟨_,rfl⟩
 obtain⟨ck,hck⟩:∃ y,y=chunksOkL ps (1+(x:Int)):=⟨_,rfl⟩
 rw[←hcs] at hcl hcm K5
 rw[←hck] at K5
 have HCM:Hid (cs.length≤11∧∀ q∈cs,q.2.2.length≤10∧smallP q.2.2):=⟨by have:=HSM.out;omega,fun q hq=>⟨by have:=(hcm q hq).1;have:=HSM.out;omega,fun p hp=>HSM.out.1 p ((hcm q hq).2 p hp)⟩⟩
 clear K4 R4 G4 HR3 HG3 HO3 hcl hcm hcs hck
 go_wp2_with fail
 refine K5.mono ?_
 rintro e w5 ⟨v,vs,rfl,oc,b5⟩
 have HR5:Hid (Rd rd a n cap w5):=HR4.out.keptNone b5
 have HG5:Hid (w.grownBy w5 (some rd)):=grown_below HG4.out b5
 have HC5:Hid (OwnC w5 w.heap.size 38 v cs vs):=⟨oc.len,oc.row.mono HG4.out.size,fun j c u h1 h2=>(oc.kid j c u h1 h2).mono HG4.out.size,oc.apart,oc.far⟩
 clear K5 oc b5 HR4 HG4 HO4
 go_wp2
 go_ret2
 exact⟨v,cs,vs,rt,rfl,HC5.out,HRT.out,HCM.out.1,HCM.out.2,HR5.out,HG5.out⟩
theorem blk_drewK {w:World} {b:Nat} {o:Option Obj} (h:w.heap[b]? = o):w.drew.heap[b]? = o:=h
theorem own_drewK {w:World} {b e s n:Nat} {v:Value} {xs:List Value} (h:w.ownsRow b e s v n xs):w.drew.ownsRow b e s v n xs:=h
theorem below_drewK {n:Nat} {w w':World} (h:Below n w w'):Below n w w'.drew:=⟨h.os,h.tape,h.output,h.size,h.block⟩
theorem ownC_set {w w':World} {lo e b:Nat} {v:Value} {cs:List ChL} {vs:List Value} (h:OwnC w lo e v cs vs) (hg:w.grownBy w' (some b)) (hv:∀ q,v.ownBlock=some q→q≠b) (hu:∀ (i:Nat) (u:Value) (q:Nat),vs[i]? = some u→u.ownBlock=some q→q≠b):OwnC w' lo e v cs vs :=
 ⟨h.len,kept_row h.row hg (fun k hk e=>hv k hk (by cases e;rfl)),fun j c u h1 h2=>kept_row (h.kid j c u h1 h2) hg (fun k hk e=>hu j u k h2 hk (by cases e;rfl)),h.apart,h.far⟩
theorem ownC_mono {w:World} {lo lo' e:Nat} {v:Value} {cs:List ChL} {vs:List Value} (h:OwnC w lo e v cs vs) (hl:lo'≤lo):OwnC w lo' e v cs vs :=
 ⟨h.len,h.row.mono hl,fun j c u h1 h2=>(h.kid j c u h1 h2).mono hl,h.apart,h.far⟩
theorem own_three {w:World} {lo e g n:Nat} {v:Value} {xs:List Value} {x y z:Value} (h:w.ownsRow lo e 2 v n xs) (hg:∀ q,v.ownBlock=some q→q≠g):(((w.setCell ⟨g,0,none⟩ x).setCell ⟨g,1,none⟩ y).setCell ⟨g,2,none⟩ z).ownsRow lo e 2 v n xs:=kept_row h (ck_grown w g x y z) (fun k hk e=>hg k hk (by cases e;rfl))
theorem gr_three {w w':World} {rd g:Nat} {x y z:Value} (h:w.grownBy w' (some rd)) (hg:w.heap.size≤g):w.grownBy (((w'.setCell ⟨g,0,none⟩ x).setCell ⟨g,1,none⟩ y).setCell ⟨g,2,none⟩ z) (some rd) :=
 ⟨h.os,h.tape,h.output,by simpa [World.setCell] using h.size,fun k hk hn=>(ck_far (by omega)).trans (h.block k hk hn)⟩
theorem gr_drewK {w w':World} {row:Option Nat} (h:w.grownBy w' row):w.grownBy w'.drew row:=⟨h.os,h.tape,h.output,h.size,h.block⟩
theorem rd_drewK {rd n cap:Nat} {a:Option Addr} {w:World} (h:Rd rd a n cap w):Rd rd a n cap w.drew:=h.keptNone ⟨rfl,rfl,rfl,Nat.le_refl _,fun _ _=>rfl⟩
theorem ownC_drewK {w:World} {lo e:Nat} {v:Value} {cs:List ChL} {vs:List Value} (h:OwnC w lo e v cs vs):OwnC w.drew lo e v cs vs:=⟨h.len,h.row,h.kid,h.apart,h.far⟩
set_option maxRecDepth 100000 in
set_option maxHeartbeats 1000000 in
theorem imported_any (rd n9 cap : Nat) (a : Option Addr) (w : World) (hn : n9 ≤ 1048576) (h : Rd rd a n9 cap w) :
 Calls Tryz.prog 34 #[.pointer (some ⟨rd,0,none⟩)] w fun e w'=>∃ (r:List UInt8) (ps:List PairL) (d:Bool) (x:Option Addr) (c:Nat) (cs:List ChL) (vs:List Value) (v:Value) (k:Nat) (y:Option Addr) (yc:Nat),e=.returned (.tuple #[.agg #[.string ⟨r.toArray⟩,.slice x ps.length c,.bool d],.slice y (cs.length - k) yc])∧r.length≤1048576∧ps.length≤60∧smallP ps∧w'.ownsRow w.heap.size 56 2 (.slice x ps.length c) ps.length (pcells ps)∧cs.length≤11∧(∀ q∈cs,q.2.2.length≤10∧smallP q.2.2)∧OwnC w' w.heap.size 38 v cs vs∧k≤cs.length∧(k<cs.length→∃ g cc,v=.slice (some ⟨g,0,none⟩) cs.length cc∧y=some ⟨g,k*3,none⟩)∧Rd rd a n9 cap w'∧w.grownBy w' (some rd):=by
 have hrd:=h.lt
 have B0:Below w.heap.size w (w.alloc (.cells #[.string ⟨#[]⟩,.slice none 0 0,.bool false] 33)):=(Below.refl _ _).alloc (Nat.le_refl _) _
 have K1:=chunks_any rd n9 cap a (w.alloc (.cells #[.string ⟨#[]⟩,.slice none 0 0,.bool false] 33)) hn (h.keptNone B0)
 have HZ0:Hid ((w.alloc (.cells #[.string ⟨#[]⟩,.slice none 0 0,.bool false] 33)).heap[w.heap.size]? = some (.cells #[.string ⟨#[]⟩,.slice none 0 0,.bool false] 33 (0,0))):=heap_alloc_new w _
 have HLO:Hid (rd<w.heap.size∧∀ cb off,a=some ⟨cb,off,none⟩→n9≠0→cb<w.heap.size):=⟨hrd,h.code⟩
 clear h hrd
 go_enter Tryz.func34,Tryz.ntmps34
 go_wp2_with fail
 refine K1.mono ?_
 rintro e w1 ⟨v,cs,vs,rt,rfl,oc,hrt,hcl,hcm,R1,G1⟩
 have hs1:w.heap.size+1≤w1.heap.size:=by have:=G1.size;simpa using this
 have HZ1:Hid (w1.heap[w.heap.size]? = some (.cells #[.string ⟨#[]⟩,.slice none 0 0,.bool false] 33 (0,0))):=(G1.block _ (by simp) (by have:=HLO.out.1;simp;omega)).trans HZ0.out
 have HC1:Hid (OwnC w1 (w.heap.size+1) 38 v cs vs):=by
  have e9:(w.alloc (.cells #[.string ⟨#[]⟩,.slice none 0 0,.bool false] 33)).heap.size=w.heap.size+1:=by simp
  rw[e9] at oc
  exact oc
 have HR1:Hid (Rd rd a n9 cap w1):=R1
 have HG1:Hid (w.grownBy w1 (some rd)):=⟨G1.os.trans B0.os,G1.tape.trans B0.tape,G1.output.trans B0.output,by omega,fun q hq hne=>(G1.block q (by simp;omega) hne).trans (B0.block q hq)⟩
 have HCM:Hid (cs.length≤11∧(∀ q∈cs,q.2.2.length≤10∧smallP q.2.2)∧rt.length≤1048576):=⟨hcl,hcm,hrt⟩
 have K2:=spec_importNew rt w1 hrt
 have hr2:(if rt.length=32 then rt else []).length≤1048576:=by
  split
  · exact hrt
  · simp
 obtain⟨r2,hr2e⟩:∃ y,y=(if rt.length=32 then rt else []):=⟨_,rfl⟩
 obtain⟨k2,hk2e⟩:∃ y,y=decide (rt.length=32):=⟨_,rfl⟩
 rw[←hr2e] at K2 hr2
 rw[←hk2e] at K2
 have HR2L:Hid (r2.length≤1048576):=hr2
 have HS1:Hid (w.heap.size+1≤w1.heap.size):=hs1
 clear K1 HZ0 oc R1 G1 hrt hcl hcm hr2 hr2e hk2e B0 hs1
 go_wp2_with fail
 refine K2.mono ?_
 rintro e w3 ⟨rfl,b2⟩
 have HS3:Hid (w.heap.size+1≤w3.heap.size∧rd<w.heap.size):=⟨Nat.le_trans HS1.out b2.size,HLO.out.1⟩
 obtain⟨w4,hw4⟩:∃ W,W=w3.alloc (.cells #[.string ⟨r2.toArray⟩,.slice none 0 0,.bool false] 33):=⟨_,rfl⟩
 have B4:Below w1.heap.size w1 w4:=by rw[hw4];exact b2.alloc b2.size _
 have HM4:Hid (w4.heap[w3.heap.size]? = some (.cells #[.string ⟨r2.toArray⟩,.slice none 0 0,.bool false] 33 (0,0))):=by rw[hw4];exact heap_alloc_new w3 _
 have HZ4:Hid (w4.heap[w.heap.size]? = some (.cells #[.string ⟨#[]⟩,.slice none 0 0,.bool false] 33 (0,0))):=(B4.block _ HS1.out).trans HZ1.out
 have HC4:Hid (OwnC w4 (w.heap.size+1) 38 v cs vs):=HC1.out.later B4
 have HV4:Hid (∀ q,v.ownBlock=some q→q≠w3.heap.size∧q≠w.heap.size):=fun q hq=>by have h1:=HC1.out.row.lt q hq;have h2:=b2.size;omega
 have HU4:Hid (∀ (i:Nat) (u:Value) (q:Nat),vs[i]? = some u→u.ownBlock=some q→q≠w3.heap.size∧q≠w.heap.size):=fun i u q hi hq=>by have h1:=HC1.out.lt hi hq;have h2:=b2.size;omega
 have HR4:Hid (Rd rd a n9 cap w4):=HR1.out.keptNone B4
 have HG4:Hid (w.grownBy w4 (some rd)):=grown_below HG1.out B4
 have hv:=ownC_form HC4.out
 clear K2 b2 HZ1 HC1 HR1 HG1 B4 HS1
 rcases hv with ⟨rfl,rfl⟩ | ⟨g,cc,rfl,hgc,_,_⟩
 · have K3:=below_lenK rd n9 cap 1 1 a w4 rfl (by omega) (by omega) hn HR4.out
   have O0:Hid (w4.ownsRow (w.heap.size+1) 56 2 (.slice none 0 0) 0 (pcells [])):=World.ownsRow_nil _ _ _ _
   rw[hw4] at K3
   go_wp2_with fail
   refine K3.mono ?_
   rintro e w5 ⟨k,hk,rfl,R5,G5⟩
   rw[←hw4] at G5
   obtain rfl:k=0:=by omega
   have HM5:Hid (w5.heap[w3.heap.size]? = some (.cells #[.string ⟨r2.toArray⟩,.slice none 0 0,.bool false] 33 (0,0))):=(G5.block _ (lt_of_block HM4.out) (by have:=HS3.out;simp;omega)).trans HM4.out
   have HZ5:Hid (w5.heap[w.heap.size]? = some (.cells #[.string ⟨#[]⟩,.slice none 0 0,.bool false] 33 (0,0))):=(G5.block _ (lt_of_block HZ4.out) (by have:=HS3.out;simp;omega)).trans HZ4.out
   have HR5:Hid (Rd rd a n9 cap w5):=R5
   have HG5:Hid (w.grownBy w5 (some rd)):=HG4.out.trans G5
   have HC5:Hid (OwnC w5 (w.heap.size+1) 38 (.slice none 0 0) [] vs):=HC4.out.grown G5 (fun k hk _ e=>by have:=HS3.out;cases e;omega)
   clear K3 R5 G5 HM4 HZ4 HR4 HG4 HC4 hw4 hk
   go_wp2
   refine wp_loop_rounds 1 ?_
   rw[rounds_succ]
   obtain⟨p0,p1,p2,_⟩:=im_cells HM5.out
   obtain⟨z0,z1,z2,zf⟩:=im_cells HZ5.out
   have zf0:=zf 0
   have zf1:=zf 1
   have zf2:=zf 2
   have F7:Hid ((((w5.drew.setCell ⟨w.heap.size,0,none⟩ (.string ⟨r2.toArray⟩)).setCell ⟨w.heap.size,1,none⟩ (.slice none 0 0)).setCell ⟨w.heap.size,2,none⟩ (.bool false)).heap[w.heap.size]? = some (.cells #[.string ⟨r2.toArray⟩,.slice none 0 0,.bool false] 33 (0,0))):=ck_set (j:=2) (ck_set (j:=1) (ck_set (j:=0) (show w5.drew.heap[w.heap.size]? = some (.cells #[.string ⟨#[]⟩,.slice none 0 0,.bool false] 33 (0,0)) from HZ5.out)))
   have HO7:Hid ((((w5.drew.setCell ⟨w.heap.size,0,none⟩ (.string ⟨r2.toArray⟩)).setCell ⟨w.heap.size,1,none⟩ (.slice none 0 0)).setCell ⟨w.heap.size,2,none⟩ (.bool false)).ownsRow w.heap.size 56 2 (.slice none 0 0) 0 (pcells ([]:List PairL))):=World.ownsRow_nil _ _ _ _
   have HC7:Hid (OwnC (((w5.drew.setCell ⟨w.heap.size,0,none⟩ (.string ⟨r2.toArray⟩)).setCell ⟨w.heap.size,1,none⟩ (.slice none 0 0)).setCell ⟨w.heap.size,2,none⟩ (.bool false)) w.heap.size 38 (.slice none 0 0) [] vs):=ownC_mono (ownC_set (ownC_drewK HC5.out) (ck_grown _ _ _ _ _) (fun q hq=>(HV4.out q hq).2) (fun i u q hi hq=>(HU4.out i u q hi hq).2)) (Nat.le_succ _)
   have HR7:Hid (Rd rd a n9 cap (((w5.drew.setCell ⟨w.heap.size,0,none⟩ (.string ⟨r2.toArray⟩)).setCell ⟨w.heap.size,1,none⟩ (.slice none 0 0)).setCell ⟨w.heap.size,2,none⟩ (.bool false))):=rd_three (rd_drewK HR5.out) (by have:=HLO.out.1;omega) (fun cb off e hn=>by have:=HLO.out.2 cb off e hn;omega)
   have HG7:Hid (w.grownBy (((w5.drew.setCell ⟨w.heap.size,0,none⟩ (.string ⟨r2.toArray⟩)).setCell ⟨w.heap.size,1,none⟩ (.slice none 0 0)).setCell ⟨w.heap.size,2,none⟩ (.bool false)) (some rd)):=gr_three (gr_drewK HG5.out) (Nat.le_refl _)
   clear zf
   go_wp2
   go_region
   all_goals
    go_wp2
    refine bodyPost_ret (v:=.tuple #[.agg #[.string ⟨r2.toArray⟩,.slice none 0 0,.bool false],.slice none 0 0]) (results_im rfl _ _ w.heap.size 33 _ _ rfl F7.out Tryz.underlying33 rfl (by kernel_rfl) _ rfl) rfl ?_
    exact⟨r2,[],false,none,0,[],vs,.slice none 0 0,0,none,0,rfl,HR2L.out,by simp,fun p hp=>by simp at hp,HO7.out,by simp,fun q hq=>by simp at hq,HC7.out,Nat.le_refl _,fun h=>absurd h (by simp),HR7.out,HG7.out⟩
 · have HGC : Hid (cs.length ≤ cc) := hgc
   obtain⟨cn,hcn⟩:∃ y,y=cs.length:=⟨_,rfl⟩
   have HCN:Hid (cn=cs.length):=hcn
   have hcl0:(0:Int)≤(cn:Int):=by omega
   have hwl:IntKind.i64.wrap ((cn:Int)+1)=(cn:Int)+1:=i64_wrap_small _ (by omega) (by have:=HCM.out.1;omega)
   rw[←hcn] at HC4 HV4
   have K3:=below_lenK rd n9 cap (cn+1) ((cn:Int)+1) a w4 (by omega) (by omega) (by have:=HCM.out.1;omega) hn HR4.out
   rw[←hcn]
   clear hcn hgc
   rw[hw4] at K3
   go_wp2_with fail
   refine K3.mono ?_
   rintro e w5 ⟨k,hk,rfl,R5,G5⟩
   rw[←hw4] at G5
   have HM5:Hid (w5.heap[w3.heap.size]? = some (.cells #[.string ⟨r2.toArray⟩,.slice none 0 0,.bool false] 33 (0,0))):=(G5.block _ (lt_of_block HM4.out) (by have:=HS3.out;simp;omega)).trans HM4.out
   have HZ5:Hid (w5.heap[w.heap.size]? = some (.cells #[.string ⟨#[]⟩,.slice none 0 0,.bool false] 33 (0,0))):=(G5.block _ (lt_of_block HZ4.out) (by have:=HS3.out;simp;omega)).trans HZ4.out
   have HR5:Hid (Rd rd a n9 cap w5):=R5
   have HG5:Hid (w.grownBy w5 (some rd)):=HG4.out.trans G5
   have HC5:Hid (OwnC w5 (w.heap.size+1) 38 (.slice (some ⟨g,0,none⟩) cn cc) cs vs):=HC4.out.grown G5 (fun k hk _ e=>by have:=HS3.out;cases e;omega)
   have HK:Hid (k≤cn∧k≤11):=⟨by omega,by have:=HCM.out.1;have:=HCN.out;omega⟩
   have hk0:(0:Int)≤(k:Int):=by omega
   clear K3 R5 G5 HM4 HZ4 HR4 HG4 HC4 hw4 hk hwl
   go_wp2
   go_loopw [9] (fun i wr=>∃ (j:Nat) (r:List UInt8) (ps:List PairL) (d:Bool) (x:Option Addr) (c:Nat),i=.int .i64 (j:Int)∧j≤k∧Hid (wr.heap[w3.heap.size]? = some (.cells #[.string ⟨r.toArray⟩,.slice x ps.length c,.bool d] 33 (0,0)))∧Hid (r.length≤1048576∧ps.length≤60∧smallP ps)∧Hid (wr.ownsRow (w.heap.size+1) 56 2 (.slice x ps.length c) ps.length (pcells ps))∧Hid (∀ q,(Value.slice x ps.length c).ownBlock=some q→q≠w3.heap.size∧q≠w.heap.size)∧Hid (OwnC wr (w.heap.size+1) 38 (.slice (some ⟨g,0,none⟩) cn cc) cs vs)∧Hid (Rd rd a n9 cap wr)∧Hid (w.grownBy wr (some rd))∧Hid (wr.heap[w.heap.size]? = some (.cells #[.string ⟨#[]⟩,.slice none 0 0,.bool false] 33 (0,0)))) (fun i _=>12 - (intOf i).toNat)
   case atStart=>exact⟨0,r2,[],false,none,0,rfl,Nat.zero_le _,HM5,⟨HR2L.out,by simp,fun p hp=>by simp at hp⟩,World.ownsRow_nil _ _ _ _,fun q hq=>by simp[Value.ownBlock] at hq,HC5,HR5,HG5,HZ5⟩
   case round =>
    obtain⟨j,r,ps,d,x,c,rfl,hjk,HMr,HSr,HOr,HXr,HCr,HRr,HGr,HZr⟩:=hrel
    by_cases hlt:j<k
    · have hjc:j<cs.length:=by have:=HK.out.1;have:=HCN.out;omega
      obtain⟨u,ku,e0,e1,e2,ou⟩:=chunk_form HCr.out hjc
      have hq9:=HCM.out.2.1 cs[j] (List.getElem_mem _)
      obtain⟨⟨f9,l9,qs⟩,h9⟩:∃ y,y=cs[j]:=⟨_,rfl⟩
      rw[←h9] at e0 e1 e2 ou hq9
      dsimp only at e0 e1 e2 ou hq9
      obtain⟨_,is1,haa,hca⟩:=own_form HOr.out
      obtain⟨_,is2,haa2,hca2⟩:=own_form ou
      have KT:=spec_took r x u c ku ps qs ps.length qs.length haa hca haa2 hca2 rfl rfl d f9 l9 wr.drew HSr.out.1 (by have:=HSr.out;omega) (smallP_le HSr.out.2.2) (by omega) (smallP_le hq9.2) (is1.later ⟨rfl,rfl,rfl,Nat.le_refl _,fun _ _=>rfl⟩) (is2.later ⟨rfl,rfl,rfl,Nat.le_refl _,fun _ _=>rfl⟩)
      have hts:=took_small r ps qs d f9 l9 HSr.out.1 HSr.out.2.1 HSr.out.2.2 hq9.2
      obtain⟨r5,hr5⟩:∃ y,y=tookRoot r ps d:=⟨_,rfl⟩
      obtain⟨ps5,hp5⟩:∃ y,y=tookPs r ps d f9 l9 qs:=⟨_,rfl⟩
      obtain⟨d5,hd5⟩:∃ y,y=tookD r ps d f9 l9 qs:=⟨_,rfl⟩
      obtain⟨b5,hb5⟩:∃ y,y=tookB r ps d f9 l9 qs:=⟨_,rfl⟩
      rw[←hr5,←hp5,←hd5,←hb5] at KT
      rw[←hr5,←hp5] at hts
      have HS5:Hid (r5.length≤1048576∧ps5.length≤60∧smallP ps5):=hts
      obtain⟨p0,p1,p2,_⟩:=im_cells HMr.out
      have hj0:(0:Int)≤(j:Int):=by omega
      have hjn:(j:Int)<(cn:Int):=by have:=HCN.out;omega
      have hjk':(j:Int)<(k:Int):=by omega
      have hwj:IntKind.i64.wrap ((j:Int)+1)=(j:Int)+1:=i64_wrap_small _ (by omega) (by have:=HK.out;omega)
      obtain⟨ql,hql⟩:∃ y,y=qs.length:=⟨_,rfl⟩
      obtain⟨pl,hpl⟩:∃ y,y=ps.length:=⟨_,rfl⟩
      rw[←hql] at KT e2
      rw[←hpl] at KT p1
      have HWS:Hid (w3.heap.size<wr.heap.size∧w.heap.size<wr.heap.size):=⟨lt_of_block HMr.out,lt_of_block HZr.out⟩
      clear haa haa2 hca hca2 is1 is2 ou hq9 h9 hr5 hp5 hd5 hb5 hts hlt hjc hql hpl HSr HOr HXr HM5 HZ5 HC5 HR5 HG5
      go_wp2
      go_region_with (go_at_call 36;refine KT.mono ?_;rintro e w7 ⟨x5,m5,c5,rfl,o5,b5x⟩;obtain⟨rfl,_⟩:=own_form o5;have b7:Below wr.heap.size wr w7:=⟨b5x.os,b5x.tape,b5x.output,b5x.size,b5x.block⟩;have HB7:Hid (Below wr.heap.size wr w7):=b7;have HO7:Hid (w7.ownsRow wr.heap.size 56 2 (.slice x5 ps5.length c5) ps5.length (pcells ps5)):=o5;have HM7:Hid (w7.heap[w3.heap.size]? = wr.heap[w3.heap.size]?):=b7.block _ HWS.out.1;obtain⟨s0,s1,s2,sf⟩:=im_cells (HM7.out.trans HMr.out);have sf0:=sf 0;have sf1:=sf 1;have sf2:=sf 2;clear sf b5x b7 o5)
      all_goals
       have HM8:Hid ((((w7.setCell ⟨w3.heap.size,0,none⟩ (.string ⟨r5.toArray⟩)).setCell ⟨w3.heap.size,1,none⟩ (.slice x5 ps5.length c5)).setCell ⟨w3.heap.size,2,none⟩ (.bool d5)).heap[w3.heap.size]? = some (.cells #[.string ⟨r5.toArray⟩,.slice x5 ps5.length c5,.bool d5] 33 (0,0))):=ck_set (j:=2) (ck_set (j:=1) (ck_set (j:=0) (HM7.out.trans HMr.out)))
       have HX8:Hid (∀ q,(Value.slice x5 ps5.length c5).ownBlock=some q→q≠w3.heap.size∧q≠w.heap.size):=fun q hq=>by have h1:=HO7.out.lt q hq;have h2:=HWS.out;omega
       have HO8:Hid ((((w7.setCell ⟨w3.heap.size,0,none⟩ (.string ⟨r5.toArray⟩)).setCell ⟨w3.heap.size,1,none⟩ (.slice x5 ps5.length c5)).setCell ⟨w3.heap.size,2,none⟩ (.bool d5)).ownsRow (w.heap.size+1) 56 2 (.slice x5 ps5.length c5) ps5.length (pcells ps5)):=(own_three HO7.out (fun q hq=>(HX8.out q hq).1)).mono (by have:=HWS.out;omega)
       have HC8:Hid (OwnC (((w7.setCell ⟨w3.heap.size,0,none⟩ (.string ⟨r5.toArray⟩)).setCell ⟨w3.heap.size,1,none⟩ (.slice x5 ps5.length c5)).setCell ⟨w3.heap.size,2,none⟩ (.bool d5)) (w.heap.size+1) 38 (.slice (some ⟨g,0,none⟩) cn cc) cs vs):=ownC_set (HCr.out.later HB7.out) (ck_grown _ _ _ _ _) (fun q hq=>(HV4.out q hq).1) (fun i u q hi hq=>(HU4.out i u q hi hq).1)
       have HR8:Hid (Rd rd a n9 cap (((w7.setCell ⟨w3.heap.size,0,none⟩ (.string ⟨r5.toArray⟩)).setCell ⟨w3.heap.size,1,none⟩ (.slice x5 ps5.length c5)).setCell ⟨w3.heap.size,2,none⟩ (.bool d5))):=rd_three (HRr.out.keptNone HB7.out) (by have:=HS3.out;omega) (fun cb off e hn=>by have:=HLO.out.2 cb off e hn;have:=HS3.out;omega)
       have HG8:Hid (w.grownBy (((w7.setCell ⟨w3.heap.size,0,none⟩ (.string ⟨r5.toArray⟩)).setCell ⟨w3.heap.size,1,none⟩ (.slice x5 ps5.length c5)).setCell ⟨w3.heap.size,2,none⟩ (.bool d5)) (some rd)):=gr_three (grown_below HGr.out HB7.out) (by have:=HS3.out;omega)
       have HZ8:Hid ((((w7.setCell ⟨w3.heap.size,0,none⟩ (.string ⟨r5.toArray⟩)).setCell ⟨w3.heap.size,1,none⟩ (.slice x5 ps5.length c5)).setCell ⟨w3.heap.size,2,none⟩ (.bool d5)).heap[w.heap.size]? = some (.cells #[.string ⟨#[]⟩,.slice none 0 0,.bool false] 33 (0,0))):=(ck_far (by have:=HS3.out;omega)).trans ((HB7.out.block _ HWS.out.2).trans HZr.out)
       clear HM7 HO7 HB7 HMr HCr HRr HGr HZr s0 s1 s2
       go_wp2
       go_roundw
       case rel=>exact⟨j+1,r5,ps5,d5,x5,c5,by go_num,by omega,HM8,HS5,HO8,HX8,HC8,HR8,HG8,HZ8⟩
       case measure=>have:=HK.out;simp[intOf];omega
    · obtain rfl:j=k:=by omega
      have hjn:(j:Int)≤(cn:Int):=by have:=HK.out;omega
      have hcc:(cn:Int)≤(cc:Int):=by have:=HCN.out;have:=HGC.out;omega
      obtain⟨pl,hpl⟩:∃ y,y=ps.length:=⟨_,rfl⟩
      have HPL:Hid (pl=ps.length):=hpl
      rw[←hpl] at HMr HOr HXr
      clear hlt hpl HM5 HZ5 HC5 HR5 HG5
      by_cases hcj:cc=j
      · subst hcj
        obtain⟨p0,p1,p2,_⟩:=im_cells HMr.out
        obtain⟨z0,z1,z2,zf⟩:=im_cells HZr.out
        have zf0:=zf 0
        have zf1:=zf 1
        have zf2:=zf 2
        have F7:Hid ((((wr.drew.setCell ⟨w.heap.size,0,none⟩ (.string ⟨r.toArray⟩)).setCell ⟨w.heap.size,1,none⟩ (.slice x pl c)).setCell ⟨w.heap.size,2,none⟩ (.bool d)).heap[w.heap.size]? = some (.cells #[.string ⟨r.toArray⟩,.slice x pl c,.bool d] 33 (0,0))):=ck_set (j:=2) (ck_set (j:=1) (ck_set (j:=0) (show wr.drew.heap[w.heap.size]? = some (.cells #[.string ⟨#[]⟩,.slice none 0 0,.bool false] 33 (0,0)) from HZr.out)))
        have HO7:Hid ((((wr.drew.setCell ⟨w.heap.size,0,none⟩ (.string ⟨r.toArray⟩)).setCell ⟨w.heap.size,1,none⟩ (.slice x pl c)).setCell ⟨w.heap.size,2,none⟩ (.bool d)).ownsRow w.heap.size 56 2 (.slice x pl c) pl (pcells ps)):=by have h9:=own_three (g:=w.heap.size) (x:=.string ⟨r.toArray⟩) (y:=.slice x pl c) (z:=.bool d) HOr.out (fun q hq=>(HXr.out q hq).2);exact h9.mono (Nat.le_succ _)
        have HC7:Hid (OwnC (((wr.drew.setCell ⟨w.heap.size,0,none⟩ (.string ⟨r.toArray⟩)).setCell ⟨w.heap.size,1,none⟩ (.slice x pl c)).setCell ⟨w.heap.size,2,none⟩ (.bool d)) w.heap.size 38 (.slice (some ⟨g,0,none⟩) cn cc) cs vs):=ownC_mono (ownC_set (ownC_drewK HCr.out) (ck_grown _ _ _ _ _) (fun q hq=>(HV4.out q hq).2) (fun i u q hi hq=>(HU4.out i u q hi hq).2)) (Nat.le_succ _)
        have HR7:Hid (Rd rd a n9 cap (((wr.drew.setCell ⟨w.heap.size,0,none⟩ (.string ⟨r.toArray⟩)).setCell ⟨w.heap.size,1,none⟩ (.slice x pl c)).setCell ⟨w.heap.size,2,none⟩ (.bool d))):=rd_three (rd_drewK HRr.out) (by have:=HLO.out.1;omega) (fun cb off e hn=>by have:=HLO.out.2 cb off e hn;omega)
        have HG7:Hid (w.grownBy (((wr.drew.setCell ⟨w.heap.size,0,none⟩ (.string ⟨r.toArray⟩)).setCell ⟨w.heap.size,1,none⟩ (.slice x pl c)).setCell ⟨w.heap.size,2,none⟩ (.bool d)) (some rd)):=gr_three (gr_drewK HGr.out) (Nat.le_refl _)
        clear zf
        go_wp2
        go_region
        all_goals
         go_wp2
         refine bodyPost_ret (v:=.tuple #[.agg #[.string ⟨r.toArray⟩,.slice x pl c,.bool d],.slice (some ⟨g,0,none⟩) (cn - cc) 0]) (results_im rfl _ _ w.heap.size 33 _ _ rfl F7.out Tryz.underlying33 rfl (by kernel_rfl) _ rfl) rfl ?_
         have hpl:=HPL.out
         subst hpl
         exact⟨r,ps,d,x,c,cs,vs,_,cc,_,_,by rw[←HCN.out],HSr.out.1,HSr.out.2.1,HSr.out.2.2,HO7.out,HCM.out.1,HCM.out.2.1,HC7.out,by rw[←HCN.out];exact HK.out.1,fun h=>by have:=HGC.out;omega,HR7.out,HG7.out⟩
      · skip
        obtain⟨p0,p1,p2,_⟩:=im_cells HMr.out
        obtain⟨z0,z1,z2,zf⟩:=im_cells HZr.out
        have zf0:=zf 0
        have zf1:=zf 1
        have zf2:=zf 2
        have F7:Hid ((((wr.drew.setCell ⟨w.heap.size,0,none⟩ (.string ⟨r.toArray⟩)).setCell ⟨w.heap.size,1,none⟩ (.slice x pl c)).setCell ⟨w.heap.size,2,none⟩ (.bool d)).heap[w.heap.size]? = some (.cells #[.string ⟨r.toArray⟩,.slice x pl c,.bool d] 33 (0,0))):=ck_set (j:=2) (ck_set (j:=1) (ck_set (j:=0) (show wr.drew.heap[w.heap.size]? = some (.cells #[.string ⟨#[]⟩,.slice none 0 0,.bool false] 33 (0,0)) from HZr.out)))
        have HO7:Hid ((((wr.drew.setCell ⟨w.heap.size,0,none⟩ (.string ⟨r.toArray⟩)).setCell ⟨w.heap.size,1,none⟩ (.slice x pl c)).setCell ⟨w.heap.size,2,none⟩ (.bool d)).ownsRow w.heap.size 56 2 (.slice x pl c) pl (pcells ps)):=by have h9:=own_three (g:=w.heap.size) (x:=.string ⟨r.toArray⟩) (y:=.slice x pl c) (z:=.bool d) HOr.out (fun q hq=>(HXr.out q hq).2);exact h9.mono (Nat.le_succ _)
        have HC7:Hid (OwnC (((wr.drew.setCell ⟨w.heap.size,0,none⟩ (.string ⟨r.toArray⟩)).setCell ⟨w.heap.size,1,none⟩ (.slice x pl c)).setCell ⟨w.heap.size,2,none⟩ (.bool d)) w.heap.size 38 (.slice (some ⟨g,0,none⟩) cn cc) cs vs):=ownC_mono (ownC_set (ownC_drewK HCr.out) (ck_grown _ _ _ _ _) (fun q hq=>(HV4.out q hq).2) (fun i u q hi hq=>(HU4.out i u q hi hq).2)) (Nat.le_succ _)
        have HR7:Hid (Rd rd a n9 cap (((wr.drew.setCell ⟨w.heap.size,0,none⟩ (.string ⟨r.toArray⟩)).setCell ⟨w.heap.size,1,none⟩ (.slice x pl c)).setCell ⟨w.heap.size,2,none⟩ (.bool d))):=rd_three (rd_drewK HRr.out) (by have:=HLO.out.1;omega) (fun cb off e hn=>by have:=HLO.out.2 cb off e hn;omega)
        have HG7:Hid (w.grownBy (((wr.drew.setCell ⟨w.heap.size,0,none⟩ (.string ⟨r.toArray⟩)).setCell ⟨w.heap.size,1,none⟩ (.slice x pl c)).setCell ⟨w.heap.size,2,none⟩ (.bool d)) (some rd)):=gr_three (gr_drewK HGr.out) (Nat.le_refl _)
        clear zf
        go_wp2
        go_region
        all_goals
         go_wp2
         refine bodyPost_ret (v:=.tuple #[.agg #[.string ⟨r.toArray⟩,.slice x pl c,.bool d],.slice (some ⟨g,j*3,none⟩) (cn - j) (cc - j)]) (results_im rfl _ _ w.heap.size 33 _ _ rfl F7.out Tryz.underlying33 rfl (by kernel_rfl) _ rfl) rfl ?_
         have hpl:=HPL.out
         subst hpl
         exact⟨r,ps,d,x,c,cs,vs,_,j,_,_,by rw[←HCN.out],HSr.out.1,HSr.out.2.1,HSr.out.2.2,HO7.out,HCM.out.1,HCM.out.2.1,HC7.out,by rw[←HCN.out];exact HK.out.1,fun h=>⟨g,cc,by rw[HCN.out],rfl⟩,HR7.out,HG7.out⟩
theorem codeLtK {w:World} {a:Option Addr} {n:Nat} (h:Code w a n):∀ cb off,a=some ⟨cb,off,none⟩→n≠0→cb<w.heap.size:=fun cb off e hn=>by
 rcases h with h0 | ⟨cb',off',e',hlt,_⟩
 · exact absurd h0 hn
 · rw[e'] at e;cases e;exact hlt
theorem results_ccK {P:Program} {fn:Func} {p q:Tmp} {ty tz:TypeId} (h:fn.results=#[.cell p ty,.cell q tz]) (tmps:Array Value) (w:World) (g k:Nat) (t s:TypeId) (cs ds:Array Value) (d e:TypeDesc)
 (hp:tmps.getD p undef=.pointer (some ⟨g,0,none⟩)) (hg:w.heap[g]? = some (.cells cs t (0,0))) (hu:P.underlying ty=some d) (hd:(match d with | .struct _ | .array _ _=>true | _=>false)=true) (hi:(P.info? ty).map (·.size)=some cs.size)
 (hq:tmps.getD q undef=.pointer (some ⟨k,0,none⟩)) (hk:w.heap[k]? = some (.cells ds s (0,0))) (hv:P.underlying tz=some e) (he:(match e with | .struct _ | .array _ _=>true | _=>false)=true) (hj:(P.info? tz).map (·.size)=some ds.size) :
 (results fn tmps).run P w=.ok (.tuple #[.agg cs,.agg ds]) w:=by
 have hp':tmps[p]?.getD undef=.pointer (some ⟨g,0,none⟩):=by simpa using hp
 have hq':tmps[q]?.getD undef=.pointer (some ⟨k,0,none⟩):=by simpa using hq
 simp[results,h,hp',hq',asAddr,run_loadVar_row w g t ty cs (0,0) d hg hu hd hi,run_loadVar_row w k s tz ds (0,0) e hk hv he hj]
theorem tookD_end {w w1 w2 w3 W:World} {r:List UInt8} {ps qs:List PairL} {x u:Option Addr} {pl c ql ku:Nat} {d f l:Bool} {A B:Prop} {e:Ending} (he:e=.returned (.tuple #[.agg #[.string ⟨r.toArray⟩,.slice x pl c,.bool d],.agg #[.bool f,.bool l,.slice u ql ku]])) (h:pl=ps.length∧r.length≤1048576∧ps.length≤60∧smallP ps) (hq:ql=qs.length) (hs:ql≤10∧smallP qs) (hS:w.heap.size+2<w1.heap.size∧w1.heap.size≤w2.heap.size∧w3.heap.size=w2.heap.size+2)
 (F:A∧B∧W.ownsRow w1.heap.size 56 2 (.slice x pl c) pl (pcells ps)∧W.ownsRow w1.heap.size 56 2 (.slice u ql ku) ql (pcells qs)∧Below w.heap.size w W):∃ (r:List UInt8) (ps:List PairL) (d:Bool) (x:Option Addr) (c:Nat) (f l:Bool) (u:Option Addr) (qs:List PairL) (ku:Nat),e=.returned (.tuple #[.agg #[.string ⟨r.toArray⟩,.slice x ps.length c,.bool d],.agg #[.bool f,.bool l,.slice u qs.length ku]])∧r.length≤1048576∧ps.length≤60∧smallP ps∧qs.length≤10∧smallP qs∧W.ownsRow w.heap.size 56 2 (.slice x ps.length c) ps.length (pcells ps)∧W.ownsRow w.heap.size 56 2 (.slice u qs.length ku) qs.length (pcells qs)∧Below w.heap.size w W:=by
 obtain⟨rfl,h1,h2,h3⟩:=h
 subst hq
 exact⟨r,ps,d,x,c,f,l,u,qs,ku,he,h1,h2,h3,hs.1,hs.2,F.2.2.1.mono (by omega),F.2.2.2.1.mono (by omega),F.2.2.2.2⟩
end Go.Proofs.YtahocpjieffbaaaGreatDoor
