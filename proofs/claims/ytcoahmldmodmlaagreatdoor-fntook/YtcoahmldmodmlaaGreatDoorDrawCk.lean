/-
 Contracts: drawn chunks, drawn imports (written by mkdrawck.py).
-/
import Derived.Test.YtcoahmldmodmlaaGreatDoorTookSG
import Derived.Test.YtcoahmldmodmlaaGreatDoorSChunks
import Derived.Test.YtcoahmldmodmlaaGreatDoorDrawPs
import Derived.Test.YtcoahmldmodmlaaGreatDoorEmptyR
import Derived.Test.YtcoahmldmodmlaaGreatDoorLaidAll
import Derived.Deep.RegionWith
import Derived.Deep.RegionHeld3
import Derived.Deep.CutRange
namespace Go.Proofs.YtcoahmldmodmlaaGreatDoor
open Go.RowKit
set_option linter.unusedVariables false
theorem chunksR_len (ps:List PairL) (mo:Int):(chunksR ps mo).length≤ps.length+1:=by
 unfold chunksR
 split
 · unfold chunksL
   rw[chunksTo_length]
   unfold chunksN
   split
   · omega
   · have:=Nat.div_le_self (ps.length - 1) mo.toNat;omega
 · simp
theorem chunksR_mem (ps:List PairL) (mo:Int):∀ q∈chunksR ps mo,q.2.2.length≤ps.length∧∀ p∈q.2.2,p∈ps:=by
 intro q hq
 unfold chunksR at hq
 split at hq
 · simp only[chunksL,chunksTo,List.mem_map,List.mem_range] at hq
   obtain⟨i,_,rfl⟩:=hq
   exact⟨by rw[chunkAt_len];omega,fun p hp=>List.mem_of_mem_drop (List.mem_of_mem_take hp)⟩
 · simp at hq
theorem own_form {w:World} {lo e n m c:Nat} {a:Option Addr} {ps:List PairL} (h:w.ownsRow lo e 2 (.slice a m c) n (pcells ps)):m=ps.length∧IsPairs w a ps∧(a=none∨∃ b off,a=some ⟨b,off,none⟩)∧(a=none→c=0):=by
 obtain⟨h1,_,h3⟩:=isPairs_own h
 rcases h.2 with ⟨e1,_⟩ | ⟨g,cap,cur,e1,_⟩
 · cases e1;exact⟨h1,h3,.inl rfl,fun _=>rfl⟩
 · cases e1;exact⟨h1,h3,.inr ⟨g,0,rfl⟩,fun h=>by cases h⟩
theorem ownC_form {w:World} {lo e:Nat} {v:Value} {cs:List ChL} {vs:List Value} (h:OwnC w lo e v cs vs):(v=.slice none 0 0∧cs=[])∨∃ g cap,v=.slice (some ⟨g,0,none⟩) cs.length cap∧cs.length≤cap∧lo≤g∧g<w.heap.size:=by
 have hr:=h.row
 rcases hr.2 with ⟨e1,h0⟩ | ⟨g,cap,cur,e1,h1,h2,h3,_⟩
 · exact .inl ⟨e1,List.eq_nil_of_length_eq_zero h0⟩
 · exact .inr ⟨g,cap,e1,h3,h1,lt_of_block h2⟩
theorem chunk_form {w:World} {lo e:Nat} {cs:List ChL} {vs:List Value} {g m cap j:Nat} (h:OwnC w lo e (.slice (some ⟨g,0,none⟩) m cap) cs vs) (hj:j<cs.length):∃ (u:Option Addr) (k:Nat),w.cell? ⟨g,j*3,none⟩=some (.bool cs[j].1)∧w.cell? ⟨g,j*3+1,none⟩=some (.bool cs[j].2.1)∧w.cell? ⟨g,j*3+2,none⟩=some (.slice u cs[j].2.2.length k)∧w.ownsRow lo 46 2 (.slice u cs[j].2.2.length k) cs[j].2.2.length (pcells cs[j].2.2):=by
 have hm:m=cs.length:=by
  rcases ownC_form h with ⟨e1,_⟩ | ⟨g',c',e1,_⟩
  · cases e1
  · cases e1;rfl
 subst hm
 have hv:j<vs.length:=by rw[h.len];exact hj
 have hk:=h.kid j cs[j] vs[j] (List.getElem?_eq_getElem hj) (List.getElem?_eq_getElem hv)
 obtain⟨c0,c1,c2⟩:=ccells_at cs vs j cs[j] vs[j] (List.getElem?_eq_getElem hj) (List.getElem?_eq_getElem hv)
 obtain⟨u,m9,k,e9⟩:=own_slice2 hk
 rw[e9] at hk c2
 obtain⟨rfl,_⟩:=own_form hk
 exact⟨u,k,(h.row.cellAt (j*3) (by omega)).trans c0,(h.row.cellAt (j*3+1) (by omega)).trans c1,(h.row.cellAt (j*3+2) (by omega)).trans c2,hk⟩
theorem below_lenK (rd n cap m:Nat) (x:Int) (a:Option Addr) (w:World) (hx:x=(m:Int)) (hm:1≤m) (hm2:m≤256) (hn:n≤1048576) (h:Rd rd a n cap w) :
 Calls Tryz.prog 14 #[.pointer (some ⟨rd,0,none⟩),.int .i64 x] w fun e w'=>∃ x:Nat,x<m∧e=.returned (.int .i64 (x:Int))∧Rd rd a n cap w'∧w.grownBy w' (some rd):=by
 by_cases h1:m=1
 · subst hx h1
   have HR:Hid (Rd rd a n cap w):=h
   clear h
   go_enter Tryz.func14,Tryz.ntmps14
   go_wp2
   go_ret
   exact⟨0,by omega,rfl,HR.out,World.grownBy.refl _ _⟩
 · exact below_any rd n cap m x a w hx (by omega) hm2 hn h
theorem smallP_app {ps qs:List PairL} (h:smallP ps) (k:smallP qs):smallP (ps ++ qs):=fun p hp=>(List.mem_append.1 hp).elim (h p) (k p)
theorem took_small (r:List UInt8) (ps qs:List PairL) (d f l:Bool) (hr:r.length≤1048576) (hl:ps.length≤60) (h:smallP ps) (k:smallP qs):(tookRoot r ps d).length≤1048576∧(tookPs r ps d f l qs).length≤60∧smallP (tookPs r ps d f l qs):=by
 refine⟨?_,?_⟩
 · unfold tookRoot;split
   · exact hr
   · simp
 · unfold tookPs
   split
   · split
     · rename_i h1 h2
       unfold tookB at h2
       simp only[Bool.and_eq_true] at h2
       exact⟨(pairsOk_of _ h2.2.2.2.1).1,smallP_app h k⟩
     · exact⟨hl,h⟩
   · exact⟨by simp,fun p hp=>by simp at hp⟩
theorem smallP_le {ps:List PairL} (h:smallP ps):∀ p∈ps,p.1.length≤1048576∧p.2.length≤1048576:=fun p hp=>by have:=h p hp;omega
theorem ck_set {w:World} {b j:Nat} {u v x y:Value} {t:TypeId} (h:w.heap[b]? = some (.cells #[u,v,x] t (0,0))):(w.setCell ⟨b,j,none⟩ y).heap[b]? = some (.cells (#[u,v,x].setIfInBounds j y) t (0,0)):=im_set h
theorem ck_far {w:World} {b g:Nat} {x y z:Value} (hne:b≠g):(((w.setCell ⟨g,0,none⟩ x).setCell ⟨g,1,none⟩ y).setCell ⟨g,2,none⟩ z).heap[b]? = w.heap[b]? := (Below.heap_setCell _ _ _ _ hne).trans ((Below.heap_setCell _ _ _ _ hne).trans (Below.heap_setCell _ _ _ _ hne))
theorem ck_grown (w:World) (g:Nat) (x y z:Value):w.grownBy (((w.setCell ⟨g,0,none⟩ x).setCell ⟨g,1,none⟩ y).setCell ⟨g,2,none⟩ z) (some g):=⟨rfl,rfl,rfl,by simp[World.setCell],fun k _ hk=>ck_far (fun e=>hk (by rw[e]))⟩
theorem rd_three {rd n cap g:Nat} {a:Option Addr} {w:World} {x y z:Value} (h:Rd rd a n cap w) (hg:g≠rd) (hc:∀ cb off,a=some ⟨cb,off,none⟩→n≠0→cb≠g):Rd rd a n cap (((w.setCell ⟨g,0,none⟩ x).setCell ⟨g,1,none⟩ y).setCell ⟨g,2,none⟩ z) :=
 h.kept (ck_grown w g x y z) (by simp;exact hg) (fun cb off e hn=>by have:=hc cb off e hn;simp;exact this)
set_option maxRecDepth 100000 in
set_option maxHeartbeats 1000000 in
theorem chunks_any (rd n cap:Nat) (a:Option Addr) (w:World) (hn:n≤1048576) (h:Rd rd a n cap w) :
 Calls Tryz.prog 25 #[.pointer (some ⟨rd,0,none⟩)] w fun e w'=>∃ (v:Value) (cs:List ChL) (vs:List Value) (rt:List UInt8),e=.returned (.tuple #[v,.string ⟨rt.toArray⟩])∧OwnC w' w.heap.size 28 v cs vs∧rt.length≤1048576∧cs.length≤11∧(∀ q∈cs,q.2.2.length≤10∧smallP q.2.2)∧Rd rd a n cap w'∧w.grownBy w' (some rd):=by
 have K1:=pairs_any rd n cap 9 9 a w rfl (by omega) (by omega) hn h
 have hrd:=h.lt
 clear h
 go_enter Tryz.func25,Tryz.ntmps25
 go_wp2_with fail
 refine K1.mono ?_
 rintro e w1 ⟨ps,g,c,hpl,hsm,rfl,o1,R1,G1⟩
 have hs1:=(isPairs_own o1).2.2
 have hc1:=own_le o1
 have K2:=spec_rootOf (some ⟨g,0,none⟩) c ps w1 (by omega) (smallP_le hsm) hs1
 have hrl:=root_le ps
 obtain⟨rr,hrr⟩:∃ x,x=rootR ps:=⟨_,rfl⟩
 obtain⟨rk,hrk⟩:∃ x,x=rootOk ps:=⟨_,rfl⟩
 rw[←hrr] at hrl
 rw[←hrr,←hrk] at K2
 have HR1:Hid (Rd rd a n cap w1):=R1
 have HG1:Hid (w.grownBy w1 (some rd)):=G1
 have HO1:Hid (w1.ownsRow w.heap.size 46 2 (.slice (some ⟨g,0,none⟩) ps.length c) ps.length (pcells ps)):=o1
 have HSM:Hid (smallP ps∧ps.length≤10∧ps.length≤c∧rr.length≤1048576∧rd<w.heap.size):=⟨hsm,hpl,hc1,hrl,hrd⟩
 clear K1 o1 R1 G1 hs1 hrr hrk hpl hsm hc1 hrl hrd
 go_wp2_with fail
 refine K2.mono ?_
 rintro e w2 ⟨rfl,b2⟩
 have HR2:Hid (Rd rd a n cap w2):=HR1.out.keptNone b2
 have HG2:Hid (w.grownBy w2 (some rd)):=grown_below HG1.out b2
 have HO2:Hid (w2.ownsRow w.heap.size 46 2 (.slice (some ⟨g,0,none⟩) ps.length c) ps.length (pcells ps)):=kept_new HO1.out b2
 clear K2 b2 HR1 HG1 HO1
 go_upto_if 17 with fail
 go_cut [5] from 16 to 19 (fun v wx=>∃ rt:List UInt8,v=.string ⟨rt.toArray⟩∧Hid (rt.length≤1048576)∧Hid (Rd rd a n cap wx)∧Hid (w.grownBy wx (some rd))∧Hid (wx.ownsRow w.heap.size 46 2 (.slice (some ⟨g,0,none⟩) ps.length c) ps.length (pcells ps)))
 case first =>
  cases rk with
  | true =>
    go_wp2
    go_meet
    exact⟨rr,rfl,HSM.out.2.2.2.1,HR2,HG2,HO2⟩
  | false =>
    have KE:=spec_empty w2
    have hel:emptyL.length=32:=sumL_len _
    obtain⟨em,hem⟩:∃ x,x=emptyL:=⟨_,rfl⟩
    rw[←hem] at KE hel
    have HEL:Hid (em.length≤1048576):=by rw[Hid,hel];omega
    clear hem hel
    go_wp2_with fail
    refine KE.mono ?_
    rintro e w3 ⟨rfl,b3⟩
    have HR3:Hid (Rd rd a n cap w3):=HR2.out.keptNone b3
    have HG3:Hid (w.grownBy w3 (some rd)):=grown_below HG2.out b3
    have HO3:Hid (w3.ownsRow w.heap.size 46 2 (.slice (some ⟨g,0,none⟩) ps.length c) ps.length (pcells ps)):=kept_new HO2.out b3
    clear KE b3
    go_wp2
    go_meet
    exact⟨em,rfl,HEL,HR3,HG3,HO3⟩
 case rest =>
 obtain⟨rt,rfl,HRT,HR3,HG3,HO3⟩:=hcut
 obtain⟨w3,rfl⟩:∃ W,W=wc:=⟨_,rfl⟩
 clear HR2 HG2 HO2
 have K4:=below_any rd n cap 4 4 a w3 rfl (by omega) (by omega) hn HR3.out
 go_wp2_with fail
 refine K4.mono ?_
 rintro e w4 ⟨x,hx,rfl,R4,G4⟩
 have HR4:Hid (Rd rd a n cap w4):=R4
 have HG4:Hid (w.grownBy w4 (some rd)):=HG3.out.trans G4
 have HO4:Hid (w4.ownsRow w.heap.size 46 2 (.slice (some ⟨g,0,none⟩) ps.length c) ps.length (pcells ps)):=keptR HO3.out G4 (rd_far HO3.out HSM.out.2.2.2.2)
 have K5:=spec_chunksOf g 0 c ps (1+(x:Int)) w4 (by have:=HSM.out;omega) HSM.out.2.2.1 (smallP_le HSM.out.1) (isPairs_own HO4.out).2.2
 have hwx:IntKind.i64.wrap (1+(x:Int))=1+(x:Int):=i64_wrap_small _ (by omega) (by omega)
 have hcl:=chunksR_len ps (1+(x:Int))
 have hcm:=chunksR_mem ps (1+(x:Int))
 obtain⟨cs,hcs⟩:∃ y,y=chunksR ps (1+(x:Int)):=⟨_,rfl⟩
 obtain⟨ck,hck⟩:∃ y,y=chunksOkL ps (1+(x:Int)):=⟨_,rfl⟩
 rw[←hcs] at hcl hcm K5
 rw[←hck] at K5
 have HCM:Hid (cs.length≤11∧∀ q∈cs,q.2.2.length≤10∧smallP q.2.2):=⟨by have:=HSM.out;omega,fun q hq=>⟨by have:=(hcm q hq).1;have:=HSM.out;omega,fun p hp=>HSM.out.1 p ((hcm q hq).2 p hp)⟩⟩
 clear K4 R4 G4 HR3 HG3 HO3 hcl hcm hcs hck
 go_wp2_with fail
 refine K5.mono ?_
 rintro e w5 ⟨v,vs,rfl,oc,b5⟩
 have HR5:Hid (Rd rd a n cap w5):=HR4.out.keptNone b5
 have HG5:Hid (w.grownBy w5 (some rd)):=grown_below HG4.out b5
 have HC5:Hid (OwnC w5 w.heap.size 28 v cs vs):=⟨oc.len,oc.row.mono HG4.out.size,fun j c u h1 h2=>(oc.kid j c u h1 h2).mono HG4.out.size,oc.apart,oc.far⟩
 clear K5 oc b5 HR4 HG4 HO4
 go_wp2
 go_ret2
 exact⟨v,cs,vs,rt,rfl,HC5.out,HRT.out,HCM.out.1,HCM.out.2,HR5.out,HG5.out⟩
theorem blk_drewK {w:World} {b:Nat} {o:Option Obj} (h:w.heap[b]? = o):w.drew.heap[b]? = o:=h
theorem own_drewK {w:World} {b e s n:Nat} {v:Value} {xs:List Value} (h:w.ownsRow b e s v n xs):w.drew.ownsRow b e s v n xs:=h
theorem below_drewK {n:Nat} {w w':World} (h:Below n w w'):Below n w w'.drew:=⟨h.os,h.tape,h.output,h.size,h.block⟩
theorem ownC_set {w w':World} {lo e b:Nat} {v:Value} {cs:List ChL} {vs:List Value} (h:OwnC w lo e v cs vs) (hg:w.grownBy w' (some b)) (hv:∀ q,v.ownBlock=some q→q≠b) (hu:∀ (i:Nat) (u:Value) (q:Nat),vs[i]? = some u→u.ownBlock=some q→q≠b):OwnC w' lo e v cs vs :=
 ⟨h.len,kept_row h.row hg (fun k hk e=>hv k hk (by cases e;rfl)),fun j c u h1 h2=>kept_row (h.kid j c u h1 h2) hg (fun k hk e=>hu j u k h2 hk (by cases e;rfl)),h.apart,h.far⟩
theorem ownC_mono {w:World} {lo lo' e:Nat} {v:Value} {cs:List ChL} {vs:List Value} (h:OwnC w lo e v cs vs) (hl:lo'≤lo):OwnC w lo' e v cs vs :=
 ⟨h.len,h.row.mono hl,fun j c u h1 h2=>(h.kid j c u h1 h2).mono hl,h.apart,h.far⟩
theorem own_three {w:World} {lo e g n:Nat} {v:Value} {xs:List Value} {x y z:Value} (h:w.ownsRow lo e 2 v n xs) (hg:∀ q,v.ownBlock=some q→q≠g):(((w.setCell ⟨g,0,none⟩ x).setCell ⟨g,1,none⟩ y).setCell ⟨g,2,none⟩ z).ownsRow lo e 2 v n xs:=kept_row h (ck_grown w g x y z) (fun k hk e=>hg k hk (by cases e;rfl))
theorem gr_three {w w':World} {rd g:Nat} {x y z:Value} (h:w.grownBy w' (some rd)) (hg:w.heap.size≤g):w.grownBy (((w'.setCell ⟨g,0,none⟩ x).setCell ⟨g,1,none⟩ y).setCell ⟨g,2,none⟩ z) (some rd) :=
 ⟨h.os,h.tape,h.output,by simpa [World.setCell] using h.size,fun k hk hn=>(ck_far (by omega)).trans (h.block k hk hn)⟩
theorem gr_drewK {w w':World} {row:Option Nat} (h:w.grownBy w' row):w.grownBy w'.drew row:=⟨h.os,h.tape,h.output,h.size,h.block⟩
theorem rd_drewK {rd n cap:Nat} {a:Option Addr} {w:World} (h:Rd rd a n cap w):Rd rd a n cap w.drew:=h.keptNone ⟨rfl,rfl,rfl,Nat.le_refl _,fun _ _=>rfl⟩
theorem ownC_drewK {w:World} {lo e:Nat} {v:Value} {cs:List ChL} {vs:List Value} (h:OwnC w lo e v cs vs):OwnC w.drew lo e v cs vs:=⟨h.len,h.row,h.kid,h.apart,h.far⟩
set_option maxRecDepth 100000 in
set_option maxHeartbeats 1000000 in
theorem imported_any (rd n9 cap : Nat) (a : Option Addr) (w : World) (hn : n9 ≤ 1048576) (h : Rd rd a n9 cap w) :
 Calls Tryz.prog 13 #[.pointer (some ⟨rd,0,none⟩)] w fun e w'=>∃ (r:List UInt8) (ps:List PairL) (d:Bool) (x:Option Addr) (c:Nat) (cs:List ChL) (vs:List Value) (v:Value) (k:Nat) (y:Option Addr) (yc:Nat),e=.returned (.tuple #[.agg #[.string ⟨r.toArray⟩,.slice x ps.length c,.bool d],.slice y (cs.length - k) yc])∧r.length≤1048576∧ps.length≤60∧smallP ps∧w'.ownsRow w.heap.size 46 2 (.slice x ps.length c) ps.length (pcells ps)∧cs.length≤11∧(∀ q∈cs,q.2.2.length≤10∧smallP q.2.2)∧OwnC w' w.heap.size 28 v cs vs∧k≤cs.length∧(k<cs.length→∃ g cc,v=.slice (some ⟨g,0,none⟩) cs.length cc∧y=some ⟨g,k*3,none⟩)∧Rd rd a n9 cap w'∧w.grownBy w' (some rd):=by
 have hrd:=h.lt
 have B0:Below w.heap.size w (w.alloc (.cells #[.string ⟨#[]⟩,.slice none 0 0,.bool false] 26)):=(Below.refl _ _).alloc (Nat.le_refl _) _
 have K1:=chunks_any rd n9 cap a (w.alloc (.cells #[.string ⟨#[]⟩,.slice none 0 0,.bool false] 26)) hn (h.keptNone B0)
 have HZ0:Hid ((w.alloc (.cells #[.string ⟨#[]⟩,.slice none 0 0,.bool false] 26)).heap[w.heap.size]? = some (.cells #[.string ⟨#[]⟩,.slice none 0 0,.bool false] 26 (0,0))):=heap_alloc_new w _
 have HLO:Hid (rd<w.heap.size∧∀ cb off,a=some ⟨cb,off,none⟩→n9≠0→cb<w.heap.size):=⟨hrd,h.code⟩
 clear h hrd
 go_enter Tryz.func13,Tryz.ntmps13
 go_wp2_with fail
 refine K1.mono ?_
 rintro e w1 ⟨v,cs,vs,rt,rfl,oc,hrt,hcl,hcm,R1,G1⟩
 have hs1:w.heap.size+1≤w1.heap.size:=by have:=G1.size;simpa using this
 have HZ1:Hid (w1.heap[w.heap.size]? = some (.cells #[.string ⟨#[]⟩,.slice none 0 0,.bool false] 26 (0,0))):=(G1.block _ (by simp) (by have:=HLO.out.1;simp;omega)).trans HZ0.out
 have HC1:Hid (OwnC w1 (w.heap.size+1) 28 v cs vs):=by
  have e9:(w.alloc (.cells #[.string ⟨#[]⟩,.slice none 0 0,.bool false] 26)).heap.size=w.heap.size+1:=by simp
  rw[e9] at oc
  exact oc
 have HR1:Hid (Rd rd a n9 cap w1):=R1
 have HG1:Hid (w.grownBy w1 (some rd)):=⟨G1.os.trans B0.os,G1.tape.trans B0.tape,G1.output.trans B0.output,by omega,fun q hq hne=>(G1.block q (by simp;omega) hne).trans (B0.block q hq)⟩
 have HCM:Hid (cs.length≤11∧(∀ q∈cs,q.2.2.length≤10∧smallP q.2.2)∧rt.length≤1048576):=⟨hcl,hcm,hrt⟩
 have K2:=spec_importNew rt w1 hrt
 have hr2:(if rt.length=32 then rt else []).length≤1048576:=by
  split
  · exact hrt
  · simp
 obtain⟨r2,hr2e⟩:∃ y,y=(if rt.length=32 then rt else []):=⟨_,rfl⟩
 obtain⟨k2,hk2e⟩:∃ y,y=decide (rt.length=32):=⟨_,rfl⟩
 rw[←hr2e] at K2 hr2
 rw[←hk2e] at K2
 have HR2L:Hid (r2.length≤1048576):=hr2
 have HS1:Hid (w.heap.size+1≤w1.heap.size):=hs1
 clear K1 HZ0 oc R1 G1 hrt hcl hcm hr2 hr2e hk2e B0 hs1
 go_wp2_with fail
 refine K2.mono ?_
 rintro e w3 ⟨rfl,b2⟩
 have HS3:Hid (w.heap.size+1≤w3.heap.size∧rd<w.heap.size):=⟨Nat.le_trans HS1.out b2.size,HLO.out.1⟩
 obtain⟨w4,hw4⟩:∃ W,W=w3.alloc (.cells #[.string ⟨r2.toArray⟩,.slice none 0 0,.bool false] 26):=⟨_,rfl⟩
 have B4:Below w1.heap.size w1 w4:=by rw[hw4];exact b2.alloc b2.size _
 have HM4:Hid (w4.heap[w3.heap.size]? = some (.cells #[.string ⟨r2.toArray⟩,.slice none 0 0,.bool false] 26 (0,0))):=by rw[hw4];exact heap_alloc_new w3 _
 have HZ4:Hid (w4.heap[w.heap.size]? = some (.cells #[.string ⟨#[]⟩,.slice none 0 0,.bool false] 26 (0,0))):=(B4.block _ HS1.out).trans HZ1.out
 have HC4:Hid (OwnC w4 (w.heap.size+1) 28 v cs vs):=HC1.out.later B4
 have HV4:Hid (∀ q,v.ownBlock=some q→q≠w3.heap.size∧q≠w.heap.size):=fun q hq=>by have h1:=HC1.out.row.lt q hq;have h2:=b2.size;omega
 have HU4:Hid (∀ (i:Nat) (u:Value) (q:Nat),vs[i]? = some u→u.ownBlock=some q→q≠w3.heap.size∧q≠w.heap.size):=fun i u q hi hq=>by have h1:=HC1.out.lt hi hq;have h2:=b2.size;omega
 have HR4:Hid (Rd rd a n9 cap w4):=HR1.out.keptNone B4
 have HG4:Hid (w.grownBy w4 (some rd)):=grown_below HG1.out B4
 have hv:=ownC_form HC4.out
 clear K2 b2 HZ1 HC1 HR1 HG1 B4 HS1
 rcases hv with ⟨rfl,rfl⟩ | ⟨g,cc,rfl,hgc,_,_⟩
 · have K3:=below_lenK rd n9 cap 1 1 a w4 rfl (by omega) (by omega) hn HR4.out
   have O0:Hid (w4.ownsRow (w.heap.size+1) 46 2 (.slice none 0 0) 0 (pcells [])):=World.ownsRow_nil _ _ _ _
   rw[hw4] at K3
   go_wp2_with fail
   refine K3.mono ?_
   rintro e w5 ⟨k,hk,rfl,R5,G5⟩
   rw[←hw4] at G5
   obtain rfl:k=0:=by omega
   have HM5:Hid (w5.heap[w3.heap.size]? = some (.cells #[.string ⟨r2.toArray⟩,.slice none 0 0,.bool false] 26 (0,0))):=(G5.block _ (lt_of_block HM4.out) (by have:=HS3.out;simp;omega)).trans HM4.out
   have HZ5:Hid (w5.heap[w.heap.size]? = some (.cells #[.string ⟨#[]⟩,.slice none 0 0,.bool false] 26 (0,0))):=(G5.block _ (lt_of_block HZ4.out) (by have:=HS3.out;simp;omega)).trans HZ4.out
   have HR5:Hid (Rd rd a n9 cap w5):=R5
   have HG5:Hid (w.grownBy w5 (some rd)):=HG4.out.trans G5
   have HC5:Hid (OwnC w5 (w.heap.size+1) 28 (.slice none 0 0) [] vs):=HC4.out.grown G5 (fun k hk _ e=>by have:=HS3.out;cases e;omega)
   clear K3 R5 G5 HM4 HZ4 HR4 HG4 HC4 hw4 hk
   go_wp2
   refine wp_loop_rounds 1 ?_
   rw[rounds_succ]
   obtain⟨p0,p1,p2,_⟩:=im_cells HM5.out
   obtain⟨z0,z1,z2,zf⟩:=im_cells HZ5.out
   have zf0:=zf 0
   have zf1:=zf 1
   have zf2:=zf 2
   have F7:Hid ((((w5.drew.setCell ⟨w.heap.size,0,none⟩ (.string ⟨r2.toArray⟩)).setCell ⟨w.heap.size,1,none⟩ (.slice none 0 0)).setCell ⟨w.heap.size,2,none⟩ (.bool false)).heap[w.heap.size]? = some (.cells #[.string ⟨r2.toArray⟩,.slice none 0 0,.bool false] 26 (0,0))):=ck_set (j:=2) (ck_set (j:=1) (ck_set (j:=0) (show w5.drew.heap[w.heap.size]? = some (.cells #[.string ⟨#[]⟩,.slice none 0 0,.bool false] 26 (0,0)) from HZ5.out)))
   have HO7:Hid ((((w5.drew.setCell ⟨w.heap.size,0,none⟩ (.string ⟨r2.toArray⟩)).setCell ⟨w.heap.size,1,none⟩ (.slice none 0 0)).setCell ⟨w.heap.size,2,none⟩ (.bool false)).ownsRow w.heap.size 46 2 (.slice none 0 0) 0 (pcells ([]:List PairL))):=World.ownsRow_nil _ _ _ _
   have HC7:Hid (OwnC (((w5.drew.setCell ⟨w.heap.size,0,none⟩ (.string ⟨r2.toArray⟩)).setCell ⟨w.heap.size,1,none⟩ (.slice none 0 0)).setCell ⟨w.heap.size,2,none⟩ (.bool false)) w.heap.size 28 (.slice none 0 0) [] vs):=ownC_mono (ownC_set (ownC_drewK HC5.out) (ck_grown _ _ _ _ _) (fun q hq=>(HV4.out q hq).2) (fun i u q hi hq=>(HU4.out i u q hi hq).2)) (Nat.le_succ _)
   have HR7:Hid (Rd rd a n9 cap (((w5.drew.setCell ⟨w.heap.size,0,none⟩ (.string ⟨r2.toArray⟩)).setCell ⟨w.heap.size,1,none⟩ (.slice none 0 0)).setCell ⟨w.heap.size,2,none⟩ (.bool false))):=rd_three (rd_drewK HR5.out) (by have:=HLO.out.1;omega) (fun cb off e hn=>by have:=HLO.out.2 cb off e hn;omega)
   have HG7:Hid (w.grownBy (((w5.drew.setCell ⟨w.heap.size,0,none⟩ (.string ⟨r2.toArray⟩)).setCell ⟨w.heap.size,1,none⟩ (.slice none 0 0)).setCell ⟨w.heap.size,2,none⟩ (.bool false)) (some rd)):=gr_three (gr_drewK HG5.out) (Nat.le_refl _)
   clear zf
   go_wp2
   go_region
   all_goals
    go_wp2
    refine bodyPost_ret (v:=.tuple #[.agg #[.string ⟨r2.toArray⟩,.slice none 0 0,.bool false],.slice none 0 0]) (results_im rfl _ _ w.heap.size 26 _ _ rfl F7.out Tryz.underlying26 rfl (by kernel_rfl) _ rfl) rfl ?_
    exact⟨r2,[],false,none,0,[],vs,.slice none 0 0,0,none,0,rfl,HR2L.out,by simp,fun p hp=>by simp at hp,HO7.out,by simp,fun q hq=>by simp at hq,HC7.out,Nat.le_refl _,fun h=>absurd h (by simp),HR7.out,HG7.out⟩
 · have HGC : Hid (cs.length ≤ cc) := hgc
   obtain⟨cn,hcn⟩:∃ y,y=cs.length:=⟨_,rfl⟩
   have HCN:Hid (cn=cs.length):=hcn
   have hcl0:(0:Int)≤(cn:Int):=by omega
   have hwl:IntKind.i64.wrap ((cn:Int)+1)=(cn:Int)+1:=i64_wrap_small _ (by omega) (by have:=HCM.out.1;omega)
   rw[←hcn] at HC4 HV4
   have K3:=below_lenK rd n9 cap (cn+1) ((cn:Int)+1) a w4 (by omega) (by omega) (by have:=HCM.out.1;omega) hn HR4.out
   rw[←hcn]
   clear hcn hgc
   rw[hw4] at K3
   go_wp2_with fail
   refine K3.mono ?_
   rintro e w5 ⟨k,hk,rfl,R5,G5⟩
   rw[←hw4] at G5
   have HM5:Hid (w5.heap[w3.heap.size]? = some (.cells #[.string ⟨r2.toArray⟩,.slice none 0 0,.bool false] 26 (0,0))):=(G5.block _ (lt_of_block HM4.out) (by have:=HS3.out;simp;omega)).trans HM4.out
   have HZ5:Hid (w5.heap[w.heap.size]? = some (.cells #[.string ⟨#[]⟩,.slice none 0 0,.bool false] 26 (0,0))):=(G5.block _ (lt_of_block HZ4.out) (by have:=HS3.out;simp;omega)).trans HZ4.out
   have HR5:Hid (Rd rd a n9 cap w5):=R5
   have HG5:Hid (w.grownBy w5 (some rd)):=HG4.out.trans G5
   have HC5:Hid (OwnC w5 (w.heap.size+1) 28 (.slice (some ⟨g,0,none⟩) cn cc) cs vs):=HC4.out.grown G5 (fun k hk _ e=>by have:=HS3.out;cases e;omega)
   have HK:Hid (k≤cn∧k≤11):=⟨by omega,by have:=HCM.out.1;have:=HCN.out;omega⟩
   have hk0:(0:Int)≤(k:Int):=by omega
   clear K3 R5 G5 HM4 HZ4 HR4 HG4 HC4 hw4 hk hwl
   go_wp2
   go_loopw [9] (fun i wr=>∃ (j:Nat) (r:List UInt8) (ps:List PairL) (d:Bool) (x:Option Addr) (c:Nat),i=.int .i64 (j:Int)∧j≤k∧Hid (wr.heap[w3.heap.size]? = some (.cells #[.string ⟨r.toArray⟩,.slice x ps.length c,.bool d] 26 (0,0)))∧Hid (r.length≤1048576∧ps.length≤60∧smallP ps)∧Hid (wr.ownsRow (w.heap.size+1) 46 2 (.slice x ps.length c) ps.length (pcells ps))∧Hid (∀ q,(Value.slice x ps.length c).ownBlock=some q→q≠w3.heap.size∧q≠w.heap.size)∧Hid (OwnC wr (w.heap.size+1) 28 (.slice (some ⟨g,0,none⟩) cn cc) cs vs)∧Hid (Rd rd a n9 cap wr)∧Hid (w.grownBy wr (some rd))∧Hid (wr.heap[w.heap.size]? = some (.cells #[.string ⟨#[]⟩,.slice none 0 0,.bool false] 26 (0,0)))) (fun i _=>12 - (intOf i).toNat)
   case atStart=>exact⟨0,r2,[],false,none,0,rfl,Nat.zero_le _,HM5,⟨HR2L.out,by simp,fun p hp=>by simp at hp⟩,World.ownsRow_nil _ _ _ _,fun q hq=>by simp[Value.ownBlock] at hq,HC5,HR5,HG5,HZ5⟩
   case round =>
    obtain⟨j,r,ps,d,x,c,rfl,hjk,HMr,HSr,HOr,HXr,HCr,HRr,HGr,HZr⟩:=hrel
    by_cases hlt:j<k
    · have hjc:j<cs.length:=by have:=HK.out.1;have:=HCN.out;omega
      obtain⟨u,ku,e0,e1,e2,ou⟩:=chunk_form HCr.out hjc
      have hq9:=HCM.out.2.1 cs[j] (List.getElem_mem _)
      obtain⟨⟨f9,l9,qs⟩,h9⟩:∃ y,y=cs[j]:=⟨_,rfl⟩
      rw[←h9] at e0 e1 e2 ou hq9
      dsimp only at e0 e1 e2 ou hq9
      obtain⟨_,is1,haa,hca⟩:=own_form HOr.out
      obtain⟨_,is2,haa2,hca2⟩:=own_form ou
      have KT:=spec_took r x u c ku ps qs ps.length qs.length haa hca haa2 hca2 rfl rfl d f9 l9 wr.drew HSr.out.1 (by have:=HSr.out;omega) (smallP_le HSr.out.2.2) (by omega) (smallP_le hq9.2) (is1.later ⟨rfl,rfl,rfl,Nat.le_refl _,fun _ _=>rfl⟩) (is2.later ⟨rfl,rfl,rfl,Nat.le_refl _,fun _ _=>rfl⟩)
      have hts:=took_small r ps qs d f9 l9 HSr.out.1 HSr.out.2.1 HSr.out.2.2 hq9.2
      obtain⟨r5,hr5⟩:∃ y,y=tookRoot r ps d:=⟨_,rfl⟩
      obtain⟨ps5,hp5⟩:∃ y,y=tookPs r ps d f9 l9 qs:=⟨_,rfl⟩
      obtain⟨d5,hd5⟩:∃ y,y=tookD r ps d f9 l9 qs:=⟨_,rfl⟩
      obtain⟨b5,hb5⟩:∃ y,y=tookB r ps d f9 l9 qs:=⟨_,rfl⟩
      rw[←hr5,←hp5,←hd5,←hb5] at KT
      rw[←hr5,←hp5] at hts
      have HS5:Hid (r5.length≤1048576∧ps5.length≤60∧smallP ps5):=hts
      obtain⟨p0,p1,p2,_⟩:=im_cells HMr.out
      have hj0:(0:Int)≤(j:Int):=by omega
      have hjn:(j:Int)<(cn:Int):=by have:=HCN.out;omega
      have hjk':(j:Int)<(k:Int):=by omega
      have hwj:IntKind.i64.wrap ((j:Int)+1)=(j:Int)+1:=i64_wrap_small _ (by omega) (by have:=HK.out;omega)
      obtain⟨ql,hql⟩:∃ y,y=qs.length:=⟨_,rfl⟩
      obtain⟨pl,hpl⟩:∃ y,y=ps.length:=⟨_,rfl⟩
      rw[←hql] at KT e2
      rw[←hpl] at KT p1
      have HWS:Hid (w3.heap.size<wr.heap.size∧w.heap.size<wr.heap.size):=⟨lt_of_block HMr.out,lt_of_block HZr.out⟩
      clear haa haa2 hca hca2 is1 is2 ou hq9 h9 hr5 hp5 hd5 hb5 hts hlt hjc hql hpl HSr HOr HXr HM5 HZ5 HC5 HR5 HG5
      go_wp2
      go_region_with (go_at_call 7;refine KT.mono ?_;rintro e w7 ⟨x5,m5,c5,rfl,o5,b5x⟩;obtain⟨rfl,_⟩:=own_form o5;have b7:Below wr.heap.size wr w7:=⟨b5x.os,b5x.tape,b5x.output,b5x.size,b5x.block⟩;have HB7:Hid (Below wr.heap.size wr w7):=b7;have HO7:Hid (w7.ownsRow wr.heap.size 46 2 (.slice x5 ps5.length c5) ps5.length (pcells ps5)):=o5;have HM7:Hid (w7.heap[w3.heap.size]? = wr.heap[w3.heap.size]?):=b7.block _ HWS.out.1;obtain⟨s0,s1,s2,sf⟩:=im_cells (HM7.out.trans HMr.out);have sf0:=sf 0;have sf1:=sf 1;have sf2:=sf 2;clear sf b5x b7 o5)
      all_goals
       have HM8:Hid ((((w7.setCell ⟨w3.heap.size,0,none⟩ (.string ⟨r5.toArray⟩)).setCell ⟨w3.heap.size,1,none⟩ (.slice x5 ps5.length c5)).setCell ⟨w3.heap.size,2,none⟩ (.bool d5)).heap[w3.heap.size]? = some (.cells #[.string ⟨r5.toArray⟩,.slice x5 ps5.length c5,.bool d5] 26 (0,0))):=ck_set (j:=2) (ck_set (j:=1) (ck_set (j:=0) (HM7.out.trans HMr.out)))
       have HX8:Hid (∀ q,(Value.slice x5 ps5.length c5).ownBlock=some q→q≠w3.heap.size∧q≠w.heap.size):=fun q hq=>by have h1:=HO7.out.lt q hq;have h2:=HWS.out;omega
       have HO8:Hid ((((w7.setCell ⟨w3.heap.size,0,none⟩ (.string ⟨r5.toArray⟩)).setCell ⟨w3.heap.size,1,none⟩ (.slice x5 ps5.length c5)).setCell ⟨w3.heap.size,2,none⟩ (.bool d5)).ownsRow (w.heap.size+1) 46 2 (.slice x5 ps5.length c5) ps5.length (pcells ps5)):=(own_three HO7.out (fun q hq=>(HX8.out q hq).1)).mono (by have:=HWS.out;omega)
       have HC8:Hid (OwnC (((w7.setCell ⟨w3.heap.size,0,none⟩ (.string ⟨r5.toArray⟩)).setCell ⟨w3.heap.size,1,none⟩ (.slice x5 ps5.length c5)).setCell ⟨w3.heap.size,2,none⟩ (.bool d5)) (w.heap.size+1) 28 (.slice (some ⟨g,0,none⟩) cn cc) cs vs):=ownC_set (HCr.out.later HB7.out) (ck_grown _ _ _ _ _) (fun q hq=>(HV4.out q hq).1) (fun i u q hi hq=>(HU4.out i u q hi hq).1)
       have HR8:Hid (Rd rd a n9 cap (((w7.setCell ⟨w3.heap.size,0,none⟩ (.string ⟨r5.toArray⟩)).setCell ⟨w3.heap.size,1,none⟩ (.slice x5 ps5.length c5)).setCell ⟨w3.heap.size,2,none⟩ (.bool d5))):=rd_three (HRr.out.keptNone HB7.out) (by have:=HS3.out;omega) (fun cb off e hn=>by have:=HLO.out.2 cb off e hn;have:=HS3.out;omega)
       have HG8:Hid (w.grownBy (((w7.setCell ⟨w3.heap.size,0,none⟩ (.string ⟨r5.toArray⟩)).setCell ⟨w3.heap.size,1,none⟩ (.slice x5 ps5.length c5)).setCell ⟨w3.heap.size,2,none⟩ (.bool d5)) (some rd)):=gr_three (grown_below HGr.out HB7.out) (by have:=HS3.out;omega)
       have HZ8:Hid ((((w7.setCell ⟨w3.heap.size,0,none⟩ (.string ⟨r5.toArray⟩)).setCell ⟨w3.heap.size,1,none⟩ (.slice x5 ps5.length c5)).setCell ⟨w3.heap.size,2,none⟩ (.bool d5)).heap[w.heap.size]? = some (.cells #[.string ⟨#[]⟩,.slice none 0 0,.bool false] 26 (0,0))):=(ck_far (by have:=HS3.out;omega)).trans ((HB7.out.block _ HWS.out.2).trans HZr.out)
       clear HM7 HO7 HB7 HMr HCr HRr HGr HZr s0 s1 s2
       go_wp2
       go_roundw
       case rel=>exact⟨j+1,r5,ps5,d5,x5,c5,by go_num,by omega,HM8,HS5,HO8,HX8,HC8,HR8,HG8,HZ8⟩
       case measure=>have:=HK.out;simp[intOf];omega
    · obtain rfl:j=k:=by omega
      have hjn:(j:Int)≤(cn:Int):=by have:=HK.out;omega
      have hcc:(cn:Int)≤(cc:Int):=by have:=HCN.out;have:=HGC.out;omega
      obtain⟨pl,hpl⟩:∃ y,y=ps.length:=⟨_,rfl⟩
      have HPL:Hid (pl=ps.length):=hpl
      rw[←hpl] at HMr HOr HXr
      clear hlt hpl HM5 HZ5 HC5 HR5 HG5
      by_cases hcj:cc=j
      · subst hcj
        obtain⟨p0,p1,p2,_⟩:=im_cells HMr.out
        obtain⟨z0,z1,z2,zf⟩:=im_cells HZr.out
        have zf0:=zf 0
        have zf1:=zf 1
        have zf2:=zf 2
        have F7:Hid ((((wr.drew.setCell ⟨w.heap.size,0,none⟩ (.string ⟨r.toArray⟩)).setCell ⟨w.heap.size,1,none⟩ (.slice x pl c)).setCell ⟨w.heap.size,2,none⟩ (.bool d)).heap[w.heap.size]? = some (.cells #[.string ⟨r.toArray⟩,.slice x pl c,.bool d] 26 (0,0))):=ck_set (j:=2) (ck_set (j:=1) (ck_set (j:=0) (show wr.drew.heap[w.heap.size]? = some (.cells #[.string ⟨#[]⟩,.slice none 0 0,.bool false] 26 (0,0)) from HZr.out)))
        have HO7:Hid ((((wr.drew.setCell ⟨w.heap.size,0,none⟩ (.string ⟨r.toArray⟩)).setCell ⟨w.heap.size,1,none⟩ (.slice x pl c)).setCell ⟨w.heap.size,2,none⟩ (.bool d)).ownsRow w.heap.size 46 2 (.slice x pl c) pl (pcells ps)):=by have h9:=own_three (g:=w.heap.size) (x:=.string ⟨r.toArray⟩) (y:=.slice x pl c) (z:=.bool d) HOr.out (fun q hq=>(HXr.out q hq).2);exact h9.mono (Nat.le_succ _)
        have HC7:Hid (OwnC (((wr.drew.setCell ⟨w.heap.size,0,none⟩ (.string ⟨r.toArray⟩)).setCell ⟨w.heap.size,1,none⟩ (.slice x pl c)).setCell ⟨w.heap.size,2,none⟩ (.bool d)) w.heap.size 28 (.slice (some ⟨g,0,none⟩) cn cc) cs vs):=ownC_mono (ownC_set (ownC_drewK HCr.out) (ck_grown _ _ _ _ _) (fun q hq=>(HV4.out q hq).2) (fun i u q hi hq=>(HU4.out i u q hi hq).2)) (Nat.le_succ _)
        have HR7:Hid (Rd rd a n9 cap (((wr.drew.setCell ⟨w.heap.size,0,none⟩ (.string ⟨r.toArray⟩)).setCell ⟨w.heap.size,1,none⟩ (.slice x pl c)).setCell ⟨w.heap.size,2,none⟩ (.bool d))):=rd_three (rd_drewK HRr.out) (by have:=HLO.out.1;omega) (fun cb off e hn=>by have:=HLO.out.2 cb off e hn;omega)
        have HG7:Hid (w.grownBy (((wr.drew.setCell ⟨w.heap.size,0,none⟩ (.string ⟨r.toArray⟩)).setCell ⟨w.heap.size,1,none⟩ (.slice x pl c)).setCell ⟨w.heap.size,2,none⟩ (.bool d)) (some rd)):=gr_three (gr_drewK HGr.out) (Nat.le_refl _)
        clear zf
        go_wp2
        go_region
        all_goals
         go_wp2
         refine bodyPost_ret (v:=.tuple #[.agg #[.string ⟨r.toArray⟩,.slice x pl c,.bool d],.slice (some ⟨g,0,none⟩) (cn - cc) 0]) (results_im rfl _ _ w.heap.size 26 _ _ rfl F7.out Tryz.underlying26 rfl (by kernel_rfl) _ rfl) rfl ?_
         have hpl:=HPL.out
         subst hpl
         exact⟨r,ps,d,x,c,cs,vs,_,cc,_,_,by rw[←HCN.out],HSr.out.1,HSr.out.2.1,HSr.out.2.2,HO7.out,HCM.out.1,HCM.out.2.1,HC7.out,by rw[←HCN.out];exact HK.out.1,fun h=>by have:=HGC.out;omega,HR7.out,HG7.out⟩
      · skip
        obtain⟨p0,p1,p2,_⟩:=im_cells HMr.out
        obtain⟨z0,z1,z2,zf⟩:=im_cells HZr.out
        have zf0:=zf 0
        have zf1:=zf 1
        have zf2:=zf 2
        have F7:Hid ((((wr.drew.setCell ⟨w.heap.size,0,none⟩ (.string ⟨r.toArray⟩)).setCell ⟨w.heap.size,1,none⟩ (.slice x pl c)).setCell ⟨w.heap.size,2,none⟩ (.bool d)).heap[w.heap.size]? = some (.cells #[.string ⟨r.toArray⟩,.slice x pl c,.bool d] 26 (0,0))):=ck_set (j:=2) (ck_set (j:=1) (ck_set (j:=0) (show wr.drew.heap[w.heap.size]? = some (.cells #[.string ⟨#[]⟩,.slice none 0 0,.bool false] 26 (0,0)) from HZr.out)))
        have HO7:Hid ((((wr.drew.setCell ⟨w.heap.size,0,none⟩ (.string ⟨r.toArray⟩)).setCell ⟨w.heap.size,1,none⟩ (.slice x pl c)).setCell ⟨w.heap.size,2,none⟩ (.bool d)).ownsRow w.heap.size 46 2 (.slice x pl c) pl (pcells ps)):=by have h9:=own_three (g:=w.heap.size) (x:=.string ⟨r.toArray⟩) (y:=.slice x pl c) (z:=.bool d) HOr.out (fun q hq=>(HXr.out q hq).2);exact h9.mono (Nat.le_succ _)
        have HC7:Hid (OwnC (((wr.drew.setCell ⟨w.heap.size,0,none⟩ (.string ⟨r.toArray⟩)).setCell ⟨w.heap.size,1,none⟩ (.slice x pl c)).setCell ⟨w.heap.size,2,none⟩ (.bool d)) w.heap.size 28 (.slice (some ⟨g,0,none⟩) cn cc) cs vs):=ownC_mono (ownC_set (ownC_drewK HCr.out) (ck_grown _ _ _ _ _) (fun q hq=>(HV4.out q hq).2) (fun i u q hi hq=>(HU4.out i u q hi hq).2)) (Nat.le_succ _)
        have HR7:Hid (Rd rd a n9 cap (((wr.drew.setCell ⟨w.heap.size,0,none⟩ (.string ⟨r.toArray⟩)).setCell ⟨w.heap.size,1,none⟩ (.slice x pl c)).setCell ⟨w.heap.size,2,none⟩ (.bool d))):=rd_three (rd_drewK HRr.out) (by have:=HLO.out.1;omega) (fun cb off e hn=>by have:=HLO.out.2 cb off e hn;omega)
        have HG7:Hid (w.grownBy (((wr.drew.setCell ⟨w.heap.size,0,none⟩ (.string ⟨r.toArray⟩)).setCell ⟨w.heap.size,1,none⟩ (.slice x pl c)).setCell ⟨w.heap.size,2,none⟩ (.bool d)) (some rd)):=gr_three (gr_drewK HGr.out) (Nat.le_refl _)
        clear zf
        go_wp2
        go_region
        all_goals
         go_wp2
         refine bodyPost_ret (v:=.tuple #[.agg #[.string ⟨r.toArray⟩,.slice x pl c,.bool d],.slice (some ⟨g,j*3,none⟩) (cn - j) (cc - j)]) (results_im rfl _ _ w.heap.size 26 _ _ rfl F7.out Tryz.underlying26 rfl (by kernel_rfl) _ rfl) rfl ?_
         have hpl:=HPL.out
         subst hpl
         exact⟨r,ps,d,x,c,cs,vs,_,j,_,_,by rw[←HCN.out],HSr.out.1,HSr.out.2.1,HSr.out.2.2,HO7.out,HCM.out.1,HCM.out.2.1,HC7.out,by rw[←HCN.out];exact HK.out.1,fun h=>⟨g,cc,by rw[HCN.out],rfl⟩,HR7.out,HG7.out⟩
theorem codeLtK {w:World} {a:Option Addr} {n:Nat} (h:Code w a n):∀ cb off,a=some ⟨cb,off,none⟩→n≠0→cb<w.heap.size:=fun cb off e hn=>by
 rcases h with h0 | ⟨cb',off',e',hlt,_⟩
 · exact absurd h0 hn
 · rw[e'] at e;cases e;exact hlt
theorem results_ccK {P:Program} {fn:Func} {p q:Tmp} {ty tz:TypeId} (h:fn.results=#[.cell p ty,.cell q tz]) (tmps:Array Value) (w:World) (g k:Nat) (t s:TypeId) (cs ds:Array Value) (d e:TypeDesc)
 (hp:tmps.getD p undef=.pointer (some ⟨g,0,none⟩)) (hg:w.heap[g]? = some (.cells cs t (0,0))) (hu:P.underlying ty=some d) (hd:(match d with | .struct _ | .array _ _=>true | _=>false)=true) (hi:(P.info? ty).map (·.size)=some cs.size)
 (hq:tmps.getD q undef=.pointer (some ⟨k,0,none⟩)) (hk:w.heap[k]? = some (.cells ds s (0,0))) (hv:P.underlying tz=some e) (he:(match e with | .struct _ | .array _ _=>true | _=>false)=true) (hj:(P.info? tz).map (·.size)=some ds.size) :
 (results fn tmps).run P w=.ok (.tuple #[.agg cs,.agg ds]) w:=by
 have hp':tmps[p]?.getD undef=.pointer (some ⟨g,0,none⟩):=by simpa using hp
 have hq':tmps[q]?.getD undef=.pointer (some ⟨k,0,none⟩):=by simpa using hq
 simp[results,h,hp',hq',asAddr,run_loadVar_row w g t ty cs (0,0) d hg hu hd hi,run_loadVar_row w k s tz ds (0,0) e hk hv he hj]
theorem tookD_end {w w1 w2 w3 W:World} {r:List UInt8} {ps qs:List PairL} {x u:Option Addr} {pl c ql ku:Nat} {d f l:Bool} {A B:Prop} {e:Ending} (he:e=.returned (.tuple #[.agg #[.string ⟨r.toArray⟩,.slice x pl c,.bool d],.agg #[.bool f,.bool l,.slice u ql ku]])) (h:pl=ps.length∧r.length≤1048576∧ps.length≤60∧smallP ps) (hq:ql=qs.length) (hs:ql≤10∧smallP qs) (hS:w.heap.size+2<w1.heap.size∧w1.heap.size≤w2.heap.size∧w3.heap.size=w2.heap.size+2)
 (F:A∧B∧W.ownsRow w1.heap.size 46 2 (.slice x pl c) pl (pcells ps)∧W.ownsRow w1.heap.size 46 2 (.slice u ql ku) ql (pcells qs)∧Below w.heap.size w W):∃ (r:List UInt8) (ps:List PairL) (d:Bool) (x:Option Addr) (c:Nat) (f l:Bool) (u:Option Addr) (qs:List PairL) (ku:Nat),e=.returned (.tuple #[.agg #[.string ⟨r.toArray⟩,.slice x ps.length c,.bool d],.agg #[.bool f,.bool l,.slice u qs.length ku]])∧r.length≤1048576∧ps.length≤60∧smallP ps∧qs.length≤10∧smallP qs∧W.ownsRow w.heap.size 46 2 (.slice x ps.length c) ps.length (pcells ps)∧W.ownsRow w.heap.size 46 2 (.slice u qs.length ku) qs.length (pcells qs)∧Below w.heap.size w W:=by
 obtain⟨rfl,h1,h2,h3⟩:=h
 subst hq
 exact⟨r,ps,d,x,c,f,l,u,qs,ku,he,h1,h2,h3,hs.1,hs.2,F.2.2.1.mono (by omega),F.2.2.2.1.mono (by omega),F.2.2.2.2⟩
set_option maxRecDepth 100000 in
set_option maxHeartbeats 1000000 in
theorem drawTook (n cap : Nat) (a : Option Addr) (w : World) (hn : n ≤ 1048576) (h : Code w a n) :
 Calls Tryz.prog 5 #[.slice a n cap] w fun e w'=>∃ (r:List UInt8) (ps:List PairL) (d:Bool) (x:Option Addr) (c:Nat) (f l:Bool) (u:Option Addr) (qs:List PairL) (ku:Nat),e=.returned (.tuple #[.agg #[.string ⟨r.toArray⟩,.slice x ps.length c,.bool d],.agg #[.bool f,.bool l,.slice u qs.length ku]])∧r.length≤1048576∧ps.length≤60∧smallP ps∧qs.length≤10∧smallP qs∧w'.ownsRow w.heap.size 46 2 (.slice x ps.length c) ps.length (pcells ps)∧w'.ownsRow w.heap.size 46 2 (.slice u qs.length ku) qs.length (pcells qs)∧Below w.heap.size w w':=by
 obtain⟨w0,hw0⟩:∃ W,W=(w.alloc (.cells #[.string ⟨#[]⟩,.slice none 0 0,.bool false] 26)).alloc (.cells #[.bool false,.bool false,.slice none 0 0] 28):=⟨_,rfl⟩
 have B0:Below w.heap.size w w0:=by rw[hw0];exact ((Below.refl _ _).alloc (Nat.le_refl _) _).alloc (by simp) _
 have s0:w0.heap.size=w.heap.size+2:=by rw[hw0];simp
 have Z0:Hid (w0.heap[w.heap.size]? = some (.cells #[.string ⟨#[]⟩,.slice none 0 0,.bool false] 26 (0,0))):=by rw[hw0,Hid,Below.heap_alloc _ _ _ (by simp)];exact heap_alloc_new w _
 have Y0:Hid (w0.heap[(w.heap.size+1)]? = some (.cells #[.bool false,.bool false,.slice none 0 0] 28 (0,0))):=by
  rw[hw0,Hid]
  have:=heap_alloc_new (w.alloc (.cells #[.string ⟨#[]⟩,.slice none 0 0,.bool false] 26)) (.cells #[.bool false,.bool false,.slice none 0 0] 28)
  simpa using this
 have HLO:Hid (∀ cb off,a=some ⟨cb,off,none⟩→n≠0→cb<w.heap.size):=codeLtK h
 have H1:=open_any n cap a w0 (h.later B0)
 rw[s0] at H1
 rw[hw0] at H1
 clear h
 go_enter Tryz.func5,Tryz.ntmps5
 go_wp2_with fail
 refine H1.mono ?_
 rintro e w1 ⟨rfl,hR1,b1⟩
 rw[←hw0] at b1
 have R1:Hid (Rd (w.heap.size+2) a n cap w1):=hR1
 have hlt1:=hR1.lt
 have B1:Hid (Below w.heap.size w w1):=B0.trans (b1.mono (by omega))
 have Z1:Hid (w1.heap[w.heap.size]? = some (.cells #[.string ⟨#[]⟩,.slice none 0 0,.bool false] 26 (0,0))):=(b1.block _ (by omega)).trans Z0.out
 have Y1:Hid (w1.heap[(w.heap.size+1)]? = some (.cells #[.bool false,.bool false,.slice none 0 0] 28 (0,0))):=(b1.block _ (by omega)).trans Y0.out
 have HS1:Hid (w.heap.size+2<w1.heap.size):=hlt1
 clear hR1 H1 B0 Z0 Y0 b1 hw0 s0 hlt1
 go_wp2_with fail
 refine (imported_any (w.heap.size+2) n cap a w1 hn R1.out).mono ?_
 rintro e w2 ⟨r,ps,d,x,c,cs,vs,v,k,y,yc,rfl,hr,hpl,hsm,op,hcl,hcm,oc,hkc,hv,hR2,hG2⟩
 obtain⟨w3,hw3⟩:∃ W,W=(w2.alloc (.cells #[.string ⟨r.toArray⟩,.slice x ps.length c,.bool d] 26)).alloc (.cells #[.bool true,.bool true,.slice none 0 0] 28):=⟨_,rfl⟩
 have X3:Below w2.heap.size w2 w3:=by rw[hw3];exact ((Below.refl _ _).alloc (Nat.le_refl _) _).alloc (by simp) _
 have s3:w3.heap.size=w2.heap.size+2:=by rw[hw3];simp
 have HS:Hid (w.heap.size+2<w1.heap.size∧w1.heap.size≤w2.heap.size∧w3.heap.size=w2.heap.size+2):=⟨HS1.out,hG2.size,s3⟩
 have M3':w3.heap[w2.heap.size]? = some (.cells #[.string ⟨r.toArray⟩,.slice x ps.length c,.bool d] 26 (0,0)):=by rw[hw3,Below.heap_alloc _ _ _ (by simp)];exact heap_alloc_new w2 _
 have C3:Hid (w3.heap[(w2.heap.size+1)]? = some (.cells #[.bool true,.bool true,.slice none 0 0] 28 (0,0))):=by
  rw[hw3,Hid]
  have:=heap_alloc_new (w2.alloc (.cells #[.string ⟨r.toArray⟩,.slice x ps.length c,.bool d] 26)) (.cells #[.bool true,.bool true,.slice none 0 0] 28)
  simpa using this
 have HSX':∀ q,(Value.slice x ps.length c).ownBlock=some q→q≠w2.heap.size∧q≠(w2.heap.size+1):=fun q hq=>by have h1:=(op.lt q hq).2;omega
 have O3':=kept_new op X3
 obtain⟨pl,hple⟩:∃ z,z=ps.length:=⟨_,rfl⟩
 have HPL:Hid (pl=ps.length∧r.length≤1048576∧ps.length≤60∧smallP ps):=⟨hple,hr,hpl,hsm⟩
 rw[←hple] at M3' HSX' O3'
 have M3:Hid (w3.heap[w2.heap.size]? = some (.cells #[.string ⟨r.toArray⟩,.slice x pl c,.bool d] 26 (0,0))):=M3'
 have O3:Hid (w3.ownsRow w1.heap.size 46 2 (.slice x pl c) pl (pcells ps)):=O3'
 have HSX:Hid (∀ q,(Value.slice x pl c).ownBlock=some q→q≠w2.heap.size∧q≠(w2.heap.size+1)):=HSX'
 have R3:Hid (Rd (w.heap.size+2) a n cap w3):=hR2.keptNone X3
 have B3:Hid (Below w.heap.size w w3):=(B1.out.grown hG2 B1.out.size (fun k hk=>by simp at hk;omega)).trans (X3.mono (by have:=HS.out;omega))
 have Z3:Hid (w3.heap[w.heap.size]? = some (.cells #[.string ⟨#[]⟩,.slice none 0 0,.bool false] 26 (0,0))):=(X3.block _ (by have:=HS.out;omega)).trans ((hG2.block _ (lt_of_block Z1.out) (by simp)).trans Z1.out)
 have Y3:Hid (w3.heap[(w.heap.size+1)]? = some (.cells #[.bool false,.bool false,.slice none 0 0] 28 (0,0))):=(X3.block _ (by have:=HS.out;omega)).trans ((hG2.block _ (lt_of_block Y1.out) (by simp)).trans Y1.out)
 have OC3:Hid (OwnC w3 w1.heap.size 28 v cs vs):=oc.later X3
 have HCM:Hid (cs.length≤11∧(∀ q∈cs,q.2.2.length≤10∧smallP q.2.2)∧(k<cs.length→∃ g cc,v=.slice (some ⟨g,0,none⟩) cs.length cc∧y=some ⟨g,k*3,none⟩)):=⟨hcl,hcm,hv⟩
 have HVS:Hid (∀ (i:Nat) (z:Value) (q:Nat),vs[i]? = some z→z.ownBlock=some q→q<w2.heap.size):=fun i z q h1 h2=>(oc.lt h1 h2).2
 obtain⟨dn,hdn⟩:∃ z,z=cs.length - k:=⟨_,rfl⟩
 have HDN:Hid (dn=cs.length - k):=hdn
 have hd0:(0:Int)≤(dn:Int):=by omega
 clear hr hpl hsm op hcl hcm oc hv hR2 hG2 R1 B1 Z1 Y1 HS1 X3 s3 M3' O3' HSX' hkc
 rw[←hple] at hw3
 rw[←hple,←hdn]
 clear hple hdn
 go_upto_if 18 with fail
 rw[←hw3]
 clear hw3
 go_cut [] from 19 to 22 (fun wx=>∃ (f l:Bool) (u:Option Addr) (qs:List PairL) (ql ku:Nat),Hid (ql=qs.length)∧Hid (ql≤10∧smallP qs)∧Hid (∀ q,(Value.slice u ql ku).ownBlock=some q→q≠w2.heap.size∧q≠(w2.heap.size+1))∧Hid (wx.heap[(w2.heap.size+1)]? = some (.cells #[.bool f,.bool l,.slice u ql ku] 28 (0,0)))∧Hid (wx.ownsRow w1.heap.size 46 2 (.slice u ql ku) ql (pcells qs))∧Hid (wx.heap[w2.heap.size]? = some (.cells #[.string ⟨r.toArray⟩,.slice x pl c,.bool d] 26 (0,0)))∧Hid (wx.ownsRow w1.heap.size 46 2 (.slice x pl c) pl (pcells ps))∧Hid (Rd (w.heap.size+2) a n cap wx)∧Hid (Below w.heap.size w wx)∧Hid (wx.heap[w.heap.size]? = some (.cells #[.string ⟨#[]⟩,.slice none 0 0,.bool false] 26 (0,0)))∧Hid (wx.heap[(w.heap.size+1)]? = some (.cells #[.bool false,.bool false,.slice none 0 0] 28 (0,0))))
 case first =>
  by_cases hd:dn=0
  · subst hd
    go_wp2
    go_meet
    exact⟨true,true,none,[],0,0,rfl,⟨Nat.zero_le _,fun p hp=>by simp at hp⟩,fun q hq=>by simp[Value.ownBlock] at hq,C3,World.ownsRow_nil _ _ _ _,M3,O3,R3,B3,Z3,Y3⟩
  · have hkl:k<cs.length:=by have:=HDN.out;omega
    obtain⟨g,cc,hv,rfl⟩:=HCM.out.2.2 hkl
    have OC:=OC3.out
    rw[hv] at OC
    obtain⟨u1,k1,e0,e1,e2,ou⟩:=chunk_form OC hkl
    have hq9:=HCM.out.2.1 cs[k] (List.getElem_mem _)
    have hu9:∀ q,(Value.slice u1 cs[k].2.2.length k1).ownBlock=some q→q<w2.heap.size:=fun q hq=>by
     have hvk:k<vs.length:=by rw[OC.len];exact hkl
     obtain⟨c0,c1,c2⟩:=ccells_at cs vs k cs[k] vs[k] (List.getElem?_eq_getElem hkl) (List.getElem?_eq_getElem hvk)
     have e3:=(OC.row.cellAt (k*3+2) (by omega)).symm.trans e2
     rw[c2] at e3
     have e4:=Option.some.inj e3
     exact HVS.out k vs[k] q (List.getElem?_eq_getElem hvk) (by rw[e4];exact hq)
    obtain⟨⟨f1,l1,qs⟩,h9⟩:∃ z,z=cs[k]:=⟨_,rfl⟩
    rw[←h9] at e0 e1 e2 ou hq9 hu9
    dsimp only at e0 e1 e2 ou hq9 hu9
    obtain⟨q1,hq1⟩:∃ z,z=qs.length:=⟨_,rfl⟩
    rw[←hq1] at e2 ou hq9 hu9
    have HQ1:Hid (q1=qs.length):=hq1
    have HQ9:Hid (q1≤10∧smallP qs):=hq9
    have HU9:Hid (∀ q,(Value.slice u1 q1 k1).ownBlock=some q→q≠w2.heap.size∧q≠(w2.heap.size+1)):=fun q hq=>by have:=hu9 q hq;omega
    have Q3:Hid (w3.ownsRow w1.heap.size 46 2 (.slice u1 q1 k1) q1 (pcells qs)):=ou
    have hd1:(0:Int)<(dn:Int):=by omega
    obtain⟨y0,y1,y2,yf⟩:=im_cells C3.out
    have yf0:=yf 0
    have yf1:=yf 1
    have yf2:=yf 2
    have C8:Hid ((((w3.setCell ⟨(w2.heap.size+1),0,none⟩ (.bool f1)).setCell ⟨(w2.heap.size+1),1,none⟩ (.bool l1)).setCell ⟨(w2.heap.size+1),2,none⟩ (.slice u1 q1 k1)).heap[(w2.heap.size+1)]? = some (.cells #[.bool f1,.bool l1,.slice u1 q1 k1] 28 (0,0))):=ck_set (j:=2) (ck_set (j:=1) (ck_set (j:=0) C3.out))
    have M8:Hid ((((w3.setCell ⟨(w2.heap.size+1),0,none⟩ (.bool f1)).setCell ⟨(w2.heap.size+1),1,none⟩ (.bool l1)).setCell ⟨(w2.heap.size+1),2,none⟩ (.slice u1 q1 k1)).heap[w2.heap.size]? = some (.cells #[.string ⟨r.toArray⟩,.slice x pl c,.bool d] 26 (0,0))):=(Below.heap_setCell _ _ _ _ (by have:=HS.out;dsimp only;omega)).trans ((Below.heap_setCell _ _ _ _ (by have:=HS.out;dsimp only;omega)).trans ((Below.heap_setCell _ _ _ _ (by have:=HS.out;dsimp only;omega)).trans (M3.out)))
    have Z8:Hid ((((w3.setCell ⟨(w2.heap.size+1),0,none⟩ (.bool f1)).setCell ⟨(w2.heap.size+1),1,none⟩ (.bool l1)).setCell ⟨(w2.heap.size+1),2,none⟩ (.slice u1 q1 k1)).heap[w.heap.size]? = some (.cells #[.string ⟨#[]⟩,.slice none 0 0,.bool false] 26 (0,0))):=(Below.heap_setCell _ _ _ _ (by have:=HS.out;dsimp only;omega)).trans ((Below.heap_setCell _ _ _ _ (by have:=HS.out;dsimp only;omega)).trans ((Below.heap_setCell _ _ _ _ (by have:=HS.out;dsimp only;omega)).trans (Z3.out)))
    have Y8:Hid ((((w3.setCell ⟨(w2.heap.size+1),0,none⟩ (.bool f1)).setCell ⟨(w2.heap.size+1),1,none⟩ (.bool l1)).setCell ⟨(w2.heap.size+1),2,none⟩ (.slice u1 q1 k1)).heap[(w.heap.size+1)]? = some (.cells #[.bool false,.bool false,.slice none 0 0] 28 (0,0))):=(Below.heap_setCell _ _ _ _ (by have:=HS.out;dsimp only;omega)).trans ((Below.heap_setCell _ _ _ _ (by have:=HS.out;dsimp only;omega)).trans ((Below.heap_setCell _ _ _ _ (by have:=HS.out;dsimp only;omega)).trans (Y3.out)))
    have O8:Hid ((((w3.setCell ⟨(w2.heap.size+1),0,none⟩ (.bool f1)).setCell ⟨(w2.heap.size+1),1,none⟩ (.bool l1)).setCell ⟨(w2.heap.size+1),2,none⟩ (.slice u1 q1 k1)).ownsRow w1.heap.size 46 2 (.slice x pl c) pl (pcells ps)):=(ownsRow_setCell_other (ownsRow_setCell_other (ownsRow_setCell_other O3.out (fun e9=>(HSX.out _ e9).2 rfl) _) (fun e9=>(HSX.out _ e9).2 rfl) _) (fun e9=>(HSX.out _ e9).2 rfl) _)
    have R8:Hid (Rd (w.heap.size+2) a n cap (((w3.setCell ⟨(w2.heap.size+1),0,none⟩ (.bool f1)).setCell ⟨(w2.heap.size+1),1,none⟩ (.bool l1)).setCell ⟨(w2.heap.size+1),2,none⟩ (.slice u1 q1 k1))):=R3.out.kept (row:=some (w2.heap.size+1)) ⟨rfl,rfl,rfl,by simp[World.setCell],fun k _ hk=>(Below.heap_setCell _ _ _ _ (fun e9=>hk (by rw[e9]))).trans ((Below.heap_setCell _ _ _ _ (fun e9=>hk (by rw[e9]))).trans ((Below.heap_setCell _ _ _ _ (fun e9=>hk (by rw[e9]))).trans (rfl)))⟩ (by have:=HS.out;simp;omega) (fun cb off e hn=>by have:=HLO.out cb off e hn;have:=HS.out;simp;omega)
    have B8:Hid (Below w.heap.size w (((w3.setCell ⟨(w2.heap.size+1),0,none⟩ (.bool f1)).setCell ⟨(w2.heap.size+1),1,none⟩ (.bool l1)).setCell ⟨(w2.heap.size+1),2,none⟩ (.slice u1 q1 k1))):=(((B3.out.setCell (by have:=HS.out;simp only;omega) _).setCell (by have:=HS.out;simp only;omega) _).setCell (by have:=HS.out;simp only;omega) _)
    have Q8:Hid ((((w3.setCell ⟨(w2.heap.size+1),0,none⟩ (.bool f1)).setCell ⟨(w2.heap.size+1),1,none⟩ (.bool l1)).setCell ⟨(w2.heap.size+1),2,none⟩ (.slice u1 q1 k1)).ownsRow w1.heap.size 46 2 (.slice u1 q1 k1) q1 (pcells qs)):=own_three Q3.out (fun q hq=>(HU9.out q hq).2)
    clear yf hq1 hq9 hu9 ou OC h9 hd hv
    go_wp2
    go_meet
    exact⟨f1,l1,u1,qs,q1,k1,HQ1,HQ9,HU9,C8,Q8,M8,O8,R8,B8,Z8,Y8⟩
 case rest =>
 obtain⟨f,l,u,qs,ql,ku,HQL,HQS,HSU,C4,Q4,M4,O4,R4,B4,Z4,Y4⟩:=hcut
 obtain⟨w4,rfl⟩:∃ W,W=wc:=⟨_,rfl⟩
 clear C3 M3 O3 R3 B3 Z3 Y3 OC3 HCM HVS hd0 HDN
 have K5:=below_any (w.heap.size+2) n cap 10 10 a w4 rfl (by omega) (by omega) hn R4.out
 go_wp2_with fail
 refine K5.mono ?_
 rintro e w5 ⟨z,hz,rfl,hR5,G5⟩
 have M5:Hid (w5.heap[w2.heap.size]? = some (.cells #[.string ⟨r.toArray⟩,.slice x pl c,.bool d] 26 (0,0))):=(G5.block _ (lt_of_block M4.out) (by have:=HS.out;(try simp) <;> omega)).trans M4.out
 have Z5:Hid (w5.heap[w.heap.size]? = some (.cells #[.string ⟨#[]⟩,.slice none 0 0,.bool false] 26 (0,0))):=(G5.block _ (lt_of_block Z4.out) (by have:=HS.out;(try simp) <;> omega)).trans Z4.out
 have Y5:Hid (w5.heap[(w.heap.size+1)]? = some (.cells #[.bool false,.bool false,.slice none 0 0] 28 (0,0))):=(G5.block _ (lt_of_block Y4.out) (by have:=HS.out;(try simp) <;> omega)).trans Y4.out
 have C5:Hid (w5.heap[(w2.heap.size+1)]? = some (.cells #[.bool f,.bool l,.slice u ql ku] 28 (0,0))):=(G5.block _ (lt_of_block C4.out) (by have:=HS.out;(try simp) <;> omega)).trans C4.out
 have O5:Hid (w5.ownsRow w1.heap.size 46 2 (.slice x pl c) pl (pcells ps)):=keptR O4.out G5 (rd_far O4.out (by have:=HS.out;omega))
 have Q5:Hid (w5.ownsRow w1.heap.size 46 2 (.slice u ql ku) ql (pcells qs)):=keptR Q4.out G5 (rd_far Q4.out (by have:=HS.out;omega))
 have R5:Hid (Rd (w.heap.size+2) a n cap w5):=hR5
 have B5:Hid (Below w.heap.size w w5):=B4.out.grown G5 B4.out.size (fun k hk=>by simp at hk;omega)
 clear K5 hR5 G5 C4 Q4 M4 O4 R4 B4 Z4 Y4
 obtain⟨y0,y1,y2,yf⟩:=im_cells C5.out
 have yf0:=yf 0
 have yf1:=yf 1
 have yf2:=yf 2
 clear yf
 by_cases z0:z=0
 · subst z0
   have C8:Hid ((w5.setCell ⟨(w2.heap.size+1),0,none⟩ (.bool !f)).heap[(w2.heap.size+1)]? = some (.cells #[.bool (!f),.bool l,.slice u ql ku] 28 (0,0))):=ck_set (j:=0) C5.out
   have M8:Hid ((w5.setCell ⟨(w2.heap.size+1),0,none⟩ (.bool !f)).heap[w2.heap.size]? = some (.cells #[.string ⟨r.toArray⟩,.slice x pl c,.bool d] 26 (0,0))):=(Below.heap_setCell _ _ _ _ (by have:=HS.out;dsimp only;omega)).trans (M5.out)
   have Z8:Hid ((w5.setCell ⟨(w2.heap.size+1),0,none⟩ (.bool !f)).heap[w.heap.size]? = some (.cells #[.string ⟨#[]⟩,.slice none 0 0,.bool false] 26 (0,0))):=(Below.heap_setCell _ _ _ _ (by have:=HS.out;dsimp only;omega)).trans (Z5.out)
   have Y8:Hid ((w5.setCell ⟨(w2.heap.size+1),0,none⟩ (.bool !f)).heap[(w.heap.size+1)]? = some (.cells #[.bool false,.bool false,.slice none 0 0] 28 (0,0))):=(Below.heap_setCell _ _ _ _ (by have:=HS.out;dsimp only;omega)).trans (Y5.out)
   have O8:Hid ((w5.setCell ⟨(w2.heap.size+1),0,none⟩ (.bool !f)).ownsRow w1.heap.size 46 2 (.slice x pl c) pl (pcells ps)):=(ownsRow_setCell_other O5.out (fun e9=>(HSX.out _ e9).2 rfl) _)
   have R8:Hid (Rd (w.heap.size+2) a n cap (w5.setCell ⟨(w2.heap.size+1),0,none⟩ (.bool !f))):=R5.out.kept (row:=some (w2.heap.size+1)) ⟨rfl,rfl,rfl,by simp[World.setCell],fun k _ hk=>(Below.heap_setCell _ _ _ _ (fun e9=>hk (by rw[e9]))).trans (rfl)⟩ (by have:=HS.out;simp;omega) (fun cb off e hn=>by have:=HLO.out cb off e hn;have:=HS.out;simp;omega)
   have B8:Hid (Below w.heap.size w (w5.setCell ⟨(w2.heap.size+1),0,none⟩ (.bool !f))):=(B5.out.setCell (by have:=HS.out;simp only;omega) _)
   have Q8:Hid ((w5.setCell ⟨(w2.heap.size+1),0,none⟩ (.bool !f)).ownsRow w1.heap.size 46 2 (.slice u ql ku) ql (pcells qs)):=ownsRow_setCell_other Q5.out (fun e9=>(HSU.out _ e9).2 rfl) _
   clear C5 Q5 M5 O5 R5 B5 Z5 Y5
   go_wp2
   obtain⟨w9,hw9⟩:∃ W,W=(w5.setCell ⟨(w2.heap.size+1),0,none⟩ (.bool !f)):=⟨_,rfl⟩
   rw[←hw9] at C8 Q8 M8 O8 R8 B8 Z8 Y8 ⊢
   clear hw9
   obtain⟨nf,hnf⟩:∃ z,z = !f:=⟨_,rfl⟩
   rw[←hnf] at C8
   clear y0 y1 y2 yf0 yf1 yf2 hnf
   have HFO:Hid (∀ q,(Value.slice x pl c).ownBlock=some q→w1.heap.size≤q):=fun q hq=>(O8.out.lt q hq).1
   have HFQ:Hid (∀ q,(Value.slice u ql ku).ownBlock=some q→w1.heap.size≤q):=fun q hq=>(Q8.out.lt q hq).1
   have FA:Hid (((((((w9.setCell ⟨w.heap.size,0,none⟩ (.string ⟨r.toArray⟩)).setCell ⟨w.heap.size,1,none⟩ (.slice x pl c)).setCell ⟨w.heap.size,2,none⟩ (.bool d)).setCell ⟨(w.heap.size+1),0,none⟩ (.bool nf)).setCell ⟨(w.heap.size+1),1,none⟩ (.bool l)).setCell ⟨(w.heap.size+1),2,none⟩ (.slice u ql ku)).drew.heap[w.heap.size]? = some (.cells #[.string ⟨r.toArray⟩,.slice x pl c,.bool d] 26 (0,0))∧((((((w9.setCell ⟨w.heap.size,0,none⟩ (.string ⟨r.toArray⟩)).setCell ⟨w.heap.size,1,none⟩ (.slice x pl c)).setCell ⟨w.heap.size,2,none⟩ (.bool d)).setCell ⟨(w.heap.size+1),0,none⟩ (.bool nf)).setCell ⟨(w.heap.size+1),1,none⟩ (.bool l)).setCell ⟨(w.heap.size+1),2,none⟩ (.slice u ql ku)).drew.heap[(w.heap.size+1)]? = some (.cells #[.bool nf,.bool l,.slice u ql ku] 28 (0,0))∧((((((w9.setCell ⟨w.heap.size,0,none⟩ (.string ⟨r.toArray⟩)).setCell ⟨w.heap.size,1,none⟩ (.slice x pl c)).setCell ⟨w.heap.size,2,none⟩ (.bool d)).setCell ⟨(w.heap.size+1),0,none⟩ (.bool nf)).setCell ⟨(w.heap.size+1),1,none⟩ (.bool l)).setCell ⟨(w.heap.size+1),2,none⟩ (.slice u ql ku)).drew.ownsRow w1.heap.size 46 2 (.slice x pl c) pl (pcells ps)∧((((((w9.setCell ⟨w.heap.size,0,none⟩ (.string ⟨r.toArray⟩)).setCell ⟨w.heap.size,1,none⟩ (.slice x pl c)).setCell ⟨w.heap.size,2,none⟩ (.bool d)).setCell ⟨(w.heap.size+1),0,none⟩ (.bool nf)).setCell ⟨(w.heap.size+1),1,none⟩ (.bool l)).setCell ⟨(w.heap.size+1),2,none⟩ (.slice u ql ku)).drew.ownsRow w1.heap.size 46 2 (.slice u ql ku) ql (pcells qs)∧Below w.heap.size w ((((((w9.setCell ⟨w.heap.size,0,none⟩ (.string ⟨r.toArray⟩)).setCell ⟨w.heap.size,1,none⟩ (.slice x pl c)).setCell ⟨w.heap.size,2,none⟩ (.bool d)).setCell ⟨(w.heap.size+1),0,none⟩ (.bool nf)).setCell ⟨(w.heap.size+1),1,none⟩ (.bool l)).setCell ⟨(w.heap.size+1),2,none⟩ (.slice u ql ku)).drew):=by
    have h1:=HS.out
    refine⟨blk_drewK ((ck_far (by omega)).trans (ck_set (j:=2) (ck_set (j:=1) (ck_set (j:=0) Z8.out)))),blk_drewK (ck_set (j:=2) (ck_set (j:=1) (ck_set (j:=0) ((ck_far (by omega)).trans Y8.out)))),own_drewK (own_three (own_three O8.out fun q hq=>by have:=HFO.out q hq;omega) fun q hq=>by have:=HFO.out q hq;omega),own_drewK (own_three (own_three Q8.out fun q hq=>by have:=HFQ.out q hq;omega) fun q hq=>by have:=HFQ.out q hq;omega),below_drewK ?_⟩
    exact (((((B8.out.setCell (by simp only;omega) _).setCell (by simp only;omega) _).setCell (by simp only;omega) _).setCell (by simp only;omega) _).setCell (by simp only;omega) _).setCell (by simp only;omega) _
   obtain⟨m0,m1,m2,_⟩:=im_cells M8.out
   obtain⟨c0,c1,c2,_⟩:=im_cells C8.out
   obtain⟨z0',z1',z2',zf⟩:=im_cells Z8.out
   obtain⟨y0',y1',y2',yf'⟩:=im_cells Y8.out
   have zf0:=zf 0
   have zf1:=zf 1
   have zf2:=zf 2
   have yf0':=yf' 0
   have yf1':=yf' 1
   have yf2':=yf' 2
   have nb1:¬ w2.heap.size=w.heap.size:=by have:=HS.out;omega
   have nb2:¬ w2.heap.size=(w.heap.size+1):=by have:=HS.out;omega
   have nb3:¬ (w2.heap.size+1)=w.heap.size:=by have:=HS.out;omega
   have nb4:¬ (w2.heap.size+1)=(w.heap.size+1):=by have:=HS.out;omega
   have nb5:¬ w2.heap.size=w.heap.size:=by have:=HS.out;omega
   clear zf yf' O8 Q8 R8 B8 M8 C8 Z8 Y8 HFO HFQ
   go_wp2
   go_region
   go_wp2
   refine bodyPost_ret (v:=.tuple #[.agg #[.string ⟨r.toArray⟩,.slice x pl c,.bool d],.agg #[.bool nf,.bool l,.slice u ql ku]]) (results_ccK rfl _ _ w.heap.size (w.heap.size+1) 26 28 _ _ _ _ rfl FA.out.1 Tryz.underlying26 rfl (by kernel_rfl) rfl FA.out.2.1 Tryz.underlying28 rfl (by kernel_rfl)) rfl ?_
   exact tookD_end rfl HPL.out HQL.out HQS.out HS.out FA.out
 · have z0b : ((z : Int) == 0) = false := by rw [beq_eq_false_iff_ne]; omega
   by_cases z1:z=1
   · subst z1
     have C8:Hid ((w5.setCell ⟨(w2.heap.size+1),1,none⟩ (.bool !l)).heap[(w2.heap.size+1)]? = some (.cells #[.bool f,.bool (!l),.slice u ql ku] 28 (0,0))):=ck_set (j:=1) C5.out
     have M8:Hid ((w5.setCell ⟨(w2.heap.size+1),1,none⟩ (.bool !l)).heap[w2.heap.size]? = some (.cells #[.string ⟨r.toArray⟩,.slice x pl c,.bool d] 26 (0,0))):=(Below.heap_setCell _ _ _ _ (by have:=HS.out;dsimp only;omega)).trans (M5.out)
     have Z8:Hid ((w5.setCell ⟨(w2.heap.size+1),1,none⟩ (.bool !l)).heap[w.heap.size]? = some (.cells #[.string ⟨#[]⟩,.slice none 0 0,.bool false] 26 (0,0))):=(Below.heap_setCell _ _ _ _ (by have:=HS.out;dsimp only;omega)).trans (Z5.out)
     have Y8:Hid ((w5.setCell ⟨(w2.heap.size+1),1,none⟩ (.bool !l)).heap[(w.heap.size+1)]? = some (.cells #[.bool false,.bool false,.slice none 0 0] 28 (0,0))):=(Below.heap_setCell _ _ _ _ (by have:=HS.out;dsimp only;omega)).trans (Y5.out)
     have O8:Hid ((w5.setCell ⟨(w2.heap.size+1),1,none⟩ (.bool !l)).ownsRow w1.heap.size 46 2 (.slice x pl c) pl (pcells ps)):=(ownsRow_setCell_other O5.out (fun e9=>(HSX.out _ e9).2 rfl) _)
     have R8:Hid (Rd (w.heap.size+2) a n cap (w5.setCell ⟨(w2.heap.size+1),1,none⟩ (.bool !l))):=R5.out.kept (row:=some (w2.heap.size+1)) ⟨rfl,rfl,rfl,by simp[World.setCell],fun k _ hk=>(Below.heap_setCell _ _ _ _ (fun e9=>hk (by rw[e9]))).trans (rfl)⟩ (by have:=HS.out;simp;omega) (fun cb off e hn=>by have:=HLO.out cb off e hn;have:=HS.out;simp;omega)
     have B8:Hid (Below w.heap.size w (w5.setCell ⟨(w2.heap.size+1),1,none⟩ (.bool !l))):=(B5.out.setCell (by have:=HS.out;simp only;omega) _)
     have Q8:Hid ((w5.setCell ⟨(w2.heap.size+1),1,none⟩ (.bool !l)).ownsRow w1.heap.size 46 2 (.slice u ql ku) ql (pcells qs)):=ownsRow_setCell_other Q5.out (fun e9=>(HSU.out _ e9).2 rfl) _
     clear C5 Q5 M5 O5 R5 B5 Z5 Y5
     go_wp2
     obtain⟨w9,hw9⟩:∃ W,W=(w5.setCell ⟨(w2.heap.size+1),1,none⟩ (.bool !l)):=⟨_,rfl⟩
     rw[←hw9] at C8 Q8 M8 O8 R8 B8 Z8 Y8 ⊢
     clear hw9
     obtain⟨nl,hnl⟩:∃ z,z = !l:=⟨_,rfl⟩
     rw[←hnl] at C8
     clear y0 y1 y2 yf0 yf1 yf2 hnl
     have HFO:Hid (∀ q,(Value.slice x pl c).ownBlock=some q→w1.heap.size≤q):=fun q hq=>(O8.out.lt q hq).1
     have HFQ:Hid (∀ q,(Value.slice u ql ku).ownBlock=some q→w1.heap.size≤q):=fun q hq=>(Q8.out.lt q hq).1
     have FA:Hid (((((((w9.setCell ⟨w.heap.size,0,none⟩ (.string ⟨r.toArray⟩)).setCell ⟨w.heap.size,1,none⟩ (.slice x pl c)).setCell ⟨w.heap.size,2,none⟩ (.bool d)).setCell ⟨(w.heap.size+1),0,none⟩ (.bool f)).setCell ⟨(w.heap.size+1),1,none⟩ (.bool nl)).setCell ⟨(w.heap.size+1),2,none⟩ (.slice u ql ku)).drew.heap[w.heap.size]? = some (.cells #[.string ⟨r.toArray⟩,.slice x pl c,.bool d] 26 (0,0))∧((((((w9.setCell ⟨w.heap.size,0,none⟩ (.string ⟨r.toArray⟩)).setCell ⟨w.heap.size,1,none⟩ (.slice x pl c)).setCell ⟨w.heap.size,2,none⟩ (.bool d)).setCell ⟨(w.heap.size+1),0,none⟩ (.bool f)).setCell ⟨(w.heap.size+1),1,none⟩ (.bool nl)).setCell ⟨(w.heap.size+1),2,none⟩ (.slice u ql ku)).drew.heap[(w.heap.size+1)]? = some (.cells #[.bool f,.bool nl,.slice u ql ku] 28 (0,0))∧((((((w9.setCell ⟨w.heap.size,0,none⟩ (.string ⟨r.toArray⟩)).setCell ⟨w.heap.size,1,none⟩ (.slice x pl c)).setCell ⟨w.heap.size,2,none⟩ (.bool d)).setCell ⟨(w.heap.size+1),0,none⟩ (.bool f)).setCell ⟨(w.heap.size+1),1,none⟩ (.bool nl)).setCell ⟨(w.heap.size+1),2,none⟩ (.slice u ql ku)).drew.ownsRow w1.heap.size 46 2 (.slice x pl c) pl (pcells ps)∧((((((w9.setCell ⟨w.heap.size,0,none⟩ (.string ⟨r.toArray⟩)).setCell ⟨w.heap.size,1,none⟩ (.slice x pl c)).setCell ⟨w.heap.size,2,none⟩ (.bool d)).setCell ⟨(w.heap.size+1),0,none⟩ (.bool f)).setCell ⟨(w.heap.size+1),1,none⟩ (.bool nl)).setCell ⟨(w.heap.size+1),2,none⟩ (.slice u ql ku)).drew.ownsRow w1.heap.size 46 2 (.slice u ql ku) ql (pcells qs)∧Below w.heap.size w ((((((w9.setCell ⟨w.heap.size,0,none⟩ (.string ⟨r.toArray⟩)).setCell ⟨w.heap.size,1,none⟩ (.slice x pl c)).setCell ⟨w.heap.size,2,none⟩ (.bool d)).setCell ⟨(w.heap.size+1),0,none⟩ (.bool f)).setCell ⟨(w.heap.size+1),1,none⟩ (.bool nl)).setCell ⟨(w.heap.size+1),2,none⟩ (.slice u ql ku)).drew):=by
      have h1:=HS.out
      refine⟨blk_drewK ((ck_far (by omega)).trans (ck_set (j:=2) (ck_set (j:=1) (ck_set (j:=0) Z8.out)))),blk_drewK (ck_set (j:=2) (ck_set (j:=1) (ck_set (j:=0) ((ck_far (by omega)).trans Y8.out)))),own_drewK (own_three (own_three O8.out fun q hq=>by have:=HFO.out q hq;omega) fun q hq=>by have:=HFO.out q hq;omega),own_drewK (own_three (own_three Q8.out fun q hq=>by have:=HFQ.out q hq;omega) fun q hq=>by have:=HFQ.out q hq;omega),below_drewK ?_⟩
      exact (((((B8.out.setCell (by simp only;omega) _).setCell (by simp only;omega) _).setCell (by simp only;omega) _).setCell (by simp only;omega) _).setCell (by simp only;omega) _).setCell (by simp only;omega) _
     obtain⟨m0,m1,m2,_⟩:=im_cells M8.out
     obtain⟨c0,c1,c2,_⟩:=im_cells C8.out
     obtain⟨z0',z1',z2',zf⟩:=im_cells Z8.out
     obtain⟨y0',y1',y2',yf'⟩:=im_cells Y8.out
     have zf0:=zf 0
     have zf1:=zf 1
     have zf2:=zf 2
     have yf0':=yf' 0
     have yf1':=yf' 1
     have yf2':=yf' 2
     have nb1:¬ w2.heap.size=w.heap.size:=by have:=HS.out;omega
     have nb2:¬ w2.heap.size=(w.heap.size+1):=by have:=HS.out;omega
     have nb3:¬ (w2.heap.size+1)=w.heap.size:=by have:=HS.out;omega
     have nb4:¬ (w2.heap.size+1)=(w.heap.size+1):=by have:=HS.out;omega
     have nb5:¬ w2.heap.size=w.heap.size:=by have:=HS.out;omega
     clear zf yf' O8 Q8 R8 B8 M8 C8 Z8 Y8 HFO HFQ
     go_wp2
     go_region
     go_wp2
     refine bodyPost_ret (v:=.tuple #[.agg #[.string ⟨r.toArray⟩,.slice x pl c,.bool d],.agg #[.bool f,.bool nl,.slice u ql ku]]) (results_ccK rfl _ _ w.heap.size (w.heap.size+1) 26 28 _ _ _ _ rfl FA.out.1 Tryz.underlying26 rfl (by kernel_rfl) rfl FA.out.2.1 Tryz.underlying28 rfl (by kernel_rfl)) rfl ?_
     exact tookD_end rfl HPL.out HQL.out HQS.out HS.out FA.out
   · have z1b:((z:Int) == 1)=false:=by rw[beq_eq_false_iff_ne];omega
     by_cases z2:z=2
     · subst z2
       have K6:=pairs_any (w.heap.size+2) n cap 3 3 a w5 rfl (by omega) (by omega) hn R5.out
       go_wp2_with fail
       refine K6.mono ?_
       rintro e w6 ⟨qs6,g6,c6,hq6,hs6,rfl,o6,hR6,G6⟩
       have HG6:Hid (w5.heap.size≤g6∧g6<w6.heap.size∧w3.heap.size≤w5.heap.size):=⟨(o6.lt g6 (by simp[Value.ownBlock])).1,(o6.lt g6 (by simp[Value.ownBlock])).2,by have h1:=lt_of_block C5.out;have h2:=HS.out;omega⟩
       have M6:Hid (w6.heap[w2.heap.size]? = some (.cells #[.string ⟨r.toArray⟩,.slice x pl c,.bool d] 26 (0,0))):=(G6.block _ (lt_of_block M5.out) (by have:=HS.out;(try simp) <;> omega)).trans M5.out
       have Z6:Hid (w6.heap[w.heap.size]? = some (.cells #[.string ⟨#[]⟩,.slice none 0 0,.bool false] 26 (0,0))):=(G6.block _ (lt_of_block Z5.out) (by have:=HS.out;(try simp) <;> omega)).trans Z5.out
       have Y6:Hid (w6.heap[(w.heap.size+1)]? = some (.cells #[.bool false,.bool false,.slice none 0 0] 28 (0,0))):=(G6.block _ (lt_of_block Y5.out) (by have:=HS.out;(try simp) <;> omega)).trans Y5.out
       have C6:Hid (w6.heap[(w2.heap.size+1)]? = some (.cells #[.bool f,.bool l,.slice u ql ku] 28 (0,0))):=(G6.block _ (lt_of_block C5.out) (by have:=HS.out;(try simp) <;> omega)).trans C5.out
       have O6:Hid (w6.ownsRow w1.heap.size 46 2 (.slice x pl c) pl (pcells ps)):=keptR O5.out G6 (rd_far O5.out (by have:=HS.out;omega))
       have Q6:Hid (w6.ownsRow w1.heap.size 46 2 (.slice u ql ku) ql (pcells qs)):=keptR Q5.out G6 (rd_far Q5.out (by have:=HS.out;omega))
       have R6:Hid (Rd (w.heap.size+2) a n cap w6):=hR6
       have B6:Hid (Below w.heap.size w w6):=B5.out.grown G6 B5.out.size (fun k hk=>by simp at hk;omega)
       obtain⟨q6,hq6e⟩:∃ z,z=qs6.length:=⟨_,rfl⟩
       rw[←hq6e] at o6 hq6
       rw[←hq6e]
       have HQ6:Hid (q6=qs6.length):=hq6e
       have HS6:Hid (q6≤10∧smallP qs6):=⟨by omega,hs6⟩
       have HU6:Hid (∀ q,(Value.slice (some ⟨g6,0,none⟩) q6 c6).ownBlock=some q→q≠w2.heap.size∧q≠(w2.heap.size+1)):=fun q hq=>by simp[Value.ownBlock] at hq;have:=HG6.out;have:=HS.out;omega
       have P6:Hid (w6.ownsRow w1.heap.size 46 2 (.slice (some ⟨g6,0,none⟩) q6 c6) q6 (pcells qs6)):=o6.mono (by have:=HG6.out;have:=HS.out;omega)
       obtain⟨x0,x1,x2,xf⟩:=im_cells C6.out
       have xf2:=xf 2
       clear xf K6 o6 hq6 hs6 hR6 G6 hq6e y0 y1 y2 yf0 yf1 yf2 C5 Q5 M5 O5 R5 B5 Z5 Y5
       have C8:Hid ((w6.setCell ⟨(w2.heap.size+1),2,none⟩ (.slice (some ⟨g6,0,none⟩) q6 c6)).heap[(w2.heap.size+1)]? = some (.cells #[.bool f,.bool l,.slice (some ⟨g6,0,none⟩) q6 c6] 28 (0,0))):=ck_set (j:=2) C6.out
       have M8:Hid ((w6.setCell ⟨(w2.heap.size+1),2,none⟩ (.slice (some ⟨g6,0,none⟩) q6 c6)).heap[w2.heap.size]? = some (.cells #[.string ⟨r.toArray⟩,.slice x pl c,.bool d] 26 (0,0))):=(Below.heap_setCell _ _ _ _ (by have:=HS.out;dsimp only;omega)).trans (M6.out)
       have Z8:Hid ((w6.setCell ⟨(w2.heap.size+1),2,none⟩ (.slice (some ⟨g6,0,none⟩) q6 c6)).heap[w.heap.size]? = some (.cells #[.string ⟨#[]⟩,.slice none 0 0,.bool false] 26 (0,0))):=(Below.heap_setCell _ _ _ _ (by have:=HS.out;dsimp only;omega)).trans (Z6.out)
       have Y8:Hid ((w6.setCell ⟨(w2.heap.size+1),2,none⟩ (.slice (some ⟨g6,0,none⟩) q6 c6)).heap[(w.heap.size+1)]? = some (.cells #[.bool false,.bool false,.slice none 0 0] 28 (0,0))):=(Below.heap_setCell _ _ _ _ (by have:=HS.out;dsimp only;omega)).trans (Y6.out)
       have O8:Hid ((w6.setCell ⟨(w2.heap.size+1),2,none⟩ (.slice (some ⟨g6,0,none⟩) q6 c6)).ownsRow w1.heap.size 46 2 (.slice x pl c) pl (pcells ps)):=(ownsRow_setCell_other O6.out (fun e9=>(HSX.out _ e9).2 rfl) _)
       have R8:Hid (Rd (w.heap.size+2) a n cap (w6.setCell ⟨(w2.heap.size+1),2,none⟩ (.slice (some ⟨g6,0,none⟩) q6 c6))):=R6.out.kept (row:=some (w2.heap.size+1)) ⟨rfl,rfl,rfl,by simp[World.setCell],fun k _ hk=>(Below.heap_setCell _ _ _ _ (fun e9=>hk (by rw[e9]))).trans (rfl)⟩ (by have:=HS.out;simp;omega) (fun cb off e hn=>by have:=HLO.out cb off e hn;have:=HS.out;simp;omega)
       have B8:Hid (Below w.heap.size w (w6.setCell ⟨(w2.heap.size+1),2,none⟩ (.slice (some ⟨g6,0,none⟩) q6 c6))):=(B6.out.setCell (by have:=HS.out;simp only;omega) _)
       have Q8:Hid ((w6.setCell ⟨(w2.heap.size+1),2,none⟩ (.slice (some ⟨g6,0,none⟩) q6 c6)).ownsRow w1.heap.size 46 2 (.slice (some ⟨g6,0,none⟩) q6 c6) q6 (pcells qs6)):=ownsRow_setCell_other P6.out (fun e9=>(HU6.out _ e9).2 rfl) _
       clear C6 Q6 M6 O6 R6 B6 Z6 Y6 P6
       go_wp2
       obtain⟨w9,hw9⟩:∃ W,W=(w6.setCell ⟨(w2.heap.size+1),2,none⟩ (.slice (some ⟨g6,0,none⟩) q6 c6)):=⟨_,rfl⟩
       rw[←hw9] at C8 Q8 M8 O8 R8 B8 Z8 Y8 ⊢
       clear hw9
       clear x0 x1 x2 xf2
       have HFO:Hid (∀ q,(Value.slice x pl c).ownBlock=some q→w1.heap.size≤q):=fun q hq=>(O8.out.lt q hq).1
       have HFQ:Hid (∀ q,(Value.slice (some ⟨g6,0,none⟩) q6 c6).ownBlock=some q→w1.heap.size≤q):=fun q hq=>(Q8.out.lt q hq).1
       have FA:Hid (((((((w9.setCell ⟨w.heap.size,0,none⟩ (.string ⟨r.toArray⟩)).setCell ⟨w.heap.size,1,none⟩ (.slice x pl c)).setCell ⟨w.heap.size,2,none⟩ (.bool d)).setCell ⟨(w.heap.size+1),0,none⟩ (.bool f)).setCell ⟨(w.heap.size+1),1,none⟩ (.bool l)).setCell ⟨(w.heap.size+1),2,none⟩ (.slice (some ⟨g6,0,none⟩) q6 c6)).drew.heap[w.heap.size]? = some (.cells #[.string ⟨r.toArray⟩,.slice x pl c,.bool d] 26 (0,0))∧((((((w9.setCell ⟨w.heap.size,0,none⟩ (.string ⟨r.toArray⟩)).setCell ⟨w.heap.size,1,none⟩ (.slice x pl c)).setCell ⟨w.heap.size,2,none⟩ (.bool d)).setCell ⟨(w.heap.size+1),0,none⟩ (.bool f)).setCell ⟨(w.heap.size+1),1,none⟩ (.bool l)).setCell ⟨(w.heap.size+1),2,none⟩ (.slice (some ⟨g6,0,none⟩) q6 c6)).drew.heap[(w.heap.size+1)]? = some (.cells #[.bool f,.bool l,.slice (some ⟨g6,0,none⟩) q6 c6] 28 (0,0))∧((((((w9.setCell ⟨w.heap.size,0,none⟩ (.string ⟨r.toArray⟩)).setCell ⟨w.heap.size,1,none⟩ (.slice x pl c)).setCell ⟨w.heap.size,2,none⟩ (.bool d)).setCell ⟨(w.heap.size+1),0,none⟩ (.bool f)).setCell ⟨(w.heap.size+1),1,none⟩ (.bool l)).setCell ⟨(w.heap.size+1),2,none⟩ (.slice (some ⟨g6,0,none⟩) q6 c6)).drew.ownsRow w1.heap.size 46 2 (.slice x pl c) pl (pcells ps)∧((((((w9.setCell ⟨w.heap.size,0,none⟩ (.string ⟨r.toArray⟩)).setCell ⟨w.heap.size,1,none⟩ (.slice x pl c)).setCell ⟨w.heap.size,2,none⟩ (.bool d)).setCell ⟨(w.heap.size+1),0,none⟩ (.bool f)).setCell ⟨(w.heap.size+1),1,none⟩ (.bool l)).setCell ⟨(w.heap.size+1),2,none⟩ (.slice (some ⟨g6,0,none⟩) q6 c6)).drew.ownsRow w1.heap.size 46 2 (.slice (some ⟨g6,0,none⟩) q6 c6) q6 (pcells qs6)∧Below w.heap.size w ((((((w9.setCell ⟨w.heap.size,0,none⟩ (.string ⟨r.toArray⟩)).setCell ⟨w.heap.size,1,none⟩ (.slice x pl c)).setCell ⟨w.heap.size,2,none⟩ (.bool d)).setCell ⟨(w.heap.size+1),0,none⟩ (.bool f)).setCell ⟨(w.heap.size+1),1,none⟩ (.bool l)).setCell ⟨(w.heap.size+1),2,none⟩ (.slice (some ⟨g6,0,none⟩) q6 c6)).drew):=by
        have h1:=HS.out
        refine⟨blk_drewK ((ck_far (by omega)).trans (ck_set (j:=2) (ck_set (j:=1) (ck_set (j:=0) Z8.out)))),blk_drewK (ck_set (j:=2) (ck_set (j:=1) (ck_set (j:=0) ((ck_far (by omega)).trans Y8.out)))),own_drewK (own_three (own_three O8.out fun q hq=>by have:=HFO.out q hq;omega) fun q hq=>by have:=HFO.out q hq;omega),own_drewK (own_three (own_three Q8.out fun q hq=>by have:=HFQ.out q hq;omega) fun q hq=>by have:=HFQ.out q hq;omega),below_drewK ?_⟩
        exact (((((B8.out.setCell (by simp only;omega) _).setCell (by simp only;omega) _).setCell (by simp only;omega) _).setCell (by simp only;omega) _).setCell (by simp only;omega) _).setCell (by simp only;omega) _
       obtain⟨m0,m1,m2,_⟩:=im_cells M8.out
       obtain⟨c0,c1,c2,_⟩:=im_cells C8.out
       obtain⟨z0',z1',z2',zf⟩:=im_cells Z8.out
       obtain⟨y0',y1',y2',yf'⟩:=im_cells Y8.out
       have zf0:=zf 0
       have zf1:=zf 1
       have zf2:=zf 2
       have yf0':=yf' 0
       have yf1':=yf' 1
       have yf2':=yf' 2
       have nb1:¬ w2.heap.size=w.heap.size:=by have:=HS.out;omega
       have nb2:¬ w2.heap.size=(w.heap.size+1):=by have:=HS.out;omega
       have nb3:¬ (w2.heap.size+1)=w.heap.size:=by have:=HS.out;omega
       have nb4:¬ (w2.heap.size+1)=(w.heap.size+1):=by have:=HS.out;omega
       have nb5:¬ w2.heap.size=w.heap.size:=by have:=HS.out;omega
       clear zf yf' O8 Q8 R8 B8 M8 C8 Z8 Y8 HFO HFQ
       go_wp2
       go_region
       go_wp2
       refine bodyPost_ret (v:=.tuple #[.agg #[.string ⟨r.toArray⟩,.slice x pl c,.bool d],.agg #[.bool f,.bool l,.slice (some ⟨g6,0,none⟩) q6 c6]]) (results_ccK rfl _ _ w.heap.size (w.heap.size+1) 26 28 _ _ _ _ rfl FA.out.1 Tryz.underlying26 rfl (by kernel_rfl) rfl FA.out.2.1 Tryz.underlying28 rfl (by kernel_rfl)) rfl ?_
       exact tookD_end rfl HPL.out HQ6.out HS6.out HS.out FA.out
     · have z2b:((z:Int) == 2)=false:=by rw[beq_eq_false_iff_ne];omega
       clear z0 z1 z2 y0 y1 y2 yf0 yf1 yf2
       have HFO:Hid (∀ q,(Value.slice x pl c).ownBlock=some q→w1.heap.size≤q):=fun q hq=>(O5.out.lt q hq).1
       have HFQ:Hid (∀ q,(Value.slice u ql ku).ownBlock=some q→w1.heap.size≤q):=fun q hq=>(Q5.out.lt q hq).1
       have FA:Hid (((((((w5.setCell ⟨w.heap.size,0,none⟩ (.string ⟨r.toArray⟩)).setCell ⟨w.heap.size,1,none⟩ (.slice x pl c)).setCell ⟨w.heap.size,2,none⟩ (.bool d)).setCell ⟨(w.heap.size+1),0,none⟩ (.bool f)).setCell ⟨(w.heap.size+1),1,none⟩ (.bool l)).setCell ⟨(w.heap.size+1),2,none⟩ (.slice u ql ku)).drew.heap[w.heap.size]? = some (.cells #[.string ⟨r.toArray⟩,.slice x pl c,.bool d] 26 (0,0))∧((((((w5.setCell ⟨w.heap.size,0,none⟩ (.string ⟨r.toArray⟩)).setCell ⟨w.heap.size,1,none⟩ (.slice x pl c)).setCell ⟨w.heap.size,2,none⟩ (.bool d)).setCell ⟨(w.heap.size+1),0,none⟩ (.bool f)).setCell ⟨(w.heap.size+1),1,none⟩ (.bool l)).setCell ⟨(w.heap.size+1),2,none⟩ (.slice u ql ku)).drew.heap[(w.heap.size+1)]? = some (.cells #[.bool f,.bool l,.slice u ql ku] 28 (0,0))∧((((((w5.setCell ⟨w.heap.size,0,none⟩ (.string ⟨r.toArray⟩)).setCell ⟨w.heap.size,1,none⟩ (.slice x pl c)).setCell ⟨w.heap.size,2,none⟩ (.bool d)).setCell ⟨(w.heap.size+1),0,none⟩ (.bool f)).setCell ⟨(w.heap.size+1),1,none⟩ (.bool l)).setCell ⟨(w.heap.size+1),2,none⟩ (.slice u ql ku)).drew.ownsRow w1.heap.size 46 2 (.slice x pl c) pl (pcells ps)∧((((((w5.setCell ⟨w.heap.size,0,none⟩ (.string ⟨r.toArray⟩)).setCell ⟨w.heap.size,1,none⟩ (.slice x pl c)).setCell ⟨w.heap.size,2,none⟩ (.bool d)).setCell ⟨(w.heap.size+1),0,none⟩ (.bool f)).setCell ⟨(w.heap.size+1),1,none⟩ (.bool l)).setCell ⟨(w.heap.size+1),2,none⟩ (.slice u ql ku)).drew.ownsRow w1.heap.size 46 2 (.slice u ql ku) ql (pcells qs)∧Below w.heap.size w ((((((w5.setCell ⟨w.heap.size,0,none⟩ (.string ⟨r.toArray⟩)).setCell ⟨w.heap.size,1,none⟩ (.slice x pl c)).setCell ⟨w.heap.size,2,none⟩ (.bool d)).setCell ⟨(w.heap.size+1),0,none⟩ (.bool f)).setCell ⟨(w.heap.size+1),1,none⟩ (.bool l)).setCell ⟨(w.heap.size+1),2,none⟩ (.slice u ql ku)).drew):=by
        have h1:=HS.out
        refine⟨blk_drewK ((ck_far (by omega)).trans (ck_set (j:=2) (ck_set (j:=1) (ck_set (j:=0) Z5.out)))),blk_drewK (ck_set (j:=2) (ck_set (j:=1) (ck_set (j:=0) ((ck_far (by omega)).trans Y5.out)))),own_drewK (own_three (own_three O5.out fun q hq=>by have:=HFO.out q hq;omega) fun q hq=>by have:=HFO.out q hq;omega),own_drewK (own_three (own_three Q5.out fun q hq=>by have:=HFQ.out q hq;omega) fun q hq=>by have:=HFQ.out q hq;omega),below_drewK ?_⟩
        exact (((((B5.out.setCell (by simp only;omega) _).setCell (by simp only;omega) _).setCell (by simp only;omega) _).setCell (by simp only;omega) _).setCell (by simp only;omega) _).setCell (by simp only;omega) _
       obtain⟨m0,m1,m2,_⟩:=im_cells M5.out
       obtain⟨c0,c1,c2,_⟩:=im_cells C5.out
       obtain⟨z0',z1',z2',zf⟩:=im_cells Z5.out
       obtain⟨y0',y1',y2',yf'⟩:=im_cells Y5.out
       have zf0:=zf 0
       have zf1:=zf 1
       have zf2:=zf 2
       have yf0':=yf' 0
       have yf1':=yf' 1
       have yf2':=yf' 2
       have nb1:¬ w2.heap.size=w.heap.size:=by have:=HS.out;omega
       have nb2:¬ w2.heap.size=(w.heap.size+1):=by have:=HS.out;omega
       have nb3:¬ (w2.heap.size+1)=w.heap.size:=by have:=HS.out;omega
       have nb4:¬ (w2.heap.size+1)=(w.heap.size+1):=by have:=HS.out;omega
       have nb5:¬ w2.heap.size=w.heap.size:=by have:=HS.out;omega
       clear zf yf' O5 Q5 R5 B5 M5 C5 Z5 Y5 HFO HFQ
       go_wp2
       go_region
       go_wp2
       refine bodyPost_ret (v:=.tuple #[.agg #[.string ⟨r.toArray⟩,.slice x pl c,.bool d],.agg #[.bool f,.bool l,.slice u ql ku]]) (results_ccK rfl _ _ w.heap.size (w.heap.size+1) 26 28 _ _ _ _ rfl FA.out.1 Tryz.underlying26 rfl (by kernel_rfl) rfl FA.out.2.1 Tryz.underlying28 rfl (by kernel_rfl)) rfl ?_
       exact tookD_end rfl HPL.out HQL.out HQS.out HS.out FA.out
end Go.Proofs.YtcoahmldmodmlaaGreatDoor
