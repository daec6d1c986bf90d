/-
 Contract: a drawn disk, a name and data (written by mkdrawrp.py).
-/
import Derived.Test.YtlllkdioojjaeaaDrawDo
namespace Go.Proofs.Ytlllkdioojjaeaa
open Go.RowKit
set_option linter.unusedVariables false
theorem results_cbbD {P:Program} {fn:Func} {p q r:Tmp} {ty:TypeId} (h:fn.results=#[.cell p ty,.tmp q,.tmp r]) (tmps:Array Value) (w:World) (g:Nat) (t:TypeId) (cs:Array Value) (d:TypeDesc)
 (hp:tmps.getD p undef=.pointer (some ⟨g,0,none⟩)) (hg:w.heap[g]? = some (.cells cs t (0,0))) (hu:P.underlying ty=some d) (hd:(match d with | .struct _ | .array _ _=>true | _=>false)=true) (hi:(P.info? ty).map (·.size)=some cs.size) (va vb:Value) (ha:tmps.getD q undef=va) (hb:tmps.getD r undef=vb) :
 (results fn tmps).run P w=.ok (.tuple #[.agg cs,va,vb]) w:=by
 subst ha hb
 have hp':tmps[p]?.getD undef=.pointer (some ⟨g,0,none⟩):=by simpa using hp
 simp[results,h,hp',asAddr,run_loadVar_row w g t ty cs (0,0) d hg hu hd hi]
set_option maxRecDepth 100000 in
set_option maxHeartbeats 8000000 in
theorem drawReplace (n cap : Nat) (a : Option Addr) (w : World) (hn : n ≤ 1048576) (h : Code w a n) :
 Calls Try.prog 38 #[.slice a n cap] w fun e w'=>∃ (x1 x2 x3:Option Addr) (k1 k2 k3:Nat) (live safe:List PairL) (ops:List DOpL) (nm dd:List UInt8),e=.returned (.tuple #[.agg #[.slice x1 live.length k1,.slice x2 safe.length k2,.slice x3 ops.length k3],.string ⟨nm.toArray⟩,.string ⟨dd.toArray⟩])∧nm.length≤100∧dd.length≤56∧DkG w' w.heap.size x1 x2 x3 k1 k2 k3 live safe ops∧DSz live safe ops∧ops.length≤10∧Below w.heap.size w w':=by
 obtain⟨ti0,hti0,tz0,tz1,tz2⟩:=info_parts info5
 obtain⟨wa,hwa⟩:∃ wa,wa=w.alloc (.cells #[.slice none 0 0,.slice none 0 0,.slice none 0 0] 31):=⟨_,rfl⟩
 have Ba:Below w.heap.size w wa:=by rw[hwa];exact (Below.refl _ _).alloc (Nat.le_refl _) _
 have XBa:Hid (wa.heap[w.heap.size]? = some (.cells #[.slice none 0 0,.slice none 0 0,.slice none 0 0] 31 (0,0))):=by rw[hwa];exact heap_alloc_new w _
 have K1:=open_any n cap a wa (h.later Ba)
 have sa:wa.heap.size=w.heap.size+1:=by rw[hwa];simp
 have h0:=h
 clear h
 go_enter Try.func38,Try.ntmps38
 go_wp2_with fail
 rw[←hwa]
 refine K1.mono ?_
 rintro e w1 ⟨rfl,hR1,b1⟩
 obtain⟨rd,hrd⟩:∃ x,x=wa.heap.size:=⟨_,rfl⟩
 rw[←hrd] at hR1 ⊢
 have XB1:Hid (w1.heap[w.heap.size]? = some (.cells #[.slice none 0 0,.slice none 0 0,.slice none 0 0] 31 (0,0))):=(b1.block _ (by omega)).trans XBa.out
 have BW1:Hid (Below w.heap.size w w1):=Ba.trans (b1.mono Ba.size)
 have HRD:Hid (rd=w.heap.size+1∧rd<w1.heap.size):=⟨by omega,hR1.lt⟩
 have HCD:Hid (∀ cb off,a=some ⟨cb,off,none⟩→n≠0→cb≠w.heap.size):=fun cb off h1 h2=>by
  rcases h0.resolve_left h2 with ⟨cb9,off9,h3,h4,_⟩
  rw[h1] at h3;cases h3;omega
 have K2:=disk_any rd n cap a w1 hn hR1
 unfold DkPost at K2
 clear K1 hR1 b1 XBa Ba hwa sa hrd
 go_wp2_with fail
 refine K2.mono ?_
 rintro e w2 ⟨x1,x2,x3,k1,k2,k3,live,safe,ops,rfl,hD,hS,hl,hR2,hG2⟩
 have XB2:Hid (w2.heap[w.heap.size]? = some (.cells #[.slice none 0 0,.slice none 0 0,.slice none 0 0] 31 (0,0))):=(hG2.block _ (lt_of_block XB1.out) (by simp;have:=HRD.out;omega)).trans XB1.out
 have BW2:Below w.heap.size w w2:=BW1.out.grown hG2 BW1.out.size (fun q hq=>by simp at hq;have:=HRD.out;omega)
 have hs12:=hG2.size
 obtain⟨wb,hwb⟩:∃ wb,wb=w2.alloc (.cells #[.slice x1 live.length k1,.slice x2 safe.length k2,.slice x3 ops.length k3] 31):=⟨_,rfl⟩
 obtain⟨bd,hbd⟩:∃ b,b=w2.heap.size:=⟨_,rfl⟩
 have b2:Below w2.heap.size w2 wb:=by rw[hwb];exact (Below.refl _ _).alloc (Nat.le_refl _) _
 have XD:Hid (wb.heap[bd]? = some (.cells #[.slice x1 live.length k1,.slice x2 safe.length k2,.slice x3 ops.length k3] 31 (0,0))):=by rw[hwb,hbd];exact heap_alloc_new w2 _
 have XB:Hid (wb.heap[w.heap.size]? = some (.cells #[.slice none 0 0,.slice none 0 0,.slice none 0 0] 31 (0,0))):=(b2.block _ (lt_of_block XB2.out)).trans XB2.out
 have DG:Hid (DkG wb w1.heap.size x1 x2 x3 k1 k2 k3 live safe ops):=hD.later b2
 have DZ:Hid (DSz live safe ops):=hS
 have HOL10:Hid (ops.length≤10):=hl
 have BW:Hid (Below w.heap.size w wb):=BW2.trans (b2.mono BW2.size)
 have HRb:Hid (Rd rd a n cap wb):=hR2.keptNone b2
 have SZB:Hid (wb.heap.size=bd+1):=by rw[hwb,hbd];simp[Hid]
 have HLO:Hid (w.heap.size+1<w1.heap.size∧w1.heap.size≤bd∧bd<wb.heap.size∧rd=w.heap.size+1):=⟨by have:=HRD.out;omega,by omega,lt_of_block XD.out,HRD.out.1⟩
 clear K2 hD hS hl hR2 hG2 BW2 hs12 XB1 BW1 b2 XB2 HRD
 have K3:=below_any rd n cap 4 4 a (wb.alloc (.cells #[.string ⟨#[98,97,115,101]⟩,.string ⟨#[108,111,103]⟩,.string ⟨#[98,97,115,101]⟩,.string ⟨#[]⟩] 9)) rfl (by omega) (by omega) hn (HRb.out.keptNone ((Below.refl _ _).alloc (Nat.le_refl _) _))
 obtain⟨d0,d1,d2,_⟩:=three_cells XD.out
 go_wp2_with fail
 rw[←hwb,←hbd]
 clear hwb hbd d0 d1 d2
 refine K3.mono ?_
 rintro e w3 ⟨y,hy,rfl,hR3,hG3⟩
 obtain⟨nm,hnm,hcn⟩:=tabB_any (m:=56) (k:=y) HRb.out.lt hG3 (by decide +kernel) hy
 rw[SZB.out] at hcn
 clear SZB
 have g3:wb.grownBy w3 (some rd):=(World.grownBy_alloc wb _ (some rd)).trans hG3
 have hy':(y:Int)<4:=by omega
 have XDw3:Hid (w3.heap[bd]? = some (.cells #[.slice x1 live.length k1,.slice x2 safe.length k2,.slice x3 ops.length k3] 31 (0,0))):=(g3.block _ (lt_of_block XD.out) (by simp;have:=HLO.out;omega)).trans XD.out
 have XBw3:Hid (w3.heap[w.heap.size]? = some (.cells #[.slice none 0 0,.slice none 0 0,.slice none 0 0] 31 (0,0))):=(g3.block _ (lt_of_block XB.out) (by simp;have:=HLO.out;omega)).trans XB.out
 have DGw3:Hid (DkG w3 w1.heap.size x1 x2 x3 k1 k2 k3 live safe ops):=DG.out.kept g3 (fun g hg e=>by simp at e;have:=HLO.out;omega)
 have BWw3:Hid (Below w.heap.size w w3):=BW.out.grown g3 BW.out.size (fun q hq=>by simp at hq;have:=HLO.out;omega)
 clear XD XB DG BW
 have XD:=XDw3
 have XB:=XBw3
 have DG:=DGw3
 have BW:=BWw3
 clear XDw3 XBw3 DGw3 BWw3
 have HR:Hid (Rd rd a n cap w3):=hR3
 have HNM:Hid (nm.length≤56):=hnm
 have K4:=once_any rd n cap 12 12 a w3 rfl (by omega) (by omega) hn hR3
 clear K3 hR3 hG3 g3 HRb hnm
 go_wp2_with fail
 refine K4.mono ?_
 rintro e w4 ⟨t,rfl,hR4,hG4⟩
 have XDw4:Hid (w4.heap[bd]? = some (.cells #[.slice x1 live.length k1,.slice x2 safe.length k2,.slice x3 ops.length k3] 31 (0,0))):=(hG4.block _ (lt_of_block XD.out) (by simp;have:=HLO.out;omega)).trans XD.out
 have XBw4:Hid (w4.heap[w.heap.size]? = some (.cells #[.slice none 0 0,.slice none 0 0,.slice none 0 0] 31 (0,0))):=(hG4.block _ (lt_of_block XB.out) (by simp;have:=HLO.out;omega)).trans XB.out
 have DGw4:Hid (DkG w4 w1.heap.size x1 x2 x3 k1 k2 k3 live safe ops):=DG.out.kept hG4 (fun g hg e=>by simp at e;have:=HLO.out;omega)
 have BWw4:Hid (Below w.heap.size w w4):=BW.out.grown hG4 BW.out.size (fun q hq=>by simp at hq;have:=HLO.out;omega)
 clear XD XB DG BW
 have XD:=XDw4
 have XB:=XBw4
 have DG:=DGw4
 have BW:=BWw4
 clear XDw4 XBw4 DGw4 BWw4
 clear K4 HR hcn
 have HR:Hid (Rd rd a n cap w4):=hR4
 clear hR4 hG4
 cases t with
 | false =>
   have HNL:Hid (nm.length≤100):=by have:=HNM.out;rw[Hid];omega
   have BR:Below w4.heap.size w4 w4:=Below.refl _ _
   have hne:¬ bd=w.heap.size:=by have:=HLO.out;omega
   have hne2:¬ w.heap.size=bd:=fun e=>hne e.symm
   have HRA:Hid (Rd rd a n cap w4.drew):=HR.out.keptNone (below_drew1 BR)
   have HRE:Hid (Rd rd a n cap (((w4.setCell ⟨w.heap.size,0,none⟩ (.slice x1 live.length k1)).setCell ⟨w.heap.size,1,none⟩ (.slice x2 safe.length k2)).setCell ⟨w.heap.size,2,none⟩ (.slice x3 ops.length k3)).drew):=(rd_set3 HR.out _ _ _ _ (by have:=HLO.out;omega) (fun cb off h1 h2=>by have:=HCD.out cb off h1 h2;have:=HLO.out;omega)).keptNone (below_drew1 (Below.refl _ _))
   have SD0:Hid (w4.drew.heap[bd]? = some (.cells #[.slice x1 live.length k1,.slice x2 safe.length k2,.slice x3 ops.length k3] 31 (0,0))):=(heap_drewD _ _).trans XD.out
   have SD1:Hid ((((w4.setCell ⟨w.heap.size,0,none⟩ (.slice x1 live.length k1)).setCell ⟨w.heap.size,1,none⟩ (.slice x2 safe.length k2)).setCell ⟨w.heap.size,2,none⟩ (.slice x3 ops.length k3)).drew.heap[bd]? = some (.cells #[.slice x1 live.length k1,.slice x2 safe.length k2,.slice x3 ops.length k3] 31 (0,0))):=(heap_drewD _ _).trans ((other_set3 hne).trans XD.out)
   have SX1:Hid ((((w4.setCell ⟨w.heap.size,0,none⟩ (.slice x1 live.length k1)).setCell ⟨w.heap.size,1,none⟩ (.slice x2 safe.length k2)).setCell ⟨w.heap.size,2,none⟩ (.slice x3 ops.length k3)).drew.heap[w.heap.size]? = some (.cells #[.slice x1 live.length k1,.slice x2 safe.length k2,.slice x3 ops.length k3] 31 (0,0))):=(heap_drewD _ _).trans (disk_set3 XB.out)
   have DG1:Hid (DkG (((w4.setCell ⟨w.heap.size,0,none⟩ (.slice x1 live.length k1)).setCell ⟨w.heap.size,1,none⟩ (.slice x2 safe.length k2)).setCell ⟨w.heap.size,2,none⟩ (.slice x3 ops.length k3)).drew w1.heap.size x1 x2 x3 k1 k2 k3 live safe ops):=dkg_drew (DG.out.set3 (by have:=HLO.out;omega) _ _ _)
   have BW1:Hid (Below w.heap.size w (((w4.setCell ⟨w.heap.size,0,none⟩ (.slice x1 live.length k1)).setCell ⟨w.heap.size,1,none⟩ (.slice x2 safe.length k2)).setCell ⟨w.heap.size,2,none⟩ (.slice x3 ops.length k3)).drew):=below_drew1 (below_set3d BW.out (Nat.le_refl _) _ _ _)
   have SF0:Hid (w4.drew.cell? ⟨bd,0,none⟩=some (.slice x1 live.length k1)∧w4.drew.cell? ⟨bd,1,none⟩=some (.slice x2 safe.length k2)∧w4.drew.cell? ⟨bd,2,none⟩=some (.slice x3 ops.length k3)):=by
    obtain⟨c0,c1,c2,_⟩:=three_cells SD0.out
    exact⟨c0,c1,c2⟩
   have SF1:Hid ((((w4.setCell ⟨w.heap.size,0,none⟩ (.slice x1 live.length k1)).setCell ⟨w.heap.size,1,none⟩ (.slice x2 safe.length k2)).setCell ⟨w.heap.size,2,none⟩ (.slice x3 ops.length k3)).drew.cell? ⟨bd,0,none⟩=some (.slice x1 live.length k1)∧(((w4.setCell ⟨w.heap.size,0,none⟩ (.slice x1 live.length k1)).setCell ⟨w.heap.size,1,none⟩ (.slice x2 safe.length k2)).setCell ⟨w.heap.size,2,none⟩ (.slice x3 ops.length k3)).drew.cell? ⟨bd,1,none⟩=some (.slice x2 safe.length k2)∧(((w4.setCell ⟨w.heap.size,0,none⟩ (.slice x1 live.length k1)).setCell ⟨w.heap.size,1,none⟩ (.slice x2 safe.length k2)).setCell ⟨w.heap.size,2,none⟩ (.slice x3 ops.length k3)).drew.cell? ⟨bd,2,none⟩=some (.slice x3 ops.length k3)):=by
    obtain⟨c0,c1,c2,_⟩:=three_cells SD1.out
    exact⟨c0,c1,c2⟩
   obtain⟨e0,e1,e2,_⟩:=three_cells XD.out
   obtain⟨r0,r1,r2,rf⟩:=three_cells XB.out
   have rf0:=rf 0
   have rf1:=rf 1
   have rf2:=rf 2
   clear rf
   go_wp2
   go_region_held3 (fun w'=>w'.cell? ⟨bd,0,none⟩=some (.slice x1 live.length k1)∧w'.cell? ⟨bd,1,none⟩=some (.slice x2 safe.length k2)∧w'.cell? ⟨bd,2,none⟩=some (.slice x3 ops.length k3))
    (first | with_reducible exact SF0.out | with_reducible exact SF1.out | with_reducible exact SP0.out | with_reducible exact SP1.out)
    (first
     | (go_at_call 73
        first
         | (with_reducible refine (textD_any rd n cap a _ hn HRA.out).mono ?_
            rintro e wp ⟨dd,hdd,rfl,hRp,hGp⟩
            have HDD:Hid (dd.length≤56):=hdd
            have XDp:Hid (wp.heap[bd]? = some (.cells #[.slice x1 live.length k1,.slice x2 safe.length k2,.slice x3 ops.length k3] 31 (0,0))):=(hGp.block _ (lt_of_block SD0.out) (by simp;have:=HLO.out;omega)).trans SD0.out
            have XBp:Hid (wp.heap[w.heap.size]? = some (.cells #[.slice none 0 0,.slice none 0 0,.slice none 0 0] 31 (0,0))):=(hGp.block _ (lt_of_block ((heap_drewD _ _).trans XB.out)) (by simp;have:=HLO.out;omega)).trans ((heap_drewD _ _).trans XB.out)
            have SP0:Hid (wp.cell? ⟨bd,0,none⟩=some (.slice x1 live.length k1)∧wp.cell? ⟨bd,1,none⟩=some (.slice x2 safe.length k2)∧wp.cell? ⟨bd,2,none⟩=some (.slice x3 ops.length k3)):=by
             obtain⟨c0,c1,c2,_⟩:=three_cells XDp.out
             exact⟨c0,c1,c2⟩
            have SD9:Hid ((((wp.setCell ⟨w.heap.size,0,none⟩ (.slice x1 live.length k1)).setCell ⟨w.heap.size,1,none⟩ (.slice x2 safe.length k2)).setCell ⟨w.heap.size,2,none⟩ (.slice x3 ops.length k3)).heap[bd]? = some (.cells #[.slice x1 live.length k1,.slice x2 safe.length k2,.slice x3 ops.length k3] 31 (0,0))):=(other_set3 hne).trans XDp.out
            have SP1:Hid ((((wp.setCell ⟨w.heap.size,0,none⟩ (.slice x1 live.length k1)).setCell ⟨w.heap.size,1,none⟩ (.slice x2 safe.length k2)).setCell ⟨w.heap.size,2,none⟩ (.slice x3 ops.length k3)).cell? ⟨bd,0,none⟩=some (.slice x1 live.length k1)∧(((wp.setCell ⟨w.heap.size,0,none⟩ (.slice x1 live.length k1)).setCell ⟨w.heap.size,1,none⟩ (.slice x2 safe.length k2)).setCell ⟨w.heap.size,2,none⟩ (.slice x3 ops.length k3)).cell? ⟨bd,1,none⟩=some (.slice x2 safe.length k2)∧(((wp.setCell ⟨w.heap.size,0,none⟩ (.slice x1 live.length k1)).setCell ⟨w.heap.size,1,none⟩ (.slice x2 safe.length k2)).setCell ⟨w.heap.size,2,none⟩ (.slice x3 ops.length k3)).cell? ⟨bd,2,none⟩=some (.slice x3 ops.length k3)):=by
             obtain⟨c0,c1,c2,_⟩:=three_cells SD9.out
             exact⟨c0,c1,c2⟩
            have FX:Hid ((((wp.setCell ⟨w.heap.size,0,none⟩ (.slice x1 live.length k1)).setCell ⟨w.heap.size,1,none⟩ (.slice x2 safe.length k2)).setCell ⟨w.heap.size,2,none⟩ (.slice x3 ops.length k3)).heap[w.heap.size]? = some (.cells #[.slice x1 live.length k1,.slice x2 safe.length k2,.slice x3 ops.length k3] 31 (0,0))):=disk_set3 XBp.out
            have FG:Hid (DkG (((wp.setCell ⟨w.heap.size,0,none⟩ (.slice x1 live.length k1)).setCell ⟨w.heap.size,1,none⟩ (.slice x2 safe.length k2)).setCell ⟨w.heap.size,2,none⟩ (.slice x3 ops.length k3)) w1.heap.size x1 x2 x3 k1 k2 k3 live safe ops):=((dkg_drew DG.out).kept hGp (fun g hg e=>by simp at e;have:=HLO.out;omega)).set3 (by have:=HLO.out;omega) _ _ _
            have FW:Hid (Below w.heap.size w (((wp.setCell ⟨w.heap.size,0,none⟩ (.slice x1 live.length k1)).setCell ⟨w.heap.size,1,none⟩ (.slice x2 safe.length k2)).setCell ⟨w.heap.size,2,none⟩ (.slice x3 ops.length k3))):=below_set3d ((below_drew1 BW.out).grown hGp BW.out.size (fun q hq=>by simp at hq;have:=HLO.out;omega)) (Nat.le_refl _) _ _ _
            obtain⟨z0,z1,z2,zf⟩:=three_cells XBp.out
            have zf0:=zf 0
            have zf1:=zf 1
            have zf2:=zf 2
            clear zf hRp hGp hdd)
         | (with_reducible refine (textD_any rd n cap a _ hn HRE.out).mono ?_
            rintro e wp ⟨dd,hdd,rfl,hRp,hGp⟩
            have HDD:Hid (dd.length≤56):=hdd
            have XDp:Hid (wp.heap[bd]? = some (.cells #[.slice x1 live.length k1,.slice x2 safe.length k2,.slice x3 ops.length k3] 31 (0,0))):=(hGp.block _ (lt_of_block SD1.out) (by simp;have:=HLO.out;omega)).trans SD1.out
            have SP0:Hid (wp.cell? ⟨bd,0,none⟩=some (.slice x1 live.length k1)∧wp.cell? ⟨bd,1,none⟩=some (.slice x2 safe.length k2)∧wp.cell? ⟨bd,2,none⟩=some (.slice x3 ops.length k3)):=by
             obtain⟨c0,c1,c2,_⟩:=three_cells XDp.out
             exact⟨c0,c1,c2⟩
            have FX:Hid (wp.heap[w.heap.size]? = some (.cells #[.slice x1 live.length k1,.slice x2 safe.length k2,.slice x3 ops.length k3] 31 (0,0))):=(hGp.block _ (lt_of_block SX1.out) (by simp;have:=HLO.out;omega)).trans SX1.out
            have FG:Hid (DkG wp w1.heap.size x1 x2 x3 k1 k2 k3 live safe ops):=DG1.out.kept hGp (fun g hg e=>by simp at e;have:=HLO.out;omega)
            have FW:Hid (Below w.heap.size w wp):=BW1.out.grown hGp BW1.out.size (fun q hq=>by simp at hq;have:=HLO.out;omega)
            clear hRp hGp hdd)))
   all_goals go_wp2_with fail
   all_goals
    refine bodyPost_ret (v:=.tuple #[.agg #[.slice x1 live.length k1,.slice x2 safe.length k2,.slice x3 ops.length k3],.string ⟨nm.toArray⟩,.string ⟨dd.toArray⟩]) (results_cbbD rfl _ _ w.heap.size 31 _ _ rfl FX.out Try.underlying31 rfl (by kernel_rfl) _ _ rfl rfl) rfl ?_
    exact⟨x1,x2,x3,k1,k2,k3,live,safe,ops,nm,dd,rfl,HNL.out,HDD.out,FG.out.lower (by have:=HLO.out;omega),DZ.out,HOL10.out,FW.out⟩
 | true =>
   have K5:=below_any rd n cap 4 4 a w4 rfl (by omega) (by omega) hn HR.out
   go_wp2_with fail
   refine K5.mono ?_
   rintro e w5 ⟨z,hz,rfl,hR5,hG5⟩
   have XDw5:Hid (w5.heap[bd]? = some (.cells #[.slice x1 live.length k1,.slice x2 safe.length k2,.slice x3 ops.length k3] 31 (0,0))):=(hG5.block _ (lt_of_block XD.out) (by simp;have:=HLO.out;omega)).trans XD.out
   have XBw5:Hid (w5.heap[w.heap.size]? = some (.cells #[.slice none 0 0,.slice none 0 0,.slice none 0 0] 31 (0,0))):=(hG5.block _ (lt_of_block XB.out) (by simp;have:=HLO.out;omega)).trans XB.out
   have DGw5:Hid (DkG w5 w1.heap.size x1 x2 x3 k1 k2 k3 live safe ops):=DG.out.kept hG5 (fun g hg e=>by simp at e;have:=HLO.out;omega)
   have BWw5:Hid (Below w.heap.size w w5):=BW.out.grown hG5 BW.out.size (fun q hq=>by simp at hq;have:=HLO.out;omega)
   clear XD XB DG BW
   have XD:=XDw5
   have XB:=XBw5
   have DG:=DGw5
   have BW:=BWw5
   clear XDw5 XBw5 DGw5 BWw5
   clear K5 HR
   have HR:Hid (Rd rd a n cap w5):=hR5
   clear hR5 hG5
   obtain⟨m,hm⟩:∃ m:Nat,m=95+z:=⟨_,rfl⟩
   have hmz:(95:Int)+(z:Int)=(m:Int):=by omega
   have hm2:m≤98:=by omega
   clear hm
   go_wp2_with (at_make;(refine wpList_make_full _ rfl _ _ 57 rfl w5.heap.size 5 ti0 (.int .u8 0) 1 Try.underlying57 hti0 tz0 tz1 _ _ _ _ m rfl rfl (by omega) (by omega) (by rw[tz2];omega) (by unfold maxLen;omega) (Nat.le_refl _) ?_))
   intro w6 hown0 hgrow0
   rw[toList_madeCells_one] at hown0
   have hown1:w6.ownsRow w5.heap.size 5 1 (.slice (some ⟨w5.heap.size,0,none⟩) m m) m (bcells (List.replicate m 0)):=(by simpa [bcells] using hown0)
   obtain⟨bg,hbg⟩:∃ x:List UInt8,x=List.replicate m 0:=⟨_,rfl⟩
   have HNL:Hid (bg.length≤100):=by rw[Hid,hbg];simp;omega
   rw[←hbg] at hown1
   clear hbg
   have hcv:=own_string (P:=Try.prog) Try.underlying57 Try.underlying5 Try.underlying9 hown1
   have b6:Below w5.heap.size w5 w6:=⟨hgrow0.os,hgrow0.tape,hgrow0.output,hgrow0.size,fun k hk=>hgrow0.block k hk (by simp)⟩
   have HRx:Hid (Rd rd a n cap w6):=HR.out.keptNone b6
   have XDw6:Hid (w6.heap[bd]? = some (.cells #[.slice x1 live.length k1,.slice x2 safe.length k2,.slice x3 ops.length k3] 31 (0,0))):=(b6.block _ (lt_of_block XD.out)).trans XD.out
   have XBw6:Hid (w6.heap[w.heap.size]? = some (.cells #[.slice none 0 0,.slice none 0 0,.slice none 0 0] 31 (0,0))):=(b6.block _ (lt_of_block XB.out)).trans XB.out
   have DGw6:Hid (DkG w6 w1.heap.size x1 x2 x3 k1 k2 k3 live safe ops):=DG.out.later b6
   have BWw6:Hid (Below w.heap.size w w6):=BW.out.trans (b6.mono BW.out.size)
   clear XD XB DG BW
   have XD:=XDw6
   have XB:=XBw6
   have DG:=DGw6
   have BW:=BWw6
   clear XDw6 XBw6 DGw6 BWw6
   clear HR hown0 hown1 hgrow0 b6
   have HR:=HRx
   clear HRx
   have BR:Below w6.heap.size w6 w6:=Below.refl _ _
   have hne:¬ bd=w.heap.size:=by have:=HLO.out;omega
   have hne2:¬ w.heap.size=bd:=fun e=>hne e.symm
   have HRA:Hid (Rd rd a n cap w6.drew):=HR.out.keptNone (below_drew1 BR)
   have HRE:Hid (Rd rd a n cap (((w6.setCell ⟨w.heap.size,0,none⟩ (.slice x1 live.length k1)).setCell ⟨w.heap.size,1,none⟩ (.slice x2 safe.length k2)).setCell ⟨w.heap.size,2,none⟩ (.slice x3 ops.length k3)).drew):=(rd_set3 HR.out _ _ _ _ (by have:=HLO.out;omega) (fun cb off h1 h2=>by have:=HCD.out cb off h1 h2;have:=HLO.out;omega)).keptNone (below_drew1 (Below.refl _ _))
   have SD0:Hid (w6.drew.heap[bd]? = some (.cells #[.slice x1 live.length k1,.slice x2 safe.length k2,.slice x3 ops.length k3] 31 (0,0))):=(heap_drewD _ _).trans XD.out
   have SD1:Hid ((((w6.setCell ⟨w.heap.size,0,none⟩ (.slice x1 live.length k1)).setCell ⟨w.heap.size,1,none⟩ (.slice x2 safe.length k2)).setCell ⟨w.heap.size,2,none⟩ (.slice x3 ops.length k3)).drew.heap[bd]? = some (.cells #[.slice x1 live.length k1,.slice x2 safe.length k2,.slice x3 ops.length k3] 31 (0,0))):=(heap_drewD _ _).trans ((other_set3 hne).trans XD.out)
   have SX1:Hid ((((w6.setCell ⟨w.heap.size,0,none⟩ (.slice x1 live.length k1)).setCell ⟨w.heap.size,1,none⟩ (.slice x2 safe.length k2)).setCell ⟨w.heap.size,2,none⟩ (.slice x3 ops.length k3)).drew.heap[w.heap.size]? = some (.cells #[.slice x1 live.length k1,.slice x2 safe.length k2,.slice x3 ops.length k3] 31 (0,0))):=(heap_drewD _ _).trans (disk_set3 XB.out)
   have DG1:Hid (DkG (((w6.setCell ⟨w.heap.size,0,none⟩ (.slice x1 live.length k1)).setCell ⟨w.heap.size,1,none⟩ (.slice x2 safe.length k2)).setCell ⟨w.heap.size,2,none⟩ (.slice x3 ops.length k3)).drew w1.heap.size x1 x2 x3 k1 k2 k3 live safe ops):=dkg_drew (DG.out.set3 (by have:=HLO.out;omega) _ _ _)
   have BW1:Hid (Below w.heap.size w (((w6.setCell ⟨w.heap.size,0,none⟩ (.slice x1 live.length k1)).setCell ⟨w.heap.size,1,none⟩ (.slice x2 safe.length k2)).setCell ⟨w.heap.size,2,none⟩ (.slice x3 ops.length k3)).drew):=below_drew1 (below_set3d BW.out (Nat.le_refl _) _ _ _)
   have SF0:Hid (w6.drew.cell? ⟨bd,0,none⟩=some (.slice x1 live.length k1)∧w6.drew.cell? ⟨bd,1,none⟩=some (.slice x2 safe.length k2)∧w6.drew.cell? ⟨bd,2,none⟩=some (.slice x3 ops.length k3)):=by
    obtain⟨c0,c1,c2,_⟩:=three_cells SD0.out
    exact⟨c0,c1,c2⟩
   have SF1:Hid ((((w6.setCell ⟨w.heap.size,0,none⟩ (.slice x1 live.length k1)).setCell ⟨w.heap.size,1,none⟩ (.slice x2 safe.length k2)).setCell ⟨w.heap.size,2,none⟩ (.slice x3 ops.length k3)).drew.cell? ⟨bd,0,none⟩=some (.slice x1 live.length k1)∧(((w6.setCell ⟨w.heap.size,0,none⟩ (.slice x1 live.length k1)).setCell ⟨w.heap.size,1,none⟩ (.slice x2 safe.length k2)).setCell ⟨w.heap.size,2,none⟩ (.slice x3 ops.length k3)).drew.cell? ⟨bd,1,none⟩=some (.slice x2 safe.length k2)∧(((w6.setCell ⟨w.heap.size,0,none⟩ (.slice x1 live.length k1)).setCell ⟨w.heap.size,1,none⟩ (.slice x2 safe.length k2)).setCell ⟨w.heap.size,2,none⟩ (.slice x3 ops.length k3)).drew.cell? ⟨bd,2,none⟩=some (.slice x3 ops.length k3)):=by
    obtain⟨c0,c1,c2,_⟩:=three_cells SD1.out
    exact⟨c0,c1,c2⟩
   obtain⟨e0,e1,e2,_⟩:=three_cells XD.out
   obtain⟨r0,r1,r2,rf⟩:=three_cells XB.out
   have rf0:=rf 0
   have rf1:=rf 1
   have rf2:=rf 2
   clear rf
   go_wp2
   go_region_held3 (fun w'=>w'.cell? ⟨bd,0,none⟩=some (.slice x1 live.length k1)∧w'.cell? ⟨bd,1,none⟩=some (.slice x2 safe.length k2)∧w'.cell? ⟨bd,2,none⟩=some (.slice x3 ops.length k3))
    (first | with_reducible exact SF0.out | with_reducible exact SF1.out | with_reducible exact SP0.out | with_reducible exact SP1.out)
    (first
     | (go_at_call 73
        first
         | (with_reducible refine (textD_any rd n cap a _ hn HRA.out).mono ?_
            rintro e wp ⟨dd,hdd,rfl,hRp,hGp⟩
            have HDD:Hid (dd.length≤56):=hdd
            have XDp:Hid (wp.heap[bd]? = some (.cells #[.slice x1 live.length k1,.slice x2 safe.length k2,.slice x3 ops.length k3] 31 (0,0))):=(hGp.block _ (lt_of_block SD0.out) (by simp;have:=HLO.out;omega)).trans SD0.out
            have XBp:Hid (wp.heap[w.heap.size]? = some (.cells #[.slice none 0 0,.slice none 0 0,.slice none 0 0] 31 (0,0))):=(hGp.block _ (lt_of_block ((heap_drewD _ _).trans XB.out)) (by simp;have:=HLO.out;omega)).trans ((heap_drewD _ _).trans XB.out)
            have SP0:Hid (wp.cell? ⟨bd,0,none⟩=some (.slice x1 live.length k1)∧wp.cell? ⟨bd,1,none⟩=some (.slice x2 safe.length k2)∧wp.cell? ⟨bd,2,none⟩=some (.slice x3 ops.length k3)):=by
             obtain⟨c0,c1,c2,_⟩:=three_cells XDp.out
             exact⟨c0,c1,c2⟩
            have SD9:Hid ((((wp.setCell ⟨w.heap.size,0,none⟩ (.slice x1 live.length k1)).setCell ⟨w.heap.size,1,none⟩ (.slice x2 safe.length k2)).setCell ⟨w.heap.size,2,none⟩ (.slice x3 ops.length k3)).heap[bd]? = some (.cells #[.slice x1 live.length k1,.slice x2 safe.length k2,.slice x3 ops.length k3] 31 (0,0))):=(other_set3 hne).trans XDp.out
            have SP1:Hid ((((wp.setCell ⟨w.heap.size,0,none⟩ (.slice x1 live.length k1)).setCell ⟨w.heap.size,1,none⟩ (.slice x2 safe.length k2)).setCell ⟨w.heap.size,2,none⟩ (.slice x3 ops.length k3)).cell? ⟨bd,0,none⟩=some (.slice x1 live.length k1)∧(((wp.setCell ⟨w.heap.size,0,none⟩ (.slice x1 live.length k1)).setCell ⟨w.heap.size,1,none⟩ (.slice x2 safe.length k2)).setCell ⟨w.heap.size,2,none⟩ (.slice x3 ops.length k3)).cell? ⟨bd,1,none⟩=some (.slice x2 safe.length k2)∧(((wp.setCell ⟨w.heap.size,0,none⟩ (.slice x1 live.length k1)).setCell ⟨w.heap.size,1,none⟩ (.slice x2 safe.length k2)).setCell ⟨w.heap.size,2,none⟩ (.slice x3 ops.length k3)).cell? ⟨bd,2,none⟩=some (.slice x3 ops.length k3)):=by
             obtain⟨c0,c1,c2,_⟩:=three_cells SD9.out
             exact⟨c0,c1,c2⟩
            have FX:Hid ((((wp.setCell ⟨w.heap.size,0,none⟩ (.slice x1 live.length k1)).setCell ⟨w.heap.size,1,none⟩ (.slice x2 safe.length k2)).setCell ⟨w.heap.size,2,none⟩ (.slice x3 ops.length k3)).heap[w.heap.size]? = some (.cells #[.slice x1 live.length k1,.slice x2 safe.length k2,.slice x3 ops.length k3] 31 (0,0))):=disk_set3 XBp.out
            have FG:Hid (DkG (((wp.setCell ⟨w.heap.size,0,none⟩ (.slice x1 live.length k1)).setCell ⟨w.heap.size,1,none⟩ (.slice x2 safe.length k2)).setCell ⟨w.heap.size,2,none⟩ (.slice x3 ops.length k3)) w1.heap.size x1 x2 x3 k1 k2 k3 live safe ops):=((dkg_drew DG.out).kept hGp (fun g hg e=>by simp at e;have:=HLO.out;omega)).set3 (by have:=HLO.out;omega) _ _ _
            have FW:Hid (Below w.heap.size w (((wp.setCell ⟨w.heap.size,0,none⟩ (.slice x1 live.length k1)).setCell ⟨w.heap.size,1,none⟩ (.slice x2 safe.length k2)).setCell ⟨w.heap.size,2,none⟩ (.slice x3 ops.length k3))):=below_set3d ((below_drew1 BW.out).grown hGp BW.out.size (fun q hq=>by simp at hq;have:=HLO.out;omega)) (Nat.le_refl _) _ _ _
            obtain⟨z0,z1,z2,zf⟩:=three_cells XBp.out
            have zf0:=zf 0
            have zf1:=zf 1
            have zf2:=zf 2
            clear zf hRp hGp hdd)
         | (with_reducible refine (textD_any rd n cap a _ hn HRE.out).mono ?_
            rintro e wp ⟨dd,hdd,rfl,hRp,hGp⟩
            have HDD:Hid (dd.length≤56):=hdd
            have XDp:Hid (wp.heap[bd]? = some (.cells #[.slice x1 live.length k1,.slice x2 safe.length k2,.slice x3 ops.length k3] 31 (0,0))):=(hGp.block _ (lt_of_block SD1.out) (by simp;have:=HLO.out;omega)).trans SD1.out
            have SP0:Hid (wp.cell? ⟨bd,0,none⟩=some (.slice x1 live.length k1)∧wp.cell? ⟨bd,1,none⟩=some (.slice x2 safe.length k2)∧wp.cell? ⟨bd,2,none⟩=some (.slice x3 ops.length k3)):=by
             obtain⟨c0,c1,c2,_⟩:=three_cells XDp.out
             exact⟨c0,c1,c2⟩
            have FX:Hid (wp.heap[w.heap.size]? = some (.cells #[.slice x1 live.length k1,.slice x2 safe.length k2,.slice x3 ops.length k3] 31 (0,0))):=(hGp.block _ (lt_of_block SX1.out) (by simp;have:=HLO.out;omega)).trans SX1.out
            have FG:Hid (DkG wp w1.heap.size x1 x2 x3 k1 k2 k3 live safe ops):=DG1.out.kept hGp (fun g hg e=>by simp at e;have:=HLO.out;omega)
            have FW:Hid (Below w.heap.size w wp):=BW1.out.grown hGp BW1.out.size (fun q hq=>by simp at hq;have:=HLO.out;omega)
            clear hRp hGp hdd)))
   all_goals go_wp2_with fail
   all_goals
    refine bodyPost_ret (v:=.tuple #[.agg #[.slice x1 live.length k1,.slice x2 safe.length k2,.slice x3 ops.length k3],.string ⟨bg.toArray⟩,.string ⟨dd.toArray⟩]) (results_cbbD rfl _ _ w.heap.size 31 _ _ rfl FX.out Try.underlying31 rfl (by kernel_rfl) _ _ rfl rfl) rfl ?_
    exact⟨x1,x2,x3,k1,k2,k3,live,safe,ops,bg,dd,rfl,HNL.out,HDD.out,FG.out.lower (by have:=HLO.out;omega),DZ.out,HOL10.out,FW.out⟩
end Go.Proofs.Ytlllkdioojjaeaa
