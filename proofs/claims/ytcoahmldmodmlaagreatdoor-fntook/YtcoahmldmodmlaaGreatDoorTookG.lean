/-
 Contracts: the program's Took.
-/
import Derived.Test.YtcoahmldmodmlaaGreatDoorTookAG
namespace Go.Proofs.YtcoahmldmodmlaaGreatDoor
open Go.RowKit
set_option linter.unusedVariables false
set_option linter.unusedSimpArgs false
set_option maxHeartbeats 2000000 in
set_option maxRecDepth 100000 in
theorem behind_any (adA adB:Option Addr) (c1 c2:Nat) (ps qs:List PairL) (f l:Bool) (w:World) (haa:adA=none∨∃ b off,adA=some ⟨b,off,none⟩) (hca:adA=none→c1=0) (haa2:adB=none∨∃ b off,adB=some ⟨b,off,none⟩) (hca2:adB=none→c2=0) (hl:ps.length≤100) (hl2:qs.length≤100) (hs:IsPairs w adA ps) (hs2:IsPairs w adB qs) :
 Calls Tryz.prog 18 #[.agg #[.bool f,.bool l,.slice adB qs.length c2],.slice adA ps.length c1] w fun e w'=>∃ (a:Option Addr) (m c:Nat),e=.returned (.slice a m c)∧w'.ownsRow w.heap.size 46 2 (.slice a m c) (ps ++ qs).length (pcells (ps ++ qs))∧Below w.heap.size w w':=by
 obtain⟨wa,hwa⟩:∃ wa,wa=w.alloc (.cells #[.bool f,.bool l,.slice adB qs.length c2] 48):=⟨_,rfl⟩
 have B0:Below w.heap.size w wa:=by rw[hwa];exact (Below.refl _ _).alloc (Nat.le_refl _) _
 have hza:wa.heap.size=w.heap.size+1:=by rw[hwa];simp
 obtain⟨p0,p1,p2,_⟩:=im_cells (heap_alloc_new w (.cells #[.bool f,.bool l,.slice adB qs.length c2] 48))
 have B1:Below w.heap.size w (wa.alloc (.cells #[.slice adA ps.length c1,.slice adB qs.length c2] 24)):=B0.alloc (by omega) _
 have K:=concat_x adA adB c1 c2 ps qs wa.heap.size _ haa hca haa2 hca2 hl hl2 (heap_alloc_new wa _) (hs.later B1) (hs2.later B1)
 rw[hza,hwa] at K
 rw[hwa] at B1
 clear hs hs2 B0 hza hwa wa haa haa2 hca hca2
 go_enter Tryz.func18,Tryz.ntmps18
 go_wp2_with fail
 refine K.mono ?_
 rintro e w2 ⟨a2,m2,k2,rfl,o2',b2'⟩
 have B2:=B1.trans (b2'.mono B1.size)
 have O2:=hidOwn (o2'.mono B1.size)
 clear o2' b2' K p0 p1 p2
 go_wp2
 go_ret
 exact⟨a2,m2,k2,rfl,O2.out,B2⟩
def tookB (r:List UInt8) (ps:List PairL) (d f l:Bool) (qs:List PairL):Bool:=importB r ps d && (!d && (followsB ps.length f l qs.length && (pairsOkL (ps ++ qs) && (!l || (rootOk (ps ++ qs) && decide (rootR (ps ++ qs)=r))))))
def tookRoot (r:List UInt8) (ps:List PairL) (d:Bool):List UInt8:=if importB r ps d=true then r else []
def tookPs (r:List UInt8) (ps:List PairL) (d f l:Bool) (qs:List PairL):List PairL:=if importB r ps d=true then (if tookB r ps d f l qs=true then ps ++ qs else ps) else []
def tookD (r:List UInt8) (ps:List PairL) (d f l:Bool) (qs:List PairL):Bool:=if tookB r ps d f l qs=true then l else (importB r ps d && d)
theorem two_heap (w:World) (x y:Obj):((w.alloc x).alloc y).heap[w.heap.size]? = some x∧((w.alloc x).alloc y).heap[w.heap.size+1]? = some y:=by
 constructor
 · rw[Below.heap_alloc _ _ _ (by simp)];exact heap_alloc_new _ _
 · have:=heap_alloc_new (w.alloc x) y
   simpa using this
theorem im_set_cell {w:World} {b:Nat} {x y z:Value} {a:Addr} (h:a.block≠b):(((w.setCell ⟨b,0,none⟩ x).setCell ⟨b,1,none⟩ y).setCell ⟨b,2,none⟩ z).cell? a=w.cell? a :=
 World.cell?_of_block ((Below.heap_setCell _ _ _ _ (by simpa using h)).trans ((Below.heap_setCell _ _ _ _ (by simpa using h)).trans (Below.heap_setCell _ _ _ _ (by simpa using h))))
theorem im_alloc_drew {w w':World} {o:Obj} (h:Below (w.alloc o).drew.heap.size (w.alloc o).drew w'):w.heap.size<w'.heap.size∧Below w.heap.size w w'∧w'.heap[w.heap.size]? = some o:=by
 have e:(w.alloc o).drew.heap.size=w.heap.size+1:=by show (w.alloc o).heap.size=_;simp
 have h':Below (w.heap.size+1) (w.alloc o) w':=⟨h.os,h.tape,h.output,h.size,fun k hk=>h.block k (by rw[e];exact hk)⟩
 have hsz:w.heap.size+1≤w'.heap.size:=by have:=h.size;rw[e] at this;exact this
 exact⟨hsz,((Below.refl w.heap.size w).alloc (Nat.le_refl _) _).trans (h'.mono (by omega)),(h'.block _ (by omega)).trans (heap_alloc_new w _)⟩
theorem im_store {B base bs n size:Nat} {t e:TypeId} {w0 w:World} {xs:List Value} {u v z s:Value} (hz:w.heap[bs]? = some (.cells #[u,v,z] t (0,0))) (hb:B≤bs) (hB:Below B w0 w) (ho:w.ownsRow base e size s n xs) (hk:s.ownBlock≠some bs) (x y q:Value) :
 (((w.setCell ⟨bs,0,none⟩ x).setCell ⟨bs,1,none⟩ y).setCell ⟨bs,2,none⟩ q).heap[bs]? = some (.cells #[x,y,q] t (0,0))∧Below B w0 (((w.setCell ⟨bs,0,none⟩ x).setCell ⟨bs,1,none⟩ y).setCell ⟨bs,2,none⟩ q)∧(((w.setCell ⟨bs,0,none⟩ x).setCell ⟨bs,1,none⟩ y).setCell ⟨bs,2,none⟩ q).ownsRow base e size s n xs :=
 ⟨im_set (j := 2) (im_set (j := 1) (im_set (j := 0) hz)), ((hB.setCell (by simpa using hb) _).setCell (by simpa using hb) _).setCell (by simpa using hb) _,
  ownsRow_setCell_other (ownsRow_setCell_other (ownsRow_setCell_other ho hk _) hk _) hk _⟩
set_option maxRecDepth 100000 in
set_option maxHeartbeats 2000000 in
theorem impl_took (r : List UInt8) (adA adB : Option Addr) (cp cp2 : Nat) (ps qs : List PairL) (d f l : Bool) (w : World) (haa : adA = none ∨ ∃ b off, adA = some ⟨b, off, none⟩) (hca : adA = none → cp = 0) (haa2 : adB = none ∨ ∃ b off, adB = some ⟨b, off, none⟩) (hca2 : adB = none → cp2 = 0) (hr : r.length ≤ 1048576) (hl : ps.length ≤ 1048576) (hm : ∀ p ∈ ps, p.1.length ≤ 1048576 ∧ p.2.length ≤ 1048576) (hl2 : qs.length ≤ 1048576) (hm2 : ∀ p ∈ qs, p.1.length ≤ 1048576 ∧ p.2.length ≤ 1048576) (hs : IsPairs w adA ps) (hs2 : IsPairs w adB qs) (hT : Tab w) :
 Calls Tryz.prog 6 #[.agg #[.string ⟨r.toArray⟩,.slice adA ps.length cp,.bool d],.agg #[.bool f,.bool l,.slice adB qs.length cp2]] w fun e w'=>∃ (a:Option Addr) (m c:Nat),e=.returned (.tuple #[.agg #[.string ⟨(tookRoot r ps d).toArray⟩,.slice a m c,.bool (tookD r ps d f l qs)],.bool (tookB r ps d f l qs)])∧w'.ownsRow w.heap.size 46 2 (.slice a m c) (tookPs r ps d f l qs).length (pcells (tookPs r ps d f l qs))∧Below w.heap.size w w':=by
 obtain⟨wz,hwz⟩:∃ wz,wz=(w.alloc (.cells #[.string ⟨r.toArray⟩,.slice adA ps.length cp,.bool d] 26)).alloc (.cells #[.bool f,.bool l,.slice adB qs.length cp2] 28):=⟨_,rfl⟩
 obtain⟨w0,hw0⟩:∃ w0,w0=wz.alloc (.cells #[.string ⟨#[]⟩,.slice none 0 0,.bool false] 26):=⟨_,rfl⟩
 have hsz:wz.heap.size=w.heap.size+2:=by rw[hwz];simp
 have hsz0:w0.heap.size=w.heap.size+3:=by rw[hw0];simp[hsz]
 have Bz:Below w.heap.size w wz:=by rw[hwz];exact ((Below.refl _ _).alloc (Nat.le_refl _) _).alloc (by simp) _
 have z0:Below (w.heap.size+2) wz w0:=by rw[hw0];exact (Below.refl _ _).alloc (by omega) _
 have B0:Below w.heap.size w w0:=Bz.trans (z0.mono (by omega))
 obtain⟨g1,g2⟩:=two_heap w (.cells #[.string ⟨r.toArray⟩,.slice adA ps.length cp,.bool d] 26) (.cells #[.bool f,.bool l,.slice adB qs.length cp2] 28)
 rw[←hwz] at g1 g2
 have HC1:Hid (∀ W,Below (w.heap.size+2) wz W→_):=fun W h=>im_cells ((h.block w.heap.size (by omega)).trans g1)
 have HC2:Hid (∀ W,Below (w.heap.size+2) wz W→_):=fun W h=>im_cells ((h.block (w.heap.size+1) (by omega)).trans g2)
 have K1:=impl_importOk r adA cp ps d w0 hr hl hm (hs.later B0) (hT.later B0)
 have HT:Hid (∀ W,Below w.heap.size w W→Tab W):=fun W h=>hT.later h
 have HS:Hid (∀ W,Below w.heap.size w W→IsPairs W adA ps):=fun W hW=>hs.later hW
 have HS2:Hid (∀ W,Below w.heap.size w W→IsPairs W adB qs):=fun W hW=>hs2.later hW
 have HM:Hid (∀ p∈ps ++ qs,p.1.length≤1048576∧p.2.length≤1048576):=fun p hp=>(List.mem_append.1 hp).elim (hm p) (hm2 p)
 have HP:Hid (importB r ps d=true→ps.length≤60):=fun h=>by
  unfold importB at h
  simp only[Bool.and_eq_true] at h
  exact (pairsOk_of ps h.2.1).1
 have HZ0:Hid (w0.heap[w.heap.size+2]? = some (.cells #[.string ⟨#[]⟩,.slice none 0 0,.bool false] 26 (0,0))):=by rw[Hid,hw0,←hsz];exact heap_alloc_new wz _
 have HW0:Hid (w0=_):=hw0.trans (by rw[hwz])
 rw[HW0.out] at K1
 have HXX:Hid ((adA=none∨∃ b off,adA=some ⟨b,off,none⟩)∧(adA=none→cp=0)∧(adB=none∨∃ b off,adB=some ⟨b,off,none⟩)∧(adB=none→cp2=0)):=⟨haa,hca,haa2,hca2⟩
 clear hs hs2 hm hm2 hT g1 g2 hw0 hwz haa hca haa2 hca2
 cases hi:importB r ps d with
 | false =>
   have e1:tookB r ps d f l qs=false:=by simp[tookB,hi]
   have e2:tookPs r ps d f l qs=[]:=by simp[tookPs,hi]
   have e3:tookRoot r ps d=[]:=by simp[tookRoot,hi]
   have e4:tookD r ps d f l qs=false:=by simp[tookD,e1,hi]
   rw[e1,e2,e3,e4]
   rw[hi] at K1
   clear e1 e2 e3 e4 hi
   go_enter Tryz.func6,Tryz.ntmps6
   go_wp2_with fail
   refine K1.mono ?_
   rintro e w1 ⟨rfl,b1⟩
   rw[←HW0.out] at b1
   have B1:=B0.trans (b1.mono B0.size)
   obtain⟨_,_,_,z4⟩:=im_cells ((b1.block (w.heap.size+2) (by omega)).trans HZ0.out)
   have y1:=im_store ((b1.block (w.heap.size+2) (by omega)).trans HZ0.out) (by omega) B1 (World.ownsRow_nil w1 w.heap.size 46 2) (by simp[Value.ownBlock]) (.string ⟨#[]⟩) (.slice none 0 0) (.bool false)
   have HY:Hid (_∧_∧_):=y1
   have z40:=z4 0
   have z41:=z4 1
   have z42:=z4 2
   clear y1 z4
   go_wp2
   exact bodyPost_ret (v:=.tuple #[.agg #[.string ⟨#[]⟩,.slice none 0 0,.bool false],.bool false]) (results_im rfl _ _ (w.heap.size+2) 26 _ _ rfl HY.out.1 Tryz.underlying26 rfl (by kernel_rfl) _ rfl) rfl ⟨none,0,0,rfl,HY.out.2.2,HY.out.2.1⟩
 | true =>
   have hp60:=HP.out hi
   have e1:tookRoot r ps d=r:=by simp[tookRoot,hi]
   have HE:Hid (tookB r ps d f l qs=(!d && (followsB ps.length f l qs.length && (pairsOkL (ps ++ qs) && (!l || (rootOk (ps ++ qs) && decide (rootR (ps ++ qs)=r))))))∧tookPs r ps d f l qs=(if tookB r ps d f l qs=true then ps ++ qs else ps)∧tookD r ps d f l qs=(if tookB r ps d f l qs=true then l else d)):=by
    refine⟨by simp[tookB,hi],by simp[tookPs,hi],by simp[tookD,hi]⟩
   rw[e1]
   obtain⟨tb,htb⟩:∃ x,x=tookB r ps d f l qs:=⟨_,rfl⟩
   obtain⟨tp,htp⟩:∃ x,x=tookPs r ps d f l qs:=⟨_,rfl⟩
   obtain⟨td,htd⟩:∃ x,x=tookD r ps d f l qs:=⟨_,rfl⟩
   rw[←htb,←htp,←htd] at HE ⊢
   rw[hi] at K1
   have HSZ:Hid (w0.heap.size=w.heap.size+3):=hsz0
   clear e1 hi htb htp htd hsz0
   go_enter Tryz.func6,Tryz.ntmps6
   go_wp2_with fail
   refine K1.mono ?_
   rintro e w1 ⟨rfl,b1⟩
   rw[←HW0.out] at b1
   have B1:=B0.trans (b1.mono B0.size)
   have z1:=z0.trans (b1.mono (by rw[HSZ.out];omega))
   have s1:=b1.size
   rw[HSZ.out] at s1
   have HZ1:Hid (_=_):=(b1.block (w.heap.size+2) (by rw[HSZ.out];omega)).trans HZ0.out
   obtain⟨p0',p1',p2',_⟩:=HC1.out w1 z1
   have K2:=clone_anyN adA cp ps w1.drew HXX.out.1 HXX.out.2.1 (by omega) (HS.out _ B1.drew)
   have K2A:=clone_anyN adA cp ps (w1.alloc (.cells #[.string ⟨#[]⟩,.slice none 0 0,.bool false] 26)).drew HXX.out.1 HXX.out.2.1 (by omega) (HS.out _ (B1.alloc B1.size _).drew)
   clear K1 b1
   go_wp2_with fail
   go_cut [6] from 13 (fun v wx=>∃ (bs:Nat) (a:Option Addr) (m c:Nat),v=.pointer (some ⟨bs,0,none⟩)∧Hid (wx.heap[bs]? = some (.cells #[.string ⟨r.toArray⟩,.slice a m c,.bool d] 26 (0,0)))∧Hid (w1.heap.size≤bs)∧Hid (Below w1.heap.size w1 wx)∧Hid (wx.ownsRow w1.heap.size 46 2 (.slice a m c) ps.length (pcells ps))∧Hid ((Value.slice a m c).ownBlock≠some bs))
   case first =>
    go_region_held3 (fun w'=>w'.cell? ⟨w.heap.size,0,none⟩=some (.string ⟨r.toArray⟩)∧w'.cell? ⟨w.heap.size,1,none⟩=some (.slice adA ps.length cp)∧w'.cell? ⟨w.heap.size,2,none⟩=some (.bool d))
     (first | (exact⟨by assumption,by assumption,by assumption⟩) | (with_reducible exact⟨(im_set_cell (by simp;omega)).trans (by assumption),(im_set_cell (by simp;omega)).trans (by assumption),(im_set_cell (by simp;omega)).trans (by assumption)⟩) | go_keep)
     (first
      | (go_at_call 16
         with_reducible refine K2A.mono ?_
         rintro e w5 ⟨a5,m5,k5,rfl,o5,b5'⟩
         obtain⟨s5,b5,hzA⟩:=im_alloc_drew b5'
         have q5a:=(b5.cell (p:=⟨w.heap.size,0,none⟩) (by simp;omega)).trans p0'
         have q5b:=(b5.cell (p:=⟨w.heap.size,1,none⟩) (by simp;omega)).trans p1'
         have q5c:=(b5.cell (p:=⟨w.heap.size,2,none⟩) (by simp;omega)).trans p2'
         have HN:Hid (Below w1.heap.size w1 w5∧w5.heap[w1.heap.size]? = some (.cells #[.string ⟨#[]⟩,.slice none 0 0,.bool false] 26)∧(Value.slice a5 m5 k5).ownBlock≠some w1.heap.size):=⟨b5,hzA,fun h=>by have:=(o5.lt _ h).1;have e:(w1.alloc (.cells #[.string ⟨#[]⟩,.slice none 0 0,.bool false] 26)).drew.heap.size=w1.heap.size+1:=(by show (w1.alloc (.cells #[.string ⟨#[]⟩,.slice none 0 0,.bool false] 26)).heap.size=_;simp);omega⟩
         have O5:=hidOwn o5
         obtain⟨y0,y1,y2,yf⟩:=im_cells HN.out.2.1
         have yf0:=yf 0
         have yf1:=yf 1
         have yf2:=yf 2
         clear o5 b5 b5' yf)
      | (go_at_call 16
         with_reducible refine K2.mono ?_
         rintro e w5 ⟨a5,m5,k5,rfl,o5,b5'⟩
         have b5:Below w1.heap.size w1 w5:=⟨b5'.os,b5'.tape,b5'.output,b5'.size,b5'.block⟩
         have q5a:=(b5.cell (p:=⟨w.heap.size,0,none⟩) (by simp;omega)).trans p0'
         have q5b:=(b5.cell (p:=⟨w.heap.size,1,none⟩) (by simp;omega)).trans p1'
         have q5c:=(b5.cell (p:=⟨w.heap.size,2,none⟩) (by simp;omega)).trans p2'
         have HC:Hid (Below w1.heap.size w1 w5∧(Value.slice a5 m5 k5).ownBlock≠some w5.heap.size):=⟨b5,fun h=>by have:=(o5.lt _ h).2;omega⟩
         have O5:=hidOwn o5
         clear o5 b5 b5'))
    all_goals go_wp2_with fail
    · go_meet
      case rel =>
       have hc:=HC.out
       exact⟨w5.heap.size,a5,m5,k5,rfl,heap_alloc_new w5 _,hc.1.size,hc.1.alloc hc.1.size _,(O5.out.alloc _).mono (Nat.le_refl _),hc.2⟩
    · go_meet
      case rel =>
       have hn:=HN.out
       have ts:=im_store hn.2.1 (Nat.le_refl _) hn.1 O5.out hn.2.2 (.string ⟨r.toArray⟩) (.slice a5 m5 k5) (.bool d)
       exact⟨w1.heap.size,a5,m5,k5,rfl,ts.1,Nat.le_refl _,ts.2.1,ts.2.2.mono (by show _≤(w1.alloc _).heap.size;simp),hn.2.2⟩
   case rest =>
    obtain⟨bs,a3,m3,k3,rfl,HSm,HB,HW,HO,HK⟩:=hcut
    obtain⟨w2,rfl⟩:∃ W,W=wc:=⟨_,rfl⟩
    have b2':=HW.out
    have s2:=b2'.size
    have B2:=B1.trans (b2'.mono B1.size)
    have z2:=z1.trans (b2'.mono (by omega))
    have HZ2:Hid (_=_):=(b2'.block (w.heap.size+2) (by omega)).trans HZ1.out
    have hbs:=HB.out
    have lbs:=lt_of_block HSm.out
    obtain⟨q0,q1,q2,_⟩:=HC2.out w2 z2
    clear K2 K2A b2' p0' p1' p2'
    obtain⟨w3,hw3⟩:∃ w3,w3=w2.alloc (.cells #[.bool f,.bool l,.slice adB qs.length cp2] 48):=⟨_,rfl⟩
    have b3:Below w2.heap.size w2 w3:=by rw[hw3];exact (Below.refl _ _).alloc (Nat.le_refl _) _
    have hs3:w3.heap.size=w2.heap.size+1:=by rw[hw3];simp
    have B3:=B2.trans (b3.mono B2.size)
    have z3:=z2.trans (b3.mono (by omega))
    have HT3:Hid (w3.heap[w2.heap.size]? = some (.cells #[.bool f,.bool l,.slice adB qs.length cp2] 48 (0,0))):=by rw[Hid,hw3];exact heap_alloc_new w2 _
    have HZ3:Hid (_=_):=(b3.block (w.heap.size+2) (by omega)).trans HZ2.out
    have HSm3:Hid (_=_):=(b3.block bs (by omega)).trans HSm.out
    have O3:Hid (w3.ownsRow w1.heap.size 46 2 (.slice a3 m3 k3) ps.length (pcells ps)):=by rw[Hid,hw3];exact HO.out.alloc _
    obtain⟨p0,p1,p2,_⟩:=HC1.out w3 z3
    obtain⟨t0,t1,t2,_⟩:=im_cells HT3.out
    obtain⟨x0,x1,x2,_⟩:=im_cells HSm3.out
    have HW3:Hid (_=_):=hw3
    rw[hw3] at p0 p1 p2 t0 t1 t2 x0 x1 x2
    have HNE:Hid ((Value.slice a3 m3 k3).ownBlock≠some (w.heap.size+2)):=fun h=>by have:=(HO.out.lt _ h).1;omega
    cases d with
    | true =>
      have HEQ0:Hid (tb=false∧tp=ps∧td=true):=by
       obtain⟨h1,h2,h3⟩:=HE.out
       simp only[Bool.not_true,Bool.false_and] at h1
       rw[h1] at h2 h3
       simp only[Bool.false_eq_true,if_false] at h2 h3
       exact⟨h1,h2,h3⟩
      clear HE
      have HEQ:=HEQ0.out
      obtain⟨y0,y1,y2,yf⟩:=im_cells HZ3.out
      have yf0:=yf 0
      have yf1:=yf 1
      have yf2:=yf 2
      have HY:Hid (_∧_∧_):=im_store HZ3.out (by omega) B3 (O3.out.mono (base':=w.heap.size) (by omega)) HNE.out (.string ⟨r.toArray⟩) (.slice a3 m3 k3) (.bool true)
      rw[hw3] at y0 y1 y2 yf0 yf1 yf2 HY
      clear hw3
      have HEQ1:Hid (_∧_∧_):=HEQ
      clear yf HEQ
      go_wp2
      exact bodyPost_ret (v:=.tuple #[.agg #[.string ⟨r.toArray⟩,.slice a3 m3 k3,.bool true],.bool false]) (results_im rfl _ _ (w.heap.size+2) 26 _ _ rfl HY.out.1 Tryz.underlying26 rfl (by kernel_rfl) _ rfl) rfl ⟨a3,m3,k3,by rw[HEQ1.out.1,HEQ1.out.2.2],by rw[HEQ1.out.2.1];exact HY.out.2.2,HY.out.2.1⟩
    | false =>
      have K3:=follows_any ps.length qs.length f l adA adB cp cp2 w3 hl hl2
      rw[hw3] at K3
      clear hw3
      cases hfo:followsB ps.length f l qs.length with
      | false =>
        have HEQ0:Hid (tb=false∧tp=ps∧td=false):=by
         obtain⟨h1,h2,h3⟩:=HE.out
         simp only[hfo,Bool.false_and,Bool.and_false] at h1
         rw[h1] at h2 h3
         simp only[Bool.false_eq_true,if_false] at h2 h3
         exact⟨h1,h2,h3⟩
        rw[hfo] at K3
        clear HE hfo
        go_wp2_with fail
        refine K3.mono ?_
        rintro e w4 ⟨rfl,b4⟩
        rw[←HW3.out] at b4
        have s4:=b4.size
        have B4:=B3.trans (b4.mono B3.size)
        have HZ4:Hid (_=_):=(b4.block (w.heap.size+2) (by omega)).trans HZ3.out
        have HSm4:Hid (_=_):=(b4.block bs (by omega)).trans HSm3.out
        have O4:=hidOwn (own_block O3.out (fun k hk=>b4.block k (O3.out.lt k hk).2))
        obtain⟨v0,v1,v2,_⟩:=im_cells HSm4.out
        clear b4 K3 p0 p1 p2 t0 t1 t2 x0 x1 x2 q0 q1 q2
        have HEQ:=HEQ0.out
        obtain⟨y0,y1,y2,yf⟩:=im_cells HZ4.out
        have yf0:=yf 0
        have yf1:=yf 1
        have yf2:=yf 2
        have HY:Hid (_∧_∧_):=im_store HZ4.out (by omega) B4 (O4.out.mono (base':=w.heap.size) (by omega)) HNE.out (.string ⟨r.toArray⟩) (.slice a3 m3 k3) (.bool false)
        have HEQ1:Hid (_∧_∧_):=HEQ
        clear yf HEQ
        go_wp2
        exact bodyPost_ret (v:=.tuple #[.agg #[.string ⟨r.toArray⟩,.slice a3 m3 k3,.bool false],.bool false]) (results_im rfl _ _ (w.heap.size+2) 26 _ _ rfl HY.out.1 Tryz.underlying26 rfl (by kernel_rfl) _ rfl) rfl ⟨a3,m3,k3,by rw[HEQ1.out.1,HEQ1.out.2.2],by rw[HEQ1.out.2.1];exact HY.out.2.2,HY.out.2.1⟩
      | true =>
        rw[hfo] at K3
        have h8:qs.length≤8:=by
         unfold followsB at hfo
         simp only[Bool.and_eq_true,decide_eq_true_eq] at hfo
         exact hfo.2.1
        have HFO:Hid (followsB ps.length f l qs.length=true):=hfo
        clear hfo
        go_wp2_with fail
        refine K3.mono ?_
        rintro e w4 ⟨rfl,b4⟩
        rw[←HW3.out] at b4
        have s4:=b4.size
        have B4:=B3.trans (b4.mono B3.size)
        have z4:=z3.trans (b4.mono (by omega))
        have HZ4:Hid (_=_):=(b4.block (w.heap.size+2) (by omega)).trans HZ3.out
        have HSm4:Hid (_=_):=(b4.block bs (by omega)).trans HSm3.out
        have HT4:Hid (_=_):=(b4.block w2.heap.size (by omega)).trans HT3.out
        have O4:=hidOwn (own_block O3.out (fun k hk=>b4.block k (O3.out.lt k hk).2))
        clear b4 K3 p0 p1 p2 t0 t1 t2 x0 x1 x2 q0 q1 q2
        obtain⟨p0,p1,p2,_⟩:=HC1.out w4 z4
        obtain⟨t0,t1,t2,_⟩:=im_cells HT4.out
        have K4:=behind_any adA adB cp cp2 ps qs f l w4 HXX.out.1 HXX.out.2.1 HXX.out.2.2.1 HXX.out.2.2.2 (by omega) (by omega) (HS.out w4 B4) (HS2.out w4 B4)
        have hal2:(ps ++ qs).length≤1048576:=by rw[List.length_append];omega
        obtain⟨al,hal⟩:∃ al,al=ps ++ qs:=⟨_,rfl⟩
        rw[←hal] at HE K4 HM hal2
        have HE1:=HE.out
        rw[HFO.out] at HE1
        simp only[Bool.not_false,Bool.true_and] at HE1
        have HE2:Hid _:=HE1
        clear HE HE1 hal
        go_wp2_with fail
        refine K4.mono ?_
        rintro e w5 ⟨a5,m5,k5,rfl,o5,b5⟩
        obtain⟨rfl,_,i5⟩:=isPairs_own o5
        have s5:=b5.size
        have B5:=B4.trans (b5.mono B4.size)
        have z5:=z4.trans (b5.mono (by omega))
        have HZ5:Hid (_=_):=(b5.block (w.heap.size+2) (by omega)).trans HZ4.out
        have HSm5:Hid (_=_):=(b5.block bs (by omega)).trans HSm4.out
        have O5:=hidOwn (own_block O4.out (fun k hk=>b5.block k (O4.out.lt k hk).2))
        have P5:=hidOwn o5
        have HI5:Hid (∀ W,Below w5.heap.size w5 W→IsPairs W a5 al):=fun W h=>i5.later h
        have HNA:Hid ((Value.slice a5 al.length k5).ownBlock≠some (w.heap.size+2)):=fun h=>by have:=(P5.out.lt _ h).1;omega
        have K5:=impl_pairsOk a5 k5 al w5 hal2 HM.out i5
        clear o5 b5 K4 p0 p1 p2 t0 t1 t2 i5
        cases hpk:pairsOkL al with
        | false =>
          have HEQ0:Hid (tb=false∧tp=ps∧td=false):=by
           obtain⟨h1,h2,h3⟩:=HE2.out
           simp only[hpk,Bool.false_and] at h1
           rw[h1] at h2 h3
           simp only[Bool.false_eq_true,if_false] at h2 h3
           exact⟨h1,h2,h3⟩
          rw[hpk] at K5
          clear hpk HE2
          go_wp2_with fail
          refine K5.mono ?_
          rintro e w6 ⟨rfl,b6⟩
          have s6:=b6.size
          have B6:=B5.trans (b6.mono B5.size)
          have z6:=z5.trans (b6.mono (by omega))
          have HZ6:Hid (_=_):=(b6.block (w.heap.size+2) (by omega)).trans HZ5.out
          have HSm6:Hid (_=_):=(b6.block bs (by omega)).trans HSm5.out
          have O6:=hidOwn (own_block O5.out (fun k hk=>b6.block k (O5.out.lt k hk).2))
          obtain⟨v0,v1,v2,_⟩:=im_cells HSm6.out
          clear b6 K5
          have HEQ:=HEQ0.out
          obtain⟨y0,y1,y2,yf⟩:=im_cells HZ6.out
          have yf0:=yf 0
          have yf1:=yf 1
          have yf2:=yf 2
          have HY:Hid (_∧_∧_):=im_store HZ6.out (by omega) B6 (O6.out.mono (base':=w.heap.size) (by omega)) HNE.out (.string ⟨r.toArray⟩) (.slice a3 m3 k3) (.bool false)
          have HEQ1:Hid (_∧_∧_):=HEQ
          clear yf HEQ
          go_wp2
          exact bodyPost_ret (v:=.tuple #[.agg #[.string ⟨r.toArray⟩,.slice a3 m3 k3,.bool false],.bool false]) (results_im rfl _ _ (w.heap.size+2) 26 _ _ rfl HY.out.1 Tryz.underlying26 rfl (by kernel_rfl) _ rfl) rfl ⟨a3,m3,k3,by rw[HEQ1.out.1,HEQ1.out.2.2],by rw[HEQ1.out.2.1];exact HY.out.2.2,HY.out.2.1⟩
        | true =>
          rw[hpk] at K5
          rw[hpk] at HE2
          go_wp2_with fail
          refine K5.mono ?_
          rintro e w6 ⟨rfl,b6⟩
          have s6:=b6.size
          have B6:=B5.trans (b6.mono B5.size)
          have z6:=z5.trans (b6.mono (by omega))
          have HZ6:Hid (_=_):=(b6.block (w.heap.size+2) (by omega)).trans HZ5.out
          have HSm6:Hid (_=_):=(b6.block bs (by omega)).trans HSm5.out
          have O6:=hidOwn (own_block O5.out (fun k hk=>b6.block k (O5.out.lt k hk).2))
          have P6:=hidOwn (own_block P5.out (fun k hk=>b6.block k (P5.out.lt k hk).2))
          have K6:=impl_areOfRoot a5 k5 al r w6 hal2 HM.out (HI5.out w6 b6) (HT.out w6 B6)
          clear b6 K5 hpk
          obtain⟨p0,p1,p2,_⟩:=HC1.out w6 z6
          obtain⟨q0,q1,q2,_⟩:=HC2.out w6 z6
          cases l with
          | false =>
            have HEQ0:Hid (tb=true∧tp=al∧td=false):=by
             obtain⟨h1,h2,h3⟩:=HE2.out
             simp only[Bool.not_false,Bool.true_or,Bool.and_true,Bool.true_and] at h1
             rw[h1] at h2 h3
             simp only[if_true] at h2 h3
             exact⟨h1,h2,h3⟩
            clear HE2 K6
            obtain⟨y0,y1,y2,yf⟩:=im_cells HZ6.out
            have yf0:=yf 0
            have yf1:=yf 1
            have yf2:=yf 2
            have HY:Hid (_∧_∧_):=im_store HZ6.out (by omega) B6 (P6.out.mono (base':=w.heap.size) (by omega)) HNA.out (.string ⟨r.toArray⟩) (.slice a5 al.length k5) (.bool false)
            clear yf
            go_wp2
            exact bodyPost_ret (v:=.tuple #[.agg #[.string ⟨r.toArray⟩,.slice a5 al.length k5,.bool false],.bool true]) (results_im rfl _ _ (w.heap.size+2) 26 _ _ rfl HY.out.1 Tryz.underlying26 rfl (by kernel_rfl) _ rfl) rfl ⟨a5,al.length,k5,by rw[HEQ0.out.1,HEQ0.out.2.2],by rw[HEQ0.out.2.1];exact HY.out.2.2,HY.out.2.1⟩
          | true =>
            cases hrk:(rootOk al && decide (rootR al=r)) with
            | false =>
              have HEQ0:Hid (tb=false∧tp=ps∧td=false):=by
               obtain⟨h1,h2,h3⟩:=HE2.out
               simp only[Bool.not_true,Bool.false_or,Bool.and_true,Bool.true_and,hrk] at h1
               rw[h1] at h2 h3
               simp only[Bool.false_eq_true,if_false] at h2 h3
               exact⟨h1,h2,h3⟩
              rw[hrk] at K6
              clear hrk HE2
              go_wp2_with fail
              refine K6.mono ?_
              rintro e w7 ⟨rfl,b7⟩
              have s7:=b7.size
              have B7:=B6.trans (b7.mono B6.size)
              have z7:=z6.trans (b7.mono (by omega))
              have HZ7:Hid (_=_):=(b7.block (w.heap.size+2) (by omega)).trans HZ6.out
              have HSm7:Hid (_=_):=(b7.block bs (by omega)).trans HSm6.out
              have O7:=hidOwn (own_block O6.out (fun k hk=>b7.block k (O6.out.lt k hk).2))
              obtain⟨v0,v1,v2,_⟩:=im_cells HSm7.out
              clear b7 K6 p0 p1 p2 q0 q1 q2
              have HEQ:=HEQ0.out
              obtain⟨y0,y1,y2,yf⟩:=im_cells HZ7.out
              have yf0:=yf 0
              have yf1:=yf 1
              have yf2:=yf 2
              have HY:Hid (_∧_∧_):=im_store HZ7.out (by omega) B7 (O7.out.mono (base':=w.heap.size) (by omega)) HNE.out (.string ⟨r.toArray⟩) (.slice a3 m3 k3) (.bool false)
              have HEQ1:Hid (_∧_∧_):=HEQ
              clear yf HEQ
              go_wp2
              exact bodyPost_ret (v:=.tuple #[.agg #[.string ⟨r.toArray⟩,.slice a3 m3 k3,.bool false],.bool false]) (results_im rfl _ _ (w.heap.size+2) 26 _ _ rfl HY.out.1 Tryz.underlying26 rfl (by kernel_rfl) _ rfl) rfl ⟨a3,m3,k3,by rw[HEQ1.out.1,HEQ1.out.2.2],by rw[HEQ1.out.2.1];exact HY.out.2.2,HY.out.2.1⟩
            | true =>
              have HEQ0:Hid (tb=true∧tp=al∧td=true):=by
               obtain⟨h1,h2,h3⟩:=HE2.out
               simp only[Bool.not_true,Bool.false_or,Bool.and_true,Bool.true_and,hrk] at h1
               rw[h1] at h2 h3
               simp only[if_true] at h2 h3
               exact⟨h1,h2,h3⟩
              rw[hrk] at K6
              clear hrk HE2
              go_wp2_with fail
              refine K6.mono ?_
              rintro e w7 ⟨rfl,b7⟩
              have s7:=b7.size
              have B7:=B6.trans (b7.mono B6.size)
              have z7:=z6.trans (b7.mono (by omega))
              have HZ7:Hid (_=_):=(b7.block (w.heap.size+2) (by omega)).trans HZ6.out
              have HSm7:Hid (_=_):=(b7.block bs (by omega)).trans HSm6.out
              have O7:=hidOwn (own_block O6.out (fun k hk=>b7.block k (O6.out.lt k hk).2))
              have P7:=hidOwn (own_block P6.out (fun k hk=>b7.block k (P6.out.lt k hk).2))
              clear b7 K6 p0 p1 p2 q0 q1 q2
              obtain⟨p0,p1,p2,_⟩:=HC1.out w7 z7
              obtain⟨q0,q1,q2,_⟩:=HC2.out w7 z7
              obtain⟨y0,y1,y2,yf⟩:=im_cells HZ7.out
              have yf0:=yf 0
              have yf1:=yf 1
              have yf2:=yf 2
              have HY:Hid (_∧_∧_):=im_store HZ7.out (by omega) B7 (P7.out.mono (base':=w.heap.size) (by omega)) HNA.out (.string ⟨r.toArray⟩) (.slice a5 al.length k5) (.bool true)
              clear yf
              go_wp2
              exact bodyPost_ret (v:=.tuple #[.agg #[.string ⟨r.toArray⟩,.slice a5 al.length k5,.bool true],.bool true]) (results_im rfl _ _ (w.heap.size+2) 26 _ _ rfl HY.out.1 Tryz.underlying26 rfl (by kernel_rfl) _ rfl) rfl ⟨a5,al.length,k5,by rw[HEQ0.out.1,HEQ0.out.2.2],by rw[HEQ0.out.2.1];exact HY.out.2.2,HY.out.2.1⟩
end Go.Proofs.YtcoahmldmodmlaaGreatDoor
