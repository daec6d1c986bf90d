/-
 Contract: drawn keys and a certificate (spec.DrawCertOk).
-/
import Derived.Test.YtkagiehbjnfabaaDoorDrawVt
import Derived.Test.YtkagiehbjnfabaaDoorDrawSd
import Derived.Test.YtkagiehbjnfabaaDoorDrawAll
namespace Go.Proofs.YtkagiehbjnfabaaDoor
open Go.RowKit
set_option linter.unusedVariables false
theorem results_scJ {P:Program} {fn:Func} {p r:Tmp} {ty:TypeId} (h:fn.results=#[.tmp r,.cell p ty]) (tmps:Array Value) (w:World) (g:Nat) (t:TypeId) (cs:Array Value) (d:TypeDesc)
 (hp:tmps.getD p undef=.pointer (some ⟨g,0,none⟩)) (hg:w.heap[g]? = some (.cells cs t (0,0))) (hu:P.underlying ty=some d) (hd:(match d with | .struct _ | .array _ _=>true | _=>false)=true) (hi:(P.info? ty).map (·.size)=some cs.size) (vb:Value) (hb:tmps.getD r undef=vb) :
 (results fn tmps).run P w=.ok (.tuple #[vb,.agg cs]) w:=by
 subst hb
 have hp':tmps[p]?.getD undef=.pointer (some ⟨g,0,none⟩):=by simpa using hp
 simp[results,h,hp',asAddr,run_loadVar_row w g t ty cs (0,0) d hg hu hd hi]
theorem ce_cells {w:World} {b:Nat} {u v x:Value} {t:TypeId} (h:w.heap[b]? = some (.cells #[u,v,x] t (0,0))) :
 w.cell? ⟨b,0,none⟩=some u∧w.cell? ⟨b,1,none⟩=some v∧w.cell? ⟨b,2,none⟩=some x∧∀ j,w.frozen? ⟨b,j,none⟩=false:=by
 refine⟨?_,?_,?_,fun j=>frozen_of_row w b j _ t h⟩ <;> simp only[World.cell?,h] <;> rfl
theorem ce_set {w:World} {b j:Nat} {u v x y:Value} {t:TypeId} (h:w.heap[b]? = some (.cells #[u,v,x] t (0,0))):(w.setCell ⟨b,j,none⟩ y).heap[b]? = some (.cells (#[u,v,x].setIfInBounds j y) t (0,0)):=by
 have hlt:=lt_of_block h
 have h':w.heap[b]=.cells #[u,v,x] t (0,0):=by simpa [Array.getElem?_eq_getElem hlt] using h
 show (w.heap.modify b _)[b]? = _
 rw[Array.getElem?_eq_getElem (by simpa using hlt),Array.getElem_modify_self,h']
 rfl
theorem set_grown (w:World) (b i:Nat) (y:Value):w.grownBy (w.setCell ⟨b,i,none⟩ y) (some b):=⟨rfl,rfl,rfl,by simp[World.setCell],fun k _ hk=>Below.heap_setCell _ _ _ _ (fun e=>hk (by rw[e]))⟩
theorem own_setE {w:World} {b e s n:Nat} {v:Value} {xs:List Value} {p i:Nat} (y:Value) (h:w.ownsRow b e s v n xs) (hp:p<b):(w.setCell ⟨p,i,none⟩ y).ownsRow b e s v n xs:=ownsRow_setCell_other h (fun e'=>by have:=(h.lt _ e').1;simp at this;omega) y
theorem vas_setE {w:World} {lo g b i:Nat} {l:List VoteA} (y:Value) (hb:b<lo) (h:VAs w lo g l):VAs (w.setCell ⟨b,i,none⟩ y) lo g l:=h.grown (set_grown w b i y) (fun k hk=>.inl (by simp at hk;omega)) g (.inl rfl)
set_option maxRecDepth 100000 in
set_option maxHeartbeats 2000000 in
theorem drawCertOk (n cap:Nat) (a:Option Addr) (w:World) (hn:n≤1048576) (h:Code w a n) :
 Calls Tryd.prog 5 #[.slice a n cap] w fun e w'=>∃ (ks:List (List UInt8)) (gk ck k:Nat) (root:List UInt8) (vs:List VoteV) (g c:Nat),e=.returned (.tuple #[.slice (some ⟨gk,0,none⟩) ks.length ck,.agg #[.int .i64 (k:Int),.string ⟨root.toArray⟩,.slice (some ⟨g,0,none⟩) vs.length c]])∧ks.length=3∧(∀ l∈ks,l.length=32)∧k<4∧root.length=32∧vs.length≤3∧(∀ v∈vs,goodV v)∧IsStrs w' (some ⟨gk,0,none⟩) ks∧IsVotes w' (some ⟨g,0,none⟩) vs∧Below w.heap.size w w':=by
 have B0:Below w.heap.size w (w.alloc (.cells #[.int .i64 0,.string ⟨#[]⟩,.slice none 0 0] 27)):=(Below.refl _ _).alloc (Nat.le_refl _) _
 have X0:=heap_alloc_new w (.cells #[.int .i64 0,.string ⟨#[]⟩,.slice none 0 0] 27)
 have H1:=open_any n cap a (w.alloc (.cells #[.int .i64 0,.string ⟨#[]⟩,.slice none 0 0] 27)) (h.later B0)
 have s0:(w.alloc (.cells #[.int .i64 0,.string ⟨#[]⟩,.slice none 0 0] 27)).heap.size=w.heap.size+1:=by simp
 clear h
 go_enter Tryd.func5,Tryd.ntmps5
 go_wp2_with fail
 refine H1.mono ?_
 rintro e w1 ⟨rfl,hR1,b1⟩
 rw[s0] at hR1 b1
 have R1:Hid (Rd (w.heap.size+1) a n cap w1):=hR1
 have hlt1:=hR1.lt
 have Z1:Hid (w1.heap[w.heap.size]? = some (.cells #[.int .i64 0,.string ⟨#[]⟩,.slice none 0 0] 27 (0,0))):=(b1.block w.heap.size (by omega)).trans X0
 have B1:Hid (Below w.heap.size w w1):=B0.trans (b1.mono (by omega))
 clear hR1 H1 X0 B0 b1
 simp only[s0]
 go_wp2_with fail
 refine (below_any (w.heap.size+1) n cap 4 4 a w1 rfl (by omega) (by omega) hn R1.out).mono ?_
 rintro e w2 ⟨k,hk,rfl,R,G⟩
 have R2:Hid (Rd (w.heap.size+1) a n cap w2):=R
 have Z2:Hid (w2.heap[w.heap.size]? = some (.cells #[.int .i64 0,.string ⟨#[]⟩,.slice none 0 0] 27 (0,0))):=(G.block w.heap.size (by omega) (by simp)).trans Z1.out
 have B2:Hid (Below w.heap.size w w2):=B1.out.grown G B1.out.size (fun q hq=>by simp at hq;omega)
 have hlt2:w.heap.size+1<w2.heap.size:=Nat.lt_of_lt_of_le hlt1 G.size
 clear R G R1 Z1 B1 hlt1
 go_wp2_with fail
 refine (text_any (w.heap.size+1) n cap a w2 hn R2.out).mono ?_
 rintro e w3 ⟨tx,htx,rfl,R,G⟩
 have R3:Hid (Rd (w.heap.size+1) a n cap w3):=R
 have Z3:Hid (w3.heap[w.heap.size]? = some (.cells #[.int .i64 0,.string ⟨#[]⟩,.slice none 0 0] 27 (0,0))):=(G.block w.heap.size (by omega) (by simp)).trans Z2.out
 have B3:Hid (Below w.heap.size w w3):=B2.out.grown G B2.out.size (fun q hq=>by simp at hq;omega)
 have hlt3:w.heap.size+1<w3.heap.size:=Nat.lt_of_lt_of_le hlt2 G.size
 have K4:=spec_sum tx w3 (by omega)
 obtain⟨root,hroot⟩:∃ r,r=sumL tx:=⟨_,rfl⟩
 rw[←hroot] at K4
 have HRL:Hid (root.length=32):=by rw[hroot];exact sumL_len _
 clear R G R2 Z2 B2 hlt2 hroot htx
 go_wp2_with fail
 refine K4.mono ?_
 rintro e w4 ⟨rfl,b4⟩
 have R4:Hid (Rd (w.heap.size+1) a n cap w4):=R3.out.keptNone b4
 have Z4:Hid (w4.heap[w.heap.size]? = some (.cells #[.int .i64 0,.string ⟨#[]⟩,.slice none 0 0] 27 (0,0))):=(b4.block _ (lt_of_block Z3.out)).trans Z3.out
 have B4:Hid (Below w.heap.size w w4):=B3.out.trans (b4.mono B3.out.size)
 have hlt4:w.heap.size+1<w4.heap.size:=Nat.lt_of_lt_of_le hlt3 b4.size
 have K5:=spec_roots w4
 clear K4 b4 R3 Z3 B3 hlt3
 go_wp2_with fail
 refine K5.mono ?_
 rintro e w5 ⟨gk,ck,ks,rfl,hk3,hk32,o5,b5⟩
 have R5:Hid (Rd (w.heap.size+1) a n cap w5):=R4.out.keptNone b5
 have Z5:Hid (w5.heap[w.heap.size]? = some (.cells #[.int .i64 0,.string ⟨#[]⟩,.slice none 0 0] 27 (0,0))):=(b5.block _ (lt_of_block Z4.out)).trans Z4.out
 have B5:Hid (Below w.heap.size w w5):=B4.out.trans (b5.mono B4.out.size)
 have O5:Hid (w5.ownsRow w4.heap.size 9 1 (.slice (some ⟨gk,0,none⟩) 3 ck) 3 (scells ks)):=o5
 have HS5:Hid (w.heap.size+1<w4.heap.size∧w4.heap.size≤w5.heap.size):=⟨hlt4,b5.size⟩
 have HK:Hid (ks.length=3∧∀ l∈ks,l.length=32):=⟨hk3,hk32⟩
 have K6:=votes_any (w.heap.size+1) n cap k a root w5 hn (by omega) (by have:=HRL.out;omega) R5.out
 clear K5 o5 b5 R4 Z4 B4 hlt4 hk3 hk32
 go_wp2_with fail
 refine K6.mono ?_
 rintro e w6 ⟨g,c,l,rfl,hl3,o6,va6,R,G⟩
 have hne:∀ q,(Value.slice (some ⟨gk,0,none⟩) 3 ck).ownBlock=some q→some q≠some (w.heap.size+1):=fun q hq=>by have:=(O5.out.lt q hq).1;have:=HS5.out.1;simp;omega
 have O6:Hid (w6.ownsRow w4.heap.size 9 1 (.slice (some ⟨gk,0,none⟩) 3 ck) 3 (scells ks)):=O5.out.kept G (.inr (by have:=hne gk rfl;simpa [Value.ownBlock] using this))
 have P6:Hid (w6.ownsRow w5.heap.size 35 4 (.slice (some ⟨g,0,none⟩) l.length c) l.length (vas l)):=o6
 have V6:Hid (VAs w6 w5.heap.size g l):=va6
 have Z6:Hid (w6.heap[w.heap.size]? = some (.cells #[.int .i64 0,.string ⟨#[]⟩,.slice none 0 0] 27 (0,0))):=(G.block w.heap.size (lt_of_block Z5.out) (by simp)).trans Z5.out
 have B6:Hid (Below w.heap.size w w6):=B5.out.grown G B5.out.size (fun q hq=>by simp at hq;omega)
 have HL:Hid (l.length≤3):=hl3
 obtain⟨z0,z1,z2,zf⟩:=ce_cells Z6.out
 have zf0:=zf 0
 have zf1:=zf 1
 have zf2:=zf 2
 have F1:Hid ((((w6.setCell ⟨w.heap.size,0,none⟩ (.int .i64 (k:Int))).setCell ⟨w.heap.size,1,none⟩ (.string ⟨root.toArray⟩)).setCell ⟨w.heap.size,2,none⟩ (.slice (some ⟨g,0,none⟩) l.length c)).heap[w.heap.size]? = some (.cells #[.int .i64 (k:Int),.string ⟨root.toArray⟩,.slice (some ⟨g,0,none⟩) l.length c] 27 (0,0))):=ce_set (j:=2) (ce_set (j:=1) (ce_set (j:=0) Z6.out))
 have hb4:w.heap.size<w4.heap.size:=by have:=HS5.out;omega
 have hb5:w.heap.size<w5.heap.size:=by have:=HS5.out;omega
 have F2:Hid ((((w6.setCell ⟨w.heap.size,0,none⟩ (.int .i64 (k:Int))).setCell ⟨w.heap.size,1,none⟩ (.string ⟨root.toArray⟩)).setCell ⟨w.heap.size,2,none⟩ (.slice (some ⟨g,0,none⟩) l.length c)).ownsRow w4.heap.size 9 1 (.slice (some ⟨gk,0,none⟩) 3 ck) 3 (scells ks)):=own_setE _ (own_setE _ (own_setE _ O6.out hb4) hb4) hb4
 have F3:Hid ((((w6.setCell ⟨w.heap.size,0,none⟩ (.int .i64 (k:Int))).setCell ⟨w.heap.size,1,none⟩ (.string ⟨root.toArray⟩)).setCell ⟨w.heap.size,2,none⟩ (.slice (some ⟨g,0,none⟩) l.length c)).ownsRow w5.heap.size 35 4 (.slice (some ⟨g,0,none⟩) l.length c) l.length (vas l)):=own_setE _ (own_setE _ (own_setE _ P6.out hb5) hb5) hb5
 have F4:Hid (VAs (((w6.setCell ⟨w.heap.size,0,none⟩ (.int .i64 (k:Int))).setCell ⟨w.heap.size,1,none⟩ (.string ⟨root.toArray⟩)).setCell ⟨w.heap.size,2,none⟩ (.slice (some ⟨g,0,none⟩) l.length c)) w5.heap.size g l):=vas_setE _ hb5 (vas_setE _ hb5 (vas_setE _ hb5 V6.out))
 have F5:Hid (Below w.heap.size w (((w6.setCell ⟨w.heap.size,0,none⟩ (.int .i64 (k:Int))).setCell ⟨w.heap.size,1,none⟩ (.string ⟨root.toArray⟩)).setCell ⟨w.heap.size,2,none⟩ (.slice (some ⟨g,0,none⟩) l.length c))):=((B6.out.setCell (Nat.le_refl _) _).setCell (Nat.le_refl _) _).setCell (Nat.le_refl _) _
 have HK4:Hid (k<4):=hk
 have hlm:Hid ((l.map (·.v)).length=l.length):=List.length_map _
 clear K6 R G o6 va6 hl3 hne O5 O6 P6 V6 Z5 Z6 B5 B6 R5 zf hb4 hb5 hk
 go_wp2
 exact bodyPost_ret (v:=.tuple #[.slice (some ⟨gk,0,none⟩) 3 ck,.agg #[.int .i64 (k:Int),.string ⟨root.toArray⟩,.slice (some ⟨g,0,none⟩) l.length c]]) (results_scJ rfl _ _ w.heap.size 27 _ _ rfl F1.out Tryd.underlying27 rfl (by kernel_rfl) _ rfl) rfl ⟨ks,gk,ck,k,root,l.map (·.v),g,c,by rw[HK.out.1,hlm.out],HK.out.1,HK.out.2,HK4.out,HRL.out,by rw[hlm.out];exact HL.out,fun v hv=>by obtain⟨x,hx,rfl⟩:=List.mem_map.1 hv;exact (F4.out x hx).1,(isStrs_own F2.out).2.2,isVotes_vas F3.out F4.out,F5.out⟩
end Go.Proofs.YtkagiehbjnfabaaDoor
