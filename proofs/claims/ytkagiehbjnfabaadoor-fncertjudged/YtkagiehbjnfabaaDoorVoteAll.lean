import Derived.Test.YtkagiehbjnfabaaDoorChkAll
import Derived.Test.YtkagiehbjnfabaaDoorNextR
import Derived.Test.YtkagiehbjnfabaaDoorILaw4
namespace Go.Proofs.YtkagiehbjnfabaaDoor
open Go.RowKit
set_option linter.unusedVariables false
theorem quad_cells {w:World} {b:Nat} {u v x y:Value} {t:TypeId} (h:w.heap[b]? = some (.cells #[u,v,x,y] t (0,0))) :
 w.cell? ⟨b,0,none⟩=some u∧w.cell? ⟨b,1,none⟩=some v∧w.cell? ⟨b,2,none⟩=some x∧w.cell? ⟨b,3,none⟩=some y∧∀ j,w.frozen? ⟨b,j,none⟩=false:=by
 refine⟨?_,?_,?_,?_,fun j=>frozen_of_row w b j _ t h⟩ <;> simp only[World.cell?,h] <;> rfl
theorem quad_set {w:World} {b j:Nat} {u v x z y:Value} {t:TypeId} (h:w.heap[b]? = some (.cells #[u,v,x,z] t (0,0))):(w.setCell ⟨b,j,none⟩ y).heap[b]? = some (.cells (#[u,v,x,z].setIfInBounds j y) t (0,0)):=by
 have hlt:=lt_of_block h
 have h':w.heap[b]=.cells #[u,v,x,z] t (0,0):=by simpa [Array.getElem?_eq_getElem hlt] using h
 show (w.heap.modify b _)[b]? = _
 rw[Array.getElem?_eq_getElem (by simpa using hlt),Array.getElem_modify_self,h']
 rfl
theorem vote_store (a b x0 x1 x2 x3:Value) (w w1:World) {ts tg:TypeId} {u v p q r z:Value} (h1:w1.heap[w.heap.size+1]? = some (.cells #[u,v] ts (0,0))) (h2:w1.heap[w.heap.size+2]? = some (.cells #[p,q,r,z] tg (0,0))) (hB:Below w.heap.size w w1) :
 ((((((w1.setCell ⟨w.heap.size+1,0,none⟩ a).setCell ⟨w.heap.size+1,1,none⟩ b).setCell ⟨w.heap.size+1+1,0,none⟩ x0).setCell ⟨w.heap.size+1+1,1,none⟩ x1).setCell ⟨w.heap.size+1+1,2,none⟩ x2).setCell ⟨w.heap.size+1+1,3,none⟩ x3).heap[w.heap.size+1]? = some (.cells #[a,b] ts (0,0)) ∧
 ((((((w1.setCell ⟨w.heap.size+1,0,none⟩ a).setCell ⟨w.heap.size+1,1,none⟩ b).setCell ⟨w.heap.size+1+1,0,none⟩ x0).setCell ⟨w.heap.size+1+1,1,none⟩ x1).setCell ⟨w.heap.size+1+1,2,none⟩ x2).setCell ⟨w.heap.size+1+1,3,none⟩ x3).heap[w.heap.size+1+1]? = some (.cells #[x0,x1,x2,x3] tg (0,0)) ∧
 Below w.heap.size w ((((((w1.setCell ⟨w.heap.size+1,0,none⟩ a).setCell ⟨w.heap.size+1,1,none⟩ b).setCell ⟨w.heap.size+1+1,0,none⟩ x0).setCell ⟨w.heap.size+1+1,1,none⟩ x1).setCell ⟨w.heap.size+1+1,2,none⟩ x2).setCell ⟨w.heap.size+1+1,3,none⟩ x3) :=
 ⟨(Below.heap_setCell _ _ _ _ (by simp)).trans ((Below.heap_setCell _ _ _ _ (by simp)).trans ((Below.heap_setCell _ _ _ _ (by simp)).trans ((Below.heap_setCell _ _ _ _ (by simp)).trans (duo_set (j := 1) (duo_set (j := 0) h1))))),
   quad_set (j:=3) (quad_set (j:=2) (quad_set (j:=1) (quad_set (j:=0) ((Below.heap_setCell _ _ _ _ (by simp)).trans ((Below.heap_setCell _ _ _ _ (by simp)).trans h2))))),
   (((((hB.setCell (by simp) _).setCell (by simp) _).setCell (by simp;omega) _).setCell (by simp;omega) _).setCell (by simp;omega) _).setCell (by simp;omega) _⟩
theorem vote_fin (a b x0 x1 x2 x3:Value) (w w1:World) {ts tg:TypeId} {u v p q r z:Value} (h1:w1.heap[w.heap.size+1]? = some (.cells #[u,v] ts (0,0))) (h2:w1.heap[w.heap.size+2]? = some (.cells #[p,q,r,z] tg (0,0))) (hB:Below w.heap.size w w1) (wf:World) (hwf:wf=((((((w1.setCell ⟨w.heap.size+1,0,none⟩ a).setCell ⟨w.heap.size+1,1,none⟩ b).setCell ⟨w.heap.size+1+1,0,none⟩ x0).setCell ⟨w.heap.size+1+1,1,none⟩ x1).setCell ⟨w.heap.size+1+1,2,none⟩ x2).setCell ⟨w.heap.size+1+1,3,none⟩ x3).drew) :
 wf.heap[w.heap.size+1]? = some (.cells #[a,b] ts (0,0))∧wf.heap[w.heap.size+1+1]? = some (.cells #[x0,x1,x2,x3] tg (0,0))∧Below w.heap.size w wf ∧
 (∀ (v:Value) (m base:Nat) (e:TypeId) (xs:List Value),w1.ownsRow base e 1 v m xs→(∀ k,v.ownBlock=some k→w.heap.size+2<k)→wf.ownsRow base e 1 v m xs):=by
 obtain⟨F1,F2,F5⟩:=vote_store a b x0 x1 x2 x3 w w1 h1 h2 hB
 have dh:∀ W:World,W.drew.heap=W.heap:=fun _=>rfl
 have hh:wf.heap=((((((w1.setCell ⟨w.heap.size+1,0,none⟩ a).setCell ⟨w.heap.size+1,1,none⟩ b).setCell ⟨w.heap.size+1+1,0,none⟩ x0).setCell ⟨w.heap.size+1+1,1,none⟩ x1).setCell ⟨w.heap.size+1+1,2,none⟩ x2).setCell ⟨w.heap.size+1+1,3,none⟩ x3).heap:=by rw[hwf];exact dh _
 refine⟨by rw[hh];exact F1,by rw[hh];exact F2,by rw[hwf];exact below_drewI F5,fun v m base e xs h hv=>?_⟩
 have n1:v.ownBlock≠some (w.heap.size+1):=fun e=>by have:=hv _ e;omega
 have n2:v.ownBlock≠some (w.heap.size+1+1):=fun e=>by have:=hv _ e;omega
 rw[hwf]
 exact (ownsRow_setCell_other (ownsRow_setCell_other (ownsRow_setCell_other (ownsRow_setCell_other (ownsRow_setCell_other (ownsRow_setCell_other h n1 _) n1 _) n2 _) n2 _) n2 _) n2 _).drew
set_option maxRecDepth 100000 in
set_option maxHeartbeats 1000000 in
theorem spec_vote_no (s root:List UInt8) (n nd ix:Int) (w:World) (hs:s.length≤1048576) (hl:root.length≤1048576) (hno:¬ ((0≤ix∧ix≤1000000000000∧root.length=32)∧0≤nd∧nd≤6)) :
 Calls Tryd.prog 28 #[.agg #[.string ⟨s.toArray⟩,.int .i64 n],.int .i64 nd,.int .i64 ix,.string ⟨root.toArray⟩] w fun e w'=>e=.returned (.tuple #[.agg #[.string ⟨s.toArray⟩,.int .i64 n],.agg #[.int .i64 0,.int .i64 0,.slice none 0 0,.slice none 0 0],.bool false])∧Below w.heap.size w w':=by
 obtain⟨wa,hwa⟩:∃ wa,wa=((w.alloc (.cells #[.string ⟨s.toArray⟩,.int .i64 n] 61)).alloc (.cells #[.string ⟨#[]⟩,.int .i64 0] 61)).alloc (.cells #[.int .i64 0,.int .i64 0,.slice none 0 0,.slice none 0 0] 35):=⟨_,rfl⟩
 have Ba:Below w.heap.size w wa:=by rw[hwa];exact (((Below.refl _ _).alloc (Nat.le_refl _) _).alloc (by simp) _).alloc (by simp;omega) _
 have sa:wa.heap.size=w.heap.size+3:=by rw[hwa];simp
 have a0:wa.heap[w.heap.size]? = some (.cells #[.string ⟨s.toArray⟩,.int .i64 n] 61 (0,0)):=by rw[hwa,Below.heap_alloc _ _ _ (by simp;omega),Below.heap_alloc _ _ _ (by simp)];exact heap_alloc_new w _
 have a1:wa.heap[w.heap.size+1]? = some (.cells #[.string ⟨#[]⟩,.int .i64 0] 61 (0,0)):=by rw[hwa,Below.heap_alloc _ _ _ (by simp)];exact new_at _ (by simp) _
 have a2:wa.heap[w.heap.size+2]? = some (.cells #[.int .i64 0,.int .i64 0,.slice none 0 0,.slice none 0 0] 35 (0,0)):=by rw[hwa];exact new_at _ (by simp) _
 by_cases h:0≤ix∧ix≤1000000000000∧root.length=32
 · obtain⟨h1,h2,h3⟩:=h
   obtain⟨k,rfl⟩:=Int.eq_ofNat_of_zero_le h1
   have K1:=spec_check k root wa (by omega) h3
   obtain⟨msg,hmsg⟩:∃ msg,msg=chkL k root:=⟨_,rfl⟩
   rw[hwa,←hmsg] at K1
   have HND:Hid (¬ (0≤nd∧nd≤6)):=fun hh=>hno ⟨⟨h1,h2,h3⟩,hh⟩
   clear hno hmsg h1 h2 h3
   go_enter Tryd.func28,Tryd.ntmps28
   go_wp2_with fail
   refine K1.mono ?_
   rintro e w1 ⟨rfl,b1⟩
   rw[←hwa] at b1
   clear K1 hwa
   have BX:Hid (Below w.heap.size w w1):=Ba.trans (b1.mono (by omega))
   have Z:Hid (w1.heap[w.heap.size]? = some (.cells #[.string ⟨s.toArray⟩,.int .i64 n] 61 (0,0))∧w1.heap[w.heap.size+1]? = some (.cells #[.string ⟨#[]⟩,.int .i64 0] 61 (0,0))∧w1.heap[w.heap.size+2]? = some (.cells #[.int .i64 0,.int .i64 0,.slice none 0 0,.slice none 0 0] 35 (0,0))):=⟨(b1.block _ (by omega)).trans a0,(b1.block _ (by omega)).trans a1,(b1.block _ (by omega)).trans a2⟩
   have KN:=l1In_no nd 0 6 w1 HND.out
   clear b1 a0 a1 a2 Ba
   go_wp2_with fail
   refine KN.mono ?_
   rintro e w1 ⟨rfl,rfl⟩
   obtain⟨f0,f1,_⟩:=duo_row Z.out.1
   obtain⟨r0,r1,rf⟩:=duo_row Z.out.2.1
   obtain⟨t0,t1,t2,t3,tf⟩:=quad_cells Z.out.2.2
   have rf0:=rf 0
   have rf1:=rf 1
   have tf0:=tf 0
   have tf1:=tf 1
   have tf2:=tf 2
   have tf3:=tf 3
   clear rf tf
   go_wp2
   obtain⟨F1,F2,F5⟩:=vote_store (.string ⟨s.toArray⟩) (.int .i64 n) (.int .i64 0) (.int .i64 0) (.slice none 0 0) (.slice none 0 0) w w1 Z.out.2.1 Z.out.2.2 BX.out
   exact bodyPost_ret (v:=.tuple #[.agg #[.string ⟨s.toArray⟩,.int .i64 n],.agg #[.int .i64 0,.int .i64 0,.slice none 0 0,.slice none 0 0],.bool false]) (results_ccb rfl _ _ (w.heap.size+1) (w.heap.size+1+1) 61 35 _ _ _ _ rfl F1 Tryd.underlying61 rfl (by kernel_rfl) rfl F2 Tryd.underlying35 rfl (by kernel_rfl) _ rfl) rfl ⟨rfl,F5⟩
 · have K1:=spec_check_no ix root wa hl h
   rw[hwa] at K1
   clear hno h
   go_enter Tryd.func28,Tryd.ntmps28
   go_wp2_with fail
   refine K1.mono ?_
   rintro e w1 ⟨rfl,he1⟩
   have b1:Below wa.heap.size wa w1:=by rw[he1,hwa];exact Below.refl _ _
   clear K1 hwa he1
   have BX:Hid (Below w.heap.size w w1):=Ba.trans (b1.mono (by omega))
   have Z:Hid (w1.heap[w.heap.size]? = some (.cells #[.string ⟨s.toArray⟩,.int .i64 n] 61 (0,0))∧w1.heap[w.heap.size+1]? = some (.cells #[.string ⟨#[]⟩,.int .i64 0] 61 (0,0))∧w1.heap[w.heap.size+2]? = some (.cells #[.int .i64 0,.int .i64 0,.slice none 0 0,.slice none 0 0] 35 (0,0))):=⟨(b1.block _ (by omega)).trans a0,(b1.block _ (by omega)).trans a1,(b1.block _ (by omega)).trans a2⟩
   clear b1 a0 a1 a2 Ba
   obtain⟨f0,f1,_⟩:=duo_row Z.out.1
   obtain⟨r0,r1,rf⟩:=duo_row Z.out.2.1
   obtain⟨t0,t1,t2,t3,tf⟩:=quad_cells Z.out.2.2
   have rf0:=rf 0
   have rf1:=rf 1
   have tf0:=tf 0
   have tf1:=tf 1
   have tf2:=tf 2
   have tf3:=tf 3
   clear rf tf
   go_wp2
   obtain⟨F1,F2,F5⟩:=vote_store (.string ⟨s.toArray⟩) (.int .i64 n) (.int .i64 0) (.int .i64 0) (.slice none 0 0) (.slice none 0 0) w w1 Z.out.2.1 Z.out.2.2 BX.out
   exact bodyPost_ret (v:=.tuple #[.agg #[.string ⟨s.toArray⟩,.int .i64 n],.agg #[.int .i64 0,.int .i64 0,.slice none 0 0,.slice none 0 0],.bool false]) (results_ccb rfl _ _ (w.heap.size+1) (w.heap.size+1+1) 61 35 _ _ _ _ rfl F1 Tryd.underlying61 rfl (by kernel_rfl) rfl F2 Tryd.underlying35 rfl (by kernel_rfl) _ rfl) rfl ⟨rfl,F5⟩
set_option maxRecDepth 100000 in
set_option maxHeartbeats 8000000 in
theorem spec_vote_go (s root:List UInt8) (n nd us jx:Int) (k:Nat) (ok:Bool) (os ps:List (List UInt8)) (w:World) (hs:s.length≤1048576) (hk:k≤1000000000000) (h3:root.length=32) (hn0:0≤nd) (hn6:nd≤6) (hr:((ok=true∧∃ i:Nat,i<4∧s.length=32∧n=(i:Int)∧us=(i:Int)+1∧jx=(i:Int)∧os=sigL (leafL s i) (chkL k root) 19∧ps=pathL s i)∨(ok=false∧us=n∧jx=0∧os=[]∧ps=[]∧¬ (s.length=32∧0≤n∧n≤3)))) :
 Calls Tryd.prog 28 #[.agg #[.string ⟨s.toArray⟩,.int .i64 n],.int .i64 nd,.int .i64 (k:Int),.string ⟨root.toArray⟩] w fun e w'=>∃ a1 m1 c1 a2 m2 c2,e=.returned (.tuple #[.agg #[.string ⟨s.toArray⟩,.int .i64 us],.agg #[.int .i64 (if ok=true then nd else 0),.int .i64 jx,.slice a1 m1 c1,.slice a2 m2 c2],.bool ok])∧w'.ownsRow w.heap.size 9 1 (.slice a1 m1 c1) os.length (scells os)∧w'.ownsRow w.heap.size 9 1 (.slice a2 m2 c2) ps.length (scells ps)∧Below w.heap.size w w':=by
 obtain⟨wa,hwa⟩:∃ wa,wa=((w.alloc (.cells #[.string ⟨s.toArray⟩,.int .i64 n] 61)).alloc (.cells #[.string ⟨#[]⟩,.int .i64 0] 61)).alloc (.cells #[.int .i64 0,.int .i64 0,.slice none 0 0,.slice none 0 0] 35):=⟨_,rfl⟩
 have Ba:Below w.heap.size w wa:=by rw[hwa];exact (((Below.refl _ _).alloc (Nat.le_refl _) _).alloc (by simp) _).alloc (by simp;omega) _
 have sa:wa.heap.size=w.heap.size+3:=by rw[hwa];simp
 have a0:wa.heap[w.heap.size]? = some (.cells #[.string ⟨s.toArray⟩,.int .i64 n] 61 (0,0)):=by rw[hwa,Below.heap_alloc _ _ _ (by simp;omega),Below.heap_alloc _ _ _ (by simp)];exact heap_alloc_new w _
 have a1:wa.heap[w.heap.size+1]? = some (.cells #[.string ⟨#[]⟩,.int .i64 0] 61 (0,0)):=by rw[hwa,Below.heap_alloc _ _ _ (by simp)];exact new_at _ (by simp) _
 have a2:wa.heap[w.heap.size+2]? = some (.cells #[.int .i64 0,.int .i64 0,.slice none 0 0,.slice none 0 0] 35 (0,0)):=by rw[hwa];exact new_at _ (by simp) _
 have K1:=spec_check k root wa (by omega) h3
 have hml:=chkL_len k root h3
 obtain⟨msg,hmsg⟩:∃ msg,msg=chkL k root:=⟨_,rfl⟩
 rw[←hmsg] at K1 hml hr
 rw[hwa] at K1
 have HK2:Hid (∀ W,Calls Tryd.prog 38 #[.agg #[.string ⟨s.toArray⟩,.int .i64 n],.string ⟨msg.toArray⟩] W fun e w'=>∃ a1 m1 c1 a2 m2 c2,e=.returned (.tuple #[.agg #[.string ⟨s.toArray⟩,.int .i64 us],.agg #[.int .i64 jx,.slice a1 m1 c1,.slice a2 m2 c2],.bool ok])∧w'.ownsRow W.heap.size 9 1 (.slice a1 m1 c1) os.length (scells os)∧w'.ownsRow W.heap.size 9 1 (.slice a2 m2 c2) ps.length (scells ps)∧Below W.heap.size W w'):=fun W=>snext_any s msg n us jx ok os ps W hs (by omega) hr
 have HR:Hid (ok=false→us=n∧jx=0∧os=[]∧ps=[]):=fun h=>by
  rcases hr with ⟨h0,_⟩ | ⟨h0,h4,h5,h6,h7,_⟩
  · rw[h] at h0;cases h0
  · exact⟨h4,h5,h6,h7⟩
 have hn7:nd<7:=by omega
 clear hr hmsg
 go_enter Tryd.func28,Tryd.ntmps28
 go_wp2_with fail
 refine K1.mono ?_
 rintro e w1 ⟨rfl,b1⟩
 rw[←hwa] at b1
 clear K1 hwa
 have B1:Below w.heap.size w w1:=Ba.trans (b1.mono (by omega))
 have s1:=b1.size
 have KN:=l1In_yes nd 0 6 w1 ⟨hn0,hn6⟩
 go_wp2_with fail
 refine KN.mono ?_
 rintro e w1 ⟨rfl,rfl⟩
 clear KN
 have Y:Hid (w1.heap[w.heap.size]? = some (.cells #[.string ⟨s.toArray⟩,.int .i64 n] 61 (0,0))∧w1.heap[w.heap.size+1]? = some (.cells #[.string ⟨#[]⟩,.int .i64 0] 61 (0,0))∧w1.heap[w.heap.size+2]? = some (.cells #[.int .i64 0,.int .i64 0,.slice none 0 0,.slice none 0 0] 35 (0,0))):=⟨(b1.block _ (by omega)).trans a0,(b1.block _ (by omega)).trans a1,(b1.block _ (by omega)).trans a2⟩
 obtain⟨f0,f1,_⟩:=duo_row Y.out.1
 clear b1 a0 a1 a2 Ba
 go_wp2_with fail
 refine (HK2.out w1).mono ?_
 rintro e w2 ⟨a1,m1,c1,a2,m2,c2,rfl,o1,o2,b2⟩
 have B2:Below w.heap.size w w2:=B1.trans (b2.mono B1.size)
 have s2:=b2.size
 have Y2:w2.heap[w.heap.size]? = some (.cells #[.string ⟨s.toArray⟩,.int .i64 n] 61 (0,0))∧w2.heap[w.heap.size+1]? = some (.cells #[.string ⟨#[]⟩,.int .i64 0] 61 (0,0))∧w2.heap[w.heap.size+2]? = some (.cells #[.int .i64 0,.int .i64 0,.slice none 0 0,.slice none 0 0] 35 (0,0)):=⟨(b2.block _ (by omega)).trans Y.out.1,(b2.block _ (by omega)).trans Y.out.2.1,(b2.block _ (by omega)).trans Y.out.2.2⟩
 have BW:Below w2.heap.size w2 ((w2.alloc (.cells #[.string ⟨s.toArray⟩,.int .i64 us] 61)).alloc (.cells #[.int .i64 jx,.slice a1 m1 c1,.slice a2 m2 c2] 33)):=((Below.refl _ _).alloc (Nat.le_refl _) _).alloc (by simp) _
 have Z:Hid (((w2.alloc (.cells #[.string ⟨s.toArray⟩,.int .i64 us] 61)).alloc (.cells #[.int .i64 jx,.slice a1 m1 c1,.slice a2 m2 c2] 33)).heap[w.heap.size]? = some (.cells #[.string ⟨s.toArray⟩,.int .i64 n] 61 (0,0))∧((w2.alloc (.cells #[.string ⟨s.toArray⟩,.int .i64 us] 61)).alloc (.cells #[.int .i64 jx,.slice a1 m1 c1,.slice a2 m2 c2] 33)).heap[w.heap.size+1]? = some (.cells #[.string ⟨#[]⟩,.int .i64 0] 61 (0,0))∧((w2.alloc (.cells #[.string ⟨s.toArray⟩,.int .i64 us] 61)).alloc (.cells #[.int .i64 jx,.slice a1 m1 c1,.slice a2 m2 c2] 33)).heap[w.heap.size+2]? = some (.cells #[.int .i64 0,.int .i64 0,.slice none 0 0,.slice none 0 0] 35 (0,0))):=⟨(BW.block _ (by omega)).trans Y2.1,(BW.block _ (by omega)).trans Y2.2.1,(BW.block _ (by omega)).trans Y2.2.2⟩
 have BX:Hid (Below w.heap.size w ((w2.alloc (.cells #[.string ⟨s.toArray⟩,.int .i64 us] 61)).alloc (.cells #[.int .i64 jx,.slice a1 m1 c1,.slice a2 m2 c2] 33))):=B2.trans (BW.mono B2.size)
 have L1:Hid (∀ k,(Value.slice a1 m1 c1).ownBlock=some k→w1.heap.size≤k):=fun k hk=>(o1.lt k hk).1
 have L2:Hid (∀ k,(Value.slice a2 m2 c2).ownBlock=some k→w1.heap.size≤k):=fun k hk=>(o2.lt k hk).1
 have O1:=hidOwn (keptO o1 BW)
 have O2:=hidOwn (keptO o2 BW)
 clear o1 o2 b2 Y Y2 f0 f1 BW B2 
 obtain⟨f0,f1,_⟩:=duo_row Z.out.1
 obtain⟨r0,r1,rf⟩:=duo_row Z.out.2.1
 obtain⟨t0,t1,t2,t3,tf⟩:=quad_cells Z.out.2.2
 have rf0:=rf 0
 have rf1:=rf 1
 have tf0:=tf 0
 have tf1:=tf 1
 have tf2:=tf 2
 have tf3:=tf 3
 clear rf tf
 cases ok with
 | false =>
   obtain⟨hu,hj,ho,hp⟩:=HR.out rfl
   subst hu hj ho hp
   go_wp2
   obtain⟨F1,F2,F5⟩:=vote_store (.string ⟨s.toArray⟩) (.int .i64 us) (.int .i64 0) (.int .i64 0) (.slice none 0 0) (.slice none 0 0) w ((w2.alloc (.cells #[.string ⟨s.toArray⟩,.int .i64 us] 61)).alloc (.cells #[.int .i64 0,.slice a1 m1 c1,.slice a2 m2 c2] 33)) Z.out.2.1 Z.out.2.2 BX.out
   exact bodyPost_ret (v:=.tuple #[.agg #[.string ⟨s.toArray⟩,.int .i64 us],.agg #[.int .i64 0,.int .i64 0,.slice none 0 0,.slice none 0 0],.bool false]) (results_ccb rfl _ _ (w.heap.size+1) (w.heap.size+1+1) 61 35 _ _ _ _ rfl F1 Tryd.underlying61 rfl (by kernel_rfl) rfl F2 Tryd.underlying35 rfl (by kernel_rfl) _ rfl) rfl ⟨none,0,0,none,0,0,rfl,own_nil _ _ _,own_nil _ _ _,F5⟩
 | true =>
   go_wp2_with fail
   obtain⟨wb,hwb⟩:∃ wb,wb=(w2.alloc (.cells #[.string ⟨s.toArray⟩,.int .i64 us] 61)).alloc (.cells #[.int .i64 jx,.slice a1 m1 c1,.slice a2 m2 c2] 33):=⟨_,rfl⟩
   have sb:wb.heap.size=w2.heap.size+2:=by rw[hwb];simp
   have N1:wb.heap[w2.heap.size]? = some (.cells #[.string ⟨s.toArray⟩,.int .i64 us] 61 (0,0)):=by rw[hwb,Below.heap_alloc _ _ _ (by simp)];exact heap_alloc_new w2 _
   have N2:wb.heap[w2.heap.size+1]? = some (.cells #[.int .i64 jx,.slice a1 m1 c1,.slice a2 m2 c2] 33 (0,0)):=by rw[hwb];exact new_at _ (by simp) _
   rw[←hwb] at O1 O2 Z BX f0 f1 r0 r1 t0 t1 t2 t3 rf0 rf1 tf0 tf1 tf2 tf3 ⊢
   clear hwb
   obtain⟨x0,x1,_⟩:=duo_row N1
   obtain⟨y0,y1,y2,_⟩:=tri_cells N2
   have ne1:w2.heap.size≠w.heap.size+1:=by omega
   have ne2:w2.heap.size≠w.heap.size+1+1:=by omega
   have ne3:w2.heap.size+1≠w.heap.size+1:=by omega
   have ne4:w2.heap.size+1≠w.heap.size+1+1:=by omega
   clear N1 N2
   go_region
   go_wp2
   obtain⟨wf,hwf⟩:∃ wf,wf=((((((wb.setCell ⟨w.heap.size+1,0,none⟩ (.string ⟨s.toArray⟩)).setCell ⟨w.heap.size+1,1,none⟩ (.int .i64 us)).setCell ⟨w.heap.size+1+1,0,none⟩ (.int .i64 nd)).setCell ⟨w.heap.size+1+1,1,none⟩ (.int .i64 jx)).setCell ⟨w.heap.size+1+1,2,none⟩ (.slice a1 m1 c1)).setCell ⟨w.heap.size+1+1,3,none⟩ (.slice a2 m2 c2)).drew:=⟨_,rfl⟩
   rw[←hwf]
   obtain⟨G1,G2,G5,GR⟩:=vote_fin (.string ⟨s.toArray⟩) (.int .i64 us) (.int .i64 nd) (.int .i64 jx) (.slice a1 m1 c1) (.slice a2 m2 c2) w wb Z.out.2.1 Z.out.2.2 BX.out wf hwf
   have FO1:=(GR _ _ _ _ _ O1.out (fun k hk=>by have:=L1.out k hk;omega)).mono B1.size
   have FO2:=(GR _ _ _ _ _ O2.out (fun k hk=>by have:=L2.out k hk;omega)).mono B1.size
   clear hwf GR
   exact bodyPost_ret (v:=.tuple #[.agg #[.string ⟨s.toArray⟩,.int .i64 us],.agg #[.int .i64 nd,.int .i64 jx,.slice a1 m1 c1,.slice a2 m2 c2],.bool true]) (results_ccb rfl _ _ (w.heap.size+1) (w.heap.size+1+1) 61 35 _ _ _ _ rfl G1 Tryd.underlying61 rfl (by kernel_rfl) rfl G2 Tryd.underlying35 rfl (by kernel_rfl) _ rfl) rfl ⟨a1,m1,c1,a2,m2,c2,rfl,FO1,FO2,G5⟩
theorem voutcome (s msg:List UInt8) (n nd cx:Int):∃ (us ix vn:Int) (ok:Bool) (os ps:List (List UInt8)),os.length≤19∧ps.length≤2∧((∃ k:Nat,cx=(k:Int)∧k≤1000000000000∧msg.length=32∧0≤nd∧nd≤6∧((ok=true∧∃ i:Nat,i<4∧s.length=32∧n=(i:Int)∧us=(i:Int)+1∧ix=(i:Int)∧os=sigL (leafL s i) (chkL k msg) 19∧ps=pathL s i)∨(ok=false∧us=n∧ix=0∧os=[]∧ps=[]∧¬ (s.length=32∧0≤n∧n≤3)))∧vn=if ok=true then nd else 0)∨(¬ ((0≤cx∧cx≤1000000000000∧msg.length=32)∧0≤nd∧nd≤6)∧ok=false∧us=n∧ix=0∧vn=0∧os=[]∧ps=[])):=by
 by_cases h:(0≤cx∧cx≤1000000000000∧msg.length=32)∧0≤nd∧nd≤6
 · obtain⟨k,hk⟩:=Int.eq_ofNat_of_zero_le h.1.1
   obtain⟨us,ix,ok,os,ps,l1,l2,hr⟩:=outcome s (chkL k msg) n
   exact⟨us,ix,if ok=true then nd else 0,ok,os,ps,l1,l2,.inl ⟨k,hk,by have:=h.1.2.1;omega,h.1.2.2,h.2.1,h.2.2,hr,rfl⟩⟩
 · exact⟨n,0,0,false,[],[],by simp,by simp,.inr ⟨h,rfl,rfl,rfl,rfl,rfl,rfl⟩⟩
theorem svote_any (s msg:List UInt8) (n nd cx us ix vn:Int) (ok:Bool) (os ps:List (List UInt8)) (w:World) (hl:s.length≤1048576) (hm:msg.length≤1048576) (hr:(∃ k:Nat,cx=(k:Int)∧k≤1000000000000∧msg.length=32∧0≤nd∧nd≤6∧((ok=true∧∃ i:Nat,i<4∧s.length=32∧n=(i:Int)∧us=(i:Int)+1∧ix=(i:Int)∧os=sigL (leafL s i) (chkL k msg) 19∧ps=pathL s i)∨(ok=false∧us=n∧ix=0∧os=[]∧ps=[]∧¬ (s.length=32∧0≤n∧n≤3)))∧vn=if ok=true then nd else 0)∨(¬ ((0≤cx∧cx≤1000000000000∧msg.length=32)∧0≤nd∧nd≤6)∧ok=false∧us=n∧ix=0∧vn=0∧os=[]∧ps=[])) :
 Calls Tryd.prog 28 #[.agg #[.string ⟨s.toArray⟩,.int .i64 n],.int .i64 nd,.int .i64 cx,.string ⟨msg.toArray⟩] w fun e w'=>∃ a1 m1 c1 a2 m2 c2,e=.returned (.tuple #[.agg #[.string ⟨s.toArray⟩,.int .i64 us],.agg #[.int .i64 vn,.int .i64 ix,.slice a1 m1 c1,.slice a2 m2 c2],.bool ok])∧w'.ownsRow w.heap.size 9 1 (.slice a1 m1 c1) os.length (scells os)∧w'.ownsRow w.heap.size 9 1 (.slice a2 m2 c2) ps.length (scells ps)∧Below w.heap.size w w':=by
 rcases hr with ⟨k,h1,h2,h3,h4,h5,h6,h7⟩ | ⟨hno,h0,h4,h5,h6,h7,h8⟩
 · rw[h1,h7]
   exact spec_vote_go s msg n nd us ix k ok os ps w hl h2 h3 h4 h5 h6
 · rw[h0,h4,h5,h6,h7,h8]
   refine (spec_vote_no s msg n nd cx w hl hm hno).mono ?_
   rintro e w1 ⟨rfl,b1⟩
   exact⟨none,0,0,none,0,0,rfl,own_nil _ _ _,own_nil _ _ _,b1⟩
end Go.Proofs.YtkagiehbjnfabaaDoor
