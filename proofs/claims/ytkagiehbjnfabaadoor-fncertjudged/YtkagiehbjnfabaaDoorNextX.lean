import Derived.Test.YtkagiehbjnfabaaDoorIRoots
import Derived.Test.YtkagiehbjnfabaaDoorMath2
import Derived.Deep.RegionLaw
import Derived.Deep.AppendLies
import Derived.Test.YtkagiehbjnfabaaDoorRows
import Derived.Test.YtkagiehbjnfabaaDoorMathAll
import Derived.Deep.Cut
import Derived.Test.YtkagiehbjnfabaaDoorILaw4
namespace Go.Proofs.YtkagiehbjnfabaaDoor
open Go.RowKit
set_option linter.unusedVariables false
theorem trio_cells {w:World} {b:Nat} {u v x:Value} {t:TypeId} (h:w.heap[b]? = some (.cells #[u,v,x] t (0,0))) :
 w.cell? ⟨b,0,none⟩=some u∧w.cell? ⟨b,1,none⟩=some v∧w.cell? ⟨b,2,none⟩=some x∧∀ j,w.frozen? ⟨b,j,none⟩=false:=by
 refine⟨?_,?_,?_,fun j=>frozen_of_row w b j _ t h⟩ <;> simp only[World.cell?,h] <;> rfl
theorem trio_set {w:World} {b j:Nat} {u v x y:Value} {t:TypeId} (h:w.heap[b]? = some (.cells #[u,v,x] t (0,0))):(w.setCell ⟨b,j,none⟩ y).heap[b]? = some (.cells (#[u,v,x].setIfInBounds j y) t (0,0)):=by
 have hlt:=lt_of_block h
 have h':w.heap[b]=.cells #[u,v,x] t (0,0):=by simpa [Array.getElem?_eq_getElem hlt] using h
 show (w.heap.modify b _)[b]? = _
 rw[Array.getElem?_eq_getElem (by simpa using hlt),Array.getElem_modify_self,h']
 rfl
theorem grown_of_belowT {w w':World} (h:Below w.heap.size w w') (row:Option Nat):w.grownBy w' row:=⟨h.os,h.tape,h.output,h.size,fun k hk _=>h.block k hk⟩
theorem grown_set {w w':World} {b j:Nat} (h:w.grownBy w' (some b)) (y:Value):w.grownBy (w'.setCell ⟨b,j,none⟩ y) (some b) :=
 ⟨h.os,h.tape,h.output,by simpa [World.setCell] using h.size,fun k hk hne=>(Below.heap_setCell _ _ _ _ (fun e=>hne (by simpa using e))).trans (h.block k hk hne)⟩
theorem grown_trans2 {w w1 w2:World} {b:Nat} {o:Obj} {v:Value} (h:w.grownBy w1 (some b)) (hg:(w1.alloc o).grownBy w2 v.ownBlock) (hl:∀ k,v.ownBlock=some k→w.heap.size≤k):w.grownBy w2 (some b) :=
 ⟨hg.os.trans h.os, hg.tape.trans h.tape, hg.output.trans h.output, by have := hg.size; have := h.size; simp at *; omega, fun k hk hne => by
  have h1:=h.size
  rw[hg.block k (by simp;omega) (fun e=>by have:=hl k e.symm;omega),Below.heap_alloc _ _ _ (by omega)]
  exact h.block k hk hne⟩
def signerOk (s:List UInt8) (n:Int):Prop:=s.length=32∧0≤n∧n≤4
theorem duo_cells {w:World} (u v:Value) (t:TypeId):(w.alloc (.cells #[u,v] t)).cell? ⟨w.heap.size,0,none⟩=some u∧(w.alloc (.cells #[u,v] t)).cell? ⟨w.heap.size,1,none⟩=some v:=by
 have h:=heap_alloc_new w (.cells #[u,v] t)
 simp only[World.cell?,h]
 exact⟨rfl,rfl⟩
set_option maxRecDepth 100000 in
theorem l1In_ok (n:Int) (b:Bool) (w:World) (h:b=decide (0≤n∧n≤4)) :
 Calls Tryd.prog 31 #[.int .i64 n,.int .i64 0,.int .i64 4] w fun e w'=>e=.returned (.bool b)∧w'=w:=by
 by_cases h0:0≤n
 · by_cases h1:n≤4
   · have hb:b=true:=by rw[h];exact decide_eq_true ⟨h0,h1⟩
     subst hb
     clear h
     go_enter Tryd.func31,Tryd.ntmps31
     go_wp2
     go_ret
     exact⟨rfl,rfl⟩
   · have hb:b=false:=by rw[h];exact decide_eq_false (fun hh=>h1 hh.2)
     subst hb
     clear h
     go_enter Tryd.func31,Tryd.ntmps31
     go_wp2
     go_ret
     exact⟨rfl,rfl⟩
 · have hb:b=false:=by rw[h];exact decide_eq_false (fun hh=>h0 hh.1)
   subst hb
   clear h
   go_enter Tryd.func31,Tryd.ntmps31
   go_wp2
   go_ret
   exact⟨rfl,rfl⟩
set_option maxRecDepth 100000 in
theorem spec_ok (s:List UInt8) (n:Int) (b:Bool) (w:World) (hl:s.length≤1048576) (h:b=decide (s.length=32∧0≤n∧n≤4)) :
 Calls Tryd.prog 52 #[.agg #[.string ⟨s.toArray⟩,.int .i64 n]] w fun e w'=>e=.returned (.bool b)∧Below w.heap.size w w':=by
 by_cases hs:s.length=32
 · have hs':(s.length:Int)=32:=by omega
   have K:=l1In_ok n b (w.alloc (.cells #[.string ⟨s.toArray⟩,.int .i64 n] 61)) (by rw[h];simp[hs])
   clear h
   go_enter Tryd.func52,Tryd.ntmps52
   go_wp2_with fail
   refine K.mono ?_
   rintro e w1 ⟨rfl,rfl⟩
   go_wp2
   go_ret
   exact⟨rfl,(Below.refl _ _).alloc (Nat.le_refl _) _⟩
 · have hs':¬ (s.length:Int)=32:=by omega
   have hb:b=false:=by rw[h];exact decide_eq_false (fun hh=>hs hh.1)
   subst hb
   clear h
   go_enter Tryd.func52,Tryd.ntmps52
   go_wp2
   go_ret
   exact⟨rfl,(Below.refl _ _).alloc (Nat.le_refl _) _⟩
theorem new_at (w:World) {n:Nat} (h:w.heap.size=n) (o:Obj):(w.alloc o).heap[n]? = some o:=by rw[←h];exact heap_alloc_new w o
theorem heap_size_alloc (w:World) (o:Obj):(w.alloc o).heap.size=w.heap.size+1:=by simp
theorem duo_row {w:World} {b:Nat} {u v:Value} {t:TypeId} (h:w.heap[b]? = some (.cells #[u,v] t (0,0))) :
 w.cell? ⟨b,0,none⟩=some u∧w.cell? ⟨b,1,none⟩=some v∧∀ j,w.frozen? ⟨b,j,none⟩=false:=by
 refine⟨?_,?_,fun j=>frozen_of_row w b j _ t h⟩ <;> simp only[World.cell?,h] <;> rfl
theorem duo_set {w:World} {b j:Nat} {u v y:Value} {t:TypeId} (h:w.heap[b]? = some (.cells #[u,v] t (0,0))):(w.setCell ⟨b,j,none⟩ y).heap[b]? = some (.cells (#[u,v].setIfInBounds j y) t (0,0)):=by
 have hlt:=lt_of_block h
 have h':w.heap[b]=.cells #[u,v] t (0,0):=by simpa [Array.getElem?_eq_getElem hlt] using h
 show (w.heap.modify b _)[b]? = _
 rw[Array.getElem?_eq_getElem (by simpa using hlt),Array.getElem_modify_self,h']
 rfl
theorem trio_set_cell {w:World} {b:Nat} {x y z:Value} {a:Addr} (h:a.block≠b):(((w.setCell ⟨b,0,none⟩ x).setCell ⟨b,1,none⟩ y).setCell ⟨b,2,none⟩ z).cell? a=w.cell? a :=
 World.cell?_of_block ((Below.heap_setCell _ _ _ _ (by simpa using h)).trans ((Below.heap_setCell _ _ _ _ (by simpa using h)).trans (Below.heap_setCell _ _ _ _ (by simpa using h))))
theorem below_alloc_drew {w w':World} {o:Obj} (h:Below (w.alloc o).drew.heap.size (w.alloc o).drew w'):w.heap.size<w'.heap.size∧Below w.heap.size w w'∧w'.heap[w.heap.size]? = some o:=by
 have e:(w.alloc o).drew.heap.size=w.heap.size+1:=by show (w.alloc o).heap.size=_;simp
 have h':Below (w.heap.size+1) (w.alloc o) w':=⟨h.os,h.tape,h.output,h.size,fun k hk=>h.block k (by rw[e];exact hk)⟩
 have hsz:w.heap.size+1≤w'.heap.size:=by have:=h.size;rw[e] at this;exact this
 exact⟨hsz,((Below.refl w.heap.size w).alloc (Nat.le_refl _) _).trans (h'.mono (by omega)),(h'.block _ (by omega)).trans (heap_alloc_new w _)⟩
theorem trio_store {B base bs k d n:Nat} {t e:TypeId} {w0 w:World} {xs:List Value} {u v z:Value} (hz:w.heap[bs]? = some (.cells #[u,v,z] t (0,0))) (hb:B≤bs) (hB:Below B w0 w) (ho:w.ownsRow base e 1 (.slice (some ⟨k,0,none⟩) n d) n xs) (hk:k≠bs) (x y q:Value) :
 (((w.setCell ⟨bs,0,none⟩ x).setCell ⟨bs,1,none⟩ y).setCell ⟨bs,2,none⟩ q).heap[bs]? = some (.cells #[x,y,q] t (0,0))∧Below B w0 (((w.setCell ⟨bs,0,none⟩ x).setCell ⟨bs,1,none⟩ y).setCell ⟨bs,2,none⟩ q)∧(((w.setCell ⟨bs,0,none⟩ x).setCell ⟨bs,1,none⟩ y).setCell ⟨bs,2,none⟩ q).ownsRow base e 1 (.slice (some ⟨k,0,none⟩) n d) n xs :=
 ⟨trio_set (j := 2) (trio_set (j := 1) (trio_set (j := 0) hz)), ((hB.setCell (by simpa using hb) _).setCell (by simpa using hb) _).setCell (by simpa using hb) _,
  ownsRow_setCell_other (ownsRow_setCell_other (ownsRow_setCell_other ho (by simpa [Value.ownBlock] using hk) _) (by simpa [Value.ownBlock] using hk) _) (by simpa [Value.ownBlock] using hk) _⟩
theorem results_ccb {P:Program} {fn:Func} {p q r:Tmp} {ty tz:TypeId} (h:fn.results=#[.cell p ty,.cell q tz,.tmp r]) (tmps:Array Value) (w:World) (g k:Nat) (t t':TypeId) (cs ds:Array Value) (d d':TypeDesc)
 (hp:tmps.getD p undef=.pointer (some ⟨g,0,none⟩)) (hg:w.heap[g]? = some (.cells cs t (0,0))) (hu:P.underlying ty=some d) (hd:(match d with | .struct _ | .array _ _=>true | _=>false)=true) (hi:(P.info? ty).map (·.size)=some cs.size)
 (hq:tmps.getD q undef=.pointer (some ⟨k,0,none⟩)) (hk:w.heap[k]? = some (.cells ds t' (0,0))) (hu':P.underlying tz=some d') (hd':(match d' with | .struct _ | .array _ _=>true | _=>false)=true) (hi':(P.info? tz).map (·.size)=some ds.size) (vb:Value) (hb:tmps.getD r undef=vb) :
 (results fn tmps).run P w=.ok (.tuple #[.agg cs,.agg ds,vb]) w:=by
 subst hb
 have hp':tmps[p]?.getD undef=.pointer (some ⟨g,0,none⟩):=by simpa using hp
 have hq':tmps[q]?.getD undef=.pointer (some ⟨k,0,none⟩):=by simpa using hq
 simp[results,h,hp',hq',asAddr,run_loadVar_row w g t ty cs (0,0) d hg hu hd hi,run_loadVar_row w k t' tz ds (0,0) d' hk hu' hd' hi']
theorem no_store (sd us:Value) (w w1:World) {ts tg:TypeId} {a b x y z:Value} (h1:w1.heap[w.heap.size+1]? = some (.cells #[a,b] ts (0,0))) (h2:w1.heap[w.heap.size+2]? = some (.cells #[x,y,z] tg (0,0))) (hB:Below w.heap.size w w1) :
 (((((w1.setCell ⟨w.heap.size+1,0,none⟩ sd).setCell ⟨w.heap.size+1,1,none⟩ us).setCell ⟨w.heap.size+1+1,0,none⟩ (.int .i64 0)).setCell ⟨w.heap.size+1+1,1,none⟩ (.slice none 0 0)).setCell ⟨w.heap.size+1+1,2,none⟩ (.slice none 0 0)).heap[w.heap.size+1]? = some (.cells #[sd,us] ts (0,0)) ∧
 (((((w1.setCell ⟨w.heap.size+1,0,none⟩ sd).setCell ⟨w.heap.size+1,1,none⟩ us).setCell ⟨w.heap.size+1+1,0,none⟩ (.int .i64 0)).setCell ⟨w.heap.size+1+1,1,none⟩ (.slice none 0 0)).setCell ⟨w.heap.size+1+1,2,none⟩ (.slice none 0 0)).heap[w.heap.size+1+1]? = some (.cells #[.int .i64 0,.slice none 0 0,.slice none 0 0] tg (0,0)) ∧
 Below w.heap.size w (((((w1.setCell ⟨w.heap.size+1,0,none⟩ sd).setCell ⟨w.heap.size+1,1,none⟩ us).setCell ⟨w.heap.size+1+1,0,none⟩ (.int .i64 0)).setCell ⟨w.heap.size+1+1,1,none⟩ (.slice none 0 0)).setCell ⟨w.heap.size+1+1,2,none⟩ (.slice none 0 0)) :=
 ⟨(Below.heap_setCell _ _ _ _ (by simp)).trans ((Below.heap_setCell _ _ _ _ (by simp)).trans ((Below.heap_setCell _ _ _ _ (by simp)).trans (duo_set (j := 1) (duo_set (j := 0) h1)))),
   trio_set (j:=2) (trio_set (j:=1) (trio_set (j:=0) ((Below.heap_setCell _ _ _ _ (by simp)).trans ((Below.heap_setCell _ _ _ _ (by simp)).trans h2)))),
   ((((hB.setCell (by simp) _).setCell (by simp) _).setCell (by simp;omega) _).setCell (by simp;omega) _).setCell (by simp;omega) _⟩
set_option maxRecDepth 100000 in
set_option maxHeartbeats 1000000 in
theorem spec_next_no (seed msg:List UInt8) (n:Int) (w:World) (hl:seed.length≤1048576) (hno:¬ (seed.length=32∧0≤n∧n≤3)) :
 Calls Tryd.prog 38 #[.agg #[.string ⟨seed.toArray⟩,.int .i64 n],.string ⟨msg.toArray⟩] w fun e w'=>e=.returned (.tuple #[.agg #[.string ⟨seed.toArray⟩,.int .i64 n],.agg #[.int .i64 0,.slice none 0 0,.slice none 0 0],.bool false])∧Below w.heap.size w w':=by
 obtain⟨wa,hwa⟩:∃ wa,wa=((w.alloc (.cells #[.string ⟨seed.toArray⟩,.int .i64 n] 61)).alloc (.cells #[.string ⟨#[]⟩,.int .i64 0] 61)).alloc (.cells #[.int .i64 0,.slice none 0 0,.slice none 0 0] 33):=⟨_,rfl⟩
 have Ba:Below w.heap.size w wa:=by rw[hwa];exact (((Below.refl _ _).alloc (Nat.le_refl _) _).alloc (by simp) _).alloc (by simp;omega) _
 have sa:wa.heap.size=w.heap.size+3:=by rw[hwa];simp
 have a0:wa.heap[w.heap.size]? = some (.cells #[.string ⟨seed.toArray⟩,.int .i64 n] 61 (0,0)):=by rw[hwa,Below.heap_alloc _ _ _ (by simp;omega),Below.heap_alloc _ _ _ (by simp)];exact heap_alloc_new w _
 have a1:wa.heap[w.heap.size+1]? = some (.cells #[.string ⟨#[]⟩,.int .i64 0] 61 (0,0)):=by rw[hwa,Below.heap_alloc _ _ _ (by simp)];exact new_at _ (by simp) _
 have a2:wa.heap[w.heap.size+2]? = some (.cells #[.int .i64 0,.slice none 0 0,.slice none 0 0] 33 (0,0)):=by rw[hwa];exact new_at _ (by simp) _
 by_cases h4:n=4∧seed.length=32
 · obtain⟨rfl,hs⟩:=h4
   clear hno
   have K1:=spec_ok seed 4 true wa hl (by simp[hs])
   rw[hwa] at K1
   go_enter Tryd.func38,Tryd.ntmps38
   go_wp2_with fail
   refine K1.mono ?_
   rintro e w1 ⟨rfl,b1⟩
   rw[←hwa] at b1
   clear K1 hwa
   have B1:=Ba.trans (b1.mono (by omega))
   have s1:=b1.size
   have z0:=(b1.block _ (by omega)).trans a0
   have z1:=(b1.block _ (by omega)).trans a1
   have z2:=(b1.block _ (by omega)).trans a2
   obtain⟨f0,f1,_⟩:=duo_row z0
   obtain⟨r0,r1,rf⟩:=duo_row z1
   obtain⟨t0,t1,t2,tf⟩:=trio_cells z2
   have rf0:=rf 0
   have rf1:=rf 1
   have tf0:=tf 0
   have tf1:=tf 1
   have tf2:=tf 2
   have HZ2:Hid (w1.heap[w.heap.size+1]? = some (.cells #[.string ⟨#[]⟩,.int .i64 0] 61 (0,0))∧w1.heap[w.heap.size+2]? = some (.cells #[.int .i64 0,.slice none 0 0,.slice none 0 0] 33 (0,0))):=⟨z1,z2⟩
   clear z0 z1 z2 rf tf b1 a0 a1 a2 Ba
   go_wp2
   obtain⟨F1,F2,F5⟩:=no_store (.string ⟨seed.toArray⟩) (.int .i64 4) w w1 HZ2.out.1 HZ2.out.2 B1
   exact bodyPost_ret (v:=.tuple #[.agg #[.string ⟨seed.toArray⟩,.int .i64 4],.agg #[.int .i64 0,.slice none 0 0,.slice none 0 0],.bool false]) (results_ccb rfl _ _ (w.heap.size+1) (w.heap.size+1+1) 61 33 _ _ _ _ rfl F1 Tryd.underlying61 rfl (by kernel_rfl) rfl F2 Tryd.underlying33 rfl (by kernel_rfl) _ rfl) rfl ⟨rfl,F5⟩
 · have K1:=spec_ok seed n false wa hl (by rw[eq_comm,decide_eq_false_iff_not];intro hh;exact hno ⟨hh.1,hh.2.1,by have:n≠4:=fun e=>h4 ⟨e,hh.1⟩;omega⟩)
   rw[hwa] at K1
   go_enter Tryd.func38,Tryd.ntmps38
   go_wp2_with fail
   refine K1.mono ?_
   rintro e w1 ⟨rfl,b1⟩
   rw[←hwa] at b1
   clear K1 hwa
   have B1:=Ba.trans (b1.mono (by omega))
   have s1:=b1.size
   have z0:=(b1.block _ (by omega)).trans a0
   have z1:=(b1.block _ (by omega)).trans a1
   have z2:=(b1.block _ (by omega)).trans a2
   obtain⟨f0,f1,_⟩:=duo_row z0
   obtain⟨r0,r1,rf⟩:=duo_row z1
   obtain⟨t0,t1,t2,tf⟩:=trio_cells z2
   have rf0:=rf 0
   have rf1:=rf 1
   have tf0:=tf 0
   have tf1:=tf 1
   have tf2:=tf 2
   have HZ2:Hid (w1.heap[w.heap.size+1]? = some (.cells #[.string ⟨#[]⟩,.int .i64 0] 61 (0,0))∧w1.heap[w.heap.size+2]? = some (.cells #[.int .i64 0,.slice none 0 0,.slice none 0 0] 33 (0,0))):=⟨z1,z2⟩
   clear z0 z1 z2 rf tf b1 a0 a1 a2 Ba
   go_wp2
   obtain⟨F1,F2,F5⟩:=no_store (.string ⟨seed.toArray⟩) (.int .i64 n) w w1 HZ2.out.1 HZ2.out.2 B1
   exact bodyPost_ret (v:=.tuple #[.agg #[.string ⟨seed.toArray⟩,.int .i64 n],.agg #[.int .i64 0,.slice none 0 0,.slice none 0 0],.bool false]) (results_ccb rfl _ _ (w.heap.size+1) (w.heap.size+1+1) 61 33 _ _ _ _ rfl F1 Tryd.underlying61 rfl (by kernel_rfl) rfl F2 Tryd.underlying33 rfl (by kernel_rfl) _ rfl) rfl ⟨rfl,F5⟩
theorem apart_kept {w w':World} {b e n:Nat} {u v:Value} {xs:List Value} (h:w.ownsRow b e 1 v n xs) (hg:w.grownBy w' u.ownBlock) (hne:∀ k,u.ownBlock=some k→v.ownBlock≠some k):w'.ownsRow b e 1 v n xs :=
 h.kept hg (by
  cases hv:v.ownBlock with
  | none=>exact .inl rfl
  | some j=>exact .inr (fun e=>hne j e.symm hv))
end Go.Proofs.YtkagiehbjnfabaaDoor
