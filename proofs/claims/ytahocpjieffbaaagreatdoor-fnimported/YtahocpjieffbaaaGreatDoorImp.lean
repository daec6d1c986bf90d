import Derived.Test.YtahocpjieffbaaaGreatDoorPairs
import Derived.OneCell
namespace Go.Proofs.YtahocpjieffbaaaGreatDoor
open Go.RowKit
set_option linter.unusedVariables false
theorem im_cells {w:World} {b:Nat} {u v x:Value} {t:TypeId} (h:w.heap[b]? = some (.cells #[u,v,x] t (0,0))) :
 w.cell? ⟨b,0,none⟩=some u∧w.cell? ⟨b,1,none⟩=some v∧w.cell? ⟨b,2,none⟩=some x∧∀ j,w.frozen? ⟨b,j,none⟩=false:=by
 refine⟨?_,?_,?_,fun j=>frozen_of_row w b j _ t h⟩ <;> simp only[World.cell?,h] <;> rfl
theorem im_set {w:World} {b j:Nat} {u v x y:Value} {t:TypeId} (h:w.heap[b]? = some (.cells #[u,v,x] t (0,0))):(w.setCell ⟨b,j,none⟩ y).heap[b]? = some (.cells (#[u,v,x].setIfInBounds j y) t (0,0)):=by
 have hlt:=lt_of_block h
 have h':w.heap[b]=.cells #[u,v,x] t (0,0):=by simpa [Array.getElem?_eq_getElem hlt] using h
 show (w.heap.modify b _)[b]? = _
 rw[Array.getElem?_eq_getElem (by simpa using hlt),Array.getElem_modify_self,h']
 rfl
theorem results_im {P:Program} {fn:Func} {p r:Tmp} {ty:TypeId} (h:fn.results=#[.cell p ty,.tmp r]) (tmps:Array Value) (w:World) (g:Nat) (t:TypeId) (cs:Array Value) (d:TypeDesc)
 (hp:tmps.getD p undef=.pointer (some ⟨g,0,none⟩)) (hg:w.heap[g]? = some (.cells cs t (0,0))) (hu:P.underlying ty=some d) (hd:(match d with | .struct _ | .array _ _=>true | _=>false)=true) (hi:(P.info? ty).map (·.size)=some cs.size) (vb:Value) (hb:tmps.getD r undef=vb) :
 (results fn tmps).run P w=.ok (.tuple #[.agg cs,vb]) w:=by
 subst hb
 have hp':tmps[p]?.getD undef=.pointer (some ⟨g,0,none⟩):=by simpa using hp
 simp[results,h,hp',asAddr,run_loadVar_row w g t ty cs (0,0) d hg hu hd hi]
set_option maxRecDepth 100000 in
theorem spec_importNew (r:List UInt8) (w:World) (hr:r.length≤1048576) :
 Calls Tryz.prog 57 #[.string ⟨r.toArray⟩] w fun e w'=>e=.returned (.tuple #[.agg #[.string ⟨(if r.length=32 then r else []).toArray⟩,.slice none 0 0,.bool false],.bool (decide (r.length=32))])∧Below w.heap.size w w':=by
 have z0:=heap_alloc_new w (.cells #[.string ⟨#[]⟩,.slice none 0 0,.bool false] 33)
 have Ba:Below w.heap.size w (w.alloc (.cells #[.string ⟨#[]⟩,.slice none 0 0,.bool false] 33)):=(Below.refl w.heap.size w).alloc (Nat.le_refl _) _
 obtain⟨_,_,_,z4⟩:=im_cells z0
 by_cases h:r.length=32
 · have h':(r.length:Int)=32:=by omega
   have HZ:Hid ((if r.length=32 then r else [])=r∧decide (r.length=32)=true):=⟨if_pos h,decide_eq_true h⟩
   go_enter Tryz.func57,Tryz.ntmps57
   go_wp2
   exact bodyPost_ret (v:=.tuple #[.agg #[.string ⟨r.toArray⟩,.slice none 0 0,.bool false],.bool true]) (results_im rfl _ _ w.heap.size 33 _ _ rfl (heap_alloc_new _ _) Tryz.underlying33 rfl (by kernel_rfl) _ rfl) rfl ⟨rfl,(Below.refl _ _).alloc (Nat.le_refl _) _⟩
 · have h':¬ (r.length:Int)=32:=by omega
   have HZ:Hid ((if r.length=32 then r else [])=[]∧decide (r.length=32)=false):=⟨if_neg h,decide_eq_false h⟩
   go_enter Tryz.func57,Tryz.ntmps57
   go_wp2
   exact bodyPost_ret (v:=.tuple #[.agg #[.string ⟨#[]⟩,.slice none 0 0,.bool false],.bool false]) (results_im rfl _ _ w.heap.size 33 _ _ rfl (heap_alloc_new _ _) Tryz.underlying33 rfl (by kernel_rfl) _ rfl) rfl ⟨rfl,(Below.refl _ _).alloc (Nat.le_refl _) _⟩
set_option maxRecDepth 100000 in
theorem impl_importNew (r:List UInt8) (w:World) (hr:r.length≤1048576) :
 Calls Tryz.prog 10 #[.string ⟨r.toArray⟩] w fun e w'=>e=.returned (.tuple #[.agg #[.string ⟨(if r.length=32 then r else []).toArray⟩,.slice none 0 0,.bool false],.bool (decide (r.length=32))])∧Below w.heap.size w w':=by
 have z0:=heap_alloc_new w (.cells #[.string ⟨#[]⟩,.slice none 0 0,.bool false] 33)
 have Ba:Below w.heap.size w (w.alloc (.cells #[.string ⟨#[]⟩,.slice none 0 0,.bool false] 33)):=(Below.refl w.heap.size w).alloc (Nat.le_refl _) _
 obtain⟨_,_,_,z4⟩:=im_cells z0
 by_cases h:r.length=32
 · have h':(r.length:Int)=32:=by omega
   have HZ:Hid ((if r.length=32 then r else [])=r∧decide (r.length=32)=true):=⟨if_pos h,decide_eq_true h⟩
   go_enter Tryz.func10,Tryz.ntmps10
   go_wp2
   exact bodyPost_ret (v:=.tuple #[.agg #[.string ⟨r.toArray⟩,.slice none 0 0,.bool false],.bool true]) (results_im rfl _ _ w.heap.size 33 _ _ rfl (heap_alloc_new _ _) Tryz.underlying33 rfl (by kernel_rfl) _ rfl) rfl ⟨rfl,(Below.refl _ _).alloc (Nat.le_refl _) _⟩
 · have h':¬ (r.length:Int)=32:=by omega
   have HZ:Hid ((if r.length=32 then r else [])=[]∧decide (r.length=32)=false):=⟨if_neg h,decide_eq_false h⟩
   go_enter Tryz.func10,Tryz.ntmps10
   go_wp2
   exact bodyPost_ret (v:=.tuple #[.agg #[.string ⟨#[]⟩,.slice none 0 0,.bool false],.bool false]) (results_im rfl _ _ w.heap.size 33 _ _ rfl (heap_alloc_new _ _) Tryz.underlying33 rfl (by kernel_rfl) _ rfl) rfl ⟨rfl,(Below.refl _ _).alloc (Nat.le_refl _) _⟩
end Go.Proofs.YtahocpjieffbaaaGreatDoor
