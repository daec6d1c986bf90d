/-
 A string's bytes appended to a row of bytes of one's own, or to none; a step of a region for an append whose run is known.
-/
import Derived.Test.YtlllkdioojjaeaaMapF
import Derived.Deep.Upon
import Derived.Deep.AppendLies
namespace Go.Proofs.Ytlllkdioojjaeaa
open Go.RowKit
set_option linter.unusedVariables false
theorem byteCells_b (l:List UInt8):byteCells ⟨l.toArray⟩=bcells l:=by simp[byteCells,bcells]
theorem rowX_new (W:World) (e:TypeId) (base cap:Nat) (xs:List Value) (zs:Array Value) (hz:xs.length+zs.size=cap) (hb:base≤W.heap.size):RowX (W.alloc (.cells (xs.toArray ++ zs) e)) base W.heap.size xs.length cap xs:=by
 have hblk:=heap_alloc_new W (.cells (xs.toArray ++ zs) e)
 refine⟨rfl,hb,by simp,by omega,fun j hj=>?_,fun j h1 h2=>⟨?_,frozen_of_row _ _ j _ e hblk⟩⟩
 · rw[cell_of_row _ _ j _ _ _ hblk,Array.getElem?_append_left (by simpa using hj)]
   simp
 · rw[cell_of_row _ _ j _ _ _ hblk,Array.getElem?_eq_getElem (by simp;omega)]
   rfl
theorem run_append_b {P : Program} (w : World) (base : Nat) (t u e : TypeId) (i : TypeInfo) (ht : P.underlying t = some (.slice e)) (hu : P.underlying u = some .string) (hi : P.info? e = some i) (hz : i.zero = some (.int .u8 0)) (hs1 : i.size = 1) (hby : i.bytes = 1)
 (v:Value) (d0 d:List UInt8) (hR:RowB w base v d0) (hl:d0.length+d.length≤1099511627776) (hb:base≤w.heap.size) :
 ∃ v' w',(∀ ty,(Builtin.append_ #[t,u] ty #[v,.string ⟨d.toArray⟩]).run P w=.ok v' w')∧RowB w' base v' (d0 ++ d)∧w.grownBy w' v.ownBlock∧(∀ g,v'.ownBlock=some g→v.ownBlock=some g∨g=w.heap.size):=by
 have hsz:(ByteArray.mk d.toArray).size=d.length:=by simp[ByteArray.size]
 have hsrc:Src P i.size u (.string ⟨d.toArray⟩) d.length (bcells d) w:=by
  have:=Src.ofString (P:=P) w hu ⟨d.toArray⟩
  rw[byteCells_b,hsz] at this
  rw[hs1];exact this
 have hz1:(Value.int IntKind.u8 0).cells.size=1:=rfl
 by_cases hd:d=[]
 · subst hd
   rcases hR with ⟨rfl,rfl⟩ | ⟨g,cap,rfl,h⟩
   · exact⟨_,w,fun ty=>run_append_nothing w t u ty e i ht hi none 0 0 (Nat.le_refl _) _ hsrc,.inl ⟨rfl,rfl⟩,World.grownBy.refl _ _,fun g hg=>.inl hg⟩
   · refine⟨_,w,fun ty=>run_append_nothing w t u ty e i ht hi _ _ _ h.fit _ hsrc,.inr ⟨g,cap,by simp,by simpa using h⟩,World.grownBy.refl _ _,fun g hg=>.inl hg⟩
 · have hdp : 0 < d.length := List.length_pos_iff.2 hd
   rcases hR with ⟨rfl,rfl⟩ | ⟨g,cap,rfl,h⟩
   · have hge:=grownCap_ge w (0+d.length) 0 e
     refine⟨_,_,fun ty=>run_append_grow_src w t u ty e i _ ht hi hz none 0 0 [] (run_firstCells_none w.drew i.size 0 0 0) _ d.length (bcells d) hsrc (by omega) (by omega) (growslice_fits (by omega) (by rw[hby];omega)),.inr ⟨w.heap.size,grownCap w (0+d.length) 0 e,?_,?_⟩,⟨rfl,rfl,rfl,by simp,fun k hk _=>heap_alloc_old w.drew _ hk⟩,fun g hg=>.inr (by simpa [Value.ownBlock] using hg.symm)⟩
     · rw[List.nil_append,Nat.zero_add]
     · have:=rowX_new w.drew e base (grownCap w (0+d.length) 0 e) ([] ++ bcells d) (Builtin.zeroCells (Value.int .u8 0).cells (grownCap w (0+d.length) 0 e - (0+d.length))) (by rw[size_zeroCells,hz1,List.nil_append,bcells_length];omega) hb
       simpa [bcells_length] using this
   · by_cases hr:d0.length+d.length≤cap
     · have hin:∀ j,j<(bcells d).length→(w.cell? ⟨g,0+d0.length*i.size+j,none⟩).isSome=true∧w.frozen? ⟨g,0+d0.length*i.size+j,none⟩=false:=fun j hj=>by
        rw[bcells_length] at hj
        have:=h.spare (d0.length+j) (by omega) (by omega)
        rw[hs1]
        simpa using this
       have hsz:=setCells_size g (bcells d) (0+d0.length*i.size) w
       refine⟨_,_,fun ty=>run_append_room_src w t u ty e i ht hi g 0 d0.length cap _ d.length (bcells d) hsrc hr (fun j hj=>(hin j hj).1) (fun j hj=>(hin j hj).2),.inr ⟨g,cap,by rw[List.length_append],?_⟩,⟨hsz.2.1,hsz.2.2.1,hsz.2.2.2,by rw[hsz.1];exact Nat.le_refl _,fun k' _ hk'=>setCells_other g (bcells d) _ w k' (fun e=>hk' (by rw[e];rfl))⟩,fun g' hg'=>.inl hg'⟩
       have eb:bcells (d0 ++ d)=bcells d0 ++ bcells d:=by simp[bcells]
       rw[List.length_append,eb]
       refine⟨by simp[bcells_length],h.low,by rw[hsz.1];exact h.lt,hr,fun j hj=>?_,fun j hj1 hj2=>?_⟩
       · by_cases hjn:j<d0.length
         · rw[World.cell?_setCells_out g (bcells d) _ w ⟨g,j,none⟩ (fun _ _=>.inl (by rw[hs1];simp;omega)),h.cells j hjn,List.getElem?_append_left (by rw[h.len];exact hjn)]
         · have:=World.cell?_setCells_in g (bcells d) (0+d0.length*i.size) w (fun j hj=>(hin j hj).1) (j - d0.length) (by rw[bcells_length];omega)
           rw[show 0+d0.length*i.size+(j - d0.length)=j by rw[hs1];omega] at this
           rw[this,List.getElem?_append_right (by rw[h.len];omega),h.len,List.getElem?_eq_getElem (by rw[bcells_length];omega)]
       · rw[World.frozen?_setCells,World.cell?_setCells_out g (bcells d) _ w ⟨g,j,none⟩ (fun _ _=>.inr (by rw[hs1,bcells_length];simp;omega))]
         exact h.spare j (by omega) hj2
     · have hge:=grownCap_ge w (d0.length+d.length) cap e
       have hold:(Builtin.firstCells i.size d0.length (.slice (some ⟨g,0,none⟩) d0.length cap)).run P w.drew=.ok (bcells d0).toArray w.drew:=run_firstCells_some w.drew i.size d0.length ⟨g,0,none⟩ d0.length cap (bcells d0) (by rw[hs1,bcells_length];omega) (fun j u hj=>by
        have hj':j<d0.length:=by have:=(List.getElem?_eq_some_iff.1 hj).1;rwa [bcells_length] at this
        have ea:(⟨g,0,none⟩:Addr).add j=⟨g,j,none⟩:=by unfold Addr.add;split <;> simp_all
        rw[ea]
        exact (h.cells j hj').trans hj)
       refine⟨_,_,fun ty=>run_append_grow_src w t u ty e i _ ht hi hz _ d0.length cap (bcells d0) hold _ d.length (bcells d) hsrc (by omega) (by omega) (growslice_fits (by omega) (by rw[hby];omega)),.inr ⟨w.heap.size,grownCap w (d0.length+d.length) cap e,by rw[List.length_append],?_⟩,⟨rfl,rfl,rfl,by simp,fun k hk _=>heap_alloc_old w.drew _ hk⟩,fun g hg=>.inr (by simpa [Value.ownBlock] using hg.symm)⟩
       have eb:bcells (d0 ++ d)=bcells d0 ++ bcells d:=by simp[bcells]
       have:=rowX_new w.drew e base (grownCap w (d0.length+d.length) cap e) (bcells d0 ++ bcells d) (Builtin.zeroCells (Value.int .u8 0).cells (grownCap w (d0.length+d.length) cap e - (d0.length+d.length))) (by rw[size_zeroCells,hz1,List.length_append,bcells_length,bcells_length];omega) hb
       rw[eb,List.length_append]
       rw[List.length_append,bcells_length,bcells_length] at this
       exact this
theorem step_append_run {P:Program} {ops:Array Oper} {o:Oper} {a:Act} {w w':World} {K:Act→World→Prop} {Q:Exit→Act→World→Prop} {E:Prop}
 (hg:o.guard=none) (s x:Operand) (t u:TypeId) (hop:o.op=Op.call { callee:=Callee.builtin Builtin.append,args:=#[s,x],argTypes:=#[t,u] })
 (v y z:Value) (hs:a.eval s=v) (hx:a.eval x=y) (hrun:∀ ty,(Builtin.append_ #[t,u] ty #[v,y]).run P w=.ok z w')
 (hK:K (a.put o.dst z) w') :
 if Region.wanted o (yielded ops a.tmps)=true then Oper.wp P o a w K Q else E:=by
 have hw:Region.wanted o (yielded ops a.tmps)=true:=by simp[Region.wanted,hg]
 rw[if_pos hw]
 unfold Oper.wp
 simp[execOp,hop,resolve,invoke,builtin,hs,hx,hrun,Result.andThen]
 exact hK
end Go.Proofs.Ytlllkdioojjaeaa
