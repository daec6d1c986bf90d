/-
 Rows that a call has made (files, disk ops), wherever: a literal that is appended to inside a region that draws its order.
-/
import Derived.Test.YtlllkdioojjaeaaDiskM
import Derived.Test.YtlllkdioojjaeaaAppB
import Derived.Deep.RegionHeld3
namespace Go.Proofs.Ytlllkdioojjaeaa
open Go.RowKit
set_option linter.unusedVariables false
def NewR (W:World) (base:Nat) (a:Option Addr) (xs:List Value):Prop:=xs=[]∨∃ g,a=some ⟨g,0,none⟩∧base≤g∧g<W.heap.size∧∀ j,j<xs.length→W.cell? ⟨g,j,none⟩=xs[j]?
theorem NewR.kept {W W':World} {base:Nat} {a:Option Addr} {xs:List Value} {row:Option Nat} (h:NewR W base a xs) (hg:W.grownBy W' row) (hr:∀ g,base≤g→g<W.heap.size→a=some ⟨g,0,none⟩→some g≠row):NewR W' base a xs:=by
 rcases h with h | ⟨g,rfl,h1,h2,h3⟩
 · exact .inl h
 · exact .inr ⟨g,rfl,h1,Nat.lt_of_lt_of_le h2 hg.size,fun j hj=>by rw[World.cell?_of_block (w:=W) (a:=⟨g,j,none⟩) (hg.block g h2 (hr g h1 h2 rfl))];exact h3 j hj⟩
theorem NewR.later {W W':World} {base:Nat} {a:Option Addr} {xs:List Value} (h:NewR W base a xs) (hb:Below W.heap.size W W'):NewR W' base a xs :=
 h.kept (row:=none) ⟨hb.os,hb.tape,hb.output,hb.size,fun k hk _=>hb.block k hk⟩ (fun _ _ _ _=>by simp)
theorem NewR.lower {W:World} {base base':Nat} {a:Option Addr} {xs:List Value} (h:NewR W base a xs) (hb:base'≤base):NewR W base' a xs:=by
 rcases h with h | ⟨g,h0,h1,h2,h3⟩
 · exact .inl h
 · exact .inr ⟨g,h0,Nat.le_trans hb h1,h2,h3⟩
theorem NewR.pairs {W:World} {base:Nat} {a:Option Addr} {ps:List PairL} (h:NewR W base a (pcells ps)):IsPairs W a ps:=by
 rcases h with h | ⟨g,h0,h1,h2,h3⟩
 · have:(pcells ps).length=0:=by rw[h];rfl
   rw[pcells_length] at this
   exact .inl (List.length_eq_zero_iff.1 (by omega))
 · refine .inr ⟨g,0,h0,fun j hj=>?_⟩
   have hp:=pcells_at ps j hj
   rw[Nat.zero_add]
   exact⟨(h3 (j*2) (by rw[pcells_length];omega)).trans hp.1,(h3 (j*2+1) (by rw[pcells_length];omega)).trans hp.2⟩
theorem NewR.dops {W:World} {base:Nat} {a:Option Addr} {ps:List DOpL} (h:NewR W base a (dcells ps)):IsDOps W a ps:=by
 rcases h with h | ⟨g,h0,h1,h2,h3⟩
 · have:(dcells ps).length=0:=by rw[h];rfl
   rw[dcells_length] at this
   exact .inl (List.length_eq_zero_iff.1 (by omega))
 · refine .inr ⟨g,0,h0,fun j hj=>?_⟩
   have hp:=dcells_at ps j hj
   rw[Nat.zero_add]
   exact⟨(h3 (j*4) (by rw[dcells_length];omega)).trans hp.1,(h3 (j*4+1) (by rw[dcells_length];omega)).trans hp.2.1,(h3 (j*4+2) (by rw[dcells_length];omega)).trans hp.2.2.1,(h3 (j*4+3) (by rw[dcells_length];omega)).trans hp.2.2.2⟩
theorem newR_own {W:World} {base e size n:Nat} {a:Option Addr} {m c:Nat} {xs:List Value} (h:W.ownsRow base e size (.slice a m c) n xs):NewR W base a xs:=by
 rcases h.2 with ⟨h',h0⟩ | ⟨g,cap',cur,h',hb,hg,_⟩
 · cases h'
   exact .inl (List.length_eq_zero_iff.1 (by rw[h.1,h0];simp))
 · cases h'
   exact .inr ⟨g,rfl,hb,lt_of_block hg,fun j hj=>h.cellAt j (by rw[←h.1];exact hj)⟩
theorem below_lit {B:Nat} {w W:World} (h:Below B w W) (hB:B≤w.heap.size) (o:Obj):Below B w (W.alloc o):=h.alloc (Nat.le_trans hB h.size) o
theorem below_drew1 {B:Nat} {w W:World} (h:Below B w W):Below B w W.drew:=⟨h.os,h.tape,h.output,h.size,h.block⟩
theorem step_append_new {P:Program} {W:World} {ops:Array Oper} {o:Oper} {a:Act} {K:Act→World→Prop} {Q:Exit→Act→World→Prop} {E:Prop} (hgd:o.guard=none) (s x:Operand) (t:TypeId)
 (ho:o.op=.call { callee:=.builtin .append,args:=#[s,x],argTypes:=#[t,t] })
 (e:TypeId) (i:TypeInfo) (z:Value) (size bytes:Nat) (ht:P.underlying t=some (.slice e)) (hi:P.info? e=some i) (hz:i.zero=some z)
 (hsize:i.size=size) (hby:i.bytes=bytes) (hzs:z.cells.size=size) (hsz:0<size)
 (ad:Addr) (hs:a.eval s=.slice (some ad) 0 0)
 (a2:Option Addr) (m c:Nat) (xs:List Value) (hx:a.eval x=.slice a2 m c) (hl:xs.length=m*size) (hcs:m=0∨∃ ad2,a2=some ad2∧∀ j u,xs[j]? = some u→W.cell? (ad2.add j)=some u) (h1:∀ u∈xs,u.oneCell'=true)
 (h63:m≤1048576) (hbytes:bytes≤64)
 (h:∀ a' c' w',NewR w' W.heap.size a' xs→(a'=none∨∃ b off,a'=some ⟨b,off,none⟩)∨a'=some ad→Below W.heap.size W w'→K (a.put o.dst (.slice a' m c')) w') :
 if Region.wanted o (yielded ops a.tmps)=true then Oper.wp P o a W K Q else E:=by
 rcases hcs with h0 | ⟨ad2,rfl,hcs⟩
 · subst h0
   have hxn:xs=[]:=List.length_eq_zero_iff.1 (by rw[hl];simp)
   subst hxn
   have hsrc:Src P i.size t (.slice a2 0 c) 0 [] W:=by
    cases a2 with
    | none=>exact Src.ofNil W ht c
    | some ad2=>exact Src.ofSlice W ht ad2 0 c [] (by simp) (by simp) (by simp)
   exact step_append_run hgd s x t t ho _ _ _ hs hx (fun ty=>run_append_nothing W t t ty e i ht hi (some ad) 0 0 (Nat.le_refl _) _ hsrc) (h (some ad) 0 W (.inl rfl) (.inr rfl) (Below.refl _ _))
 · by_cases h0:m=0
   · subst h0
     have hxn:xs=[]:=List.length_eq_zero_iff.1 (by rw[hl];simp)
     subst hxn
     exact step_append_run hgd s x t t ho _ _ _ hs hx (fun ty=>run_append_nothing W t t ty e i ht hi (some ad) 0 0 (Nat.le_refl _) _ (Src.ofSlice W ht ad2 0 c [] (by simp) (by simp) (by simp))) (h (some ad) 0 W (.inl rfl) (.inr rfl) (Below.refl _ _))
   · have hsrc:Src P i.size t (.slice (some ad2) m c) m xs W:=Src.ofSlice W ht ad2 m c xs (by rw[hsize];exact hl) hcs h1
     have hge:=grownCap_ge W (0+m) 0 e
     have hrun:=fun ty=>run_append_grow_src W t t ty e i z ht hi hz (some ad) 0 0 [] (run_firstCells_some W.drew i.size 0 ad 0 0 [] (by simp) (by simp)) (.slice (some ad2) m c) m xs hsrc (by omega) (by omega) (growslice_fits (by omega) (by rw[hby];have:=Nat.mul_le_mul (Nat.le_of_eq (Nat.zero_add m)) hbytes;omega))
     refine step_append_run hgd s x t t ho _ _ _ hs hx hrun ?_
     rw[Nat.zero_add]
     refine h _ _ _ (.inr ⟨W.heap.size,rfl,Nat.le_refl _,by simp,fun j hj=>?_⟩) (.inl (.inr ⟨_,_,rfl⟩)) ⟨rfl,rfl,rfl,by simp,fun k hk=>heap_alloc_old W.drew _ hk⟩
     have hblk:=heap_alloc_new W.drew (.cells (([] ++ xs).toArray ++ Builtin.zeroCells z.cells (grownCap W m 0 e - m)) e)
     have e1:W.drew.heap.size=W.heap.size:=rfl
     rw[e1] at hblk
     rw[cell_of_row _ _ j _ _ _ hblk,Array.getElem?_append_left (by simpa using hj)]
     simp
theorem src_pairs {W:World} {a:Option Addr} {ps:List PairL} (h:IsPairs W a ps):ps.length=0∨∃ ad2,a=some ad2∧∀ j u,(pcells ps)[j]? = some u→W.cell? (ad2.add j)=some u:=by
 rcases h with rfl | ⟨b,off,rfl,hc⟩
 · exact .inl rfl
 · exact .inr ⟨_,rfl,files_flat (.inr ⟨b,off,rfl,hc⟩)⟩
theorem src_dops {W:World} {a:Option Addr} {ps:List DOpL} (h:IsDOps W a ps):ps.length=0∨∃ ad2,a=some ad2∧∀ j u,(dcells ps)[j]? = some u→W.cell? (ad2.add j)=some u:=by
 rcases h with rfl | ⟨b,off,rfl,hc⟩
 · exact .inl rfl
 · refine .inr ⟨_,rfl,fun j u hu=>?_⟩
   have hj:j<ps.length*4:=by
    have:=(List.getElem?_eq_some_iff.1 hu).1
    rwa [dcells_length] at this
   have hc':=hc (j / 4) (by omega)
   have hp:=dcells_at ps (j / 4) (by omega)
   have hadd:∀ x:Nat,(⟨b,off,none⟩:Addr).add x=⟨b,off+x,none⟩:=fun x=>by
    by_cases e:x=0
    · subst e;simp[Addr.add]
    · simp[Addr.add,e]
   rw[hadd]
   have hm:j % 4=0∨j % 4=1∨j % 4=2∨j % 4=3:=by omega
   rcases hm with h0 | h0 | h0 | h0
   · have e:j=j / 4*4:=by omega
     rw[e] at hu ⊢
     rw[hp.1] at hu
     rw[hc'.1,hu]
   · have e:j=j / 4*4+1:=by omega
     rw[e] at hu ⊢
     rw[hp.2.1] at hu
     rw[show off+(j / 4*4+1)=off+j / 4*4+1 by omega,hc'.2.1,hu]
   · have e:j=j / 4*4+2:=by omega
     rw[e] at hu ⊢
     rw[hp.2.2.1] at hu
     rw[show off+(j / 4*4+2)=off+j / 4*4+2 by omega,hc'.2.2.1,hu]
   · have e:j=j / 4*4+3:=by omega
     rw[e] at hu ⊢
     rw[hp.2.2.2] at hu
     rw[show off+(j / 4*4+3)=off+j / 4*4+3 by omega,hc'.2.2.2,hu]
theorem dcells_one (qs:List DOpL):∀ u∈dcells qs,u.oneCell'=true:=by
 induction qs with
 | nil=>simp[dcells]
 | cons p l ih=>simpa [dcells,Value.oneCell'] using ih
end Go.Proofs.Ytlllkdioojjaeaa
