/-
 Texts that are laid as one: MapF, AppB, FmOps, IDone.
-/
import Derived.Test.YtlllkdioojjaeaaMathFms
import Derived.Test.YtlllkdioojjaeaaMathAll
import Derived.Maps.Own
import Derived.Sort.KeysCollected
import Derived.Maps.OwnSet
import Derived.Deep.Upon
import Derived.Deep.AppendLies
import Derived.Test.YtlllkdioojjaeaaMath2
import Derived.Maps.OwnOps
import Derived.Test.YtlllkdioojjaeaaSDos
import Derived.Deep.RegionHeld3
namespace Go.Proofs.Ytlllkdioojjaeaa
open Go.RowKit
set_option linter.unusedVariables false
open Go.RowKit Go.Maps
def fvR (v:Value):Option (DataW Value × List MemPlace):=match v with
 | .slice _ _ _=>some (.held v,[])
 | _=>none
theorem fvR_sl (a:Option Addr) (m c:Nat):fvR (.slice a m c)=some (.held (.slice a m c),[]):=rfl
theorem fvR_inv {v x:Value} {qs:List MemPlace} (h:fvR v=some (.held x,qs)):v=x:=by
 unfold fvR at h
 split at h
 · cases h;rfl
 · cases h
def RowB (w:World) (base:Nat) (v:Value) (d:List UInt8):Prop :=
 (v=.slice none 0 0∧d=[])∨∃ g cap,v=.slice (some ⟨g,0,none⟩) d.length cap∧RowX w base g d.length cap (bcells d)
theorem RowB.kept {w w':World} {base:Nat} {v:Value} {d:List UInt8} {row:Option Nat} (h:RowB w base v d) (hg:w.grownBy w' row) (hr:∀ g,v.ownBlock=some g→some g≠row):RowB w' base v d:=by
 rcases h with h | ⟨g,cap,rfl,h⟩
 · exact .inl h
 · exact .inr ⟨g,cap,rfl,h.kept hg (hr g rfl)⟩
theorem RowB.lt {w:World} {base:Nat} {v:Value} {d:List UInt8} (h:RowB w base v d):∀ g,v.ownBlock=some g→base≤g∧g<w.heap.size:=by
 intro g hg
 rcases h with ⟨rfl,_⟩ | ⟨g',cap,rfl,h⟩
 · simp[Value.ownBlock] at hg
 · simp[Value.ownBlock] at hg
   subst hg
   exact⟨h.low,h.lt⟩
theorem RowB.slice {w:World} {base:Nat} {v:Value} {d:List UInt8} (h:RowB w base v d):∃ a c,v=.slice a d.length c:=by
 rcases h with ⟨rfl,rfl⟩ | ⟨g',cap,rfl,h⟩
 · exact⟨none,0,rfl⟩
 · exact⟨_,_,rfl⟩
theorem RowB.cellsBlock {w:World} {base:Nat} {v:Value} {d:List UInt8} (h:RowB w base v d) (P:Program) {kt:TypeId} {R:Value→Option (DataW Value × List MemPlace)} {b n:Nat} {D:DataW Value} (ho:w.ownsMap P kt R b n D):d≠[]→v.ownBlock≠some b:=by
 rcases h with ⟨rfl,_⟩ | ⟨g',cap,rfl,h⟩
 · intro _ h;simp[Value.ownBlock] at h
 · intro hd he
   simp[Value.ownBlock] at he
   subst he
   obtain⟨es,cl,hb,_⟩:=ho
   have hp:0<d.length:=List.length_pos_iff.2 hd
   have:=h.cells 0 hp
   rw[World.cell?,hb] at this
   simp[bcells,hp] at this
structure FD (D:DataW Value) (L:List PairL) (S:List UInt8→Value):Prop where
 tidy:Tidy D
 size:Maps.size D=L.length
 has:∀ k:List UInt8,Maps.has D (.string k)=true↔∃ v,(k,v)∈L
 at_:∀ p∈L,∀ z,D.atKey (.string p.1) z=.held (S p.1)
theorem fd_nil (S:List UInt8→Value):FD (.map []) [] S:=⟨tidy_empty,rfl,fun k=>by simp[has_eq],fun p hp=>by simp at hp⟩
theorem keyLitF (k:List UInt8):WideAt.IsKeyLit (.string k):=trivial
theorem strF_ne {k k':List UInt8} (h:k'≠k):(Lit.string k':Lit)≠.string k:=fun e=>h (by cases e;rfl)
theorem FD.hasIn {D:DataW Value} {L:List PairL} {S} (h:FD D L S) (k:List UInt8):Maps.has D (.string k)=inK k L:=by
 rw[Bool.eq_iff_iff,h.has,inK_iff]
theorem FD.put {D:DataW Value} {L M:List PairL} {S} (h:FD D L S) (k v:List UInt8) (s:Value) (hm:∀ x,x∈M↔(x∈L∧x.1≠k)∨x=(k,v)) (hl:M.length+(if inK k L=true then 1 else 0)=L.length+1):FD (D.put (.string k) (.held s)) M (fun q=>if q=k then s else S q) where
 tidy:=h.tidy.put (keyLitF k) _
 size:=by
  rw[size_put h.tidy,h.hasIn,h.size]
  split at hl <;> simp_all <;> omega
 has:=fun q=>by
  by_cases e:q=k
  · subst e
    rw[has_put_same h.tidy.isMap (keyLitF q)]
    exact⟨fun _=>⟨v,(hm _).2 (.inr rfl)⟩,fun _=>rfl⟩
  · rw[has_put_other (strF_ne e),h.has]
    constructor
    · rintro⟨u,hu⟩;exact⟨u,(hm _).2 (.inl ⟨hu,e⟩)⟩
    · rintro⟨u,hu⟩
      rcases (hm _).1 hu with h1 | h1
      · exact⟨u,h1.1⟩
      · exact absurd (congrArg Prod.fst h1) e
 at_:=fun p hp z=>by
  rcases (hm p).1 hp with ⟨h1,h2⟩ | h1
  · rw[atKey_put_other (strF_ne h2),h.at_ p h1,if_neg h2]
  · subst h1
    rw[if_pos rfl]
    exact atKey_put_same h.tidy.isMap (keyLitF k) _ _
theorem FD.del {D:DataW Value} {L M:List PairL} {S} (h:FD D L S) (k:List UInt8) (hm:∀ x,x∈M↔x∈L∧x.1≠k) (hl:M.length+(if inK k L=true then 1 else 0)=L.length):FD (D.del (.string k)) M S where
 tidy:=h.tidy.del _
 size:=by have:=size_del (k:=.string k) h.tidy;rw[h.size,h.hasIn] at this;omega
 has:=fun q=>by
  by_cases e:q=k
  · subst e
    rw[has_del_same]
    exact⟨fun hh=>(by cases hh),fun ⟨u,hu⟩=>absurd rfl ((hm _).1 hu).2⟩
  · rw[has_del_other (strF_ne e),h.has]
    exact⟨fun ⟨u,hu⟩=>⟨u,(hm _).2 ⟨hu,e⟩⟩,fun ⟨u,hu⟩=>⟨u,((hm _).1 hu).1⟩⟩
 at_:=fun p hp z=>by
  obtain⟨h1,h2⟩:=(hm p).1 hp
  rw[atKey_del_other (strF_ne h2),h.at_ p h1]
theorem FD.keys {D:DataW Value} {L:List PairL} {S} (h:FD D L S) (hr:Rise L) {P:Program} {kt:TypeId} (hkt:P.underlying kt=some .string) {w:World} {b n:Nat} (ho:w.ownsMap P kt fvR b n D) {ss:List (List UInt8)} (hs:ss.Perm (strKeys D)):ss.mergeSort leB=L.map (fun p=>p.1):=by
 obtain⟨es,rfl,hk⟩:=ho.keysOf
 have hnd:(L.map (fun p=>p.1)).Pairwise (fun a b=>a<b):=List.pairwise_map.2 hr
 have hp:(L.map (fun p=>p.1)).Perm (strKeys (.map es)):=by
  obtain⟨es',he,hpw⟩:=h.tidy
  cases he
  refine perm_strKeys hpw (fun p hp=>?_) (hnd.imp (fun hab e=>by rw[e] at hab;exact List.lt_irrefl _ hab)) fun x=>?_
  · obtain⟨v,hv⟩:=hk p hp
    obtain⟨x,_,hx,_⟩:=Maps.keyOf_str hkt hv
    exact⟨x,hx⟩
  · rw[h.has,List.mem_map]
    exact⟨fun ⟨p,hp,e⟩=>⟨p.2,by rw[←e];exact hp⟩,fun ⟨v,hv⟩=>⟨_,hv,rfl⟩⟩
 rw[mergeSort_of_perm (hs.trans hp.symm)]
 have tr:∀ a b c:List UInt8,leB a b=true→leB b c=true→leB a c=true:=fun a b c h1 h2=>by simp only[leB,decide_eq_true_eq] at *;exact List.le_trans h1 h2
 have to:∀ a b:List UInt8,(leB a b || leB b a)=true:=fun a b=>by simp only[leB,Bool.or_eq_true,decide_eq_true_eq];exact List.le_total a b
 refine List.Perm.eq_of_pairwise (le:=fun a b=>leB a b=true) (fun a b _ _ h1 h2=>?_) (List.pairwise_mergeSort tr to _) (hnd.imp (fun hab=>by simp only[leB,decide_eq_true_eq];exact List.le_of_lt hab)) (List.mergeSort_perm _ leB)
 simp only[leB,decide_eq_true_eq] at h1 h2
 exact List.le_antisymm h1 h2
structure FMap (w:World) (base mb n:Nat) (L:List PairL) (D:DataW Value) (S:List UInt8→Value):Prop where
 own:w.ownsMap Try.prog 9 fvR mb n D
 low:base≤mb
 rise:Rise L
 fd:FD D L S
 rows:∀ p∈L,RowB w base (S p.1) p.2
 apart:∀ p∈L,∀ q∈L,p.1≠q.1→∀ g,(S p.1).ownBlock=some g→(S q.1).ownBlock≠some g
 off:∀ p∈L,(S p.1).ownBlock≠some mb
theorem FMap.kept {w w':World} {base mb n:Nat} {L:List PairL} {D:DataW Value} {S} (h:FMap w base mb n L D S) (hg:w.grownBy w' none):FMap w' base mb n L D S :=
 ⟨h.own.kept hg (by simp),h.low,h.rise,h.fd,fun p hp=>(h.rows p hp).kept hg (fun _ _=>by simp),h.apart,h.off⟩
theorem FMap.below {w w':World} {base mb n:Nat} {L:List PairL} {D:DataW Value} {S} (h:FMap w base mb n L D S) (hb:Below w.heap.size w w'):FMap w' base mb n L D S :=
 h.kept ⟨hb.os,hb.tape,hb.output,hb.size,fun k hk _=>hb.block k hk⟩
theorem FMap.alloc {w:World} {base mb n:Nat} {L:List PairL} {D:DataW Value} {S} (h:FMap w base mb n L D S) (o:Obj):FMap (w.alloc o) base mb n L D S:=h.kept (World.grownBy_alloc w o none)
theorem FMap.mono {w:World} {base mb n m:Nat} {L:List PairL} {D:DataW Value} {S} (h:FMap w base mb n L D S) (hn:n≤m):FMap w base mb m L D S:=⟨h.own.mono hn,h.low,h.rise,h.fd,h.rows,h.apart,h.off⟩
theorem FMap.lower {w:World} {base base' mb n:Nat} {L:List PairL} {D:DataW Value} {S} (h:FMap w base mb n L D S) (hb:base'≤base):FMap w base' mb n L D S :=
 ⟨h.own, Nat.le_trans hb h.low, h.rise, h.fd, fun p hp => by
  rcases h.rows p hp with h1 | ⟨g,c,h1,h2⟩
  · exact .inl h1
  · exact .inr ⟨g,c,h1,⟨h2.len,Nat.le_trans hb h2.low,h2.lt,h2.fit,h2.cells,h2.spare⟩⟩,h.apart,h.off⟩
theorem fmap_made (w:World) (base:Nat) (hb:base≤w.heap.size):FMap (w.alloc (.map #[] 0)) base w.heap.size 0 [] (.map []) (fun _=>.slice none 0 0) :=
 ⟨World.ownsMap_made w _ _ _,hb,List.Pairwise.nil,fd_nil _,by simp,by simp,by simp⟩
theorem FMap.put {w w1 w2:World} {base mb n:Nat} {L M:List PairL} {D:DataW Value} {S} (h:FMap w base mb n L D S) (k v:List UInt8) (s:Value) (hM:Rise M) (hm:∀ x,x∈M↔(x∈L∧x.1≠k)∨x=(k,v)) (hl:M.length+(if inK k L=true then 1 else 0)=L.length+1)
 (row:Option Nat) (h1:w.grownBy w1 row) (hrow:∀ p∈L,p.1≠k→∀ g,(S p.1).ownBlock=some g→some g≠row) (hs:RowB w1 base s v) (hap:∀ p∈L,p.1≠k→∀ g,(S p.1).ownBlock=some g→s.ownBlock≠some g) (hmb:s.ownBlock≠some mb)
 (n':Nat) (h2:w1.grownBy w2 (some mb)) (ho:w2.ownsMap Try.prog 9 fvR mb n' (D.put (.string k) (.held s))):FMap w2 base mb n' M (D.put (.string k) (.held s)) (fun q=>if q=k then s else S q) where
 own:=ho
 low:=h.low
 rise:=hM
 fd:=h.fd.put k v s hm hl
 rows:=fun p hp=>by
  rcases (hm p).1 hp with ⟨a1,a2⟩ | a1
  · rw[if_neg a2]
    refine ((h.rows p a1).kept h1 (hrow p a1 a2)).kept h2 (fun g hg e=>?_)
    cases e
    exact h.off p a1 hg
  · subst a1
    rw[if_pos rfl]
    exact hs.kept h2 (fun g hg e=>by cases e;exact hmb hg)
 apart:=fun p hp q hq hpq g hg=>by
  rcases (hm p).1 hp with ⟨a1,a2⟩ | a1 <;> rcases (hm q).1 hq with ⟨b1,b2⟩ | b1
  · rw[if_neg a2] at hg
    rw[if_neg b2]
    exact h.apart p a1 q b1 hpq g hg
  · rw[if_neg a2] at hg
    subst b1
    rw[if_pos rfl]
    exact hap p a1 a2 g hg
  · subst a1
    rw[if_pos rfl] at hg
    rw[if_neg b2]
    intro e
    exact hap q b1 b2 g e hg
  · subst a1 b1
    exact absurd rfl hpq
 off:=fun p hp=>by
  rcases (hm p).1 hp with ⟨a1,a2⟩ | a1
  · rw[if_neg a2];exact h.off p a1
  · subst a1
    rw[if_pos rfl];exact hmb
theorem FMap.del {w w2:World} {base mb n:Nat} {L M:List PairL} {D:DataW Value} {S} (h:FMap w base mb n L D S) (k:List UInt8) (hM:Rise M) (hm:∀ x,x∈M↔x∈L∧x.1≠k) (hl:M.length+(if inK k L=true then 1 else 0)=L.length)
 (n':Nat) (h2:w.grownBy w2 (some mb)) (ho:w2.ownsMap Try.prog 9 fvR mb n' (D.del (.string k))):FMap w2 base mb n' M (D.del (.string k)) S where
 own:=ho
 low:=h.low
 rise:=hM
 fd:=h.fd.del k hm hl
 rows:=fun p hp=>(h.rows p ((hm p).1 hp).1).kept h2 (fun g hg e=>by cases e;exact h.off p ((hm p).1 hp).1 hg)
 apart:=fun p hp q hq hpq g hg=>h.apart p ((hm p).1 hp).1 q ((hm q).1 hq).1 hpq g hg
 off:=fun p hp=>h.off p ((hm p).1 hp).1
theorem byteCells_b (l:List UInt8):byteCells ⟨l.toArray⟩=bcells l:=by simp[byteCells,bcells]
theorem rowX_new (W:World) (e:TypeId) (base cap:Nat) (xs:List Value) (zs:Array Value) (hz:xs.length+zs.size=cap) (hb:base≤W.heap.size):RowX (W.alloc (.cells (xs.toArray ++ zs) e)) base W.heap.size xs.length cap xs:=by
 have hblk:=heap_alloc_new W (.cells (xs.toArray ++ zs) e)
 refine⟨rfl,hb,by simp,by omega,fun j hj=>?_,fun j h1 h2=>⟨?_,frozen_of_row _ _ j _ e hblk⟩⟩
 · rw[cell_of_row _ _ j _ _ _ hblk,Array.getElem?_append_left (by simpa using hj)]
   simp
 · rw[cell_of_row _ _ j _ _ _ hblk,Array.getElem?_eq_getElem (by simp;omega)]
   rfl
theorem run_append_b {P : Program} (w : World) (base : Nat) (t u e : TypeId) (i : TypeInfo) (ht : P.underlying t = some (.slice e)) (hu : P.underlying u = some .string) (hi : P.info? e = some i) (hz : i.zero = some (.int .u8 0)) (hs1 : i.size = 1) (hby : i.bytes = 1)
 (v:Value) (d0 d:List UInt8) (hR:RowB w base v d0) (hl:d0.length+d.length≤1099511627776) (hb:base≤w.heap.size) :
 ∃ v' w',(∀ ty,(Builtin.append_ #[t,u] ty #[v,.string ⟨d.toArray⟩]).run P w=.ok v' w')∧RowB w' base v' (d0 ++ d)∧w.grownBy w' v.ownBlock∧(∀ g,v'.ownBlock=some g→v.ownBlock=some g∨g=w.heap.size):=by
 have hsz:(ByteArray.mk d.toArray).size=d.length:=by simp[ByteArray.size]
 have hsrc:Src P i.size u (.string ⟨d.toArray⟩) d.length (bcells d) w:=by
  have:=Src.ofString (P:=P) w hu ⟨d.toArray⟩
  rw[byteCells_b,hsz] at this
  rw[hs1];exact this
 have hz1:(Value.int IntKind.u8 0).cells.size=1:=rfl
 by_cases hd:d=[]
 · subst hd
   rcases hR with ⟨rfl,rfl⟩ | ⟨g,cap,rfl,h⟩
   · exact⟨_,w,fun ty=>run_append_nothing w t u ty e i ht hi none 0 0 (Nat.le_refl _) _ hsrc,.inl ⟨rfl,rfl⟩,World.grownBy.refl _ _,fun g hg=>.inl hg⟩
   · refine⟨_,w,fun ty=>run_append_nothing w t u ty e i ht hi _ _ _ h.fit _ hsrc,.inr ⟨g,cap,by simp,by simpa using h⟩,World.grownBy.refl _ _,fun g hg=>.inl hg⟩
 · have hdp : 0 < d.length := List.length_pos_iff.2 hd
   rcases hR with ⟨rfl,rfl⟩ | ⟨g,cap,rfl,h⟩
   · have hge:=grownCap_ge w (0+d.length) 0 e
     refine⟨_,_,fun ty=>run_append_grow_src w t u ty e i _ ht hi hz none 0 0 [] (run_firstCells_none w.drew i.size 0 0 0) _ d.length (bcells d) hsrc (by omega) (by omega) (growslice_fits (by omega) (by rw[hby];omega)),.inr ⟨w.heap.size,grownCap w (0+d.length) 0 e,?_,?_⟩,⟨rfl,rfl,rfl,by simp,fun k hk _=>heap_alloc_old w.drew _ hk⟩,fun g hg=>.inr (by simpa [Value.ownBlock] using hg.symm)⟩
     · rw[List.nil_append,Nat.zero_add]
     · have:=rowX_new w.drew e base (grownCap w (0+d.length) 0 e) ([] ++ bcells d) (Builtin.zeroCells (Value.int .u8 0).cells (grownCap w (0+d.length) 0 e - (0+d.length))) (by rw[size_zeroCells,hz1,List.nil_append,bcells_length];omega) hb
       simpa [bcells_length] using this
   · by_cases hr:d0.length+d.length≤cap
     · have hin:∀ j,j<(bcells d).length→(w.cell? ⟨g,0+d0.length*i.size+j,none⟩).isSome=true∧w.frozen? ⟨g,0+d0.length*i.size+j,none⟩=false:=fun j hj=>by
        rw[bcells_length] at hj
        have:=h.spare (d0.length+j) (by omega) (by omega)
        rw[hs1]
        simpa using this
       have hsz:=setCells_size g (bcells d) (0+d0.length*i.size) w
       refine⟨_,_,fun ty=>run_append_room_src w t u ty e i ht hi g 0 d0.length cap _ d.length (bcells d) hsrc hr (fun j hj=>(hin j hj).1) (fun j hj=>(hin j hj).2),.inr ⟨g,cap,by rw[List.length_append],?_⟩,⟨hsz.2.1,hsz.2.2.1,hsz.2.2.2,by rw[hsz.1];exact Nat.le_refl _,fun k' _ hk'=>setCells_other g (bcells d) _ w k' (fun e=>hk' (by rw[e];rfl))⟩,fun g' hg'=>.inl hg'⟩
       have eb:bcells (d0 ++ d)=bcells d0 ++ bcells d:=by simp[bcells]
       rw[List.length_append,eb]
       refine⟨by simp[bcells_length],h.low,by rw[hsz.1];exact h.lt,hr,fun j hj=>?_,fun j hj1 hj2=>?_⟩
       · by_cases hjn:j<d0.length
         · rw[World.cell?_setCells_out g (bcells d) _ w ⟨g,j,none⟩ (fun _ _=>.inl (by rw[hs1];simp;omega)),h.cells j hjn,List.getElem?_append_left (by rw[h.len];exact hjn)]
         · have:=World.cell?_setCells_in g (bcells d) (0+d0.length*i.size) w (fun j hj=>(hin j hj).1) (j - d0.length) (by rw[bcells_length];omega)
           rw[show 0+d0.length*i.size+(j - d0.length)=j by rw[hs1];omega] at this
           rw[this,List.getElem?_append_right (by rw[h.len];omega),h.len,List.getElem?_eq_getElem (by rw[bcells_length];omega)]
       · rw[World.frozen?_setCells,World.cell?_setCells_out g (bcells d) _ w ⟨g,j,none⟩ (fun _ _=>.inr (by rw[hs1,bcells_length];simp;omega))]
         exact h.spare j (by omega) hj2
     · have hge:=grownCap_ge w (d0.length+d.length) cap e
       have hold:(Builtin.firstCells i.size d0.length (.slice (some ⟨g,0,none⟩) d0.length cap)).run P w.drew=.ok (bcells d0).toArray w.drew:=run_firstCells_some w.drew i.size d0.length ⟨g,0,none⟩ d0.length cap (bcells d0) (by rw[hs1,bcells_length];omega) (fun j u hj=>by
        have hj':j<d0.length:=by have:=(List.getElem?_eq_some_iff.1 hj).1;rwa [bcells_length] at this
        have ea:(⟨g,0,none⟩:Addr).add j=⟨g,j,none⟩:=by unfold Addr.add;split <;> simp_all
        rw[ea]
        exact (h.cells j hj').trans hj)
       refine⟨_,_,fun ty=>run_append_grow_src w t u ty e i _ ht hi hz _ d0.length cap (bcells d0) hold _ d.length (bcells d) hsrc (by omega) (by omega) (growslice_fits (by omega) (by rw[hby];omega)),.inr ⟨w.heap.size,grownCap w (d0.length+d.length) cap e,by rw[List.length_append],?_⟩,⟨rfl,rfl,rfl,by simp,fun k hk _=>heap_alloc_old w.drew _ hk⟩,fun g hg=>.inr (by simpa [Value.ownBlock] using hg.symm)⟩
       have eb:bcells (d0 ++ d)=bcells d0 ++ bcells d:=by simp[bcells]
       have:=rowX_new w.drew e base (grownCap w (d0.length+d.length) cap e) (bcells d0 ++ bcells d) (Builtin.zeroCells (Value.int .u8 0).cells (grownCap w (d0.length+d.length) cap e - (d0.length+d.length))) (by rw[size_zeroCells,hz1,List.length_append,bcells_length,bcells_length];omega) hb
       rw[eb,List.length_append]
       rw[List.length_append,bcells_length,bcells_length] at this
       exact this
theorem step_append_run {P:Program} {ops:Array Oper} {o:Oper} {a:Act} {w w':World} {K:Act→World→Prop} {Q:Exit→Act→World→Prop} {E:Prop}
 (hg:o.guard=none) (s x:Operand) (t u:TypeId) (hop:o.op=Op.call { callee:=Callee.builtin Builtin.append,args:=#[s,x],argTypes:=#[t,u] })
 (v y z:Value) (hs:a.eval s=v) (hx:a.eval x=y) (hrun:∀ ty,(Builtin.append_ #[t,u] ty #[v,y]).run P w=.ok z w')
 (hK:K (a.put o.dst z) w') :
 if Region.wanted o (yielded ops a.tmps)=true then Oper.wp P o a w K Q else E:=by
 have hw:Region.wanted o (yielded ops a.tmps)=true:=by simp[Region.wanted,hg]
 rw[if_pos hw]
 unfold Oper.wp
 simp[execOp,hop,resolve,invoke,builtin,hs,hx,hrun,Result.andThen]
 exact hK
open Go.RowKit Go.Maps
theorem lawF:Keyed Try.prog 9:=string_keyed Try.underlying9
theorem zeroF (w:World):(zeroValue 57).run Try.prog w=.ok (.slice none 0 0) w:=by kernel_rfl
theorem infoBy:(Try.prog.info? 5).map (fun i=>(i.zero,i.size,i.bytes))=some (some (.int .u8 0),1,1):=by kernel_rfl
theorem keyF (k:List UInt8) (hk:k.length≤16777216):keyOf Try.prog 9 (.string ⟨k.toArray⟩)=some (.string k):=by
 have:=WideMaps.keyOf_string_mk (P:=Try.prog) Try.underlying9 (s:=⟨k.toArray⟩) (by simp[ByteArray.size,maxLen];omega)
 simpa using this
def rowOf (L:List PairL) (S:List UInt8→Value) (k:List UInt8):Value:=if inK k L=true then S k else .slice none 0 0
theorem FMap.row {w:World} {base mb n:Nat} {L:List PairL} {D:DataW Value} {S} (h:FMap w base mb n L D S) (k:List UInt8):RowB w base (rowOf L S k) (datF L k):=by
 unfold rowOf
 by_cases hi:inK k L=true
 · rw[if_pos hi]
   obtain⟨u,hu⟩:=(inK_iff k L).1 hi
   rw[(at_in h.rise hu).2]
   exact h.rows _ hu
 · rw[if_neg hi,(at_out (fun v hv=>hi ((inK_iff k L).2 ⟨v,hv⟩))).2]
   exact .inl ⟨rfl,rfl⟩
theorem FMap.atRow {w:World} {base mb n:Nat} {L:List PairL} {D:DataW Value} {S} (h:FMap w base mb n L D S) (k:List UInt8):D.atKey (.string k) (.held (.slice none 0 0))=.held (rowOf L S k):=by
 unfold rowOf
 by_cases hi:inK k L=true
 · rw[if_pos hi]
   obtain⟨u,hu⟩:=(inK_iff k L).1 hi
   exact h.fd.at_ _ hu _
 · rw[if_neg hi]
   exact atKey_of_not_has (by rw[h.fd.hasIn];simpa using hi) _
theorem FMap.apartK {w:World} {base mb n:Nat} {L:List PairL} {D:DataW Value} {S} (h:FMap w base mb n L D S) (k:List UInt8):∀ p∈L,p.1≠k→∀ g,(S p.1).ownBlock=some g→(rowOf L S k).ownBlock≠some g:=by
 intro p hp hk g hg
 unfold rowOf
 by_cases hi:inK k L=true
 · rw[if_pos hi]
   obtain⟨u,hu⟩:=(inK_iff k L).1 hi
   exact h.apart p hp _ hu hk g hg
 · rw[if_neg hi];simp[Value.ownBlock]
theorem FMap.offK {w:World} {base mb n:Nat} {L:List PairL} {D:DataW Value} {S} (h:FMap w base mb n L D S) (k:List UInt8):(rowOf L S k).ownBlock≠some mb:=by
 unfold rowOf
 by_cases hi:inK k L=true
 · rw[if_pos hi]
   obtain⟨u,hu⟩:=(inK_iff k L).1 hi
   exact h.off _ hu
 · rw[if_neg hi];simp[Value.ownBlock]
theorem FMap.look {w:World} {base mb n:Nat} {L:List PairL} {D:DataW Value} {S} (h:FMap w base mb n L D S) (k:List UInt8) (hk:k.length≤16777216):(Instr.lookup 75 (.map (some mb)) (.string ⟨k.toArray⟩) false).run Try.prog w=.ok (rowOf L S k) w:=by
 obtain⟨v,ps,hr,hR⟩:=h.own.lookup (t:=75) (e:=57) lawF Try.underlying75 (zeroF w) (zd:=.held (.slice none 0 0)) (zp:=[]) rfl (keyF k hk)
 rw[h.atRow k] at hR
 rw[←fvR_inv hR];exact hr
theorem FMap.lookOk {w:World} {base mb n:Nat} {L:List PairL} {D:DataW Value} {S} (h:FMap w base mb n L D S) (k:List UInt8) (hk:k.length≤16777216):(Instr.lookup 75 (.map (some mb)) (.string ⟨k.toArray⟩) true).run Try.prog w=.ok (.tuple #[rowOf L S k,.bool (inK k L)]) w:=by
 obtain⟨v,ps,hr,hR⟩:=h.own.look_ok (t:=75) (e:=57) lawF Try.underlying75 (zeroF w) (zd:=.held (.slice none 0 0)) (zp:=[]) rfl (keyF k hk)
 rw[h.atRow k] at hR
 rw[←fvR_inv hR,←h.fd.hasIn k];exact hr
theorem inK_at {L:List PairL} {k:List UInt8} (hr:Rise L):inK k L=decide (0≤atF L k):=by
 by_cases hi:inK k L=true
 · obtain⟨u,hu⟩:=(inK_iff k L).1 hi
   rw[hi,decide_eq_true (at_in hr hu).1]
 · have:=(at_out (fun v hv=>hi ((inK_iff k L).2 ⟨v,hv⟩))).1
   rw[this]
   simpa using hi
theorem FMap.app {W:World} {base mb n:Nat} {L:List PairL} {D:DataW Value} {S} (h:FMap W base mb n L D S) (k d:List UInt8) (hk:k.length≤16777216) (hd:(datF L k).length+d.length≤1099511627776) (hn:n<1048576) (hb:base≤W.heap.size) :
 ∃ v' w4 w5 D' S', (∀ ty, (Builtin.append_ #[57, 9] ty #[rowOf L S k, .string ⟨d.toArray⟩]).run Try.prog W = .ok v' w4) ∧ (Instr.mapUpdate 75 (.map (some mb)) (.string ⟨k.toArray⟩) v').run Try.prog w4 = .ok () w5 ∧
   FMap w5 base mb (n+1) (putL L k (datF L k ++ d)) D' S'∧Below base W w5∧(∀ c,c<W.heap.size→c≠mb→(∀ p∈L,(S p.1).ownBlock≠some c)→w4.heap[c]? = W.heap[c]?∧w5.heap[c]? = W.heap[c]?):=by
 obtain⟨i0,hi0,hz0,hz1,hz2⟩:=info_parts infoBy
 obtain⟨v',w4,hrun,hR4,hg4,hv4⟩:=run_append_b (P:=Try.prog) W base 57 9 5 i0 Try.underlying57 Try.underlying9 hi0 hz0 hz1 hz2 (rowOf L S k) (datF L k) d (h.row k) hd hb
 have ho4:=h.own.kept hg4 (fun e=>h.offK k e.symm)
 obtain⟨a',c',hsl⟩:=hR4.slice
 have hv:fvR v'=some (.held v',[]):=by rw[hsl];rfl
 obtain⟨w5,hrun5,ho5,hg5⟩:=ho4.update (t:=75) (e:=57) lawF Try.underlying75 (by unfold maxLen;omega) (keyF k hk) hv
 have hlt:=h.own.lt
 refine⟨v',w4,w5,_,_,hrun,hrun5,h.put k _ v' (rise_putF h.rise) (put_memF h.rise) (put_lenF h.rise) _ hg4 (fun p hp hpk g hg e=>h.apartK k p hp hpk g hg e.symm) hR4 (fun p hp hpk g hg e=>?_) (fun e=>?_) (n+1) hg5 ho5,⟨hg5.os.trans hg4.os,hg5.tape.trans hg4.tape,hg5.output.trans hg4.output,Nat.le_trans hg4.size hg5.size,fun c hc=>?_⟩,fun c hc hcm hcr=>?_⟩
 · rcases hv4 g e with e1 | e1
   · exact h.apartK k p hp hpk g hg e1
   · have:=((h.rows p hp).lt g hg).2
     omega
 · rcases hv4 mb e with e1 | e1
   · exact h.offK k e1
   · omega
 · have h1:w4.heap[c]? = W.heap[c]? := hg4.block c (by omega) (fun e=>by have:=((h.row k).lt c e.symm).1;omega)
   have h2:w5.heap[c]? = w4.heap[c]? := hg5.block c (by have:=hg4.size;omega) (fun e=>by have:=h.low;cases e;omega)
   exact h2.trans h1
 · have h1:w4.heap[c]? = W.heap[c]? := hg4.block c hc (fun e=>by
    unfold rowOf at e
    by_cases hi:inK k L=true
    · rw[if_pos hi] at e
      obtain⟨u,hu⟩:=(inK_iff k L).1 hi
      exact hcr _ hu e.symm
    · rw[if_neg hi] at e;simp[Value.ownBlock] at e)
   have h2:w5.heap[c]? = w4.heap[c]? := hg5.block c (by have:=hg4.size;omega) (fun e=>by cases e;exact hcm rfl)
   exact⟨h1,h2.trans h1⟩
theorem FMap.drop {W:World} {base mb n:Nat} {L:List PairL} {D:DataW Value} {S} (h:FMap W base mb n L D S) (k:List UInt8) (hk:k.length≤16777216) :
 ∃ w2,(∀ ty,(Builtin.delete_ #[75,9] ty #[.map (some mb),.string ⟨k.toArray⟩]).run Try.prog W=.ok (.tuple #[]) w2)∧FMap w2 base mb n (cutF L k) (D.del (.string k)) S∧W.grownBy w2 (some mb):=by
 obtain⟨w2,hrun,ho,ht⟩:=h.own.drop lawF Try.underlying75 (keyF k hk) 0
 exact⟨w2,fun ty=>hrun,h.del k (rise_cutF h.rise) (fun x=>cut_memF x) (cut_lenF h.rise) n ht.grown ho,ht.grown⟩
theorem below_mb {W w2:World} {base mb:Nat} (h:W.grownBy w2 (some mb)) (hl:base≤mb) (hb:base≤W.heap.size):Below base W w2 :=
 ⟨h.os,h.tape,h.output,h.size,fun c hc=>h.block c (by omega) (fun e=>by cases e;omega)⟩
theorem FMap.ren {W w2:World} {base mb n:Nat} {L:List PairL} {D:DataW Value} {S} (h:FMap W base mb n L D S) (k t v:List UInt8) (ht:t.length≤16777216) (hn:n<1048576) (hv:(k,v)∈L) (h2:FMap w2 base mb n (cutF L k) (D.del (.string k)) S) (hg2:W.grownBy w2 (some mb)) :
 ∃ w3 D' S',(Instr.mapUpdate 75 (.map (some mb)) (.string ⟨t.toArray⟩) (S k)).run Try.prog w2=.ok () w3∧FMap w3 base mb (n+1) (putL (cutF L k) t v) D' S'∧w2.grownBy w3 (some mb):=by
 have hrow:=h.rows _ hv
 have hr2:RowB w2 base (S k) v:=hrow.kept hg2 (fun g hg e=>by cases e;exact h.off _ hv hg)
 obtain⟨a',c',hsl⟩:=hr2.slice
 have hvv:fvR (S k)=some (.held (S k),[]):=by rw[hsl];rfl
 obtain⟨w3,hrun,ho,hg⟩:=h2.own.update (t:=75) (e:=57) lawF Try.underlying75 (by unfold maxLen;omega) (keyF t ht) hvv
 exact⟨w3,_,_,hrun,h2.put t v (S k) (rise_putF h2.rise) (put_memF h2.rise) (put_lenF h2.rise) none (World.grownBy.refl _ _) (fun _ _ _ _ _=>by simp) hr2 (fun p hp hpk g hg e=>h.apart p ((cut_memF p).1 hp).1 _ hv ((cut_memF p).1 hp).2 g hg e) (h.off _ hv) (n+1) hg ho,hg⟩
open Go.RowKit Go.Maps
theorem box2 {W:World} {c t:Nat} {x y:Value} (h:W.heap[c]? = some (.cells #[x,y] t (0,0))):W.cell? ⟨c,0,none⟩=some x∧W.cell? ⟨c,1,none⟩=some y:=by
 constructor <;> simp only[World.cell?,h] <;> rfl
theorem box1 {W:World} {c t:Nat} {x:Value} (h:W.heap[c]? = some (.cells #[x] t (0,0))):W.cell? ⟨c,0,none⟩=some x:=by
 simp only[World.cell?,h];rfl
theorem FMap.under {w:World} {base mb n:Nat} {L:List PairL} {D:DataW Value} {S} (h:FMap w base mb n L D S):∀ p∈L,(S p.1).ownBlock≠some w.heap.size:=fun p hp e=>by
 have:=((h.rows p hp).lt _ e).2
 omega
set_option maxRecDepth 100000 in
set_option maxHeartbeats 1000000 in
theorem impl_appendOn (k d:List UInt8) (base mb n:Nat) (L:List PairL) (D:DataW Value) (S:List UInt8→Value) (w:World) (hk:k.length≤16777216) (hd:(datF L k).length+d.length≤1099511627776) (hn:n<1048576) (hb:base≤w.heap.size) (hF:FMap w base mb n L D S) :
 Calls Try.prog 135 #[.agg #[.string ⟨k.toArray⟩,.string ⟨d.toArray⟩],.map (some mb)] w fun e w'=>e=.returned (.bool true)∧Below base w w'∧∃ D' S',FMap w' base mb (n+1) (putL L k (datF L k ++ d)) D' S':=by
 have A0:=heap_alloc_new w (.cells #[.string ⟨k.toArray⟩,.string ⟨d.toArray⟩] 111)
 obtain⟨wa,hwa⟩:∃ wa,wa=w.alloc (.cells #[.string ⟨k.toArray⟩,.string ⟨d.toArray⟩] 111):=⟨_,rfl⟩
 have HA0:Hid (wa.heap[w.heap.size]? = some (.cells #[.string ⟨k.toArray⟩,.string ⟨d.toArray⟩] 111 (0,0))):=by rw[hwa];exact A0
 have BA:Below base w wa:=by rw[hwa];exact (Below.refl _ _).alloc hb _
 have hsz:wa.heap.size=w.heap.size+1:=by rw[hwa];simp
 have FA:FMap wa.drew base mb n L D S:=by have:=hF.alloc (.cells #[.string ⟨k.toArray⟩,.string ⟨d.toArray⟩] 111);rw[←hwa] at this;exact this.kept ⟨rfl,rfl,rfl,Nat.le_refl _,fun _ _ _=>rfl⟩
 have hL:=FA.look k hk
 obtain⟨v',w4,w5,D',S',hrun4,hrun5,F5,B5,hc⟩:=FA.app k d hk hd hn (Nat.le_trans hb BA.size)
 obtain⟨h4,h5⟩:=hc w.heap.size (by show w.heap.size<wa.heap.size;omega) (by have:=hF.own.lt;omega) hF.under
 have HP:Hid (∃ D' S',FMap w5 base mb (n+1) (putL L k (datF L k ++ d)) D' S'):=⟨D',S',F5⟩
 have HB5:Hid (Below base w w5):=BA.trans ⟨B5.os,B5.tape,B5.output,B5.size,B5.block⟩
 have Sd:Hid (wa.drew.cell? ⟨w.heap.size,0,none⟩=some (.string ⟨k.toArray⟩)∧wa.drew.cell? ⟨w.heap.size,1,none⟩=some (.string ⟨d.toArray⟩)):=box2 HA0.out
 have S4:Hid (w4.cell? ⟨w.heap.size,0,none⟩=some (.string ⟨k.toArray⟩)∧w4.cell? ⟨w.heap.size,1,none⟩=some (.string ⟨d.toArray⟩)):=box2 (h4.trans HA0.out)
 have S5:Hid (w5.cell? ⟨w.heap.size,0,none⟩=some (.string ⟨k.toArray⟩)∧w5.cell? ⟨w.heap.size,1,none⟩=some (.string ⟨d.toArray⟩)):=box2 (h5.trans HA0.out)
 have HR4:Hid (∀ ty,(Builtin.append_ #[57,9] ty #[rowOf L S k,.string ⟨d.toArray⟩]).run Try.prog wa.drew=.ok v' w4):=hrun4
 obtain⟨r0,hr0⟩:∃ r,r=rowOf L S k:=⟨_,rfl⟩
 rw[←hr0] at hL HR4
 clear F5 B5 hc h4 h5 FA hF BA hsz hd hn hb A0 hrun4 hr0
 go_enter Try.func135,Try.ntmps135
 go_wp2_with fail
 rw[←hwa]
 clear hwa
 go_region_held3 (fun w'=>w'.cell? ⟨w.heap.size,0,none⟩=some (.string ⟨k.toArray⟩)∧w'.cell? ⟨w.heap.size,1,none⟩=some (.string ⟨d.toArray⟩))
  (first | with_reducible exact S5.out | with_reducible exact S4.out | with_reducible exact Sd.out)
  ((refine step_append_run rfl (.tmp 11) (.tmp 13) 57 9 rfl r0 (.string ⟨d.toArray⟩) v' (by simp[Act.eval]) (by simp[Act.eval]) HR4.out ?_))
 all_goals
  go_wp2
  go_ret
  exact⟨rfl,HB5.out,HP.out⟩
set_option maxRecDepth 100000 in
set_option maxHeartbeats 1000000 in
theorem impl_renameOn (k t:List UInt8) (base mb n:Nat) (L:List PairL) (D:DataW Value) (S:List UInt8→Value) (w:World) (hk:k.length≤16777216) (ht:t.length≤16777216) (hn:n<1048576) (hb:base≤w.heap.size) (hF:FMap w base mb n L D S) :
 Calls Try.prog 137 #[.agg #[.string ⟨k.toArray⟩,.string ⟨t.toArray⟩],.map (some mb)] w fun e w'=>e=.returned (.bool (inK k L))∧Below base w w'∧∃ D' S',FMap w' base mb (n+1) (if inK k L=true then putL (cutF L k) t (datF L k) else L) D' S':=by
 have A0:=heap_alloc_new w (.cells #[.string ⟨k.toArray⟩,.string ⟨t.toArray⟩] 113)
 obtain⟨wa,hwa⟩:∃ wa,wa=w.alloc (.cells #[.string ⟨k.toArray⟩,.string ⟨t.toArray⟩] 113):=⟨_,rfl⟩
 have HA0:Hid (wa.heap[w.heap.size]? = some (.cells #[.string ⟨k.toArray⟩,.string ⟨t.toArray⟩] 113 (0,0))):=by rw[hwa];exact A0
 have BA:Below base w wa:=by rw[hwa];exact (Below.refl _ _).alloc hb _
 have hsz:wa.heap.size=w.heap.size+1:=by rw[hwa];simp
 have FA:FMap wa base mb n L D S:=by rw[hwa];exact hF.alloc _
 have hL:=FA.lookOk k hk
 obtain⟨c1,c2⟩:=box2 HA0.out
 have hmb:=hF.own.lt
 cases hi:inK k L with
 | false =>
   rw[hi] at hL
   have HP:Hid (Below base w wa∧∃ D' S',FMap wa base mb (n+1) (if false=true then putL (cutF L k) t (datF L k) else L) D' S'):=⟨BA,D,S,FA.mono (by omega)⟩
   obtain⟨r0,hr0⟩:∃ r,r=rowOf L S k:=⟨_,rfl⟩
   rw[←hr0] at hL
   clear FA hF BA hsz hn hb A0 hi HA0 hr0
   subst hwa
   go_enter Try.func137,Try.ntmps137
   go_wp2
   go_ret
   exact⟨rfl,HP.out.1,HP.out.2⟩
 | true =>
   rw[hi] at hL
   obtain⟨u,hu⟩:=(inK_iff k L).1 hi
   have hdat:datF L k=u:=(at_in hF.rise hu).2
   have hr0:rowOf L S k=S k:=by rw[rowOf,if_pos hi]
   rw[hr0] at hL
   obtain⟨w2,hrun2,F2,hg2⟩:=FA.drop k hk
   obtain⟨w3,D',S',hrun3,F3,hg3⟩:=FA.ren k t u ht hn hu F2 hg2
   have HP:Hid (Below base w w3∧∃ D' S',FMap w3 base mb (n+1) (if true=true then putL (cutF L k) t (datF L k) else L) D' S'):=⟨BA.trans ((below_mb hg2 FA.low (Nat.le_trans hb BA.size)).trans (below_mb hg3 FA.low (Nat.le_trans hb (Nat.le_trans BA.size hg2.size)))),D',S',by rw[if_pos rfl,hdat];exact F3⟩
   have e2:w2.heap[w.heap.size]? = some (.cells #[.string ⟨k.toArray⟩,.string ⟨t.toArray⟩] 113 (0,0)):=(hg2.block w.heap.size (by omega) (fun e=>by cases e;omega)).trans HA0.out
   obtain⟨d1,d2⟩:=box2 e2
   have hrun2':=hrun2 0
   obtain⟨a',c',hsl⟩:=(FA.rows _ hu).slice
   have hsl':S k=.slice a' u.length c':=hsl
   rw[hsl'] at hL hrun3
   obtain⟨ul,hul⟩:∃ ul,ul=u.length:=⟨_,rfl⟩
   rw[←hul] at hL hrun3
   clear FA hF F2 F3 hg2 hg3 BA hsz hn hb A0 hi HA0 hr0 e2 hsl hsl' hdat hu hmb hrun2 hul
   subst hwa
   go_enter Try.func137,Try.ntmps137
   go_wp2
   go_ret
   exact⟨rfl,HP.out.1,HP.out.2⟩
set_option maxRecDepth 100000 in
set_option maxHeartbeats 1000000 in
theorem impl_removeOn (k:List UInt8) (base mb n:Nat) (L:List PairL) (D:DataW Value) (S:List UInt8→Value) (w:World) (hk:k.length≤16777216) (hb:base≤w.heap.size) (hF:FMap w base mb n L D S) :
 Calls Try.prog 139 #[.agg #[.string ⟨k.toArray⟩],.map (some mb)] w fun e w'=>e=.returned (.bool (inK k L))∧Below base w w'∧∃ D' S',FMap w' base mb (n+1) (cutF L k) D' S':=by
 have A0:=heap_alloc_new w (.cells #[.string ⟨k.toArray⟩] 115)
 obtain⟨wa,hwa⟩:∃ wa,wa=w.alloc (.cells #[.string ⟨k.toArray⟩] 115):=⟨_,rfl⟩
 have HA0:Hid (wa.heap[w.heap.size]? = some (.cells #[.string ⟨k.toArray⟩] 115 (0,0))):=by rw[hwa];exact A0
 have BA:Below base w wa:=by rw[hwa];exact (Below.refl _ _).alloc hb _
 have FA:FMap wa base mb n L D S:=by rw[hwa];exact hF.alloc _
 have hL:=FA.lookOk k hk
 have c1:=box1 HA0.out
 obtain⟨w2,hrun2,F2,hg2⟩:=FA.drop k hk
 have HP:Hid (Below base w w2∧∃ D' S',FMap w2 base mb (n+1) (cutF L k) D' S'):=⟨BA.trans (below_mb hg2 FA.low (Nat.le_trans hb BA.size)),_,S,F2.mono (by omega)⟩
 have hrun2':=hrun2 0
 obtain⟨r0,hr0⟩:∃ r,r=rowOf L S k:=⟨_,rfl⟩
 obtain⟨i0,hi0⟩:∃ r,r=inK k L:=⟨_,rfl⟩
 rw[←hr0,←hi0] at hL
 rw[←hi0]
 clear FA hF F2 hg2 BA hb A0 HA0 hrun2 hr0 hi0
 subst hwa
 go_enter Try.func139,Try.ntmps139
 go_wp2
 go_ret
 exact⟨rfl,HP.out.1,HP.out.2⟩
end Go.Proofs.Ytlllkdioojjaeaa
