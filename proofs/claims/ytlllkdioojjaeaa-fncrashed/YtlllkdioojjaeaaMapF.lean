/-
 A map of rows of bytes by names, read as files; each row lies in a block of its own.
-/
import Derived.Test.YtlllkdioojjaeaaMathFm
import Derived.Test.YtlllkdioojjaeaaMathAll
import Derived.Maps.Own
import Derived.Sort.KeysCollected
import Derived.Maps.OwnSet
namespace Go.Proofs.Ytlllkdioojjaeaa
open Go.RowKit Go.Maps
set_option linter.unusedVariables false
def fvR (v:Value):Option (DataW Value × List MemPlace):=match v with
 | .slice _ _ _=>some (.held v,[])
 | _=>none
theorem fvR_sl (a:Option Addr) (m c:Nat):fvR (.slice a m c)=some (.held (.slice a m c),[]):=rfl
theorem fvR_inv {v x:Value} {qs:List MemPlace} (h:fvR v=some (.held x,qs)):v=x:=by
 unfold fvR at h
 split at h
 · cases h;rfl
 · cases h
def RowB (w:World) (base:Nat) (v:Value) (d:List UInt8):Prop :=
 (v=.slice none 0 0∧d=[])∨∃ g cap,v=.slice (some ⟨g,0,none⟩) d.length cap∧RowX w base g d.length cap (bcells d)
theorem RowB.kept {w w':World} {base:Nat} {v:Value} {d:List UInt8} {row:Option Nat} (h:RowB w base v d) (hg:w.grownBy w' row) (hr:∀ g,v.ownBlock=some g→some g≠row):RowB w' base v d:=by
 rcases h with h | ⟨g,cap,rfl,h⟩
 · exact .inl h
 · exact .inr ⟨g,cap,rfl,h.kept hg (hr g rfl)⟩
theorem RowB.lt {w:World} {base:Nat} {v:Value} {d:List UInt8} (h:RowB w base v d):∀ g,v.ownBlock=some g→base≤g∧g<w.heap.size:=by
 intro g hg
 rcases h with ⟨rfl,_⟩ | ⟨g',cap,rfl,h⟩
 · simp[Value.ownBlock] at hg
 · simp[Value.ownBlock] at hg
   subst hg
   exact⟨h.low,h.lt⟩
theorem RowB.slice {w:World} {base:Nat} {v:Value} {d:List UInt8} (h:RowB w base v d):∃ a c,v=.slice a d.length c:=by
 rcases h with ⟨rfl,rfl⟩ | ⟨g',cap,rfl,h⟩
 · exact⟨none,0,rfl⟩
 · exact⟨_,_,rfl⟩
theorem RowB.cellsBlock {w:World} {base:Nat} {v:Value} {d:List UInt8} (h:RowB w base v d) (P:Program) {kt:TypeId} {R:Value→Option (DataW Value × List MemPlace)} {b n:Nat} {D:DataW Value} (ho:w.ownsMap P kt R b n D):d≠[]→v.ownBlock≠some b:=by
 rcases h with ⟨rfl,_⟩ | ⟨g',cap,rfl,h⟩
 · intro _ h;simp[Value.ownBlock] at h
 · intro hd he
   simp[Value.ownBlock] at he
   subst he
   obtain⟨es,cl,hb,_⟩:=ho
   have hp:0<d.length:=List.length_pos_iff.2 hd
   have:=h.cells 0 hp
   rw[World.cell?,hb] at this
   simp[bcells,hp] at this
structure FD (D:DataW Value) (L:List PairL) (S:List UInt8→Value):Prop where
 tidy:Tidy D
 size:Maps.size D=L.length
 has:∀ k:List UInt8,Maps.has D (.string k)=true↔∃ v,(k,v)∈L
 at_:∀ p∈L,∀ z,D.atKey (.string p.1) z=.held (S p.1)
theorem fd_nil (S:List UInt8→Value):FD (.map []) [] S:=⟨tidy_empty,rfl,fun k=>by simp[has_eq],fun p hp=>by simp at hp⟩
theorem keyLitF (k:List UInt8):WideAt.IsKeyLit (.string k):=trivial
theorem strF_ne {k k':List UInt8} (h:k'≠k):(Lit.string k':Lit)≠.string k:=fun e=>h (by cases e;rfl)
theorem FD.hasIn {D:DataW Value} {L:List PairL} {S} (h:FD D L S) (k:List UInt8):Maps.has D (.string k)=inK k L:=by
 rw[Bool.eq_iff_iff,h.has,inK_iff]
theorem FD.put {D:DataW Value} {L M:List PairL} {S} (h:FD D L S) (k v:List UInt8) (s:Value) (hm:∀ x,x∈M↔(x∈L∧x.1≠k)∨x=(k,v)) (hl:M.length+(if inK k L=true then 1 else 0)=L.length+1):FD (D.put (.string k) (.held s)) M (fun q=>if q=k then s else S q) where
 tidy:=h.tidy.put (keyLitF k) _
 size:=by
  rw[size_put h.tidy,h.hasIn,h.size]
  split at hl <;> simp_all <;> omega
 has:=fun q=>by
  by_cases e:q=k
  · subst e
    rw[has_put_same h.tidy.isMap (keyLitF q)]
    exact⟨fun _=>⟨v,(hm _).2 (.inr rfl)⟩,fun _=>rfl⟩
  · rw[has_put_other (strF_ne e),h.has]
    constructor
    · rintro⟨u,hu⟩;exact⟨u,(hm _).2 (.inl ⟨hu,e⟩)⟩
    · rintro⟨u,hu⟩
      rcases (hm _).1 hu with h1 | h1
      · exact⟨u,h1.1⟩
      · exact absurd (congrArg Prod.fst h1) e
 at_:=fun p hp z=>by
  rcases (hm p).1 hp with ⟨h1,h2⟩ | h1
  · rw[atKey_put_other (strF_ne h2),h.at_ p h1,if_neg h2]
  · subst h1
    rw[if_pos rfl]
    exact atKey_put_same h.tidy.isMap (keyLitF k) _ _
theorem FD.del {D:DataW Value} {L M:List PairL} {S} (h:FD D L S) (k:List UInt8) (hm:∀ x,x∈M↔x∈L∧x.1≠k) (hl:M.length+(if inK k L=true then 1 else 0)=L.length):FD (D.del (.string k)) M S where
 tidy:=h.tidy.del _
 size:=by have:=size_del (k:=.string k) h.tidy;rw[h.size,h.hasIn] at this;omega
 has:=fun q=>by
  by_cases e:q=k
  · subst e
    rw[has_del_same]
    exact⟨fun hh=>(by cases hh),fun ⟨u,hu⟩=>absurd rfl ((hm _).1 hu).2⟩
  · rw[has_del_other (strF_ne e),h.has]
    exact⟨fun ⟨u,hu⟩=>⟨u,(hm _).2 ⟨hu,e⟩⟩,fun ⟨u,hu⟩=>⟨u,((hm _).1 hu).1⟩⟩
 at_:=fun p hp z=>by
  obtain⟨h1,h2⟩:=(hm p).1 hp
  rw[atKey_del_other (strF_ne h2),h.at_ p h1]
theorem FD.keys {D:DataW Value} {L:List PairL} {S} (h:FD D L S) (hr:Rise L) {P:Program} {kt:TypeId} (hkt:P.underlying kt=some .string) {w:World} {b n:Nat} (ho:w.ownsMap P kt fvR b n D) {ss:List (List UInt8)} (hs:ss.Perm (strKeys D)):ss.mergeSort leB=L.map (fun p=>p.1):=by
 obtain⟨es,rfl,hk⟩:=ho.keysOf
 have hnd:(L.map (fun p=>p.1)).Pairwise (fun a b=>a<b):=List.pairwise_map.2 hr
 have hp:(L.map (fun p=>p.1)).Perm (strKeys (.map es)):=by
  obtain⟨es',he,hpw⟩:=h.tidy
  cases he
  refine perm_strKeys hpw (fun p hp=>?_) (hnd.imp (fun hab e=>by rw[e] at hab;exact List.lt_irrefl _ hab)) fun x=>?_
  · obtain⟨v,hv⟩:=hk p hp
    obtain⟨x,_,hx,_⟩:=Maps.keyOf_str hkt hv
    exact⟨x,hx⟩
  · rw[h.has,List.mem_map]
    exact⟨fun ⟨p,hp,e⟩=>⟨p.2,by rw[←e];exact hp⟩,fun ⟨v,hv⟩=>⟨_,hv,rfl⟩⟩
 rw[mergeSort_of_perm (hs.trans hp.symm)]
 have tr:∀ a b c:List UInt8,leB a b=true→leB b c=true→leB a c=true:=fun a b c h1 h2=>by simp only[leB,decide_eq_true_eq] at *;exact List.le_trans h1 h2
 have to:∀ a b:List UInt8,(leB a b || leB b a)=true:=fun a b=>by simp only[leB,Bool.or_eq_true,decide_eq_true_eq];exact List.le_total a b
 refine List.Perm.eq_of_pairwise (le:=fun a b=>leB a b=true) (fun a b _ _ h1 h2=>?_) (List.pairwise_mergeSort tr to _) (hnd.imp (fun hab=>by simp only[leB,decide_eq_true_eq];exact List.le_of_lt hab)) (List.mergeSort_perm _ leB)
 simp only[leB,decide_eq_true_eq] at h1 h2
 exact List.le_antisymm h1 h2
structure FMap (w:World) (base mb n:Nat) (L:List PairL) (D:DataW Value) (S:List UInt8→Value):Prop where
 own:w.ownsMap Try.prog 9 fvR mb n D
 low:base≤mb
 rise:Rise L
 fd:FD D L S
 rows:∀ p∈L,RowB w base (S p.1) p.2
 apart:∀ p∈L,∀ q∈L,p.1≠q.1→∀ g,(S p.1).ownBlock=some g→(S q.1).ownBlock≠some g
 off:∀ p∈L,(S p.1).ownBlock≠some mb
theorem FMap.kept {w w':World} {base mb n:Nat} {L:List PairL} {D:DataW Value} {S} (h:FMap w base mb n L D S) (hg:w.grownBy w' none):FMap w' base mb n L D S :=
 ⟨h.own.kept hg (by simp),h.low,h.rise,h.fd,fun p hp=>(h.rows p hp).kept hg (fun _ _=>by simp),h.apart,h.off⟩
theorem FMap.below {w w':World} {base mb n:Nat} {L:List PairL} {D:DataW Value} {S} (h:FMap w base mb n L D S) (hb:Below w.heap.size w w'):FMap w' base mb n L D S :=
 h.kept ⟨hb.os,hb.tape,hb.output,hb.size,fun k hk _=>hb.block k hk⟩
theorem FMap.alloc {w:World} {base mb n:Nat} {L:List PairL} {D:DataW Value} {S} (h:FMap w base mb n L D S) (o:Obj):FMap (w.alloc o) base mb n L D S:=h.kept (World.grownBy_alloc w o none)
theorem FMap.mono {w:World} {base mb n m:Nat} {L:List PairL} {D:DataW Value} {S} (h:FMap w base mb n L D S) (hn:n≤m):FMap w base mb m L D S:=⟨h.own.mono hn,h.low,h.rise,h.fd,h.rows,h.apart,h.off⟩
theorem FMap.lower {w:World} {base base' mb n:Nat} {L:List PairL} {D:DataW Value} {S} (h:FMap w base mb n L D S) (hb:base'≤base):FMap w base' mb n L D S :=
 ⟨h.own, Nat.le_trans hb h.low, h.rise, h.fd, fun p hp => by
  rcases h.rows p hp with h1 | ⟨g,c,h1,h2⟩
  · exact .inl h1
  · exact .inr ⟨g,c,h1,⟨h2.len,Nat.le_trans hb h2.low,h2.lt,h2.fit,h2.cells,h2.spare⟩⟩,h.apart,h.off⟩
theorem fmap_made (w:World) (base:Nat) (hb:base≤w.heap.size):FMap (w.alloc (.map #[] 0)) base w.heap.size 0 [] (.map []) (fun _=>.slice none 0 0) :=
 ⟨World.ownsMap_made w _ _ _,hb,List.Pairwise.nil,fd_nil _,by simp,by simp,by simp⟩
theorem FMap.put {w w1 w2:World} {base mb n:Nat} {L M:List PairL} {D:DataW Value} {S} (h:FMap w base mb n L D S) (k v:List UInt8) (s:Value) (hM:Rise M) (hm:∀ x,x∈M↔(x∈L∧x.1≠k)∨x=(k,v)) (hl:M.length+(if inK k L=true then 1 else 0)=L.length+1)
 (row:Option Nat) (h1:w.grownBy w1 row) (hrow:∀ p∈L,p.1≠k→∀ g,(S p.1).ownBlock=some g→some g≠row) (hs:RowB w1 base s v) (hap:∀ p∈L,p.1≠k→∀ g,(S p.1).ownBlock=some g→s.ownBlock≠some g) (hmb:s.ownBlock≠some mb)
 (n':Nat) (h2:w1.grownBy w2 (some mb)) (ho:w2.ownsMap Try.prog 9 fvR mb n' (D.put (.string k) (.held s))):FMap w2 base mb n' M (D.put (.string k) (.held s)) (fun q=>if q=k then s else S q) where
 own:=ho
 low:=h.low
 rise:=hM
 fd:=h.fd.put k v s hm hl
 rows:=fun p hp=>by
  rcases (hm p).1 hp with ⟨a1,a2⟩ | a1
  · rw[if_neg a2]
    refine ((h.rows p a1).kept h1 (hrow p a1 a2)).kept h2 (fun g hg e=>?_)
    cases e
    exact h.off p a1 hg
  · subst a1
    rw[if_pos rfl]
    exact hs.kept h2 (fun g hg e=>by cases e;exact hmb hg)
 apart:=fun p hp q hq hpq g hg=>by
  rcases (hm p).1 hp with ⟨a1,a2⟩ | a1 <;> rcases (hm q).1 hq with ⟨b1,b2⟩ | b1
  · rw[if_neg a2] at hg
    rw[if_neg b2]
    exact h.apart p a1 q b1 hpq g hg
  · rw[if_neg a2] at hg
    subst b1
    rw[if_pos rfl]
    exact hap p a1 a2 g hg
  · subst a1
    rw[if_pos rfl] at hg
    rw[if_neg b2]
    intro e
    exact hap q b1 b2 g e hg
  · subst a1 b1
    exact absurd rfl hpq
 off:=fun p hp=>by
  rcases (hm p).1 hp with ⟨a1,a2⟩ | a1
  · rw[if_neg a2];exact h.off p a1
  · subst a1
    rw[if_pos rfl];exact hmb
theorem FMap.del {w w2:World} {base mb n:Nat} {L M:List PairL} {D:DataW Value} {S} (h:FMap w base mb n L D S) (k:List UInt8) (hM:Rise M) (hm:∀ x,x∈M↔x∈L∧x.1≠k) (hl:M.length+(if inK k L=true then 1 else 0)=L.length)
 (n':Nat) (h2:w.grownBy w2 (some mb)) (ho:w2.ownsMap Try.prog 9 fvR mb n' (D.del (.string k))):FMap w2 base mb n' M (D.del (.string k)) S where
 own:=ho
 low:=h.low
 rise:=hM
 fd:=h.fd.del k hm hl
 rows:=fun p hp=>(h.rows p ((hm p).1 hp).1).kept h2 (fun g hg e=>by cases e;exact h.off p ((hm p).1 hp).1 hg)
 apart:=fun p hp q hq hpq g hg=>h.apart p ((hm p).1 hp).1 q ((hm q).1 hq).1 hpq g hg
 off:=fun p hp=>h.off p ((hm p).1 hp).1
end Go.Proofs.Ytlllkdioojjaeaa
