/-
 A map of pairs by their keys, read as the pairs.
-/
import Derived.Test.YtdcmncjoppmlhaaMathAp
import Derived.Maps.Own
import Derived.Sort.KeysCollected
import Derived.Maps.OwnSet
namespace Go.Proofs.Ytdcmncjoppmlhaa
open Go.RowKit Go.Maps
set_option linter.unusedVariables false
def pv (p:PairL):Value:=.agg #[.string ⟨p.1.toArray⟩,.string ⟨p.2.toArray⟩]
def pvR (v:Value):Option (DataW Value × List MemPlace):=match v with
 | .agg ⟨[.string _,.string _]⟩=>some (.held v,[])
 | _=>none
theorem pvR_pv (p:PairL):pvR (pv p)=some (.held (pv p),[]):=rfl
theorem pvR_inv {v x:Value} {qs:List MemPlace} (h:pvR v=some (.held x,qs)):v=x:=by
 unfold pvR at h
 split at h
 · cases h;rfl
 · cases h
structure MapIs (D:DataW Value) (L:List PairL):Prop where
 tidy:Tidy D
 size:Maps.size D=L.length
 has:∀ k:List UInt8,Maps.has D (.string k)=true↔∃ v,(k,v)∈L
 at_:∀ p∈L,∀ z,D.atKey (.string p.1) z=.held (pv p)
theorem mapIs_nil:MapIs (.map []) []:=⟨tidy_empty,rfl,fun k=>by simp[has_eq],fun p hp=>by simp at hp⟩
theorem keyLit_s (k:List UInt8):WideAt.IsKeyLit (.string k):=trivial
theorem str_ne {k k':List UInt8} (h:k'≠k):(Lit.string k':Lit)≠.string k:=fun e=>h (by cases e;rfl)
theorem not_has {D:DataW Value} {L:List PairL} (h:MapIs D L) {k:List UInt8} (hk:∀ v,(k,v) ∉ L):Maps.has D (.string k)=false:=by
 cases hh:Maps.has D (.string k) with
 | false=>rfl
 | true=>obtain⟨v,hv⟩:=(h.has k).1 hh;exact absurd hv (hk v)
theorem MapIs.put {D:DataW Value} {L M:List PairL} (h:MapIs D L) (k v:List UInt8) (hm:∀ x,x∈M↔(x∈L∧x.1≠k)∨x=(k,v)) (hl:M.length=if Maps.has D (.string k)=true then L.length else L.length+1):MapIs (D.put (.string k) (.held (pv (k,v)))) M where
 tidy:=h.tidy.put (keyLit_s k) _
 size:=by rw[size_put h.tidy,hl,h.size]
 has:=fun q=>by
  by_cases e:q=k
  · subst e
    rw[has_put_same h.tidy.isMap (keyLit_s q)]
    exact⟨fun _=>⟨v,(hm _).2 (.inr rfl)⟩,fun _=>rfl⟩
  · rw[has_put_other (str_ne e),h.has]
    constructor
    · rintro⟨u,hu⟩;exact⟨u,(hm _).2 (.inl ⟨hu,e⟩)⟩
    · rintro⟨u,hu⟩
      rcases (hm _).1 hu with h1 | h1
      · exact⟨u,h1.1⟩
      · exact absurd (congrArg Prod.fst h1) e
 at_:=fun p hp z=>by
  rcases (hm p).1 hp with ⟨h1,h2⟩ | h1
  · rw[atKey_put_other (str_ne h2),h.at_ p h1]
  · subst h1
    exact atKey_put_same h.tidy.isMap (keyLit_s k) _ _
theorem MapIs.del {D:DataW Value} {L M:List PairL} (h:MapIs D L) (k:List UInt8) (hm:∀ x,x∈M↔x∈L∧x.1≠k) (hl:M.length+(if Maps.has D (.string k)=true then 1 else 0)=L.length):MapIs (D.del (.string k)) M where
 tidy:=h.tidy.del _
 size:=by have:=size_del (k:=.string k) h.tidy;rw[h.size] at this;omega
 has:=fun q=>by
  by_cases e:q=k
  · subst e
    rw[has_del_same]
    exact⟨fun hh=>(by cases hh),fun ⟨u,hu⟩=>absurd rfl ((hm _).1 hu).2⟩
  · rw[has_del_other (str_ne e),h.has]
    exact⟨fun ⟨u,hu⟩=>⟨u,(hm _).2 ⟨hu,e⟩⟩,fun ⟨u,hu⟩=>⟨u,((hm _).1 hu).1⟩⟩
 at_:=fun p hp z=>by
  obtain⟨h1,h2⟩:=(hm p).1 hp
  rw[atKey_del_other (str_ne h2),h.at_ p h1]
theorem MapIs.hasIn {D:DataW Value} {L:List PairL} (h:MapIs D L) (k:List UInt8):Maps.has D (.string k)=inK k L:=by
 rw[Bool.eq_iff_iff,h.has,inK_iff]
theorem MapIs.set {D:DataW Value} {L:List PairL} (h:MapIs D L) (hr:Rise L) (k v:List UInt8) (hv:v≠[]):MapIs (D.put (.string k) (.held (pv (k,v)))) (setL L k v):=by
 refine h.put k v (fun x=>by rw[set_mem];simp[hv]) ?_
 have:=set_lenK L k v hr
 rw[if_neg hv] at this
 rw[h.hasIn]
 split at this <;> simp_all
theorem MapIs.cut {D:DataW Value} {L:List PairL} (h:MapIs D L) (hr:Rise L) (k:List UInt8):MapIs (D.del (.string k)) (setL L k []):=by
 refine h.del k (fun x=>by rw[set_mem];simp) ?_
 have:=set_lenK L k [] hr
 rw[h.hasIn]
 simpa using this
theorem MapIs.snoc {D:DataW Value} {L:List PairL} (h:MapIs D L) (k v:List UInt8) (hk:∀ x∈L,x.1≠k):MapIs (D.put (.string k) (.held (pv (k,v)))) (L ++ [(k,v)]):=by
 refine h.put k v (fun x=>?_) ?_
 · rw[List.mem_append,List.mem_singleton]
   exact⟨fun h'=>h'.imp (fun h1=>⟨h1,hk x h1⟩) id,fun h'=>h'.imp (fun h1=>h1.1) id⟩
 · rw[not_has h (fun u hu=>hk _ hu rfl)];simp
theorem MapIs.keys {D:DataW Value} {L:List PairL} (h:MapIs D L) (hr:Rise L) {P:Program} {kt:TypeId} (hkt:P.underlying kt=some .string) {w:World} {b n:Nat} (ho:w.ownsMap P kt pvR b n D) {ss:List (List UInt8)} (hs:ss.Perm (strKeys D)):ss.mergeSort leB=L.map (fun p=>p.1):=by
 obtain⟨es,rfl,hk⟩:=ho.keysOf
 have hnd:(L.map (fun p=>p.1)).Pairwise (fun a b=>a<b):=List.pairwise_map.2 hr
 have hp:(L.map (fun p=>p.1)).Perm (strKeys (.map es)):=by
  obtain⟨es',he,hpw⟩:=h.tidy
  cases he
  refine perm_strKeys hpw (fun p hp=>?_) (hnd.imp (fun hab e=>by rw[e] at hab;exact List.lt_irrefl _ hab)) fun x=>?_
  · obtain⟨v,hv⟩:=hk p hp
    obtain⟨x,_,hx,_⟩:=Maps.keyOf_str hkt hv
    exact⟨x,hx⟩
  · rw[h.has,List.mem_map]
    exact⟨fun ⟨p,hp,e⟩=>⟨p.2,by rw[←e];exact hp⟩,fun ⟨v,hv⟩=>⟨_,hv,rfl⟩⟩
 rw[mergeSort_of_perm (hs.trans hp.symm)]
 have tr:∀ a b c:List UInt8,leB a b=true→leB b c=true→leB a c=true:=fun a b c h1 h2=>by simp only[leB,decide_eq_true_eq] at *;exact List.le_trans h1 h2
 have to:∀ a b:List UInt8,(leB a b || leB b a)=true:=fun a b=>by simp only[leB,Bool.or_eq_true,decide_eq_true_eq];exact List.le_total a b
 refine List.Perm.eq_of_pairwise (le:=fun a b=>leB a b=true) (fun a b _ _ h1 h2=>?_) (List.pairwise_mergeSort tr to _) (hnd.imp (fun hab=>by simp only[leB,decide_eq_true_eq];exact List.le_of_lt hab)) (List.mergeSort_perm _ leB)
 simp only[leB,decide_eq_true_eq] at h1 h2
 exact List.le_antisymm h1 h2
end Go.Proofs.Ytdcmncjoppmlhaa
