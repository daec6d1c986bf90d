/-
 Texts that are laid as one: MathPf, MathPg.
-/
import Derived.Test.YtckoglgcjcmmkaaGreatDoorIPrf2
import Derived.Test.YtckoglgcjcmmkaaGreatDoorSChk
import Derived.Test.YtckoglgcjcmmkaaGreatDoorAgr
namespace Go.Proofs.YtckoglgcjcmmkaaGreatDoor
open Go.RowKit
set_option linter.unusedVariables false
theorem find_sum {ps:List PairL} (hst:storeOkL ps=true) {h t:List UInt8} (hf:findL ps h=some t):sumL t=h∧(readNode t).isSome=true:=by
 obtain⟨j,hj,h1,h2,h3⟩:=findL_ok ps hst h t hf
 refine⟨?_,h3⟩
 have:=storeOk_at ps hst j hj
 simp only[stOk,Bool.and_eq_true] at this
 have h4:=this.1.2
 rw[h1,h2] at h4
 simpa using h4
theorem used_pos {n:NodeL} (hok:n.ok=true) {path h p:List UInt8} (hs:stepL n path=.on h p):0<usedL n:=by
 obtain⟨_,_,_,h4⟩:=ok_parts n hok
 unfold usedL
 rcases h4 with ⟨hk,_⟩ | ⟨hk,hp,_⟩ | ⟨hk,_⟩
 · unfold stepL at hs
   rw[if_pos hk] at hs
   split at hs <;> cases hs
 · rw[if_neg (by rw[hk];decide)]
   exact List.length_pos_iff.2 hp
 · rw[if_pos hk];exact Nat.one_pos
theorem stepL_zero {n:NodeL} {path v:List UInt8} (h:stepL n path=.ends 0 v):v=[]:=by
 unfold stepL at h
 split at h
 · split at h <;> cases h
   rfl
 · split at h
   · split at h <;> cases h
     rfl
   · split at h
     · split at h <;> cases h
       rfl
     · split at h <;> cases h
       rfl
theorem way_found {ps:List PairL} (hst:storeOkL ps=true):∀ (f:Nat) (h p:List UInt8),∀ t∈(wayL (findL ps) f h p).1,findL ps (sumL t)=some t
 | 0,h,p,t,ht=>by simp[wayL] at ht
 | f + 1, h, p, t, ht => by
   cases hf:findL ps h with
   | none=>rw[wayL_none _ _ _ _ hf] at ht;simp at ht
   | some x =>
     have hx:findL ps (sumL x)=some x:=by rw[(find_sum hst hf).1];exact hf
     cases hs:stepL (nodeAt x) p with
     | ends c v =>
       rw[wayL_ends _ _ _ _ x c v hf hs] at ht
       rw[List.mem_singleton.1 ht];exact hx
     | on h' p' =>
       rw[wayL_on _ _ _ _ x h' p' hf hs] at ht
       rcases List.mem_cons.1 ht with e | e
       · rw[e];exact hx
       · exact way_found hst f h' p' t e
theorem way_few {ps:List PairL} (hst:storeOkL ps=true):∀ (f:Nat) (h p:List UInt8),(wayL (findL ps) f h p).1.length≤p.length+1
 | 0,h,p=>by simp[wayL]
 | f + 1, h, p => by
   cases hf:findL ps h with
   | none=>rw[wayL_none _ _ _ _ hf];simp
   | some x =>
     have hrd:=(find_sum hst hf).2
     cases hs:stepL (nodeAt x) p with
     | ends c v=>rw[wayL_ends _ _ _ _ x c v hf hs];simp
     | on h' p' =>
       rw[wayL_on _ _ _ _ x h' p' hf hs]
       have h1:=way_few hst f h' p'
       obtain⟨u1,u2,_⟩:=stepL_used _ (nodeAt_ok x hrd) p h' p' hs
       have u3:=used_pos (nodeAt_ok x hrd) hs
       have:p'.length+usedL (nodeAt x)=p.length:=by rw[u1,List.length_drop];omega
       simp only[List.length_cons]
       omega
theorem way_head {ps:List PairL} (hst:storeOkL ps=true) (f:Nat) (h p t:List UInt8) (r:List (List UInt8)) (e:(wayL (findL ps) f h p).1=t :: r):sumL t=h:=by
 cases f with
 | zero=>simp[wayL] at e
 | succ f =>
   cases hf:findL ps h with
   | none=>rw[wayL_none _ _ _ _ hf] at e;simp at e
   | some x =>
     have hx:=(find_sum hst hf).1
     cases hs:stepL (nodeAt x) p with
     | ends c v=>rw[wayL_ends _ _ _ _ x c v hf hs] at e;simp at e;rw[←e.1];exact hx
     | on h' p'=>rw[wayL_on _ _ _ _ x h' p' hf hs] at e;simp at e;rw[←e.1];exact hx
theorem chk_way {ps:List PairL} (hst:storeOkL ps=true):∀ (f:Nat) (h p:List UInt8),(wayL (findL ps) f h p).2.1≠2→chkP (wayL (findL ps) f h p).1 h p=(if (wayL (findL ps) f h p).2.1=1 then (2,(wayL (findL ps) f h p).2.2) else (1,[]))∧((wayL (findL ps) f h p).2.1=0∧(wayL (findL ps) f h p).2.2=[]∨(wayL (findL ps) f h p).2.1=1)
 | 0,h,p,hc=>by simp[wayL] at hc
 | f + 1, h, p, hc => by
   cases hf:findL ps h with
   | none=>rw[wayL_none _ _ _ _ hf] at hc;simp at hc
   | some x =>
     obtain⟨hx,hrd⟩:=find_sum hst hf
     cases hs:stepL (nodeAt x) p with
     | ends c v =>
       rw[wayL_ends _ _ _ _ x c v hf hs]
       refine⟨?_,?_⟩
       · rw[chkP_ends x [] h p hrd hx c v hs,if_pos rfl]
       · rcases stepL_code _ _ _ _ hs with e | e
         · subst e
           exact .inl ⟨rfl,stepL_zero hs⟩
         · exact .inr e
     | on h' p' =>
       rw[wayL_on _ _ _ _ x h' p' hf hs] at hc ⊢
       have ih:=chk_way hst f h' p' hc
       rw[chkP_on x _ h p hrd hx h' p' hs]
       exact ih
theorem proof_facts {ps:List PairL} {root key:List UInt8} {T:List (List UInt8)} (h:proofR ps root key=some T) :
 storeOkL ps=true∧root.length=32∧key.length≤12∧T.length≤30∧(∀ t∈T,findL ps (sumL t)=some t)∧T.length≤2*key.length+1∧(∀ t r,T=t :: r→sumL t=root)∧(T=[]→root=emptyL)∧(getC ps root key=0∧getV ps root key=[]∨getC ps root key=1)∧chkR root key T=(if getC ps root key=1 then (2,getV ps root key) else (1,[]))∧agB ps T=true∧agN ps T=T.length:=by
 have hlen:=proof_len ps root key
 rw[h] at hlen
 unfold proofR at h
 split at h
 · cases h
 · rename_i hcc
   have hok:getOkL ps root key=true:=by
    by_cases hg:getOkL ps root key=true
    · exact hg
    · exact absurd (.inl (by rw[getC,if_neg hg])) hcc
   have hparts:=hok
   simp only[getOkL,Bool.and_eq_true,decide_eq_true_eq] at hparts
   obtain⟨h1,h2,h3⟩:=hparts
   have hT:T=(walkL ps root key).1:=(Option.some.inj h).symm
   have hC:getC ps root key=(walkL ps root key).2.1:=if_pos hok
   have hV:getV ps root key=(walkL ps root key).2.2:=if_pos hok
   have hT30:T.length≤30:=by simpa using hlen
   have hchk:chkOk root key T=true:=by simp[chkOk,h2,h3,hT30]
   have hfound:∀ t∈T,findL ps (sumL t)=some t:=by
    intro t ht
    rw[hT,walkL] at ht
    split at ht
    · simp at ht
    · exact way_found h1 _ _ _ t ht
   have hag:agB ps T=true:=agB_yes ps T h1 hT30 fun t ht=>(agOk_same ps t (hfound t ht)).1
   have hcnt:agN ps T=T.length:=by
    rw[agN_yes ps T hag]
    have:∀ l:List (List UInt8),(∀ t∈l,findL ps (sumL t)=some t)→agCnt ps l=l.length:=by
     intro l
     induction l with
     | nil=>intro _;rfl
     | cons t r ih =>
       intro hl
       have:=ih fun x hx=>hl x (List.mem_cons_of_mem _ hx)
       have h0:=(agOk_same ps t (hl t (by simp))).2
       simp only[agCnt,List.map_cons,List.sum_cons,List.length_cons] at this ⊢
       omega
    exact this T hfound
   refine⟨h1,h2,h3,hT30,hfound,?_,?_,?_,?_,?_,hag,hcnt⟩
   · rw[hT,walkL]
     split
     · simp
     · have:=way_few h1 30 root (nibs key)
       rw[nibs_length] at this
       omega
   · intro t r e
     rw[hT,walkL] at e
     split at e
     · cases e
     · exact way_head h1 _ _ _ t r e
   · intro e
     rw[hT,walkL] at e
     by_cases he:root=emptyL
     · exact he
     · rw[if_neg he] at e
       exfalso
       have hne2:¬ (walkL ps root key).2.1=2:=fun h'=>hcc (.inr (hC.trans h'))
       rw[walkL,if_neg he] at hne2
       have:=(chk_way h1 30 root (nibs key) hne2).1
       rw[e] at this
       simp only[chkP] at this
       split at this <;> simp at this
   · by_cases he:root=emptyL
     · left;rw[hC,hV,walkL,if_pos he];exact⟨rfl,rfl⟩
     · rw[hC,hV,walkL,if_neg he]
       have hne2:¬ (walkL ps root key).2.1=2:=fun h'=>hcc (.inr (hC.trans h'))
       rw[walkL,if_neg he] at hne2
       exact (chk_way h1 30 root (nibs key) hne2).2
   · by_cases he:root=emptyL
     · have hT0:T=[]:=by rw[hT,walkL,if_pos he]
       have hC0:getC ps root key=0:=by rw[hC,walkL,if_pos he]
       rw[hC0,if_neg (by decide),hT0]
       subst he
       rw[hT0] at hchk
       rw[chkR_empty key [] hchk,if_pos rfl]
     · rw[chkR_way root key T hchk he,hC,hV,hT,walkL,if_neg he]
       have hne2:¬ (walkL ps root key).2.1=2:=fun h'=>hcc (.inr (hC.trans h'))
       rw[walkL,if_neg he] at hne2
       exact (chk_way h1 30 root (nibs key) hne2).1
theorem chk_more {ps:List PairL} (hst:storeOkL ps=true) (x:List UInt8) (r:List (List UInt8)):∀ (f:Nat) (h p:List UInt8),(wayL (findL ps) f h p).2.1≠2→chkP ((wayL (findL ps) f h p).1 ++ x :: r) h p=(0,[])
 | 0,h,p,hc=>by simp[wayL] at hc
 | f + 1, h, p, hc => by
   cases hf:findL ps h with
   | none=>rw[wayL_none _ _ _ _ hf] at hc;simp at hc
   | some t =>
     obtain⟨hx,hrd⟩:=find_sum hst hf
     cases hs:stepL (nodeAt t) p with
     | ends c v =>
       rw[wayL_ends _ _ _ _ t c v hf hs]
       show chkP (t :: (x :: r)) h p=_
       rw[chkP_ends t (x :: r) h p hrd hx c v hs,if_neg (by simp)]
     | on h' p' =>
       rw[wayL_on _ _ _ _ t h' p' hf hs] at hc ⊢
       show chkP (t :: ((wayL (findL ps) f h' p').1 ++ x :: r)) h p=_
       rw[chkP_on t _ h p hrd hx h' p' hs]
       exact chk_more hst x r f h' p' hc
theorem way_some {ps:List PairL} (hst:storeOkL ps=true) (f:Nat) (h p:List UInt8) (hc:(wayL (findL ps) f h p).2.1≠2):(wayL (findL ps) f h p).1≠[]:=fun e=>by
 have:=(chk_way hst f h p hc).1
 rw[e] at this
 simp only[chkP] at this
 split at this <;> simp at this
theorem chk_less {ps : List PairL} (hst : storeOkL ps = true) : ∀ (f : Nat) (h p : List UInt8), (wayL (findL ps) f h p).2.1 ≠ 2 → chkP (wayL (findL ps) f h p).1.dropLast h p = (0, [])
 | 0,h,p,hc=>by simp[wayL] at hc
 | f + 1, h, p, hc => by
   cases hf:findL ps h with
   | none=>rw[wayL_none _ _ _ _ hf] at hc;simp at hc
   | some t =>
     obtain⟨hx,hrd⟩:=find_sum hst hf
     cases hs:stepL (nodeAt t) p with
     | ends c v =>
       rw[wayL_ends _ _ _ _ t c v hf hs]
       rfl
     | on h' p' =>
       rw[wayL_on _ _ _ _ t h' p' hf hs] at hc ⊢
       have hne:=way_some hst f h' p' hc
       have e:(t :: (wayL (findL ps) f h' p').1).dropLast=t :: (wayL (findL ps) f h' p').1.dropLast:=by
        cases hq:(wayL (findL ps) f h' p').1 with
        | nil=>exact absurd hq hne
        | cons _ _=>rfl
       show chkP (t :: (wayL (findL ps) f h' p').1).dropLast h p=_
       rw[e,chkP_on t _ h p hrd hx h' p' hs]
       exact chk_less hst f h' p' hc
theorem proof_short {ps:List PairL} {root key:List UInt8} {T:List (List UInt8)} (h:proofR ps root key=some T) (x:List UInt8):chkR root key (T ++ [x])=(0,[])∧(T≠[]→chkR root key T.dropLast=(0,[])):=by
 obtain⟨h1,h2,h3,hT30,_⟩:=proof_facts h
 unfold proofR at h
 split at h
 · cases h
 · rename_i hcc
   have hok:getOkL ps root key=true:=by
    by_cases hg:getOkL ps root key=true
    · exact hg
    · exact absurd (.inl (by rw[getC,if_neg hg])) hcc
   have hT:T=(walkL ps root key).1:=(Option.some.inj h).symm
   have hC:getC ps root key=(walkL ps root key).2.1:=if_pos hok
   refine⟨?_,fun hne=>?_⟩
   · by_cases h31:T.length=30
     · exact chkR_no _ _ _ (by simp[chkOk,h2,h3];omega)
     · have hck:chkOk root key (T ++ [x])=true:=by simp[chkOk,h2,h3];omega
       by_cases he:root=emptyL
       · subst he
         rw[chkR_empty _ _ hck,if_neg (by simp)]
       · rw[chkR_way _ _ _ hck he,hT,walkL,if_neg he]
         have hne2:¬ (walkL ps root key).2.1=2:=fun h'=>hcc (.inr (hC.trans h'))
         rw[walkL,if_neg he] at hne2
         exact chk_more h1 x [] 30 root (nibs key) hne2
   · have hck:chkOk root key T.dropLast=true:=by simp[chkOk,h2,h3];omega
     by_cases he:root=emptyL
     · exact absurd (by rw[hT,walkL,if_pos he]) hne
     · rw[chkR_way _ _ _ hck he,hT,walkL,if_neg he]
       have hne2:¬ (walkL ps root key).2.1=2:=fun h'=>hcc (.inr (hC.trans h'))
       rw[walkL,if_neg he] at hne2
       exact chk_less h1 30 root (nibs key) hne2
theorem chk_get {ps : List PairL} (hst : storeOkL ps = true) : ∀ (T : List (List UInt8)) (f : Nat) (h p : List UInt8), T.length ≤ f → (∀ t ∈ T, agOk ps t = true) → ((wayL (findL ps) f h p).2.1 ≠ 2 ∨ ∀ t ∈ T, findL ps (sumL t) = some t) → ∀ (r : Int) (v : List UInt8), chkP T h p = (r, v) → r ≠ 0 → (r = 2 ∧ (wayL (findL ps) f h p).2 = (1, v)) ∨ (r = 1 ∧ v = [] ∧ (wayL (findL ps) f h p).2 = (0, []))
 | [], f, h, p, _, _, _, r, v, hc, hr => by
   simp only[chkP,Prod.mk.injEq] at hc
   exact absurd hc.1.symm hr
 | t :: ts,0,h,p,hl,_,_,r,v,hc,hr=>by simp at hl
 | t :: ts, f + 1, h, p, hl, hag, hor, r, v, hc, hr => by
   by_cases hrs:(readNode t).isSome=true∧sumL t=h
   · obtain⟨h1,h2⟩:=hrs
     have hf : findL ps h = some t := by
      rcases hor with hor | hor
      · cases hf:findL ps h with
        | none=>rw[wayL_none _ _ _ _ hf] at hor;exact absurd rfl hor
        | some t' =>
          have:=hag t (by simp)
          unfold agOk at this
          rw[h2,hf] at this
          have e:t'=t:=by simpa using this
          rw[e]
      · have:=hor t (by simp)
        rw[h2] at this
        exact this
     cases hs:stepL (nodeAt t) p with
     | ends c x =>
       rw[chkP_ends t ts h p h1 h2 c x hs] at hc
       rw[wayL_ends _ _ _ _ t c x hf hs]
       by_cases hts:ts=[]
       · rw[if_pos hts] at hc
         rcases stepL_code _ _ _ _ hs with e | e
         · subst e
           rw[if_neg (by decide)] at hc
           cases hc
           exact .inr ⟨rfl,rfl,by rw[stepL_zero hs]⟩
         · subst e
           rw[if_pos rfl] at hc
           cases hc
           exact .inl ⟨rfl,rfl⟩
       · rw[if_neg hts] at hc
         cases hc
         exact absurd rfl hr
     | on h' p' =>
       rw[chkP_on t ts h p h1 h2 h' p' hs] at hc
       rw[wayL_on _ _ _ _ t h' p' hf hs] at hor ⊢
       exact chk_get hst ts f h' p' (by simpa using hl) (fun y hy=>hag y (List.mem_cons_of_mem _ hy)) (hor.imp id fun hh y hy=>hh y (List.mem_cons_of_mem _ hy)) r v hc hr
   · rw[chkP_bad t ts h p hrs] at hc
     cases hc
     exact absurd rfl hr
theorem chk_sound {ps:List PairL} {root key:List UInt8} {T:List (List UInt8)} (hag:agB ps T=true) (hor:(getC ps root key≠2∧getC ps root key≠3)∨∀ t∈T,findL ps (sumL t)=some t) {r:Int} {v:List UInt8} (hc:chkR root key T=(r,v)) (hr:r≠0):(r=2∧getC ps root key=1∧getV ps root key=v)∨(r=1∧v=[]∧getC ps root key=0∧getV ps root key=[]):=by
 simp only[agB,Bool.and_eq_true,decide_eq_true_eq,List.all_eq_true] at hag
 obtain⟨h1,h2,h3⟩:=hag
 have hok:chkOk root key T=true:=by
  cases hq:chkOk root key T with
  | true=>rfl
  | false=>rw[chkR_no _ _ _ hq] at hc;cases hc;exact absurd rfl hr
 have hparts:=hok
 simp only[chkOk,Bool.and_eq_true,decide_eq_true_eq] at hparts
 obtain⟨g1,g2,g3⟩:=hparts
 have hgo:getOkL ps root key=true:=by simp[getOkL,h1,g1,g2]
 have hC:getC ps root key=(walkL ps root key).2.1:=if_pos hgo
 have hV:getV ps root key=(walkL ps root key).2.2:=if_pos hgo
 by_cases he:root=emptyL
 · rw[hC,hV,walkL,if_pos he]
   subst he
   rw[chkR_empty _ _ hok] at hc
   split at hc
   · cases hc;exact .inr ⟨rfl,rfl,rfl,rfl⟩
   · cases hc;exact absurd rfl hr
 · rw[chkR_way _ _ _ hok he] at hc
   have hw:walkL ps root key=wayL (findL ps) 30 root (nibs key):=by rw[walkL,if_neg he]
   rw[hC,hV,hw]
   rw[hC,hw] at hor
   rcases chk_get h1 T 30 root (nibs key) h2 h3 (hor.imp (fun h=>h.1) id) r v hc hr with ⟨a,b⟩ | ⟨a,b,c⟩
   · exact .inl ⟨a,by rw[b],by rw[b]⟩
   · exact .inr ⟨a,b,by rw[c],by rw[c]⟩
end Go.Proofs.YtckoglgcjcmmkaaGreatDoor
