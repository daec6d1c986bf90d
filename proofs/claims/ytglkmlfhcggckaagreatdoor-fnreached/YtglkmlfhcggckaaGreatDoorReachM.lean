/-
 Texts that are laid as one: MathReach, TodoM.
-/
import Derived.Test.YtglkmlfhcggckaaGreatDoorAddM
import Derived.Test.YtglkmlfhcggckaaGreatDoorIListAll
import Derived.Deep.Upon
import Derived.Lib.AppendZeros
namespace Go.Proofs.YtglkmlfhcggckaaGreatDoor
open Go.RowKit
set_option linter.unusedVariables false
abbrev Bs:=List UInt8
inductive LeadsR (kids:Bs→List Bs) (R:Bs→Prop):Bs→Prop
 | root {x:Bs}:R x→LeadsR kids R x
 | kid {x y:Bs}:LeadsR kids R x→y∈kids x→LeadsR kids R y
abbrev Leads (kids:Bs→List Bs) (root:Bs):Bs→Prop:=LeadsR kids (· = root)
structure SrchR (kids:Bs→List Bs) (there:Bs→Bool) (R:Bs→Prop) (out todo:List Bs):Prop where
 leads:∀ x,x∈out∨x∈todo→LeadsR kids R x
 closed:∀ x∈out,∀ y∈kids x,y∈out∨y∈todo
 here:∀ r,R r→r∈out∨r∈todo
 there:∀ x∈out,there x=true
 nodup:out.Pairwise (· ≠ ·)
abbrev Srch (kids:Bs→List Bs) (there:Bs→Bool) (root:Bs) (out todo:List Bs):Prop:=SrchR kids there (· = root) out todo
theorem srch_start (kids:Bs→List Bs) (there:Bs→Bool) (root:Bs):Srch kids there root [] [root] :=
 ⟨fun x h => by
  rcases h with h | h
  · simp at h
  · rw[List.mem_singleton] at h;rw[h];exact .root rfl,fun x h=>by simp at h,fun r hr=>.inr (by simp[hr]),fun x h=>by simp at h,List.Pairwise.nil⟩
theorem srch_old {kids:Bs→List Bs} {there:Bs→Bool} {R:Bs→Prop} {out todo todo':List Bs} (h:SrchR kids there R out todo) (x:Bs) (hx:x∈out) (h1:∀ y∈todo',y∈todo) (h2:∀ y∈todo,y=x∨y∈todo'):SrchR kids there R out todo':=by
 have hm:∀ y,y∈out∨y∈todo→y∈out∨y∈todo':=fun y hy=>by
  rcases hy with hy | hy
  · exact .inl hy
  · rcases h2 y hy with e | e
    · rw[e];exact .inl hx
    · exact .inr e
 exact⟨fun y hy=>h.leads y (hy.imp id (h1 y)),fun y hy z hz=>hm z (h.closed y hy z hz),fun r hr=>hm r (h.here r hr),h.there,h.nodup⟩
theorem srch_new {kids:Bs→List Bs} {there:Bs→Bool} {R:Bs→Prop} {out todo todo':List Bs} (h:SrchR kids there R out todo) (x:Bs) (hx:x∈todo) (hno:x ∉ out) (ht:there x=true) (h1:∀ y∈todo',y∈todo∨y∈kids x) (h2:∀ y∈todo,y=x∨y∈todo') (h3:∀ y∈kids x,y∈todo'):SrchR kids there R (out ++ [x]) todo':=by
 have hL:=h.leads x (.inr hx)
 have hm:∀ y,y∈out∨y∈todo→y∈out ++ [x]∨y∈todo':=fun y hy=>by
  rcases hy with hy | hy
  · exact .inl (by simp[hy])
  · rcases h2 y hy with e | e
    · exact .inl (by simp[e])
    · exact .inr e
 refine⟨fun y hy=>?_,fun y hy z hz=>?_,fun r hr=>hm r (h.here r hr),fun y hy=>?_,?_⟩
 · rcases hy with hy | hy
   · rw[List.mem_append,List.mem_singleton] at hy
     rcases hy with hy | hy
     · exact h.leads y (.inl hy)
     · rw[hy];exact hL
   · rcases h1 y hy with e | e
     · exact h.leads y (.inr e)
     · exact .kid hL e
 · rw[List.mem_append,List.mem_singleton] at hy
   rcases hy with hy | hy
   · exact hm z (h.closed y hy z hz)
   · rw[hy] at hz;exact .inr (h3 z hz)
 · rw[List.mem_append,List.mem_singleton] at hy
   rcases hy with hy | hy
   · exact h.there y hy
   · rw[hy];exact ht
 · rw[List.pairwise_append]
   refine⟨h.nodup,by simp,fun a ha b hb=>?_⟩
   rw[List.mem_singleton] at hb
   rw[hb]
   intro e
   rw[e] at ha
   exact hno ha
def AllThereR (kids:Bs→List Bs) (there:Bs→Bool) (R:Bs→Prop):Prop:=∀ x,LeadsR kids R x→there x=true
abbrev AllThere (kids:Bs→List Bs) (there:Bs→Bool) (root:Bs):Prop:=AllThereR kids there (· = root)
theorem srch_end {kids:Bs→List Bs} {there:Bs→Bool} {R:Bs→Prop} {out:List Bs} (h:SrchR kids there R out []):(∀ x,x∈out↔LeadsR kids R x)∧AllThereR kids there R:=by
 have hin:∀ x,LeadsR kids R x→x∈out:=fun x hx=>by
  induction hx with
  | root hr =>
    rcases h.here _ hr with h1 | h1
    · exact h1
    · simp at h1
  | kid _ hk ih =>
    rcases h.closed _ ih _ hk with h1 | h1
    · exact h1
    · simp at h1
 exact⟨fun x=>⟨fun hx=>h.leads x (.inl hx),hin x⟩,fun x hx=>h.there x (hin x hx)⟩
theorem srch_lost {kids:Bs→List Bs} {there:Bs→Bool} {R:Bs→Prop} {out todo:List Bs} (h:SrchR kids there R out todo) (x:Bs) (hx:x∈todo) (ht:there x=false):¬ AllThereR kids there R:=fun ha=>by
 rw[ha x (h.leads x (.inr hx))] at ht
 cases ht
theorem srch_len {kids:Bs→List Bs} {there:Bs→Bool} {R:Bs→Prop} {out todo:List Bs} (h:SrchR kids there R out todo) (U:List Bs) (hU:∀ x,there x=true→x∈U):out.length≤U.length:=nodup_le out U h.nodup (fun x hx=>hU x (h.there x hx))
theorem texts_unique:∀ (a b:List Bs),a.Pairwise (· < ·)→b.Pairwise (· < ·)→(∀ x,x∈a↔x∈b)→a=b
 | [],[],_,_,_=>rfl
 | [],y :: b,_,_,h=>absurd ((h y).2 (by simp)) (by simp)
 | x :: a,[],_,_,h=>absurd ((h x).1 (by simp)) (by simp)
 | x :: a, y :: b, ha, hb, h => by
   rw[List.pairwise_cons] at ha hb
   have hxy:x=y:=by
    rcases List.mem_cons.1 ((h x).1 (by simp)) with h1 | h1
    · exact h1
    · rcases List.mem_cons.1 ((h y).2 (by simp)) with h2 | h2
      · exact h2.symm
      · exact absurd (List.lt_trans (ha.1 y h2) (hb.1 x h1)) (List.lt_irrefl _)
   subst hxy
   congr 1
   refine texts_unique a b ha.2 hb.2 (fun z=>?_)
   constructor
   · intro hz
     rcases List.mem_cons.1 ((h z).1 (List.mem_cons_of_mem _ hz)) with h1 | h1
     · exact absurd (h1 ▸ ha.1 z hz) (List.lt_irrefl _)
     · exact h1
   · intro hz
     rcases List.mem_cons.1 ((h z).2 (List.mem_cons_of_mem _ hz)) with h1 | h1
     · exact absurd (h1 ▸ hb.1 z hz) (List.lt_irrefl _)
     · exact h1
open Classical in
noncomputable def allB (kids:Bs→List Bs) (there:Bs→Bool) (root:Bs):Bool:=decide (AllThere kids there root)
open Classical in
noncomputable def ledL (kids:Bs→List Bs) (root:Bs):List Bs:=if h:∃ L:List Bs,L.Pairwise (· < ·)∧∀ x,x∈L↔Leads kids root x then h.choose else []
theorem leads_is (kids:Bs→List Bs) (root:Bs) (L:List Bs) (h1:L.Pairwise (· < ·)) (h2:∀ x,x∈L↔Leads kids root x):ledL kids root=L:=by
 have h:∃ L:List Bs,L.Pairwise (· < ·)∧∀ x,x∈L↔Leads kids root x:=⟨L,h1,h2⟩
 unfold ledL
 rw[dif_pos h]
 have hs:=h.choose_spec
 exact texts_unique _ _ hs.1 h1 (fun x=>(hs.2 x).trans (h2 x).symm)
open Classical in
theorem all_yes {kids:Bs→List Bs} {there:Bs→Bool} {root:Bs} (h:AllThere kids there root):allB kids there root=true:=by unfold allB;exact decide_eq_true h
open Classical in
theorem all_no {kids:Bs→List Bs} {there:Bs→Bool} {root:Bs} (h:¬ AllThere kids there root):allB kids there root=false:=by unfold allB;exact decide_eq_false h
def txPlace:List Bs→Bs→Nat
 | [],_=>0
 | x :: r,t=>if Op.bytesLess x t=true then txPlace r t+1 else 0
def txIns (out:List Bs) (t:Bs):List Bs:=if out[txPlace out t]? = some t then out else out.take (txPlace out t) ++ [t] ++ out.drop (txPlace out t)
def textsR (l:List Bs):List Bs:=l.foldl txIns []
theorem txIns_cons (x:Bs) (r:List Bs) (t:Bs):txIns (x :: r) t=if x<t then x :: txIns r t else if x=t then x :: r else t :: x :: r:=by
 unfold txIns
 by_cases h:x<t
 · rw[if_pos h,txPlace,if_pos ((less_iff x t).2 h)]
   simp only[List.getElem?_cons_succ,List.take_succ_cons,List.drop_succ_cons]
   split <;> rfl
 · have h':Op.bytesLess x t=false:=by
    cases hb:Op.bytesLess x t with
    | false=>rfl
    | true=>exact absurd ((less_iff x t).1 hb) h
   have h0:txPlace (x :: r) t=0:=by rw[txPlace,h'];rfl
   rw[if_neg h,h0]
   by_cases e:x=t
   · rw[if_pos e];simp[e]
   · rw[if_neg e];simp[e]
theorem txIns_mem:∀ (out:List Bs) (t x:Bs),x∈txIns out t↔x=t∨x∈out
 | [],t,x=>by simp[txIns,txPlace]
 | y :: r, t, x => by
   rw[txIns_cons]
   split
   · rw[List.mem_cons,txIns_mem r t x,List.mem_cons]
     constructor
     · rintro (h | h | h)
       · exact .inr (.inl h)
       · exact .inl h
       · exact .inr (.inr h)
     · rintro (h | h | h)
       · exact .inr (.inl h)
       · exact .inl h
       · exact .inr (.inr h)
   · split
     · rename_i e
       constructor
       · exact .inr
       · rintro (h | h)
         · rw[h,←e];simp
         · exact h
     · simp
theorem txIns_rise : ∀ (out : List Bs) (t : Bs), out.Pairwise (· < ·) → (txIns out t).Pairwise (· < ·)
 | [],t,_=>by simp[txIns,txPlace]
 | y :: r, t, h => by
   rw[txIns_cons]
   have h0:=h
   rw[List.pairwise_cons] at h
   split
   · rename_i hl
     rw[List.pairwise_cons]
     refine⟨fun z hz=>?_,txIns_rise r t h.2⟩
     rcases (txIns_mem r t z).1 hz with e | e
     · rw[e];exact hl
     · exact h.1 z e
   · rename_i hl
     split
     · exact h0
     · rename_i hne
       have hlt:t<y:=by
        rcases tri t y with h1 | h1 | h1
        · exact h1
        · exact absurd h1.symm hne
        · exact absurd h1 hl
       rw[List.pairwise_cons]
       refine⟨fun z hz=>?_,h0⟩
       rcases List.mem_cons.1 hz with e | e
       · rw[e];exact hlt
       · exact List.lt_trans hlt (h.1 z e)
theorem texts_fold:∀ (l out:List Bs),out.Pairwise (· < ·)→(l.foldl txIns out).Pairwise (· < ·)∧∀ x,x∈l.foldl txIns out↔x∈l∨x∈out
 | [],out,h=>⟨h,fun x=>by simp⟩
 | t :: l, out, h => by
   obtain⟨h1,h2⟩:=texts_fold l (txIns out t) (txIns_rise out t h)
   refine⟨h1,fun x=>?_⟩
   rw[List.foldl_cons,h2,txIns_mem,List.mem_cons]
   constructor
   · rintro (h | h | h)
     · exact .inl (.inr h)
     · exact .inl (.inl h)
     · exact .inr h
   · rintro ((h | h) | h)
     · exact .inr (.inl h)
     · exact .inl h
     · exact .inr (.inr h)
theorem textsR_facts (l:List Bs):(textsR l).Pairwise (· < ·)∧∀ x,x∈textsR l↔x∈l:=by
 obtain⟨h1,h2⟩:=texts_fold l [] List.Pairwise.nil
 exact⟨h1,fun x=>(h2 x).trans (by simp)⟩
theorem led_end {kids:Bs→List Bs} {there:Bs→Bool} {root:Bs} {out:List Bs} (h:Srch kids there root out []):ledL kids root=textsR out∧allB kids there root=true:=by
 obtain⟨h1,h2⟩:=srch_end h
 obtain⟨h3,h4⟩:=textsR_facts out
 exact⟨leads_is kids root _ h3 (fun x=>(h4 x).trans (h1 x)),all_yes h2⟩
structure TodoAt (lo:Nat) (w:World) (v:Value) (xs:List Bs) (b:Nat):Prop where
 ex:∃ (ao:Option Addr) (off cap:Nat),v=.slice ao xs.length cap∧Came w 1 ao b off xs.length cap (scells xs)∧cap≤maxLen
 low:lo≤b
 lt:b<w.heap.size
theorem came_later {w w':World} {ao:Option Addr} {b off len cap:Nat} {olds:List Value} (h:Came w 1 ao b off len cap olds) (hb:w'.heap[b]? = w.heap[b]?) (hs:w.heap.size≤w'.heap.size):Came w' 1 ao b off len cap olds :=
 ⟨h.le, h.addr, fun hc => Nat.lt_of_lt_of_le (h.lt hc) hs, h.oldsLen, fun j u hu => (World.cell?_of_block (a := ⟨b, off + j, none⟩) hb).trans (h.olds j u hu), fun j hj => by
  rw[World.cell?_of_block (a:=⟨b,off+len*1+j,none⟩) hb,World.frozen?_of_block (a:=⟨b,off+len*1+j,none⟩) hb]
  exact h.spare j hj⟩
theorem TodoAt.later {lo:Nat} {w w':World} {v:Value} {xs:List Bs} {b:Nat} (h:TodoAt lo w v xs b) (hb:w'.heap[b]? = w.heap[b]?) (hs:w.heap.size≤w'.heap.size):TodoAt lo w' v xs b:=by
 obtain⟨ao,off,cap,hv,hc,hm⟩:=h.ex
 exact⟨⟨ao,off,cap,hv,came_later hc hb hs,hm⟩,h.low,Nat.lt_of_lt_of_le h.lt hs⟩
theorem todo_start (lo:Nat) (w:World) (x:Bs) (h:lo≤w.heap.size):TodoAt lo (w.alloc (.cells #[.string ⟨x.toArray⟩] 9)) (.slice (some ⟨w.heap.size,0,none⟩) 1 1) [x] w.heap.size:=by
 refine⟨⟨some ⟨w.heap.size,0,none⟩,0,1,rfl,⟨Nat.le_refl _,fun _=>rfl,fun _=>by simp,rfl,fun j u hu=>?_,fun j hj=>by simp at hj⟩,by unfold maxLen;omega⟩,h,by simp⟩
 have:=World.news_of_block (cs:=#[.string ⟨x.toArray⟩]) (t:=9) (fr:=(0,0)) (heap_alloc_new w (.cells #[.string ⟨x.toArray⟩] 9)) j u (by simpa [scells] using hu)
 rw[Addr.add_lit] at this
 exact this
theorem TodoAt.head {lo:Nat} {w:World} {v:Value} {x:Bs} {xs:List Bs} {b:Nat} (h:TodoAt lo w v (x :: xs) b):∃ off cap,v=.slice (some ⟨b,off,none⟩) (xs.length+1) cap∧xs.length+1≤cap∧b<w.heap.size∧w.cell? ⟨b,off,none⟩=some (.string ⟨x.toArray⟩)∧TodoAt lo w (.slice (some ⟨b,off+1,none⟩) xs.length (cap - 1)) xs b∧(cap=1→∀ ao,TodoAt lo w (.slice ao xs.length 0) xs b):=by
 obtain⟨ao,off,cap,hv,hc,hm⟩:=h.ex
 have hle:=hc.le
 simp only[List.length_cons] at hle hv
 have hao:=hc.addr (by omega)
 subst hao
 refine⟨off,cap,hv,hle,hc.lt (by omega),?_,⟨⟨some ⟨b,off+1,none⟩,off+1,cap - 1,rfl,⟨by omega,fun _=>rfl,fun _=>hc.lt (by omega),by simp[scells],fun j u hu=>?_,fun j hj=>?_⟩,by omega⟩,h.low,h.lt⟩,fun e ao=>?_⟩
 · have:=hc.olds 0 (.string ⟨x.toArray⟩) (by simp[scells])
   simpa using this
 · have:=hc.olds (j+1) u (by simpa [scells] using hu)
   rw[show off+1+j=off+(j+1) by omega]
   exact this
 · have:=hc.spare j (by simp only[List.length_cons];omega)
   simp only[List.length_cons] at this
   rw[show off+1+xs.length*1+j=off+(xs.length+1)*1+j by omega]
   exact this
 · obtain rfl:xs=[]:=List.length_eq_zero_iff.1 (by omega)
   exact⟨⟨ao,0,0,rfl,⟨Nat.le_refl _,fun h=>by omega,fun h=>by omega,rfl,fun j u hu=>by simp[scells] at hu,fun j hj=>by simp at hj⟩,Nat.zero_le _⟩,h.low,h.lt⟩
theorem scells_oneT (x:Bs):∀ u∈[Value.string ⟨x.toArray⟩],u.oneCell'=true:=by simp[Value.oneCell']
theorem todo_append {lo:Nat} {w:World} {v:Value} {xs:List Bs} {b:Nat} (h:TodoAt lo w v xs b) (hlo:lo≤w.heap.size) (hn:xs.length≤1000000) (x:Bs) (xv:Value) (ty:TypeId) (hs:Src Tryz.prog 1 27 xv 1 [.string ⟨x.toArray⟩] w) :
 ∃ v' w' b',(Builtin.append_ #[27,27] ty #[v,xv]).run Tryz.prog w=.ok v' w'∧TodoAt lo w' v' (xs ++ [x]) b'∧(b'=b∨b'=w.heap.size)∧w'.os=w.os∧w'.tape=w.tape∧w'.output=w.output∧w.heap.size≤w'.heap.size∧∀ k,k<w.heap.size→k≠b→w'.heap[k]? = w.heap[k]? := by
 obtain⟨i,hi,hz0,hz1,hz2⟩:=info_parts info9t
 obtain⟨ao,off,cap,rfl,hc,hm⟩:=h.ex
 have hle:=hc.le
 have hs':Src Tryz.prog i.size 27 xv 1 [.string ⟨x.toArray⟩] w:=by rw[hz1];exact hs
 by_cases hfit:xs.length+1≤cap
 · have hao:=hc.addr (by omega)
   subst hao
   have hbl:=hc.lt (by omega)
   have hsp:∀ j,j < [Value.string ⟨x.toArray⟩].length→(w.cell? ⟨b,off+xs.length*i.size+j,none⟩).isSome=true∧w.frozen? ⟨b,off+xs.length*i.size+j,none⟩=false:=fun j hj=>by rw[hz1];exact hc.spare j (by simp at hj;omega)
   have hrun:=run_append_room_src (P:=Tryz.prog) w 27 27 ty 9 i Tryz.underlying27 hi b off xs.length cap xv 1 [.string ⟨x.toArray⟩] hs' hfit (fun j hj=>(hsp j hj).1) (fun j hj=>(hsp j hj).2)
   have hkb:=World.keptBut_setCells b (may:=fun p=>p.block=b) [Value.string ⟨x.toArray⟩] (off+xs.length*i.size) w (fun _ _=>rfl)
   have hout:∀ j,j≠xs.length→(w.setCells b (off+xs.length*i.size) [Value.string ⟨x.toArray⟩]).cell? ⟨b,off+j,none⟩=w.cell? ⟨b,off+j,none⟩:=fun j hj=>World.cell?_setCells_out b _ _ _ _ (fun _ _=>by
    show off+j<off+xs.length*i.size∨off+xs.length*i.size+1≤off+j
    rw[hz1];omega)
   refine⟨_,_,b,hrun,⟨⟨some ⟨b,off,none⟩,off,cap,by simp,⟨by simp;omega,fun _=>rfl,fun _=>Nat.lt_of_lt_of_le hbl hkb.size,by simp[scells],fun j u hu=>?_,fun j hj=>?_⟩,hm⟩,h.low,Nat.lt_of_lt_of_le hbl hkb.size⟩,.inl rfl,World.os_setCells _ _ _ _,rfl,World.output_setCells _ _ _ _,hkb.size,fun k hk hne=>World.heap_setCells_other w b _ _ hk hne⟩
   · by_cases hj:j=xs.length
     · subst hj
       have h1:=World.cell?_setCells_in b [Value.string ⟨x.toArray⟩] (off+xs.length*i.size) w (fun j hj=>(hsp j hj).1) 0 (by simp)
       rw[hz1] at h1 ⊢
       simp only[Nat.mul_one,Nat.add_zero] at h1 ⊢
       rw[h1]
       rw[scells_snoc,List.getElem?_append_right (by simp[scells])] at hu
       simpa [scells] using hu
     · rw[hout j hj]
       have hl:(scells (xs ++ [x])).length=xs.length+1:=by simp[scells]
       have hjl:=(List.getElem?_eq_some_iff.1 hu).1
       refine hc.olds j u ?_
       rw[scells_snoc,List.getElem?_append_left (by simp only[scells,List.length_map];omega)] at hu
       exact hu
   · have hlx:(xs ++ [x]).length=xs.length+1:=by simp
     rw[hlx] at hj ⊢
     have h1:=hc.spare (j+1) (by omega)
     rw[show off+(xs.length+1)*1+j=off+(xs.length+1+j) by omega]
     rw[show off+xs.length*1+(j+1)=off+(xs.length+1+j) by omega] at h1
     refine⟨by rw[hout _ (by omega)];exact h1.1,?_⟩
     exact (World.frozen?_setCells b _ _ _ _).trans h1.2
 · have hcl:cap<xs.length+1:=by omega
   have hold:(Builtin.firstCells i.size xs.length (.slice ao xs.length cap)).run Tryz.prog w.drew=.ok (scells xs).toArray w.drew:=by
    rw[hz1]
    rcases Nat.eq_zero_or_pos cap with h0 | hcap
    · obtain rfl:xs=[]:=List.length_eq_zero_iff.1 (by omega)
      cases ao with
      | none=>exact run_firstCells_none w.drew 1 0 0 cap
      | some a'=>exact run_firstCells_some w.drew 1 0 a' 0 cap [] (by simp) (by intro _ _ h';simp at h')
    · rw[hc.addr hcap]
      refine run_firstCells_some w.drew 1 xs.length ⟨b,off,none⟩ xs.length cap (scells xs) (by simp[scells]) (fun j u hu=>?_)
      rw[Addr.add_lit]
      exact hc.olds j u hu
   have hby:(xs.length+1)*i.bytes≤140737488355328:=by rw[hz2];omega
   have hrun:=run_append_grow_src (P:=Tryz.prog) w 27 27 ty 9 i (.string ⟨#[]⟩) Tryz.underlying27 hi hz0 ao xs.length cap (scells xs) hold xv 1 [.string ⟨x.toArray⟩] hs' hcl (by omega) (growslice_fits hcl hby)
   have hge:=grownCap_ge w (xs.length+1) cap 9
   have hcm:=grownCap_le_maxLen w (xs.length+1) cap 9 (by unfold maxLen;omega)
   obtain⟨gc,hgc⟩:∃ gc,gc=grownCap w (xs.length+1) cap 9:=⟨_,rfl⟩
   rw[←hgc] at hrun hge hcm
   have hcell:∀ j,(w.drew.alloc (.cells ((scells xs ++ [Value.string ⟨x.toArray⟩]).toArray ++ Builtin.zeroCells (Value.string ⟨#[]⟩).cells (gc - (xs.length+1))) 9)).cell? ⟨w.heap.size,j,none⟩=((scells xs ++ [Value.string ⟨x.toArray⟩]).toArray ++ Builtin.zeroCells (Value.string ⟨#[]⟩).cells (gc - (xs.length+1)))[j]? := fun j=>World.cell?_alloc_new w.drew _ _ j
   have hsz:((scells xs ++ [Value.string ⟨x.toArray⟩]).toArray ++ Builtin.zeroCells (Value.string ⟨#[]⟩).cells (gc - (xs.length+1))).size=gc:=by
    rw[Array.size_append,List.size_toArray,size_zeroCells]
    simp only[List.length_append,scells,List.length_map,List.length_singleton]
    have:(Value.string ⟨#[]⟩).cells.size=1:=rfl
    rw[this]
    omega
   refine⟨_,_,w.heap.size,hrun,⟨⟨some ⟨w.heap.size,0,none⟩,0,gc,by simp,⟨by simp;omega,fun _=>rfl,fun _=>by simp,by simp[scells],fun j u hu=>?_,fun j hj=>?_⟩,hcm⟩,hlo,by simp⟩,.inr rfl,rfl,rfl,rfl,by simp,fun k hk hne=>Below.heap_alloc w.drew _ k hk⟩
   · rw[Nat.zero_add,hcell,←scells_snoc]
     have hjl:=(List.getElem?_eq_some_iff.1 hu).1
     rw[Array.getElem?_append_left (by simp only[List.size_toArray];exact hjl),List.getElem?_toArray]
     exact hu
   · have hlx:(xs ++ [x]).length=xs.length+1:=by simp
     rw[hlx] at hj ⊢
     rw[show 0+(xs.length+1)*1+j=xs.length+1+j by omega]
     refine⟨?_,World.frozen?_alloc_new w.drew _ _ _⟩
     rw[hcell,Array.getElem?_eq_getElem (by rw[hsz];omega)]
     rfl
theorem wpList_append_todo {ops:Array Oper} {rest:List Oper} {o:Oper} {a:Act} {Q:Exit→Act→World→Prop} (hgd:o.guard=none) (s x:Operand) (ho:o.op=.call { callee:=.builtin .append,args:=#[s,x],argTypes:=#[27,27] })
 (v:Value) (hs:a.eval s=v) {lo:Nat} {w:World} {xs:List Bs} {b:Nat} (h:TodoAt lo w v xs b) (hlo:lo≤w.heap.size) (hn:xs.length≤1000000) (kid:Bs) (g c:Nat) (hx:a.eval x=.slice (some ⟨g,0,none⟩) 1 c) (hcell:w.cell? ⟨g,0,none⟩=some (.string ⟨kid.toArray⟩))
 (hK:∀ v' w' b',TodoAt lo w' v' (xs ++ [kid]) b'→(b'=b∨b'=w.heap.size)→w'.os=w.os→w'.tape=w.tape→w'.output=w.output→w.heap.size≤w'.heap.size→(∀ k,k<w.heap.size→k≠b→w'.heap[k]? = w.heap[k]?)→wpList Tryz.prog ops Q rest (a.put o.dst v') w'):wpList Tryz.prog ops Q (o :: rest) a w:=by
 obtain⟨v',w',b',hr,h1,h2,h3,h4,h5,h6,h7⟩:=todo_append h hlo hn kid (.slice (some ⟨g,0,none⟩) 1 c) o.type (Src.ofSlice w Tryz.underlying27 ⟨g,0,none⟩ 1 c [Value.string ⟨kid.toArray⟩] rfl (fun j u hu=>by
  have hj:j=0:=by have:=(List.getElem?_eq_some_iff.1 hu).1;simpa using this
  subst hj
  rw[Addr.add_lit]
  simp only[List.getElem?_cons_zero] at hu
  cases hu
  exact hcell) (scells_oneT kid))
 exact Lib.wpList_append_run w hgd s x _ _ ho v _ hs hx v' w' hr (hK v' w' b' h1 h2 h3 h4 h5 h6 h7)
end Go.Proofs.YtglkmlfhcggckaaGreatDoor
