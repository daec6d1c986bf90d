/-
 Texts that are laid as one: MathReach, TodoM, STexts, SReach.
-/
import Derived.Test.YtokfcfcdfhoejaaGreatDoorAddM
import Derived.Test.YtokfcfcdfhoejaaGreatDoorIListAll
import Derived.Deep.Upon
import Derived.Lib.AppendZeros
import Derived.Deep.CutRange
import Derived.Test.YtokfcfcdfhoejaaGreatDoorStepAll
namespace Go.Proofs.YtokfcfcdfhoejaaGreatDoor
open Go.RowKit
set_option linter.unusedVariables false
abbrev Bs:=List UInt8
inductive LeadsR (kids:Bs→List Bs) (R:Bs→Prop):Bs→Prop
 | root {x:Bs}:R x→LeadsR kids R x
 | kid {x y:Bs}:LeadsR kids R x→y∈kids x→LeadsR kids R y
abbrev Leads (kids:Bs→List Bs) (root:Bs):Bs→Prop:=LeadsR kids (· = root)
theorem leadsR_or {kids:Bs→List Bs} {R T:Bs→Prop} (x:Bs):LeadsR kids (fun y=>R y∨T y) x↔LeadsR kids R x∨LeadsR kids T x:=by
 constructor
 · intro h
   induction h with
   | root h=>exact h.imp .root .root
   | kid _ hk ih=>exact ih.imp (.kid · hk) (.kid · hk)
 · rintro (h | h)
   · induction h with
     | root h=>exact .root (.inl h)
     | kid _ hk ih=>exact .kid ih hk
   · induction h with
     | root h=>exact .root (.inr h)
     | kid _ hk ih=>exact .kid ih hk
structure SrchR (kids:Bs→List Bs) (there:Bs→Bool) (R:Bs→Prop) (out todo:List Bs):Prop where
 leads:∀ x,x∈out∨x∈todo→LeadsR kids R x
 closed:∀ x∈out,∀ y∈kids x,y∈out∨y∈todo
 here:∀ r,R r→r∈out∨r∈todo
 there:∀ x∈out,there x=true
 nodup:out.Pairwise (· ≠ ·)
abbrev Srch (kids:Bs→List Bs) (there:Bs→Bool) (root:Bs) (out todo:List Bs):Prop:=SrchR kids there (· = root) out todo
theorem srch_start (kids:Bs→List Bs) (there:Bs→Bool) (root:Bs):Srch kids there root [] [root] :=
 ⟨fun x h => by
  rcases h with h | h
  · simp at h
  · rw[List.mem_singleton] at h;rw[h];exact .root rfl,fun x h=>by simp at h,fun r hr=>.inr (by simp[hr]),fun x h=>by simp at h,List.Pairwise.nil⟩
theorem srch_old {kids:Bs→List Bs} {there:Bs→Bool} {R:Bs→Prop} {out todo todo':List Bs} (h:SrchR kids there R out todo) (x:Bs) (hx:x∈out) (h1:∀ y∈todo',y∈todo) (h2:∀ y∈todo,y=x∨y∈todo'):SrchR kids there R out todo':=by
 have hm:∀ y,y∈out∨y∈todo→y∈out∨y∈todo':=fun y hy=>by
  rcases hy with hy | hy
  · exact .inl hy
  · rcases h2 y hy with e | e
    · rw[e];exact .inl hx
    · exact .inr e
 exact⟨fun y hy=>h.leads y (hy.imp id (h1 y)),fun y hy z hz=>hm z (h.closed y hy z hz),fun r hr=>hm r (h.here r hr),h.there,h.nodup⟩
theorem srch_new {kids:Bs→List Bs} {there:Bs→Bool} {R:Bs→Prop} {out todo todo':List Bs} (h:SrchR kids there R out todo) (x:Bs) (hx:x∈todo) (hno:x ∉ out) (ht:there x=true) (h1:∀ y∈todo',y∈todo∨y∈kids x) (h2:∀ y∈todo,y=x∨y∈todo') (h3:∀ y∈kids x,y∈todo'):SrchR kids there R (out ++ [x]) todo':=by
 have hL:=h.leads x (.inr hx)
 have hm:∀ y,y∈out∨y∈todo→y∈out ++ [x]∨y∈todo':=fun y hy=>by
  rcases hy with hy | hy
  · exact .inl (by simp[hy])
  · rcases h2 y hy with e | e
    · exact .inl (by simp[e])
    · exact .inr e
 refine⟨fun y hy=>?_,fun y hy z hz=>?_,fun r hr=>hm r (h.here r hr),fun y hy=>?_,?_⟩
 · rcases hy with hy | hy
   · rw[List.mem_append,List.mem_singleton] at hy
     rcases hy with hy | hy
     · exact h.leads y (.inl hy)
     · rw[hy];exact hL
   · rcases h1 y hy with e | e
     · exact h.leads y (.inr e)
     · exact .kid hL e
 · rw[List.mem_append,List.mem_singleton] at hy
   rcases hy with hy | hy
   · exact hm z (h.closed y hy z hz)
   · rw[hy] at hz;exact .inr (h3 z hz)
 · rw[List.mem_append,List.mem_singleton] at hy
   rcases hy with hy | hy
   · exact h.there y hy
   · rw[hy];exact ht
 · rw[List.pairwise_append]
   refine⟨h.nodup,by simp,fun a ha b hb=>?_⟩
   rw[List.mem_singleton] at hb
   rw[hb]
   intro e
   rw[e] at ha
   exact hno ha
def AllThereR (kids:Bs→List Bs) (there:Bs→Bool) (R:Bs→Prop):Prop:=∀ x,LeadsR kids R x→there x=true
abbrev AllThere (kids:Bs→List Bs) (there:Bs→Bool) (root:Bs):Prop:=AllThereR kids there (· = root)
theorem srch_end {kids:Bs→List Bs} {there:Bs→Bool} {R:Bs→Prop} {out:List Bs} (h:SrchR kids there R out []):(∀ x,x∈out↔LeadsR kids R x)∧AllThereR kids there R:=by
 have hin:∀ x,LeadsR kids R x→x∈out:=fun x hx=>by
  induction hx with
  | root hr =>
    rcases h.here _ hr with h1 | h1
    · exact h1
    · simp at h1
  | kid _ hk ih =>
    rcases h.closed _ ih _ hk with h1 | h1
    · exact h1
    · simp at h1
 exact⟨fun x=>⟨fun hx=>h.leads x (.inl hx),hin x⟩,fun x hx=>h.there x (hin x hx)⟩
theorem srch_lost {kids:Bs→List Bs} {there:Bs→Bool} {R:Bs→Prop} {out todo:List Bs} (h:SrchR kids there R out todo) (x:Bs) (hx:x∈todo) (ht:there x=false):¬ AllThereR kids there R:=fun ha=>by
 rw[ha x (h.leads x (.inr hx))] at ht
 cases ht
theorem srch_len {kids:Bs→List Bs} {there:Bs→Bool} {R:Bs→Prop} {out todo:List Bs} (h:SrchR kids there R out todo) (U:List Bs) (hU:∀ x,there x=true→x∈U):out.length≤U.length:=nodup_le out U h.nodup (fun x hx=>hU x (h.there x hx))
theorem srch_more {kids:Bs→List Bs} {there:Bs→Bool} {R:Bs→Prop} {out:List Bs} (h:SrchR kids there R out []) (root:Bs):SrchR kids there (fun x=>R x∨x=root) out [root]:=by
 refine⟨fun x hx=>?_,fun x hx y hy=>?_,fun r hr=>?_,h.there,h.nodup⟩
 · rw[leadsR_or]
   rcases hx with hx | hx
   · exact .inl (h.leads x (.inl hx))
   · rw[List.mem_singleton] at hx
     exact .inr (.root hx)
 · rcases h.closed x hx y hy with h1 | h1
   · exact .inl h1
   · simp at h1
 · rcases hr with hr | hr
   · rcases h.here r hr with h1 | h1
     · exact .inl h1
     · simp at h1
   · exact .inr (by simp[hr])
theorem texts_unique:∀ (a b:List Bs),a.Pairwise (· < ·)→b.Pairwise (· < ·)→(∀ x,x∈a↔x∈b)→a=b
 | [],[],_,_,_=>rfl
 | [],y :: b,_,_,h=>absurd ((h y).2 (by simp)) (by simp)
 | x :: a,[],_,_,h=>absurd ((h x).1 (by simp)) (by simp)
 | x :: a, y :: b, ha, hb, h => by
   rw[List.pairwise_cons] at ha hb
   have hxy:x=y:=by
    rcases List.mem_cons.1 ((h x).1 (by simp)) with h1 | h1
    · exact h1
    · rcases List.mem_cons.1 ((h y).2 (by simp)) with h2 | h2
      · exact h2.symm
      · exact absurd (List.lt_trans (ha.1 y h2) (hb.1 x h1)) (List.lt_irrefl _)
   subst hxy
   congr 1
   refine texts_unique a b ha.2 hb.2 (fun z=>?_)
   constructor
   · intro hz
     rcases List.mem_cons.1 ((h z).1 (List.mem_cons_of_mem _ hz)) with h1 | h1
     · exact absurd (h1 ▸ ha.1 z hz) (List.lt_irrefl _)
     · exact h1
   · intro hz
     rcases List.mem_cons.1 ((h z).2 (List.mem_cons_of_mem _ hz)) with h1 | h1
     · exact absurd (h1 ▸ hb.1 z hz) (List.lt_irrefl _)
     · exact h1
open Classical in
noncomputable def allB (kids:Bs→List Bs) (there:Bs→Bool) (root:Bs):Bool:=decide (AllThere kids there root)
open Classical in
noncomputable def ledL (kids:Bs→List Bs) (root:Bs):List Bs:=if h:∃ L:List Bs,L.Pairwise (· < ·)∧∀ x,x∈L↔Leads kids root x then h.choose else []
theorem leads_is (kids:Bs→List Bs) (root:Bs) (L:List Bs) (h1:L.Pairwise (· < ·)) (h2:∀ x,x∈L↔Leads kids root x):ledL kids root=L:=by
 have h:∃ L:List Bs,L.Pairwise (· < ·)∧∀ x,x∈L↔Leads kids root x:=⟨L,h1,h2⟩
 unfold ledL
 rw[dif_pos h]
 have hs:=h.choose_spec
 exact texts_unique _ _ hs.1 h1 (fun x=>(hs.2 x).trans (h2 x).symm)
open Classical in
theorem all_yes {kids:Bs→List Bs} {there:Bs→Bool} {root:Bs} (h:AllThere kids there root):allB kids there root=true:=by unfold allB;exact decide_eq_true h
open Classical in
theorem all_no {kids:Bs→List Bs} {there:Bs→Bool} {root:Bs} (h:¬ AllThere kids there root):allB kids there root=false:=by unfold allB;exact decide_eq_false h
def txPlace:List Bs→Bs→Nat
 | [],_=>0
 | x :: r,t=>if Op.bytesLess x t=true then txPlace r t+1 else 0
def txIns (out:List Bs) (t:Bs):List Bs:=if out[txPlace out t]? = some t then out else out.take (txPlace out t) ++ [t] ++ out.drop (txPlace out t)
def textsR (l:List Bs):List Bs:=l.foldl txIns []
theorem txIns_cons (x:Bs) (r:List Bs) (t:Bs):txIns (x :: r) t=if x<t then x :: txIns r t else if x=t then x :: r else t :: x :: r:=by
 unfold txIns
 by_cases h:x<t
 · rw[if_pos h,txPlace,if_pos ((less_iff x t).2 h)]
   simp only[List.getElem?_cons_succ,List.take_succ_cons,List.drop_succ_cons]
   split <;> rfl
 · have h':Op.bytesLess x t=false:=by
    cases hb:Op.bytesLess x t with
    | false=>rfl
    | true=>exact absurd ((less_iff x t).1 hb) h
   have h0:txPlace (x :: r) t=0:=by rw[txPlace,h'];rfl
   rw[if_neg h,h0]
   by_cases e:x=t
   · rw[if_pos e];simp[e]
   · rw[if_neg e];simp[e]
theorem txIns_mem:∀ (out:List Bs) (t x:Bs),x∈txIns out t↔x=t∨x∈out
 | [],t,x=>by simp[txIns,txPlace]
 | y :: r, t, x => by
   rw[txIns_cons]
   split
   · rw[List.mem_cons,txIns_mem r t x,List.mem_cons]
     constructor
     · rintro (h | h | h)
       · exact .inr (.inl h)
       · exact .inl h
       · exact .inr (.inr h)
     · rintro (h | h | h)
       · exact .inr (.inl h)
       · exact .inl h
       · exact .inr (.inr h)
   · split
     · rename_i e
       constructor
       · exact .inr
       · rintro (h | h)
         · rw[h,←e];simp
         · exact h
     · simp
theorem txIns_rise : ∀ (out : List Bs) (t : Bs), out.Pairwise (· < ·) → (txIns out t).Pairwise (· < ·)
 | [],t,_=>by simp[txIns,txPlace]
 | y :: r, t, h => by
   rw[txIns_cons]
   have h0:=h
   rw[List.pairwise_cons] at h
   split
   · rename_i hl
     rw[List.pairwise_cons]
     refine⟨fun z hz=>?_,txIns_rise r t h.2⟩
     rcases (txIns_mem r t z).1 hz with e | e
     · rw[e];exact hl
     · exact h.1 z e
   · rename_i hl
     split
     · exact h0
     · rename_i hne
       have hlt:t<y:=by
        rcases tri t y with h1 | h1 | h1
        · exact h1
        · exact absurd h1.symm hne
        · exact absurd h1 hl
       rw[List.pairwise_cons]
       refine⟨fun z hz=>?_,h0⟩
       rcases List.mem_cons.1 hz with e | e
       · rw[e];exact hlt
       · exact List.lt_trans hlt (h.1 z e)
theorem texts_fold:∀ (l out:List Bs),out.Pairwise (· < ·)→(l.foldl txIns out).Pairwise (· < ·)∧∀ x,x∈l.foldl txIns out↔x∈l∨x∈out
 | [],out,h=>⟨h,fun x=>by simp⟩
 | t :: l, out, h => by
   obtain⟨h1,h2⟩:=texts_fold l (txIns out t) (txIns_rise out t h)
   refine⟨h1,fun x=>?_⟩
   rw[List.foldl_cons,h2,txIns_mem,List.mem_cons]
   constructor
   · rintro (h | h | h)
     · exact .inl (.inr h)
     · exact .inl (.inl h)
     · exact .inr h
   · rintro ((h | h) | h)
     · exact .inr (.inl h)
     · exact .inl h
     · exact .inr (.inr h)
theorem textsR_facts (l:List Bs):(textsR l).Pairwise (· < ·)∧∀ x,x∈textsR l↔x∈l:=by
 obtain⟨h1,h2⟩:=texts_fold l [] List.Pairwise.nil
 exact⟨h1,fun x=>(h2 x).trans (by simp)⟩
theorem led_end {kids:Bs→List Bs} {there:Bs→Bool} {root:Bs} {out:List Bs} (h:Srch kids there root out []):ledL kids root=textsR out∧allB kids there root=true:=by
 obtain⟨h1,h2⟩:=srch_end h
 obtain⟨h3,h4⟩:=textsR_facts out
 exact⟨leads_is kids root _ h3 (fun x=>(h4 x).trans (h1 x)),all_yes h2⟩
structure TodoAt (lo:Nat) (w:World) (v:Value) (xs:List Bs) (b:Nat):Prop where
 ex:∃ (ao:Option Addr) (off cap:Nat),v=.slice ao xs.length cap∧Came w 1 ao b off xs.length cap (scells xs)∧cap≤maxLen
 low:lo≤b
 lt:b<w.heap.size
theorem came_later {w w':World} {ao:Option Addr} {b off len cap:Nat} {olds:List Value} (h:Came w 1 ao b off len cap olds) (hb:w'.heap[b]? = w.heap[b]?) (hs:w.heap.size≤w'.heap.size):Came w' 1 ao b off len cap olds :=
 ⟨h.le, h.addr, fun hc => Nat.lt_of_lt_of_le (h.lt hc) hs, h.oldsLen, fun j u hu => (World.cell?_of_block (a := ⟨b, off + j, none⟩) hb).trans (h.olds j u hu), fun j hj => by
  rw[World.cell?_of_block (a:=⟨b,off+len*1+j,none⟩) hb,World.frozen?_of_block (a:=⟨b,off+len*1+j,none⟩) hb]
  exact h.spare j hj⟩
theorem TodoAt.later {lo:Nat} {w w':World} {v:Value} {xs:List Bs} {b:Nat} (h:TodoAt lo w v xs b) (hb:w'.heap[b]? = w.heap[b]?) (hs:w.heap.size≤w'.heap.size):TodoAt lo w' v xs b:=by
 obtain⟨ao,off,cap,hv,hc,hm⟩:=h.ex
 exact⟨⟨ao,off,cap,hv,came_later hc hb hs,hm⟩,h.low,Nat.lt_of_lt_of_le h.lt hs⟩
theorem todo_start (lo:Nat) (w:World) (x:Bs) (h:lo≤w.heap.size):TodoAt lo (w.alloc (.cells #[.string ⟨x.toArray⟩] 9)) (.slice (some ⟨w.heap.size,0,none⟩) 1 1) [x] w.heap.size:=by
 refine⟨⟨some ⟨w.heap.size,0,none⟩,0,1,rfl,⟨Nat.le_refl _,fun _=>rfl,fun _=>by simp,rfl,fun j u hu=>?_,fun j hj=>by simp at hj⟩,by unfold maxLen;omega⟩,h,by simp⟩
 have:=World.news_of_block (cs:=#[.string ⟨x.toArray⟩]) (t:=9) (fr:=(0,0)) (heap_alloc_new w (.cells #[.string ⟨x.toArray⟩] 9)) j u (by simpa [scells] using hu)
 rw[Addr.add_lit] at this
 exact this
theorem TodoAt.head {lo:Nat} {w:World} {v:Value} {x:Bs} {xs:List Bs} {b:Nat} (h:TodoAt lo w v (x :: xs) b):∃ off cap,v=.slice (some ⟨b,off,none⟩) (xs.length+1) cap∧xs.length+1≤cap∧b<w.heap.size∧w.cell? ⟨b,off,none⟩=some (.string ⟨x.toArray⟩)∧TodoAt lo w (.slice (some ⟨b,off+1,none⟩) xs.length (cap - 1)) xs b∧(cap=1→∀ ao,TodoAt lo w (.slice ao xs.length 0) xs b):=by
 obtain⟨ao,off,cap,hv,hc,hm⟩:=h.ex
 have hle:=hc.le
 simp only[List.length_cons] at hle hv
 have hao:=hc.addr (by omega)
 subst hao
 refine⟨off,cap,hv,hle,hc.lt (by omega),?_,⟨⟨some ⟨b,off+1,none⟩,off+1,cap - 1,rfl,⟨by omega,fun _=>rfl,fun _=>hc.lt (by omega),by simp[scells],fun j u hu=>?_,fun j hj=>?_⟩,by omega⟩,h.low,h.lt⟩,fun e ao=>?_⟩
 · have:=hc.olds 0 (.string ⟨x.toArray⟩) (by simp[scells])
   simpa using this
 · have:=hc.olds (j+1) u (by simpa [scells] using hu)
   rw[show off+1+j=off+(j+1) by omega]
   exact this
 · have:=hc.spare j (by simp only[List.length_cons];omega)
   simp only[List.length_cons] at this
   rw[show off+1+xs.length*1+j=off+(xs.length+1)*1+j by omega]
   exact this
 · obtain rfl:xs=[]:=List.length_eq_zero_iff.1 (by omega)
   exact⟨⟨ao,0,0,rfl,⟨Nat.le_refl _,fun h=>by omega,fun h=>by omega,rfl,fun j u hu=>by simp[scells] at hu,fun j hj=>by simp at hj⟩,Nat.zero_le _⟩,h.low,h.lt⟩
theorem scells_oneT (x:Bs):∀ u∈[Value.string ⟨x.toArray⟩],u.oneCell'=true:=by simp[Value.oneCell']
theorem todo_append {lo:Nat} {w:World} {v:Value} {xs:List Bs} {b:Nat} (h:TodoAt lo w v xs b) (hlo:lo≤w.heap.size) (hn:xs.length≤1000000) (x:Bs) (xv:Value) (ty:TypeId) (hs:Src Tryz.prog 1 25 xv 1 [.string ⟨x.toArray⟩] w) :
 ∃ v' w' b',(Builtin.append_ #[25,25] ty #[v,xv]).run Tryz.prog w=.ok v' w'∧TodoAt lo w' v' (xs ++ [x]) b'∧(b'=b∨b'=w.heap.size)∧w'.os=w.os∧w'.tape=w.tape∧w'.output=w.output∧w.heap.size≤w'.heap.size∧∀ k,k<w.heap.size→k≠b→w'.heap[k]? = w.heap[k]? := by
 obtain⟨i,hi,hz0,hz1,hz2⟩:=info_parts info9t
 obtain⟨ao,off,cap,rfl,hc,hm⟩:=h.ex
 have hle:=hc.le
 have hs':Src Tryz.prog i.size 25 xv 1 [.string ⟨x.toArray⟩] w:=by rw[hz1];exact hs
 by_cases hfit:xs.length+1≤cap
 · have hao:=hc.addr (by omega)
   subst hao
   have hbl:=hc.lt (by omega)
   have hsp:∀ j,j < [Value.string ⟨x.toArray⟩].length→(w.cell? ⟨b,off+xs.length*i.size+j,none⟩).isSome=true∧w.frozen? ⟨b,off+xs.length*i.size+j,none⟩=false:=fun j hj=>by rw[hz1];exact hc.spare j (by simp at hj;omega)
   have hrun:=run_append_room_src (P:=Tryz.prog) w 25 25 ty 9 i Tryz.underlying25 hi b off xs.length cap xv 1 [.string ⟨x.toArray⟩] hs' hfit (fun j hj=>(hsp j hj).1) (fun j hj=>(hsp j hj).2)
   have hkb:=World.keptBut_setCells b (may:=fun p=>p.block=b) [Value.string ⟨x.toArray⟩] (off+xs.length*i.size) w (fun _ _=>rfl)
   have hout:∀ j,j≠xs.length→(w.setCells b (off+xs.length*i.size) [Value.string ⟨x.toArray⟩]).cell? ⟨b,off+j,none⟩=w.cell? ⟨b,off+j,none⟩:=fun j hj=>World.cell?_setCells_out b _ _ _ _ (fun _ _=>by
    show off+j<off+xs.length*i.size∨off+xs.length*i.size+1≤off+j
    rw[hz1];omega)
   refine⟨_,_,b,hrun,⟨⟨some ⟨b,off,none⟩,off,cap,by simp,⟨by simp;omega,fun _=>rfl,fun _=>Nat.lt_of_lt_of_le hbl hkb.size,by simp[scells],fun j u hu=>?_,fun j hj=>?_⟩,hm⟩,h.low,Nat.lt_of_lt_of_le hbl hkb.size⟩,.inl rfl,World.os_setCells _ _ _ _,rfl,World.output_setCells _ _ _ _,hkb.size,fun k hk hne=>World.heap_setCells_other w b _ _ hk hne⟩
   · by_cases hj:j=xs.length
     · subst hj
       have h1:=World.cell?_setCells_in b [Value.string ⟨x.toArray⟩] (off+xs.length*i.size) w (fun j hj=>(hsp j hj).1) 0 (by simp)
       rw[hz1] at h1 ⊢
       simp only[Nat.mul_one,Nat.add_zero] at h1 ⊢
       rw[h1]
       rw[scells_snoc,List.getElem?_append_right (by simp[scells])] at hu
       simpa [scells] using hu
     · rw[hout j hj]
       have hl:(scells (xs ++ [x])).length=xs.length+1:=by simp[scells]
       have hjl:=(List.getElem?_eq_some_iff.1 hu).1
       refine hc.olds j u ?_
       rw[scells_snoc,List.getElem?_append_left (by simp only[scells,List.length_map];omega)] at hu
       exact hu
   · have hlx:(xs ++ [x]).length=xs.length+1:=by simp
     rw[hlx] at hj ⊢
     have h1:=hc.spare (j+1) (by omega)
     rw[show off+(xs.length+1)*1+j=off+(xs.length+1+j) by omega]
     rw[show off+xs.length*1+(j+1)=off+(xs.length+1+j) by omega] at h1
     refine⟨by rw[hout _ (by omega)];exact h1.1,?_⟩
     exact (World.frozen?_setCells b _ _ _ _).trans h1.2
 · have hcl:cap<xs.length+1:=by omega
   have hold:(Builtin.firstCells i.size xs.length (.slice ao xs.length cap)).run Tryz.prog w.drew=.ok (scells xs).toArray w.drew:=by
    rw[hz1]
    rcases Nat.eq_zero_or_pos cap with h0 | hcap
    · obtain rfl:xs=[]:=List.length_eq_zero_iff.1 (by omega)
      cases ao with
      | none=>exact run_firstCells_none w.drew 1 0 0 cap
      | some a'=>exact run_firstCells_some w.drew 1 0 a' 0 cap [] (by simp) (by intro _ _ h';simp at h')
    · rw[hc.addr hcap]
      refine run_firstCells_some w.drew 1 xs.length ⟨b,off,none⟩ xs.length cap (scells xs) (by simp[scells]) (fun j u hu=>?_)
      rw[Addr.add_lit]
      exact hc.olds j u hu
   have hby:(xs.length+1)*i.bytes≤140737488355328:=by rw[hz2];omega
   have hrun:=run_append_grow_src (P:=Tryz.prog) w 25 25 ty 9 i (.string ⟨#[]⟩) Tryz.underlying25 hi hz0 ao xs.length cap (scells xs) hold xv 1 [.string ⟨x.toArray⟩] hs' hcl (by omega) (growslice_fits hcl hby)
   have hge:=grownCap_ge w (xs.length+1) cap 9
   have hcm:=grownCap_le_maxLen w (xs.length+1) cap 9 (by unfold maxLen;omega)
   obtain⟨gc,hgc⟩:∃ gc,gc=grownCap w (xs.length+1) cap 9:=⟨_,rfl⟩
   rw[←hgc] at hrun hge hcm
   have hcell:∀ j,(w.drew.alloc (.cells ((scells xs ++ [Value.string ⟨x.toArray⟩]).toArray ++ Builtin.zeroCells (Value.string ⟨#[]⟩).cells (gc - (xs.length+1))) 9)).cell? ⟨w.heap.size,j,none⟩=((scells xs ++ [Value.string ⟨x.toArray⟩]).toArray ++ Builtin.zeroCells (Value.string ⟨#[]⟩).cells (gc - (xs.length+1)))[j]? := fun j=>World.cell?_alloc_new w.drew _ _ j
   have hsz:((scells xs ++ [Value.string ⟨x.toArray⟩]).toArray ++ Builtin.zeroCells (Value.string ⟨#[]⟩).cells (gc - (xs.length+1))).size=gc:=by
    rw[Array.size_append,List.size_toArray,size_zeroCells]
    simp only[List.length_append,scells,List.length_map,List.length_singleton]
    have:(Value.string ⟨#[]⟩).cells.size=1:=rfl
    rw[this]
    omega
   refine⟨_,_,w.heap.size,hrun,⟨⟨some ⟨w.heap.size,0,none⟩,0,gc,by simp,⟨by simp;omega,fun _=>rfl,fun _=>by simp,by simp[scells],fun j u hu=>?_,fun j hj=>?_⟩,hcm⟩,hlo,by simp⟩,.inr rfl,rfl,rfl,rfl,by simp,fun k hk hne=>Below.heap_alloc w.drew _ k hk⟩
   · rw[Nat.zero_add,hcell,←scells_snoc]
     have hjl:=(List.getElem?_eq_some_iff.1 hu).1
     rw[Array.getElem?_append_left (by simp only[List.size_toArray];exact hjl),List.getElem?_toArray]
     exact hu
   · have hlx:(xs ++ [x]).length=xs.length+1:=by simp
     rw[hlx] at hj ⊢
     rw[show 0+(xs.length+1)*1+j=xs.length+1+j by omega]
     refine⟨?_,World.frozen?_alloc_new w.drew _ _ _⟩
     rw[hcell,Array.getElem?_eq_getElem (by rw[hsz];omega)]
     rfl
theorem wpList_append_todo {ops:Array Oper} {rest:List Oper} {o:Oper} {a:Act} {Q:Exit→Act→World→Prop} (hgd:o.guard=none) (s x:Operand) (ho:o.op=.call { callee:=.builtin .append,args:=#[s,x],argTypes:=#[25,25] })
 (v:Value) (hs:a.eval s=v) {lo:Nat} {w:World} {xs:List Bs} {b:Nat} (h:TodoAt lo w v xs b) (hlo:lo≤w.heap.size) (hn:xs.length≤1000000) (kid:Bs) (g c:Nat) (hx:a.eval x=.slice (some ⟨g,0,none⟩) 1 c) (hcell:w.cell? ⟨g,0,none⟩=some (.string ⟨kid.toArray⟩))
 (hK:∀ v' w' b',TodoAt lo w' v' (xs ++ [kid]) b'→(b'=b∨b'=w.heap.size)→w'.os=w.os→w'.tape=w.tape→w'.output=w.output→w.heap.size≤w'.heap.size→(∀ k,k<w.heap.size→k≠b→w'.heap[k]? = w.heap[k]?)→wpList Tryz.prog ops Q rest (a.put o.dst v') w'):wpList Tryz.prog ops Q (o :: rest) a w:=by
 obtain⟨v',w',b',hr,h1,h2,h3,h4,h5,h6,h7⟩:=todo_append h hlo hn kid (.slice (some ⟨g,0,none⟩) 1 c) o.type (Src.ofSlice w Tryz.underlying25 ⟨g,0,none⟩ 1 c [Value.string ⟨kid.toArray⟩] rfl (fun j u hu=>by
  have hj:j=0:=by have:=(List.getElem?_eq_some_iff.1 hu).1;simpa using this
  subst hj
  rw[Addr.add_lit]
  simp only[List.getElem?_cons_zero] at hu
  cases hu
  exact hcell) (scells_oneT kid))
 exact Lib.wpList_append_run w hgd s x _ _ ho v _ hs hx v' w' hr (hK v' w' b' h1 h2 h3 h4 h5 h6 h7)
def tAt (ls:List Bs) (j:Nat):Bs:=ls.getD j []
theorem tAt_lt (ls:List Bs) (j:Nat) (h:j<ls.length):tAt ls j=ls[j]:=by simp[tAt,h]
theorem soneT (qs:List Bs):∀ u∈scells qs,u.oneCell'=true:=by
 intro u hu
 obtain⟨x,_,rfl⟩:=List.mem_map.1 hu
 rfl
theorem scells_app (a b:List Bs):scells (a ++ b)=scells a ++ scells b:=by simp[scells]
theorem textsR_snoc (ns:List Bs) (j:Nat) (h:j<ns.length):textsR (ns.take (j+1))=txIns (textsR (ns.take j)) (tAt ns j):=by
 rw[List.take_succ_eq_append_getElem h,textsR,List.foldl_append,tAt_lt ns j h];rfl
theorem txPlace_le:∀ (out:List Bs) (h:Bs),txPlace out h≤out.length
 | [],_=>Nat.le_refl _
 | x :: xs, h => by
   simp only[txPlace]
   split
   · have:=txPlace_le xs h;simp;omega
   · omega
theorem txPlace_step:∀ (out:List Bs) (h:Bs) (k:Nat),k<out.length→k≤txPlace out h→Op.bytesLess (tAt out k) h=true→k+1≤txPlace out h
 | [],_,k,hk,_,_=>by simp at hk
 | x :: xs, h, 0, _, _, hb => by
   have hb':Op.bytesLess x h=true:=hb
   simp[txPlace,hb']
 | x :: xs, h, k + 1, hk, hle, hb => by
   simp only[txPlace] at hle ⊢
   split at hle
   · rename_i hx
     rw[if_pos hx]
     have hb':Op.bytesLess (tAt xs k) h=true:=by simpa [tAt] using hb
     have:=txPlace_step xs h k (by simpa using hk) (by omega) hb'
     omega
   · omega
theorem txPlace_stop:∀ (out:List Bs) (h:Bs) (k:Nat),k<out.length→k≤txPlace out h→Op.bytesLess (tAt out k) h=false→txPlace out h=k
 | [],_,k,hk,_,_=>by simp at hk
 | x :: xs, h, 0, _, _, hb => by
   have hb':Op.bytesLess x h=false:=hb
   simp[txPlace,hb']
 | x :: xs, h, k + 1, hk, hle, hb => by
   simp only[txPlace] at hle ⊢
   split at hle
   · rename_i hx
     rw[if_pos hx]
     have hb':Op.bytesLess (tAt xs k) h=false:=by simpa [tAt] using hb
     have:=txPlace_stop xs h k (by simpa using hk) (by omega) hb'
     omega
   · omega
theorem txIns_if (out:List Bs) (t:Bs):txIns out t=if txPlace out t<out.length∧tAt out (txPlace out t)=t then out else out.take (txPlace out t) ++ [t] ++ out.drop (txPlace out t):=by
 unfold txIns
 by_cases h:txPlace out t<out.length
 · rw[tAt_lt out _ h,List.getElem?_eq_getElem h]
   by_cases e:out[txPlace out t]=t
   · rw[if_pos (by rw[e]),if_pos ⟨h,e⟩]
   · rw[if_neg (fun x=>e (Option.some.inj x)),if_neg (fun x=>e x.2)]
 · rw[List.getElem?_eq_none (by omega),if_neg (by simp),if_neg (fun x=>h x.1)]
theorem textsR_len (ns:List Bs):∀ j,j≤ns.length→(textsR (ns.take j)).length≤j
 | 0,_=>by simp[textsR]
 | j + 1, h => by
   rw[textsR_snoc ns j (by omega)]
   have h1:=textsR_len ns j (by omega)
   have h2:=txPlace_le (textsR (ns.take j)) (tAt ns j)
   rw[txIns_if]
   split
   · omega
   · simp;omega
theorem own_cap7 {w:World} {B e g n c:Nat} {xs:List Value} (h:w.ownsRow B e 1 (.slice (some ⟨g,0,none⟩) n c) n xs):n≤c:=by
 rcases h.2 with ⟨e,_⟩ | ⟨g',cap',cur,e,_,_,hc,_⟩
 · cases e
 · cases e;exact hc
theorem own_cellT {w:World} {B e g n c:Nat} {ns:List Bs} (h:w.ownsRow B e 1 (.slice (some ⟨g,0,none⟩) n c) ns.length (scells ns)) (j:Nat) (hj:j<ns.length):w.cell? ⟨g,j,none⟩=some (.string ⟨(tAt ns j).toArray⟩):=by
 rw[tAt_lt ns j hj]
 rcases h.2 with ⟨h',_⟩ | ⟨g',cap',cur,h',_⟩
 · cases h'
 · cases h'
   exact (h.cellAt j (by omega)).trans (scells_at ns j hj)
theorem flat_partT {w:World} {B e g n c:Nat} {ns:List Bs} (h:w.ownsRow B e 1 (.slice (some ⟨g,0,none⟩) n c) ns.length (scells ns)) (from0 cnt:Nat):∀ j u,(scells ((ns.drop from0).take cnt))[j]? = some u→w.cell? ((⟨g,from0,none⟩:Addr).add j)=some u:=by
 intro j u hu
 have hj:=(List.getElem?_eq_some_iff.1 hu).1
 rw[scells_length] at hj
 have hj2:=hj
 rw[List.length_take,List.length_drop] at hj2
 have ea:(⟨g,from0,none⟩:Addr).add j=⟨g,from0+j,none⟩:=by
  simp only[Addr.add]
  split
  · rename_i h9;rw[h9];rfl
  · rfl
 rw[ea]
 rw[scells_at _ j hj] at hu
 have hc:=own_cellT h (from0+j) (by omega)
 rw[tAt_lt ns _ (by omega)] at hc
 rw[hc,←hu]
 simp
set_option maxRecDepth 100000 in
set_option maxHeartbeats 4000000 in
theorem spec_l7Texts (a:Option Addr) (cp:Nat) (ns:List Bs) (w:World) (hl:ns.length≤10000) (hs:IsStrs w a ns) :
 Calls Tryz.prog 39 #[.slice a ns.length cp] w fun e w'=>∃ g c:Nat,e=.returned (.slice (some ⟨g,0,none⟩) (textsR ns).length c)∧w'.ownsRow w.heap.size 9 1 (.slice (some ⟨g,0,none⟩) (textsR ns).length c) (textsR ns).length (scells (textsR ns))∧Below w.heap.size w w':=by
 obtain⟨i0,hi0,hz0,hz1,hz2⟩:=info_parts info9i
 have Ba:Below w.heap.size w (w.alloc (.cells #[] 9)):=(Below.refl _ _).alloc (Nat.le_refl _) _
 have O0:=hidOwn (World.ownsRow_lit (e:=9) (size:=1) w #[] 0 (base:=w.heap.size) (Nat.le_refl _) (Nat.zero_le _) rfl)
 rcases hs with rfl | ⟨b,off,rfl,hc⟩
 · have e0:textsR []=[]:=rfl
   rw[e0]
   go_enter Tryz.func39,Tryz.ntmps39
   go_wp2
   refine wp_loop_rounds 1 ?_
   rw[rounds_succ]
   go_wp2
   go_ret
   exact⟨_,_,rfl,O0.out,Ba⟩
 · have HC : Hid (∀ j, j < ns.length → w.cell? ⟨b, off + j, none⟩ = some (.string ⟨(tAt ns j).toArray⟩)) := fun j h => by rw [tAt_lt ns j h]; exact hc j h
   have HSN:Hid (∀ j,j<ns.length→textsR (ns.take (j+1))=txIns (textsR (ns.take j)) (tAt ns j)):=textsR_snoc ns
   have HSL:Hid (∀ j,j≤ns.length→(textsR (ns.take j)).length≤j):=textsR_len ns
   clear hc
   go_enter Tryz.func39,Tryz.ntmps39
   go_wp2
   go_loopw [3,4] (fun o i wr=>∃ (j g c:Nat),j≤ns.length∧i=.int .i64 (j:Int)∧o=.slice (some ⟨g,0,none⟩) (textsR (ns.take j)).length c∧Hid (wr.ownsRow w.heap.size 9 1 (.slice (some ⟨g,0,none⟩) (textsR (ns.take j)).length c) (textsR (ns.take j)).length (scells (textsR (ns.take j))))∧Below w.heap.size w wr) (fun _ i _=>ns.length - (intOf i).toNat)
   case atStart=>exact⟨0,w.heap.size,0,Nat.zero_le _,rfl,rfl,O0,Ba⟩
   case round =>
    obtain⟨j,g,c,hj,rfl,rfl,HO,hbel⟩:=hrel
    obtain⟨wo,rfl⟩:∃ wo,wo=wr:=⟨_,rfl⟩
    have hsz:=hbel.size
    clear O0 Ba
    by_cases hlt:j<ns.length
    · have c1' := HC.out j hlt
      have hblt:=World.block_lt_of_cell? w _ c1'
      simp only at hblt
      have HS:Hid (textsR (ns.take (j+1))=txIns (textsR (ns.take j)) (tAt ns j)):=HSN.out j hlt
      have hol:=HSL.out j hj
      obtain⟨h,hh⟩:∃ h,h=tAt ns j:=⟨_,rfl⟩
      rw[←hh] at c1' HS
      have C1:Hid (w.cell? ⟨b,off+j,none⟩=some (.string ⟨h.toArray⟩)):=c1'
      obtain⟨out,hout⟩:∃ out,out=textsR (ns.take j):=⟨_,rfl⟩
      rw[←hout] at HS hol HO ⊢
      have hpl:=txPlace_le out h
      have hj1:(j:Int)<(ns.length:Int):=by omega
      have hj0':(0:Int)≤(j:Int):=by omega
      have hcap:=own_cap7 HO.out
      have hgl:=(HO.out.lt g rfl)
      clear hh c1' hout HC HSN HSL
      go_wp2
      go_loopw [5] (fun kk wx=>∃ k:Nat,k≤out.length∧k≤txPlace out h∧kk=.int .i64 (k:Int)∧Below wo.heap.size wo wx) (fun kk _=>out.length - (intOf kk).toNat)
      case atStart=>exact⟨0,Nat.zero_le _,Nat.zero_le _,rfl,Below.refl _ _⟩
      case round =>
       obtain⟨k,hk,hkp,rfl,hb2⟩:=hrel
       have B2:=hbel.trans (hb2.mono hsz)
       have s2:=B2.size
       have sw2:=hb2.size
       have HO2:=hidOwn (keptZ HO.out hb2)
       have c1:=(B2.cell (p:=⟨b,off+j,none⟩) hblt).trans C1.out
       have hk0:(0:Int)≤(k:Int):=by omega
       by_cases hlt2:k<out.length
       · have hk1 : (k : Int) < (out.length : Int) := by omega
         have d1:=own_cellT HO2.out k hlt2
         cases hless:Op.bytesLess (tAt out k) h with
         | true =>
           have hn:=txPlace_step out h k hlt2 hkp hless
           obtain⟨z,hz⟩:∃ z,z=tAt out k:=⟨_,rfl⟩
           rw[←hz] at d1 hless
           have hq:Op.bytesLess (⟨z.toArray⟩:ByteArray).toList (⟨h.toArray⟩:ByteArray).toList=true:=by rw[ba_toList,ba_toList];exact hless
           clear hz
           go_wp2
           go_quiet (fail)
           go_wp2
           go_roundw
           case rel=>exact⟨k+1,by omega,hn,by go_num,below_dkS hb2⟩
           case measure=>simp[intOf];omega
         | false =>
           have hpk:=txPlace_stop out h k hlt2 hkp hless
           have HZ:Hid (txIns out h=if tAt out k=h then out else out.take k ++ [h] ++ out.drop k):=by
            rw[Hid,txIns_if];simp only[hpk]
            by_cases he:tAt out k=h
            · rw[if_pos ⟨hlt2,he⟩,if_pos he]
            · rw[if_neg (fun x=>he x.2),if_neg he]
           obtain⟨z,hz⟩:∃ z,z=tAt out k:=⟨_,rfl⟩
           rw[←hz] at d1 hless HZ
           have hq:Op.bytesLess (⟨z.toArray⟩:ByteArray).toList (⟨h.toArray⟩:ByteArray).toList=false:=by rw[ba_toList,ba_toList];exact hless
           have B2q:∀ q q',Below w.heap.size w ((wr.drewN q).drewN q'):=fun q q'=>below_dkS (below_dkS B2)
           by_cases he:z=h
           · have HZ2:Hid (textsR (ns.take (j+1))=out):=by rw[Hid,HS.out,HZ.out,if_pos he]
             clear HS HZ hz
             subst he
             go_wp2
             go_quiet (fail)
             go_wp2
             go_quiet (fail)
             go_wp2
             go_roundw
             case rel=>exact⟨j+1,g,c,by omega,by go_num,by rw[HZ2.out],by rw[HZ2.out];exact keptZ HO2.out ⟨rfl,rfl,rfl,Nat.le_refl _,fun _ _=>rfl⟩,by first | exact B2q _ _ | exact below_dkS B2⟩
             case measure=>simp[intOf];omega
           · have HZ2:Hid (textsR (ns.take (j+1))=out.take k ++ [h] ++ out.drop k):=by rw[Hid,HS.out,HZ.out,if_neg he]
             have hzb:(z == h)=false:=by simp[he]
             clear HS HZ hz
             go_wp2
             go_quiet (fail)
             go_wp2
             go_quiet (fail)
             generalize hwq:(World.drewN (World.drewN wr _) _)=wq
             have Q2:Below w.heap.size w wq:=by rw[←hwq];exact below_dkS (below_dkS B2)
             have HOq:=hidOwn (keptZ HO2.out (w':=wq) (by rw[←hwq];exact⟨rfl,rfl,rfl,Nat.le_refl _,fun _ _=>rfl⟩))
             have c1q:wq.cell? ⟨b,off+j,none⟩=some (.string ⟨h.toArray⟩):=(Q2.cell (p:=⟨b,off+j,none⟩) hblt).trans C1.out
             have sq:=Q2.size
             have hglq:=(HOq.out.lt g rfl)
             have OL:=hidOwn (World.ownsRow_lit (e:=9) (size:=1) wq #[] 0 (base:=wq.heap.size) (Nat.le_refl _) (Nat.zero_le _) rfl)
             have QA:Below w.heap.size w (wq.alloc (.cells #[] 9)):=Q2.alloc sq _
             have HFA:Hid (∀ i u,(scells (out.take k))[i]? = some u→(wq.alloc (.cells #[] 9)).cell? ((⟨g,0,none⟩:Addr).add i)=some u):=by
              have:=flat_partT (keptZ HOq.out ((Below.refl _ _).alloc (Nat.le_refl _) (.cells #[] 9))) 0 k
              rw[Hid]
              simpa using this
             have HLA:Hid ((scells (out.take k)).length=k*1):=by rw[Hid,scells_length,List.length_take,Nat.min_eq_left hk,Nat.mul_one]
             have HLC:Hid ((scells (out.drop k)).length=(out.length - k)*1):=by rw[Hid,scells_length,List.length_drop,Nat.mul_one]
             have HA3:Hid (∀ w3:World,(wq.alloc (.cells #[] 9)).grownBy w3 (Value.slice (some ⟨wq.heap.size,0,none⟩) 0 0).ownBlock→Below wq.heap.size wq w3∧Below w.heap.size w w3∧wq.heap.size<w3.heap.size∧w3.cell? ⟨b,off+j,none⟩=some (.string ⟨h.toArray⟩)):=by
              intro w3 hg3
              have Bx:Below wq.heap.size wq w3:=((Below.refl _ _).alloc (Nat.le_refl _) _).grown hg3 (by simp) (fun k hk=>by simp[Value.ownBlock] at hk;omega)
              have By:=Q2.trans (Bx.mono sq)
              exact⟨Bx,By,by have:=hg3.size;simp at this;omega,(By.cell (p:=⟨b,off+j,none⟩) hblt).trans C1.out⟩
             have HA4:Hid (∀ (w3 w4:World) (v3:Value) (n3:Nat) (x3:List Value),Below wq.heap.size wq w3→wq.heap.size<w3.heap.size→w3.ownsRow wq.heap.size 9 1 v3 n3 x3→(w3.alloc (.cells #[.string ⟨h.toArray⟩] 9)).grownBy w4 v3.ownBlock→Below wq.heap.size wq w4∧wq.heap.size<w4.heap.size∧(∀ i u,(scells (out.drop k))[i]? = some u→w4.cell? ((⟨g,k,none⟩:Addr).add i)=some u)):=by
              intro w3 w4 v3 n3 x3 Bx hsx ho hg4
              have Bz:Below wq.heap.size wq w4:=(Bx.alloc (by omega) _).grown hg4 (by simp;omega) (fun k hk=>(ho.lt k hk).1)
              refine⟨Bz,by have:=hg4.size;simp at this;omega,?_⟩
              have:=flat_partT (keptZ HOq.out Bz) k (out.length - k)
              rw[List.take_of_length_le (by rw[List.length_drop];omega)] at this
              exact this
             have hkc':(k:Int)≤(c:Int):=by omega
             have hkl':(k:Int)≤(out.length:Int):=by omega
             clear hwq HO2 HO c1 B2
             have hck:¬ c=k:=by omega
             go_wp2_with (first | (at_builtin;refine wpList_append_own _ rfl _ _ 25 rfl wq.heap.size 9 i0 (.string ⟨#[]⟩) 1 16 Tryz.underlying25 hi0 hz0 hz1 hz2 rfl (by decide) v4 (0+k+1) _ rfl OV4.out ⟨g,k,none⟩ (out.length - k) (c - k) (scells (out.drop k)) rfl HLC.out HF4 (soneT _) (by unfold maxLen;omega) (by omega) (by first | omega | (simp <;> omega)) ?_;intro v6 w6 hown6 hgrow6 hnil6) | (at_builtin;refine wpList_append_own _ rfl _ _ 25 rfl wq.heap.size 9 i0 (.string ⟨#[]⟩) 1 16 Tryz.underlying25 hi0 hz0 hz1 hz2 rfl (by decide) v3 (0+k) _ rfl (OV3.out.alloc _) ⟨w3.heap.size,0,none⟩ 1 1 [.string ⟨h.toArray⟩] rfl rfl (World.news_of_block (cs:=#[.string ⟨h.toArray⟩]) (t:=9) (fr:=(0,0)) (heap_alloc_new w3 _)) (by simp[Value.oneCell']) (by unfold maxLen;omega) (by omega) (by first | omega | (simp <;> omega)) ?_;intro v4 w4 hown4 hgrow4 hnil4;obtain⟨B4,hs4,HF4⟩:=HA4.out w3 w4 v3 _ _ Bx3 hs3 OV3.out hgrow4;have OV4:=hidOwn hown4;clear hown4 hgrow4 hnil4 OV3) | (at_builtin;refine wpList_append_own _ rfl _ _ 25 rfl wq.heap.size 9 i0 (.string ⟨#[]⟩) 1 16 Tryz.underlying25 hi0 hz0 hz1 hz2 rfl (by decide) (.slice (some ⟨wq.heap.size,0,none⟩) 0 0) 0 _ rfl OL.out ⟨g,0,none⟩ k c (scells (out.take k)) rfl HLA.out HFA.out (soneT _) (by unfold maxLen;omega) (by omega) (by first | omega | (simp <;> omega)) ?_;intro v3 w3 hown3 hgrow3 hnil3;obtain⟨Bx3,By3,hs3,c1r⟩:=HA3.out w3 hgrow3;have OV3:=hidOwn hown3;clear hown3 hgrow3 hnil3 c1q))
             have B6:Below w.heap.size w w6:=Q2.trans ((B4.grown hgrow6 (by omega) (fun k hk=>(OV4.out.lt k hk).1)).mono sq)
             have HE6:Hid (w6.ownsRow w.heap.size 9 1 v6 (textsR (ns.take (j+1))).length (scells (textsR (ns.take (j+1))))):=by
              have e1:(textsR (ns.take (j+1))).length=0+k+1+(out.length - k):=by rw[HZ2.out];simp;omega
              have e2:scells (textsR (ns.take (j+1)))=[] ++ scells (out.take k) ++ [.string ⟨h.toArray⟩] ++ scells (out.drop k):=by rw[HZ2.out,scells_app,scells_app];rfl
              rw[Hid,e1,e2]
              have:=hown6.mono sq
              first | exact this | (rw[hdk.out] at *;simpa [scells] using this)
             obtain⟨g6,c6,rfl⟩:∃ g6 c6,v6=.slice (some ⟨g6,0,none⟩) (textsR (ns.take (j+1))).length c6:=by
              rcases own_cases HE6.out with ⟨e,hn,_⟩ | ⟨g6,c6,e,_⟩
              · exfalso;rw[HZ2.out] at hn;simp at hn
              · exact⟨g6,c6,e⟩
             clear hown6 hgrow6 hnil6 HA3 HA4 HFA HLA HLC OL OV4 HZ2
             go_wp2
             go_roundw
             case rel=>exact⟨j+1,g6,c6,by omega,by go_num,rfl,HE6,B6⟩
             case measure=>simp[intOf];omega
       · have hk1:¬ (k:Int)<(out.length:Int):=by omega
         have hko:k=out.length:=by omega
         have hpk:txPlace out h=k:=by omega
         have HZ2:Hid (textsR (ns.take (j+1))=out.take k ++ [h] ++ out.drop k):=by
          rw[Hid,HS.out,txIns_if];simp only[hpk]
          rw[if_neg (fun x=>by omega)]
         have HKO:Hid (k=out.length):=hko
         clear HS hpk hko
         go_wp2
         go_quiet (fail)
         go_wp2
         go_quiet (fail)
         generalize hwq:(World.drewN (World.drewN wr _) _)=wq
         have Q2:Below w.heap.size w wq:=by rw[←hwq];exact below_dkS (below_dkS B2)
         have HOq:=hidOwn (keptZ HO2.out (w':=wq) (by rw[←hwq];exact⟨rfl,rfl,rfl,Nat.le_refl _,fun _ _=>rfl⟩))
         have c1q:wq.cell? ⟨b,off+j,none⟩=some (.string ⟨h.toArray⟩):=(Q2.cell (p:=⟨b,off+j,none⟩) hblt).trans C1.out
         have sq:=Q2.size
         have hglq:=(HOq.out.lt g rfl)
         have OL:=hidOwn (World.ownsRow_lit (e:=9) (size:=1) wq #[] 0 (base:=wq.heap.size) (Nat.le_refl _) (Nat.zero_le _) rfl)
         have QA:Below w.heap.size w (wq.alloc (.cells #[] 9)):=Q2.alloc sq _
         have HFA:Hid (∀ i u,(scells (out.take k))[i]? = some u→(wq.alloc (.cells #[] 9)).cell? ((⟨g,0,none⟩:Addr).add i)=some u):=by
          have:=flat_partT (keptZ HOq.out ((Below.refl _ _).alloc (Nat.le_refl _) (.cells #[] 9))) 0 k
          rw[Hid]
          simpa using this
         have HLA:Hid ((scells (out.take k)).length=k*1):=by rw[Hid,scells_length,List.length_take,Nat.min_eq_left hk,Nat.mul_one]
         have HLC:Hid ((scells (out.drop k)).length=(out.length - k)*1):=by rw[Hid,scells_length,List.length_drop,Nat.mul_one]
         have HA3:Hid (∀ w3:World,(wq.alloc (.cells #[] 9)).grownBy w3 (Value.slice (some ⟨wq.heap.size,0,none⟩) 0 0).ownBlock→Below wq.heap.size wq w3∧Below w.heap.size w w3∧wq.heap.size<w3.heap.size∧w3.cell? ⟨b,off+j,none⟩=some (.string ⟨h.toArray⟩)):=by
          intro w3 hg3
          have Bx:Below wq.heap.size wq w3:=((Below.refl _ _).alloc (Nat.le_refl _) _).grown hg3 (by simp) (fun k hk=>by simp[Value.ownBlock] at hk;omega)
          have By:=Q2.trans (Bx.mono sq)
          exact⟨Bx,By,by have:=hg3.size;simp at this;omega,(By.cell (p:=⟨b,off+j,none⟩) hblt).trans C1.out⟩
         have HA4:Hid (∀ (w3 w4:World) (v3:Value) (n3:Nat) (x3:List Value),Below wq.heap.size wq w3→wq.heap.size<w3.heap.size→w3.ownsRow wq.heap.size 9 1 v3 n3 x3→(w3.alloc (.cells #[.string ⟨h.toArray⟩] 9)).grownBy w4 v3.ownBlock→Below wq.heap.size wq w4∧wq.heap.size<w4.heap.size∧(∀ i u,(scells (out.drop k))[i]? = some u→w4.cell? ((⟨g,k,none⟩:Addr).add i)=some u)):=by
          intro w3 w4 v3 n3 x3 Bx hsx ho hg4
          have Bz:Below wq.heap.size wq w4:=(Bx.alloc (by omega) _).grown hg4 (by simp;omega) (fun k hk=>(ho.lt k hk).1)
          refine⟨Bz,by have:=hg4.size;simp at this;omega,?_⟩
          have:=flat_partT (keptZ HOq.out Bz) k (out.length - k)
          rw[List.take_of_length_le (by rw[List.length_drop];omega)] at this
          exact this
         have hkc':(k:Int)≤(c:Int):=by omega
         have hkl':(k:Int)≤(out.length:Int):=by omega
         clear hwq HO2 HO c1 B2
         by_cases hck:c=k
         · have hdk:Hid (out.drop k=[]):=List.drop_eq_nil_of_le (by omega)
           go_wp2_with (first | (at_builtin;refine wpList_append_own _ rfl _ _ 25 rfl wq.heap.size 9 i0 (.string ⟨#[]⟩) 1 16 Tryz.underlying25 hi0 hz0 hz1 hz2 rfl (by decide) v4 (0+k+1) _ rfl OV4.out ⟨g,0,none⟩ (out.length - k) 0 (scells (out.drop k)) rfl HLC.out (fun i u hu=>by rw[hdk.out] at hu;simp[scells] at hu) (soneT _) (by unfold maxLen;omega) (by omega) (by first | omega | (simp <;> omega)) ?_;intro v6 w6 hown6 hgrow6 hnil6) | (at_builtin;refine wpList_append_own _ rfl _ _ 25 rfl wq.heap.size 9 i0 (.string ⟨#[]⟩) 1 16 Tryz.underlying25 hi0 hz0 hz1 hz2 rfl (by decide) v3 (0+k) _ rfl (OV3.out.alloc _) ⟨w3.heap.size,0,none⟩ 1 1 [.string ⟨h.toArray⟩] rfl rfl (World.news_of_block (cs:=#[.string ⟨h.toArray⟩]) (t:=9) (fr:=(0,0)) (heap_alloc_new w3 _)) (by simp[Value.oneCell']) (by unfold maxLen;omega) (by omega) (by first | omega | (simp <;> omega)) ?_;intro v4 w4 hown4 hgrow4 hnil4;obtain⟨B4,hs4,HF4⟩:=HA4.out w3 w4 v3 _ _ Bx3 hs3 OV3.out hgrow4;have OV4:=hidOwn hown4;clear hown4 hgrow4 hnil4 OV3) | (at_builtin;refine wpList_append_own _ rfl _ _ 25 rfl wq.heap.size 9 i0 (.string ⟨#[]⟩) 1 16 Tryz.underlying25 hi0 hz0 hz1 hz2 rfl (by decide) (.slice (some ⟨wq.heap.size,0,none⟩) 0 0) 0 _ rfl OL.out ⟨g,0,none⟩ k k (scells (out.take k)) rfl HLA.out HFA.out (soneT _) (by unfold maxLen;omega) (by omega) (by first | omega | (simp <;> omega)) ?_;intro v3 w3 hown3 hgrow3 hnil3;obtain⟨Bx3,By3,hs3,c1r⟩:=HA3.out w3 hgrow3;have OV3:=hidOwn hown3;clear hown3 hgrow3 hnil3 c1q))
           have B6:Below w.heap.size w w6:=Q2.trans ((B4.grown hgrow6 (by omega) (fun k hk=>(OV4.out.lt k hk).1)).mono sq)
           have HE6:Hid (w6.ownsRow w.heap.size 9 1 v6 (textsR (ns.take (j+1))).length (scells (textsR (ns.take (j+1))))):=by
            have e1:(textsR (ns.take (j+1))).length=0+k+1+(out.length - k):=by rw[HZ2.out];simp;omega
            have e2:scells (textsR (ns.take (j+1)))=[] ++ scells (out.take k) ++ [.string ⟨h.toArray⟩] ++ scells (out.drop k):=by rw[HZ2.out,scells_app,scells_app];rfl
            rw[Hid,e1,e2]
            have:=hown6.mono sq
            first | exact this | (rw[hdk.out] at *;simpa [scells] using this)
           obtain⟨g6,c6,rfl⟩:∃ g6 c6,v6=.slice (some ⟨g6,0,none⟩) (textsR (ns.take (j+1))).length c6:=by
            rcases own_cases HE6.out with ⟨e,hn,_⟩ | ⟨g6,c6,e,_⟩
            · exfalso;rw[HZ2.out] at hn;simp at hn
            · exact⟨g6,c6,e⟩
           clear hown6 hgrow6 hnil6 HA3 HA4 HFA HLA HLC OL OV4 HZ2
           go_wp2
           go_roundw
           case rel=>exact⟨j+1,g6,c6,by omega,by go_num,rfl,HE6,B6⟩
           case measure=>simp[intOf];omega
         · go_wp2_with (first | (at_builtin;refine wpList_append_own _ rfl _ _ 25 rfl wq.heap.size 9 i0 (.string ⟨#[]⟩) 1 16 Tryz.underlying25 hi0 hz0 hz1 hz2 rfl (by decide) v4 (0+k+1) _ rfl OV4.out ⟨g,k,none⟩ (out.length - k) (c - k) (scells (out.drop k)) rfl HLC.out HF4 (soneT _) (by unfold maxLen;omega) (by omega) (by first | omega | (simp <;> omega)) ?_;intro v6 w6 hown6 hgrow6 hnil6) | (at_builtin;refine wpList_append_own _ rfl _ _ 25 rfl wq.heap.size 9 i0 (.string ⟨#[]⟩) 1 16 Tryz.underlying25 hi0 hz0 hz1 hz2 rfl (by decide) v3 (0+k) _ rfl (OV3.out.alloc _) ⟨w3.heap.size,0,none⟩ 1 1 [.string ⟨h.toArray⟩] rfl rfl (World.news_of_block (cs:=#[.string ⟨h.toArray⟩]) (t:=9) (fr:=(0,0)) (heap_alloc_new w3 _)) (by simp[Value.oneCell']) (by unfold maxLen;omega) (by omega) (by first | omega | (simp <;> omega)) ?_;intro v4 w4 hown4 hgrow4 hnil4;obtain⟨B4,hs4,HF4⟩:=HA4.out w3 w4 v3 _ _ Bx3 hs3 OV3.out hgrow4;have OV4:=hidOwn hown4;clear hown4 hgrow4 hnil4 OV3) | (at_builtin;refine wpList_append_own _ rfl _ _ 25 rfl wq.heap.size 9 i0 (.string ⟨#[]⟩) 1 16 Tryz.underlying25 hi0 hz0 hz1 hz2 rfl (by decide) (.slice (some ⟨wq.heap.size,0,none⟩) 0 0) 0 _ rfl OL.out ⟨g,0,none⟩ k c (scells (out.take k)) rfl HLA.out HFA.out (soneT _) (by unfold maxLen;omega) (by omega) (by first | omega | (simp <;> omega)) ?_;intro v3 w3 hown3 hgrow3 hnil3;obtain⟨Bx3,By3,hs3,c1r⟩:=HA3.out w3 hgrow3;have OV3:=hidOwn hown3;clear hown3 hgrow3 hnil3 c1q))
           have B6:Below w.heap.size w w6:=Q2.trans ((B4.grown hgrow6 (by omega) (fun k hk=>(OV4.out.lt k hk).1)).mono sq)
           have HE6:Hid (w6.ownsRow w.heap.size 9 1 v6 (textsR (ns.take (j+1))).length (scells (textsR (ns.take (j+1))))):=by
            have e1:(textsR (ns.take (j+1))).length=0+k+1+(out.length - k):=by rw[HZ2.out];simp;omega
            have e2:scells (textsR (ns.take (j+1)))=[] ++ scells (out.take k) ++ [.string ⟨h.toArray⟩] ++ scells (out.drop k):=by rw[HZ2.out,scells_app,scells_app];rfl
            rw[Hid,e1,e2]
            have:=hown6.mono sq
            first | exact this | (rw[hdk.out] at *;simpa [scells] using this)
           obtain⟨g6,c6,rfl⟩:∃ g6 c6,v6=.slice (some ⟨g6,0,none⟩) (textsR (ns.take (j+1))).length c6:=by
            rcases own_cases HE6.out with ⟨e,hn,_⟩ | ⟨g6,c6,e,_⟩
            · exfalso;rw[HZ2.out] at hn;simp at hn
            · exact⟨g6,c6,e⟩
           clear hown6 hgrow6 hnil6 HA3 HA4 HFA HLA HLC OL OV4 HZ2
           go_wp2
           go_roundw
           case rel=>exact⟨j+1,g6,c6,by omega,by go_num,rfl,HE6,B6⟩
           case measure=>simp[intOf];omega
    · obtain rfl:j=ns.length:=by omega
      have hj1:¬ (ns.length:Int)<(ns.length:Int):=by omega
      rw[List.take_length] at HO ⊢
      go_wp2
      go_ret
      exact⟨g,c,rfl,HO.out,hbel⟩
def kidsW (ps:List PairL) (h:Bs):List Bs:=((findL ps h).map fun t=>(nodeAt t).ls.filter (fun x => !x.isEmpty)).getD []
def thereN (ps:List PairL) (h:Bs):Bool:=(findL ps h).isSome
noncomputable def reachR (ps:List PairL) (root:Bs):Option (List Bs):=if root=emptyL then some [] else if allB (kidsW ps) (thereN ps) root=true then some (ledL (kidsW ps) root) else none
noncomputable def reachedR (ps:List PairL) (root:Bs):Option (List Bs):=if storeOkL ps=true then reachR ps root else none
theorem there_mem (ps:List PairL) (x:Bs) (h:thereN ps x=true):x∈ps.map (·.1):=by
 unfold thereN findL at h
 rw[Option.isSome_map] at h
 obtain⟨p,hp⟩:=Option.isSome_iff_exists.1 h
 have h1:=List.find?_some hp
 exact List.mem_map.2 ⟨p,List.mem_of_find?_eq_some hp,by simpa using h1⟩
theorem out_le {ps:List PairL} {R:Bs→Prop} {out todo:List Bs} (h:SrchR (kidsW ps) (thereN ps) R out todo):out.length≤ps.length:=by
 have:=srch_len h (ps.map (·.1)) (there_mem ps)
 simpa using this
theorem kidsW_some {ps:List PairL} {h t:Bs} {k:Int} {q x:List UInt8} {ls:List Bs} (hf:findL ps h=some t) (hn:nodeAt t=⟨k,q,ls,x⟩):kidsW ps h=ls.filter (fun x => !x.isEmpty):=by
 unfold kidsW
 rw[hf]
 simp only[Option.map_some,Option.getD_some,hn]
theorem filter_step {ls:List Bs} {j:Nat} (hj:j<ls.length):(ls.take (j+1)).filter (fun x => !x.isEmpty)=(ls.take j).filter (fun x => !x.isEmpty) ++ (if (ls.getD j []).isEmpty=true then [] else [ls.getD j []]):=by
 rw[List.take_succ_eq_append_getElem hj,List.filter_append]
 congr 1
 have:ls.getD j []=ls[j]:=by simp[hj]
 rw[this]
 cases h:(ls[j]).isEmpty <;> simp[h]
theorem hidTodo {lo:Nat} {w:World} {xs:List Bs} {b:Nat} (h:∀ ao,TodoAt lo w (.slice ao xs.length 0) xs b):Hid (∀ ao,TodoAt lo w (.slice ao xs.length 0) xs b):=h
structure KeptT (w w':World) (b:Nat):Prop where
 os:w'.os=w.os
 tape:w'.tape=w.tape
 output:w'.output=w.output
 size:w.heap.size≤w'.heap.size
 block:∀ k,k<w.heap.size→k≠b→w'.heap[k]? = w.heap[k]?
theorem KeptT.refl (w:World) (b:Nat):KeptT w w b:=⟨rfl,rfl,rfl,Nat.le_refl _,fun _ _ _=>rfl⟩
theorem KeptT.alloc {w w':World} {b:Nat} (h:KeptT w w' b) (o:Obj):KeptT w (w'.alloc o) b:=⟨h.os,h.tape,h.output,by simp;have:=h.size;omega,fun k h1 h2=>(Below.heap_alloc _ _ _ (Nat.lt_of_lt_of_le h1 h.size)).trans (h.block k h1 h2)⟩
theorem KeptT.next {w w1 w2:World} {b:Nat} (h:KeptT w w1 b) (h1:w2.os=w1.os) (h2:w2.tape=w1.tape) (h3:w2.output=w1.output) (h4:w1.heap.size≤w2.heap.size) (h5:∀ k,k<w.heap.size→k≠b→w2.heap[k]? = w1.heap[k]?):KeptT w w2 b :=
 ⟨h1.trans h.os,h2.trans h.tape,h3.trans h.output,Nat.le_trans h.size h4,fun k a1 a2=>(h5 k a1 a2).trans (h.block k a1 a2)⟩
theorem KeptT.belowT {w0 w w':World} {b:Nat} (h:KeptT w w' b) (hb:Below w0.heap.size w0 w) (hl:w0.heap.size≤b):Below w0.heap.size w0 w' :=
 ⟨h.os.trans hb.os,h.tape.trans hb.tape,h.output.trans hb.output,Nat.le_trans hb.size h.size,fun k hk=>(h.block k (Nat.lt_of_lt_of_le hk hb.size) (by omega)).trans (hb.block k hk)⟩
theorem own_blockR {w w':World} {base e size n:Nat} {v:Value} {xs:List Value} (h:w.ownsRow base e size v n xs) (hk:∀ q,v.ownBlock=some q→w'.heap[q]? = w.heap[q]?):w'.ownsRow base e size v n xs:=by
 refine⟨h.1,?_⟩
 rcases h.2 with hn | ⟨g,cap,cur,rfl,hb,hgg,rest⟩
 · exact .inl hn
 · exact .inr ⟨g,cap,cur,rfl,hb,(hk g rfl).trans hgg,rest⟩
theorem one_cellT {w:World} {b:Nat} {u:Value} {t:TypeId} (h:w.heap[b]? = some (.cells #[u] t (0,0))):w.cell? ⟨b,0,none⟩=some u:=by simp[World.cell?,h]
def RPost (w:World) (res:Option (List Bs)) (e:Ending) (w':World):Prop:=∃ (a:Option Addr) (m c:Nat),e=.returned (.tuple #[.slice a m c,.bool res.isSome])∧w'.ownsRow w.heap.size 9 1 (.slice a m c) (res.getD []).length (scells (res.getD []))∧Below w.heap.size w w'
theorem rp_none {w w':World} {res:Option (List Bs)} (h:res=none) (hb:Below w.heap.size w w'):RPost w res (.returned (.tuple #[.slice none 0 0,.bool false])) w':=by
 subst h
 exact⟨none,0,0,rfl,World.ownsRow_nil _ _ _ _,hb⟩
def RPostN (w:World) (res:Option (List Bs)) (e:Ending) (w':World):Prop:=∃ (a:Option Addr) (m c:Nat),e=.returned (.tuple #[.slice a m c,.bool res.isSome])∧(res.isSome=true→∃ g,a=some ⟨g,0,none⟩)∧w'.ownsRow w.heap.size 9 1 (.slice a m c) (res.getD []).length (scells (res.getD []))∧Below w.heap.size w w'
theorem rpn_none {w w':World} {res:Option (List Bs)} (h:res=none) (hb:Below w.heap.size w w'):RPostN w res (.returned (.tuple #[.slice none 0 0,.bool false])) w':=by
 subst h
 exact⟨none,0,0,rfl,(fun h=>by cases h),World.ownsRow_nil _ _ _ _,hb⟩
theorem mem_take_succ {out:List Bs} {j:Nat} (hj:j<out.length) (x:Bs):x∈out.take (j+1)↔x∈out.take j∨out[j]=x:=by
 rw[List.take_succ_eq_append_getElem hj,List.mem_append,List.mem_singleton]
 exact⟨fun h=>h.imp id Eq.symm,fun h=>h.imp id Eq.symm⟩
set_option maxRecDepth 100000 in
set_option maxHeartbeats 8000000 in
theorem spec_l7ReachedN (a : Option Addr) (cap : Nat) (ps : List PairL) (root : Bs) (w : World) (hl : ps.length ≤ 1048576) (h400 : ps.length ≤ 400) (hm : ∀ p ∈ ps, p.1.length ≤ 1048576 ∧ p.2.length ≤ 1048576) (hs : IsPairs w a ps) (hst : storeOkL ps = true) :
 Calls Tryz.prog 21 #[.slice a ps.length cap,.string ⟨root.toArray⟩] w fun e w'=>RPostN w (reachR ps root) e w':=by
 obtain⟨i0,hi0,hz0,hz1,hz2⟩:=info_parts info9t
 have HS:Hid (∀ W,Below w.heap.size w W→IsPairs W a ps):=fun W hW=>hs.later hW
 have HM:Hid (∀ p∈ps,p.1.length≤1048576∧p.2.length≤1048576):=hm
 have HST:Hid (storeOkL ps=true):=hst
 have HR0:Hid (root=emptyL→reachR ps root=some []):=fun h=>if_pos h
 have HRY:Hid (¬ root=emptyL→∀ out,Srch (kidsW ps) (thereN ps) root out []→reachR ps root=some (textsR out)):=fun h out hs=>by
  obtain⟨h1,h2⟩:=led_end hs
  unfold reachR
  rw[if_neg h,if_pos h2,h1]
 have HRN:Hid (¬ root=emptyL→∀ out todo x,Srch (kidsW ps) (thereN ps) root out todo→x∈todo→thereN ps x=false→reachR ps root=none):=fun h out todo x hs hx ht=>by
  unfold reachR
  rw[if_neg h,if_neg]
  rw[all_no (srch_lost hs x hx ht)]
  simp
 obtain⟨em,hem⟩:∃ em,em=emptyL:=⟨_,rfl⟩
 have KE:=fun W=>spec_empty W
 obtain⟨res,hres⟩:∃ res,res=reachR ps root:=⟨_,rfl⟩
 rw[←hem] at KE HR0 HRY HRN
 rw[←hres] at HR0 HRY HRN ⊢
 have B0:Below w.heap.size w ((w.alloc (.cells #[] 9)).alloc (.cells #[.string ⟨root.toArray⟩] 9)):=((Below.refl _ _).alloc (Nat.le_refl _) _).alloc (by simp) _
 have O0:Hid (((w.alloc (.cells #[] 9)).alloc (.cells #[.string ⟨root.toArray⟩] 9)).ownsRow w.heap.size 9 1 (.slice (some ⟨w.heap.size,0,none⟩) 0 0) 0 (scells [])):=(World.ownsRow_lit (e:=9) (size:=1) w #[] 0 (base:=w.heap.size) (Nat.le_refl _) (Nat.zero_le _) rfl).alloc _
 have T0:Hid (TodoAt w.heap.size ((w.alloc (.cells #[] 9)).alloc (.cells #[.string ⟨root.toArray⟩] 9)) (.slice (some ⟨w.heap.size+1,0,none⟩) 1 1) [root] (w.heap.size+1)):=by
  have:=todo_start w.heap.size (w.alloc (.cells #[] 9)) root (by simp)
  have e:(w.alloc (.cells #[] 9)).heap.size=w.heap.size+1:=by simp
  rw[e] at this
  exact this
 clear hs hm hst hres hem
 by_cases he:root=em
 · have HN:Hid (res=some []):=HR0.out he
   subst he
   clear HR0 HRY HRN
   go_enter Tryz.func21,Tryz.ntmps21
   go_wp2_with fail
   refine (KE _).mono ?_
   rintro e w1 ⟨rfl,b1⟩
   have B1:=B0.trans (b1.mono B0.size)
   have O1:=hidOwn (kept1 O0.out b1)
   go_wp2
   go_ret2
   rw[HN.out]
   exact⟨_,_,_,rfl,fun _=>⟨_,rfl⟩,O1.out,B1⟩
 · have heb : (root == em) = false := by rw [beq_eq_false_iff_ne]; exact he
   have HY:Hid (∀ out,Srch (kidsW ps) (thereN ps) root out []→res=some (textsR out)):=HRY.out he
   have HNO:Hid (∀ out todo x,Srch (kidsW ps) (thereN ps) root out todo→x∈todo→thereN ps x=false→res=none):=HRN.out he
   clear HR0 HRY HRN he
   go_enter Tryz.func21,Tryz.ntmps21
   go_wp2_with fail
   refine (KE _).mono ?_
   rintro e w1 ⟨rfl,b1⟩
   have B1:=B0.trans (b1.mono B0.size)
   have O1:=hidOwn (kept1 O0.out b1)
   have T1:Hid (TodoAt w.heap.size w1 (.slice (some ⟨w.heap.size+1,0,none⟩) 1 1) [root] (w.heap.size+1)):=T0.out.later (b1.block _ T0.out.lt) b1.size
   clear KE B0 O0 T0 b1
   go_wp2
   go_loopw [6,7,8,9,10,11,12,13,14,15] (fun v6 v7 _ _ _ _ _ _ _ _ wr=>∃ (out todo:List Bs) (g c b:Nat),v6=.slice (some ⟨g,0,none⟩) out.length c∧Hid (wr.ownsRow w.heap.size 9 1 (.slice (some ⟨g,0,none⟩) out.length c) out.length (scells out))∧Hid (TodoAt w.heap.size wr v7 todo b)∧g≠b∧Hid (Srch (kidsW ps) (thereN ps) root out todo)∧todo.length≤16*out.length+1∧Hid (Below w.heap.size w wr)) (fun v6 v7 _ _ _ _ _ _ _ _ _=>(ps.length - vlen v6)*17+vlen v7)
   case atStart=>exact⟨[],[root],w.heap.size,0,w.heap.size+1,rfl,O1,T1,by omega,srch_start _ _ _,by simp,B1⟩
   case round =>
    obtain⟨out,todo,g,c,b,rfl,HO,HT,hgb,HSR,htl,HB⟩:=hrel
    have hsz:=HB.out.size
    have hol:=out_le HSR.out
    cases todo with
    | nil =>
      obtain⟨ao,off,cp,hv7,_,_⟩:=HT.out.ex
      subst hv7
      have HN:Hid (res=some (textsR out)):=HY.out out HSR.out
      have KT:=spec_l7Texts (some ⟨g,0,none⟩) c out wr (by omega) (strs_own HO.out).2.2
      clear HY HNO HSR HT HO
      go_wp2_with fail
      refine KT.mono ?_
      rintro e w2 ⟨g2,c2,rfl,o2,b2⟩
      have B2:=HB.out.trans (b2.mono hsz)
      have O2:=hidOwn (o2.mono hsz)
      clear KT o2 b2
      go_wp2
      go_ret2
      rw[HN.out]
      exact⟨_,_,_,rfl,fun _=>⟨_,rfl⟩,O2.out,B2⟩
    | cons x xs =>
      obtain⟨off,cp,rfl,hcp,hbl,hcell,hdrop,hdrop0⟩:=HT.out.head
      have hlen0:(0:Int)<(xs.length:Int)+1:=by omega
      obtain⟨wo,hwo⟩:∃ wo,wo=wr:=⟨_,rfl⟩
      rw[←hwo] at HO HT HB hsz hbl hcell hdrop hdrop0
      subst hwo
      go_upto_region 7 with fail
      go_cut [7] from 23 to 84 (fun v7 wx=>wx=wo∧Hid (TodoAt w.heap.size wo v7 xs b))
      case first =>
       by_cases hc1:cp=1
       · obtain rfl:xs=[]:=List.length_eq_zero_iff.1 (by omega)
         subst hc1
         have hd0:=hidTodo (hdrop0 rfl)
         clear hdrop hdrop0 HT HO HSR HY HNO
         go_wp2
         go_meet
         case rel=>exact⟨rfl,hd0.out _⟩
       · have hd1:Hid (TodoAt w.heap.size wo (.slice (some ⟨b,off+1,none⟩) xs.length (cp - 1)) xs b):=hdrop
         have hcp1:(1:Int)≤(cp:Int):=by omega
         clear hdrop hdrop0 HT HO HSR HY HNO
         go_wp2
         go_meet
         case rel=>exact⟨rfl,hd1⟩
      case rest =>
       obtain⟨rfl,HT7⟩:=hcut
       obtain⟨ao,off7,cp7,hv7,_,_⟩:=HT7.out.ex
       subst hv7
       go_wp2
       go_loopw [9,10] (fun v9 v10 wi=>∃ (j:Nat) (od:Bool),j≤out.length∧v10=.int .i64 (j:Int)∧v9=.bool od∧Hid (od=true↔x∈out.take j)∧wi=wc) (fun _ v10 _=>out.length - (intOf v10).toNat)
       case atStart=>exact⟨0,false,Nat.zero_le _,rfl,rfl,by simp[Hid],rfl⟩
       case round =>
        obtain⟨j,od,hj,rfl,rfl,HOD,hwr⟩:=hrel
        subst hwr
        have hj0:(0:Int)≤(j:Int):=by omega
        by_cases hlt:j<out.length
        · have hji : (j : Int) < (out.length : Int) := by omega
          have dj:wr.cell? ⟨g,j,none⟩=some (.string ⟨out[j].toArray⟩):=by
           have:=HO.out.cellAt j (by omega)
           rw[this]
           simp[scells,hlt]
          have HM1:=mem_take_succ hlt x
          obtain⟨y,hy⟩:∃ y,y=out[j]:=⟨_,rfl⟩
          rw[←hy] at dj HM1
          clear hy
          cases od with
          | true =>
            have H1:Hid (true=true↔x∈out.take (j+1)):=⟨fun _=>HM1.2 (.inl (HOD.out.1 rfl)),fun _=>rfl⟩
            clear HM1 HOD
            go_wp2
            go_roundw
            case rel=>exact⟨j+1,true,by omega,by go_num,rfl,H1,by first | exact trivial | rfl⟩
            case measure=>simp[intOf];omega
          | false =>
            by_cases hyx:y=x
            · have H1:Hid (true=true↔x∈out.take (j+1)):=⟨fun _=>HM1.2 (.inr hyx),fun _=>rfl⟩
              have hyb:(y == x)=true:=by rw[beq_iff_eq];exact hyx
              clear HM1 HOD
              subst hyx
              go_wp2
              go_roundw
              case rel=>exact⟨j+1,true,by omega,by go_num,rfl,H1,by first | exact trivial | rfl⟩
              case measure=>simp[intOf];omega
            · have H1:Hid (false=true↔x∈out.take (j+1)):=⟨fun h=>absurd h (by decide),fun h=>by
               rcases HM1.1 h with h | h
               · exact absurd (HOD.out.2 h) (by decide)
               · exact absurd h hyx⟩
              have hyb:(y == x)=false:=by rw[beq_eq_false_iff_ne];exact hyx
              clear HM1 HOD
              go_wp2
              go_roundw
              case rel=>exact⟨j+1,false,by omega,by go_num,rfl,H1,by first | exact trivial | rfl⟩
              case measure=>simp[intOf];omega
        · obtain rfl : j = out.length := by omega
          have hji:¬ (out.length:Int)<(out.length:Int):=by omega
          have hod:=HOD.out
          rw[List.take_length] at hod
          clear HOD
          cases od with
          | true =>
            have HS2:Hid (Srch (kidsW ps) (thereN ps) root out xs):=srch_old HSR.out x (hod.1 rfl) (fun y hy=>List.mem_cons_of_mem _ hy) (fun y hy=>List.mem_cons.1 hy)
            have htl2:xs.length≤16*out.length+1:=by simp only[List.length_cons] at htl;omega
            clear hod HY HNO HSR
            go_wp2
            go_roundw
            case rel=>exact⟨out,xs,g,c,b,rfl,HO,HT7,hgb,HS2,htl2,HB⟩
            case measure=>simp[vlen]
          | false =>
            have hno:x ∉ out:=fun h=>absurd (hod.2 h) (by decide)
            have KF:=spec_l6Find a cap ps x wr hl (HS.out wr HB.out)
            cases hfd:findL ps x with
            | none =>
              have HN:Hid (res=none):=HNO.out out (x :: xs) x HSR.out (by simp) (by unfold thereN;rw[hfd];rfl)
              rw[hfd] at KF
              simp only[Option.getD_none,Option.isSome_none] at KF
              clear hfd hno hod HY HNO HSR
              go_wp2_with fail
              refine KF.mono ?_
              rintro e w3 ⟨rfl,b3⟩
              have B3:=HB.out.trans (b3.mono hsz)
              go_wp2
              go_ret2
              exact rpn_none HN.out B3
            | some t =>
              have htl3:=findL_small ps HM.out x t hfd
              obtain⟨_,_,_,_,htr⟩:=findL_ok ps HST.out x t hfd
              have hok:=nodeAt_ok t htr
              have HKR:Hid (∀ W,Calls Tryz.prog 37 #[.string ⟨t.toArray⟩] W fun e w'=>ReadPost W (readNode t) e w'):=fun W=>spec_readNode t W htl3
              obtain⟨nd,hnd⟩:∃ nd,nd=nodeAt t:=⟨_,rfl⟩
              obtain⟨k,q,ls,z⟩:=nd
              have HRP:Hid (∀ W W' e,ReadPost W (readNode t) e W'→∃ (a:Option Addr) (c:Nat),e=.returned (.tuple #[.agg #[.int .i64 k,.string ⟨q.toArray⟩,.slice a ls.length c,.string ⟨z.toArray⟩],.bool true])∧W'.ownsRow W.heap.size 9 1 (.slice a ls.length c) ls.length (scells ls)∧Below W.heap.size W W'):=fun W W' e hh=>by
               obtain⟨a9,c9,h1,h2,h3⟩:=read_post hh
               rw[htr,←hnd] at h1
               rw[←hnd] at h2
               exact⟨a9,c9,h1,h2,h3⟩
              rw[←hnd] at hok
              have hl16:ls.length≤16:=by
               rcases (ok_parts _ hok).2.2.2 with ⟨_,h2,_⟩ | ⟨_,_,_,y,h4,_⟩ | ⟨_,_,h3,_⟩
               · rw[show ls=[] from h2];simp
               · rw[show ls=[y] from h4];simp
               · have:ls.length=16:=h3
                 omega
              have HKD:Hid (kidsW ps x=ls.filter (fun x => !x.isEmpty)):=kidsW_some hfd hnd.symm
              have HTX:Hid (thereN ps x=true):=by rw[Hid];unfold thereN;rw[hfd];rfl
              rw[hfd] at KF
              simp only[Option.getD_some,Option.isSome_some] at KF
              clear hfd hok htr hnd hod
              go_wp2_with fail
              refine KF.mono ?_
              rintro e w3 ⟨rfl,b3⟩
              have O3:=hidOwn (kept1 HO.out b3)
              have T3:Hid (TodoAt w.heap.size w3 (.slice ao xs.length cp7) xs b):=HT7.out.later (b3.block _ HT7.out.lt) b3.size
              have B3:Hid (Below w.heap.size w w3):=HB.out.trans (b3.mono hsz)
              have hsz3:w.heap.size≤w3.heap.size:=Nat.le_trans hsz b3.size
              have hb3:b<w3.heap.size:=T3.out.lt
              have hg3:g<w3.heap.size:=(O3.out.lt g (by simp[Value.ownBlock])).2
              clear KF b3
              go_wp2_with (at_builtin;refine wpList_append_lies _ rfl _ _ 25 rfl w.heap.size 9 i0 (.string ⟨#[]⟩) 1 16 Tryz.underlying25 hi0 hz0 hz1 hz2 rfl (by decide) (.slice (some ⟨g,0,none⟩) out.length c) out.length _ rfl (O3.out.alloc _) ⟨w3.heap.size,0,none⟩ 1 1 [.string ⟨x.toArray⟩] rfl rfl (World.news_of_block (cs:=#[.string ⟨x.toArray⟩]) (t:=9) (fr:=(0,0)) (heap_alloc_new w3 _)) (by simp[Value.oneCell']) (by omega) (by unfold maxLen;omega) (by omega) (by simp;omega) (w3.heap.size+1) (by simp) ?_)
              intro g5 cap5 w5 hown5 hgrow5 hat5 hlt5
              have hg5b:g5≠b:=by
               rcases hat5 with h | h
               · simp only[Value.ownBlock,Option.some.injEq] at h
                 omega
               · (try simp at h);omega
              have hs5:w3.heap.size+1≤w5.heap.size:=by have:=hgrow5.size;simp at this;omega
              have T5:Hid (TodoAt w.heap.size w5 (.slice ao xs.length cp7) xs b):=T3.out.later ((hgrow5.block b (by simp;omega) (fun e=>by simp[Value.ownBlock] at e;omega)).trans (heap_alloc_old w3 _ hb3)) (by omega)
              have B5:Hid (Below w.heap.size w w5):=(B3.out.alloc hsz3 _).grown hgrow5 (by simp;omega) (fun q hq=>by simp[Value.ownBlock] at hq;have:=(O3.out.lt g (by simp[Value.ownBlock])).1;omega)
              have O5:Hid (w5.ownsRow w.heap.size 9 1 (.slice (some ⟨g5,0,none⟩) (out.length+1) cap5) (out.length+1) (scells (out ++ [x]))):=by rw[Hid,scells_snoc];exact hown5
              clear hown5 hgrow5 hat5 O3 T3 B3
              go_wp2_with fail
              refine (HKR.out w5).mono ?_
              rintro e w6 h6
              obtain⟨a6,c6,rfl,o6,b6⟩:=HRP.out _ _ _ h6
              have hs6:=b6.size
              have BA:Below w6.heap.size w6 (w6.alloc (.cells #[.int .i64 k,.string ⟨q.toArray⟩,.slice a6 ls.length c6,.string ⟨z.toArray⟩] 74)):=(Below.refl _ _).alloc (Nat.le_refl _) _
              have C7:Below w5.heap.size w5 (w6.alloc (.cells #[.int .i64 k,.string ⟨q.toArray⟩,.slice a6 ls.length c6,.string ⟨z.toArray⟩] 74)):=b6.trans (BA.mono hs6)
              have O7:=hidOwn (kept1 O5.out C7)
              have T7:Hid (TodoAt w.heap.size (w6.alloc (.cells #[.int .i64 k,.string ⟨q.toArray⟩,.slice a6 ls.length c6,.string ⟨z.toArray⟩] 74)) (.slice ao xs.length cp7) xs b):=T5.out.later (C7.block _ T5.out.lt) C7.size
              have B7:Hid (Below w.heap.size w (w6.alloc (.cells #[.int .i64 k,.string ⟨q.toArray⟩,.slice a6 ls.length c6,.string ⟨z.toArray⟩] 74))):=B5.out.trans (C7.mono B5.out.size)
              have Q7:Hid ((w6.alloc (.cells #[.int .i64 k,.string ⟨q.toArray⟩,.slice a6 ls.length c6,.string ⟨z.toArray⟩] 74)).heap[w6.heap.size]? = some (.cells #[.int .i64 k,.string ⟨q.toArray⟩,.slice a6 ls.length c6,.string ⟨z.toArray⟩] 74 (0,0))):=heap_alloc_new w6 _
              have HK7:Hid (∀ j,j<ls.length→∃ bk,a6=some ⟨bk,0,none⟩∧w5.heap.size≤bk∧bk<w6.heap.size∧(w6.alloc (.cells #[.int .i64 k,.string ⟨q.toArray⟩,.slice a6 ls.length c6,.string ⟨z.toArray⟩] 74)).cell? ⟨bk,j,none⟩=some (.string ⟨(ls.getD j []).toArray⟩)):=fun j hj=>by
               rcases own_cases o6 with ⟨hv,h0,_⟩ | ⟨g9,c9,hv,h1,h2,h3,_⟩
               · omega
               · cases hv
                 refine⟨g9,rfl,h1,h2,?_⟩
                 have h4:=h3 j (by simpa using hj)
                 refine (BA.cell (p:=⟨g9,j,none⟩) h2).trans (h4.trans ?_)
                 simp[scells,hj]
              have hb6:b<w6.heap.size:=by have:=T5.out.lt;omega
              have hb5:b<w5.heap.size:=T5.out.lt
              have hg6:g5<w6.heap.size:=by have:=(O5.out.lt g5 (by simp[Value.ownBlock])).2;omega
              clear o6 b6 h6 HKR HRP T5 O5 B5 BA C7 HT HT7 HO HB
              go_wp2
              obtain⟨nb,hnb⟩:∃ nb,nb=w6.heap.size:=⟨_,rfl⟩
              have hW7s:(w6.alloc (.cells #[.int .i64 k,.string ⟨q.toArray⟩,.slice a6 ls.length c6,.string ⟨z.toArray⟩] 74)).heap.size=nb+1:=by rw[hnb];simp
              obtain⟨W7,hW7⟩:∃ W7,W7=(w6.alloc (.cells #[.int .i64 k,.string ⟨q.toArray⟩,.slice a6 ls.length c6,.string ⟨z.toArray⟩] 74)):=⟨_,rfl⟩
              rw[←hW7] at O7 T7 B7 Q7 HK7 hW7s ⊢
              rw[←hnb] at Q7 HK7 hb6 hg6 ⊢
              clear hW7 hnb hs6
              go_loopw [7,15] (fun v7 v15 wi=>∃ (j b':Nat) (td:List Bs),j≤ls.length∧v15=.int .i64 (j:Int)∧Hid (td=xs ++ (ls.take j).filter (fun x => !x.isEmpty))∧td.length≤xs.length+j∧Hid (TodoAt w.heap.size wi v7 td b')∧(b'=b∨nb+1≤b')∧Hid (KeptT W7 wi b)) (fun _ v15 _=>ls.length - (intOf v15).toNat)
              case atStart=>exact⟨0,b,xs,Nat.zero_le _,rfl,by simp[Hid],by omega,T7,.inl rfl,KeptT.refl _ _⟩
              case round =>
               obtain⟨j,b9,td,hj,rfl,HTD,htdl,HTi,hb9,HKi⟩:=hrel
               have hszi:nb+1≤wr.heap.size:=by have:=HKi.out.size;omega
               obtain⟨z0,z1,z2,z3,_⟩:=quad_cells ((HKi.out.block nb (by omega) (by omega)).trans Q7.out)
               obtain⟨ao9,off9,cp9,hv9,_,_⟩:=HTi.out.ex
               subst hv9
               by_cases hlt:j<ls.length
               · have hji:(j:Int)<(ls.length:Int):=by omega
                 have hj0':(0:Int)≤(j:Int):=by omega
                 obtain⟨bk,ha6,hk1,hk2,hkc⟩:=HK7.out j hlt
                 subst ha6
                 have d1:=(World.cell?_of_block (a:=⟨bk,j,none⟩) (HKi.out.block bk (by omega) (by omega))).trans hkc
                 have HF1:=filter_step hlt
                 obtain⟨kid,hkid⟩:∃ kid,kid=ls.getD j []:=⟨_,rfl⟩
                 rw[←hkid] at d1 HF1
                 clear hkid hkc
                 cases hke:kid.isEmpty with
                 | true =>
                   have HTD1:Hid (td=xs ++ (ls.take (j+1)).filter (fun x => !x.isEmpty)):=by rw[Hid,HTD.out,HF1,hke];simp
                   obtain rfl:kid=[]:=List.isEmpty_iff.1 hke
                   clear HF1 HTD hke
                   go_wp2
                   go_roundw
                   case rel=>exact⟨j+1,b9,td,by omega,by go_num,HTD1,by omega,HTi,hb9,HKi⟩
                   case measure=>simp[intOf];omega
                 | false =>
                   have HTD1:Hid (td ++ [kid]=xs ++ (ls.take (j+1)).filter (fun x => !x.isEmpty)):=by rw[Hid,HTD.out,HF1,hke];simp
                   have TA:Hid (TodoAt w.heap.size (wr.alloc (.cells #[.string ⟨kid.toArray⟩] 9)) (.slice ao9 td.length cp9) td b9):=HTi.out.later (Below.heap_alloc _ _ _ HTi.out.lt) (by simp)
                   have KA:Hid (KeptT W7 (wr.alloc (.cells #[.string ⟨kid.toArray⟩] 9)) b):=HKi.out.alloc _
                   have hkl:(wr.alloc (.cells #[.string ⟨kid.toArray⟩] 9)).cell? ⟨wr.heap.size,0,none⟩=some (.string ⟨kid.toArray⟩):=(one_cellT (heap_alloc_new wr (.cells #[.string ⟨kid.toArray⟩] 9)))
                   have hwl:w.heap.size≤(wr.alloc (.cells #[.string ⟨kid.toArray⟩] 9)).heap.size:=by have:=B7.out.size;simp;omega
                   have htn:td.length≤1000000:=by simp only[List.length_cons] at htl;omega
                   clear HF1 HTD
                   go_wp2_with (at_builtin;refine wpList_append_todo rfl _ _ rfl (.slice ao9 td.length cp9) rfl TA.out hwl htn kid wr.heap.size 1 rfl hkl ?_)
                   intro v8 w8 b8 t1 t2 t3 t4 t5 t6 t7
                   have HT8:Hid (TodoAt w.heap.size w8 v8 (td ++ [kid]) b8):=t1
                   have HK8:Hid (KeptT W7 w8 b):=KA.out.next t3 t4 t5 (by simpa using t6) (fun q h1 h2=>t7 q (by have:=KA.out.size;omega) (by rcases hb9 with h | h <;> omega))
                   have hb8:b8=b∨nb+1≤b8:=by
                    rcases t2 with h | h
                    · rw[h];exact hb9
                    · right;rw[h];simp;omega
                   have htd8:(td ++ [kid]).length≤xs.length+(j+1):=by rw[List.length_append];simp;omega
                   clear t1 t2 t3 t4 t5 t6 t7 TA KA
                   go_wp2
                   go_roundw
                   case rel=>exact⟨j+1,b8,td ++ [kid],by omega,by go_num,HTD1,htd8,HT8,hb8,HK8⟩
                   case measure=>simp[intOf];omega
               · obtain rfl:j=ls.length:=by omega
                 have hji:¬ (ls.length:Int)<(ls.length:Int):=by omega
                 have htd:=HTD.out
                 rw[List.take_length,←HKD.out] at htd
                 have HS3:Hid (Srch (kidsW ps) (thereN ps) root (out ++ [x]) td):=by
                  refine srch_new HSR.out x (by simp) hno HTX.out (fun y hy=>?_) (fun y hy=>?_) (fun y hy=>?_)
                  · rw[htd,List.mem_append] at hy
                    exact hy.imp (List.mem_cons_of_mem _) id
                  · rcases List.mem_cons.1 hy with h | h
                    · exact .inl h
                    · exact .inr (by rw[htd];exact List.mem_append_left _ h)
                  · rw[htd];exact List.mem_append_right _ hy
                 have hol2:=out_le HS3.out
                 have hlx:(out ++ [x]).length=out.length+1:=by simp
                 rw[hlx] at hol2
                 have HO9:Hid (wr.ownsRow w.heap.size 9 1 (.slice (some ⟨g5,0,none⟩) (out ++ [x]).length cap5) (out ++ [x]).length (scells (out ++ [x]))):=by
                  rw[Hid,hlx]
                  exact own_blockR O7.out fun q hq=>by
                   simp only[Value.ownBlock,Option.some.injEq] at hq
                   subst hq
                   exact HKi.out.block g5 (by omega) hg5b
                 have HB9:Hid (Below w.heap.size w wr):=HKi.out.belowT B7.out T7.out.low
                 have hgb9:g5≠b9:=by rcases hb9 with h | h <;> omega
                 have htl9:td.length≤16*(out ++ [x]).length+1:=by rw[hlx];simp only[List.length_cons] at htl;omega
                 clear htd HTD
                 go_wp2
                 go_roundw
                 case rel=>exact⟨out ++ [x],td,g5,cap5,b9,by rw[hlx],HO9,HTi,hgb9,HS3,htl9,HB9⟩
                 case measure =>
                  simp only[vlen]
                  omega
end Go.Proofs.YtokfcfcdfhoejaaGreatDoor
