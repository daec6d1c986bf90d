/-
 Texts that are laid as one: MathBackL, MathTs, MathRN.
-/
import Derived.Test.YtahocpjieffbaaaGreatDoorMathAll
import Derived.Test.YtahocpjieffbaaaGreatDoorINodes
import Derived.Test.YtahocpjieffbaaaGreatDoorIReads
namespace Go.Proofs.YtahocpjieffbaaaGreatDoor
open Go.RowKit
set_option linter.unusedVariables false
theorem takeL_front (l:List UInt8) (k:Nat) (bd more:List UInt8) (h:takeL l=some (k,bd,more)):∃ x,l=x ++ more∧x≠[]∧∀ r,takeL (x ++ r)=some (k,bd,r):=by
 have hless:=(takeL_less l k bd more h).1
 rcases takeL_kind l k bd more h with rfl | rfl
 · obtain⟨e,hl⟩:=takeL_text_back l bd more h
   refine⟨textB bd,e.symm,fun e0=>?_,fun r=>takeL_text_fore bd r hl⟩
   rw[e0] at e;rw[←e] at hless;simp at hless
 · obtain⟨e,hl⟩:=takeL_list_back l bd more h
   refine⟨wrapB bd 192,e.symm,fun e0=>?_,fun r=>takeL_list_fore bd r hl⟩
   rw[e0] at e;rw[←e] at hless;simp at hless
theorem isItem_is (x:List UInt8) (h:isItemL x=true):∃ k bd,takeL x=some (k,bd,[]):=by
 unfold isItemL at h
 cases ht:takeL x with
 | none=>rw[ht] at h;cases h
 | some y =>
   obtain⟨k,bd,rest⟩:=y
   cases rest with
   | nil=>exact⟨k,bd,rfl⟩
   | cons a r=>rw[ht] at h;cases h
theorem itemsF_one (f k:Nat) (x r bd:List UInt8) (hx:x≠[]) (h:takeL (x ++ r)=some (k,bd,r)):itemsF (f+1) (x ++ r)=(itemsF f r).map fun t=>x :: t:=by
 cases x with
 | nil=>exact absurd rfl hx
 | cons b x' =>
   rw[List.cons_append] at h ⊢
   rw[itemsF_some f b (x' ++ r) k bd r h]
   have e:(b :: (x' ++ r)).take ((b :: (x' ++ r)).length - r.length)=b :: x':=by
    have:(b :: (x' ++ r)).length - r.length=(b :: x').length:=by simp;omega
    rw[this,←List.cons_append,List.take_left']
    rfl
   rw[e]
theorem itemsF_fore:∀ (ls:List (List UInt8)) (f:Nat),ls.all isItemL=true→ls.flatten.length≤f→itemsF f ls.flatten=some ls:=by
 intro ls
 induction ls with
 | nil=>intro f _ _;exact itemsF_nil f
 | cons x r ih =>
   intro f ha hf
   simp only[List.all_cons,Bool.and_eq_true] at ha
   obtain⟨k,bd,hk⟩:=isItem_is x ha.1
   obtain⟨y,hy,hne,hr⟩:=takeL_front x k bd [] hk
   rw[List.append_nil] at hy
   subst hy
   rw[List.flatten_cons] at hf ⊢
   have hxl:1≤x.length:=by cases x with
    | nil=>exact absurd rfl hne
    | cons b t=>simp
   rw[List.length_append] at hf
   obtain⟨f',rfl⟩:∃ f',f=f'+1:=⟨f - 1,by omega⟩
   rw[itemsF_one f' k x _ bd hne (hr _),ih f' ha.2 (by omega)]
   rfl
theorem itemsF_back:∀ (f:Nat) (l:List UInt8) (ls:List (List UInt8)),itemsF f l=some ls→ls.flatten=l∧ls.all isItemL=true:=by
 intro f
 induction f with
 | zero =>
   intro l ls h
   cases l with
   | nil=>rw[itemsF_nil] at h;cases h;exact⟨rfl,rfl⟩
   | cons b r=>cases h
 | succ f ih =>
   intro l ls h
   cases l with
   | nil=>rw[itemsF_nil] at h;cases h;exact⟨rfl,rfl⟩
   | cons b r =>
     cases ht:takeL (b :: r) with
     | none=>rw[itemsF_none _ b r ht] at h;cases h
     | some y =>
       obtain⟨k,bd,more⟩:=y
       obtain⟨x,hx,hne,hr⟩:=takeL_front _ k bd more ht
       rw[hx,itemsF_one f k x more bd hne (hr more)] at h
       cases hi:itemsF f more with
       | none=>rw[hi] at h;cases h
       | some t =>
         rw[hi] at h
         simp only[Option.map_some,Option.some.injEq] at h
         subst h
         obtain⟨h1,h2⟩:=ih more t hi
         have hx0:=hr []
         rw[List.append_nil] at hx0
         exact⟨by rw[List.flatten_cons,h1,hx],by simp[h2,isItemL_yes x k bd hx0]⟩
theorem items_list (ls:List (List UInt8)):(listL ls=[]∧itemsL (listL ls)=none)∨(listL ls≠[]∧itemsL (listL ls)=some ls):=by
 by_cases h:ls.flatten.length≤60000∧ls.all isItemL=true
 · have e:listL ls=wrapB ls.flatten 192:=if_pos h
   right
   have ht:=takeL_list_fore ls.flatten [] h.1
   rw[List.append_nil] at ht
   rw[e]
   refine⟨fun e0=>?_,?_⟩
   · rw[e0] at ht;cases ht
   · rw[itemsL_list _ _ ht,itemsF_fore ls _ h.2 (Nat.le_refl _)]
 · have e:listL ls=[]:=if_neg h
   exact .inl ⟨e,by rw[e];rfl⟩
theorem list_items (b:List UInt8) (ls:List (List UInt8)) (h:itemsL b=some ls):listL ls=b:=by
 cases ht:takeL b with
 | none=>rw[itemsL_none b ht] at h;cases h
 | some y =>
   obtain⟨k,bd,rest⟩:=y
   by_cases hk:k≠2∨rest≠[]
   · rw[itemsL_kind b k bd rest ht hk] at h;cases h
   · have hk2:k=2:=by omega
     have hr:rest=[]:=Classical.byContradiction fun hn=>hk (.inr hn)
     subst hk2 hr
     rw[itemsL_list b bd ht] at h
     obtain⟨h1,h2⟩:=itemsF_back _ _ _ h
     obtain⟨e,hl⟩:=takeL_list_back b bd [] ht
     rw[List.append_nil] at e
     rw[listL_yes ls (by rw[h1];exact hl) h2,h1,e]
theorem items_len (b:List UInt8) (ls:List (List UInt8)) (h:itemsL b=some ls):ls.flatten.length≤b.length:=by
 have e:=list_items b ls h
 by_cases hc:ls.flatten.length≤60000∧ls.all isItemL=true
 · have e1:listL ls=wrapB ls.flatten 192:=if_pos hc
   rw[←e,e1,wrapB]
   split <;> simp <;> omega
 · have e1:listL ls=[]:=if_neg hc
   rw[e1] at e
   subst e
   cases h
theorem all_num:∀ ls:List (List UInt8),ls.all isItemL=true→ls.length≤ls.flatten.length:=by
 intro ls
 induction ls with
 | nil=>intro _;simp
 | cons x r ih =>
   intro h
   simp only[List.all_cons,Bool.and_eq_true] at h
   have:=ih h.2
   have hx:1≤x.length:=by cases x with
    | nil=>exact absurd h.1 (by decide)
    | cons b t=>simp
   rw[List.flatten_cons,List.length_append,List.length_cons]
   omega
theorem items_num (b:List UInt8) (ls:List (List UInt8)) (h:itemsL b=some ls):ls.length≤b.length:=by
 have e:=list_items b ls h
 have hl:=items_len b ls h
 by_cases hc:ls.flatten.length≤60000∧ls.all isItemL=true
 · have:=all_num ls hc.2
   omega
 · have e1:listL ls=[]:=if_neg hc
   rw[e1] at e
   subst e
   cases h
def textOf (l:List UInt8):Option (List UInt8):=match takeL l with
 | some (1,b,_)=>some b
 | _=>none
def textsF:List (List UInt8)→Option (List (List UInt8))
 | []=>some []
 | l :: r => match textOf l with
   | none=>none
   | some t=>(textsF r).map (t :: ·)
def textsL (s:List UInt8):Option (List (List UInt8)):=match itemsL s with
 | none=>none
 | some ls=>textsF ls
theorem textOf_some (l b rest:List UInt8) (h:takeL l=some (1,b,rest)):textOf l=some b:=by simp only[textOf,h]
theorem textOf_none (l:List UInt8) (h:takeL l=none):textOf l=none:=by simp only[textOf,h]
theorem textOf_list (l b rest:List UInt8) (h:takeL l=some (2,b,rest)):textOf l=none:=by simp only[textOf,h]
theorem textsF_none (ls:List (List UInt8)) (j:Nat) (hj:j<ls.length) (h:textOf ls[j]=none):textsF ls=none:=by
 induction ls generalizing j with
 | nil=>simp at hj
 | cons l r ih =>
   cases j with
   | zero =>
     simp only[List.getElem_cons_zero] at h
     simp only[textsF,h]
   | succ j =>
     simp only[List.getElem_cons_succ] at h
     have:=ih j (by simpa using hj) h
     simp only[textsF,this]
     cases textOf l <;> rfl
theorem textsF_snoc (ls:List (List UInt8)) (l t:List UInt8) (ts:List (List UInt8)) (h1:textsF ls=some ts) (h2:textOf l=some t):textsF (ls ++ [l])=some (ts ++ [t]):=by
 induction ls generalizing ts with
 | nil =>
   simp only[textsF,Option.some.injEq] at h1
   subst h1
   simp[textsF,h2]
 | cons x r ih =>
   simp only[textsF] at h1
   cases hx:textOf x with
   | none=>rw[hx] at h1;cases h1
   | some y =>
     rw[hx] at h1
     cases hr:textsF r with
     | none=>rw[hr] at h1;cases h1
     | some us =>
       rw[hr] at h1
       simp at h1
       subst h1
       simp[textsF,hx,ih us hr]
theorem textsF_take (ls:List (List UInt8)) (j:Nat) (hj:j<ls.length) (t:List UInt8) (ts:List (List UInt8)) (h1:textsF (ls.take j)=some ts) (h2:textOf ls[j]=some t):textsF (ls.take (j+1))=some (ts ++ [t]):=by
 rw[List.take_succ_eq_append_getElem hj]
 exact textsF_snoc _ _ _ _ h1 h2
theorem textsF_each : ∀ (ls ts : List (List UInt8)), textsF ls = some ts → ts.length = ls.length ∧ (∀ t ∈ ts, t.length ≤ 60000) ∧ ts.flatten.length ≤ ls.flatten.length
 | [], ts, h => by
   simp only[textsF,Option.some.injEq] at h
   subst h
   simp
 | l :: r, ts, h => by
   simp only[textsF] at h
   cases hx:textOf l with
   | none=>rw[hx] at h;cases h
   | some y =>
     rw[hx] at h
     cases hr:textsF r with
     | none=>rw[hr] at h;cases h
     | some us =>
       rw[hr] at h
       simp at h
       subst h
       obtain⟨i1,i2,i3⟩:=textsF_each r us hr
       obtain⟨rest,ht⟩:∃ rest,takeL l=some (1,y,rest):=by
        unfold textOf at hx
        split at hx
        · rename_i b rest h';cases hx;exact⟨_,h'⟩
        · cases hx
       have hl:=(takeL_text_back l y rest ht).2
       have hl2:=(takeL_less l 1 y rest ht).2
       refine⟨by simp[i1],fun t ht=>?_,?_⟩
       · rcases List.mem_cons.1 ht with rfl | h
         · exact hl
         · exact i2 t h
       · rw[List.flatten_cons,List.length_append,List.flatten_cons,List.length_append];omega
theorem textsL_each (s:List UInt8) (ts:List (List UInt8)) (h:textsL s=some ts):ts.length≤s.length∧(∀ t∈ts,t.length≤60000):=by
 unfold textsL at h
 cases hi:itemsL s with
 | none=>rw[hi] at h;cases h
 | some ls =>
   rw[hi] at h
   obtain⟨h1,h2,_⟩:=textsF_each ls ts h
   have:=items_num s ls hi
   exact⟨by omega,h2⟩
structure NodeL where
 k:Int
 p:List UInt8
 ls:List (List UInt8)
 v:List UInt8
def zeroN:NodeL:=⟨0,[],[],[]⟩
def ofRead (t:List UInt8):Option (List UInt8 × Bool)→NodeL
 | none=>zeroN
 | some (x,leaf)=>if leaf=true then ⟨1,x,[],t⟩ else ⟨2,x,[t],[]⟩
def nodeOfI (ts:List (List UInt8)):NodeL :=
 if ts.length=17 then ⟨3,[],ts.take 16,ts.getD 16 []⟩ else if ts.length=2 then ofRead (ts.getD 1 []) (readI (ts.getD 0 [])) else zeroN
def nodeOfS (ts:List (List UInt8)):NodeL :=
 if ts.length=17 then ⟨3,[],ts.take 16,ts.getD 16 []⟩ else if ts.length=2 then ofRead (ts.getD 1 []) (readS (ts.getD 0 [])) else zeroN
def NodeL.ok (n:NodeL):Bool:=nodeOk n.k n.p n.ls n.v
def NodeL.text (n:NodeL):List UInt8:=nodeB n.k n.p n.ls n.v
def keepN (s:List UInt8) (n:NodeL):Option NodeL:=if n.ok=true∧n.text=s then some n else none
def readNode (s:List UInt8):Option NodeL:=match textsL s with
 | none=>none
 | some ts=>keepN s (nodeOfI ts)
theorem keepN_yes (s:List UInt8) (n:NodeL) (h1:n.ok=true) (h2:n.text=s):keepN s n=some n:=if_pos ⟨h1,h2⟩
theorem keepN_no (s:List UInt8) (n:NodeL) (h1:n.ok=false):keepN s n=none:=if_neg fun h=>by rw[h1] at h;cases h.1
theorem keepN_un (s:List UInt8) (n:NodeL) (h2:¬ n.text=s):keepN s n=none:=if_neg fun h=>h2 h.2
theorem zeroN_no:zeroN.ok=false:=by decide
theorem ofRead_far (t:List UInt8) (o:Option (List UInt8 × Bool)) (h:∀ x lf,o=some (x,lf)→24<x.length):(ofRead t o).ok=false:=by
 cases o with
 | none=>exact zeroN_no
 | some q =>
   obtain⟨x,lf⟩:=q
   have hx:=h x lf rfl
   cases lf <;> simp[ofRead,NodeL.ok,nodeOk,headOk] <;> omega
theorem nodeOf_part (s:List UInt8) (ts:List (List UInt8)):keepN s (nodeOfS ts)=keepN s (nodeOfI ts):=by
 unfold nodeOfS nodeOfI
 by_cases h17:ts.length=17
 · rw[if_pos h17,if_pos h17]
 · rw[if_neg h17,if_neg h17]
   by_cases h2:ts.length=2
   · rw[if_pos h2,if_pos h2]
     rcases read_part (ts.getD 0 []) with h | ⟨h1,h3⟩
     · rw[h]
     · rw[keepN_no s _ (ofRead_far _ _ h1),keepN_no s _ (ofRead_far _ _ h3)]
   · rw[if_neg h2,if_neg h2]
def smallN (n:NodeL):Prop:=n.p.length≤1048576∧n.v.length≤1048576∧n.ls.length≤1048576∧∀ l∈n.ls,l.length≤1048576
theorem read_small (l : List UInt8) (hl : l.length ≤ 60000) : (∀ x lf, readS l = some (x, lf) → x.length ≤ 1048576) ∧ (∀ x lf, readI l = some (x, lf) → x.length ≤ 1048576) := by
 have hL : ∀ x lf, readL l = some (x, lf) → x.length ≤ 1048576 := fun x lf h => by
  match l,h,hl with
  | b :: r, h, hl =>
    simp at hl
    simp only[readL] at h
    split at h
    · cases h
    · split at h
      · cases h;rw[List.length_cons,nibs_length];omega
      · split at h
        · cases h
        · cases h;rw[nibs_length];omega
 have hE : ∀ x lf, readE l = some (x, lf) → x.length ≤ 1048576 := fun x lf h => by
  match l,h,hl with
  | b :: r, h, hl =>
    simp at hl
    simp only[readE] at h
    split at h
    · cases h
    · split at h
      · cases h
      · split at h
        · cases h
        · cases h;rw[nibs_length];omega
 refine⟨fun x lf h=>?_,fun x lf h=>?_⟩
 · unfold readS at h
   split at h
   · exact hL x lf h
   · cases h
 · unfold readI at h
   split at h
   · exact hL x lf h
   · split at h
     · exact hE x lf h
     · cases h
theorem getD_small (ts:List (List UInt8)) (h:∀ t∈ts,t.length≤60000) (j:Nat):(ts.getD j []).length≤60000:=by
 rw[List.getD_eq_getElem?_getD]
 by_cases hj:j<ts.length
 · rw[List.getElem?_eq_getElem hj];exact h _ (List.getElem_mem _)
 · rw[List.getElem?_eq_none (by omega)];simp
theorem ofRead_small (t:List UInt8) (o:Option (List UInt8 × Bool)) (ht:t.length≤60000) (h:∀ x lf,o=some (x,lf)→x.length≤1048576):smallN (ofRead t o):=by
 cases o with
 | none=>exact⟨by simp[ofRead,zeroN],by simp[ofRead,zeroN],by simp[ofRead,zeroN],by simp[ofRead,zeroN]⟩
 | some q =>
   obtain⟨x,lf⟩:=q
   have hx:=h x lf rfl
   cases lf <;> simp[ofRead,smallN] <;> omega
theorem node_small (ts:List (List UInt8)) (h:∀ t∈ts,t.length≤60000):smallN (nodeOfI ts)∧smallN (nodeOfS ts):=by
 unfold nodeOfS nodeOfI
 by_cases h17:ts.length=17
 · rw[if_pos h17,if_pos h17]
   have h1:smallN ⟨3,[],ts.take 16,ts.getD 16 []⟩:=⟨by simp,by have:=getD_small ts h 16;show (ts.getD 16 []).length≤_;omega,by simp;omega,fun l hl=>by have:=h l (List.mem_of_mem_take hl);omega⟩
   exact⟨h1,h1⟩
 · rw[if_neg h17,if_neg h17]
   by_cases h2:ts.length=2
   · rw[if_pos h2,if_pos h2]
     have hr:=read_small (ts.getD 0 []) (getD_small ts h 0)
     exact⟨ofRead_small _ _ (getD_small ts h 1) hr.2,ofRead_small _ _ (getD_small ts h 1) hr.1⟩
   · rw[if_neg h2,if_neg h2]
     have h1:smallN zeroN:=⟨by simp[zeroN],by simp[zeroN],by simp[zeroN],by simp[zeroN]⟩
     exact⟨h1,h1⟩
end Go.Proofs.YtahocpjieffbaaaGreatDoor
