/-
 Lists of items written and read again, on lists of bytes.
-/
import Derived.Test.YtkbiegocclfnnaaDoorMathAll
namespace Go.Proofs.YtkbiegocclfnnaaDoor
open Go.RowKit
set_option linter.unusedVariables false
theorem takeL_front (l:List UInt8) (k:Nat) (bd more:List UInt8) (h:takeL l=some (k,bd,more)):∃ x,l=x ++ more∧x≠[]∧∀ r,takeL (x ++ r)=some (k,bd,r):=by
 have hless:=(takeL_less l k bd more h).1
 rcases takeL_kind l k bd more h with rfl | rfl
 · obtain⟨e,hl⟩:=takeL_text_back l bd more h
   refine⟨textB bd,e.symm,fun e0=>?_,fun r=>takeL_text_fore bd r hl⟩
   rw[e0] at e;rw[←e] at hless;simp at hless
 · obtain⟨e,hl⟩:=takeL_list_back l bd more h
   refine⟨wrapB bd 192,e.symm,fun e0=>?_,fun r=>takeL_list_fore bd r hl⟩
   rw[e0] at e;rw[←e] at hless;simp at hless
theorem itemsF_one (f k:Nat) (x r bd:List UInt8) (hx:x≠[]) (h:takeL (x ++ r)=some (k,bd,r)):itemsF (f+1) (x ++ r)=(itemsF f r).map fun t=>x :: t:=by
 cases x with
 | nil=>exact absurd rfl hx
 | cons b x' =>
   rw[List.cons_append] at h ⊢
   rw[itemsF_some f b (x' ++ r) k bd r h]
   have e:(b :: (x' ++ r)).take ((b :: (x' ++ r)).length - r.length)=b :: x':=by
    have:(b :: (x' ++ r)).length - r.length=(b :: x').length:=by simp;omega
    rw[this,←List.cons_append,List.take_left']
    rfl
   rw[e]
theorem itemsF_back:∀ (f:Nat) (l:List UInt8) (ls:List (List UInt8)),itemsF f l=some ls→ls.flatten=l∧ls.all isItemL=true:=by
 intro f
 induction f with
 | zero =>
   intro l ls h
   cases l with
   | nil=>rw[itemsF_nil] at h;cases h;exact⟨rfl,rfl⟩
   | cons b r=>cases h
 | succ f ih =>
   intro l ls h
   cases l with
   | nil=>rw[itemsF_nil] at h;cases h;exact⟨rfl,rfl⟩
   | cons b r =>
     cases ht:takeL (b :: r) with
     | none=>rw[itemsF_none _ b r ht] at h;cases h
     | some y =>
       obtain⟨k,bd,more⟩:=y
       obtain⟨x,hx,hne,hr⟩:=takeL_front _ k bd more ht
       rw[hx,itemsF_one f k x more bd hne (hr more)] at h
       cases hi:itemsF f more with
       | none=>rw[hi] at h;cases h
       | some t =>
         rw[hi] at h
         simp only[Option.map_some,Option.some.injEq] at h
         subst h
         obtain⟨h1,h2⟩:=ih more t hi
         have hx0:=hr []
         rw[List.append_nil] at hx0
         exact⟨by rw[List.flatten_cons,h1,hx],by simp[h2,isItemL_yes x k bd hx0]⟩
theorem list_items (b:List UInt8) (ls:List (List UInt8)) (h:itemsL b=some ls):listL ls=b:=by
 cases ht:takeL b with
 | none=>rw[itemsL_none b ht] at h;cases h
 | some y =>
   obtain⟨k,bd,rest⟩:=y
   by_cases hk:k≠2∨rest≠[]
   · rw[itemsL_kind b k bd rest ht hk] at h;cases h
   · have hk2:k=2:=by omega
     have hr:rest=[]:=Classical.byContradiction fun hn=>hk (.inr hn)
     subst hk2 hr
     rw[itemsL_list b bd ht] at h
     obtain⟨h1,h2⟩:=itemsF_back _ _ _ h
     obtain⟨e,hl⟩:=takeL_list_back b bd [] ht
     rw[List.append_nil] at e
     rw[listL_yes ls (by rw[h1];exact hl) h2,h1,e]
theorem items_len (b:List UInt8) (ls:List (List UInt8)) (h:itemsL b=some ls):ls.flatten.length≤b.length:=by
 have e:=list_items b ls h
 by_cases hc:ls.flatten.length≤60000∧ls.all isItemL=true
 · have e1:listL ls=wrapB ls.flatten 192:=if_pos hc
   rw[←e,e1,wrapB]
   split <;> simp <;> omega
 · have e1:listL ls=[]:=if_neg hc
   rw[e1] at e
   subst e
   cases h
theorem all_num:∀ ls:List (List UInt8),ls.all isItemL=true→ls.length≤ls.flatten.length:=by
 intro ls
 induction ls with
 | nil=>intro _;simp
 | cons x r ih =>
   intro h
   simp only[List.all_cons,Bool.and_eq_true] at h
   have:=ih h.2
   have hx:1≤x.length:=by cases x with
    | nil=>exact absurd h.1 (by decide)
    | cons b t=>simp
   rw[List.flatten_cons,List.length_append,List.length_cons]
   omega
theorem items_num (b:List UInt8) (ls:List (List UInt8)) (h:itemsL b=some ls):ls.length≤b.length:=by
 have e:=list_items b ls h
 have hl:=items_len b ls h
 by_cases hc:ls.flatten.length≤60000∧ls.all isItemL=true
 · have:=all_num ls hc.2
   omega
 · have e1:listL ls=[]:=if_neg hc
   rw[e1] at e
   subst e
   cases h
end Go.Proofs.YtkbiegocclfnnaaDoor
