/-
 Texts that are laid as one: MathBackL, MathTs, MathRN.
-/
import Derived.Test.YtiadimhoolekbaaGreatDoorINodes
import Derived.Test.YtiadimhoolekbaaGreatDoorIReads
namespace Go.Proofs.YtiadimhoolekbaaGreatDoor
open Go.RowKit
set_option linter.unusedVariables false
theorem zry (l:List UInt8) (k:Nat) (bd more:List UInt8) (h:zr l=some (k,bd,more)):∃ x,l=x ++ more∧x≠[]∧∀ r,zr (x ++ r)=some (k,bd,r):=by
 have hless:=(zgb l k bd more h).1
 rcases zhd l k bd more h with rfl | rfl
 · obtain⟨e,hl⟩:=zre l bd more h
   refine⟨za5 bd,e.symm,fun e0=>?_,fun r=>zlw bd r hl⟩
   rw[e0] at e;rw[←e] at hless;simp at hless
 · obtain⟨e,hl⟩:=zrf l bd more h
   refine⟨zae bd 192,e.symm,fun e0=>?_,fun r=>zra bd r hl⟩
   rw[e0] at e;rw[←e] at hless;simp at hless
theorem za1h (x:List UInt8) (h:zaq x=true):∃ k bd,zr x=some (k,bd,[]):=by
 unfold zaq at h
 cases ht:zr x with
 | none=>rw[ht] at h;cases h
 | some y =>
   obtain⟨k,bd,rest⟩:=y
   cases rest with
   | nil=>exact⟨k,bd,rfl⟩
   | cons a r=>rw[ht] at h;cases h
theorem zrz (f k:Nat) (x r bd:List UInt8) (hx:x≠[]) (h:zr (x ++ r)=some (k,bd,r)):zav (f+1) (x ++ r)=(zav f r).map fun t=>x :: t:=by
 cases x with
 | nil=>exact absurd rfl hx
 | cons b x' =>
   rw[List.cons_append] at h ⊢
   rw[zly f b (x' ++ r) k bd r h]
   have e:(b :: (x' ++ r)).take ((b :: (x' ++ r)).length - r.length)=b :: x':=by
    have:(b :: (x' ++ r)).length - r.length=(b :: x').length:=by simp;omega
    rw[this,←List.cons_append,List.take_left']
    rfl
   rw[e]
theorem za1i:∀ (ls:List (List UInt8)) (f:Nat),ls.all zaq=true→ls.flatten.length≤f→zav f ls.flatten=some ls:=by
 intro ls
 induction ls with
 | nil=>intro f _ _;exact zhc f
 | cons x r ih =>
   intro f ha hf
   simp only[List.all_cons,Bool.and_eq_true] at ha
   obtain⟨k,bd,hk⟩:=za1h x ha.1
   obtain⟨y,hy,hne,hr⟩:=zry x k bd [] hk
   rw[List.append_nil] at hy
   subst hy
   rw[List.flatten_cons] at hf ⊢
   have hxl:1≤x.length:=by cases x with
    | nil=>exact absurd rfl hne
    | cons b t=>simp
   rw[List.length_append] at hf
   obtain⟨f',rfl⟩:∃ f',f=f'+1:=⟨f - 1,by omega⟩
   rw[zrz f' k x _ bd hne (hr _),ih f' ha.2 (by omega)]
   rfl
theorem za1j:∀ (f:Nat) (l:List UInt8) (ls:List (List UInt8)),zav f l=some ls→ls.flatten=l∧ls.all zaq=true:=by
 intro f
 induction f with
 | zero =>
   intro l ls h
   cases l with
   | nil=>rw[zhc] at h;cases h;exact⟨rfl,rfl⟩
   | cons b r=>cases h
 | succ f ih =>
   intro l ls h
   cases l with
   | nil=>rw[zhc] at h;cases h;exact⟨rfl,rfl⟩
   | cons b r =>
     cases ht:zr (b :: r) with
     | none=>rw[zlx _ b r ht] at h;cases h
     | some y =>
       obtain⟨k,bd,more⟩:=y
       obtain⟨x,hx,hne,hr⟩:=zry _ k bd more ht
       rw[hx,zrz f k x more bd hne (hr more)] at h
       cases hi:zav f more with
       | none=>rw[hi] at h;cases h
       | some t =>
         rw[hi] at h
         simp only[Option.map_some,Option.some.injEq] at h
         subst h
         obtain⟨h1,h2⟩:=ih more t hi
         have hx0:=hr []
         rw[List.append_nil] at hx0
         exact⟨by rw[List.flatten_cons,h1,hx],by simp[h2,zm2 x k bd hx0]⟩
theorem za1k (ls:List (List UInt8)):(zbl ls=[]∧zbi (zbl ls)=none)∨(zbl ls≠[]∧zbi (zbl ls)=some ls):=by
 by_cases h:ls.flatten.length≤60000∧ls.all zaq=true
 · have e:zbl ls=zae ls.flatten 192:=if_pos h
   right
   have ht:=zra ls.flatten [] h.1
   rw[List.append_nil] at ht
   rw[e]
   refine⟨fun e0=>?_,?_⟩
   · rw[e0] at ht;cases ht
   · rw[zix _ _ ht,za1i ls _ h.2 (Nat.le_refl _)]
 · have e:zbl ls=[]:=if_neg h
   exact .inl ⟨e,by rw[e];rfl⟩
theorem zs0 (b:List UInt8) (ls:List (List UInt8)) (h:zbi b=some ls):zbl ls=b:=by
 cases ht:zr b with
 | none=>rw[zlz b ht] at h;cases h
 | some y =>
   obtain⟨k,bd,rest⟩:=y
   by_cases hk:k≠2∨rest≠[]
   · rw[zm0 b k bd rest ht hk] at h;cases h
   · have hk2:k=2:=by omega
     have hr:rest=[]:=Classical.byContradiction fun hn=>hk (.inr hn)
     subst hk2 hr
     rw[zix b bd ht] at h
     obtain⟨h1,h2⟩:=za1j _ _ _ h
     obtain⟨e,hl⟩:=zrf b bd [] ht
     rw[List.append_nil] at e
     rw[ziy ls (by rw[h1];exact hl) h2,h1,e]
theorem zmb (b:List UInt8) (ls:List (List UInt8)) (h:zbi b=some ls):ls.flatten.length≤b.length:=by
 have e:=zs0 b ls h
 by_cases hc:ls.flatten.length≤60000∧ls.all zaq=true
 · have e1:zbl ls=zae ls.flatten 192:=if_pos hc
   rw[←e,e1,zae]
   split <;> simp <;> omega
 · have e1:zbl ls=[]:=if_neg hc
   rw[e1] at e
   subst e
   cases h
theorem za1l:∀ ls:List (List UInt8),ls.all zaq=true→ls.length≤ls.flatten.length:=by
 intro ls
 induction ls with
 | nil=>intro _;simp
 | cons x r ih =>
   intro h
   simp only[List.all_cons,Bool.and_eq_true] at h
   have:=ih h.2
   have hx:1≤x.length:=by cases x with
    | nil=>exact absurd h.1 (by decide)
    | cons b t=>simp
   rw[List.flatten_cons,List.length_append,List.length_cons]
   omega
theorem za1m (b:List UInt8) (ls:List (List UInt8)) (h:zbi b=some ls):ls.length≤b.length:=by
 have e:=zs0 b ls h
 have hl:=zmb b ls h
 by_cases hc:ls.flatten.length≤60000∧ls.all zaq=true
 · have:=za1l ls hc.2
   omega
 · have e1:zbl ls=[]:=if_neg hc
   rw[e1] at e
   subst e
   cases h
def textOf (l:List UInt8):Option (List UInt8):=match zr l with
 | some (1,b,_)=>some b
 | _=>none
def zan:List (List UInt8)→Option (List (List UInt8))
 | []=>some []
 | l :: r => match textOf l with
   | none=>none
   | some t=>(zan r).map (t :: ·)
def zbb (s:List UInt8):Option (List (List UInt8)):=match zbi s with
 | none=>none
 | some ls=>zan ls
theorem zmc (l b rest:List UInt8) (h:zr l=some (1,b,rest)):textOf l=some b:=by simp only[textOf,h]
theorem zs1 (l:List UInt8) (h:zr l=none):textOf l=none:=by simp only[textOf,h]
theorem textOf_list (l b rest:List UInt8) (h:zr l=some (2,b,rest)):textOf l=none:=by simp only[textOf,h]
theorem zs3 (ls:List (List UInt8)) (j:Nat) (hj:j<ls.length) (h:textOf ls[j]=none):zan ls=none:=by
 induction ls generalizing j with
 | nil=>simp at hj
 | cons l r ih =>
   cases j with
   | zero =>
     simp only[List.getElem_cons_zero] at h
     simp only[zan,h]
   | succ j =>
     simp only[List.getElem_cons_succ] at h
     have:=ih j (by simpa using hj) h
     simp only[zan,this]
     cases textOf l <;> rfl
theorem za1n (ls:List (List UInt8)) (l t:List UInt8) (ts:List (List UInt8)) (h1:zan ls=some ts) (h2:textOf l=some t):zan (ls ++ [l])=some (ts ++ [t]):=by
 induction ls generalizing ts with
 | nil =>
   simp only[zan,Option.some.injEq] at h1
   subst h1
   simp[zan,h2]
 | cons x r ih =>
   simp only[zan] at h1
   cases hx:textOf x with
   | none=>rw[hx] at h1;cases h1
   | some y =>
     rw[hx] at h1
     cases hr:zan r with
     | none=>rw[hr] at h1;cases h1
     | some us =>
       rw[hr] at h1
       simp at h1
       subst h1
       simp[zan,hx,ih us hr]
theorem zs4 (ls:List (List UInt8)) (j:Nat) (hj:j<ls.length) (t:List UInt8) (ts:List (List UInt8)) (h1:zan (ls.take j)=some ts) (h2:textOf ls[j]=some t):zan (ls.take (j+1))=some (ts ++ [t]):=by
 rw[List.take_succ_eq_append_getElem hj]
 exact za1n _ _ _ _ h1 h2
theorem zj2 : ∀ (ls ts : List (List UInt8)), zan ls = some ts → ts.length = ls.length ∧ (∀ t ∈ ts, t.length ≤ 60000) ∧ ts.flatten.length ≤ ls.flatten.length
 | [], ts, h => by
   simp only[zan,Option.some.injEq] at h
   subst h
   simp
 | l :: r, ts, h => by
   simp only[zan] at h
   cases hx:textOf l with
   | none=>rw[hx] at h;cases h
   | some y =>
     rw[hx] at h
     cases hr:zan r with
     | none=>rw[hr] at h;cases h
     | some us =>
       rw[hr] at h
       simp at h
       subst h
       obtain⟨i1,i2,i3⟩:=zj2 r us hr
       obtain⟨rest,ht⟩:∃ rest,zr l=some (1,y,rest):=by
        unfold textOf at hx
        split at hx
        · rename_i b rest h';cases hx;exact⟨_,h'⟩
        · cases hx
       have hl:=(zre l y rest ht).2
       have hl2:=(zgb l 1 y rest ht).2
       refine⟨by simp[i1],fun t ht=>?_,?_⟩
       · rcases List.mem_cons.1 ht with rfl | h
         · exact hl
         · exact i2 t h
       · rw[List.flatten_cons,List.length_append,List.flatten_cons,List.length_append];omega
theorem zhe (s:List UInt8) (ts:List (List UInt8)) (h:zbb s=some ts):ts.length≤s.length∧(∀ t∈ts,t.length≤60000):=by
 unfold zbb at h
 cases hi:zbi s with
 | none=>rw[hi] at h;cases h
 | some ls =>
   rw[hi] at h
   obtain⟨h1,h2,_⟩:=zj2 ls ts h
   have:=za1m s ls hi
   exact⟨by omega,h2⟩
structure NodeL where
 k:Int
 p:List UInt8
 ls:List (List UInt8)
 v:List UInt8
def zeroN:NodeL:=⟨0,[],[],[]⟩
def zc6 (t:List UInt8):Option (List UInt8 × Bool)→NodeL
 | none=>zeroN
 | some (x,leaf)=>if leaf=true then ⟨1,x,[],t⟩ else ⟨2,x,[t],[]⟩
def zcm (ts:List (List UInt8)):NodeL :=
 if ts.length=17 then ⟨3,[],ts.take 16,ts.getD 16 []⟩ else if ts.length=2 then zc6 (ts.getD 1 []) (zd4 (ts.getD 0 [])) else zeroN
def zcx (ts:List (List UInt8)):NodeL :=
 if ts.length=17 then ⟨3,[],ts.take 16,ts.getD 16 []⟩ else if ts.length=2 then zc6 (ts.getD 1 []) (zdh (ts.getD 0 [])) else zeroN
def NodeL.ok (n:NodeL):Bool:=zal n.k n.p n.ls n.v
def NodeL.text (n:NodeL):List UInt8:=zau n.k n.p n.ls n.v
def zdl (s:List UInt8) (n:NodeL):Option NodeL:=if n.ok=true∧n.text=s then some n else none
def za6 (s:List UInt8):Option NodeL:=match zbb s with
 | none=>none
 | some ts=>zdl s (zcm ts)
theorem zj3 (s:List UInt8) (n:NodeL) (h1:n.ok=true) (h2:n.text=s):zdl s n=some n:=if_pos ⟨h1,h2⟩
theorem zfh (s:List UInt8) (n:NodeL) (h1:n.ok=false):zdl s n=none:=if_neg fun h=>by rw[h1] at h;cases h.1
theorem zmd (s:List UInt8) (n:NodeL) (h2:¬ n.text=s):zdl s n=none:=if_neg fun h=>h2 h.2
theorem zme:zeroN.ok=false:=by decide
theorem zs5 (t:List UInt8) (o:Option (List UInt8 × Bool)) (h:∀ x lf,o=some (x,lf)→24<x.length):(zc6 t o).ok=false:=by
 cases o with
 | none=>exact zme
 | some q =>
   obtain⟨x,lf⟩:=q
   have hx:=h x lf rfl
   cases lf <;> simp[zc6,NodeL.ok,zal,zbz] <;> omega
theorem za1o (s:List UInt8) (ts:List (List UInt8)):zdl s (zcx ts)=zdl s (zcm ts):=by
 unfold zcx zcm
 by_cases h17:ts.length=17
 · rw[if_pos h17,if_pos h17]
 · rw[if_neg h17,if_neg h17]
   by_cases h2:ts.length=2
   · rw[if_pos h2,if_pos h2]
     rcases zyr (ts.getD 0 []) with h | ⟨h1,h3⟩
     · rw[h]
     · rw[zfh s _ (zs5 _ _ h1),zfh s _ (zs5 _ _ h3)]
   · rw[if_neg h2,if_neg h2]
def zex (n:NodeL):Prop:=n.p.length≤1048576∧n.v.length≤1048576∧n.ls.length≤1048576∧∀ l∈n.ls,l.length≤1048576
theorem za1p (l : List UInt8) (hl : l.length ≤ 60000) : (∀ x lf, zdh l = some (x, lf) → x.length ≤ 1048576) ∧ (∀ x lf, zd4 l = some (x, lf) → x.length ≤ 1048576) := by
 have hL : ∀ x lf, zc4 l = some (x, lf) → x.length ≤ 1048576 := fun x lf h => by
  match l,h,hl with
  | b :: r, h, hl =>
    simp at hl
    simp only[zc4] at h
    split at h
    · cases h
    · split at h
      · cases h;rw[List.length_cons,ze6];omega
      · split at h
        · cases h
        · cases h;rw[ze6];omega
 have hE : ∀ x lf, zen l = some (x, lf) → x.length ≤ 1048576 := fun x lf h => by
  match l,h,hl with
  | b :: r, h, hl =>
    simp at hl
    simp only[zen] at h
    split at h
    · cases h
    · split at h
      · cases h
      · split at h
        · cases h
        · cases h;rw[ze6];omega
 refine⟨fun x lf h=>?_,fun x lf h=>?_⟩
 · unfold zdh at h
   split at h
   · exact hL x lf h
   · cases h
 · unfold zd4 at h
   split at h
   · exact hL x lf h
   · split at h
     · exact hE x lf h
     · cases h
theorem zfi (ts:List (List UInt8)) (h:∀ t∈ts,t.length≤60000) (j:Nat):(ts.getD j []).length≤60000:=by
 rw[List.getD_eq_getElem?_getD]
 by_cases hj:j<ts.length
 · rw[List.getElem?_eq_getElem hj];exact h _ (List.getElem_mem _)
 · rw[List.getElem?_eq_none (by omega)];simp
theorem zs6 (t:List UInt8) (o:Option (List UInt8 × Bool)) (ht:t.length≤60000) (h:∀ x lf,o=some (x,lf)→x.length≤1048576):zex (zc6 t o):=by
 cases o with
 | none=>exact⟨by simp[zc6,zeroN],by simp[zc6,zeroN],by simp[zc6,zeroN],by simp[zc6,zeroN]⟩
 | some q =>
   obtain⟨x,lf⟩:=q
   have hx:=h x lf rfl
   cases lf <;> simp[zc6,zex] <;> omega
theorem zmf (ts:List (List UInt8)) (h:∀ t∈ts,t.length≤60000):zex (zcm ts)∧zex (zcx ts):=by
 unfold zcx zcm
 by_cases h17:ts.length=17
 · rw[if_pos h17,if_pos h17]
   have h1:zex ⟨3,[],ts.take 16,ts.getD 16 []⟩:=⟨by simp,by have:=zfi ts h 16;show (ts.getD 16 []).length≤_;omega,by simp;omega,fun l hl=>by have:=h l (List.mem_of_mem_take hl);omega⟩
   exact⟨h1,h1⟩
 · rw[if_neg h17,if_neg h17]
   by_cases h2:ts.length=2
   · rw[if_pos h2,if_pos h2]
     have hr:=za1p (ts.getD 0 []) (zfi ts h 0)
     exact⟨zs6 _ _ (zfi ts h 1) hr.2,zs6 _ _ (zfi ts h 1) hr.1⟩
   · rw[if_neg h2,if_neg h2]
     have h1:zex zeroN:=⟨by simp[zeroN],by simp[zeroN],by simp[zeroN],by simp[zeroN]⟩
     exact⟨h1,h1⟩
end Go.Proofs.YtiadimhoolekbaaGreatDoor
