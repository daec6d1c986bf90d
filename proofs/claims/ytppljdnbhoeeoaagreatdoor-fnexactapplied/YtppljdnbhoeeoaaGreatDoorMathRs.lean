/-
 Texts that are laid as one: MathBackL, MathTs, MathRN.
-/
import Derived.Test.YtppljdnbhoeeoaaGreatDoorINodes
import Derived.Test.YtppljdnbhoeeoaaGreatDoorIReads
namespace Go.Proofs.YtppljdnbhoeeoaaGreatDoor
open Go.RowKit
set_option linter.unusedVariables false
theorem zzg (l:List UInt8) (k:Nat) (bd more:List UInt8) (h:zn l=some (k,bd,more)):∃ x,l=x ++ more∧x≠[]∧∀ r,zn (x ++ r)=some (k,bd,r):=by
 have hless:=(zfg l k bd more h).1
 rcases zgn l k bd more h with rfl | rfl
 · obtain⟨e,hl⟩:=zpr l bd more h
   refine⟨zz bd,e.symm,fun e0=>?_,fun r=>zpn bd r hl⟩
   rw[e0] at e;rw[←e] at hless;simp at hless
 · obtain⟨e,hl⟩:=zps l bd more h
   refine⟨za9 bd 192,e.symm,fun e0=>?_,fun r=>zz4 bd r hl⟩
   rw[e0] at e;rw[←e] at hless;simp at hless
theorem zzh (f k:Nat) (x r bd:List UInt8) (hx:x≠[]) (h:zn (x ++ r)=some (k,bd,r)):zar (f+1) (x ++ r)=(zar f r).map fun t=>x :: t:=by
 cases x with
 | nil=>exact absurd rfl hx
 | cons b x' =>
   rw[List.cons_append] at h ⊢
   rw[zkd f b (x' ++ r) k bd r h]
   have e:(b :: (x' ++ r)).take ((b :: (x' ++ r)).length - r.length)=b :: x':=by
    have:(b :: (x' ++ r)).length - r.length=(b :: x').length:=by simp;omega
    rw[this,←List.cons_append,List.take_left']
    rfl
   rw[e]
theorem zzi:∀ (f:Nat) (l:List UInt8) (ls:List (List UInt8)),zar f l=some ls→ls.flatten=l∧ls.all zaq=true:=by
 intro f
 induction f with
 | zero =>
   intro l ls h
   cases l with
   | nil=>rw[zhw] at h;cases h;exact⟨rfl,rfl⟩
   | cons b r=>cases h
 | succ f ih =>
   intro l ls h
   cases l with
   | nil=>rw[zhw] at h;cases h;exact⟨rfl,rfl⟩
   | cons b r =>
     cases ht:zn (b :: r) with
     | none=>rw[zkc _ b r ht] at h;cases h
     | some y =>
       obtain⟨k,bd,more⟩:=y
       obtain⟨x,hx,hne,hr⟩:=zzg _ k bd more ht
       rw[hx,zzh f k x more bd hne (hr more)] at h
       cases hi:zar f more with
       | none=>rw[hi] at h;cases h
       | some t =>
         rw[hi] at h
         simp only[Option.map_some,Option.some.injEq] at h
         subst h
         obtain⟨h1,h2⟩:=ih more t hi
         have hx0:=hr []
         rw[List.append_nil] at hx0
         exact⟨by rw[List.flatten_cons,h1,hx],by simp[h2,zki x k bd hx0]⟩
theorem zpw (b:List UInt8) (ls:List (List UInt8)) (h:zbb b=some ls):zc1 ls=b:=by
 cases ht:zn b with
 | none=>rw[zke b ht] at h;cases h
 | some y =>
   obtain⟨k,bd,rest⟩:=y
   by_cases hk:k≠2∨rest≠[]
   · rw[zkf b k bd rest ht hk] at h;cases h
   · have hk2:k=2:=by omega
     have hr:rest=[]:=Classical.byContradiction fun hn=>hk (.inr hn)
     subst hk2 hr
     rw[zkg b bd ht] at h
     obtain⟨h1,h2⟩:=zzi _ _ _ h
     obtain⟨e,hl⟩:=zps b bd [] ht
     rw[List.append_nil] at e
     rw[zhx ls (by rw[h1];exact hl) h2,h1,e]
theorem zkl (b:List UInt8) (ls:List (List UInt8)) (h:zbb b=some ls):ls.flatten.length≤b.length:=by
 have e:=zpw b ls h
 by_cases hc:ls.flatten.length≤60000∧ls.all zaq=true
 · have e1:zc1 ls=za9 ls.flatten 192:=if_pos hc
   rw[←e,e1,za9]
   split <;> simp <;> omega
 · have e1:zc1 ls=[]:=if_neg hc
   rw[e1] at e
   subst e
   cases h
theorem zzj:∀ ls:List (List UInt8),ls.all zaq=true→ls.length≤ls.flatten.length:=by
 intro ls
 induction ls with
 | nil=>intro _;simp
 | cons x r ih =>
   intro h
   simp only[List.all_cons,Bool.and_eq_true] at h
   have:=ih h.2
   have hx:1≤x.length:=by cases x with
    | nil=>exact absurd h.1 (by decide)
    | cons b t=>simp
   rw[List.flatten_cons,List.length_append,List.length_cons]
   omega
theorem zzk (b:List UInt8) (ls:List (List UInt8)) (h:zbb b=some ls):ls.length≤b.length:=by
 have e:=zpw b ls h
 have hl:=zkl b ls h
 by_cases hc:ls.flatten.length≤60000∧ls.all zaq=true
 · have:=zzj ls hc.2
   omega
 · have e1:zc1 ls=[]:=if_neg hc
   rw[e1] at e
   subst e
   cases h
def textOf (l:List UInt8):Option (List UInt8):=match zn l with
 | some (1,b,_)=>some b
 | _=>none
def zap:List (List UInt8)→Option (List (List UInt8))
 | []=>some []
 | l :: r => match textOf l with
   | none=>none
   | some t=>(zap r).map (t :: ·)
def zbc (s:List UInt8):Option (List (List UInt8)):=match zbb s with
 | none=>none
 | some ls=>zap ls
theorem zpx (l b rest:List UInt8) (h:zn l=some (1,b,rest)):textOf l=some b:=by simp only[textOf,h]
theorem zpy (l:List UInt8) (h:zn l=none):textOf l=none:=by simp only[textOf,h]
theorem textOf_list (l b rest:List UInt8) (h:zn l=some (2,b,rest)):textOf l=none:=by simp only[textOf,h]
theorem zpz (ls:List (List UInt8)) (j:Nat) (hj:j<ls.length) (h:textOf ls[j]=none):zap ls=none:=by
 induction ls generalizing j with
 | nil=>simp at hj
 | cons l r ih =>
   cases j with
   | zero =>
     simp only[List.getElem_cons_zero] at h
     simp only[zap,h]
   | succ j =>
     simp only[List.getElem_cons_succ] at h
     have:=ih j (by simpa using hj) h
     simp only[zap,this]
     cases textOf l <;> rfl
theorem zzl (ls:List (List UInt8)) (l t:List UInt8) (ts:List (List UInt8)) (h1:zap ls=some ts) (h2:textOf l=some t):zap (ls ++ [l])=some (ts ++ [t]):=by
 induction ls generalizing ts with
 | nil =>
   simp only[zap,Option.some.injEq] at h1
   subst h1
   simp[zap,h2]
 | cons x r ih =>
   simp only[zap] at h1
   cases hx:textOf x with
   | none=>rw[hx] at h1;cases h1
   | some y =>
     rw[hx] at h1
     cases hr:zap r with
     | none=>rw[hr] at h1;cases h1
     | some us =>
       rw[hr] at h1
       simp at h1
       subst h1
       simp[zap,hx,ih us hr]
theorem zq0 (ls:List (List UInt8)) (j:Nat) (hj:j<ls.length) (t:List UInt8) (ts:List (List UInt8)) (h1:zap (ls.take j)=some ts) (h2:textOf ls[j]=some t):zap (ls.take (j+1))=some (ts ++ [t]):=by
 rw[List.take_succ_eq_append_getElem hj]
 exact zzl _ _ _ _ h1 h2
theorem zhy : ∀ (ls ts : List (List UInt8)), zap ls = some ts → ts.length = ls.length ∧ (∀ t ∈ ts, t.length ≤ 60000) ∧ ts.flatten.length ≤ ls.flatten.length
 | [], ts, h => by
   simp only[zap,Option.some.injEq] at h
   subst h
   simp
 | l :: r, ts, h => by
   simp only[zap] at h
   cases hx:textOf l with
   | none=>rw[hx] at h;cases h
   | some y =>
     rw[hx] at h
     cases hr:zap r with
     | none=>rw[hr] at h;cases h
     | some us =>
       rw[hr] at h
       simp at h
       subst h
       obtain⟨i1,i2,i3⟩:=zhy r us hr
       obtain⟨rest,ht⟩:∃ rest,zn l=some (1,y,rest):=by
        unfold textOf at hx
        split at hx
        · rename_i b rest h';cases hx;exact⟨_,h'⟩
        · cases hx
       have hl:=(zpr l y rest ht).2
       have hl2:=(zfg l 1 y rest ht).2
       refine⟨by simp[i1],fun t ht=>?_,?_⟩
       · rcases List.mem_cons.1 ht with rfl | h
         · exact hl
         · exact i2 t h
       · rw[List.flatten_cons,List.length_append,List.flatten_cons,List.length_append];omega
theorem zgo (s:List UInt8) (ts:List (List UInt8)) (h:zbc s=some ts):ts.length≤s.length∧(∀ t∈ts,t.length≤60000):=by
 unfold zbc at h
 cases hi:zbb s with
 | none=>rw[hi] at h;cases h
 | some ls =>
   rw[hi] at h
   obtain⟨h1,h2,_⟩:=zhy ls ts h
   have:=zzk s ls hi
   exact⟨by omega,h2⟩
structure NodeL where
 k:Int
 p:List UInt8
 ls:List (List UInt8)
 v:List UInt8
def zeroN:NodeL:=⟨0,[],[],[]⟩
def zck (t:List UInt8):Option (List UInt8 × Bool)→NodeL
 | none=>zeroN
 | some (x,leaf)=>if leaf=true then ⟨1,x,[],t⟩ else ⟨2,x,[t],[]⟩
def zdg (ts:List (List UInt8)):NodeL :=
 if ts.length=17 then ⟨3,[],ts.take 16,ts.getD 16 []⟩ else if ts.length=2 then zck (ts.getD 1 []) (zdd (ts.getD 0 [])) else zeroN
def zcr (ts:List (List UInt8)):NodeL :=
 if ts.length=17 then ⟨3,[],ts.take 16,ts.getD 16 []⟩ else if ts.length=2 then zck (ts.getD 1 []) (zd4 (ts.getD 0 [])) else zeroN
def NodeL.ok (n:NodeL):Bool:=zba n.k n.p n.ls n.v
def NodeL.text (n:NodeL):List UInt8:=zbn n.k n.p n.ls n.v
def zd8 (s:List UInt8) (n:NodeL):Option NodeL:=if n.ok=true∧n.text=s then some n else none
def za1 (s:List UInt8):Option NodeL:=match zbc s with
 | none=>none
 | some ts=>zd8 s (zdg ts)
theorem zkm (s:List UInt8) (n:NodeL) (h1:n.ok=true) (h2:n.text=s):zd8 s n=some n:=if_pos ⟨h1,h2⟩
theorem zeo (s:List UInt8) (n:NodeL) (h1:n.ok=false):zd8 s n=none:=if_neg fun h=>by rw[h1] at h;cases h.1
theorem zkn (s:List UInt8) (n:NodeL) (h2:¬ n.text=s):zd8 s n=none:=if_neg fun h=>h2 h.2
theorem zko:zeroN.ok=false:=by decide
theorem zq1 (t:List UInt8) (o:Option (List UInt8 × Bool)) (h:∀ x lf,o=some (x,lf)→24<x.length):(zck t o).ok=false:=by
 cases o with
 | none=>exact zko
 | some q =>
   obtain⟨x,lf⟩:=q
   have hx:=h x lf rfl
   cases lf <;> simp[zck,NodeL.ok,zba,zcg] <;> omega
theorem zzm (s:List UInt8) (ts:List (List UInt8)):zd8 s (zcr ts)=zd8 s (zdg ts):=by
 unfold zcr zdg
 by_cases h17:ts.length=17
 · rw[if_pos h17,if_pos h17]
 · rw[if_neg h17,if_neg h17]
   by_cases h2:ts.length=2
   · rw[if_pos h2,if_pos h2]
     rcases zx6 (ts.getD 0 []) with h | ⟨h1,h3⟩
     · rw[h]
     · rw[zeo s _ (zq1 _ _ h1),zeo s _ (zq1 _ _ h3)]
   · rw[if_neg h2,if_neg h2]
def ze9 (n:NodeL):Prop:=n.p.length≤1048576∧n.v.length≤1048576∧n.ls.length≤1048576∧∀ l∈n.ls,l.length≤1048576
theorem zzn (l : List UInt8) (hl : l.length ≤ 60000) : (∀ x lf, zd4 l = some (x, lf) → x.length ≤ 1048576) ∧ (∀ x lf, zdd l = some (x, lf) → x.length ≤ 1048576) := by
 have hL : ∀ x lf, zch l = some (x, lf) → x.length ≤ 1048576 := fun x lf h => by
  match l,h,hl with
  | b :: r, h, hl =>
    simp at hl
    simp only[zch] at h
    split at h
    · cases h
    · split at h
      · cases h;rw[List.length_cons,zds];omega
      · split at h
        · cases h
        · cases h;rw[zds];omega
 have hE : ∀ x lf, ze3 l = some (x, lf) → x.length ≤ 1048576 := fun x lf h => by
  match l,h,hl with
  | b :: r, h, hl =>
    simp at hl
    simp only[ze3] at h
    split at h
    · cases h
    · split at h
      · cases h
      · split at h
        · cases h
        · cases h;rw[zds];omega
 refine⟨fun x lf h=>?_,fun x lf h=>?_⟩
 · unfold zd4 at h
   split at h
   · exact hL x lf h
   · cases h
 · unfold zdd at h
   split at h
   · exact hL x lf h
   · split at h
     · exact hE x lf h
     · cases h
theorem zep (ts:List (List UInt8)) (h:∀ t∈ts,t.length≤60000) (j:Nat):(ts.getD j []).length≤60000:=by
 rw[List.getD_eq_getElem?_getD]
 by_cases hj:j<ts.length
 · rw[List.getElem?_eq_getElem hj];exact h _ (List.getElem_mem _)
 · rw[List.getElem?_eq_none (by omega)];simp
theorem zq2 (t:List UInt8) (o:Option (List UInt8 × Bool)) (ht:t.length≤60000) (h:∀ x lf,o=some (x,lf)→x.length≤1048576):ze9 (zck t o):=by
 cases o with
 | none=>exact⟨by simp[zck,zeroN],by simp[zck,zeroN],by simp[zck,zeroN],by simp[zck,zeroN]⟩
 | some q =>
   obtain⟨x,lf⟩:=q
   have hx:=h x lf rfl
   cases lf <;> simp[zck,ze9] <;> omega
theorem zkp (ts:List (List UInt8)) (h:∀ t∈ts,t.length≤60000):ze9 (zdg ts)∧ze9 (zcr ts):=by
 unfold zcr zdg
 by_cases h17:ts.length=17
 · rw[if_pos h17,if_pos h17]
   have h1:ze9 ⟨3,[],ts.take 16,ts.getD 16 []⟩:=⟨by simp,by have:=zep ts h 16;show (ts.getD 16 []).length≤_;omega,by simp;omega,fun l hl=>by have:=h l (List.mem_of_mem_take hl);omega⟩
   exact⟨h1,h1⟩
 · rw[if_neg h17,if_neg h17]
   by_cases h2:ts.length=2
   · rw[if_pos h2,if_pos h2]
     have hr:=zzn (ts.getD 0 []) (zep ts h 0)
     exact⟨zq2 _ _ (zep ts h 1) hr.2,zq2 _ _ (zep ts h 1) hr.1⟩
   · rw[if_neg h2,if_neg h2]
     have h1:ze9 zeroN:=⟨by simp[zeroN],by simp[zeroN],by simp[zeroN],by simp[zeroN]⟩
     exact⟨h1,h1⟩
end Go.Proofs.YtppljdnbhoeeoaaGreatDoor
