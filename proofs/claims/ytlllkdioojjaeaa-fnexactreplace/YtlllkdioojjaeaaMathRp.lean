/-
 Replace on lists: a file laid under another name and renamed.
-/
import Derived.Test.YtlllkdioojjaeaaGrowD
namespace Go.Proofs.Ytlllkdioojjaeaa
open Go.RowKit
set_option linter.unusedVariables false
abbrev DskL:=List PairL × List PairL × List DOpL × Int
def dotNew:List UInt8:=[46,110,101,119]
def stepD (r:DskL) (o:DOpL):DskL:=if r.2.2.2=0 then actL r.1 r.2.1 r.2.2.1 o else r
def repOps (fr:Bool) (nm da:List UInt8):List DOpL:=(if fr=true then [⟨3,nm ++ dotNew,[],[]⟩] else []) ++ [⟨1,nm ++ dotNew,[],da⟩,⟨2,nm ++ dotNew,nm,[]⟩]
def repEnd (live safe:List PairL) (ops:List DOpL) (r:DskL):DskL:=if r.2.2.2=0 then r else (live,safe,ops,r.2.2.2)
def repL (live safe:List PairL) (ops:List DOpL) (nm da:List UInt8):DskL :=
 if diskOk live safe ops=true then repEnd live safe ops ((repOps (decide (0≤atF live (nm ++ dotNew))) nm da).foldl stepD (live,safe,ops,0)) else ([],[],[],1)
theorem act_code (live safe:List PairL) (ops:List DOpL) (o:DOpL):(actL live safe ops o).2.2.2≠1:=by
 unfold actL
 repeat' split
 all_goals simp
theorem act_stays {live safe:List PairL} {ops:List DOpL} {o:DOpL} (h:(actL live safe ops o).2.2.2≠0):actL live safe ops o=(live,safe,ops,(actL live safe ops o).2.2.2):=by
 revert h
 unfold actL
 repeat' split
 all_goals simp
theorem act_ok {live safe:List PairL} {ops:List DOpL} {o:DOpL} (hd:diskOk live safe ops=true) (h:(actL live safe ops o).2.2.2=0):diskOk (actL live safe ops o).1 (actL live safe ops o).2.1 (actL live safe ops o).2.2.1=true:=by
 revert h
 unfold actL
 split
 · simp
 · split
   · simp
   · split
     · simp
     · rename_i h1 h2 h3
       intro _
       simp only[not_or] at h3
       obtain⟨h3,h4⟩:=h3
       have g1:formOk o=true:=by cases h:formOk o with | true=>rfl | false=>exact absurd h h1
       have g2:(doF live o).2=true:=by cases h:(doF live o).2 with | true=>rfl | false=>exact absurd h h2
       have g4:filesOk (doF live o).1=true:=by cases h:filesOk (doF live o).1 with | true=>rfl | false=>exact absurd h h4
       simp only[diskOk,Bool.and_eq_true,decide_eq_true_eq] at hd ⊢
       obtain⟨d1,d2,d3,d4⟩:=hd
       refine⟨g4,d2,by simp only[List.length_append,List.length_cons,List.length_nil];omega,?_⟩
       rw[runF_snoc,d4]
       simp[opGoes,g1,g2,g4]
theorem fold_stay (os:List DOpL) (r:DskL) (h:r.2.2.2≠0):os.foldl stepD r=r:=by
 induction os with
 | nil=>rfl
 | cons o os ih=>rw[List.foldl_cons,stepD,if_neg h];exact ih
theorem fold_ok (os:List DOpL):∀ (r:DskL),diskOk r.1 r.2.1 r.2.2.1=true→(os.foldl stepD r).2.2.2=0→diskOk (os.foldl stepD r).1 (os.foldl stepD r).2.1 (os.foldl stepD r).2.2.1=true:=by
 induction os with
 | nil=>intro r h _;exact h
 | cons o os ih =>
   intro r h h0
   rw[List.foldl_cons] at h0 ⊢
   by_cases hz:(stepD r o).2.2.2=0
   · refine ih _ ?_ h0
     revert hz
     unfold stepD
     split
     · intro hz;exact act_ok h hz
     · rename_i hn;intro hz;exact absurd hz hn
   · rw[fold_stay os _ hz] at h0;exact absurd h0 hz
theorem fold_more {os:List DOpL} {r:DskL} {j:Nat} (hj:j<os.length):(os.take (j+1)).foldl stepD r=stepD ((os.take j).foldl stepD r) os[j]:=by
 rw[List.take_succ_eq_append_getElem hj,List.foldl_append];rfl
theorem fold_stops {os:List DOpL} {r:DskL} {j:Nat} (hj:j≤os.length) (h:((os.take j).foldl stepD r).2.2.2≠0):os.foldl stepD r=(os.take j).foldl stepD r:=by
 conv=>lhs;rw[←List.take_append_drop j os]
 rw[List.foldl_append,fold_stay _ _ h]
end Go.Proofs.Ytlllkdioojjaeaa
