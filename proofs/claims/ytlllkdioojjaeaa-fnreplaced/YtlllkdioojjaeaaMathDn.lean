/-
 On lists: what is read behind an op that was done.
-/
import Derived.Test.YtlllkdioojjaeaaIReadF
import Derived.Test.YtlllkdioojjaeaaMathCs
namespace Go.Proofs.Ytlllkdioojjaeaa
open Go.RowKit
set_option linter.unusedVariables false
theorem read_dat {live safe:List PairL} {ops:List DOpL} {n:List UInt8} (hd:diskOk live safe ops=true):readR live safe ops n=datF live n∧readB live safe ops n=decide (0≤atF live n):=by
 have hb:readB live safe ops n=decide (0≤atF live n):=by unfold readB;rw[hd,Bool.true_and]
 refine⟨?_,hb⟩
 unfold readR
 rw[hb]
 by_cases h:0≤atF live n
 · rw[if_pos (by simpa using h)]
 · rw[if_neg (by simpa using h)]
   have hr:Rise live:=by
    simp only[diskOk,Bool.and_eq_true] at hd
    exact (rise_files hd.1).1
   by_cases hm:∃ v,(n,v)∈live
   · obtain⟨v,hv⟩:=hm
     exact absurd (at_in hr hv).1 h
   · exact (at_out (fun v hv=>hm ⟨v,hv⟩)).2.symm
theorem done_facts {live safe rl rs : List PairL} {ops ro : List DOpL} {k : Int} {n t d : List UInt8} {cd : Int} (hd : diskOk live safe ops = true) (hr : (rl, rs, ro, cd) = doL live safe ops ⟨k, n, t, d⟩) (hc : cd = 0) :
 (k=1→readB rl rs ro n=true∧readR rl rs ro n=readR live safe ops n ++ d)∧(k=2→readB rl rs ro t=true∧readR rl rs ro t=readR live safe ops n∧readB rl rs ro n=decide (t=n))∧(k=3→readB rl rs ro n=false)∧(1≤k∧k≤3)∧diskOk rl rs ro=true∧rs=safe∧ro=ops ++ [⟨k,n,t,d⟩]:=by
 unfold doL at hr
 rw[if_pos hd] at hr
 have hc':(actL live safe ops ⟨k,n,t,d⟩).2.2.2=0:=by rw[←hr];exact hc
 have hok:=act_ok hd hc'
 rw[←hr] at hok
 simp only at hok
 have hri:Rise live:=by
  simp only[diskOk,Bool.and_eq_true] at hd
  exact (rise_files hd.1).1
 have hro:Rise rl:=by
  have:=hok
  simp only[diskOk,Bool.and_eq_true] at this
  exact (rise_files this.1).1
 have hf : formOk ⟨k, n, t, d⟩ = true ∧ (doF live ⟨k, n, t, d⟩).2 = true ∧ rl = (doF live ⟨k, n, t, d⟩).1 ∧ rs = safe ∧ ro = ops ++ [⟨k, n, t, d⟩] := by
  unfold actL at hr
  split at hr
  · simp only[Prod.mk.injEq] at hr;rw[hr.2.2.2] at hc;exact absurd hc (by decide)
  · rename_i h1
    split at hr
    · simp only[Prod.mk.injEq] at hr;rw[hr.2.2.2] at hc;exact absurd hc (by decide)
    · rename_i h2
      split at hr
      · simp only[Prod.mk.injEq] at hr;rw[hr.2.2.2] at hc;exact absurd hc (by decide)
      · simp only[Prod.mk.injEq] at hr
        exact⟨by simpa using h1,by simpa using h2,hr.1,hr.2.1,hr.2.2.1⟩
 obtain⟨hfo,hd2,hrl,hrs,hrr⟩:=hf
 have hold:=read_dat (n:=n) hd
 have hnew:=fun (m:List UInt8)=>read_dat (n:=m) hok
 refine⟨fun hk=>?_,fun hk=>?_,fun hk=>?_,?_,hok,hrs,hrr⟩
 · subst hk
   rw[do_app] at hrl
   have hm:(n,datF live n ++ d)∈rl:=by rw[hrl];exact (put_memF hri _).2 (.inr rfl)
   have ha:=at_in hro hm
   rw[(hnew n).1,(hnew n).2,hold.1,ha.2]
   exact⟨by simpa using ha.1,rfl⟩
 · subst hk
   rw[do_ren hri] at hrl hd2
   simp only at hd2
   rw[if_pos hd2] at hrl
   have hrc:Rise (cutF live n):=rise_cutF hri
   have hm:(t,datF live n)∈rl:=by rw[hrl];exact (put_memF hrc _).2 (.inr rfl)
   have ha:=at_in hro hm
   refine⟨by rw[(hnew t).2];simpa using ha.1,by rw[(hnew t).1,ha.2,hold.1],?_⟩
   rw[(hnew n).2]
   by_cases e:t=n
   · subst e
     rw[decide_eq_true rfl];simpa using ha.1
   · rw[decide_eq_false e]
     have:=(at_out (fs:=rl) (n:=n) (fun v hv=>by
      rw[hrl] at hv
      rcases (put_memF hrc _).1 hv with ⟨h1,_⟩ | h1
      · exact ((cut_memF _).1 h1).2 rfl
      · simp only[Prod.mk.injEq] at h1;exact e h1.1.symm)).1
     rw[this];decide
 · subst hk
   rw[do_rem hri] at hrl
   rw[(hnew n).2]
   have:=(at_out (fs:=rl) (n:=n) (fun v hv=>by
    rw[hrl] at hv
    exact ((cut_memF _).1 hv).2 rfl)).1
   rw[this];decide
 · simp only[formOk,Bool.and_eq_true,decide_eq_true_eq] at hfo
   exact hfo.1
theorem done_stay {live safe rl rs:List PairL} {ops ro:List DOpL} {o:DOpL} {cd:Int} (hd:diskOk live safe ops=true) (hr:(rl,rs,ro,cd)=doL live safe ops o) (hc:cd≠0):rl=live∧rs=safe∧ro=ops:=by
 unfold doL at hr
 rw[if_pos hd] at hr
 have hc':(actL live safe ops o).2.2.2≠0:=by rw[←hr];exact hc
 have:=act_stays hc'
 rw[←hr] at this
 simp only[Prod.mk.injEq] at this
 exact⟨this.1,this.2.1,this.2.2.1⟩
end Go.Proofs.Ytlllkdioojjaeaa
