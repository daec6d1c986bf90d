/-
 Contracts: the model's list of texts, and its Tagged.
-/
import Derived.Test.YtkagiehbjnfabaaDoorMath2
import Derived.Test.YtkagiehbjnfabaaDoorMathAll
import Derived.Test.YtkagiehbjnfabaaDoorTxtC
import Derived.Test.YtkagiehbjnfabaaDoorWrap
import Derived.Test.YtkagiehbjnfabaaDoorSL1
import Derived.Test.YtkagiehbjnfabaaDoorSSum
namespace Go.Proofs.YtkagiehbjnfabaaDoor
open Go.RowKit
set_option linter.unusedVariables false
set_option maxRecDepth 100000 in
set_option maxHeartbeats 1000000 in
theorem spec_tagged (tag : List UInt8) (g cap : Nat) (ls : List (List UInt8)) (b0 : Nat) (w : World) (htg : tag.length ≤ 1048576) (hl : ls.length + ls.flatten.length ≤ 1048576) (hv : w.ownsRow b0 9 1 (.slice (some ⟨g, 0, none⟩) ls.length cap) ls.length (scells ls)) :
 Calls Tryd.prog 40 #[.string ⟨tag.toArray⟩,.slice (some ⟨g,0,none⟩) ls.length cap] w fun e w'=>e=.returned (.string ⟨(tagL tag ls).toArray⟩)∧Below w.heap.size w w':=by
 obtain⟨i0,hi0,hz0,hz1,hz2⟩:=info_parts info9t
 have hgl:=own_lt hv
 have hc:∀ j (h:j<ls.length),w.cell? ⟨g,j,none⟩=some (.string ⟨ls[j].toArray⟩):=fun j h=>by rw[hv.cellAt j (by omega),scells_at ls j h]
 have hln:ls.length≤1048576:=by omega
 have hfn:ls.flatten.length≤1048576:=by omega
 have HM:=tagL_many tag ls
 have HLG:=tagL_long tag ls
 have HY:=tagL_yes tag ls
 obtain⟨out,hout⟩:∃ out,out=tagL tag ls:=⟨_,rfl⟩
 rw[←hout] at HM HLG HY ⊢
 have HHM:Hid (1000<ls.length→out=[]):=HM
 have HHL:Hid (∀ j,30000<tag.length+(ls.take j).flatten.length→out=[]):=HLG
 have HHY:Hid (ls.length≤1000→tag.length+ls.flatten.length≤30000→out=sumL (listB (tag :: ls))):=HY
 have HV:=hidOwn hv
 clear hout hv hl HM HLG HY
 go_enter Tryd.func40,Tryd.ntmps40
 go_wp2
 go_loop [5,6] (fun v i=>∃ j t:Nat,j≤ls.length∧i=.int .i64 (j:Int)∧v=.int .i64 (t:Int)∧Hid (t=tag.length+(ls.take j).flatten.length)∧t≤2097152∧(0<j→t≤30000)) (fun _ i=>ls.length - (intOf i).toNat)
 case atStart=>exact⟨0,tag.length,Nat.zero_le _,rfl,rfl,by rw[Hid];simp,by omega,by omega⟩
 case round =>
  obtain⟨j,t,hj,rfl,rfl,HT,ht2,ht3⟩:=hrel
  by_cases hlt:j<ls.length
  · have c1:=hc j hlt
    have hxl:=each_le ls j hlt
    have HF:Hid (tag.length+(ls.take (j+1)).flatten.length=t+ls[j].length):=by rw[Hid,flat_snoc ls j hlt,List.length_append,HT.out];omega
    have HG:30000<tag.length+(ls.take (j+1)).flatten.length→out=[]:=HHL.out (j+1)
    have hj0:(0:Int)≤(j:Int):=by omega
    have hj1:(j:Int)<(ls.length:Int):=by omega
    have HLE:Hid (tag.length+(ls.take (j+1)).flatten.length≤2097152):=by rw[Hid];have:=flat_le ls (j+1);omega
    obtain⟨x,hx⟩:∃ x,x=ls[j]:=⟨_,rfl⟩
    rw[←hx] at c1 hxl HF
    rw[HF.out] at HG HLE
    have HHG:Hid (30000<t+x.length→out=[]):=HG
    clear hc hx HG HT
    by_cases hbig:t+x.length≤30000
    · have hbig':(t:Int)+(x.length:Int)≤30000:=by omega
      clear ht3
      go_wp2
      go_round
      case rel=>exact⟨j+1,t+x.length,by omega,by go_num,by go_num,HF.out.symm,by omega,fun _=>hbig⟩
      case measure=>simp[intOf];omega
    · have hbig':¬ (t:Int)+(x.length:Int)≤30000:=by omega
      have HZ:Hid (out=[]):=HHG.out (by omega)
      clear ht3
      go_wp2
      go_ret
      exact⟨by rw[HZ.out];rfl,Below.refl _ _⟩
  · have hjl : j = ls.length := by omega
    subst hjl
    have HTT:Hid (t=tag.length+ls.flatten.length):=by have:=HT.out;rw[List.take_length] at this;exact this
    clear ht3 HT hlt hj
    by_cases hbig:t≤30000
    · have hbig':(t:Int)≤30000:=by omega
      by_cases hmany:ls.length≤1000
      · have hmany':(ls.length:Int)≤1000:=by omega
        have HO:Hid (out=sumL (listB (tag :: ls))):=HHY.out hmany (by have:=HTT.out;omega)
        have hnews:∀ j u,(scells ls)[j]? = some u→(w.alloc (.cells #[.string ⟨tag.toArray⟩] 9)).cell? ((⟨g,0,none⟩:Addr).add j)=some u:=fun j u hu=>by
         have hj:j<ls.length:=by have:=(List.getElem?_eq_some_iff.1 hu).1;rw[scells_length] at this;exact this
         rw[add_none,(((Below.refl w.heap.size w).alloc (Nat.le_refl _) _).cell (p:=⟨g,j,none⟩) hgl),hc j hj,←scells_at ls j hj];exact hu
        have hone:∀ u∈scells ls,u.oneCell'=true:=fun u hu=>by
         simp only[scells,List.mem_map] at hu
         obtain⟨l,_,rfl⟩:=hu
         rfl
        clear hc HV HHM HHL HHY
        go_wp2_with (at_builtin;refine wpList_append_own _ rfl _ _ 24 rfl w.heap.size 9 i0 (.string ⟨#[]⟩) 1 16 Tryd.underlying24 hi0 hz0 hz1 hz2 rfl (by decide) (.slice (some ⟨w.heap.size,0,none⟩) 1 1) 1 _ rfl (World.ownsRow_lit w #[_] 1 (Nat.le_refl _) (by decide) rfl) ⟨g,0,none⟩ ls.length cap (scells ls) rfl (by rw[scells_length];omega) hnews hone (by unfold maxLen;omega) (by omega) (by simp) ?_;intro v1 w1 hown1 hgrow1 hnil1)
        rcases own_cases hown1 with ⟨_,h0,_⟩ | ⟨g1,cap1,rfl,_,_,_,_⟩
        · omega
        have hB1:Below w.heap.size w w1:=((Below.refl _ _).alloc (Nat.le_refl _) _).grown hgrow1 (by simp) (fun k hk=>by simp[Value.ownBlock] at hk;omega)
        have hs1:=hB1.size
        have hown2:w1.ownsRow w.heap.size 9 1 (.slice (some ⟨g1,0,none⟩) (tag :: ls).length cap1) (tag :: ls).length (scells (tag :: ls)):=by
         have e1:1+ls.length=(tag :: ls).length:=by simp;omega
         rw[e1] at hown1
         exact hown1
        have e1:1+ls.length=(tag :: ls).length:=by simp;omega
        have hfl:(tag :: ls).flatten.length≤30000:=by rw[List.flatten_cons,List.length_append,←HTT.out];exact hbig
        have H1:=spec_l1List g1 cap1 (tag :: ls) w.heap.size w1 hfl (by simp;omega) hown2
        have H2:=fun W=>spec_sum (listB (tag :: ls)) W (by have:=(listB_len (tag :: ls) hfl (by simp;omega)).2;omega)
        rw[←HO.out] at H2
        rw[←e1] at H1
        obtain⟨lb,hlb⟩:∃ lb,lb=listB (tag :: ls):=⟨_,rfl⟩
        rw[←hlb] at H1 H2
        clear hown1 hown2 hgrow1 hnil1 hnews hone e1 hfl hlb HTT HO
        refine H1.mono ?_
        rintro e w2 ⟨rfl,hb2⟩
        have hB2:=hB1.trans (hb2.mono hs1)
        have hs2:=hB2.size
        clear H1 hb2 hB1
        go_wp2_with fail
        refine (H2 _).mono ?_
        rintro e w3 ⟨rfl,hb3⟩
        have hB3:=hB2.trans (hb3.mono hs2)
        clear H2 hb3 hB2
        go_wp2
        go_ret
        exact⟨rfl,hB3⟩
      · have hmany':¬ (ls.length:Int)≤1000:=by omega
        have HZ:Hid (out=[]):=HHM.out (by omega)
        clear hc HV HHM HHL HHY
        go_wp2
        go_ret
        exact⟨by rw[HZ.out];rfl,Below.refl _ _⟩
    · have hbig':¬ (t:Int)≤30000:=by omega
      have HZ:Hid (out=[]):=HHL.out ls.length (by rw[List.take_length,←HTT.out];omega)
      clear hc HV HHM HHL HHY
      go_wp2
      go_ret
      exact⟨by rw[HZ.out];rfl,Below.refl _ _⟩
end Go.Proofs.YtkagiehbjnfabaaDoor
