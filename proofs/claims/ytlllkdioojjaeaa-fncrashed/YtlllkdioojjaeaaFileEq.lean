/-
 Contract: slices.Equal at files.
-/
import Derived.Test.YtlllkdioojjaeaaSSame
import Derived.Laws.StructEq
import Derived.BigQuiet
namespace Go.Proofs.Ytlllkdioojjaeaa
open Go.RowKit
set_option linter.unusedVariables false
theorem neq_fl (x1 x2 y1 y2:List UInt8) (W:World):(binOp .neq 84 (.agg #[.string ⟨x1.toArray⟩,.string ⟨x2.toArray⟩]) (.agg #[.string ⟨y1.toArray⟩,.string ⟨y2.toArray⟩])).run Try.prog W=.ok (.bool (!decide ((x1,x2)=(y1,y2)))) W:=by
 by_cases h1:x1=y1
 · subst h1
   by_cases h2:x2=y2
   · subst h2
     go_simp
   · have hb:(x2 == y2)=false:=by rw[beq_eq_false_iff_ne];exact h2
     have hd:decide ((x1,x2)=(x1,y2))=false:=by simp[h2]
     rw[hd]
     go_simp
 · have hb:(x1 == y1)=false:=by rw[beq_eq_false_iff_ne];exact h1
   have hd:decide ((x1,x2)=(y1,y2))=false:=by simp[h1]
   rw[hd]
   go_simp
set_option maxRecDepth 100000 in
set_option maxHeartbeats 1000000 in
theorem slices_equalF (ps qs : List PairL) (a c : Option Addr) (n m : Nat) (w : World) (hl : ps.length ≤ 16777216) (hl2 : qs.length ≤ 16777216) (hu : IsPairs w a ps) (hv : IsPairs w c qs) :
 Calls Try.prog 51 #[.slice a ps.length n,.slice c qs.length m] w fun e w'=>e=.returned (.bool (decide (ps=qs)))∧Below w.heap.size w w':=by
 by_cases hlen:ps.length=qs.length
 · have h0 : (ps.length : Int) = (qs.length : Int) := by omega
   rw[←hlen]
   rcases hu with rfl | ⟨b,off,rfl,h1⟩
   · have hq:qs=[]:=List.length_eq_zero_iff.1 hlen.symm
     subst hq
     go_enter Try.func51,Try.ntmps51
     go_wp2
     refine wp_loop_rounds 1 ?_
     rw[rounds_succ]
     go_wp2
     go_ret
     exact⟨rfl,Below.refl _ _⟩
   · rcases hv with rfl | ⟨d, of2, rfl, h2⟩
     · have hq:ps=[]:=List.length_eq_zero_iff.1 hlen
       subst hq
       go_enter Try.func51,Try.ntmps51
       go_wp2
       refine wp_loop_rounds 1 ?_
       rw[rounds_succ]
       go_wp2
       go_ret
       exact⟨rfl,Below.refl _ _⟩
     · obtain⟨res,hres⟩:∃ res,res=decide (ps=qs):=⟨_,rfl⟩
       have HNO:Hid (∀ j (h:j<ps.length) (h':j<qs.length),ps[j]≠qs[j]→res=false):=fun j h h' hne=>by
        rw[hres,decide_eq_false_iff_not]
        intro e
        subst e
        exact hne rfl
       have HYES:Hid ((∀ j (h:j<ps.length) (h':j<qs.length),ps[j]=qs[j])→res=true):=fun h=>by
        rw[hres,decide_eq_true_eq]
        exact List.ext_getElem hlen (fun j h1 h2=>h j h1 h2)
       rw[←hres]
       have HLEN:Hid (ps.length=qs.length):=hlen
       clear hres hlen
       go_enter Try.func51,Try.ntmps51
       go_wp2
       go_loopw [5,13] (fun _ i wr=>∃ j:Nat,j≤ps.length∧i=.int .i64 (j:Int)∧Hid (∀ k (h:k<ps.length) (h':k<qs.length),k<j→ps[k]=qs[k])∧Below w.heap.size w wr) (fun _ i _=>ps.length - (intOf i).toNat)
       case atStart=>exact⟨0,Nat.zero_le _,rfl,fun k _ _ hk=>by omega,Below.refl _ _⟩
       case round =>
        obtain⟨j,hj,rfl,HA,hbel⟩:=hrel
        have hsz:=hbel.size
        by_cases hlt:j<ps.length
        · have hlt2:j<qs.length:=by have:=HLEN.out;omega
          have c1:=(hbel.cell (p:=⟨b,off+j*2,none⟩) (World.block_lt_of_cell? w _ (h1 j hlt).1)).trans (h1 j hlt).1
          have c2:=(hbel.cell (p:=⟨b,off+j*2+1,none⟩) (World.block_lt_of_cell? w _ (h1 j hlt).2)).trans (h1 j hlt).2
          have d1:=(hbel.cell (p:=⟨d,of2+j*2,none⟩) (World.block_lt_of_cell? w _ (h2 j hlt2).1)).trans (h2 j hlt2).1
          have d2:=(hbel.cell (p:=⟨d,of2+j*2+1,none⟩) (World.block_lt_of_cell? w _ (h2 j hlt2).2)).trans (h2 j hlt2).2
          have hj0:(0:Int)≤(j:Int):=by omega
          have hj1:(j:Int)<(ps.length:Int):=by omega
          have HB:Hid (ps[j]≠qs[j]→res=false):=HNO.out j hlt hlt2
          have HN:Hid (ps[j]=qs[j]→∀ k (h:k<ps.length) (h':k<qs.length),k<j+1→ps[k]=qs[k]):=fun e k h h' hk=>by
           by_cases ek:k=j
           · subst ek;exact e
           · exact HA.out k h h' (by omega)
          obtain⟨⟨u1,u2⟩,hu⟩:∃ u,u=ps[j]:=⟨_,rfl⟩
          obtain⟨⟨v1,v2⟩,hv⟩:∃ v,v=qs[j]:=⟨_,rfl⟩
          rw[←hu] at c1 c2 HB HN
          rw[←hv] at d1 d2 HB HN
          simp only at c1 c2 d1 d2
          have heq:∀ W:World,(binOp .neq 84 (.agg #[.string ⟨u1.toArray⟩,.string ⟨u2.toArray⟩]) (.agg #[.string ⟨v1.toArray⟩,.string ⟨v2.toArray⟩])).run Try.prog W=.ok (.bool (!decide ((u1,u2)=(v1,v2)))) W:=fun W=>neq_fl u1 u2 v1 v2 W
          clear h1 h2 hu hv HA HNO HYES
          by_cases huv:(u1,u2)=(v1,v2)
          · have hdc:decide ((u1,u2)=(v1,v2))=true:=by simpa using huv
            rw[hdc] at heq
            have HE:Hid ((u1,u2)=(v1,v2)):=huv
            clear hdc huv
            go_wp2
            go_quiet (fail)
            go_wp2
            go_roundw
            case rel=>exact⟨j+1,by omega,by go_num,HN.out HE.out,by first | exact hbel | exact below_dr hbel⟩
            case measure=>simp[intOf];omega
          · have hdc:decide ((u1,u2)=(v1,v2))=false:=by simpa using huv
            rw[hdc] at heq
            have HR:Hid (res=false):=HB.out huv
            clear hdc huv
            go_wp2
            go_quiet (fail)
            go_wp2
            go_ret
            obtain rfl:=HR.out
            exact⟨rfl,by first | exact hbel | exact below_dr hbel⟩
        · have HR:Hid (res=true):=HYES.out (fun k h h'=>HA.out k h h' (by omega))
          have hjn:j=ps.length:=by omega
          subst hjn
          clear h1 h2 HNO HYES HA
          go_wp2
          go_ret
          obtain rfl:=HR.out
          exact⟨rfl,hbel⟩
 · have h0:¬ (ps.length:Int)=(qs.length:Int):=by omega
   have HR:Hid (decide (ps=qs)=false):=by rw[Hid,decide_eq_false_iff_not];intro e;exact hlen (by rw[e])
   rw[HR.out]
   clear hu hv HR
   go_enter Try.func51,Try.ntmps51
   go_wp2
   go_ret
   exact⟨rfl,Below.refl _ _⟩
end Go.Proofs.Ytlllkdioojjaeaa
