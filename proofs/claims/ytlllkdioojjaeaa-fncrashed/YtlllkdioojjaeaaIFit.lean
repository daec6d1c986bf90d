/-
 Contract: whether a map of files fits.
-/
import Derived.Test.YtlllkdioojjaeaaFmOps
import Derived.Test.YtlllkdioojjaeaaSForm
import Derived.Maps.RangeWalk
namespace Go.Proofs.Ytlllkdioojjaeaa
open Go.RowKit Go.Maps
set_option linter.unusedVariables false
def metF (left:Lit→Bool) (L:List PairL):List PairL:=L.filter fun p => !left (.string p.1)
theorem met_start {D:DataW Value} {L:List PairL} {S} (h:FD D L S):metF (Maps.has D) L=[]:=by
 unfold metF
 rw[List.filter_eq_nil_iff]
 intro p hp
 rw[(h.has p.1).2 ⟨p.2,hp⟩]
 simp
theorem met_end {left:Lit→Bool} {L:List PairL} (h:∀ kl,left kl=false):metF left L=L:=by
 unfold metF
 rw[List.filter_eq_self]
 intro p hp
 rw[h];rfl
theorem met_out {k:List UInt8} {left:Lit→Bool}:∀ L:List PairL,(∀ p∈L,p.1≠k)→metF (fun z=>left z && !z.sameKey (.string k)) L=metF left L:=fun L h=>by
 unfold metF
 refine List.filter_congr fun p hp=>?_
 have:(p.1 == k)=false:=by rw[beq_eq_false_iff_ne];exact h p hp
 simp[Lit.sameKey,this]
theorem met_step {k v : List UInt8} {left : Lit → Bool} (hlk : left (.string k) = true) : ∀ L : List PairL, Rise L → (k, v) ∈ L → dataN (metF (fun z => left z && !z.sameKey (.string k)) L) = dataN (metF left L) + v.length
 | [],_,h=>by simp at h
 | p :: L, hr, h => by
   obtain⟨h1,h2⟩:=List.pairwise_cons.1 hr
   rcases List.mem_cons.1 h with e | e
   · subst e
     have ho:∀ q∈L,q.1≠k:=fun q hq e=>by have:=h1 q hq;rw[e] at this;exact List.lt_irrefl _ this
     have e1:metF (fun z=>left z && !z.sameKey (.string k)) ((k,v) :: L)=(k,v) :: metF left L:=by
      rw[←met_out (k:=k) (left:=left) L ho]
      unfold metF
      rw[List.filter_cons_of_pos (by simp[Lit.sameKey])]
     have e2:metF left ((k,v) :: L)=metF left L:=by
      unfold metF
      rw[List.filter_cons_of_neg (by simp[hlk])]
     rw[e1,e2]
     simp[dataN,Nat.add_comm]
   · have ih:=met_step hlk L h2 e
     have hne:p.1≠k:=fun e'=>by have:=h1 _ e;rw[e'] at this;exact List.lt_irrefl _ this
     have hb:(p.1 == k)=false:=by rw[beq_eq_false_iff_ne];exact hne
     cases hl:left (.string p.1) with
     | true =>
       have e1:metF (fun z=>left z && !z.sameKey (.string k)) (p :: L)=metF (fun z=>left z && !z.sameKey (.string k)) L:=by
        unfold metF;rw[List.filter_cons_of_neg (by simp[Lit.sameKey,hl,hb])]
       have e2:metF left (p :: L)=metF left L:=by unfold metF;rw[List.filter_cons_of_neg (by simp[hl])]
       rw[e1,e2,ih]
     | false =>
       have e1:metF (fun z=>left z && !z.sameKey (.string k)) (p :: L)=p :: metF (fun z=>left z && !z.sameKey (.string k)) L:=by
        unfold metF;rw[List.filter_cons_of_pos (by simp[hl])]
       have e2:metF left (p :: L)=p :: metF left L:=by unfold metF;rw[List.filter_cons_of_pos (by simp[hl])]
       rw[e1,e2]
       simp only[dataN,List.map_cons,List.sum_cons] at ih ⊢
       omega
theorem data_sub {a b:List PairL} (h:a.Sublist b):dataN a≤dataN b:=by
 induction h with
 | slnil=>exact Nat.le_refl _
 | cons p _ ih=>simp only[dataN,List.map_cons,List.sum_cons] at ih ⊢;omega
 | cons_cons p _ ih=>simp only[dataN,List.map_cons,List.sum_cons] at ih ⊢;omega
def mkKf (x:List UInt8):Value:=.string ⟨x.toArray⟩
def mkVf (x:Option Addr × Nat × Nat):Value:=.slice x.1 x.2.1 x.2.2
theorem invKf (key:Value) (kl:Lit) (h:keyOf Try.prog 9 key=some kl):∃ x,key=mkKf x:=by
 obtain⟨x,hk,_⟩:=Maps.keyOf_str Try.underlying9 h
 exact⟨x,hk⟩
theorem invVf (v:Value) (y:DataW Value × List MemPlace) (h:fvR v=some y):∃ c,v=mkVf c:=by
 unfold fvR at h
 split at h
 · exact⟨(_,_,_),rfl⟩
 · cases h
set_option maxRecDepth 100000 in
set_option maxHeartbeats 2000000 in
theorem impl_fit (base mb n : Nat) (L : List PairL) (D : DataW Value) (S : List UInt8 → Value) (w : World) (hd : dataN L ≤ 1000000000000) (hF : FMap w base mb n L D S) :
 Calls Try.prog 50 #[.map (some mb)] w fun e w'=>e=.returned (.bool (decide (L.length≤60) && decide (dataN L≤200000)))∧Below w.heap.size w w':=by
 have hown:=hF.own
 have HM0:Hid (metF (Maps.has D) L=[]):=met_start hF.fd
 have HIN:Hid (∀ k:List UInt8,Maps.has D (.string k)=true→∃ v,(k,v)∈L):=fun k h=>(hF.fd.has k).1 h
 have HAT:Hid (∀ k v,(k,v)∈L→∀ z,D.atKey (.string k) z=.held (S k)∧∃ a c,S k=.slice a v.length c):=fun k v hv z=>⟨hF.fd.at_ _ hv z,(hF.rows _ hv).slice⟩
 have HST:Hid (∀ (left:Lit→Bool) k v,(k,v)∈L→left (.string k)=true→dataN (metF (fun z=>left z && !z.sameKey (.string k)) L)=dataN (metF left L)+v.length):=fun left k v hv hl=>met_step hl L hF.rise hv
 have HLE:Hid (∀ left:Lit→Bool,dataN (metF left L)≤dataN L):=fun left=>data_sub List.filter_sublist
 have HLN:Hid (∀ W,Below w.heap.size w W→∀ ty,(Builtin.len_ #[75] ty #[.map (some mb)]).run Try.prog W=.ok (.int .i64 ((L.length:Nat):Int)) W):=fun W hW ty=>by
  have:=(hF.below hW).own.len Try.underlying75 ty
  rw[hF.fd.size] at this
  exact this
 have hmb:=hown.lt
 obtain⟨r,hr⟩:∃ r,r=(decide (L.length≤60) && decide (dataN L≤200000)):=⟨_,rfl⟩
 have HRR:Hid (r=(decide (L.length≤60) && decide (dataN L≤200000))):=hr
 rw[←hr]
 clear hF hr
 go_enter Try.func50,Try.ntmps50
 go_wp2_with (first
  | (at_range;refine wpList_range_own _ rfl _ 75 rfl 9 57 lawF Try.underlying75 fvR mb n D rfl hown ?_;intro w3 hrg3 hg3 hs3)
  | go_in)
 go_frame
 have Bw3:Below w.heap.size w w3:=(Below.refl _ _).grown hg3 (Nat.le_refl _) (fun k hk=>by cases hk)
 go_loopw [3,5] (fun t _ wr=>∃ (left:Lit→Bool) (cnt tot:Nat),t=.int .i64 (tot:Int)∧wr.ranges Try.prog 9 fvR mb w.heap.size n D left cnt∧Hid (tot=dataN (metF left L))∧Hid (∀ k:List UInt8,left (.string k)=true→∃ v,(k,v)∈L)∧Below w.heap.size w wr) (fun _ _ wr=>wr.rangeLeft mb w.heap.size)
 case atStart=>exact⟨_,_,0,rfl,hrg3,by rw[Hid,HM0.out];rfl,HIN,Bw3⟩
 case round =>
  obtain⟨left,cnt,tot,rfl,hrg,HTOT,HLQ,hnx⟩:=hrel
  go_wp2_with (first
   | (at_next;refine wpList_next_ranges _ rfl _ rfl 9 lawF fvR mkKf mkVf invKf invVf mb w.heap.size n D left cnt rfl hrg ?_ ?_)
   | go_in)
  · intro hc0 hl0
    have ht:tot=dataN L:=by rw[HTOT.out,met_end hl0]
    have hlen:=HLN.out wr hnx 3
    obtain⟨ln,hln⟩:∃ ln,ln=L.length:=⟨_,rfl⟩
    rw[←ht,←hln] at HRR
    rw[←hln] at hlen
    rw[←ht] at hd
    clear HTOT HLQ HLN HLE HST HAT HIN HM0 hrg ht hln hrg3 hown
    by_cases h1:ln≤60
    · have h1':(ln:Int)≤60:=by omega
      by_cases h2:tot≤200000
      · have h2':(tot:Int)≤200000:=by omega
        have HR:Hid (r=true):=by rw[Hid,HRR.out,decide_eq_true h1,decide_eq_true h2];rfl
        clear h1 h2 HRR
        go_wp2
        go_ret
        obtain rfl:=HR.out
        exact⟨rfl,hnx⟩
      · have h2':¬ (tot:Int)≤200000:=by omega
        have HR:Hid (r=false):=by rw[Hid,HRR.out,decide_eq_false h2];simp
        clear h1 h2 HRR
        go_wp2
        go_ret
        obtain rfl:=HR.out
        exact⟨rfl,hnx⟩
    · have h1':¬ (ln:Int)≤60:=by omega
      have HR:Hid (r=false):=by rw[Hid,HRR.out,decide_eq_false h1];rfl
      clear h1 HRR
      go_wp2
      go_ret
      obtain rfl:=HR.out
      exact⟨rfl,hnx⟩
  · intro x c1 c2 c3 kl y1 y2 w4 cnt4 hkl hlk hy hat hrg4 hlt4 hg4 hs4 hen4
    have ekl:kl=.string x:=by
     obtain⟨x',hk',hkl',_⟩:=Maps.keyOf_str Try.underlying9 hkl
     have:x'=x:=by
      have h9:(Value.string ⟨x.toArray⟩)=.string ⟨x'.toArray⟩:=hk'
      have h8:=congrArg (fun u=>match u with | Value.string s=>s.data.toList | _=>[]) h9
      simpa using h8.symm
     rw[hkl',this]
    subst ekl
    obtain⟨v,hv⟩:=HLQ.out x hlk
    obtain⟨ha1,a9,c9,hs9⟩:=HAT.out x v hv (.held (.slice none 0 0))
    have e9:c2=v.length:=by
     have h9:=hat (.held (.slice none 0 0))
     rw[ha1,hs9] at h9
     have h8:y1=.held (.slice c1 c2 c3):=by
      have:some ((.held (.slice c1 c2 c3):DataW Value),([]:List MemPlace))=some (y1,y2):=hy
      cases this;rfl
     rw[h8] at h9
     cases h9;rfl
    have T4:Hid (tot+c2=dataN (metF (fun z=>left z && !z.sameKey (.string x)) L)):=by rw[Hid,HST.out left x v hv hlk,←HTOT.out,e9]
    have hle:=HLE.out (fun z=>left z && !z.sameKey (.string x))
    rw[←T4.out] at hle
    have Q4:Hid (∀ k:List UInt8,(left (.string k) && !(Lit.string k).sameKey (.string x))=true→∃ v,(k,v)∈L):=fun k h=>HLQ.out k (by simp at h;exact h.1)
    have R4:Hid (w4.ranges Try.prog 9 fvR mb w.heap.size n D (fun z=>left z && !z.sameKey (.string x)) cnt4):=hrg4
    have BW4:Hid (Below w.heap.size w w4):=hnx.grown hg4 hnx.size (fun j hj=>by cases hj;exact Nat.le_refl _)
    have hts:tot+c2≤1000000000000:=Nat.le_trans hle hd
    have hsum:IntKind.i64.wrap ((tot:Int)+(c2:Int))=((tot+c2:Nat):Int):=by rw[i64_wrap_small _ (by omega) (by omega)];omega
    unfold mkKf mkVf at hen4
    unfold mkKf mkVf
    simp only at hen4 ⊢
    clear hkl hat hrg4 hy HLQ HTOT HIN HM0 hs9 ha1 e9 hv hle HLE HST HAT HLN hrg3 hown hd
    go_wp2
    go_roundw
    case rel=>exact⟨_,cnt4,tot+c2,by first | rfl | go_num,R4.out,T4,Q4,BW4.out⟩
    case measure=>rw[R4.out.left_eq,hrg.left_eq];exact hlt4
end Go.Proofs.Ytlllkdioojjaeaa
