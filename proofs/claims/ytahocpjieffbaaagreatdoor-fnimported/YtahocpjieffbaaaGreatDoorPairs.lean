import Derived.Test.YtahocpjieffbaaaGreatDoorMathAll
import Derived.Test.YtahocpjieffbaaaGreatDoorStrsAll
import Derived.OneCell
import Derived.Deep.RegionHeld3
import Derived.Test.YtahocpjieffbaaaGreatDoorRows
import Derived.ProofKit
import Derived.Deep.SlicePairs
import Derived.Test.YtahocpjieffbaaaGreatDoorMath2
import Derived.BigQuiet
import Derived.Deep.QuietTactic
namespace Go.Proofs.YtahocpjieffbaaaGreatDoor
open Go.RowKit
set_option linter.unusedVariables false
abbrev PairL:=List UInt8 × List UInt8
def pcells:List PairL→List Value
 | []=>[]
 | p :: ps=>.string ⟨p.1.toArray⟩ :: .string ⟨p.2.toArray⟩ :: pcells ps
theorem pcells_length (ps:List PairL):(pcells ps).length=ps.length*2:=by
 induction ps with
 | nil=>rfl
 | cons p ps ih=>simp[pcells,ih];omega
theorem pcells_app (a b:List PairL):pcells (a ++ b)=pcells a ++ pcells b:=by
 induction a with
 | nil=>rfl
 | cons p ps ih=>simp[pcells,ih]
theorem pcells_at (ps:List PairL) (j:Nat) (h:j<ps.length):(pcells ps)[j*2]? = some (.string ⟨ps[j].1.toArray⟩)∧(pcells ps)[j*2+1]? = some (.string ⟨ps[j].2.toArray⟩):=by
 induction ps generalizing j with
 | nil=>simp at h
 | cons p ps ih =>
   match j,h with
   | 0,_=>exact⟨rfl,rfl⟩
   | j + 1, h =>
     have:=ih j (by simpa using h)
     have e:(j+1)*2=j*2+1+1:=by omega
     rw[e]
     simpa [pcells] using this
def IsPairs (w:World) (a:Option Addr) (ps:List PairL):Prop :=
 ps=[]∨∃ b off,a=some ⟨b,off,none⟩∧∀ j (h:j<ps.length),w.cell? ⟨b,off+j*2,none⟩=some (.string ⟨ps[j].1.toArray⟩)∧w.cell? ⟨b,off+j*2+1,none⟩=some (.string ⟨ps[j].2.toArray⟩)
theorem IsPairs.later {w w':World} {a:Option Addr} {ps:List PairL} (h:IsPairs w a ps) (hb:Below w.heap.size w w'):IsPairs w' a ps:=by
 rcases h with h | ⟨b,off,h1,h2⟩
 · exact .inl h
 · exact .inr ⟨b,off,h1,fun j h=>⟨(hb.cell (p:=⟨b,off+j*2,none⟩) (World.block_lt_of_cell? w _ (h2 j h).1)).trans (h2 j h).1,(hb.cell (p:=⟨b,off+j*2+1,none⟩) (World.block_lt_of_cell? w _ (h2 j h).2)).trans (h2 j h).2⟩⟩
theorem isPairs_own {w:World} {base e n:Nat} {a:Option Addr} {m cap:Nat} {ps:List PairL} (h:w.ownsRow base e 2 (.slice a m cap) n (pcells ps)):m=ps.length∧n=ps.length∧IsPairs w a ps:=by
 have hl:ps.length=n:=by have:=h.1;rw[pcells_length] at this;omega
 rcases h.2 with ⟨h',h0⟩ | ⟨g,cap',cur,h',_⟩
 · cases h'
   exact⟨by omega,by omega,.inl (List.length_eq_zero_iff.1 (by omega))⟩
 · cases h'
   exact⟨by omega,by omega,.inr ⟨g,0,rfl,fun j hj=>by
    rw[Nat.zero_add,h.cellAt (j*2) (by omega),h.cellAt (j*2+1) (by omega)]
    exact pcells_at ps j hj⟩⟩
theorem own_cases2 {w:World} {base e n:Nat} {v:Value} {xs:List Value} (h:w.ownsRow base e 2 v n xs) :
 (v=.slice none 0 0∧n=0∧xs=[])∨∃ g cap,v=.slice (some ⟨g,0,none⟩) n cap∧base≤g∧g<w.heap.size∧(∀ j,j<n*2→w.cell? ⟨g,j,none⟩=xs[j]?)∧∀ j,w.frozen? ⟨g,j,none⟩=false:=by
 rcases h.2 with ⟨rfl,hn⟩ | ⟨g,cap,cur,rfl,hb,hg,_⟩
 · exact .inl ⟨rfl,hn,List.length_eq_zero_iff.1 (by rw[h.1,hn])⟩
 · exact .inr ⟨g,cap,rfl,hb,lt_of_block hg,fun j hj=>h.cellAt j hj,fun j=>h.frozenAt j⟩
theorem own_slice2 {w:World} {base e size n:Nat} {v:Value} {xs:List Value} (h:w.ownsRow base e size v n xs):∃ a m c,v=.slice a m c:=by
 rcases h.2 with ⟨rfl,_⟩ | ⟨g,cap,cur,rfl,_⟩
 · exact⟨_,_,_,rfl⟩
 · exact⟨_,_,_,rfl⟩
theorem kept2 {w w':World} {b e n:Nat} {v:Value} {xs:List Value} (h:w.ownsRow b e 2 v n xs) (hb:Below w.heap.size w w'):w'.ownsRow b e 2 v n xs :=
 h.kept (row:=none) ⟨hb.os,hb.tape,hb.output,hb.size,fun k hk _=>hb.block k hk⟩ (by cases v.ownBlock with | none=>exact .inl rfl | some k=>exact .inr (by simp))
def laidP (ps:List PairL) (j:Nat):List Value:=pcells (ps.take j) ++ List.replicate ((ps.length - j)*2) (.string ⟨#[]⟩)
theorem laidP_length (ps:List PairL) (j:Nat) (h:j≤ps.length):(laidP ps j).length=ps.length*2:=by
 simp[laidP,pcells_length,Nat.min_eq_left h]
 try omega
theorem laidP_all (ps:List PairL):laidP ps ps.length=pcells ps:=by simp[laidP]
theorem laidP_zero (ps:List PairL):laidP ps 0=List.replicate (ps.length*2) (.string ⟨#[]⟩):=by simp[laidP,pcells]
theorem take_snocP (ps:List PairL) (j:Nat) (h:j<ps.length):ps.take (j+1)=ps.take j ++ [ps[j]]:=by rw[List.take_succ_eq_append_getElem h]
theorem laidP_step (ps:List PairL) (j:Nat) (h:j<ps.length):((laidP ps j).set (j*2) (.string ⟨ps[j].1.toArray⟩)).set (j*2+1) (.string ⟨ps[j].2.toArray⟩)=laidP ps (j+1):=by
 have hl:(pcells (ps.take j)).length=j*2:=by rw[pcells_length,List.length_take];omega
 have e:(ps.length - j)*2=(ps.length - (j+1))*2+1+1:=by omega
 simp only[laidP,take_snocP ps j h,pcells_app,e,List.replicate_succ]
 rw[List.set_append_right _ _ (by omega),hl,Nat.sub_self,List.set_append_right _ _ (by omega),hl]
 simp[pcells]
def marksP (k n:Nat):List PairL:=(List.range n).map fun i=>(markT (k+2*i),markT (k+2*i+1))
theorem marksP_length (k n:Nat):(marksP k n).length=n:=by simp[marksP]
theorem marksP_at (k n j:Nat) (h:j<(marksP k n).length):(marksP k n)[j]=(markT (k+2*j),markT (k+2*j+1)):=by simp[marksP]
theorem marksP_snoc (k j:Nat):marksP k (j+1)=marksP k j ++ [(markT (k+2*j),markT (k+2*j+1))]:=by simp[marksP,List.range_succ]
def markedP (k j:Nat) (ps:List PairL):List Value:=pcells (marksP k j) ++ pcells (ps.drop j)
theorem markedP_zero (k:Nat) (ps:List PairL):markedP k 0 ps=pcells ps:=by simp[markedP,marksP,pcells]
theorem markedP_all (k:Nat) (ps:List PairL):markedP k ps.length ps=pcells (marksP k ps.length):=by simp[markedP,pcells]
theorem markedP_length (k j:Nat) (ps:List PairL) (h:j≤ps.length):(markedP k j ps).length=ps.length*2:=by simp[markedP,pcells_length,marksP_length];omega
theorem markedP_step (k j:Nat) (ps:List PairL) (h:j<ps.length):((markedP k j ps).set (j*2) (.string ⟨(markT (k+2*j)).toArray⟩)).set (j*2+1) (.string ⟨(markT (k+2*j+1)).toArray⟩)=markedP k (j+1) ps:=by
 have hl:(pcells (marksP k j)).length=j*2:=by rw[pcells_length,marksP_length]
 have e:ps.drop j=ps[j] :: ps.drop (j+1):=by rw[List.drop_eq_getElem_cons h]
 simp only[markedP,marksP_snoc,pcells_app,e,pcells]
 rw[List.set_append_right _ _ (by omega),hl,Nat.sub_self,List.set_append_right _ _ (by omega),hl]
 simp
theorem made_pairs (n:Nat):(madeCells (Value.agg #[.string ⟨#[]⟩,.string ⟨#[]⟩]).cells (n*2)).toList=List.replicate (n*2) (.string ⟨#[]⟩):=by
 apply List.ext_getElem?
 intro j
 by_cases hj:j<n*2
 · rcases Nat.mod_two_eq_zero_or_one j with h | h <;> simp[madeCells,hj,Value.cells,h]
 · simp[madeCells,hj]
theorem duo_set_cell {w:World} {b j:Nat} {x y:Value} {a:Addr} (h:a.block≠b):((w.setCell ⟨b,j,none⟩ x).setCell ⟨b,j+1,none⟩ y).cell? a=w.cell? a :=
 World.cell?_of_block ((Below.heap_setCell _ _ _ _ (by simpa using h)).trans (Below.heap_setCell _ _ _ _ (by simpa using h)))
def sizeP (ps:List PairL):Nat:=(ps.map fun p=>p.1.length+p.2.length).sum
theorem sizeP_snoc (ps:List PairL) (j:Nat) (h:j<ps.length):sizeP (ps.take (j+1))=sizeP (ps.take j)+(ps[j].1.length+ps[j].2.length):=by
 rw[take_snocP ps j h];simp only[sizeP,List.map_append,List.sum_append,List.map_cons,List.map_nil,List.sum_cons,List.sum_nil,Nat.add_zero]
theorem sizeP_le (ps:List PairL) (j:Nat) (h:j<ps.length):ps[j].1.length+ps[j].2.length≤sizeP ps:=by
 have h1:sizeP ps=sizeP (ps.take (j+1))+sizeP (ps.drop (j+1)):=by
  conv=>lhs;rw[←List.take_append_drop (j+1) ps]
  simp only[sizeP,List.map_append,List.sum_append]
 rw[h1,sizeP_snoc ps j h];omega
theorem infoPair:(Tryz.prog.info? 56).map (fun i=>(i.zero,i.size,i.bytes))=some (some (.agg #[.string ⟨#[]⟩,.string ⟨#[]⟩]),2,32):=by kernel_rfl
theorem infoStored:(Tryz.prog.info? 78).map (fun i=>(i.zero,i.size,i.bytes))=some (some (.agg #[.string ⟨#[]⟩,.string ⟨#[]⟩]),2,32):=by kernel_rfl
open Go.ChangeShapes Go.WideShapes Go.ChangeAt Go.RowKit
def bytesOf:Value→List UInt8
 | .string s=>s.data.toList
 | _=>[]
def keyAt (ps:List PairL) (j:Nat):List UInt8:=(ps.getD j ([],[])).1
def valAt (ps:List PairL) (j:Nat):List UInt8:=(ps.getD j ([],[])).2
def okAt (ps:List PairL) (j:Nat):Bool:=decide ((keyAt ps j).length≤12) && decide (1≤(valAt ps j).length) && decide ((valAt ps j).length≤60) && (decide (j=0) || Op.bytesLess (keyAt ps (j - 1)) (keyAt ps j))
def pairsOkL (ps:List PairL):Bool:=decide (ps.length≤60) && (List.range ps.length).all (okAt ps)
theorem pairsOk_big (ps:List PairL) (h:¬ ps.length≤60):pairsOkL ps=false:=by simp[pairsOkL,h]
theorem pairsOk_bad (ps:List PairL) (j:Nat) (h:j<ps.length) (hb:okAt ps j=false):pairsOkL ps=false:=by
 have:(List.range ps.length).all (okAt ps)=false:=by
  rw[List.all_eq_false]
  exact⟨j,List.mem_range.2 h,by simp[hb]⟩
 simp[pairsOkL,this]
theorem pairsOk_all (ps:List PairL) (h60:ps.length≤60) (h:∀ j,j<ps.length→okAt ps j=true):pairsOkL ps=true:=by
 simp only[pairsOkL,Bool.and_eq_true,decide_eq_true_eq,List.all_eq_true,List.mem_range]
 exact⟨h60,h⟩
theorem pairsOk_of (ps:List PairL) (h:pairsOkL ps=true):ps.length≤60∧∀ j,j<ps.length→okAt ps j=true:=by
 simpa only[pairsOkL,Bool.and_eq_true,decide_eq_true_eq,List.all_eq_true,List.mem_range] using h
theorem keyAt_lt (ps:List PairL) (j:Nat) (h:j<ps.length):keyAt ps j=ps[j].1:=by simp[keyAt,h]
theorem valAt_lt (ps:List PairL) (j:Nat) (h:j<ps.length):valAt ps j=ps[j].2:=by simp[valAt,h]
theorem below_dr {B:Nat} {w w':World} {q:Nat} (h:Below B w w'):Below B w (w'.drewN q):=⟨h.os,h.tape,h.output,h.size,h.block⟩
theorem ba_toList (l:List UInt8):(⟨l.toArray⟩:ByteArray).toList=l:=by simp
set_option maxRecDepth 100000 in
set_option maxHeartbeats 400000 in
theorem impl_pairsOk (a : Option Addr) (cap : Nat) (ps : List PairL) (w : World) (hl : ps.length ≤ 1048576) (hm : ∀ p ∈ ps, p.1.length ≤ 1048576 ∧ p.2.length ≤ 1048576) (hs : IsPairs w a ps) :
 Calls Tryz.prog 22 #[.slice a ps.length cap] w fun e w'=>e=.returned (.bool (pairsOkL ps))∧Below w.heap.size w w':=by
 by_cases h60:ps.length≤60
 · have h60' : (ps.length : Int) ≤ 60 := by omega
   rcases hs with rfl | ⟨b,off,rfl,hc⟩
   · go_enter Tryz.func22,Tryz.ntmps22
     go_wp2
     refine wp_loop_rounds 1 ?_
     rw[rounds_succ]
     go_wp2
     go_ret
     exact⟨rfl,Below.refl _ _⟩
   · have hm' : ∀ j (h : j < ps.length), ps[j].1.length ≤ 1048576 ∧ ps[j].2.length ≤ 1048576 := fun j h => hm _ (List.getElem_mem _)
     have hc':∀ j,j<ps.length→w.cell? ⟨b,off+j*2,none⟩=some (.string ⟨(keyAt ps j).toArray⟩)∧w.cell? ⟨b,off+j*2+1,none⟩=some (.string ⟨(valAt ps j).toArray⟩):=fun j h=>by rw[keyAt_lt ps j h,valAt_lt ps j h];exact hc j h
     have hm2:∀ j,j<ps.length→(keyAt ps j).length≤1048576∧(valAt ps j).length≤1048576:=fun j h=>by rw[keyAt_lt ps j h,valAt_lt ps j h];exact hm' j h
     obtain⟨r,hr⟩:∃ r,r=pairsOkL ps:=⟨_,rfl⟩
     have HBAD:Hid (∀ j,j<ps.length→okAt ps j=false→r=false):=fun j h hb=>by rw[hr];exact pairsOk_bad ps j h hb
     have HALL:Hid ((∀ j,j<ps.length→okAt ps j=true)→r=true):=fun h=>by rw[hr];exact pairsOk_all ps h60 h
     rw[←hr]
     clear hm hc hm' hr
     go_enter Tryz.func22,Tryz.ntmps22
     go_wp2
     go_loopw [3,4,10] (fun _ _ i wr=>∃ j:Nat,j≤ps.length∧i=.int .i64 (j:Int)∧Hid (∀ k,k<j→okAt ps k=true)∧Below w.heap.size w wr) (fun _ _ i _=>ps.length - (intOf i).toNat)
     case atStart=>exact⟨0,Nat.zero_le _,rfl,fun k hk=>by omega,Below.refl _ _⟩
     case round =>
      obtain⟨j,hj,rfl,HA,hbel⟩:=hrel
      have hsz:=hbel.size
      by_cases hlt:j<ps.length
      · obtain ⟨c1', c2'⟩ := hc' j hlt
        have c1:=(hbel.cell (p:=⟨b,off+j*2,none⟩) (World.block_lt_of_cell? w _ c1')).trans c1'
        have c2:=(hbel.cell (p:=⟨b,off+j*2+1,none⟩) (World.block_lt_of_cell? w _ c2')).trans c2'
        clear c1' c2'
        have m1:=hm2 j hlt
        have hj0:(0:Int)≤(j:Int):=by omega
        have hj1:(j:Int)<(ps.length:Int):=by omega
        have HB:Hid (okAt ps j=false→r=false):=HBAD.out j hlt
        have HN:Hid (okAt ps j=true→∀ k,k<j+1→okAt ps k=true):=fun h k hk=>by
         by_cases e:k=j
         · rw[e];exact h
         · exact HA.out k (by omega)
        have HO:Hid (okAt ps j=(decide ((keyAt ps j).length≤12) && decide (1≤(valAt ps j).length) && decide ((valAt ps j).length≤60) && (decide (j=0) || Op.bytesLess (keyAt ps (j - 1)) (keyAt ps j)))):=rfl
        by_cases hz:j=0
        · subst hz
          simp only[Nat.zero_mul,Nat.add_zero] at c1 c2
          have hz0:¬ (0:Int)<((0:Nat):Int):=by omega
          have hzb:decide ((0:Int)<((0:Nat):Int))=false:=decide_eq_false (by omega)
          obtain⟨x,hx⟩:∃ x,x=keyAt ps 0:=⟨_,rfl⟩
          obtain⟨y,hy⟩:∃ y,y=valAt ps 0:=⟨_,rfl⟩
          rw[←hx] at c1 m1
          rw[←hy] at c2 m1
          have HO2:Hid (okAt ps 0=(decide (x.length≤12) && decide (1≤y.length) && decide (y.length≤60))):=by rw[Hid,HO.out,←hx,←hy];simp
          clear hc' hm2 hx hy HO HA HBAD HALL
          by_cases q1:x.length≤12
          · have q1':(x.length:Int)≤12:=by omega
            have q1b:decide ((12:Int)<(x.length:Int))=false:=decide_eq_false (by omega)
            by_cases q2:1≤y.length
            · have q2':(1:Int)≤(y.length:Int):=by omega
              have q2b:decide ((y.length:Int)<(1:Int))=false:=decide_eq_false (by omega)
              have q2n:¬ y=[]:=by intro e;rw[e] at q2;simp at q2
              have q2p:0<y.length:=by omega
              by_cases q3:y.length≤60
              · have q3':(y.length:Int)≤60:=by omega
                have q3b:decide ((60:Int)<(y.length:Int))=false:=decide_eq_false (by omega)
                have HT:Hid (okAt ps 0=true):=by rw[Hid,HO2.out];simp[q1,q2,q3]
                go_wp2
                go_quiet (fail)
                go_wp2
                go_roundw
                case rel=>exact⟨1,by omega,by first | rfl | go_num,HN.out HT.out,by first | exact hbel | exact (hbel.alloc hsz _) | exact below_dr (hbel.alloc hsz _) | exact below_dr hbel⟩
                case measure=>simp[intOf];omega
              · have q3':¬ (y.length:Int)≤60:=by omega
                have HR:Hid (r=false):=HB.out (by rw[HO2.out];simp[q3])
                go_wp2
                go_ret
                obtain rfl:=HR.out
                exact⟨rfl,by first | exact hbel | exact (hbel.alloc hsz _) | exact below_dr (hbel.alloc hsz _) | exact below_dr hbel⟩
            · have q2':¬ (1:Int)≤(y.length:Int):=by omega
              have HR:Hid (r=false):=HB.out (by rw[HO2.out];simp[q2])
              go_wp2
              go_ret
              obtain rfl:=HR.out
              exact⟨rfl,by first | exact hbel | exact (hbel.alloc hsz _) | exact below_dr (hbel.alloc hsz _) | exact below_dr hbel⟩
          · have q1':¬ (x.length:Int)≤12:=by omega
            have HR:Hid (r=false):=HB.out (by rw[HO2.out];simp[q1])
            go_wp2
            go_ret
            obtain rfl:=HR.out
            exact⟨rfl,by first | exact hbel | exact (hbel.alloc hsz _) | exact below_dr (hbel.alloc hsz _) | exact below_dr hbel⟩
        · obtain ⟨d1', _⟩ := hc' (j - 1) (by omega)
          have d1:=(hbel.cell (p:=⟨b,off+(j - 1)*2,none⟩) (World.block_lt_of_cell? w _ d1')).trans d1'
          clear d1'
          obtain⟨i1,hi1⟩:∃ i1,i1=j - 1:=⟨_,rfl⟩
          rw[←hi1] at d1 HO
          have hz':(0:Int)<(j:Int):=by omega
          have hz'':0<j:=by omega
          have hzb:decide ((0:Int)<(j:Int))=true:=by simp;omega
          have hzi:IntKind.i64.wrap ((j:Int) - 1)=(i1:Int):=by rw[i64_wrap_small _ (by omega) (by omega)];omega
          have hzt:((i1:Int)).toNat=i1:=by omega
          have hi2:(j:Int) - 1=(i1:Int):=by omega
          have hi0:(0:Int)≤(i1:Int):=by omega
          have hi3:(i1:Int)<(ps.length:Int):=by omega
          obtain⟨x,hx⟩:∃ x,x=keyAt ps j:=⟨_,rfl⟩
          obtain⟨y,hy⟩:∃ y,y=valAt ps j:=⟨_,rfl⟩
          obtain⟨z,hz2⟩:∃ z,z=keyAt ps i1:=⟨_,rfl⟩
          rw[←hx] at c1 m1
          rw[←hy] at c2 m1
          rw[←hz2] at d1
          have HO2:Hid (okAt ps j=(decide (x.length≤12) && decide (1≤y.length) && decide (y.length≤60) && Op.bytesLess z x)):=by rw[Hid,HO.out,←hx,←hy,←hz2];simp[hz]
          have d1a:(wr.alloc (.cells #[.string ⟨x.toArray⟩,.string ⟨y.toArray⟩] 56)).cell? ⟨b,off+i1*2,none⟩=some (.string ⟨z.toArray⟩):=by rw[World.cell?_alloc_lt _ _ _ (World.block_lt_of_cell? wr _ d1)];exact d1
          clear hc' hm2 hx hy HO HA HBAD HALL hz2 hi1
          by_cases q1:x.length≤12
          · have q1':(x.length:Int)≤12:=by omega
            have q1b:decide ((12:Int)<(x.length:Int))=false:=decide_eq_false (by omega)
            by_cases q2:1≤y.length
            · have q2':(1:Int)≤(y.length:Int):=by omega
              have q2b:decide ((y.length:Int)<(1:Int))=false:=decide_eq_false (by omega)
              have q2n:¬ y=[]:=by intro e;rw[e] at q2;simp at q2
              have q2p:0<y.length:=by omega
              by_cases q3:y.length≤60
              · have q3':(y.length:Int)≤60:=by omega
                have q3b:decide ((60:Int)<(y.length:Int))=false:=decide_eq_false (by omega)
                cases q4:Op.bytesLess z x with
                | true =>
                  have q4':Op.bytesLess (⟨z.toArray⟩:ByteArray).toList (⟨x.toArray⟩:ByteArray).toList=true:=by rw[ba_toList,ba_toList];exact q4
                  have HT:Hid (okAt ps j=true):=by rw[Hid,HO2.out];simp[q1,q2,q3,q4]
                  go_wp2
                  go_quiet (fail)
                  go_wp2
                  go_roundw
                  case rel=>exact⟨j+1,by omega,by go_num,HN.out HT.out,by first | exact hbel | exact (hbel.alloc hsz _) | exact below_dr (hbel.alloc hsz _) | exact below_dr hbel⟩
                  case measure=>simp[intOf];omega
                | false =>
                  have q4':Op.bytesLess (⟨z.toArray⟩:ByteArray).toList (⟨x.toArray⟩:ByteArray).toList=false:=by rw[ba_toList,ba_toList];exact q4
                  have HR:Hid (r=false):=HB.out (by rw[HO2.out];simp[q4])
                  go_wp2
                  go_quiet (fail)
                  go_wp2
                  go_ret
                  obtain rfl:=HR.out
                  exact⟨rfl,by first | exact hbel | exact (hbel.alloc hsz _) | exact below_dr (hbel.alloc hsz _) | exact below_dr hbel⟩
              · have q3':¬ (y.length:Int)≤60:=by omega
                have HR:Hid (r=false):=HB.out (by rw[HO2.out];simp[q3])
                go_wp2
                go_ret
                obtain rfl:=HR.out
                exact⟨rfl,by first | exact hbel | exact (hbel.alloc hsz _) | exact below_dr (hbel.alloc hsz _) | exact below_dr hbel⟩
            · have q2':¬ (1:Int)≤(y.length:Int):=by omega
              have HR:Hid (r=false):=HB.out (by rw[HO2.out];simp[q2])
              go_wp2
              go_ret
              obtain rfl:=HR.out
              exact⟨rfl,by first | exact hbel | exact (hbel.alloc hsz _) | exact below_dr (hbel.alloc hsz _) | exact below_dr hbel⟩
          · have q1':¬ (x.length:Int)≤12:=by omega
            have HR:Hid (r=false):=HB.out (by rw[HO2.out];simp[q1])
            go_wp2
            go_ret
            obtain rfl:=HR.out
            exact⟨rfl,by first | exact hbel | exact (hbel.alloc hsz _) | exact below_dr (hbel.alloc hsz _) | exact below_dr hbel⟩
      · have hjl:j=ps.length:=by omega
        subst hjl
        have HR:Hid (r=true):=HALL.out (fun k hk=>HA.out k hk)
        clear hc' hm2
        go_wp2
        go_ret
        obtain rfl:=HR.out
        exact⟨rfl,by first | exact hbel | exact (hbel.alloc hsz _) | exact below_dr (hbel.alloc hsz _) | exact below_dr hbel⟩
 · have h60':¬ (ps.length:Int)≤60:=by omega
   have HB:Hid (pairsOkL ps=false):=pairsOk_big ps h60
   obtain⟨r,hr⟩:∃ r,r=pairsOkL ps:=⟨_,rfl⟩
   rw[←hr] at HB ⊢
   clear hs hm hr
   go_enter Tryz.func22,Tryz.ntmps22
   go_wp2
   go_ret
   obtain rfl:=HB.out
   exact⟨rfl,Below.refl _ _⟩
set_option maxRecDepth 100000 in
set_option maxHeartbeats 400000 in
theorem spec_pairsOk (a : Option Addr) (cap : Nat) (ps : List PairL) (w : World) (hl : ps.length ≤ 1048576) (hm : ∀ p ∈ ps, p.1.length ≤ 1048576 ∧ p.2.length ≤ 1048576) (hs : IsPairs w a ps) :
 Calls Tryz.prog 24 #[.slice a ps.length cap] w fun e w'=>e=.returned (.bool (pairsOkL ps))∧Below w.heap.size w w':=by
 by_cases h60:ps.length≤60
 · have h60' : (ps.length : Int) ≤ 60 := by omega
   rcases hs with rfl | ⟨b,off,rfl,hc⟩
   · go_enter Tryz.func24,Tryz.ntmps24
     go_wp2
     refine wp_loop_rounds 1 ?_
     rw[rounds_succ]
     go_wp2
     go_ret
     exact⟨rfl,Below.refl _ _⟩
   · have hm' : ∀ j (h : j < ps.length), ps[j].1.length ≤ 1048576 ∧ ps[j].2.length ≤ 1048576 := fun j h => hm _ (List.getElem_mem _)
     have hc':∀ j,j<ps.length→w.cell? ⟨b,off+j*2,none⟩=some (.string ⟨(keyAt ps j).toArray⟩)∧w.cell? ⟨b,off+j*2+1,none⟩=some (.string ⟨(valAt ps j).toArray⟩):=fun j h=>by rw[keyAt_lt ps j h,valAt_lt ps j h];exact hc j h
     have hm2:∀ j,j<ps.length→(keyAt ps j).length≤1048576∧(valAt ps j).length≤1048576:=fun j h=>by rw[keyAt_lt ps j h,valAt_lt ps j h];exact hm' j h
     obtain⟨r,hr⟩:∃ r,r=pairsOkL ps:=⟨_,rfl⟩
     have HBAD:Hid (∀ j,j<ps.length→okAt ps j=false→r=false):=fun j h hb=>by rw[hr];exact pairsOk_bad ps j h hb
     have HALL:Hid ((∀ j,j<ps.length→okAt ps j=true)→r=true):=fun h=>by rw[hr];exact pairsOk_all ps h60 h
     rw[←hr]
     clear hm hc hm' hr
     go_enter Tryz.func24,Tryz.ntmps24
     go_wp2
     go_loopw [3] (fun i wr=>∃ j:Nat,j≤ps.length∧i=.int .i64 (j:Int)∧Hid (∀ k,k<j→okAt ps k=true)∧Below w.heap.size w wr) (fun i _=>ps.length - (intOf i).toNat)
     case atStart=>exact⟨0,Nat.zero_le _,rfl,fun k hk=>by omega,Below.refl _ _⟩
     case round =>
      obtain⟨j,hj,rfl,HA,hbel⟩:=hrel
      have hsz:=hbel.size
      by_cases hlt:j<ps.length
      · obtain ⟨c1', c2'⟩ := hc' j hlt
        have c1:=(hbel.cell (p:=⟨b,off+j*2,none⟩) (World.block_lt_of_cell? w _ c1')).trans c1'
        have c2:=(hbel.cell (p:=⟨b,off+j*2+1,none⟩) (World.block_lt_of_cell? w _ c2')).trans c2'
        clear c1' c2'
        have m1:=hm2 j hlt
        have hj0:(0:Int)≤(j:Int):=by omega
        have hj1:(j:Int)<(ps.length:Int):=by omega
        have HB:Hid (okAt ps j=false→r=false):=HBAD.out j hlt
        have HN:Hid (okAt ps j=true→∀ k,k<j+1→okAt ps k=true):=fun h k hk=>by
         by_cases e:k=j
         · rw[e];exact h
         · exact HA.out k (by omega)
        have HO:Hid (okAt ps j=(decide ((keyAt ps j).length≤12) && decide (1≤(valAt ps j).length) && decide ((valAt ps j).length≤60) && (decide (j=0) || Op.bytesLess (keyAt ps (j - 1)) (keyAt ps j)))):=rfl
        by_cases hz:j=0
        · subst hz
          simp only[Nat.zero_mul,Nat.add_zero] at c1 c2
          have hz0:¬ (0:Int)<((0:Nat):Int):=by omega
          have hzb:decide ((0:Int)<((0:Nat):Int))=false:=decide_eq_false (by omega)
          obtain⟨x,hx⟩:∃ x,x=keyAt ps 0:=⟨_,rfl⟩
          obtain⟨y,hy⟩:∃ y,y=valAt ps 0:=⟨_,rfl⟩
          rw[←hx] at c1 m1
          rw[←hy] at c2 m1
          have HO2:Hid (okAt ps 0=(decide (x.length≤12) && decide (1≤y.length) && decide (y.length≤60))):=by rw[Hid,HO.out,←hx,←hy];simp
          clear hc' hm2 hx hy HO HA HBAD HALL
          by_cases q1:x.length≤12
          · have q1':(x.length:Int)≤12:=by omega
            have q1b:decide ((12:Int)<(x.length:Int))=false:=decide_eq_false (by omega)
            by_cases q2:1≤y.length
            · have q2':(1:Int)≤(y.length:Int):=by omega
              have q2b:decide ((y.length:Int)<(1:Int))=false:=decide_eq_false (by omega)
              have q2n:¬ y=[]:=by intro e;rw[e] at q2;simp at q2
              have q2p:0<y.length:=by omega
              by_cases q3:y.length≤60
              · have q3':(y.length:Int)≤60:=by omega
                have q3b:decide ((60:Int)<(y.length:Int))=false:=decide_eq_false (by omega)
                have HT:Hid (okAt ps 0=true):=by rw[Hid,HO2.out];simp[q1,q2,q3]
                go_wp2
                go_quiet (fail)
                go_wp2
                go_roundw
                case rel=>exact⟨1,by omega,by first | rfl | go_num,HN.out HT.out,by first | exact hbel | exact (hbel.alloc hsz _) | exact below_dr (hbel.alloc hsz _) | exact below_dr hbel⟩
                case measure=>simp[intOf];omega
              · have q3':¬ (y.length:Int)≤60:=by omega
                have HR:Hid (r=false):=HB.out (by rw[HO2.out];simp[q3])
                go_wp2
                go_quiet (fail)
                go_wp2
                go_ret
                obtain rfl:=HR.out
                exact⟨rfl,by first | exact hbel | exact (hbel.alloc hsz _) | exact below_dr (hbel.alloc hsz _) | exact below_dr hbel⟩
            · have q2':¬ (1:Int)≤(y.length:Int):=by omega
              have HR:Hid (r=false):=HB.out (by rw[HO2.out];simp[q2])
              go_wp2
              go_quiet (fail)
              go_wp2
              go_ret
              obtain rfl:=HR.out
              exact⟨rfl,by first | exact hbel | exact (hbel.alloc hsz _) | exact below_dr (hbel.alloc hsz _) | exact below_dr hbel⟩
          · have q1':¬ (x.length:Int)≤12:=by omega
            have HR:Hid (r=false):=HB.out (by rw[HO2.out];simp[q1])
            go_wp2
            go_quiet (fail)
            go_wp2
            go_ret
            obtain rfl:=HR.out
            exact⟨rfl,by first | exact hbel | exact (hbel.alloc hsz _) | exact below_dr (hbel.alloc hsz _) | exact below_dr hbel⟩
        · obtain ⟨d1', _⟩ := hc' (j - 1) (by omega)
          have d1:=(hbel.cell (p:=⟨b,off+(j - 1)*2,none⟩) (World.block_lt_of_cell? w _ d1')).trans d1'
          clear d1'
          obtain⟨i1,hi1⟩:∃ i1,i1=j - 1:=⟨_,rfl⟩
          rw[←hi1] at d1 HO
          have hz':(0:Int)<(j:Int):=by omega
          have hz'':0<j:=by omega
          have hzb:decide ((0:Int)<(j:Int))=true:=by simp;omega
          have hzi:IntKind.i64.wrap ((j:Int) - 1)=(i1:Int):=by rw[i64_wrap_small _ (by omega) (by omega)];omega
          have hzt:((i1:Int)).toNat=i1:=by omega
          have hi2:(j:Int) - 1=(i1:Int):=by omega
          have hi0:(0:Int)≤(i1:Int):=by omega
          have hi3:(i1:Int)<(ps.length:Int):=by omega
          obtain⟨x,hx⟩:∃ x,x=keyAt ps j:=⟨_,rfl⟩
          obtain⟨y,hy⟩:∃ y,y=valAt ps j:=⟨_,rfl⟩
          obtain⟨z,hz2⟩:∃ z,z=keyAt ps i1:=⟨_,rfl⟩
          rw[←hx] at c1 m1
          rw[←hy] at c2 m1
          rw[←hz2] at d1
          have HO2:Hid (okAt ps j=(decide (x.length≤12) && decide (1≤y.length) && decide (y.length≤60) && Op.bytesLess z x)):=by rw[Hid,HO.out,←hx,←hy,←hz2];simp[hz]
          clear hc' hm2 hx hy HO HA HBAD HALL hz2 hi1
          by_cases q1:x.length≤12
          · have q1':(x.length:Int)≤12:=by omega
            have q1b:decide ((12:Int)<(x.length:Int))=false:=decide_eq_false (by omega)
            by_cases q2:1≤y.length
            · have q2':(1:Int)≤(y.length:Int):=by omega
              have q2b:decide ((y.length:Int)<(1:Int))=false:=decide_eq_false (by omega)
              have q2n:¬ y=[]:=by intro e;rw[e] at q2;simp at q2
              have q2p:0<y.length:=by omega
              by_cases q3:y.length≤60
              · have q3':(y.length:Int)≤60:=by omega
                have q3b:decide ((60:Int)<(y.length:Int))=false:=decide_eq_false (by omega)
                cases q4:Op.bytesLess z x with
                | true =>
                  have q4':Op.bytesLess (⟨z.toArray⟩:ByteArray).toList (⟨x.toArray⟩:ByteArray).toList=true:=by rw[ba_toList,ba_toList];exact q4
                  have HT:Hid (okAt ps j=true):=by rw[Hid,HO2.out];simp[q1,q2,q3,q4]
                  go_wp2
                  go_quiet (fail)
                  go_wp2
                  go_roundw
                  case rel=>exact⟨j+1,by omega,by go_num,HN.out HT.out,by first | exact hbel | exact (hbel.alloc hsz _) | exact below_dr (hbel.alloc hsz _) | exact below_dr hbel⟩
                  case measure=>simp[intOf];omega
                | false =>
                  have q4':Op.bytesLess (⟨z.toArray⟩:ByteArray).toList (⟨x.toArray⟩:ByteArray).toList=false:=by rw[ba_toList,ba_toList];exact q4
                  have HR:Hid (r=false):=HB.out (by rw[HO2.out];simp[q4])
                  go_wp2
                  go_quiet (fail)
                  go_wp2
                  go_ret
                  obtain rfl:=HR.out
                  exact⟨rfl,by first | exact hbel | exact (hbel.alloc hsz _) | exact below_dr (hbel.alloc hsz _) | exact below_dr hbel⟩
              · have q3':¬ (y.length:Int)≤60:=by omega
                have HR:Hid (r=false):=HB.out (by rw[HO2.out];simp[q3])
                go_wp2
                go_quiet (fail)
                go_wp2
                go_ret
                obtain rfl:=HR.out
                exact⟨rfl,by first | exact hbel | exact (hbel.alloc hsz _) | exact below_dr (hbel.alloc hsz _) | exact below_dr hbel⟩
            · have q2':¬ (1:Int)≤(y.length:Int):=by omega
              have HR:Hid (r=false):=HB.out (by rw[HO2.out];simp[q2])
              go_wp2
              go_quiet (fail)
              go_wp2
              go_ret
              obtain rfl:=HR.out
              exact⟨rfl,by first | exact hbel | exact (hbel.alloc hsz _) | exact below_dr (hbel.alloc hsz _) | exact below_dr hbel⟩
          · have q1':¬ (x.length:Int)≤12:=by omega
            have HR:Hid (r=false):=HB.out (by rw[HO2.out];simp[q1])
            go_wp2
            go_quiet (fail)
            go_wp2
            go_ret
            obtain rfl:=HR.out
            exact⟨rfl,by first | exact hbel | exact (hbel.alloc hsz _) | exact below_dr (hbel.alloc hsz _) | exact below_dr hbel⟩
      · have hjl:j=ps.length:=by omega
        subst hjl
        have HR:Hid (r=true):=HALL.out (fun k hk=>HA.out k hk)
        clear hc' hm2
        go_wp2
        go_ret
        obtain rfl:=HR.out
        exact⟨rfl,by first | exact hbel | exact (hbel.alloc hsz _) | exact below_dr (hbel.alloc hsz _) | exact below_dr hbel⟩
 · have h60':¬ (ps.length:Int)≤60:=by omega
   have HB:Hid (pairsOkL ps=false):=pairsOk_big ps h60
   obtain⟨r,hr⟩:∃ r,r=pairsOkL ps:=⟨_,rfl⟩
   rw[←hr] at HB ⊢
   clear hs hm hr
   go_enter Tryz.func24,Tryz.ntmps24
   go_wp2
   go_ret
   obtain rfl:=HB.out
   exact⟨rfl,Below.refl _ _⟩
open Go.ChangeShapes Go.WideShapes Go.ChangeAt Go.RowKit
def bytesSt:Value→List UInt8
 | .string s=>s.data.toList
 | _=>[]
def findL (ps:List PairL) (h:List UInt8):Option (List UInt8):=(ps.find? (fun p=>p.1 == h)).map (·.2)
theorem findL_hit (ps:List PairL) (h:List UInt8) (j:Nat) (hj:j<ps.length) (hk:keyAt ps j=h) (ho:∀ q,q<j→keyAt ps q≠h):findL ps h=some (valAt ps j):=by
 have:ps.find? (fun p=>p.1 == h)=some ps[j]:=by
  rw[List.find?_eq_some_iff_getElem]
  refine⟨by rw[keyAt_lt ps j hj] at hk;simp[hk],j,hj,rfl,fun q hq=>?_⟩
  have:=ho q hq
  rw[keyAt_lt ps q (by omega)] at this
  simp[this]
 rw[findL,this,valAt_lt ps j hj]
 rfl
theorem findL_none (ps:List PairL) (h:List UInt8) (ho:∀ q,q<ps.length→keyAt ps q≠h):findL ps h=none:=by
 have:ps.find? (fun p=>p.1 == h)=none:=by
  rw[List.find?_eq_none]
  intro p hp
  obtain⟨q,hq,rfl⟩:=List.getElem_of_mem hp
  have:=ho q hq
  rw[keyAt_lt ps q hq] at this
  simp[this]
 rw[findL,this]
 rfl
set_option maxRecDepth 100000 in
set_option maxHeartbeats 400000 in
theorem spec_l6Find (a : Option Addr) (cap : Nat) (ps : List PairL) (h : List UInt8) (w : World) (hl : ps.length ≤ 1048576) (hs : IsPairs w a ps) :
 Calls Tryz.prog 54 #[.slice a ps.length cap,.string ⟨h.toArray⟩] w fun e w'=>e=.returned (.tuple #[.string ⟨((findL ps h).getD []).toArray⟩,.bool (findL ps h).isSome])∧Below w.heap.size w w':=by
 rcases hs with rfl | ⟨b,off,rfl,hc⟩
 · go_enter Tryz.func54,Tryz.ntmps54
   go_wp2
   refine wp_loop_rounds 1 ?_
   rw[rounds_succ]
   go_wp2
   go_ret2
   exact⟨rfl,Below.refl _ _⟩
 · have hc' : ∀ j, j < ps.length → w.cell? ⟨b, off + j * 2, none⟩ = some (.string ⟨(keyAt ps j).toArray⟩) ∧ w.cell? ⟨b, off + j * 2 + 1, none⟩ = some (.string ⟨(valAt ps j).toArray⟩) := fun j h => by rw [keyAt_lt ps j h, valAt_lt ps j h]; exact hc j h
   obtain⟨r,hr⟩:∃ r,r=findL ps h:=⟨_,rfl⟩
   have HHIT:Hid (∀ j,j<ps.length→keyAt ps j=h→(∀ q,q<j→keyAt ps q≠h)→r=some (valAt ps j)):=fun j hj hk ho=>by rw[hr];exact findL_hit ps h j hj hk ho
   have HNO:Hid ((∀ q,q<ps.length→keyAt ps q≠h)→r=none):=fun ho=>by rw[hr];exact findL_none ps h ho
   rw[←hr]
   clear hc hr
   go_enter Tryz.func54,Tryz.ntmps54
   go_wp2
   go_loopw [6] (fun i wr=>∃ j:Nat,j≤ps.length∧i=.int .i64 (j:Int)∧Hid (∀ q,q<j→keyAt ps q≠h)∧Below w.heap.size w wr) (fun i _=>ps.length - (intOf i).toNat)
   case atStart=>exact⟨0,Nat.zero_le _,rfl,fun k hk=>by omega,Below.refl _ _⟩
   case round =>
    obtain⟨j,hj,rfl,HA,hbel⟩:=hrel
    have hsz:=hbel.size
    by_cases hlt:j<ps.length
    · obtain⟨c1',c2'⟩:=hc' j hlt
      have c1:=(hbel.cell (p:=⟨b,off+j*2,none⟩) (World.block_lt_of_cell? w _ c1')).trans c1'
      have c2:=(hbel.cell (p:=⟨b,off+j*2+1,none⟩) (World.block_lt_of_cell? w _ c2')).trans c2'
      clear c1' c2'
      have hj0:(0:Int)≤(j:Int):=by omega
      have hj1:(j:Int)<(ps.length:Int):=by omega
      have HB:Hid (keyAt ps j=h→r=some (valAt ps j)):=fun e=>HHIT.out j hlt e HA.out
      have HN:Hid (keyAt ps j≠h→∀ k,k<j+1→keyAt ps k≠h):=fun e k hk=>by
       by_cases ek:k=j
       · rw[ek];exact e
       · exact HA.out k (by omega)
      obtain⟨x,hx⟩:∃ x,x=keyAt ps j:=⟨_,rfl⟩
      obtain⟨y,hy⟩:∃ y,y=valAt ps j:=⟨_,rfl⟩
      rw[←hx] at c1 HB HN
      rw[←hy] at c2 HB
      clear hc' hx hy HA HHIT HNO
      by_cases he:x=h
      · subst he
        have HR:Hid (r=some y):=HB.out rfl
        clear HB HN
        go_wp2
        go_ret2
        obtain rfl:=HR.out
        exact⟨rfl,by first | exact hbel | exact below_dr hbel⟩
      · have heb:(x == h)=false:=by rw[beq_eq_false_iff_ne];exact he
        go_wp2
        go_roundw
        case rel=>exact⟨j+1,by omega,by go_num,HN.out he,by first | exact hbel | exact below_dr hbel⟩
        case measure=>simp[intOf];omega
    · have hjl:j=ps.length:=by omega
      subst hjl
      have HR:Hid (r=none):=HNO.out HA.out
      clear hc'
      go_wp2
      go_ret2
      obtain rfl:=HR.out
      exact⟨rfl,hbel⟩
end Go.Proofs.YtahocpjieffbaaaGreatDoor
