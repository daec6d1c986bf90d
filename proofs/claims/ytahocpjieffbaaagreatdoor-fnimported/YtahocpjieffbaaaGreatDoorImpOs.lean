import Derived.Test.YtahocpjieffbaaaGreatDoorImp
import Derived.Test.YtahocpjieffbaaaGreatDoorLaidAll
import Derived.Test.YtahocpjieffbaaaGreatDoorPairs
import Derived.Lib.SmallJoins
namespace Go.Proofs.YtahocpjieffbaaaGreatDoor
open Go.RowKit
set_option linter.unusedVariables false
open Go.ChangeShapes Go.WideShapes Go.ChangeAt Go.RowKit
def importB (r:List UInt8) (ps:List PairL) (d:Bool):Bool:=decide (r.length=32) && (pairsOkL ps && (!d || (rootOk ps && decide (rootR ps=r))))
set_option maxRecDepth 100000 in
set_option maxHeartbeats 1000000 in
theorem impl_areOfRoot (a:Option Addr) (cp:Nat) (ps:List PairL) (r:List UInt8) (w:World) (hl:ps.length≤1048576) (hm:∀ p∈ps,p.1.length≤1048576∧p.2.length≤1048576) (hs:IsPairs w a ps) (hT:Tab w) :
 Calls Tryz.prog 33 #[.slice a ps.length cp,.string ⟨r.toArray⟩] w fun e w'=>e=.returned (.bool (rootOk ps && decide (rootR ps=r)))∧Below w.heap.size w w':=by
 have K:=impl_rootOf a cp ps w hl hm hs hT
 obtain⟨q,hq⟩:∃ q,q=rootR ps:=⟨_,rfl⟩
 obtain⟨ok,hok⟩:∃ ok,ok=rootOk ps:=⟨_,rfl⟩
 rw[←hq,←hok] at K ⊢
 clear hs hm hT hq hok
 by_cases he:q=r
 · have hd:decide (q=r)=true:=by simpa using he
   rw[hd]
   subst he
   clear hd
   cases ok
   all_goals
    go_enter Tryz.func33,Tryz.ntmps33
    go_wp2_with fail
    refine K.mono ?_
    rintro e w1 ⟨rfl,b1⟩
    go_wp2
    go_ret
    exact⟨rfl,b1⟩
 · have hd:decide (q=r)=false:=by simpa using he
   have hb:(q == r)=false:=by rw[beq_eq_false_iff_ne];exact he
   rw[hd]
   clear hd he
   cases ok
   all_goals
    go_enter Tryz.func33,Tryz.ntmps33
    go_wp2_with fail
    refine K.mono ?_
    rintro e w1 ⟨rfl,b1⟩
    go_wp2
    go_ret
    exact⟨rfl,b1⟩
set_option maxRecDepth 100000 in
set_option maxHeartbeats 1000000 in
theorem impl_importOk (r:List UInt8) (a:Option Addr) (cp:Nat) (ps:List PairL) (d:Bool) (w:World) (hr:r.length≤1048576) (hl:ps.length≤1048576) (hm:∀ p∈ps,p.1.length≤1048576∧p.2.length≤1048576) (hs:IsPairs w a ps) (hT:Tab w) :
 Calls Tryz.prog 29 #[.agg #[.string ⟨r.toArray⟩,.slice a ps.length cp,.bool d]] w fun e w'=>e=.returned (.bool (importB r ps d))∧Below w.heap.size w w':=by
 have hz:(ByteArray.mk r.toArray).size=r.length:=by simp[ByteArray.size]
 have B0:Below w.heap.size w (w.alloc (.cells #[.string ⟨r.toArray⟩,.slice a ps.length cp,.bool d] 33)):=(Below.refl _ _).alloc (Nat.le_refl _) _
 have H0:=heap_alloc_new w (.cells #[.string ⟨r.toArray⟩,.slice a ps.length cp,.bool d] 33)
 obtain⟨p0,p1,p2,_⟩:=im_cells H0
 have HH0:Hid (_=_):=H0
 have HT:Hid (Tab w):=hT
 have HS:Hid (∀ W,Below w.heap.size w W→IsPairs W a ps):=fun W hW=>hs.later hW
 have K1:=impl_pairsOk a cp ps _ hl hm (hs.later B0)
 have HK2:Hid (∀ W,IsPairs W a ps→Tab W→_):=fun W h hT=>impl_areOfRoot a cp ps r W hl hm h hT
 clear hs hm hT H0
 by_cases h32:r.length=32
 · have h32':(r.length:Int)=32:=by omega
   have h32b:((r.length:Int) != 32)=false:=by rw[bne_eq_false_iff_eq];exact h32'
   have HI:Hid (importB r ps d=(pairsOkL ps && (!d || (rootOk ps && decide (rootR ps=r))))):=by rw[Hid,importB,decide_eq_true h32];rfl
   obtain⟨po,hpo⟩:∃ po,po=pairsOkL ps:=⟨_,rfl⟩
   obtain⟨ro,hro⟩:∃ ro,ro=(rootOk ps && decide (rootR ps=r)):=⟨_,rfl⟩
   rw[←hpo,←hro] at HI
   rw[←hpo] at K1
   rw[←hro] at HK2
   rw[HI.out]
   clear HI h32 hpo hro
   cases po with
   | false =>
     go_enter Tryz.func29,Tryz.ntmps29
     go_wp2_with fail
     refine K1.mono ?_
     rintro e w1 ⟨rfl,b1⟩
     have B1:=B0.trans (b1.mono B0.size)
     go_wp2
     go_ret
     exact⟨rfl,B1⟩
   | true =>
     cases d with
     | false =>
       go_enter Tryz.func29,Tryz.ntmps29
       go_wp2_with fail
       refine K1.mono ?_
       rintro e w1 ⟨rfl,b1⟩
       have B1:=B0.trans (b1.mono B0.size)
       obtain⟨q0,q1,q2,_⟩:=im_cells ((b1.block w.heap.size (by simp)).trans HH0.out)
       clear p0 p1 p2 b1
       go_wp2
       go_ret
       exact⟨rfl,B1⟩
     | true =>
       go_enter Tryz.func29,Tryz.ntmps29
       go_wp2_with fail
       refine K1.mono ?_
       rintro e w1 ⟨rfl,b1⟩
       have B1:=B0.trans (b1.mono B0.size)
       obtain⟨q0,q1,q2,_⟩:=im_cells ((b1.block w.heap.size (by simp)).trans HH0.out)
       have K2:=HK2.out w1 (HS.out w1 B1) (HT.out.later B1)
       clear p0 p1 p2 b1
       go_wp2_with fail
       refine K2.mono ?_
       rintro e w2 ⟨rfl,b2⟩
       have B2:=B1.trans (b2.mono B1.size)
       go_wp2
       go_ret
       exact⟨rfl,B2⟩
 · have h32':¬ (r.length:Int)=32:=by omega
   have h32b:((r.length:Int) != 32)=true:=by rw[bne_iff_ne];exact h32'
   have HI:Hid (importB r ps d=false):=by rw[Hid,importB,decide_eq_false h32];rfl
   rw[HI.out]
   clear HI h32 K1
   go_enter Tryz.func29,Tryz.ntmps29
   go_wp2
   go_ret
   exact⟨rfl,B0⟩
set_option maxRecDepth 100000 in
set_option maxHeartbeats 1000000 in
theorem spec_importOk (r:List UInt8) (a:Option Addr) (cp:Nat) (ps:List PairL) (d:Bool) (w:World) (hr:r.length≤1048576) (hl:ps.length≤1048576) (hm:∀ p∈ps,p.1.length≤1048576∧p.2.length≤1048576) (hs:IsPairs w a ps) :
 Calls Tryz.prog 37 #[.agg #[.string ⟨r.toArray⟩,.slice a ps.length cp,.bool d]] w fun e w'=>e=.returned (.bool (importB r ps d))∧Below w.heap.size w w':=by
 have hz:(ByteArray.mk r.toArray).size=r.length:=by simp[ByteArray.size]
 have B0:Below w.heap.size w (w.alloc (.cells #[.string ⟨r.toArray⟩,.slice a ps.length cp,.bool d] 33)):=(Below.refl _ _).alloc (Nat.le_refl _) _
 have H0:=heap_alloc_new w (.cells #[.string ⟨r.toArray⟩,.slice a ps.length cp,.bool d] 33)
 obtain⟨p0,p1,p2,_⟩:=im_cells H0
 have HH0:Hid (_=_):=H0
 have HS:Hid (∀ W,Below w.heap.size w W→IsPairs W a ps):=fun W hW=>hs.later hW
 have K1:=spec_pairsOk a cp ps _ hl hm (hs.later B0)
 have HK2:Hid (∀ W,IsPairs W a ps→_):=fun W h=>spec_rootOf a cp ps W hl hm h
 clear hs hm H0
 by_cases h32:r.length=32
 · have h32':(r.length:Int)=32:=by omega
   have h32b:((r.length:Int) != 32)=false:=by rw[bne_eq_false_iff_eq];exact h32'
   have HI:Hid (importB r ps d=(pairsOkL ps && (!d || (rootOk ps && decide (rootR ps=r))))):=by rw[Hid,importB,decide_eq_true h32];rfl
   obtain⟨po,hpo⟩:∃ po,po=pairsOkL ps:=⟨_,rfl⟩
   obtain⟨ro,hro⟩:∃ ro,ro=rootOk ps:=⟨_,rfl⟩
   obtain⟨rr,hrr⟩:∃ rr,rr=rootR ps:=⟨_,rfl⟩
   rw[←hpo,←hro,←hrr] at HI
   rw[←hpo] at K1
   rw[←hro,←hrr] at HK2
   rw[HI.out]
   clear HI h32 hpo hro hrr
   cases po with
   | false =>
     go_enter Tryz.func37,Tryz.ntmps37
     go_wp2_with fail
     refine K1.mono ?_
     rintro e w1 ⟨rfl,b1⟩
     have B1:=B0.trans (b1.mono B0.size)
     go_wp2
     go_ret
     exact⟨rfl,B1⟩
   | true =>
     have fin:∀ z:Bool,decide (rr=r)=z→Calls Tryz.prog 37 #[.agg #[.string ⟨r.toArray⟩,.slice a ps.length cp,.bool d]] w fun e w'=>e=.returned (.bool (true && (!d || (ro && z))))∧Below w.heap.size w w':=by
      intro z hz9
      have hzb:(rr == r)=z:=by
       rw[←hz9]
       by_cases h:rr=r
       · simp[h]
       · simp[h]
      clear hz9
      cases d <;> cases ro <;> cases z
      all_goals
       go_enter Tryz.func37,Tryz.ntmps37
       go_wp2_with fail
       refine K1.mono ?_
       rintro e w1 ⟨rfl,b1⟩
       have B1:=B0.trans (b1.mono B0.size)
       have H1:=(b1.block w.heap.size (by simp)).trans HH0.out
       have HH1:Hid (_=_):=H1
       obtain⟨q0,q1,q2,_⟩:=im_cells H1
       have K2:=HK2.out w1 (HS.out w1 B1)
       have hl1:w.heap.size<w1.heap.size:=lt_of_block H1
       clear p0 p1 p2 b1 H1
       go_wp2_with fail
       refine K2.mono ?_
       rintro e w2 ⟨rfl,b2⟩
       have B2:=B1.trans (b2.mono B1.size)
       obtain⟨t0,t1,t2,_⟩:=im_cells ((b2.block w.heap.size hl1).trans HH1.out)
       clear q0 q1 q2 b2
       go_wp2
       go_ret
       exact⟨rfl,B2⟩
     exact fin _ rfl
 · have h32':¬ (r.length:Int)=32:=by omega
   have h32b:((r.length:Int) != 32)=true:=by rw[bne_iff_ne];exact h32'
   have HI:Hid (importB r ps d=false):=by rw[Hid,importB,decide_eq_false h32];rfl
   rw[HI.out]
   clear HI h32 K1
   go_enter Tryz.func37,Tryz.ntmps37
   go_wp2
   go_ret
   exact⟨rfl,B0⟩
def impdB (r:List UInt8) (ps:List PairL) (d:Bool):Bool:=importB r ps d && d
def impdR (r:List UInt8) (ps:List PairL) (d:Bool):List PairL:=if impdB r ps d then nodesR ps else []
theorem impd_ok {r:List UInt8} {ps:List PairL} (h:importB r ps true=true):rootOk ps=true:=by
 unfold importB at h
 simp only[Bool.and_eq_true,Bool.not_true,Bool.false_or] at h
 exact h.2.2.1
theorem impdR_len (r:List UInt8) (ps:List PairL) (d:Bool):(impdR r ps d).length≤3600:=by
 unfold impdR
 split
 · exact nodesR_len ps
 · simp
set_option maxRecDepth 100000 in
set_option maxHeartbeats 1000000 in
theorem impl_imported (r:List UInt8) (a:Option Addr) (cp:Nat) (ps:List PairL) (d:Bool) (w:World) (hr:r.length≤1048576) (hl:ps.length≤1048576) (hm:∀ p∈ps,p.1.length≤1048576∧p.2.length≤1048576) (hs:IsPairs w a ps) (hT:Tab w) :
 Calls Tryz.prog 13 #[.agg #[.string ⟨r.toArray⟩,.slice a ps.length cp,.bool d]] w fun e w'=>∃ (a':Option Addr) (m c:Nat),e=.returned (.tuple #[.slice a' m c,.bool (impdB r ps d)])∧w'.ownsRow w.heap.size 78 2 (.slice a' m c) (impdR r ps d).length (pcells (impdR r ps d))∧Below w.heap.size w w':=by
 have B0:Below w.heap.size w (w.alloc (.cells #[.string ⟨r.toArray⟩,.slice a ps.length cp,.bool d] 33)):=(Below.refl _ _).alloc (Nat.le_refl _) _
 have H0:=heap_alloc_new w (.cells #[.string ⟨r.toArray⟩,.slice a ps.length cp,.bool d] 33)
 obtain⟨p0,p1,p2,_⟩:=im_cells H0
 have HH0:Hid (_=_):=H0
 have HT:Hid (Tab w):=hT
 have HS:Hid (∀ W,Below w.heap.size w W→IsPairs W a ps):=fun W hW=>hs.later hW
 have K1:=impl_importOk r a cp ps d _ hr hl hm (hs.later B0) (hT.later B0)
 have HK2:Hid (∀ W,IsPairs W a ps→Tab W→_):=fun W h hT=>impl_nodesOf a cp ps W hl hm h hT
 clear hs hm hT H0
 cases d with
 | false =>
   have e1:impdB r ps false=false:=by simp[impdB]
   have e2:impdR r ps false=[]:=by rw[impdR,e1];rfl
   rw[e1,e2]
   clear e1 e2 K1
   go_enter Tryz.func13,Tryz.ntmps13
   go_wp2
   go_ret2
   exact⟨none,0,0,rfl,World.ownsRow_nil _ _ _ _,B0⟩
 | true =>
   cases hi:importB r ps true with
   | false =>
     have e1:impdB r ps true=false:=by simp[impdB,hi]
     have e2:impdR r ps true=[]:=by rw[impdR,e1];rfl
     rw[e1,e2]
     rw[hi] at K1
     clear e1 e2 hi
     go_enter Tryz.func13,Tryz.ntmps13
     go_wp2_with fail
     refine K1.mono ?_
     rintro e w1 ⟨rfl,b1⟩
     have B1:=B0.trans (b1.mono B0.size)
     go_wp2
     go_ret2
     exact⟨none,0,0,rfl,World.ownsRow_nil _ _ _ _,B1⟩
   | true =>
     have e1:impdB r ps true=true:=by simp[impdB,hi]
     have e2:impdR r ps true=nodesR ps:=by rw[impdR,e1];rfl
     have e3:=impd_ok hi
     rw[e1,e2]
     rw[hi] at K1
     rw[e3] at HK2
     clear e1 e2 hi e3
     go_enter Tryz.func13,Tryz.ntmps13
     go_wp2_with fail
     refine K1.mono ?_
     rintro e w1 ⟨rfl,b1⟩
     have B1:=B0.trans (b1.mono B0.size)
     obtain⟨q0,q1,q2,_⟩:=im_cells ((b1.block w.heap.size (by simp)).trans HH0.out)
     have K2:=HK2.out w1 (HS.out w1 B1) (HT.out.later B1)
     clear p0 p1 p2 b1 K1
     go_wp2_with fail
     refine K2.mono ?_
     rintro e w2 ⟨a2,m2,c2,rfl,o2,b2⟩
     have B2:=B1.trans (b2.mono B1.size)
     have O2:=hidOwn (o2.mono B1.size)
     clear o2 b2 K2
     go_wp2
     go_ret2
     exact⟨a2,m2,c2,rfl,O2.out,B2⟩
set_option maxRecDepth 100000 in
set_option maxHeartbeats 1000000 in
theorem spec_imported (r:List UInt8) (a:Option Addr) (cp:Nat) (ps:List PairL) (d:Bool) (w:World) (hr:r.length≤1048576) (hl:ps.length≤1048576) (hm:∀ p∈ps,p.1.length≤1048576∧p.2.length≤1048576) (hs:IsPairs w a ps) :
 Calls Tryz.prog 15 #[.agg #[.string ⟨r.toArray⟩,.slice a ps.length cp,.bool d]] w fun e w'=>∃ (a':Option Addr) (m c:Nat),e=.returned (.tuple #[.slice a' m c,.bool (impdB r ps d)])∧w'.ownsRow w.heap.size 78 2 (.slice a' m c) (impdR r ps d).length (pcells (impdR r ps d))∧Below w.heap.size w w':=by
 have B0:Below w.heap.size w (w.alloc (.cells #[.string ⟨r.toArray⟩,.slice a ps.length cp,.bool d] 33)):=(Below.refl _ _).alloc (Nat.le_refl _) _
 have H0:=heap_alloc_new w (.cells #[.string ⟨r.toArray⟩,.slice a ps.length cp,.bool d] 33)
 obtain⟨p0,p1,p2,_⟩:=im_cells H0
 have HH0:Hid (_=_):=H0
 have HS:Hid (∀ W,Below w.heap.size w W→IsPairs W a ps):=fun W hW=>hs.later hW
 have K1:=spec_importOk r a cp ps d _ hr hl hm (hs.later B0)
 have HK2:Hid (∀ W,IsPairs W a ps→_):=fun W h=>spec_nodesOf a cp ps W hl hm h
 clear hs hm H0
 cases hi:importB r ps d with
 | false =>
   have e1:impdB r ps d=false:=by simp[impdB,hi]
   have e2:impdR r ps d=[]:=by rw[impdR,e1];rfl
   rw[e1,e2]
   rw[hi] at K1
   clear e1 e2 hi
   go_enter Tryz.func15,Tryz.ntmps15
   go_wp2_with fail
   refine K1.mono ?_
   rintro e w1 ⟨rfl,b1⟩
   have B1:=B0.trans (b1.mono B0.size)
   go_wp2
   go_ret2
   exact⟨none,0,0,rfl,World.ownsRow_nil _ _ _ _,B1⟩
 | true =>
   cases d with
   | false =>
     have e1:impdB r ps false=false:=by simp[impdB]
     have e2:impdR r ps false=[]:=by rw[impdR,e1];rfl
     rw[e1,e2]
     rw[hi] at K1
     clear e1 e2 hi
     go_enter Tryz.func15,Tryz.ntmps15
     go_wp2_with fail
     refine K1.mono ?_
     rintro e w1 ⟨rfl,b1⟩
     have B1:=B0.trans (b1.mono B0.size)
     obtain⟨q0,q1,q2,_⟩:=im_cells ((b1.block w.heap.size (by simp)).trans HH0.out)
     clear p0 p1 p2 b1 K1
     go_wp2
     go_ret2
     exact⟨none,0,0,rfl,World.ownsRow_nil _ _ _ _,B1⟩
   | true =>
     have e1:impdB r ps true=true:=by simp[impdB,hi]
     have e2:impdR r ps true=nodesR ps:=by rw[impdR,e1];rfl
     have e3:=impd_ok hi
     rw[e1,e2]
     rw[hi] at K1
     rw[e3] at HK2
     clear e1 e2 hi e3
     go_enter Tryz.func15,Tryz.ntmps15
     go_wp2_with fail
     refine K1.mono ?_
     rintro e w1 ⟨rfl,b1⟩
     have B1:=B0.trans (b1.mono B0.size)
     obtain⟨q0,q1,q2,_⟩:=im_cells ((b1.block w.heap.size (by simp)).trans HH0.out)
     have K2:=HK2.out w1 (HS.out w1 B1)
     clear p0 p1 p2 b1 K1
     go_wp2_with fail
     refine K2.mono ?_
     rintro e w2 ⟨a2,m2,c2,rfl,o2,b2⟩
     have B2:=B1.trans (b2.mono B1.size)
     have O2:=hidOwn (o2.mono B1.size)
     clear o2 b2 K2
     go_wp2
     go_ret2
     exact⟨a2,m2,c2,rfl,O2.out,B2⟩
end Go.Proofs.YtahocpjieffbaaaGreatDoor
