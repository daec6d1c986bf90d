/-
 Contract: whether a disk is one, of the model.
-/
import Derived.Test.YtlllkdioojjaeaaMathDl
import Derived.Test.YtlllkdioojjaeaaSDo0
namespace Go.Proofs.Ytlllkdioojjaeaa
open Go.RowKit
set_option linter.unusedVariables false
theorem three_cells {w:World} {b:Nat} {u v x:Value} {t:TypeId} (h:w.heap[b]? = some (.cells #[u,v,x] t (0,0))) :
 w.cell? ⟨b,0,none⟩=some u∧w.cell? ⟨b,1,none⟩=some v∧w.cell? ⟨b,2,none⟩=some x∧∀ j,w.frozen? ⟨b,j,none⟩=false:=by
 refine⟨?_,?_,?_,fun j=>frozen_of_row w b j _ t h⟩ <;> simp only[World.cell?,h] <;> rfl
def AddrOk (a:Option Addr):Prop:=a=none∨∃ b off,a=some ⟨b,off,none⟩
theorem spec_doA (a:Option Addr) (ha:AddrOk a) (cp:Nat) (ps:List PairL) (k:Int) (n t d:List UInt8) (w:World) (hl:ps.length≤1000) (hm:∀ p∈ps,p.1.length≤16777216∧p.2.length≤8388608) (hn:n.length≤16777216) (ht:t.length≤16777216) (hd:d.length≤8388608) (hs:IsPairs w a ps) :
 Calls Try.prog 42 #[.slice a ps.length cp,.agg #[.int .i64 k,.string ⟨n.toArray⟩,.string ⟨t.toArray⟩,.string ⟨d.toArray⟩]] w fun e w'=>∃ (a':Option Addr) (m c:Nat),e=.returned (.tuple #[.slice a' m c,.bool (doF ps ⟨k,n,t,d⟩).2])∧w'.ownsRow w.heap.size 84 2 (.slice a' m c) (doF ps ⟨k,n,t,d⟩).1.length (pcells (doF ps ⟨k,n,t,d⟩).1)∧Below w.heap.size w w':=by
 rcases ha with rfl | ⟨b,off,rfl⟩
 · rcases hs with rfl | ⟨b,off,h,_⟩
   · exact spec_do0 cp k n t d w hn ht hd
   · cases h
 · exact spec_do b off cp ps k n t d w hl hm hn ht hd hs
theorem addr_own {w:World} {base e size n:Nat} {a:Option Addr} {m c:Nat} {xs:List Value} (h:w.ownsRow base e size (.slice a m c) n xs):AddrOk a:=by
 rcases h.2 with ⟨h',_⟩ | ⟨g,cap',cur,h',_⟩
 · cases h';exact .inl rfl
 · cases h';exact .inr ⟨g,0,rfl⟩
def NowAt (w:World) (safe:List PairL) (ops:List DOpL) (j:Nat) (a:Option Addr) (m:Nat) (fs:List PairL):Prop :=
 m=fs.length∧AddrOk a∧IsPairs w a fs∧filesOk fs=true∧runF safe (ops.take j)=some fs
set_option maxRecDepth 100000 in
set_option maxHeartbeats 4000000 in
theorem spec_diskOk (a1 a2 a3 : Option Addr) (c1 c2 c3 : Nat) (live safe : List PairL) (ops : List DOpL) (w : World) (ha : AddrOk a2) (hl1 : live.length ≤ 1048576) (hm1 : ∀ p ∈ live, p.1.length ≤ 1048576 ∧ p.2.length ≤ 1048576) (hl2 : safe.length ≤ 1048576) (hm2 : ∀ p ∈ safe, p.1.length ≤ 1048576 ∧ p.2.length ≤ 1048576) (hl3 : ops.length ≤ 1048576) (hm3 : ∀ p ∈ ops, p.n.length ≤ 1048576 ∧ p.t.length ≤ 1048576 ∧ p.d.length ≤ 1048576)
 (hs1:IsPairs w a1 live) (hs2:IsPairs w a2 safe) (hs3:IsDOps w a3 ops) :
 Calls Try.prog 13 #[.agg #[.slice a1 live.length c1,.slice a2 safe.length c2,.slice a3 ops.length c3]] w fun e w'=>e=.returned (.bool (diskOk live safe ops))∧Below w.heap.size w w':=by
 have B0:Below w.heap.size w (w.alloc (.cells #[.slice a1 live.length c1,.slice a2 safe.length c2,.slice a3 ops.length c3] 31)):=(Below.refl _ _).alloc (Nat.le_refl _) _
 have H0:Hid ((w.alloc (.cells #[.slice a1 live.length c1,.slice a2 safe.length c2,.slice a3 ops.length c3] 31)).heap[w.heap.size]? = some (.cells #[.slice a1 live.length c1,.slice a2 safe.length c2,.slice a3 ops.length c3] 31 (0,0))):=heap_alloc_new w _
 have hsz0:w.heap.size<(w.alloc (.cells #[.slice a1 live.length c1,.slice a2 safe.length c2,.slice a3 ops.length c3] 31)).heap.size:=by simp
 have HKL:Hid (∀ W,Below w.heap.size w W→_):=fun W h=>spec_files a1 c1 live W (by omega) (fun p hp=>by have:=hm1 p hp;exact⟨by omega,by omega⟩) (hs1.later h)
 have HKS:Hid (∀ W,Below w.heap.size w W→_):=fun W h=>spec_files a2 c2 safe W (by omega) (fun p hp=>by have:=hm2 p hp;exact⟨by omega,by omega⟩) (hs2.later h)
 have HS1:Hid (∀ W,Below w.heap.size w W→IsPairs W a1 live):=fun W h=>hs1.later h
 have HS2:Hid (∀ W,Below w.heap.size w W→IsPairs W a2 safe):=fun W h=>hs2.later h
 have HS3:Hid (∀ W,Below w.heap.size w W→IsDOps W a3 ops):=fun W h=>hs3.later h
 have HM3:Hid (∀ j (h:j<ops.length),ops[j].n.length≤1048576∧ops[j].t.length≤1048576∧ops[j].d.length≤1048576):=fun j h=>hm3 _ (List.getElem_mem _)
 have N1:Hid (filesOk live=false→diskOk live safe ops=false):=disk_no1
 have N2:Hid (filesOk safe=false→diskOk live safe ops=false):=disk_no2
 have N3:Hid (¬ ops.length≤200→diskOk live safe ops=false):=disk_no3
 have N4:Hid (∀ j,runF safe (ops.take j)=none→diskOk live safe ops=false):=fun j=>disk_no4
 have N5:Hid (∀ fs,filesOk live=true→filesOk safe=true→ops.length≤200→runF safe ops=some fs→diskOk live safe ops=decide (fs=live)):=fun fs=>disk_end
 obtain⟨dk,hdk⟩:∃ dk,dk=diskOk live safe ops:=⟨_,rfl⟩
 rw[←hdk] at N1 N2 N3 N4 N5 ⊢
 have HLL:Hid (live.length≤1048576∧safe.length≤1048576∧ops.length≤1048576):=⟨hl1,hl2,hl3⟩
 obtain⟨p0,p1,p2,_⟩:=three_cells H0.out
 have KL:=HKL.out _ B0
 obtain⟨fl,hfl⟩:∃ fl,fl=filesOk live:=⟨_,rfl⟩
 obtain⟨fb,hfb⟩:∃ fb,fb=filesOk safe:=⟨_,rfl⟩
 have HF1:Hid (fl=filesOk live):=hfl
 have HF2:Hid (fb=filesOk safe):=hfb
 rw[←hfl] at KL HKL
 rw[←hfb] at HKS
 clear hs1 hs2 hs3 hm1 hm2 hm3 hdk hfl hfb hl1 hl2 hl3
 go_enter Try.func13,Try.ntmps13
 go_wp2_with fail
 refine KL.mono ?_
 rintro e w1 ⟨rfl,b1⟩
 have B1:Below w.heap.size w w1:=B0.trans (b1.mono B0.size)
 have H1:Hid (w1.heap[w.heap.size]? = some (.cells #[.slice a1 live.length c1,.slice a2 safe.length c2,.slice a3 ops.length c3] 31 (0,0))):=(b1.block _ hsz0).trans H0.out
 clear KL p0 p1 p2 b1 H0 HKL hsz0 B0
 obtain⟨p0,p1,p2,_⟩:=three_cells H1.out
 cases fl with
 | false =>
   have HR:Hid (dk=false):=N1.out HF1.out.symm
   clear N1 N2 N3 N4 N5
   go_wp2
   go_ret
   obtain rfl:=HR.out
   exact⟨rfl,B1⟩
 | true =>
   have KS:=HKS.out w1 B1
   go_wp2_with fail
   refine KS.mono ?_
   rintro e w2 ⟨rfl,b2⟩
   have B2:Below w.heap.size w w2:=B1.trans (b2.mono B1.size)
   have H2:Hid (w2.heap[w.heap.size]? = some (.cells #[.slice a1 live.length c1,.slice a2 safe.length c2,.slice a3 ops.length c3] 31 (0,0))):=(b2.block _ (lt_of_block H1.out)).trans H1.out
   clear KS p0 p1 p2 b2 H1 HKS B1
   obtain⟨p0,p1,p2,_⟩:=three_cells H2.out
   cases fb with
   | false =>
     have HR:Hid (dk=false):=N2.out HF2.out.symm
     clear N1 N2 N3 N4 N5
     go_wp2
     go_ret
     obtain rfl:=HR.out
     exact⟨rfl,B2⟩
   | true =>
     by_cases h200:ops.length≤200
     · have h200' : (ops.length : Int) ≤ 200 := by omega
       have h200b:decide ((200:Int)<(ops.length:Int))=false:=decide_eq_false (by omega)
       have HN0:Hid (NowAt w2 safe ops 0 a2 safe.length safe):=⟨rfl,ha,HS2.out w2 B2,HF2.out.symm,by simp[runF]⟩
       have N6:Hid (∀ fs,runF safe ops=some fs→dk=decide (fs=live)):=fun fs h=>N5.out fs HF1.out.symm HF2.out.symm h200 h
       obtain⟨ln,hln⟩:∃ ln,ln=ops.length:=⟨_,rfl⟩
       have HLN:Hid (ln=ops.length):=hln
       have HOP:Hid (∀ W,Below w.heap.size w W→∀ j (h:j<ops.length),∃ b off,a3=some ⟨b,off,none⟩∧W.cell? ⟨b,off+j*4,none⟩=some (.int .i64 ops[j].k)∧W.cell? ⟨b,off+j*4+1,none⟩=some (.string ⟨ops[j].n.toArray⟩)∧W.cell? ⟨b,off+j*4+2,none⟩=some (.string ⟨ops[j].t.toArray⟩)∧W.cell? ⟨b,off+j*4+3,none⟩=some (.string ⟨ops[j].d.toArray⟩)):=fun W hW j h=>by
        rcases HS3.out W hW with h9 | ⟨b,off,h8,h9⟩
        · rw[h9] at h;simp at h
        · exact⟨b,off,h8,h9 j h⟩
       rw[←hln] at p2 H2 h200' h200b
       rw[←hln]
       clear N1 N2 N3 N5 HS3 hln h200
       go_wp2
       go_loopw [3,4,5,6] (fun now i _ _ wr=>∃ (j m c:Nat) (a:Option Addr) (fs:List PairL),j≤ln∧i=.int .i64 (j:Int)∧now=.slice a m c∧Hid (NowAt wr safe ops j a m fs)∧Hid (Below w2.heap.size w2 wr)) (fun _ i _ _ _=>ln - (intOf i).toNat)
       case atStart=>exact⟨0,_,_,_,safe,Nat.zero_le _,rfl,rfl,HN0,Below.refl _ _⟩
       case round =>
        obtain⟨j,m,c,a,fs,hj,rfl,rfl,HNW,HBW⟩:=hrel
        have HRW:Hid (wr.heap[w.heap.size]? = some (.cells #[.slice a1 live.length c1,.slice a2 safe.length c2,.slice a3 ln c3] 31 (0,0))):=(HBW.out.block _ (lt_of_block H2.out)).trans H2.out
        have BW:Hid (Below w.heap.size w wr):=B2.trans (HBW.out.mono B2.size)
        clear p0 p1 p2
        obtain⟨p0,p1,p2,_⟩:=three_cells HRW.out
        by_cases hlt:j<ln
        · have hlo:j<ops.length:=by have:=HLN.out;omega
          obtain⟨b,off,rfl,o0,o1,o2,o3⟩:=HOP.out wr BW.out j hlo
          obtain⟨m1,m2,m3⟩:=HM3.out j hlo
          obtain⟨e1,e2,e3,e4,e5⟩:=HNW.out
          subst e1
          have hsm:=files_small e4
          have hri:=rise_files e4
          have HOB:Hid (∀ W,Below wr.heap.size wr W→W.cell? ⟨b,off+j*4,none⟩=some (.int .i64 ops[j].k)∧W.cell? ⟨b,off+j*4+1,none⟩=some (.string ⟨ops[j].n.toArray⟩)∧W.cell? ⟨b,off+j*4+2,none⟩=some (.string ⟨ops[j].t.toArray⟩)∧W.cell? ⟨b,off+j*4+3,none⟩=some (.string ⟨ops[j].d.toArray⟩)):=fun W hW=>by
           obtain⟨b9,off9,h9,h8⟩:=HOP.out W (BW.out.trans (hW.mono BW.out.size)) j hlo
           cases h9
           exact h8
          have HSM:Hid (∀ p∈(doF fs ops[j]).1,p.1.length≤16777216∧p.2.length≤16777216):=fun p hp=>by
           have:=do_small hri.1 ops[j] (A:=1048576) (M:=200000) (fun p hp=>by have:=hsm p hp;exact⟨by omega,by omega⟩) m1 m2 p hp
           exact⟨by omega,by omega⟩
          have HDL:Hid ((doF fs ops[j]).1.length≤61):=by have:=do_len hri.1 ops[j];have:=hri.2.2.1;rw[Hid];omega
          have HST:Hid (opGoes fs ops[j]=false→dk=false):=fun h=>N4.out (j+1) (run_stop hlo e5 h)
          have HGO:Hid (opGoes fs ops[j]=true→runF safe (ops.take (j+1))=some (doF fs ops[j]).1∧filesOk (doF fs ops[j]).1=true):=fun h=>run_more hlo e5 h
          have HG:Hid (opGoes fs ops[j]=((doF fs ops[j]).2 && (formOk ops[j] && filesOk (doF fs ops[j]).1))):=rfl
          have KD:=spec_doA a e2 c fs ops[j].k ops[j].n ops[j].t ops[j].d wr (by have:=hri.2.2.1;omega) (fun p hp=>by have:=hsm p hp;exact⟨by omega,by omega⟩) (by omega) (by omega) (by omega) e3
          have KF:=fun W=>spec_form ops[j].k ops[j].n ops[j].t ops[j].d W (by omega) (by omega) (by omega)
          have eta:(⟨ops[j].k,ops[j].n,ops[j].t,ops[j].d⟩:DOpL)=ops[j]:=rfl
          rw[eta] at KD
          simp only[eta] at KF
          obtain⟨⟨ok,on,ot,od⟩,hoj⟩:∃ oj,oj=ops[j]:=⟨_,rfl⟩
          obtain⟨⟨gs,g2⟩,hgs⟩:∃ gs,gs=doF fs ops[j]:=⟨_,rfl⟩
          obtain⟨fo,hfo⟩:∃ fo,fo=formOk ops[j]:=⟨_,rfl⟩
          obtain⟨og,hog⟩:∃ og,og=opGoes fs ops[j]:=⟨_,rfl⟩
          rw[←hog] at HST HGO HG
          rw[←hgs] at KD HG HSM HDL HGO
          rw[←hfo] at HG KF
          rw[←hoj] at o0 o1 o2 o3 KD KF HOB
          simp only at o0 o1 o2 o3 KD KF HOB HG HSM HDL HGO
          have hj0:(0:Int)≤(j:Int):=by omega
          have hj1:(j:Int)<(ln:Int):=by omega
          clear hoj hgs hfo hog hri hsm e2 e3 e4 e5 m1 m2 m3 eta HNW HOP HM3 N4
          go_wp2_with fail
          refine KD.mono ?_
          rintro e w3 ⟨a',m',c',rfl,o9,b3⟩
          obtain⟨hm9,_,i9⟩:=isPairs_own o9
          subst hm9
          have A9:Hid (AddrOk a'):=addr_own o9
          have I9:Hid (∀ W,Below w3.heap.size w3 W→IsPairs W a' gs):=fun W hW=>i9.later hW
          have HR3:Hid (w3.heap[w.heap.size]? = some (.cells #[.slice a1 live.length c1,.slice a2 safe.length c2,.slice (some ⟨b,off,none⟩) ln c3] 31 (0,0))):=(b3.block _ (lt_of_block HRW.out)).trans HRW.out
          have B3:Hid (Below w2.heap.size w2 w3):=HBW.out.trans (b3.mono HBW.out.size)
          have Z3:Hid (Below w.heap.size w w3):=B2.trans (B3.out.mono B2.size)
          clear KD p0 p1 p2 o0 o1 o2 o3 o9 i9
          obtain⟨p0,p1,p2,_⟩:=three_cells HR3.out
          obtain⟨o0,o1,o2,o3⟩:=HOB.out w3 b3
          clear b3
          cases g2 with
          | false =>
            have HR:Hid (dk=false):=HST.out (by rw[HG.out];rfl)
            clear HST HG HGO N6
            go_wp2
            go_ret
            obtain rfl:=HR.out
            exact⟨rfl,Z3.out⟩
          | true =>
            go_wp2_with fail
            refine (KF _).mono ?_
            rintro e w4 ⟨rfl,b4⟩
            have B4:Hid (Below w2.heap.size w2 w4):=B3.out.trans (b4.mono B3.out.size)
            have Z4:Hid (Below w.heap.size w w4):=B2.trans (B4.out.mono B2.size)
            have HR4:Hid (w4.heap[w.heap.size]? = some (.cells #[.slice a1 live.length c1,.slice a2 safe.length c2,.slice (some ⟨b,off,none⟩) ln c3] 31 (0,0))):=(b4.block _ (lt_of_block HR3.out)).trans HR3.out
            clear p0 p1 p2 o0 o1 o2 o3
            obtain⟨p0,p1,p2,_⟩:=three_cells HR4.out
            cases fo with
            | false =>
              have HR:Hid (dk=false):=HST.out (by rw[HG.out];simp)
              clear HST HG HGO N6
              go_wp2
              go_ret
              obtain rfl:=HR.out
              exact⟨rfl,Z4.out⟩
            | true =>
              have KI:=spec_files a' c' gs w4 (by have:=HDL.out;omega) HSM.out (I9.out w4 b4)
              obtain⟨fk,hfk⟩:∃ fk,fk=filesOk gs:=⟨_,rfl⟩
              rw[←hfk] at KI HG HGO
              have HFK:Hid (fk=filesOk gs):=hfk
              clear hfk
              go_wp2_with fail
              refine KI.mono ?_
              rintro e w5 ⟨rfl,b5⟩
              have B5:Hid (Below w2.heap.size w2 w5):=B4.out.trans (b5.mono B4.out.size)
              have Z5:Hid (Below w.heap.size w w5):=B2.trans (B5.out.mono B2.size)
              have I5:Hid (IsPairs w5 a' gs):=I9.out w5 (b4.trans (b5.mono b4.size))
              clear KI p0 p1 p2
              cases fk with
              | false =>
                have HR:Hid (dk=false):=HST.out (by rw[HG.out];simp)
                clear HST HG HGO N6
                go_wp2
                go_ret
                obtain rfl:=HR.out
                exact⟨rfl,Z5.out⟩
              | true =>
                have HT:Hid (og=true):=by rw[Hid,HG.out];rfl
                have HNN:Hid (NowAt w5 safe ops (j+1) a' gs.length gs):=⟨rfl,A9.out,I5.out,HFK.out.symm,(HGO.out HT.out).1⟩
                clear HST HG HGO N6 HT I9 I5
                go_wp2
                go_roundw
                case rel=>exact⟨j+1,_,_,_,gs,by omega,by go_num,rfl,HNN,B5⟩
                case measure=>simp[intOf];omega
        · have hjl:j=ln:=by omega
          subst hjl
          obtain⟨e1,e2,e3,e4,e5⟩:=HNW.out
          subst e1
          have e6:runF safe ops=some fs:=by
           have:ops.take j=ops:=by rw[HLN.out,List.take_length]
           rw[this] at e5;exact e5
          have HR:Hid (dk=decide (fs=live)):=N6.out fs e6
          have KE:=spec_same a a1 c c1 fs live wr (by have:=(rise_files e4).2.2.1;omega) (by have:=HLL.out.1;omega) e3 (HS1.out wr BW.out)
          obtain⟨de,hde⟩:∃ de,de=decide (fs=live):=⟨_,rfl⟩
          rw[←hde] at KE HR
          clear e2 e3 e4 e5 e6 hde HNW N6 HOP HM3 N4 hlt
          go_wp2_with fail
          refine KE.mono ?_
          rintro e w3 ⟨rfl,b3⟩
          have B3:Hid (Below w.heap.size w w3):=BW.out.trans (b3.mono BW.out.size)
          clear KE b3
          go_wp2
          go_ret
          obtain rfl:=HR.out
          exact⟨rfl,B3.out⟩
     · have h200':¬ (ops.length:Int)≤200:=by omega
       have h200b:decide ((200:Int)<(ops.length:Int))=true:=decide_eq_true (by omega)
       have HR:Hid (dk=false):=N3.out h200
       clear N1 N2 N3 N4 N5 h200
       go_wp2
       go_ret
       obtain rfl:=HR.out
       exact⟨rfl,B2⟩
end Go.Proofs.Ytlllkdioojjaeaa
