/-
 Contract: whether a disk is one, of the program (written by mkidisk.py).
-/
import Derived.Test.YtlllkdioojjaeaaDOpA
import Derived.Test.YtlllkdioojjaeaaIDeed
import Derived.Test.YtlllkdioojjaeaaINames
import Derived.Test.YtlllkdioojjaeaaFmLs
namespace Go.Proofs.Ytlllkdioojjaeaa
open Go.RowKit
set_option linter.unusedVariables false
theorem findsA (on od : List UInt8) : ∀ w, Sem.run Try.prog (method 272 111 (.agg #[.string ⟨on.toArray⟩, .string ⟨od.toArray⟩]) "loop.example/g00226/impl.doneOn") w = .ok (135, .agg #[.string ⟨on.toArray⟩, .string ⟨od.toArray⟩]) w := fun w => by kernel_rfl
theorem findsR (on ot : List UInt8) : ∀ w, Sem.run Try.prog (method 272 113 (.agg #[.string ⟨on.toArray⟩, .string ⟨ot.toArray⟩]) "loop.example/g00226/impl.doneOn") w = .ok (137, .agg #[.string ⟨on.toArray⟩, .string ⟨ot.toArray⟩]) w := fun w => by kernel_rfl
theorem findsM (on : List UInt8) : ∀ w, Sem.run Try.prog (method 272 115 (.agg #[.string ⟨on.toArray⟩]) "loop.example/g00226/impl.doneOn") w = .ok (139, .agg #[.string ⟨on.toArray⟩]) w := fun w => by kernel_rfl
set_option maxRecDepth 100000 in
set_option maxHeartbeats 4000000 in
theorem impl_diskOk (a1 a2 a3 : Option Addr) (c1 c2 c3 : Nat) (live safe : List PairL) (ops : List DOpL) (w : World) (hl1 : live.length ≤ 1048576) (hm1 : ∀ p ∈ live, p.1.length ≤ 1048576 ∧ p.2.length ≤ 1048576) (hl2 : safe.length ≤ 1048576) (hm2 : ∀ p ∈ safe, p.1.length ≤ 1048576 ∧ p.2.length ≤ 1048576) (hl3 : ops.length ≤ 1048576) (hm3 : ∀ p ∈ ops, p.n.length ≤ 1048576 ∧ p.t.length ≤ 1048576 ∧ p.d.length ≤ 1048576)
 (hs1:IsPairs w a1 live) (hs2:IsPairs w a2 safe) (hs3:IsDOps w a3 ops) :
 Calls Try.prog 15 #[.agg #[.slice a1 live.length c1,.slice a2 safe.length c2,.slice a3 ops.length c3]] w fun e w'=>e=.returned (.bool (diskOk live safe ops))∧Below w.heap.size w w':=by
 have B0:Below w.heap.size w (w.alloc (.cells #[.slice a1 live.length c1,.slice a2 safe.length c2,.slice a3 ops.length c3] 31)):=(Below.refl _ _).alloc (Nat.le_refl _) _
 have H0:Hid ((w.alloc (.cells #[.slice a1 live.length c1,.slice a2 safe.length c2,.slice a3 ops.length c3] 31)).heap[w.heap.size]? = some (.cells #[.slice a1 live.length c1,.slice a2 safe.length c2,.slice a3 ops.length c3] 31 (0,0))):=heap_alloc_new w _
 have hsz0:w.heap.size<(w.alloc (.cells #[.slice a1 live.length c1,.slice a2 safe.length c2,.slice a3 ops.length c3] 31)).heap.size:=by simp
 have HKL:Hid (∀ W,Below w.heap.size w W→_):=fun W h=>impl_areFiles a1 c1 live W (by omega) (fun p hp=>by have:=hm1 p hp;exact⟨by omega,by omega⟩) (hs1.later h)
 have HKS:Hid (∀ W,Below w.heap.size w W→_):=fun W h=>impl_areFiles a2 c2 safe W (by omega) (fun p hp=>by have:=hm2 p hp;exact⟨by omega,by omega⟩) (hs2.later h)
 have HS1:Hid (∀ W,Below w.heap.size w W→IsPairs W a1 live):=fun W h=>hs1.later h
 have HS2:Hid (∀ W,Below w.heap.size w W→IsPairs W a2 safe):=fun W h=>hs2.later h
 have HS3:Hid (∀ W,Below w.heap.size w W→IsDOps W a3 ops):=fun W h=>hs3.later h
 have HM3:Hid (∀ j (h:j<ops.length),ops[j].n.length≤1048576∧ops[j].t.length≤1048576∧ops[j].d.length≤1048576):=fun j h=>hm3 _ (List.getElem_mem _)
 have N1:Hid (filesOk live=false→diskOk live safe ops=false):=disk_no1
 have N2:Hid (filesOk safe=false→diskOk live safe ops=false):=disk_no2
 have N3:Hid (¬ ops.length≤200→diskOk live safe ops=false):=disk_no3
 have N4:Hid (∀ j,runF safe (ops.take j)=none→diskOk live safe ops=false):=fun j=>disk_no4
 have N5:Hid (∀ fs,filesOk live=true→filesOk safe=true→ops.length≤200→runF safe ops=some fs→diskOk live safe ops=decide (fs=live)):=fun fs=>disk_end
 obtain⟨dk,hdk⟩:∃ dk,dk=diskOk live safe ops:=⟨_,rfl⟩
 rw[←hdk] at N1 N2 N3 N4 N5 ⊢
 have HLL:Hid (live.length≤1048576∧safe.length≤1048576∧ops.length≤1048576):=⟨hl1,hl2,hl3⟩
 obtain⟨p0,p1,p2,_⟩:=three_cells H0.out
 have KL:=HKL.out _ B0
 obtain⟨fl,hfl⟩:∃ fl,fl=filesOk live:=⟨_,rfl⟩
 obtain⟨fb,hfb⟩:∃ fb,fb=filesOk safe:=⟨_,rfl⟩
 have HF1:Hid (fl=filesOk live):=hfl
 have HF2:Hid (fb=filesOk safe):=hfb
 rw[←hfl] at KL HKL
 rw[←hfb] at HKS
 clear hs1 hs2 hs3 hm1 hm2 hm3 hdk hfl hfb hl1 hl2 hl3
 go_enter Try.func15,Try.ntmps15
 go_wp2_with fail
 refine KL.mono ?_
 rintro e w1 ⟨rfl,b1⟩
 have B1:Below w.heap.size w w1:=B0.trans (b1.mono B0.size)
 have H1:Hid (w1.heap[w.heap.size]? = some (.cells #[.slice a1 live.length c1,.slice a2 safe.length c2,.slice a3 ops.length c3] 31 (0,0))):=(b1.block _ hsz0).trans H0.out
 clear KL p0 p1 p2 b1 H0 HKL hsz0 B0
 obtain⟨p0,p1,p2,_⟩:=three_cells H1.out
 cases fl with
 | false =>
   have HR:Hid (dk=false):=N1.out HF1.out.symm
   clear N1 N2 N3 N4 N5
   go_wp2
   go_ret
   obtain rfl:=HR.out
   exact⟨rfl,B1⟩
 | true =>
   have KS:=HKS.out w1 B1
   go_wp2_with fail
   refine KS.mono ?_
   rintro e w2 ⟨rfl,b2⟩
   have B2:Below w.heap.size w w2:=B1.trans (b2.mono B1.size)
   have H2:Hid (w2.heap[w.heap.size]? = some (.cells #[.slice a1 live.length c1,.slice a2 safe.length c2,.slice a3 ops.length c3] 31 (0,0))):=(b2.block _ (lt_of_block H1.out)).trans H1.out
   clear KS p0 p1 p2 b2 H1 HKS B1
   obtain⟨p0,p1,p2,_⟩:=three_cells H2.out
   cases fb with
   | false =>
     have HR:Hid (dk=false):=N2.out HF2.out.symm
     clear N1 N2 N3 N4 N5
     go_wp2
     go_ret
     obtain rfl:=HR.out
     exact⟨rfl,B2⟩
   | true =>
     by_cases h200:ops.length≤200
     · have h200' : (ops.length : Int) ≤ 200 := by omega
       have h200b:decide ((200:Int)<(ops.length:Int))=false:=decide_eq_false (by omega)
       have HB2:Hid (Rise safe∧(∀ p∈safe,p.1.length≤100∧p.2.length≤200000)∧safe.length≤60):=⟨(rise_files HF2.out.symm).1,files_small HF2.out.symm,(rise_files HF2.out.symm).2.2.1⟩
       have KB:=impl_byName a2 c2 safe w2 (by have:=HB2.out.2.2;omega) (fun p hp=>by have:=HB2.out.2.1 p hp;exact⟨by omega,by omega⟩) HB2.out.1 (HS2.out w2 B2)
       have N6:Hid (∀ fs,runF safe ops=some fs→dk=decide (fs=live)):=fun fs h=>N5.out fs HF1.out.symm HF2.out.symm h200 h
       obtain⟨ln,hln⟩:∃ ln,ln=ops.length:=⟨_,rfl⟩
       have HLN:Hid (ln=ops.length):=hln
       have HL2:Hid (ln≤200):=by rw[Hid];omega
       have HOP:Hid (∀ W,Below w.heap.size w W→∀ j (h:j<ops.length),∃ b off,a3=some ⟨b,off,none⟩∧W.cell? ⟨b,off+j*4,none⟩=some (.int .i64 ops[j].k)∧W.cell? ⟨b,off+j*4+1,none⟩=some (.string ⟨ops[j].n.toArray⟩)∧W.cell? ⟨b,off+j*4+2,none⟩=some (.string ⟨ops[j].t.toArray⟩)∧W.cell? ⟨b,off+j*4+3,none⟩=some (.string ⟨ops[j].d.toArray⟩)):=fun W hW j h=>by
        rcases HS3.out W hW with h9 | ⟨b,off,h8,h9⟩
        · rw[h9] at h;simp at h
        · exact⟨b,off,h8,h9 j h⟩
       rw[←hln] at p2 H2 h200' h200b
       rw[←hln]
       clear N1 N2 N3 N5 HS3 hln h200
       go_wp2_with fail
       refine KB.mono ?_
       rintro e w2b ⟨mb,rfl,b2b,D0,S0,hF0⟩
       have HB2b:Hid (Below w2.heap.size w2 w2b):=b2b
       have HF0:Hid (∃ D S,FMap w2b w2.heap.size mb 60 safe D S):=⟨D0,S0,hF0.mono HB2.out.2.2⟩
       have HZ2:Hid (w2b.heap[w.heap.size]? = some (.cells #[.slice a1 live.length c1,.slice a2 safe.length c2,.slice a3 ln c3] 31 (0,0))):=(b2b.block _ (lt_of_block H2.out)).trans H2.out
       clear KB b2b hF0 p0 p1 p2
       obtain⟨p0,p1,p2,_⟩:=three_cells HZ2.out
       go_wp2
       go_loopw [5,6,7,30] (fun _ _ _ i wr=>∃ (j:Nat) (fs:List PairL),j≤ln∧i=.int .i64 (j:Int)∧Hid (filesOk fs=true∧runF safe (ops.take j)=some fs∧∃ D S,FMap wr w2.heap.size mb (60+j) fs D S)∧Hid (Below w2.heap.size w2 wr)) (fun _ _ _ i _=>ln - (intOf i).toNat)
       case atStart=>exact⟨0,safe,Nat.zero_le _,rfl,⟨HF2.out.symm,by simp[runF],HF0.out⟩,HB2b⟩
       case round =>
        obtain⟨j,fs,hj,rfl,HNW,HBW⟩:=hrel
        have HRW:Hid (wr.heap[w.heap.size]? = some (.cells #[.slice a1 live.length c1,.slice a2 safe.length c2,.slice a3 ln c3] 31 (0,0))):=(HBW.out.block _ (lt_of_block H2.out)).trans H2.out
        have BW:Hid (Below w.heap.size w wr):=B2.trans (HBW.out.mono B2.size)
        clear p0 p1 p2
        by_cases hlt:j<ln
        · have hlo:j<ops.length:=by have:=HLN.out;omega
          obtain⟨b,off,rfl,o0,o1,o2,o3⟩:=HOP.out wr BW.out j hlo
          obtain⟨m1,m2,m3⟩:=HM3.out j hlo
          obtain⟨e4,e5,D,S,e6⟩:=HNW.out
          have hsm:=files_small e4
          have hri:=rise_files e4
          have HDL:Hid (dataN (doF fs ops[j]).1≤1000000000000):=by
           have h1:=do_len hri.1 ops[j]
           have h2:=hri.2.2.1
           have h3:=dataN_le2 (doF fs ops[j]).1 61 1248576 (by omega) (fun p hp=>by have:=(do_small hri.1 ops[j] (A:=1048576) (M:=200000) (fun p hp=>by have:=hsm p hp;exact⟨by omega,by omega⟩) m1 m2 p hp).2;omega)
           rw[Hid];omega
          have HST:Hid (opGoes fs ops[j]=false→dk=false):=fun h=>N4.out (j+1) (run_stop hlo e5 h)
          have HGO:Hid (opGoes fs ops[j]=true→runF safe (ops.take (j+1))=some (doF fs ops[j]).1∧filesOk (doF fs ops[j]).1=true):=fun h=>run_more hlo e5 h
          have HGN:Hid (formOk ops[j]=false→opGoes fs ops[j]=false):=fun h=>by rw[opGoes,h];simp
          have HGF:Hid (formOk ops[j]=true→opGoes fs ops[j]=((doF fs ops[j]).2 && (decide ((doF fs ops[j]).1.length≤60) && decide (dataN (doF fs ops[j]).1≤200000)))):=fun h=>goes_fit e4 ops[j] h
          have HDA:Hid ((datF fs ops[j].n).length≤200000):=datF_le (fun p hp=>(hsm p hp).2) _
          have HRI:Hid (Rise fs):=hri.1
          obtain⟨⟨ok,on,ot,od⟩,hoj⟩:∃ oj,oj=ops[j]:=⟨_,rfl⟩
          obtain⟨og,hog⟩:∃ og,og=opGoes fs ops[j]:=⟨_,rfl⟩
          rw[←hog] at HST HGO HGN HGF
          rw[←hoj] at o0 o1 o2 o3 HDL HGO HGN HGF HDA m1 m2 m3
          simp only at o0 o1 o2 o3 HDA m1 m2 m3
          have KF:=fun W=>impl_deedOf ok on ot od W (by omega) (by omega) (by omega)
          have HFM:Hid (FMap (wr.alloc (.cells #[.int .i64 ok,.string ⟨on.toArray⟩,.string ⟨ot.toArray⟩,.string ⟨od.toArray⟩] 40)) w2.heap.size mb (60+j) fs D S):=e6.alloc _
          have HBM:Hid (Below w2.heap.size w2 (wr.alloc (.cells #[.int .i64 ok,.string ⟨on.toArray⟩,.string ⟨ot.toArray⟩,.string ⟨od.toArray⟩] 40))):=HBW.out.alloc HBW.out.size _
          have HMM:Hid (on.length≤1048576∧ot.length≤1048576∧od.length≤1048576):=⟨m1,m2,m3⟩
          have hj0:(0:Int)≤(j:Int):=by omega
          have hj1:(j:Int)<(ln:Int):=by omega
          obtain⟨fo,hfo⟩:∃ fo,fo=formOk ⟨ok,on,ot,od⟩:=⟨_,rfl⟩
          rw[←hfo] at KF HGN HGF
          have HFO:Hid (fo=formOk ⟨ok,on,ot,od⟩):=hfo
          clear hfo hoj hog hri hsm e4 e5 e6 m1 m2 m3 HNW HOP HM3 N4
          cases fo with
          | false =>
            have HR:Hid (dk=false):=HST.out (HGN.out rfl)
            clear HST HGO HGN HGF N6
            go_wp2_with fail
            refine (KF _).mono ?_
            rintro e w3 ⟨rfl,b3⟩
            have B3:Hid (Below w.heap.size w w3):=B2.trans ((HBM.out.trans (b3.mono HBM.out.size)).mono B2.size)
            obtain⟨dv,hdv⟩:∃ dv,dv=deedV ⟨ok,on,ot,od⟩:=⟨_,rfl⟩
            rw[←hdv]
            clear KF b3 hdv
            go_wp2
            go_ret
            obtain rfl:=HR.out
            exact⟨rfl,B3.out⟩
          | true =>
            have hkk:nameOk on=true∧(ok=1∨ok=2∨ok=3):=by
             have h9:=HFO.out.symm
             simp only[formOk,Bool.and_eq_true,decide_eq_true_eq] at h9
             exact⟨h9.2.1,by omega⟩
            have HG:Hid (og=((doF fs ⟨ok,on,ot,od⟩).2 && (decide ((doF fs ⟨ok,on,ot,od⟩).1.length≤60) && decide (dataN (doF fs ⟨ok,on,ot,od⟩).1≤200000)))):=HGF.out rfl
            have HDV:Hid (deedV ⟨ok,on,ot,od⟩=if ok=1 then .iface 111 (.agg #[.string ⟨on.toArray⟩,.string ⟨od.toArray⟩]) else if ok=2 then .iface 113 (.agg #[.string ⟨on.toArray⟩,.string ⟨ot.toArray⟩]) else if ok=3 then .iface 115 (.agg #[.string ⟨on.toArray⟩]) else .nilIface):=by rw[Hid,deedV];simp[hkk.1]
            obtain⟨_,hkk⟩:=hkk
            clear HGN HGF HFO
            rcases hkk with rfl | rfl | rfl
            · have KD9:=fun W (hF:FMap W w2.heap.size mb (60+j) fs D S) (hb:w2.heap.size≤W.heap.size)=>impl_appendOn on od w2.heap.size mb (60+j) fs D S W (by have:=HMM.out;omega) (by have:=HDA.out;have:=HMM.out;omega) (by have:=HL2.out;omega) hb hF
              have eD:=do_app fs on ot od
              have fA:=findsA on od
              have eV:deedV ⟨1,on,ot,od⟩=.iface 111 (.agg #[.string ⟨on.toArray⟩,.string ⟨od.toArray⟩]):=by rw[HDV.out];simp
              rw[eD] at HG HGO HDL
              simp only at HG HGO HDL
              obtain⟨g2,hg2⟩:∃ g2,g2=true:=⟨_,rfl⟩
              obtain⟨gs,hgs⟩:∃ gs,gs=putL fs on (datF fs on ++ od):=⟨_,rfl⟩
              have HKD:Hid (∀ W,FMap W w2.heap.size mb (60+j) fs D S→w2.heap.size≤W.heap.size→Calls Try.prog 135 #[.agg #[.string ⟨on.toArray⟩,.string ⟨od.toArray⟩],.map (some mb)] W fun e w'=>e=.returned (.bool g2)∧Below w2.heap.size W w'∧∃ D' S',FMap w' w2.heap.size mb (60+j+1) gs D' S'):=by rw[hg2,hgs];exact KD9
              rw[←hgs] at HG HGO HDL
              replace HG:Hid (og=(g2 && (decide (gs.length≤60) && decide (dataN gs≤200000)))):=by rw[hg2];exact HG.out
              clear KD9 eD hgs HDV HRI HDA hg2
              go_wp2_with fail
              refine (KF _).mono ?_
              rintro e w3 ⟨rfl,b3⟩
              rw[eV]
              have B3:Hid (Below w2.heap.size w2 w3):=HBM.out.trans (b3.mono HBM.out.size)
              have F3:Hid (FMap w3 w2.heap.size mb (60+j) fs D S):=HFM.out.below b3
              have KD:=HKD.out w3 F3.out B3.out.size
              clear KF b3 eV HKD HFM HBM o0 o1 o2 o3
              go_wp2_with fail
              refine KD.mono ?_
              rintro e w4 ⟨rfl,b4,D4,S4,hF4⟩
              have B4:Hid (Below w2.heap.size w2 w4):=B3.out.trans b4
              have Z4:Hid (Below w.heap.size w w4):=B2.trans (B4.out.mono B2.size)
              have F4:Hid (FMap w4 w2.heap.size mb (60+j+1) gs D4 S4):=hF4
              have KT:=impl_fit w2.heap.size mb (60+j+1) gs D4 S4 w4 HDL.out hF4
              clear KD b4 hF4
              cases g2 with
              | false =>
                have HR:Hid (dk=false):=HST.out (by rw[HG.out];rfl)
                clear HST HG HGO N6 KT
                go_wp2
                go_ret
                obtain rfl:=HR.out
                exact⟨rfl,Z4.out⟩
              | true =>
                rw[Bool.true_and] at HG
                obtain⟨ft,hft⟩:∃ ft,ft=(decide (gs.length≤60) && decide (dataN gs≤200000)):=⟨_,rfl⟩
                rw[←hft] at HG KT
                clear hft
                go_wp2_with fail
                refine KT.mono ?_
                rintro e w5 ⟨rfl,b5⟩
                have B5:Hid (Below w2.heap.size w2 w5):=B4.out.trans (b5.mono B4.out.size)
                have Z5:Hid (Below w.heap.size w w5):=B2.trans (B5.out.mono B2.size)
                have F5:Hid (FMap w5 w2.heap.size mb (60+j+1) gs D4 S4):=F4.out.below b5
                clear KT b5 F4
                cases ft with
                | false =>
                  have HR:Hid (dk=false):=HST.out HG.out
                  clear HST HG HGO N6
                  go_wp2
                  go_ret
                  obtain rfl:=HR.out
                  exact⟨rfl,Z5.out⟩
                | true =>
                  have HNN:Hid (filesOk gs=true∧runF safe (ops.take (j+1))=some gs∧∃ D S,FMap w5 w2.heap.size mb (60+(j+1)) gs D S):=⟨(HGO.out HG.out).2,(HGO.out HG.out).1,D4,S4,F5.out⟩
                  clear HST HG HGO N6
                  go_wp2
                  go_roundw
                  case rel=>exact⟨j+1,gs,by omega,by go_num,HNN,B5⟩
                  case measure=>simp[intOf];omega
            · have KD9:=fun W (hF:FMap W w2.heap.size mb (60+j) fs D S) (hb:w2.heap.size≤W.heap.size)=>impl_renameOn on ot w2.heap.size mb (60+j) fs D S W (by have:=HMM.out;omega) (by have:=HMM.out;omega) (by have:=HL2.out;omega) hb hF
              have eD:=do_ren HRI.out on ot od
              have fA:=findsR on ot
              have eV:deedV ⟨2,on,ot,od⟩=.iface 113 (.agg #[.string ⟨on.toArray⟩,.string ⟨ot.toArray⟩]):=by rw[HDV.out];simp
              rw[eD] at HG HGO HDL
              simp only at HG HGO HDL
              obtain⟨g2,hg2⟩:∃ g2,g2=inK on fs:=⟨_,rfl⟩
              obtain⟨gs,hgs⟩:∃ gs,gs=(if inK on fs=true then putL (cutF fs on) ot (datF fs on) else fs):=⟨_,rfl⟩
              have HKD:Hid (∀ W,FMap W w2.heap.size mb (60+j) fs D S→w2.heap.size≤W.heap.size→Calls Try.prog 137 #[.agg #[.string ⟨on.toArray⟩,.string ⟨ot.toArray⟩],.map (some mb)] W fun e w'=>e=.returned (.bool g2)∧Below w2.heap.size W w'∧∃ D' S',FMap w' w2.heap.size mb (60+j+1) gs D' S'):=by rw[hg2,hgs];exact KD9
              rw[←hgs] at HG HGO HDL
              rw[←hg2] at HG
              clear KD9 eD hgs HDV HRI HDA hg2
              go_wp2_with fail
              refine (KF _).mono ?_
              rintro e w3 ⟨rfl,b3⟩
              rw[eV]
              have B3:Hid (Below w2.heap.size w2 w3):=HBM.out.trans (b3.mono HBM.out.size)
              have F3:Hid (FMap w3 w2.heap.size mb (60+j) fs D S):=HFM.out.below b3
              have KD:=HKD.out w3 F3.out B3.out.size
              clear KF b3 eV HKD HFM HBM o0 o1 o2 o3
              go_wp2_with fail
              refine KD.mono ?_
              rintro e w4 ⟨rfl,b4,D4,S4,hF4⟩
              have B4:Hid (Below w2.heap.size w2 w4):=B3.out.trans b4
              have Z4:Hid (Below w.heap.size w w4):=B2.trans (B4.out.mono B2.size)
              have F4:Hid (FMap w4 w2.heap.size mb (60+j+1) gs D4 S4):=hF4
              have KT:=impl_fit w2.heap.size mb (60+j+1) gs D4 S4 w4 HDL.out hF4
              clear KD b4 hF4
              cases g2 with
              | false =>
                have HR:Hid (dk=false):=HST.out (by rw[HG.out];rfl)
                clear HST HG HGO N6 KT
                go_wp2
                go_ret
                obtain rfl:=HR.out
                exact⟨rfl,Z4.out⟩
              | true =>
                rw[Bool.true_and] at HG
                obtain⟨ft,hft⟩:∃ ft,ft=(decide (gs.length≤60) && decide (dataN gs≤200000)):=⟨_,rfl⟩
                rw[←hft] at HG KT
                clear hft
                go_wp2_with fail
                refine KT.mono ?_
                rintro e w5 ⟨rfl,b5⟩
                have B5:Hid (Below w2.heap.size w2 w5):=B4.out.trans (b5.mono B4.out.size)
                have Z5:Hid (Below w.heap.size w w5):=B2.trans (B5.out.mono B2.size)
                have F5:Hid (FMap w5 w2.heap.size mb (60+j+1) gs D4 S4):=F4.out.below b5
                clear KT b5 F4
                cases ft with
                | false =>
                  have HR:Hid (dk=false):=HST.out HG.out
                  clear HST HG HGO N6
                  go_wp2
                  go_ret
                  obtain rfl:=HR.out
                  exact⟨rfl,Z5.out⟩
                | true =>
                  have HNN:Hid (filesOk gs=true∧runF safe (ops.take (j+1))=some gs∧∃ D S,FMap w5 w2.heap.size mb (60+(j+1)) gs D S):=⟨(HGO.out HG.out).2,(HGO.out HG.out).1,D4,S4,F5.out⟩
                  clear HST HG HGO N6
                  go_wp2
                  go_roundw
                  case rel=>exact⟨j+1,gs,by omega,by go_num,HNN,B5⟩
                  case measure=>simp[intOf];omega
            · have KD9:=fun W (hF:FMap W w2.heap.size mb (60+j) fs D S) (hb:w2.heap.size≤W.heap.size)=>impl_removeOn on w2.heap.size mb (60+j) fs D S W (by have:=HMM.out;omega) hb hF
              have eD:=do_rem HRI.out on ot od
              have fA:=findsM on
              have eV:deedV ⟨3,on,ot,od⟩=.iface 115 (.agg #[.string ⟨on.toArray⟩]):=by rw[HDV.out];simp
              rw[eD] at HG HGO HDL
              simp only at HG HGO HDL
              obtain⟨g2,hg2⟩:∃ g2,g2=inK on fs:=⟨_,rfl⟩
              obtain⟨gs,hgs⟩:∃ gs,gs=cutF fs on:=⟨_,rfl⟩
              have HKD:Hid (∀ W,FMap W w2.heap.size mb (60+j) fs D S→w2.heap.size≤W.heap.size→Calls Try.prog 139 #[.agg #[.string ⟨on.toArray⟩],.map (some mb)] W fun e w'=>e=.returned (.bool g2)∧Below w2.heap.size W w'∧∃ D' S',FMap w' w2.heap.size mb (60+j+1) gs D' S'):=by rw[hg2,hgs];exact KD9
              rw[←hgs] at HG HGO HDL
              rw[←hg2] at HG
              clear KD9 eD hgs HDV HRI HDA hg2
              go_wp2_with fail
              refine (KF _).mono ?_
              rintro e w3 ⟨rfl,b3⟩
              rw[eV]
              have B3:Hid (Below w2.heap.size w2 w3):=HBM.out.trans (b3.mono HBM.out.size)
              have F3:Hid (FMap w3 w2.heap.size mb (60+j) fs D S):=HFM.out.below b3
              have KD:=HKD.out w3 F3.out B3.out.size
              clear KF b3 eV HKD HFM HBM o0 o1 o2 o3
              go_wp2_with fail
              refine KD.mono ?_
              rintro e w4 ⟨rfl,b4,D4,S4,hF4⟩
              have B4:Hid (Below w2.heap.size w2 w4):=B3.out.trans b4
              have Z4:Hid (Below w.heap.size w w4):=B2.trans (B4.out.mono B2.size)
              have F4:Hid (FMap w4 w2.heap.size mb (60+j+1) gs D4 S4):=hF4
              have KT:=impl_fit w2.heap.size mb (60+j+1) gs D4 S4 w4 HDL.out hF4
              clear KD b4 hF4
              cases g2 with
              | false =>
                have HR:Hid (dk=false):=HST.out (by rw[HG.out];rfl)
                clear HST HG HGO N6 KT
                go_wp2
                go_ret
                obtain rfl:=HR.out
                exact⟨rfl,Z4.out⟩
              | true =>
                rw[Bool.true_and] at HG
                obtain⟨ft,hft⟩:∃ ft,ft=(decide (gs.length≤60) && decide (dataN gs≤200000)):=⟨_,rfl⟩
                rw[←hft] at HG KT
                clear hft
                go_wp2_with fail
                refine KT.mono ?_
                rintro e w5 ⟨rfl,b5⟩
                have B5:Hid (Below w2.heap.size w2 w5):=B4.out.trans (b5.mono B4.out.size)
                have Z5:Hid (Below w.heap.size w w5):=B2.trans (B5.out.mono B2.size)
                have F5:Hid (FMap w5 w2.heap.size mb (60+j+1) gs D4 S4):=F4.out.below b5
                clear KT b5 F4
                cases ft with
                | false =>
                  have HR:Hid (dk=false):=HST.out HG.out
                  clear HST HG HGO N6
                  go_wp2
                  go_ret
                  obtain rfl:=HR.out
                  exact⟨rfl,Z5.out⟩
                | true =>
                  have HNN:Hid (filesOk gs=true∧runF safe (ops.take (j+1))=some gs∧∃ D S,FMap w5 w2.heap.size mb (60+(j+1)) gs D S):=⟨(HGO.out HG.out).2,(HGO.out HG.out).1,D4,S4,F5.out⟩
                  clear HST HG HGO N6
                  go_wp2
                  go_roundw
                  case rel=>exact⟨j+1,gs,by omega,by go_num,HNN,B5⟩
                  case measure=>simp[intOf];omega
        · have hjl : j = ln := by omega
          subst hjl
          obtain⟨e4,e5,D,S,e6⟩:=HNW.out
          have e7:runF safe ops=some fs:=by
           have:ops.take j=ops:=by rw[HLN.out,List.take_length]
           rw[this] at e5;exact e5
          have HR:Hid (dk=decide (fs=live)):=N6.out fs e7
          have hsm:=files_small e4
          have h60:=(rise_files e4).2.2.1
          have KLI:=impl_list w2.heap.size mb (60+j) fs D S wr.drew (by omega) (fun p hp=>by have:=(hsm p hp).1;omega) (e6.kept ⟨rfl,rfl,rfl,Nat.le_refl _,fun _ _ _=>rfl⟩)
          have HKE:Hid (∀ a c W,Below w.heap.size w W→IsPairs W a fs→_):=fun a c W hW hi=>slices_equalF fs live a a1 c c1 W (by omega) (by have:=HLL.out.1;omega) hi (HS1.out W hW)
          obtain⟨de,hde⟩:∃ de,de=decide (fs=live):=⟨_,rfl⟩
          rw[←hde] at HKE HR
          obtain⟨p0,p1,p2,_⟩:=three_cells HRW.out
          have HP0:Hid (wr.drew.cell? ⟨w.heap.size,0,none⟩=some (.slice a1 live.length c1)):=p0
          clear e4 e5 e6 e7 hde HNW N6 HOP HM3 N4 hlt hsm h60 p1 p2 p0
          go_wp2_with fail
          go_region_held3 (fun w'=>w'.cell? ⟨w.heap.size,0,none⟩=some (.slice a1 live.length c1))
           (first | with_reducible exact C4.out | with_reducible exact C3.out | with_reducible exact HP0.out)
           (first
            | (go_at_call 52
               with_reducible refine KLI.mono ?_
               rintro e w3 ⟨a',m',c',rfl,o3,b3'⟩
               have b3:Below wr.heap.size wr w3:=⟨b3'.os,b3'.tape,b3'.output,b3'.size,b3'.block⟩
               obtain⟨rfl,_,i3⟩:=isPairs_own o3
               have C3:Hid (w3.cell? ⟨w.heap.size,0,none⟩=some (.slice a1 live.length c1)):=(three_cells ((b3.block _ (lt_of_block HRW.out)).trans HRW.out)).1
               have B3:Hid (Below w.heap.size w w3):=BW.out.trans (b3.mono BW.out.size)
               have I3:Hid (IsPairs w3 a' fs):=i3
               have R3:Hid (w3.heap[w.heap.size]? = _):=(b3.block _ (lt_of_block HRW.out)).trans HRW.out
               clear o3 b3 b3' i3)
            | (go_at_call 51
               with_reducible refine (HKE.out a' c' w3 B3.out I3.out).mono ?_
               rintro e w4 ⟨rfl,b4⟩
               have C4:Hid (w4.cell? ⟨w.heap.size,0,none⟩=some (.slice a1 live.length c1)):=(three_cells ((b4.block _ (lt_of_block R3.out)).trans R3.out)).1
               have B4:Hid (Below w.heap.size w w4):=B3.out.trans (b4.mono B3.out.size)
               clear b4))
          all_goals
           go_wp2
           go_ret
           obtain rfl:=HR.out
           exact⟨rfl,B4.out⟩
     · have h200':¬ (ops.length:Int)≤200:=by omega
       have h200b:decide ((200:Int)<(ops.length:Int))=true:=decide_eq_true (by omega)
       have HR:Hid (dk=false):=N3.out h200
       clear N1 N2 N3 N4 N5 h200
       go_wp2
       go_ret
       obtain rfl:=HR.out
       exact⟨rfl,B2⟩
end Go.Proofs.Ytlllkdioojjaeaa
