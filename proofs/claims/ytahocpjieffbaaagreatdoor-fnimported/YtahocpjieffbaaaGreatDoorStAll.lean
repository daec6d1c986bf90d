import Derived.Test.YtahocpjieffbaaaGreatDoorMath2
import Derived.Lib.BufferWrite
import Derived.Laws.Tables
import Derived.Maps.Own
import Derived.WideKeyArr2
import Derived.Test.YtahocpjieffbaaaGreatDoorMathRs
import Derived.Test.YtahocpjieffbaaaGreatDoorPairs
import Derived.Test.YtahocpjieffbaaaGreatDoorIReadAll
import Derived.Test.YtahocpjieffbaaaGreatDoorSumI
import Derived.Deep.RegionHeld3
import Derived.Test.YtahocpjieffbaaaGreatDoorSReadM
import Derived.Test.YtahocpjieffbaaaGreatDoorSSums
namespace Go.Proofs.YtahocpjieffbaaaGreatDoor
open Go.RowKit
set_option linter.unusedVariables false
theorem wpList_copy_str {P:Program} {w w':World} {ops:Array Oper} {rest:List Oper} {o:Oper} {a:Act} {Q:Exit→Act→World→Prop} (hgd:o.guard=none) (d s:Operand) (dT sT:TypeId)
 (ho:o.op=.call { callee:=.builtin .copy,args:=#[d,s],argTypes:=#[dT,sT] }) (dv sv v:Value) (hd:a.eval d=dv) (hs:a.eval s=sv)
 (hrun:∀ ty,(Builtin.copy_ #[dT,sT] ty #[dv,sv]).run P w=.ok v w') (h:wpList P ops Q rest (a.put o.dst v) w'):wpList P ops Q (o :: rest) a w :=
 wpList_plain hgd fun K hK=>by
  unfold Oper.wp
  simp[execOp,ho,resolve,invoke,builtin,hd,hs,hrun,Result.andThen]
  exact hK _ _ h
theorem setRow_block (w:World) (g k:Nat) (cs:Array Value) (h:k≠g):(w.setRow g cs).heap[k]? = w.heap[k]? := by
 show (w.heap.modify g _)[k]? = _
 rw[Array.getElem?_modify,if_neg (fun e=>h e.symm)]
theorem below_setRow {B g:Nat} {w0 w:World} (h:Below B w0 w) (hg:B≤g) (cs:Array Value):Below B w0 (w.setRow g cs) :=
 ⟨h.os,h.tape,h.output,by simpa [World.setRow] using h.size,fun k hk=>(setRow_block w g k cs (by omega)).trans (h.block k hk)⟩
theorem key_copy (l:List UInt8) (zs:Array Value) (hz:zs.size=32) (hl:l.length=32):(zs.toList.take 0 ++ Lib.byteCells (⟨l.toArray⟩:ByteArray).data.toList ++ zs.toList.drop (0+(⟨l.toArray⟩:ByteArray).size)).toArray=(bcells l).toArray:=by
 have h1:zs.toList.drop (0+(⟨l.toArray⟩:ByteArray).size)=[]:=List.drop_eq_nil_of_le (by simp[ByteArray.size];omega)
 rw[h1]
 simp[Lib.byteCells,bcells]
set_option maxRecDepth 100000 in
set_option maxHeartbeats 1000000 in
theorem impl_keyOfHash (l:List UInt8) (w:World) (hl:l.length=32) :
 Calls Tryz.prog 60 #[.string ⟨l.toArray⟩] w fun e w'=>e=.returned (.agg (bcells l).toArray)∧Below w.heap.size w w':=by
 obtain⟨zs,hzs⟩:∃ zs:Array Value,zs=#[.int .u8 0,.int .u8 0,.int .u8 0,.int .u8 0,.int .u8 0,.int .u8 0,.int .u8 0,.int .u8 0,.int .u8 0,.int .u8 0,.int .u8 0,.int .u8 0,.int .u8 0,.int .u8 0,.int .u8 0,.int .u8 0,.int .u8 0,.int .u8 0,.int .u8 0,.int .u8 0,.int .u8 0,.int .u8 0,.int .u8 0,.int .u8 0,.int .u8 0,.int .u8 0,.int .u8 0,.int .u8 0,.int .u8 0,.int .u8 0,.int .u8 0,.int .u8 0]:=⟨_,rfl⟩
 have hz:zs.size=32:=by rw[hzs];rfl
 have HZS:Hid (#[.int .u8 0,.int .u8 0,.int .u8 0,.int .u8 0,.int .u8 0,.int .u8 0,.int .u8 0,.int .u8 0,.int .u8 0,.int .u8 0,.int .u8 0,.int .u8 0,.int .u8 0,.int .u8 0,.int .u8 0,.int .u8 0,.int .u8 0,.int .u8 0,.int .u8 0,.int .u8 0,.int .u8 0,.int .u8 0,.int .u8 0,.int .u8 0,.int .u8 0,.int .u8 0,.int .u8 0,.int .u8 0,.int .u8 0,.int .u8 0,.int .u8 0,.int .u8 0]=zs):=hzs.symm
 have B0:Hid (Below w.heap.size w ((w.alloc (.cells zs 105)).alloc (.cells zs 105))):=((Below.refl _ _).alloc (Nat.le_refl _) _).alloc (by simp) _
 have X0:Hid (((w.alloc (.cells zs 105)).alloc (.cells zs 105)).heap[w.heap.size]? = some (.cells zs 105 (0,0))):=(Below.heap_alloc _ _ _ (by simp)).trans (heap_alloc_new w _)
 have Y0:Hid (((w.alloc (.cells zs 105)).alloc (.cells zs 105)).heap[w.heap.size+1]? = some (.cells zs 105 (0,0))):=by
  have:=heap_alloc_new (w.alloc (.cells zs 105)) (.cells zs 105)
  rw[show (w.alloc (.cells zs 105)).heap.size=w.heap.size+1 by simp] at this
  exact this
 obtain⟨wa,hwa⟩:∃ wa,wa=(w.alloc (.cells zs 105)).alloc (.cells zs 105):=⟨_,rfl⟩
 rw[←hwa] at B0 X0 Y0
 have HWA:Hid ((w.alloc (.cells zs 105)).alloc (.cells zs 105)=wa):=hwa.symm
 have hcs:(bcells l).toArray.size=32:=by simp[bcells,hl]
 have h1:(bcells l).toArray.all (·.oneCell')=true:=by
  rw[Array.all_eq_true];intro i hi;simp[bcells,Value.oneCell']
 have HRUN:Hid (∀ ty,(Builtin.copy_ #[22,9] ty #[.slice (some ⟨w.heap.size+1,0,none⟩) 32 32,.string ⟨l.toArray⟩]).run Tryz.prog wa=.ok (goInt 32) (wa.setRow (w.heap.size+1) (bcells l).toArray)):=fun ty=>by
  have:=Lib.run_copy_row_string (P:=Tryz.prog) wa 22 9 ty 5 (w.heap.size+1) 0 32 32 ⟨l.toArray⟩ zs 105 Tryz.underlying22 (by kernel_rfl) Y0.out (by simp[ByteArray.size,hl]) (by simp[ByteArray.size,hl,hz])
  rw[key_copy l zs hz hl,show (⟨l.toArray⟩:ByteArray).size=32 by simp[ByteArray.size,hl]] at this
  exact this
 have Y1:Hid ((wa.setRow (w.heap.size+1) (bcells l).toArray).heap[w.heap.size+1]? = some (.cells (bcells l).toArray 105 (0,0))):=setRow_heap _ _ _ _ _ _ Y0.out
 have X1:Hid ((wa.setRow (w.heap.size+1) (bcells l).toArray).heap[w.heap.size]? = some (.cells zs 105 (0,0))):=(setRow_block _ _ _ _ (by omega)).trans X0.out
 have B1:Hid (Below w.heap.size w (wa.setRow (w.heap.size+1) (bcells l).toArray)):=below_setRow B0.out (by omega) _
 obtain⟨cs,hcd⟩:∃ cs,cs=(bcells l).toArray:=⟨_,rfl⟩
 rw[←hcd] at hcs h1 HRUN Y1 X1 B1 ⊢
 have X2:Hid (((wa.setRow (w.heap.size+1) cs).setRow w.heap.size cs).heap[w.heap.size]? = some (.cells cs 105 (0,0))):=setRow_heap _ _ _ _ _ _ X1.out
 have B2:Hid (Below w.heap.size w ((wa.setRow (w.heap.size+1) cs).setRow w.heap.size cs)):=below_setRow B1.out (Nat.le_refl _) _
 have HI:Hid ((Tryz.prog.info? 105).map (·.size)=some cs.size):=by rw[Hid,hcs];kernel_rfl
 clear hwa hcd hzs
 go_enter Tryz.func60,Tryz.ntmps60
 go_wp2
 rw[HZS.out,HWA.out,HRUN.out 3]
 go_wp2_with (first
  | (refine wpList_load_row rfl 105 _ rfl (w.heap.size+1) rfl 105 cs (0,0) _ Y1.out Tryz.underlying105 rfl HI.out ?_)
  | (refine wpList_store_row rfl 105 _ _ rfl w.heap.size cs rfl rfl 105 zs X1.out HI.out (by rw[hz,hcs]) h1 ?_))
 exact bodyPost_ret (v:=.agg cs) (results_cell_row rfl _ _ w.heap.size 105 _ (0,0) _ rfl X2.out Tryz.underlying105 rfl HI.out) rfl ⟨rfl,B2.out⟩
theorem u8_wf (b:UInt8):(Lit.int .u8 (b.toNat:Int)).wf=true:=by
 have hb:=b.toNat_lt
 simp[Lit.wf,IntKind.min,IntKind.max,IntKind.signed,IntKind.bits]
 omega
def keyLit (l:List UInt8):Lit:=.string (keyBytes ((List.range 32).map fun i=>[Lit.int .u8 ((l.getD i 0).toNat:Int)]).flatten)
theorem mapM_someK {α β:Type} (f:α→Option β) (g:α→β):∀ xs:List α,(∀ i∈xs,f i=some (g i))→xs.mapM f=some (xs.map g)
 | [],_=>rfl
 | x :: xs, h => by
   rw[List.mapM_cons,h x (by simp),mapM_someK f g xs (fun i hi=>h i (by simp[hi]))]
   rfl
theorem arr32:WideMaps.ArrKey Tryz.prog 105 5 32:=⟨Tryz.underlying105,by kernel_rfl,by kernel_rfl,by kernel_rfl⟩
theorem keyedH:Maps.Keyed Tryz.prog 105:=Maps.Keyed.of_law arr32.law
theorem key_reads (l:List UInt8) (hl:l.length=32):keyOf Tryz.prog 105 (.agg (bcells l).toArray)=some (keyLit l):=by
 obtain⟨m,hm⟩:∃ m,Tryz.prog.types.size=m+2:=⟨Tryz.prog.types.size - 2,by kernel_rfl⟩
 have hkt:=arr32.keyType ⟨m+1,hm⟩
 have hcs:(bcells l).length=32:=by simp[bcells,hl]
 unfold keyOf
 simp only[arr32.hu]
 rw[if_pos (by simp[hkt,Value.formed,arr32.hu,arr32.size,hcs]),hm]
 unfold Program.keyLits
 simp only[arr32.hu,Value.cells]
 rw[if_pos (by rw[arr32.size];simpa using hcs)]
 rw[mapM_someK _ (fun i=>[Lit.int .u8 ((l.getD i 0).toNat:Int)]) _ (fun i hi=>?_)]
 · rfl
 · have hi':i<32:=List.mem_range.1 hi
   have hb:=(l.getD i 0).toNat_lt
   have hg:((bcells l).drop (i*1)).take 1=[.int .u8 ((l.getD i 0).toNat:Int)]:=by
    rw[Nat.mul_one,List.drop_eq_getElem_cons (by omega)]
    simp[bcells,List.getD,show i<l.length by omega]
   rw[arr32.one]
   simp only[hg]
   unfold Program.keyLits
   rw[Tryz.underlying5]
   simp only
   rw[if_pos ⟨trivial,u8_wf _⟩]
def stOk (ps:List PairL) (j:Nat):Bool:=(readNode (valAt ps j)).isSome && (sumL (valAt ps j) == keyAt ps j) && (decide (j=0) || Op.bytesLess (keyAt ps (j - 1)) (keyAt ps j))
def storeOkL (ps:List PairL):Bool:=decide (ps.length≤400) && (List.range ps.length).all (stOk ps)
theorem storeOk_big (ps:List PairL) (h:¬ ps.length≤400):storeOkL ps=false:=by simp[storeOkL,h]
theorem storeOk_bad (ps:List PairL) (j:Nat) (h:j<ps.length) (hb:stOk ps j=false):storeOkL ps=false:=by
 have:(List.range ps.length).all (stOk ps)=false:=by
  rw[List.all_eq_false]
  exact⟨j,List.mem_range.2 h,by simp[hb]⟩
 simp[storeOkL,this]
theorem storeOk_all (ps:List PairL) (h400:ps.length≤400) (h:∀ j,j<ps.length→stOk ps j=true):storeOkL ps=true:=by
 simp only[storeOkL,Bool.and_eq_true,decide_eq_true_eq,List.all_eq_true,List.mem_range]
 exact⟨h400,h⟩
def hnR (v:Value):Option (DataW Unit × List MemPlace):=match v with
 | .agg ⟨[.string s,.int .i64 _,.string _,.slice _ _ _,.string _]⟩=>some (.lit (.string s.data.toList),[])
 | _=>none
theorem hnR_is (t:List UInt8) (k:Int) (p:ByteArray) (a:Option Addr) (m c:Nat) (v:ByteArray):hnR (.agg #[.string ⟨t.toArray⟩,.int .i64 k,.string p,.slice a m c,.string v])=some (.lit (.string t),[]):=by simp[hnR]
theorem hnR_inv {v:Value} {t:List UInt8} {qs:List MemPlace} (h:hnR v=some (.lit (.string t),qs)):∃ k p a m c y,v=.agg #[.string ⟨t.toArray⟩,.int .i64 k,.string p,.slice a m c,.string y]:=by
 unfold hnR at h
 split at h
 · rename_i s k p a m c y
   simp only[Option.some.injEq,Prod.mk.injEq,DataW.lit.injEq,Lit.string.injEq] at h
   refine⟨k,p,a,m,c,y,?_⟩
   rw[←h.1]
 · cases h
def datL (ps:List PairL):DataW Unit:=ps.foldl (fun D p=>D.put (keyLit p.1) (.lit (.string p.2))) (.map [])
theorem datL_take (ps:List PairL) (j:Nat) (h:j<ps.length):datL (ps.take (j+1))=(datL (ps.take j)).put (keyLit (keyAt ps j)) (.lit (.string (valAt ps j))):=by
 rw[take_snocP ps j h,keyAt_lt ps j h,valAt_lt ps j h]
 simp only[datL,List.foldl_append,List.foldl_cons,List.foldl_nil]
theorem two_cellsS {w:World} {b:Nat} {u v:Value} {t:TypeId} (h:w.heap[b]? = some (.cells #[u,v] t (0,0))) :
 w.cell? ⟨b,0,none⟩=some u∧w.cell? ⟨b,1,none⟩=some v∧∀ j,w.frozen? ⟨b,j,none⟩=false:=by
 refine⟨?_,?_,fun j=>frozen_of_row w b j _ t h⟩ <;> simp only[World.cell?,h] <;> rfl
def HeldPost (w:World) (ok:Bool) (ps:List PairL) (e:Ending) (w':World):Prop:=match ok with
 | false=>e=.returned (.tuple #[.map none,.bool false])∧Below w.heap.size w w'
 | true=>∃ mb:Nat,e=.returned (.tuple #[.map (some mb),.bool true])∧w'.ownsMap Tryz.prog 105 hnR mb ps.length (datL ps)∧w.heap.size≤mb∧Below w.heap.size w w'
set_option maxRecDepth 100000 in
set_option maxHeartbeats 2000000 in
theorem impl_heldNodes (a : Option Addr) (cap : Nat) (ps : List PairL) (w : World) (hT : Tab w) (hl : ps.length ≤ 1048576) (hm : ∀ p ∈ ps, p.1.length ≤ 1048576 ∧ p.2.length ≤ 1048576) (hs : IsPairs w a ps) :
 Calls Tryz.prog 39 #[.slice a ps.length cap] w fun e w'=>HeldPost w (storeOkL ps) ps e w':=by
 have HT:Hid (Tab w):=hT
 clear hT
 by_cases h400:ps.length≤400
 · have h400' : (ps.length : Int) ≤ 400 := by omega
   have hm2:∀ j,j<ps.length→(keyAt ps j).length≤1048576∧(valAt ps j).length≤1048576:=fun j h=>by rw[keyAt_lt ps j h,valAt_lt ps j h];exact hm _ (List.getElem_mem _)
   have HS:Hid (∀ W,Below w.heap.size w W→∀ j,j<ps.length→∃ b off,a=some ⟨b,off,none⟩∧W.cell? ⟨b,off+j*2,none⟩=some (.string ⟨(keyAt ps j).toArray⟩)∧W.cell? ⟨b,off+j*2+1,none⟩=some (.string ⟨(valAt ps j).toArray⟩)∧(0<j→W.cell? ⟨b,off+(j - 1)*2,none⟩=some (.string ⟨(keyAt ps (j - 1)).toArray⟩))):=fun W hW j h=>by
    rcases hs.later hW with h' | ⟨b,off,h',hc⟩
    · rw[h'] at h;simp at h
    · refine⟨b,off,h',?_,?_,fun h0=>?_⟩
      · rw[keyAt_lt ps j h];exact (hc j h).1
      · rw[valAt_lt ps j h];exact (hc j h).2
      · rw[keyAt_lt ps (j - 1) (by omega)];exact (hc (j - 1) (by omega)).1
   obtain⟨r,hr⟩:∃ r,r=storeOkL ps:=⟨_,rfl⟩
   have HBAD:Hid (∀ j,j<ps.length→stOk ps j=false→r=false):=fun j h hb=>by rw[hr];exact storeOk_bad ps j h hb
   have HALL:Hid ((∀ j,j<ps.length→stOk ps j=true)→r=true):=fun h=>by rw[hr];exact storeOk_all ps h400 h
   have M0:Hid ((w.alloc (.map #[] 0)).ownsMap Tryz.prog 105 hnR w.heap.size 0 (datL (ps.take 0))):=World.ownsMap_made w _ _ _
   have B0:Hid (Below w.heap.size w (w.alloc (.map #[] 0))):=(Below.refl _ _).alloc (Nat.le_refl _) _
   rw[←hr]
   have hmm:=@run_makeMap Tryz.prog
   clear hm hs hr
   go_enter Tryz.func39,Tryz.ntmps39
   go_wp2
   clear hmm
   go_loopw [5,6,7,8,15] (fun _ _ _ _ i wr=>∃ j:Nat,j≤ps.length∧i=.int .i64 (j:Int)∧Hid (∀ q,q<j→stOk ps q=true)∧wr.ownsMap Tryz.prog 105 hnR w.heap.size j (datL (ps.take j))∧Below w.heap.size w wr) (fun _ _ _ _ i _=>ps.length - (intOf i).toNat)
   case atStart=>exact⟨0,Nat.zero_le _,rfl,fun q hq=>by omega,M0.out,B0.out⟩
   case round =>
    obtain⟨j,hj,rfl,HA,hom,hbel⟩:=hrel
    have hsz:=hbel.size
    by_cases hlt:j<ps.length
    · obtain ⟨b, off, ha, c1, c2, c3⟩ := HS.out wr hbel j hlt
      subst ha
      have m1:=hm2 j hlt
      have hj0:(0:Int)≤(j:Int):=by omega
      have hj1:(j:Int)<(ps.length:Int):=by omega
      have HB:Hid (stOk ps j=false→r=false):=HBAD.out j hlt
      have HN:Hid (stOk ps j=true→∀ q,q<j+1→stOk ps q=true):=fun h q hq=>by
       by_cases e:q=j
       · rw[e];exact h
       · exact HA.out q (by omega)
      have HO2:Hid (stOk ps j=((readNode (valAt ps j)).isSome && (sumL (valAt ps j) == keyAt ps j) && (decide (j=0) || Op.bytesLess (keyAt ps (j - 1)) (keyAt ps j)))):=rfl
      have HDT:Hid (datL (ps.take (j+1))=(datL (ps.take j)).put (keyLit (keyAt ps j)) (.lit (.string (valAt ps j)))):=datL_take ps j hlt
      have HWL:Hid (w.heap.size<wr.heap.size):=hom.lt
      obtain⟨x,hx⟩:∃ x,x=keyAt ps j:=⟨_,rfl⟩
      obtain⟨y,hy⟩:∃ y,y=valAt ps j:=⟨_,rfl⟩
      rw[←hx] at c1 m1 HO2 HDT
      rw[←hy] at c2 m1 HO2 HDT
      have hyl:y.length≤1048576:=m1.2
      have HKR:Hid (∀ W,Calls Tryz.prog 58 #[.string ⟨y.toArray⟩] W fun e w'=>ReadPost W (readNode y) e w'):=fun W=>impl_readNode y W hyl
      have Bs:Hid (Below w.heap.size w (wr.alloc (.cells #[.string ⟨x.toArray⟩,.string ⟨y.toArray⟩] 78))):=hbel.alloc hsz _
      have Xs:Hid ((wr.alloc (.cells #[.string ⟨x.toArray⟩,.string ⟨y.toArray⟩] 78)).heap[wr.heap.size]? = some (.cells #[.string ⟨x.toArray⟩,.string ⟨y.toArray⟩] 78 (0,0))):=heap_alloc_new wr _
      have Ms:Hid ((wr.alloc (.cells #[.string ⟨x.toArray⟩,.string ⟨y.toArray⟩] 78)).ownsMap Tryz.prog 105 hnR w.heap.size j (datL (ps.take j))):=hom.alloc _
      clear hx hy HA HBAD HALL hm2 HS hom M0 B0
      by_cases hz:j=0
      · subst hz
        simp only[Nat.zero_mul,Nat.add_zero] at c1 c2
        have hzb:decide ((0:Int)<((0:Nat):Int))=false:=decide_eq_false (by omega)
        have HPRE:Hid ((decide ((0:Nat)=0) || Op.bytesLess (keyAt ps (0 - 1)) x)=true):=by rw[Hid];simp
        clear c3
        go_wp2
        go_quiet (fail)
        obtain⟨ww,hww⟩:∃ ww,ww=(wr.alloc (.cells #[.string ⟨x.toArray⟩,.string ⟨y.toArray⟩] 78)).drewN nq:=⟨_,rfl⟩
        have B1:Hid (Below w.heap.size w ww):=by rw[Hid,hww];exact below_dr Bs.out
        have X1:Hid (ww.heap[wr.heap.size]? = some (.cells #[.string ⟨x.toArray⟩,.string ⟨y.toArray⟩] 78 (0,0))):=by rw[Hid,hww];exact Xs.out
        have HOM:Hid (ww.ownsMap Tryz.prog 105 hnR w.heap.size 0 (datL (ps.take 0))):=by rw[Hid,hww];exact Ms.out
        have HW1:Hid ((wr.alloc (.cells #[.string ⟨x.toArray⟩,.string ⟨y.toArray⟩] 78)).drewN nq=ww):=hww.symm
        obtain⟨s0,s1,sf⟩:=two_cellsS X1.out
        rw[HW1.out]
        clear sf hww HW1 c1 c2 Bs Xs Ms
        go_wp2_with fail
        clear s0 s1
        refine (HKR.out _).mono ?_
        rintro e w2 ⟨a4,m4,c4,rfl,o4,b2⟩
        have B2:Hid (Below w.heap.size w w2):=B1.out.trans (b2.mono B1.out.size)
        have X2:Hid (w2.heap[wr.heap.size]? = some (.cells #[.string ⟨x.toArray⟩,.string ⟨y.toArray⟩] 78 (0,0))):=(b2.block wr.heap.size (lt_of_block X1.out)).trans X1.out
        have HWL2:Hid (w.heap.size<w2.heap.size):=Nat.lt_of_lt_of_le (Nat.lt_trans HWL.out (lt_of_block X1.out)) b2.size
        have M2:Hid (w2.ownsMap Tryz.prog 105 hnR w.heap.size 0 (datL (ps.take 0))):=HOM.out.kept (grown_of_below b2 none) (by simp)
        obtain⟨nd,hnd⟩:∃ nd,nd=(readNode y).getD zeroN:=⟨_,rfl⟩
        rw[←hnd]
        obtain⟨k,p,ls,v⟩:=nd
        simp only
        have P2:Hid (Below w2.heap.size w2 (w2.alloc (.cells #[.int .i64 k,.string ⟨p.toArray⟩,.slice a4 m4 c4,.string ⟨v.toArray⟩] 98))):=(Below.refl _ _).alloc (Nat.le_refl _) _
        have B2a:Hid (Below w.heap.size w (w2.alloc (.cells #[.int .i64 k,.string ⟨p.toArray⟩,.slice a4 m4 c4,.string ⟨v.toArray⟩] 98))):=B2.out.trans (P2.out.mono B2.out.size)
        have X2a:Hid ((w2.alloc (.cells #[.int .i64 k,.string ⟨p.toArray⟩,.slice a4 m4 c4,.string ⟨v.toArray⟩] 98)).heap[wr.heap.size]? = some (.cells #[.string ⟨x.toArray⟩,.string ⟨y.toArray⟩] 78 (0,0))):=(P2.out.block wr.heap.size (lt_of_block X2.out)).trans X2.out
        have Y2a:Hid ((w2.alloc (.cells #[.int .i64 k,.string ⟨p.toArray⟩,.slice a4 m4 c4,.string ⟨v.toArray⟩] 98)).heap[w2.heap.size]? = some (.cells #[.int .i64 k,.string ⟨p.toArray⟩,.slice a4 m4 c4,.string ⟨v.toArray⟩] 98 (0,0))):=heap_alloc_new w2 _
        have M2a:Hid ((w2.alloc (.cells #[.int .i64 k,.string ⟨p.toArray⟩,.slice a4 m4 c4,.string ⟨v.toArray⟩] 98)).ownsMap Tryz.prog 105 hnR w.heap.size 0 (datL (ps.take 0))):=M2.out.alloc _
        obtain⟨ok,hok⟩:∃ ok,ok=(readNode y).isSome:=⟨_,rfl⟩
        rw[←hok]
        have HOK:Hid (ok=(readNode y).isSome):=hok
        clear o4 b2 hnd hok X2 M2 B2 P2
        obtain⟨s0,s1,sf⟩:=two_cellsS X2a.out
        obtain⟨n0,n1,n2,n3,nf⟩:=quad_cells Y2a.out
        clear sf nf
        cases ok with
        | false =>
          have HR:Hid (r=false):=HB.out (by rw[HO2.out,←HOK.out];simp)
          have B2n:Hid (∀ q,Below w.heap.size w ((w2.alloc (.cells #[.int .i64 k,.string ⟨p.toArray⟩,.slice a4 m4 c4,.string ⟨v.toArray⟩] 98)).drewN q)):=fun q=>below_dr B2a.out
          clear HB HN HO2
          go_wp2
          go_quiet (fail)
          go_wp2
          go_ret2
          rw[HR.out]
          exact⟨rfl,B2n.out _⟩
        | true =>
          have S1:Hid ((w2.alloc (.cells #[.int .i64 k,.string ⟨p.toArray⟩,.slice a4 m4 c4,.string ⟨v.toArray⟩] 98)).drew.cell? ⟨wr.heap.size,0,none⟩=some (.string ⟨x.toArray⟩)∧(w2.alloc (.cells #[.int .i64 k,.string ⟨p.toArray⟩,.slice a4 m4 c4,.string ⟨v.toArray⟩] 98)).drew.cell? ⟨wr.heap.size,1,none⟩=some (.string ⟨y.toArray⟩)):=⟨s0,s1⟩
          have S1L:Hid (wr.heap.size<(w2.alloc (.cells #[.int .i64 k,.string ⟨p.toArray⟩,.slice a4 m4 c4,.string ⟨v.toArray⟩] 98)).heap.size∧w2.heap.size<(w2.alloc (.cells #[.int .i64 k,.string ⟨p.toArray⟩,.slice a4 m4 c4,.string ⟨v.toArray⟩] 98)).heap.size):=⟨lt_of_block X2a.out,lt_of_block Y2a.out⟩
          have TT:Hid (Tab (w2.alloc (.cells #[.int .i64 k,.string ⟨p.toArray⟩,.slice a4 m4 c4,.string ⟨v.toArray⟩] 98)).drew):=(fun h=>(⟨h.1,h.2⟩:Tab (w2.alloc (.cells #[.int .i64 k,.string ⟨p.toArray⟩,.slice a4 m4 c4,.string ⟨v.toArray⟩] 98)).drew)) (HT.out.later B2a.out)
          have KS:=impl_sum y (w2.alloc (.cells #[.int .i64 k,.string ⟨p.toArray⟩,.slice a4 m4 c4,.string ⟨v.toArray⟩] 98)).drew hyl TT.out
          obtain⟨su,hsu⟩:∃ su,su=sumL y:=⟨_,rfl⟩
          have HSU:Hid (su=sumL y):=hsu
          rw[←hsu] at KS
          clear hsu TT
          by_cases he:x=su
          · have heb:(x == su)=true:=by rw[beq_iff_eq];exact he
            have HTR:Hid (stOk ps 0=true):=by rw[Hid,HO2.out,←HOK.out,←HSU.out,←he,HPRE.out];simp
            have HXL:Hid (x.length=32):=by rw[Hid,he,HSU.out];exact sumL_len y
            have hxx:(⟨x.toArray⟩:ByteArray)=⟨su.toArray⟩:=by rw[he]
            clear s0 s1 n0 n1 n2 n3
            subst he
            go_wp2_with fail
            go_region_held3 (fun w'=>w'.cell? ⟨wr.heap.size,0,none⟩=some (.string ⟨x.toArray⟩)∧w'.cell? ⟨wr.heap.size,1,none⟩=some (.string ⟨y.toArray⟩))
             (first | with_reducible exact S3.out | with_reducible exact S1.out)
             ((go_at_call 59
               with_reducible refine KS.mono ?_
               rintro e w3 ⟨rfl,b3'⟩
               have b3:Below (w2.alloc (.cells #[.int .i64 k,.string ⟨p.toArray⟩,.slice a4 m4 c4,.string ⟨v.toArray⟩] 98)).heap.size (w2.alloc (.cells #[.int .i64 k,.string ⟨p.toArray⟩,.slice a4 m4 c4,.string ⟨v.toArray⟩] 98)) w3:=⟨b3'.os,b3'.tape,b3'.output,b3'.size,b3'.block⟩
               have X3:Hid (w3.heap[wr.heap.size]? = some (.cells #[.string ⟨x.toArray⟩,.string ⟨y.toArray⟩] 78 (0,0))):=(b3.block wr.heap.size S1L.out.1).trans X2a.out
               have Y3:Hid (w3.heap[w2.heap.size]? = some (.cells #[.int .i64 k,.string ⟨p.toArray⟩,.slice a4 m4 c4,.string ⟨v.toArray⟩] 98 (0,0))):=(b3.block w2.heap.size S1L.out.2).trans Y2a.out
               have S3:Hid (w3.cell? ⟨wr.heap.size,0,none⟩=some (.string ⟨x.toArray⟩)∧w3.cell? ⟨wr.heap.size,1,none⟩=some (.string ⟨y.toArray⟩)):=⟨(two_cellsS X3.out).1,(two_cellsS X3.out).2.1⟩
               have B3:Hid (Below w.heap.size w w3):=B2a.out.trans (b3.mono B2a.out.size)
               have M3:Hid (w3.ownsMap Tryz.prog 105 hnR w.heap.size 0 (datL (ps.take 0))):=M2a.out.kept (grown_of_below b3 none) (by simp)
               clear b3' b3))
            all_goals
             have KK:=impl_keyOfHash x w3.drew HXL.out
             have Sd:Hid (w3.drew.cell? ⟨wr.heap.size,0,none⟩=some (.string ⟨x.toArray⟩)∧w3.drew.cell? ⟨wr.heap.size,1,none⟩=some (.string ⟨y.toArray⟩)∧w3.drew.cell? ⟨w2.heap.size,0,none⟩=some (.int .i64 k)∧w3.drew.cell? ⟨w2.heap.size,1,none⟩=some (.string ⟨p.toArray⟩)∧w3.drew.cell? ⟨w2.heap.size,2,none⟩=some (.slice a4 m4 c4)∧w3.drew.cell? ⟨w2.heap.size,3,none⟩=some (.string ⟨v.toArray⟩)):=⟨(two_cellsS X3.out).1,(two_cellsS X3.out).2.1,(quad_cells Y3.out).1,(quad_cells Y3.out).2.1,(quad_cells Y3.out).2.2.1,(quad_cells Y3.out).2.2.2.1⟩
             clear S1 S3 KS X2a Y2a M2a B2a
             go_wp2_with fail
             go_region_held3 (fun w'=>w'.cell? ⟨wr.heap.size,0,none⟩=some (.string ⟨x.toArray⟩)∧w'.cell? ⟨wr.heap.size,1,none⟩=some (.string ⟨y.toArray⟩)∧w'.cell? ⟨w2.heap.size,0,none⟩=some (.int .i64 k)∧w'.cell? ⟨w2.heap.size,1,none⟩=some (.string ⟨p.toArray⟩)∧w'.cell? ⟨w2.heap.size,2,none⟩=some (.slice a4 m4 c4)∧w'.cell? ⟨w2.heap.size,3,none⟩=some (.string ⟨v.toArray⟩))
              (first | with_reducible exact S5.out | with_reducible exact S4.out | with_reducible exact Sd.out)
              ((go_at_call 60
                with_reducible refine KK.mono ?_
                rintro e w4 ⟨rfl,b4'⟩
                have b4:Below w3.heap.size w3 w4:=⟨b4'.os,b4'.tape,b4'.output,b4'.size,b4'.block⟩
                have X4:Hid (w4.heap[wr.heap.size]? = some (.cells #[.string ⟨x.toArray⟩,.string ⟨y.toArray⟩] 78 (0,0))):=(b4.block wr.heap.size (lt_of_block X3.out)).trans X3.out
                have Y4:Hid (w4.heap[w2.heap.size]? = some (.cells #[.int .i64 k,.string ⟨p.toArray⟩,.slice a4 m4 c4,.string ⟨v.toArray⟩] 98 (0,0))):=(b4.block w2.heap.size (lt_of_block Y3.out)).trans Y3.out
                have S4:Hid (w4.cell? ⟨wr.heap.size,0,none⟩=some (.string ⟨x.toArray⟩)∧w4.cell? ⟨wr.heap.size,1,none⟩=some (.string ⟨y.toArray⟩)∧w4.cell? ⟨w2.heap.size,0,none⟩=some (.int .i64 k)∧w4.cell? ⟨w2.heap.size,1,none⟩=some (.string ⟨p.toArray⟩)∧w4.cell? ⟨w2.heap.size,2,none⟩=some (.slice a4 m4 c4)∧w4.cell? ⟨w2.heap.size,3,none⟩=some (.string ⟨v.toArray⟩)):=⟨(two_cellsS X4.out).1,(two_cellsS X4.out).2.1,(quad_cells Y4.out).1,(quad_cells Y4.out).2.1,(quad_cells Y4.out).2.2.1,(quad_cells Y4.out).2.2.2.1⟩
                have B4:Hid (Below w.heap.size w w4):=B3.out.trans (b4.mono B3.out.size)
                have M4:=M3.out.kept (grown_of_below b4 none) (by simp)
                obtain⟨w5,hrun5,hm5,hg5⟩:=M4.update (t:=72) (e:=103) keyedH Tryz.underlying72 (by unfold maxLen;omega) (key_reads x HXL.out) (hnR_is y k ⟨p.toArray⟩ a4 m4 c4 ⟨v.toArray⟩)
                have B5:Hid (Below w.heap.size w w5):=B4.out.grown hg5 B4.out.size (fun q hq=>by simp at hq;omega)
                have M5:Hid (w5.ownsMap Tryz.prog 105 hnR w.heap.size (0+1) (datL (ps.take (0+1)))):=by rw[Hid,HDT.out];exact hm5
                have X5:=(hg5.block wr.heap.size (lt_of_block X4.out) (by simp;have:=HWL.out;omega)).trans X4.out
                have Y5:=(hg5.block w2.heap.size (lt_of_block Y4.out) (by simp;have:=HWL2.out;omega)).trans Y4.out
                have S5:Hid (w5.cell? ⟨wr.heap.size,0,none⟩=some (.string ⟨x.toArray⟩)∧w5.cell? ⟨wr.heap.size,1,none⟩=some (.string ⟨y.toArray⟩)∧w5.cell? ⟨w2.heap.size,0,none⟩=some (.int .i64 k)∧w5.cell? ⟨w2.heap.size,1,none⟩=some (.string ⟨p.toArray⟩)∧w5.cell? ⟨w2.heap.size,2,none⟩=some (.slice a4 m4 c4)∧w5.cell? ⟨w2.heap.size,3,none⟩=some (.string ⟨v.toArray⟩)):=⟨(two_cellsS X5).1,(two_cellsS X5).2.1,(quad_cells Y5).1,(quad_cells Y5).2.1,(quad_cells Y5).2.2.1,(quad_cells Y5).2.2.2.1⟩
                clear b4' b4 hm5 hg5 M4 X5 Y5))
             all_goals
              go_wp2
              go_roundw
              case rel=>exact⟨0+1,by omega,by go_num,HN.out HTR.out,M5.out,B5.out⟩
              case measure=>simp[intOf];omega
          · have heb:(x == su)=false:=by rw[beq_eq_false_iff_ne];exact he
            have HR:Hid (r=false):=HB.out (by rw[HO2.out,←HSU.out];have h:(su == x)=false:=(by rw[beq_eq_false_iff_ne];exact fun e=>he e.symm);rw[h];simp)
            clear s0 s1 n0 n1 n2 n3 HB HN HO2
            go_wp2_with fail
            go_region_held3 (fun w'=>w'.cell? ⟨wr.heap.size,0,none⟩=some (.string ⟨x.toArray⟩)∧w'.cell? ⟨wr.heap.size,1,none⟩=some (.string ⟨y.toArray⟩))
             (first | with_reducible exact S3.out | with_reducible exact S1.out)
             ((go_at_call 59
               with_reducible refine KS.mono ?_
               rintro e w3 ⟨rfl,b3'⟩
               have b3:Below (w2.alloc (.cells #[.int .i64 k,.string ⟨p.toArray⟩,.slice a4 m4 c4,.string ⟨v.toArray⟩] 98)).heap.size (w2.alloc (.cells #[.int .i64 k,.string ⟨p.toArray⟩,.slice a4 m4 c4,.string ⟨v.toArray⟩] 98)) w3:=⟨b3'.os,b3'.tape,b3'.output,b3'.size,b3'.block⟩
               have X3:Hid (w3.heap[wr.heap.size]? = some (.cells #[.string ⟨x.toArray⟩,.string ⟨y.toArray⟩] 78 (0,0))):=(b3.block wr.heap.size S1L.out.1).trans X2a.out
               have S3:Hid (w3.cell? ⟨wr.heap.size,0,none⟩=some (.string ⟨x.toArray⟩)∧w3.cell? ⟨wr.heap.size,1,none⟩=some (.string ⟨y.toArray⟩)):=⟨(two_cellsS X3.out).1,(two_cellsS X3.out).2.1⟩
               have B3:Hid (Below w.heap.size w w3):=B2a.out.trans (b3.mono B2a.out.size)
               clear b3' b3))
            all_goals
             go_wp2
             go_ret2
             rw[HR.out]
             exact⟨rfl,B3.out⟩
      · obtain ⟨i1, hi1⟩ : ∃ i1, i1 = j - 1 := ⟨_, rfl⟩
        have d1:=c3 (by omega)
        rw[←hi1] at d1 HO2
        have hz':(0:Int)<(j:Int):=by omega
        have hz'':0<j:=by omega
        have hzb:decide ((0:Int)<(j:Int))=true:=by simp;omega
        have hzi:IntKind.i64.wrap ((j:Int) - 1)=(i1:Int):=by rw[i64_wrap_small _ (by omega) (by omega)];omega
        have hzt:((i1:Int)).toNat=i1:=by omega
        have hi2:(j:Int) - 1=(i1:Int):=by omega
        have hi0:(0:Int)≤(i1:Int):=by omega
        have hi3:(i1:Int)<(ps.length:Int):=by omega
        obtain⟨z,hz2⟩:∃ z,z=keyAt ps i1:=⟨_,rfl⟩
        rw[←hz2] at d1 HO2
        have d1a:(wr.alloc (.cells #[.string ⟨x.toArray⟩,.string ⟨y.toArray⟩] 78)).cell? ⟨b,off+i1*2,none⟩=some (.string ⟨z.toArray⟩):=by rw[World.cell?_alloc_lt _ _ _ (World.block_lt_of_cell? wr _ d1)];exact d1
        clear c3 hi1 hz2
        cases q4:Op.bytesLess z x with
        | false =>
          have q4':Op.bytesLess (⟨z.toArray⟩:ByteArray).toList (⟨x.toArray⟩:ByteArray).toList=false:=by rw[ba_toList,ba_toList];exact q4
          have HR:Hid (r=false):=HB.out (by rw[HO2.out,q4];simp[hz])
          have Bn:Hid (∀ q,Below w.heap.size w ((wr.alloc (.cells #[.string ⟨x.toArray⟩,.string ⟨y.toArray⟩] 78)).drewN q)):=fun q=>below_dr Bs.out
          clear HO2
          go_wp2
          go_quiet (fail)
          go_wp2
          go_ret2
          rw[HR.out]
          exact⟨rfl,Bn.out _⟩
        | true =>
          have q4':Op.bytesLess (⟨z.toArray⟩:ByteArray).toList (⟨x.toArray⟩:ByteArray).toList=true:=by rw[ba_toList,ba_toList];exact q4
          have HQ4:Hid (Op.bytesLess z x=true):=q4
          go_wp2
          go_quiet (fail)
          obtain⟨ww,hww⟩:∃ ww,ww=(wr.alloc (.cells #[.string ⟨x.toArray⟩,.string ⟨y.toArray⟩] 78)).drewN nq:=⟨_,rfl⟩
          have B1:Hid (Below w.heap.size w ww):=by rw[Hid,hww];exact below_dr Bs.out
          have X1:Hid (ww.heap[wr.heap.size]? = some (.cells #[.string ⟨x.toArray⟩,.string ⟨y.toArray⟩] 78 (0,0))):=by rw[Hid,hww];exact Xs.out
          have HOM:Hid (ww.ownsMap Tryz.prog 105 hnR w.heap.size j (datL (ps.take j))):=by rw[Hid,hww];exact Ms.out
          have HW1:Hid ((wr.alloc (.cells #[.string ⟨x.toArray⟩,.string ⟨y.toArray⟩] 78)).drewN nq=ww):=hww.symm
          obtain⟨s0,s1,sf⟩:=two_cellsS X1.out
          rw[HW1.out]
          clear sf hww HW1 c1 c2 d1 d1a Bs Xs Ms
          have HPRE:Hid ((decide (j=0) || Op.bytesLess z x)=true):=by rw[Hid,HQ4.out];simp
          clear q4 q4'
          go_wp2_with fail
          clear s0 s1
          refine (HKR.out _).mono ?_
          rintro e w2 ⟨a4,m4,c4,rfl,o4,b2⟩
          have B2:Hid (Below w.heap.size w w2):=B1.out.trans (b2.mono B1.out.size)
          have X2:Hid (w2.heap[wr.heap.size]? = some (.cells #[.string ⟨x.toArray⟩,.string ⟨y.toArray⟩] 78 (0,0))):=(b2.block wr.heap.size (lt_of_block X1.out)).trans X1.out
          have HWL2:Hid (w.heap.size<w2.heap.size):=Nat.lt_of_lt_of_le (Nat.lt_trans HWL.out (lt_of_block X1.out)) b2.size
          have M2:Hid (w2.ownsMap Tryz.prog 105 hnR w.heap.size j (datL (ps.take j))):=HOM.out.kept (grown_of_below b2 none) (by simp)
          obtain⟨nd,hnd⟩:∃ nd,nd=(readNode y).getD zeroN:=⟨_,rfl⟩
          rw[←hnd]
          obtain⟨k,p,ls,v⟩:=nd
          simp only
          have P2:Hid (Below w2.heap.size w2 (w2.alloc (.cells #[.int .i64 k,.string ⟨p.toArray⟩,.slice a4 m4 c4,.string ⟨v.toArray⟩] 98))):=(Below.refl _ _).alloc (Nat.le_refl _) _
          have B2a:Hid (Below w.heap.size w (w2.alloc (.cells #[.int .i64 k,.string ⟨p.toArray⟩,.slice a4 m4 c4,.string ⟨v.toArray⟩] 98))):=B2.out.trans (P2.out.mono B2.out.size)
          have X2a:Hid ((w2.alloc (.cells #[.int .i64 k,.string ⟨p.toArray⟩,.slice a4 m4 c4,.string ⟨v.toArray⟩] 98)).heap[wr.heap.size]? = some (.cells #[.string ⟨x.toArray⟩,.string ⟨y.toArray⟩] 78 (0,0))):=(P2.out.block wr.heap.size (lt_of_block X2.out)).trans X2.out
          have Y2a:Hid ((w2.alloc (.cells #[.int .i64 k,.string ⟨p.toArray⟩,.slice a4 m4 c4,.string ⟨v.toArray⟩] 98)).heap[w2.heap.size]? = some (.cells #[.int .i64 k,.string ⟨p.toArray⟩,.slice a4 m4 c4,.string ⟨v.toArray⟩] 98 (0,0))):=heap_alloc_new w2 _
          have M2a:Hid ((w2.alloc (.cells #[.int .i64 k,.string ⟨p.toArray⟩,.slice a4 m4 c4,.string ⟨v.toArray⟩] 98)).ownsMap Tryz.prog 105 hnR w.heap.size j (datL (ps.take j))):=M2.out.alloc _
          obtain⟨ok,hok⟩:∃ ok,ok=(readNode y).isSome:=⟨_,rfl⟩
          rw[←hok]
          have HOK:Hid (ok=(readNode y).isSome):=hok
          clear o4 b2 hnd hok X2 M2 B2 P2
          obtain⟨s0,s1,sf⟩:=two_cellsS X2a.out
          obtain⟨n0,n1,n2,n3,nf⟩:=quad_cells Y2a.out
          clear sf nf
          cases ok with
          | false =>
            have HR:Hid (r=false):=HB.out (by rw[HO2.out,←HOK.out];simp)
            have B2n:Hid (∀ q,Below w.heap.size w ((w2.alloc (.cells #[.int .i64 k,.string ⟨p.toArray⟩,.slice a4 m4 c4,.string ⟨v.toArray⟩] 98)).drewN q)):=fun q=>below_dr B2a.out
            clear HB HN HO2
            go_wp2
            go_quiet (fail)
            go_wp2
            go_ret2
            rw[HR.out]
            exact⟨rfl,B2n.out _⟩
          | true =>
            have S1:Hid ((w2.alloc (.cells #[.int .i64 k,.string ⟨p.toArray⟩,.slice a4 m4 c4,.string ⟨v.toArray⟩] 98)).drew.cell? ⟨wr.heap.size,0,none⟩=some (.string ⟨x.toArray⟩)∧(w2.alloc (.cells #[.int .i64 k,.string ⟨p.toArray⟩,.slice a4 m4 c4,.string ⟨v.toArray⟩] 98)).drew.cell? ⟨wr.heap.size,1,none⟩=some (.string ⟨y.toArray⟩)):=⟨s0,s1⟩
            have S1L:Hid (wr.heap.size<(w2.alloc (.cells #[.int .i64 k,.string ⟨p.toArray⟩,.slice a4 m4 c4,.string ⟨v.toArray⟩] 98)).heap.size∧w2.heap.size<(w2.alloc (.cells #[.int .i64 k,.string ⟨p.toArray⟩,.slice a4 m4 c4,.string ⟨v.toArray⟩] 98)).heap.size):=⟨lt_of_block X2a.out,lt_of_block Y2a.out⟩
            have TT:Hid (Tab (w2.alloc (.cells #[.int .i64 k,.string ⟨p.toArray⟩,.slice a4 m4 c4,.string ⟨v.toArray⟩] 98)).drew):=(fun h=>(⟨h.1,h.2⟩:Tab (w2.alloc (.cells #[.int .i64 k,.string ⟨p.toArray⟩,.slice a4 m4 c4,.string ⟨v.toArray⟩] 98)).drew)) (HT.out.later B2a.out)
            have KS:=impl_sum y (w2.alloc (.cells #[.int .i64 k,.string ⟨p.toArray⟩,.slice a4 m4 c4,.string ⟨v.toArray⟩] 98)).drew hyl TT.out
            obtain⟨su,hsu⟩:∃ su,su=sumL y:=⟨_,rfl⟩
            have HSU:Hid (su=sumL y):=hsu
            rw[←hsu] at KS
            clear hsu TT
            by_cases he:x=su
            · have heb:(x == su)=true:=by rw[beq_iff_eq];exact he
              have HTR:Hid (stOk ps j=true):=by rw[Hid,HO2.out,←HOK.out,←HSU.out,←he,HPRE.out];simp
              have HXL:Hid (x.length=32):=by rw[Hid,he,HSU.out];exact sumL_len y
              have hxx:(⟨x.toArray⟩:ByteArray)=⟨su.toArray⟩:=by rw[he]
              clear s0 s1 n0 n1 n2 n3
              subst he
              go_wp2_with fail
              go_region_held3 (fun w'=>w'.cell? ⟨wr.heap.size,0,none⟩=some (.string ⟨x.toArray⟩)∧w'.cell? ⟨wr.heap.size,1,none⟩=some (.string ⟨y.toArray⟩))
               (first | with_reducible exact S3.out | with_reducible exact S1.out)
               ((go_at_call 59
                 with_reducible refine KS.mono ?_
                 rintro e w3 ⟨rfl,b3'⟩
                 have b3:Below (w2.alloc (.cells #[.int .i64 k,.string ⟨p.toArray⟩,.slice a4 m4 c4,.string ⟨v.toArray⟩] 98)).heap.size (w2.alloc (.cells #[.int .i64 k,.string ⟨p.toArray⟩,.slice a4 m4 c4,.string ⟨v.toArray⟩] 98)) w3:=⟨b3'.os,b3'.tape,b3'.output,b3'.size,b3'.block⟩
                 have X3:Hid (w3.heap[wr.heap.size]? = some (.cells #[.string ⟨x.toArray⟩,.string ⟨y.toArray⟩] 78 (0,0))):=(b3.block wr.heap.size S1L.out.1).trans X2a.out
                 have Y3:Hid (w3.heap[w2.heap.size]? = some (.cells #[.int .i64 k,.string ⟨p.toArray⟩,.slice a4 m4 c4,.string ⟨v.toArray⟩] 98 (0,0))):=(b3.block w2.heap.size S1L.out.2).trans Y2a.out
                 have S3:Hid (w3.cell? ⟨wr.heap.size,0,none⟩=some (.string ⟨x.toArray⟩)∧w3.cell? ⟨wr.heap.size,1,none⟩=some (.string ⟨y.toArray⟩)):=⟨(two_cellsS X3.out).1,(two_cellsS X3.out).2.1⟩
                 have B3:Hid (Below w.heap.size w w3):=B2a.out.trans (b3.mono B2a.out.size)
                 have M3:Hid (w3.ownsMap Tryz.prog 105 hnR w.heap.size j (datL (ps.take j))):=M2a.out.kept (grown_of_below b3 none) (by simp)
                 clear b3' b3))
              all_goals
               have KK:=impl_keyOfHash x w3.drew HXL.out
               have Sd:Hid (w3.drew.cell? ⟨wr.heap.size,0,none⟩=some (.string ⟨x.toArray⟩)∧w3.drew.cell? ⟨wr.heap.size,1,none⟩=some (.string ⟨y.toArray⟩)∧w3.drew.cell? ⟨w2.heap.size,0,none⟩=some (.int .i64 k)∧w3.drew.cell? ⟨w2.heap.size,1,none⟩=some (.string ⟨p.toArray⟩)∧w3.drew.cell? ⟨w2.heap.size,2,none⟩=some (.slice a4 m4 c4)∧w3.drew.cell? ⟨w2.heap.size,3,none⟩=some (.string ⟨v.toArray⟩)):=⟨(two_cellsS X3.out).1,(two_cellsS X3.out).2.1,(quad_cells Y3.out).1,(quad_cells Y3.out).2.1,(quad_cells Y3.out).2.2.1,(quad_cells Y3.out).2.2.2.1⟩
               clear S1 S3 KS X2a Y2a M2a B2a
               go_wp2_with fail
               go_region_held3 (fun w'=>w'.cell? ⟨wr.heap.size,0,none⟩=some (.string ⟨x.toArray⟩)∧w'.cell? ⟨wr.heap.size,1,none⟩=some (.string ⟨y.toArray⟩)∧w'.cell? ⟨w2.heap.size,0,none⟩=some (.int .i64 k)∧w'.cell? ⟨w2.heap.size,1,none⟩=some (.string ⟨p.toArray⟩)∧w'.cell? ⟨w2.heap.size,2,none⟩=some (.slice a4 m4 c4)∧w'.cell? ⟨w2.heap.size,3,none⟩=some (.string ⟨v.toArray⟩))
                (first | with_reducible exact S5.out | with_reducible exact S4.out | with_reducible exact Sd.out)
                ((go_at_call 60
                  with_reducible refine KK.mono ?_
                  rintro e w4 ⟨rfl,b4'⟩
                  have b4:Below w3.heap.size w3 w4:=⟨b4'.os,b4'.tape,b4'.output,b4'.size,b4'.block⟩
                  have X4:Hid (w4.heap[wr.heap.size]? = some (.cells #[.string ⟨x.toArray⟩,.string ⟨y.toArray⟩] 78 (0,0))):=(b4.block wr.heap.size (lt_of_block X3.out)).trans X3.out
                  have Y4:Hid (w4.heap[w2.heap.size]? = some (.cells #[.int .i64 k,.string ⟨p.toArray⟩,.slice a4 m4 c4,.string ⟨v.toArray⟩] 98 (0,0))):=(b4.block w2.heap.size (lt_of_block Y3.out)).trans Y3.out
                  have S4:Hid (w4.cell? ⟨wr.heap.size,0,none⟩=some (.string ⟨x.toArray⟩)∧w4.cell? ⟨wr.heap.size,1,none⟩=some (.string ⟨y.toArray⟩)∧w4.cell? ⟨w2.heap.size,0,none⟩=some (.int .i64 k)∧w4.cell? ⟨w2.heap.size,1,none⟩=some (.string ⟨p.toArray⟩)∧w4.cell? ⟨w2.heap.size,2,none⟩=some (.slice a4 m4 c4)∧w4.cell? ⟨w2.heap.size,3,none⟩=some (.string ⟨v.toArray⟩)):=⟨(two_cellsS X4.out).1,(two_cellsS X4.out).2.1,(quad_cells Y4.out).1,(quad_cells Y4.out).2.1,(quad_cells Y4.out).2.2.1,(quad_cells Y4.out).2.2.2.1⟩
                  have B4:Hid (Below w.heap.size w w4):=B3.out.trans (b4.mono B3.out.size)
                  have M4:=M3.out.kept (grown_of_below b4 none) (by simp)
                  obtain⟨w5,hrun5,hm5,hg5⟩:=M4.update (t:=72) (e:=103) keyedH Tryz.underlying72 (by unfold maxLen;omega) (key_reads x HXL.out) (hnR_is y k ⟨p.toArray⟩ a4 m4 c4 ⟨v.toArray⟩)
                  have B5:Hid (Below w.heap.size w w5):=B4.out.grown hg5 B4.out.size (fun q hq=>by simp at hq;omega)
                  have M5:Hid (w5.ownsMap Tryz.prog 105 hnR w.heap.size (j+1) (datL (ps.take (j+1)))):=by rw[Hid,HDT.out];exact hm5
                  have X5:=(hg5.block wr.heap.size (lt_of_block X4.out) (by simp;have:=HWL.out;omega)).trans X4.out
                  have Y5:=(hg5.block w2.heap.size (lt_of_block Y4.out) (by simp;have:=HWL2.out;omega)).trans Y4.out
                  have S5:Hid (w5.cell? ⟨wr.heap.size,0,none⟩=some (.string ⟨x.toArray⟩)∧w5.cell? ⟨wr.heap.size,1,none⟩=some (.string ⟨y.toArray⟩)∧w5.cell? ⟨w2.heap.size,0,none⟩=some (.int .i64 k)∧w5.cell? ⟨w2.heap.size,1,none⟩=some (.string ⟨p.toArray⟩)∧w5.cell? ⟨w2.heap.size,2,none⟩=some (.slice a4 m4 c4)∧w5.cell? ⟨w2.heap.size,3,none⟩=some (.string ⟨v.toArray⟩)):=⟨(two_cellsS X5).1,(two_cellsS X5).2.1,(quad_cells Y5).1,(quad_cells Y5).2.1,(quad_cells Y5).2.2.1,(quad_cells Y5).2.2.2.1⟩
                  clear b4' b4 hm5 hg5 M4 X5 Y5))
               all_goals
                go_wp2
                go_roundw
                case rel=>exact⟨j+1,by omega,by go_num,HN.out HTR.out,M5.out,B5.out⟩
                case measure=>simp[intOf];omega
            · have heb:(x == su)=false:=by rw[beq_eq_false_iff_ne];exact he
              have HR:Hid (r=false):=HB.out (by rw[HO2.out,←HSU.out];have h:(su == x)=false:=(by rw[beq_eq_false_iff_ne];exact fun e=>he e.symm);rw[h];simp)
              clear s0 s1 n0 n1 n2 n3 HB HN HO2
              go_wp2_with fail
              go_region_held3 (fun w'=>w'.cell? ⟨wr.heap.size,0,none⟩=some (.string ⟨x.toArray⟩)∧w'.cell? ⟨wr.heap.size,1,none⟩=some (.string ⟨y.toArray⟩))
               (first | with_reducible exact S3.out | with_reducible exact S1.out)
               ((go_at_call 59
                 with_reducible refine KS.mono ?_
                 rintro e w3 ⟨rfl,b3'⟩
                 have b3:Below (w2.alloc (.cells #[.int .i64 k,.string ⟨p.toArray⟩,.slice a4 m4 c4,.string ⟨v.toArray⟩] 98)).heap.size (w2.alloc (.cells #[.int .i64 k,.string ⟨p.toArray⟩,.slice a4 m4 c4,.string ⟨v.toArray⟩] 98)) w3:=⟨b3'.os,b3'.tape,b3'.output,b3'.size,b3'.block⟩
                 have X3:Hid (w3.heap[wr.heap.size]? = some (.cells #[.string ⟨x.toArray⟩,.string ⟨y.toArray⟩] 78 (0,0))):=(b3.block wr.heap.size S1L.out.1).trans X2a.out
                 have S3:Hid (w3.cell? ⟨wr.heap.size,0,none⟩=some (.string ⟨x.toArray⟩)∧w3.cell? ⟨wr.heap.size,1,none⟩=some (.string ⟨y.toArray⟩)):=⟨(two_cellsS X3.out).1,(two_cellsS X3.out).2.1⟩
                 have B3:Hid (Below w.heap.size w w3):=B2a.out.trans (b3.mono B2a.out.size)
                 clear b3' b3))
              all_goals
               go_wp2
               go_ret2
               rw[HR.out]
               exact⟨rfl,B3.out⟩
    · have hjl:j=ps.length:=by omega
      subst hjl
      have HR:Hid (r=true):=HALL.out (fun q h=>HA.out q h)
      rw[List.take_length] at hom
      have HOM:Hid (wr.ownsMap Tryz.prog 105 hnR w.heap.size ps.length (datL ps)):=hom
      clear hom HS hm2
      go_wp2
      go_ret2
      rw[HR.out]
      exact⟨w.heap.size,rfl,HOM.out,Nat.le_refl _,hbel⟩
 · have h400':¬ (ps.length:Int)≤400:=by omega
   have HB:Hid (storeOkL ps=false):=storeOk_big ps h400
   obtain⟨r,hr⟩:∃ r,r=storeOkL ps:=⟨_,rfl⟩
   rw[←hr] at HB ⊢
   clear hs hm hr
   go_enter Tryz.func39,Tryz.ntmps39
   go_wp2
   go_ret2
   rw[HB.out]
   exact⟨rfl,Below.refl _ _⟩
abbrev sq0 : Oper := { dst := some 24, op := Op.move (Operand.tmp 5), type := 4, pos := "l06_nodes.go:79", after := #[], guard := none }
abbrev sq1 : Oper := { dst := some 25, op := Op.unOp UnOp.not 4 (Operand.tmp 24), type := 4, pos := "l06_nodes.go:79", after := #[{ on := 0, ground := Ground.data }], guard := none }
abbrev sq2 : Oper := { dst := some 26, op := Op.move (Operand.tmp 25), type := 4, pos := "l06_nodes.go:79", after := #[{ on := 1, ground := Ground.data }], guard := none }
abbrev sq3 : Oper := { dst := some 27, op := Op.move (Operand.tmp 0), type := 39, pos := "l06_nodes.go:79", after := #[{ on := 2, ground := Ground.guard }], guard := some (2, false) }
abbrev sq4 : Oper := { dst := some 28, op := Op.move (Operand.tmp 3), type := 3, pos := "l06_nodes.go:79", after := #[{ on := 2, ground := Ground.guard }], guard := some (2, false) }
abbrev sq5 : Oper := { dst := some 29, op := Op.indexAddr 39 (Operand.tmp 27) (Operand.tmp 28), type := 0, pos := "l06_nodes.go:79", after := #[{ on := 3, ground := Ground.data }, { on := 4, ground := Ground.data }, { on := 2, ground := Ground.guard }], guard := some (2, false) }
abbrev sq6 : Oper := { dst := some 30, op := Op.fieldAddr 78 (Operand.tmp 29) 1, type := 0, pos := "l06_nodes.go:79", after := #[{ on := 5, ground := Ground.data }, { on := 2, ground := Ground.guard }], guard := some (2, false) }
abbrev sq7 : Oper := { dst := some 31, op := Op.load 9 (Operand.tmp 30), type := 9, pos := "l06_nodes.go:79", after := #[{ on := 6, ground := Ground.data }, { on := 2, ground := Ground.guard }], guard := some (2, false) }
abbrev sq8 : Oper := { dst := some 32, op := Op.call { callee := Callee.value (Operand.func 80), args := #[Operand.tmp 31], argTypes := #[9] }, type := 9, pos := "l06_nodes.go:79", after := #[{ on := 7, ground := Ground.data }, { on := 2, ground := Ground.chain }, { on := 2, ground := Ground.guard }], guard := some (2, false) }
abbrev sq9 : Oper := { dst := some 33, op := Op.move (Operand.tmp 0), type := 39, pos := "l06_nodes.go:79", after := #[{ on := 2, ground := Ground.guard }], guard := some (2, false) }
abbrev sq10 : Oper := { dst := some 34, op := Op.move (Operand.tmp 3), type := 3, pos := "l06_nodes.go:79", after := #[{ on := 2, ground := Ground.guard }], guard := some (2, false) }
abbrev sq11 : Oper := { dst := some 35, op := Op.indexAddr 39 (Operand.tmp 33) (Operand.tmp 34), type := 0, pos := "l06_nodes.go:79", after := #[{ on := 9, ground := Ground.data }, { on := 10, ground := Ground.data }, { on := 2, ground := Ground.guard }], guard := some (2, false) }
abbrev sq12 : Oper := { dst := some 36, op := Op.fieldAddr 78 (Operand.tmp 35) 0, type := 0, pos := "l06_nodes.go:79", after := #[{ on := 11, ground := Ground.data }, { on := 2, ground := Ground.guard }], guard := some (2, false) }
abbrev sq13 : Oper := { dst := some 37, op := Op.load 9 (Operand.tmp 36), type := 9, pos := "l06_nodes.go:79", after := #[{ on := 12, ground := Ground.data }, { on := 2, ground := Ground.guard }], guard := some (2, false) }
abbrev sq14 : Oper := { dst := some 38, op := Op.binOp BinOp.neq 9 (Operand.tmp 32) (Operand.tmp 37) 9, type := 4, pos := "l06_nodes.go:79", after := #[{ on := 8, ground := Ground.data }, { on := 13, ground := Ground.data }, { on := 2, ground := Ground.guard }], guard := some (2, false) }
abbrev sq15 : Oper := { dst := some 39, op := Op.pick (Operand.tmp 26) (Operand.const (Value.bool true)) (Operand.tmp 38), type := 4, pos := "l06_nodes.go:79", after := #[{ on := 2, ground := Ground.data }, { on := 14, ground := Ground.data }], guard := none }
abbrev sq16 : Oper := { dst := some 40, op := Op.move (Operand.tmp 39), type := 4, pos := "l06_nodes.go:79", after := #[{ on := 15, ground := Ground.data }, { on := 8, ground := Ground.chain }], guard := none }
abbrev sq17 : Oper := { dst := some 41, op := Op.move (Operand.tmp 3), type := 3, pos := "l06_nodes.go:79", after := #[{ on := 16, ground := Ground.guard }], guard := some (16, false) }
abbrev sq18 : Oper := { dst := some 42, op := Op.binOp BinOp.gtr 3 (Operand.tmp 41) (Operand.const (Value.int IntKind.i64 0)) 3, type := 4, pos := "l06_nodes.go:79", after := #[{ on := 17, ground := Ground.data }, { on := 16, ground := Ground.guard }], guard := some (16, false) }
abbrev sq19 : Oper := { dst := some 43, op := Op.move (Operand.tmp 42), type := 4, pos := "l06_nodes.go:79", after := #[{ on := 18, ground := Ground.data }, { on := 16, ground := Ground.chain }, { on := 16, ground := Ground.guard }], guard := some (16, false) }
abbrev sq20 : Oper := { dst := some 44, op := Op.move (Operand.tmp 0), type := 39, pos := "l06_nodes.go:79", after := #[{ on := 19, ground := Ground.guard }], guard := some (19, true) }
abbrev sq21 : Oper := { dst := some 45, op := Op.move (Operand.tmp 3), type := 3, pos := "l06_nodes.go:79", after := #[{ on := 19, ground := Ground.guard }], guard := some (19, true) }
abbrev sq22 : Oper := { dst := some 46, op := Op.binOp BinOp.sub 3 (Operand.tmp 45) (Operand.const (Value.int IntKind.i64 1)) 3, type := 3, pos := "l06_nodes.go:79", after := #[{ on := 21, ground := Ground.data }, { on := 19, ground := Ground.guard }], guard := some (19, true) }
abbrev sq23 : Oper := { dst := some 47, op := Op.indexAddr 39 (Operand.tmp 44) (Operand.tmp 46), type := 0, pos := "l06_nodes.go:79", after := #[{ on := 20, ground := Ground.data }, { on := 22, ground := Ground.data }, { on := 19, ground := Ground.guard }], guard := some (19, true) }
abbrev sq24 : Oper := { dst := some 48, op := Op.fieldAddr 78 (Operand.tmp 47) 0, type := 0, pos := "l06_nodes.go:79", after := #[{ on := 23, ground := Ground.data }, { on := 19, ground := Ground.guard }], guard := some (19, true) }
abbrev sq25 : Oper := { dst := some 49, op := Op.load 9 (Operand.tmp 48), type := 9, pos := "l06_nodes.go:79", after := #[{ on := 24, ground := Ground.data }, { on := 19, ground := Ground.guard }], guard := some (19, true) }
abbrev sq26 : Oper := { dst := some 50, op := Op.move (Operand.tmp 0), type := 39, pos := "l06_nodes.go:79", after := #[{ on := 19, ground := Ground.guard }], guard := some (19, true) }
abbrev sq27 : Oper := { dst := some 51, op := Op.move (Operand.tmp 3), type := 3, pos := "l06_nodes.go:79", after := #[{ on := 19, ground := Ground.guard }], guard := some (19, true) }
abbrev sq28 : Oper := { dst := some 52, op := Op.indexAddr 39 (Operand.tmp 50) (Operand.tmp 51), type := 0, pos := "l06_nodes.go:79", after := #[{ on := 26, ground := Ground.data }, { on := 27, ground := Ground.data }, { on := 19, ground := Ground.guard }], guard := some (19, true) }
abbrev sq29 : Oper := { dst := some 53, op := Op.fieldAddr 78 (Operand.tmp 52) 0, type := 0, pos := "l06_nodes.go:79", after := #[{ on := 28, ground := Ground.data }, { on := 19, ground := Ground.guard }], guard := some (19, true) }
abbrev sq30 : Oper := { dst := some 54, op := Op.load 9 (Operand.tmp 53), type := 9, pos := "l06_nodes.go:79", after := #[{ on := 29, ground := Ground.data }, { on := 19, ground := Ground.guard }], guard := some (19, true) }
abbrev sq31 : Oper := { dst := some 55, op := Op.binOp BinOp.geq 9 (Operand.tmp 49) (Operand.tmp 54) 9, type := 4, pos := "l06_nodes.go:79", after := #[{ on := 25, ground := Ground.data }, { on := 30, ground := Ground.data }, { on := 19, ground := Ground.guard }], guard := some (19, true) }
abbrev sq32 : Oper := { dst := some 56, op := Op.pick (Operand.tmp 43) (Operand.tmp 55) (Operand.const (Value.bool false)), type := 4, pos := "l06_nodes.go:79", after := #[{ on := 19, ground := Ground.data }, { on := 31, ground := Ground.data }, { on := 16, ground := Ground.guard }], guard := some (16, false) }
abbrev sq33 : Oper := { dst := some 57, op := Op.pick (Operand.tmp 40) (Operand.const (Value.bool true)) (Operand.tmp 56), type := 4, pos := "l06_nodes.go:79", after := #[{ on := 16, ground := Ground.data }, { on := 32, ground := Ground.data }], guard := none }
theorem tkq {P:Program} {ops:Array Oper} {Q:Exit→Act→World→Prop} {md:Region.Mode} {S:World→Prop} {i:Nat} {oi:Oper} {v:Value} {fuel:Nat} {listed:Array Bool} {a:Act} {w:World} (hi:ops[i]? = some oi) (hy:YieldsIf P ops S oi v a) (hS:S w)
 (h:wpAnyH P md ops Q S fuel (listed.setIfInBounds i true) (a.put oi.dst v) w) (hs:Region.noSelect ops=true:=by kernel_rfl) (hf:Region.free md ops listed i=true:=by kernel_rfl) (hr:(Region.ready md ops listed).contains i=true:=by kernel_rfl)
 (hQ:∀ c a w,Q (.panic c) (a.put oi.dst v) w→Q (.panic c) a w:=by exact fun _ _ _ h=>h):wpAnyH P md ops Q S (fuel+1) listed a w :=
 wpAnyH_take hi hs hf hr hQ hy hS h
end Go.Proofs.YtahocpjieffbaaaGreatDoor
