/-
 Texts that are laid as one: KeyH, MathSt, HeldN, StOk.
-/
import Derived.Lib.BufferWrite
import Derived.WideKeyArr2
import Derived.Test.YtppljdnbhoeeoaaGreatDoorRegH
import Derived.Test.YtppljdnbhoeeoaaGreatDoorSReadM
namespace Go.Proofs.YtppljdnbhoeeoaaGreatDoor
open Go.RowKit
set_option linter.unusedVariables false
set_option maxHeartbeats 2000000
set_option maxRecDepth 100000
theorem zrq (w:World) (g k:Nat) (cs:Array Value) (h:k≠g):(w.setRow g cs).heap[k]? = w.heap[k]? := by
 show (w.heap.modify g _)[k]? = _
 rw[Array.getElem?_modify,if_neg (fun e=>h e.symm)]
theorem below_setRow {B g:Nat} {w0 w:World} (h:Below B w0 w) (hg:B≤g) (cs:Array Value):Below B w0 (w.setRow g cs) :=
 ⟨h.os,h.tape,h.output,by simpa [World.setRow] using h.size,fun k hk=>(zrq w g k cs (by omega)).trans (h.block k hk)⟩
theorem za3d (l:List UInt8) (zs:Array Value) (hz:zs.size=32) (hl:l.length=32):(zs.toList.take 0 ++ Lib.byteCells (⟨l.toArray⟩:ByteArray).data.toList ++ zs.toList.drop (0+(⟨l.toArray⟩:ByteArray).size)).toArray=(ze l).toArray:=by
 have h1:zs.toList.drop (0+(⟨l.toArray⟩:ByteArray).size)=[]:=List.drop_eq_nil_of_le (by simp[ByteArray.size];omega)
 rw[h1]
 simp[Lib.byteCells,ze]
theorem zlr (l:List UInt8) (w:World) (hl:l.length=32) :
 Calls Tryz.prog 99 #[.string ⟨l.toArray⟩] w fun e w'=>e=.returned (.agg (ze l).toArray)∧Below w.heap.size w w':=by
 obtain⟨zs,hzs⟩:∃ zs:Array Value,zs=#[.int .u8 0,.int .u8 0,.int .u8 0,.int .u8 0,.int .u8 0,.int .u8 0,.int .u8 0,.int .u8 0,.int .u8 0,.int .u8 0,.int .u8 0,.int .u8 0,.int .u8 0,.int .u8 0,.int .u8 0,.int .u8 0,.int .u8 0,.int .u8 0,.int .u8 0,.int .u8 0,.int .u8 0,.int .u8 0,.int .u8 0,.int .u8 0,.int .u8 0,.int .u8 0,.int .u8 0,.int .u8 0,.int .u8 0,.int .u8 0,.int .u8 0,.int .u8 0]:=⟨_,rfl⟩
 have hz:zs.size=32:=by rw[hzs];rfl
 have HZS:Hid (#[.int .u8 0,.int .u8 0,.int .u8 0,.int .u8 0,.int .u8 0,.int .u8 0,.int .u8 0,.int .u8 0,.int .u8 0,.int .u8 0,.int .u8 0,.int .u8 0,.int .u8 0,.int .u8 0,.int .u8 0,.int .u8 0,.int .u8 0,.int .u8 0,.int .u8 0,.int .u8 0,.int .u8 0,.int .u8 0,.int .u8 0,.int .u8 0,.int .u8 0,.int .u8 0,.int .u8 0,.int .u8 0,.int .u8 0,.int .u8 0,.int .u8 0,.int .u8 0]=zs):=hzs.symm
 have B0:Hid (Below w.heap.size w ((w.alloc (.cells zs 161)).alloc (.cells zs 161))):=((Below.refl _ _).alloc (Nat.le_refl _) _).alloc (by simp) _
 have X0:Hid (((w.alloc (.cells zs 161)).alloc (.cells zs 161)).heap[w.heap.size]? = some (.cells zs 161 (0,0))):=(Below.heap_alloc _ _ _ (by simp)).trans (heap_alloc_new w _)
 have Y0:Hid (((w.alloc (.cells zs 161)).alloc (.cells zs 161)).heap[w.heap.size+1]? = some (.cells zs 161 (0,0))):=by
  have:=heap_alloc_new (w.alloc (.cells zs 161)) (.cells zs 161)
  rw[show (w.alloc (.cells zs 161)).heap.size=w.heap.size+1 by simp] at this
  exact this
 obtain⟨wa,hwa⟩:∃ wa,wa=(w.alloc (.cells zs 161)).alloc (.cells zs 161):=⟨_,rfl⟩
 rw[←hwa] at B0 X0 Y0
 have HWA:Hid ((w.alloc (.cells zs 161)).alloc (.cells zs 161)=wa):=hwa.symm
 have hcs:(ze l).toArray.size=32:=by simp[ze,hl]
 have h1:(ze l).toArray.all (·.oneCell')=true:=by
  rw[Array.all_eq_true];intro i hi;simp[ze,Value.oneCell']
 have HRUN:Hid (∀ ty,(Builtin.copy_ #[150,9] ty #[.slice (some ⟨w.heap.size+1,0,none⟩) 32 32,.string ⟨l.toArray⟩]).run Tryz.prog wa=.ok (goInt 32) (wa.setRow (w.heap.size+1) (ze l).toArray)):=fun ty=>by
  have:=Lib.run_copy_row_string (P:=Tryz.prog) wa 150 9 ty 5 (w.heap.size+1) 0 32 32 ⟨l.toArray⟩ zs 161 Tryz.underlying150 (by kernel_rfl) Y0.out (by simp[ByteArray.size,hl]) (by simp[ByteArray.size,hl,hz])
  rw[za3d l zs hz hl,show (⟨l.toArray⟩:ByteArray).size=32 by simp[ByteArray.size,hl]] at this
  exact this
 have Y1:Hid ((wa.setRow (w.heap.size+1) (ze l).toArray).heap[w.heap.size+1]? = some (.cells (ze l).toArray 161 (0,0))):=setRow_heap _ _ _ _ _ _ Y0.out
 have X1:Hid ((wa.setRow (w.heap.size+1) (ze l).toArray).heap[w.heap.size]? = some (.cells zs 161 (0,0))):=(zrq _ _ _ _ (by omega)).trans X0.out
 have B1:Hid (Below w.heap.size w (wa.setRow (w.heap.size+1) (ze l).toArray)):=below_setRow B0.out (by omega) _
 obtain⟨cs,hcd⟩:∃ cs,cs=(ze l).toArray:=⟨_,rfl⟩
 rw[←hcd] at hcs h1 HRUN Y1 X1 B1 ⊢
 have X2:Hid (((wa.setRow (w.heap.size+1) cs).setRow w.heap.size cs).heap[w.heap.size]? = some (.cells cs 161 (0,0))):=setRow_heap _ _ _ _ _ _ X1.out
 have B2:Hid (Below w.heap.size w ((wa.setRow (w.heap.size+1) cs).setRow w.heap.size cs)):=below_setRow B1.out (Nat.le_refl _) _
 have HI:Hid ((Tryz.prog.info? 161).map (·.size)=some cs.size):=by rw[Hid,hcs];kernel_rfl
 clear hwa hcd hzs
 go_enter Tryz.func99,Tryz.ntmps99
 go_wp2
 rw[HZS.out,HWA.out,HRUN.out 3]
 go_wp2_with (first
  | (refine wpList_load_row rfl 161 _ rfl (w.heap.size+1) rfl 161 cs (0,0) _ Y1.out Tryz.underlying161 rfl HI.out ?_)
  | (refine wpList_store_row rfl 161 _ _ rfl w.heap.size cs rfl rfl 161 zs X1.out HI.out (by rw[hz,hcs]) h1 ?_))
 exact bodyPost_ret (v:=.agg cs) (results_cell_row rfl _ _ w.heap.size 161 _ (0,0) _ rfl X2.out Tryz.underlying161 rfl HI.out) rfl ⟨rfl,B2.out⟩
theorem za3e (b:UInt8):(Lit.int .u8 (b.toNat:Int)).wf=true:=by
 have hb:=b.toNat_lt
 simp[Lit.wf,IntKind.min,IntKind.max,IntKind.signed,IntKind.bits]
 omega
def zaw (l:List UInt8):Lit:=.string (keyBytes ((List.range 32).map fun i=>[Lit.int .u8 ((l.getD i 0).toNat:Int)]).flatten)
theorem zrr {α β:Type} (f:α→Option β) (g:α→β):∀ xs:List α,(∀ i∈xs,f i=some (g i))→xs.mapM f=some (xs.map g)
 | [],_=>rfl
 | x :: xs, h => by
   rw[List.mapM_cons,h x (by simp),zrr f g xs (fun i hi=>h i (by simp[hi]))]
   rfl
theorem arr32:WideMaps.ArrKey Tryz.prog 161 5 32:=⟨Tryz.underlying161,by kernel_rfl,by kernel_rfl,by kernel_rfl⟩
theorem zrs:Maps.Keyed Tryz.prog 161:=Maps.Keyed.of_law arr32.law
theorem zim (l:List UInt8) (hl:l.length=32):keyOf Tryz.prog 161 (.agg (ze l).toArray)=some (zaw l):=by
 obtain⟨m,hm⟩:∃ m,Tryz.prog.types.size=m+2:=⟨Tryz.prog.types.size - 2,by kernel_rfl⟩
 have hkt:=arr32.keyType ⟨m+1,hm⟩
 have hcs:(ze l).length=32:=by simp[ze,hl]
 unfold keyOf
 simp only[arr32.hu]
 rw[if_pos (by simp[hkt,Value.formed,arr32.hu,arr32.size,hcs]),hm]
 unfold Program.keyLits
 simp only[arr32.hu,Value.cells]
 rw[if_pos (by rw[arr32.size];simpa using hcs)]
 rw[zrr _ (fun i=>[Lit.int .u8 ((l.getD i 0).toNat:Int)]) _ (fun i hi=>?_)]
 · rfl
 · have hi':i<32:=List.mem_range.1 hi
   have hb:=(l.getD i 0).toNat_lt
   have hg:((ze l).drop (i*1)).take 1=[.int .u8 ((l.getD i 0).toNat:Int)]:=by
    rw[Nat.mul_one,List.drop_eq_getElem_cons (by omega)]
    simp[ze,List.getD,show i<l.length by omega]
   rw[arr32.one]
   simp only[hg]
   unfold Program.keyLits
   rw[Tryz.underlying5]
   simp only
   rw[if_pos ⟨trivial,za3e _⟩]
def stOk (ps:List za) (j:Nat):Bool:=(za1 (zw ps j)).isSome && (sumL (zw ps j) == keyAt ps j) && (decide (j=0) || Op.bytesLess (keyAt ps (j - 1)) (keyAt ps j))
def zaa (ps:List za):Bool:=decide (ps.length≤400) && (List.range ps.length).all (stOk ps)
theorem zrt (ps:List za) (h:¬ ps.length≤400):zaa ps=false:=by simp[zaa,h]
theorem zru (ps:List za) (j:Nat) (h:j<ps.length) (hb:stOk ps j=false):zaa ps=false:=by
 have:(List.range ps.length).all (stOk ps)=false:=by
  rw[List.all_eq_false]
  exact⟨j,List.mem_range.2 h,by simp[hb]⟩
 simp[zaa,this]
theorem zrv (ps:List za) (h400:ps.length≤400) (h:∀ j,j<ps.length→stOk ps j=true):zaa ps=true:=by
 simp only[zaa,Bool.and_eq_true,decide_eq_true_eq,List.all_eq_true,List.mem_range]
 exact⟨h400,h⟩
theorem zb1 {w:World} {b:Nat} {u v:Value} {t:TypeId} (h:w.heap[b]? = some (.cells #[u,v] t (0,0))) :
 w.cell? ⟨b,0,none⟩=some u∧w.cell? ⟨b,1,none⟩=some v∧∀ j,w.frozen? ⟨b,j,none⟩=false:=by
 refine⟨?_,?_,fun j=>frozen_of_row w b j _ t h⟩ <;> simp only[World.cell?,h] <;> rfl
abbrev sq8 : Oper := { dst := some 32, op := Op.call { callee := Callee.value (Operand.func 92), args := #[Operand.tmp 31], argTypes := #[9] }, type := 9, pos := "l06_nodes.go:79", after := #[{ on := 7, ground := Ground.data }, { on := 2, ground := Ground.chain }, { on := 2, ground := Ground.guard }], guard := some (2, false) }
theorem za3f (a : Option Addr) (cap : Nat) (ps : List za) (w : World) (hl : ps.length ≤ 1048576) (hm : ∀ p ∈ ps, p.1.length ≤ 1048576 ∧ p.2.length ≤ 1048576) (hs : IsPairs w a ps) :
 Calls Tryz.prog 70 #[.slice a ps.length cap] w fun e w'=>e=.returned (.bool (zaa ps))∧Below w.heap.size w w':=by
 by_cases h400:ps.length≤400
 · have h400' : (ps.length : Int) ≤ 400 := by omega
   have hm2:∀ j,j<ps.length→(keyAt ps j).length≤1048576∧(zw ps j).length≤1048576:=fun j h=>by rw[zad ps j h,zbo ps j h];exact hm _ (List.getElem_mem _)
   have HS:Hid (∀ W,Below w.heap.size w W→∀ j,j<ps.length→∃ b off,a=some ⟨b,off,none⟩∧W.cell? ⟨b,off+j*2,none⟩=some (.string ⟨(keyAt ps j).toArray⟩)∧W.cell? ⟨b,off+j*2+1,none⟩=some (.string ⟨(zw ps j).toArray⟩)∧(0<j→W.cell? ⟨b,off+(j - 1)*2,none⟩=some (.string ⟨(keyAt ps (j - 1)).toArray⟩))):=fun W hW j h=>by
    rcases hs.later hW with h' | ⟨b,off,h',hc⟩
    · rw[h'] at h;simp at h
    · refine⟨b,off,h',?_,?_,fun h0=>?_⟩
      · rw[zad ps j h];exact (hc j h).1
      · rw[zbo ps j h];exact (hc j h).2
      · rw[zad ps (j - 1) (by omega)];exact (hc (j - 1) (by omega)).1
   obtain⟨r,hr⟩:∃ r,r=zaa ps:=⟨_,rfl⟩
   have HBAD:Hid (∀ j,j<ps.length→stOk ps j=false→r=false):=fun j h hb=>by rw[hr];exact zru ps j h hb
   have HALL:Hid ((∀ j,j<ps.length→stOk ps j=true)→r=true):=fun h=>by rw[hr];exact zrv ps h400 h
   rw[←hr]
   clear hm hs hr
   go_enter Tryz.func70,Tryz.ntmps70
   go_wp2
   go_loopw [3,4,5] (fun i _ _ wr=>∃ j:Nat,j≤ps.length∧i=.int .i64 (j:Int)∧Hid (∀ q,q<j→stOk ps q=true)∧Below w.heap.size w wr) (fun i _ _ _=>ps.length - (intOf i).toNat)
   case atStart=>exact⟨0,Nat.zero_le _,rfl,fun q hq=>by omega,Below.refl _ _⟩
   case round =>
    obtain⟨j,hj,rfl,HA,hbel⟩:=hrel
    have hsz:=hbel.size
    by_cases hlt:j<ps.length
    · obtain ⟨b, off, ha, c1, c2, c3⟩ := HS.out wr hbel j hlt
      subst ha
      have m1:=hm2 j hlt
      have hj0:(0:Int)≤(j:Int):=by omega
      have hj1:(j:Int)<(ps.length:Int):=by omega
      have HB:Hid (stOk ps j=false→r=false):=HBAD.out j hlt
      have HN:Hid (stOk ps j=true→∀ q,q<j+1→stOk ps q=true):=fun h q hq=>by
       by_cases e:q=j
       · rw[e];exact h
       · exact HA.out q (by omega)
      have HO2:Hid (stOk ps j=((za1 (zw ps j)).isSome && (sumL (zw ps j) == keyAt ps j) && (decide (j=0) || Op.bytesLess (keyAt ps (j - 1)) (keyAt ps j)))):=rfl
      obtain⟨x,hx⟩:∃ x,x=keyAt ps j:=⟨_,rfl⟩
      obtain⟨y,hy⟩:∃ y,y=zw ps j:=⟨_,rfl⟩
      rw[←hx] at c1 m1 HO2
      rw[←hy] at c2 m1 HO2
      have hyl:y.length≤1048576:=m1.2
      have HKR:Hid (∀ W,Calls Tryz.prog 91 #[.string ⟨y.toArray⟩] W fun e w'=>zd3 W (za1 y) e w'):=fun W=>zr8 y W hyl
      clear hx hy HA HBAD HALL hm2 HS
      by_cases hz:j=0
      · have HO3:Hid (stOk ps j=((za1 y).isSome && (sumL y == x) && true)):=by rw[Hid,HO2.out,hz];simp
        have hzb:decide ((0:Int)<(j:Int))=false:=decide_eq_false (by omega)
        have hzn:decide (0<j)=false:=decide_eq_false (by omega)
        have hz':(j:Int)≤0:=by omega
        have hz9:¬ (0:Int)<(j:Int):=by omega
        clear c3 HO2 hz
        have HO2:=HO3
        clear HO3
        go_wp2_with fail
        refine (HKR.out _).mono ?_
        rintro e w2 ⟨a4,m4,c4,rfl,o4,b2⟩
        have B2:Hid (Below w.heap.size w w2):=hbel.trans (b2.mono hsz)
        have d1:=(b2.cell (p:=⟨b,off+j*2,none⟩) (World.block_lt_of_cell? wr _ c1)).trans c1
        have d2:=(b2.cell (p:=⟨b,off+j*2+1,none⟩) (World.block_lt_of_cell? wr _ c2)).trans c2
        obtain⟨nd,hnd⟩:∃ nd,nd=(za1 y).getD zeroN:=⟨_,rfl⟩
        rw[←hnd]
        obtain⟨k,p,ls,v⟩:=nd
        simp only
        have B2a:Hid (Below w.heap.size w (w2.alloc (.cells #[.int .i64 k,.string ⟨p.toArray⟩,.slice a4 m4 c4,.string ⟨v.toArray⟩] 152))):=B2.out.alloc B2.out.size _
        have e1:(w2.alloc (.cells #[.int .i64 k,.string ⟨p.toArray⟩,.slice a4 m4 c4,.string ⟨v.toArray⟩] 152)).cell? ⟨b,off+j*2,none⟩=some (.string ⟨x.toArray⟩):=(World.cell?_alloc_lt w2 _ ⟨b,off+j*2,none⟩ (World.block_lt_of_cell? w2 _ d1)).trans d1
        have e2:(w2.alloc (.cells #[.int .i64 k,.string ⟨p.toArray⟩,.slice a4 m4 c4,.string ⟨v.toArray⟩] 152)).cell? ⟨b,off+j*2+1,none⟩=some (.string ⟨y.toArray⟩):=(World.cell?_alloc_lt w2 _ ⟨b,off+j*2+1,none⟩ (World.block_lt_of_cell? w2 _ d2)).trans d2
        obtain⟨ok,hok⟩:∃ ok,ok=(za1 y).isSome:=⟨_,rfl⟩
        rw[←hok]
        have HOK:Hid (ok=(za1 y).isSome):=hok
        clear o4 b2 hnd hok B2 c1 c2 d1 d2
        cases ok with
        | false =>
          have HR:Hid (r=false):=HB.out (by rw[HO2.out,←HOK.out];simp)
          have B2n:Hid (∀ q,Below w.heap.size w ((w2.alloc (.cells #[.int .i64 k,.string ⟨p.toArray⟩,.slice a4 m4 c4,.string ⟨v.toArray⟩] 152)).drewN q)):=fun q=>zx B2a.out
          clear HB HN HO2
          go_wp2
          go_quiet (fail)
          go_wp2
          go_ret
          rw[HR.out]
          exact⟨rfl,B2n.out _⟩
        | true =>
          have S1:Hid ((w2.alloc (.cells #[.int .i64 k,.string ⟨p.toArray⟩,.slice a4 m4 c4,.string ⟨v.toArray⟩] 152)).drew.cell? ⟨b,off+j*2,none⟩=some (.string ⟨x.toArray⟩)∧(w2.alloc (.cells #[.int .i64 k,.string ⟨p.toArray⟩,.slice a4 m4 c4,.string ⟨v.toArray⟩] 152)).drew.cell? ⟨b,off+j*2+1,none⟩=some (.string ⟨y.toArray⟩)):=⟨e1,e2⟩
          have HBL:Hid (b<(w2.alloc (.cells #[.int .i64 k,.string ⟨p.toArray⟩,.slice a4 m4 c4,.string ⟨v.toArray⟩] 152)).heap.size):=World.block_lt_of_cell? _ _ e1
          have KS:=zfm y (w2.alloc (.cells #[.int .i64 k,.string ⟨p.toArray⟩,.slice a4 m4 c4,.string ⟨v.toArray⟩] 152)).drew hyl
          obtain⟨su,hsu⟩:∃ su,su=sumL y:=⟨_,rfl⟩
          have HSU:Hid (su=sumL y):=hsu
          rw[←hsu] at KS
          clear hsu e1 e2
          by_cases he:x=su
          · have heb:(su == x)=true:=by rw[beq_iff_eq];exact he.symm
            have HTR:Hid (stOk ps j=true):=by rw[Hid,HO2.out,←HOK.out,←HSU.out,he];simp
            clear HB HO2
            subst he
            go_wp2_with fail
            refine wp_region_held_drew (S:=fun w'=>w'.cell? ⟨b,off+j*2,none⟩=some (.string ⟨x.toArray⟩)∧w'.cell? ⟨b,off+j*2+1,none⟩=some (.string ⟨y.toArray⟩)) (by kernel_rfl) S1.out (fun hHeld=>?_)
            refine yL 0 ?_
            refine yL 1 ?_
            refine yL 2 ?_
            refine yL 3 ?_
            refine yL 4 ?_
            refine yL 5 ?_
            refine yL 6 ?_
            refine yL 7 ?_
            refine yL 9 ?_
            refine yL 10 ?_
            refine yL 11 ?_
            refine yL 12 ?_
            refine yL 13 ?_
            refine wpAnyH_ready (rs:=[8]) (by kernel_rfl) (by simp) ?_
            refine AllReadyH.cons (o:=sq8) rfl (fun K hK=>?_) AllReadyH.nil
            go_simp
            go_at_call 92
            with_reducible refine KS.mono ?_
            rintro e w3 ⟨rfl,b3'⟩
            have b3:Below (w2.alloc (.cells #[.int .i64 k,.string ⟨p.toArray⟩,.slice a4 m4 c4,.string ⟨v.toArray⟩] 152)).heap.size (w2.alloc (.cells #[.int .i64 k,.string ⟨p.toArray⟩,.slice a4 m4 c4,.string ⟨v.toArray⟩] 152)) w3:=⟨b3'.os,b3'.tape,b3'.output,b3'.size,b3'.block⟩
            have S3:Hid (w3.cell? ⟨b,off+j*2,none⟩=some (.string ⟨x.toArray⟩)∧w3.cell? ⟨b,off+j*2+1,none⟩=some (.string ⟨y.toArray⟩)):=⟨(b3.cell (p:=⟨b,off+j*2,none⟩) HBL.out).trans S1.out.1,(b3.cell (p:=⟨b,off+j*2+1,none⟩) HBL.out).trans S1.out.2⟩
            have B3:Hid (Below w.heap.size w w3):=B2a.out.trans (b3.mono B2a.out.size)
            clear b3' b3 hHeld
            refine hK.out _ _ S3.out (fun hHeld=>?_)
            clear hK K
            refine yL 14 ?_
            refine yL 15 ?_
            refine yL 16 ?_
            refine yL 17 ?_
            refine yL 18 ?_
            refine yL 19 ?_
            refine nL 20 ?_
            refine nL 21 ?_
            refine nL 22 ?_
            refine nL 23 ?_
            refine nL 24 ?_
            refine nL 25 ?_
            refine nL 26 ?_
            refine nL 27 ?_
            refine nL 28 ?_
            refine nL 29 ?_
            refine nL 30 ?_
            refine nL 31 ?_
            refine yL 32 ?_
            refine yL 33 ?_
            refine wpAnyH_done (by kernel_rfl) ?_ _
            go_wp2
            go_roundw
            case rel=>exact⟨j+1,by omega,by go_num,HN.out HTR.out,B3.out⟩
            case measure=>simp[intOf];omega
          · have heb:(su == x)=false:=by rw[beq_eq_false_iff_ne];exact fun e=>he e.symm
            have hebn:(su != x)=true:=by rw[bne_iff_ne];exact fun e=>he e.symm
            have hen:¬ su=x:=fun e=>he e.symm
            have HR:Hid (r=false):=HB.out (by rw[HO2.out,←HSU.out,heb];simp)
            clear HB HO2 HN
            go_wp2_with fail
            refine wp_region_held_drew (S:=fun w'=>w'.cell? ⟨b,off+j*2,none⟩=some (.string ⟨x.toArray⟩)∧w'.cell? ⟨b,off+j*2+1,none⟩=some (.string ⟨y.toArray⟩)) (by kernel_rfl) S1.out (fun hHeld=>?_)
            refine yL 0 ?_
            refine yL 1 ?_
            refine yL 2 ?_
            refine yL 3 ?_
            refine yL 4 ?_
            refine yL 5 ?_
            refine yL 6 ?_
            refine yL 7 ?_
            refine yL 9 ?_
            refine yL 10 ?_
            refine yL 11 ?_
            refine yL 12 ?_
            refine yL 13 ?_
            refine wpAnyH_ready (rs:=[8]) (by kernel_rfl) (by simp) ?_
            refine AllReadyH.cons (o:=sq8) rfl (fun K hK=>?_) AllReadyH.nil
            go_simp
            go_at_call 92
            with_reducible refine KS.mono ?_
            rintro e w3 ⟨rfl,b3'⟩
            have b3:Below (w2.alloc (.cells #[.int .i64 k,.string ⟨p.toArray⟩,.slice a4 m4 c4,.string ⟨v.toArray⟩] 152)).heap.size (w2.alloc (.cells #[.int .i64 k,.string ⟨p.toArray⟩,.slice a4 m4 c4,.string ⟨v.toArray⟩] 152)) w3:=⟨b3'.os,b3'.tape,b3'.output,b3'.size,b3'.block⟩
            have S3:Hid (w3.cell? ⟨b,off+j*2,none⟩=some (.string ⟨x.toArray⟩)∧w3.cell? ⟨b,off+j*2+1,none⟩=some (.string ⟨y.toArray⟩)):=⟨(b3.cell (p:=⟨b,off+j*2,none⟩) HBL.out).trans S1.out.1,(b3.cell (p:=⟨b,off+j*2+1,none⟩) HBL.out).trans S1.out.2⟩
            have B3:Hid (Below w.heap.size w w3):=B2a.out.trans (b3.mono B2a.out.size)
            clear b3' b3 hHeld
            refine hK.out _ _ S3.out (fun hHeld=>?_)
            clear hK K
            refine yL 14 ?_
            refine yL 15 ?_
            refine yL 16 ?_
            refine nL 17 ?_
            refine nL 18 ?_
            refine nL 19 ?_
            refine nL 20 ?_
            refine nL 21 ?_
            refine nL 22 ?_
            refine nL 23 ?_
            refine nL 24 ?_
            refine nL 25 ?_
            refine nL 26 ?_
            refine nL 27 ?_
            refine nL 28 ?_
            refine nL 29 ?_
            refine nL 30 ?_
            refine nL 31 ?_
            refine nL 32 ?_
            refine yL 33 ?_
            refine wpAnyH_done (by kernel_rfl) ?_ _
            go_wp2
            go_ret
            rw[HR.out]
            exact⟨rfl,B3.out⟩
      · obtain⟨i1,hi1⟩:∃ i1,i1=j - 1:=⟨_,rfl⟩
        have c3:=c3 (by omega)
        rw[←hi1] at c3 HO2
        have hz':(0:Int)<(j:Int):=by omega
        have hz'':0<j:=by omega
        have hzb:decide ((0:Int)<(j:Int))=true:=by simp;omega
        have hzi:IntKind.i64.wrap ((j:Int) - 1)=(i1:Int):=by rw[zag _ (by omega) (by omega)];omega
        have hzt:((i1:Int)).toNat=i1:=by omega
        have hi2:(j:Int) - 1=(i1:Int):=by omega
        have hzw:IntKind.i64.wrap (i1:Int)=(i1:Int):=zag _ (by omega) (by omega)
        have hi0:(0:Int)≤(i1:Int):=by omega
        have hi3:(i1:Int)<(ps.length:Int):=by omega
        obtain⟨z,hz2⟩:∃ z,z=keyAt ps i1:=⟨_,rfl⟩
        rw[←hz2] at c3 HO2
        clear hi1 hz2
        go_wp2_with fail
        refine (HKR.out _).mono ?_
        rintro e w2 ⟨a4,m4,c4,rfl,o4,b2⟩
        have B2:Hid (Below w.heap.size w w2):=hbel.trans (b2.mono hsz)
        have d1:=(b2.cell (p:=⟨b,off+j*2,none⟩) (World.block_lt_of_cell? wr _ c1)).trans c1
        have d2:=(b2.cell (p:=⟨b,off+j*2+1,none⟩) (World.block_lt_of_cell? wr _ c2)).trans c2
        have d3:=(b2.cell (p:=⟨b,off+i1*2,none⟩) (World.block_lt_of_cell? wr _ c3)).trans c3
        obtain⟨nd,hnd⟩:∃ nd,nd=(za1 y).getD zeroN:=⟨_,rfl⟩
        rw[←hnd]
        obtain⟨k,p,ls,v⟩:=nd
        simp only
        have B2a:Hid (Below w.heap.size w (w2.alloc (.cells #[.int .i64 k,.string ⟨p.toArray⟩,.slice a4 m4 c4,.string ⟨v.toArray⟩] 152))):=B2.out.alloc B2.out.size _
        have e1:(w2.alloc (.cells #[.int .i64 k,.string ⟨p.toArray⟩,.slice a4 m4 c4,.string ⟨v.toArray⟩] 152)).cell? ⟨b,off+j*2,none⟩=some (.string ⟨x.toArray⟩):=(World.cell?_alloc_lt w2 _ ⟨b,off+j*2,none⟩ (World.block_lt_of_cell? w2 _ d1)).trans d1
        have e2:(w2.alloc (.cells #[.int .i64 k,.string ⟨p.toArray⟩,.slice a4 m4 c4,.string ⟨v.toArray⟩] 152)).cell? ⟨b,off+j*2+1,none⟩=some (.string ⟨y.toArray⟩):=(World.cell?_alloc_lt w2 _ ⟨b,off+j*2+1,none⟩ (World.block_lt_of_cell? w2 _ d2)).trans d2
        have e3:(w2.alloc (.cells #[.int .i64 k,.string ⟨p.toArray⟩,.slice a4 m4 c4,.string ⟨v.toArray⟩] 152)).cell? ⟨b,off+i1*2,none⟩=some (.string ⟨z.toArray⟩):=(World.cell?_alloc_lt w2 _ ⟨b,off+i1*2,none⟩ (World.block_lt_of_cell? w2 _ d3)).trans d3
        obtain⟨ok,hok⟩:∃ ok,ok=(za1 y).isSome:=⟨_,rfl⟩
        rw[←hok]
        have HOK:Hid (ok=(za1 y).isSome):=hok
        clear o4 b2 hnd hok B2 c1 c2 c3 d3 d1 d2
        cases ok with
        | false =>
          have HR:Hid (r=false):=HB.out (by rw[HO2.out,←HOK.out];simp)
          have B2n:Hid (∀ q,Below w.heap.size w ((w2.alloc (.cells #[.int .i64 k,.string ⟨p.toArray⟩,.slice a4 m4 c4,.string ⟨v.toArray⟩] 152)).drewN q)):=fun q=>zx B2a.out
          clear HB HN HO2
          go_wp2
          go_quiet (fail)
          go_wp2
          go_ret
          rw[HR.out]
          exact⟨rfl,B2n.out _⟩
        | true =>
          have S1:Hid ((w2.alloc (.cells #[.int .i64 k,.string ⟨p.toArray⟩,.slice a4 m4 c4,.string ⟨v.toArray⟩] 152)).drew.cell? ⟨b,off+j*2,none⟩=some (.string ⟨x.toArray⟩)∧(w2.alloc (.cells #[.int .i64 k,.string ⟨p.toArray⟩,.slice a4 m4 c4,.string ⟨v.toArray⟩] 152)).drew.cell? ⟨b,off+j*2+1,none⟩=some (.string ⟨y.toArray⟩)∧(w2.alloc (.cells #[.int .i64 k,.string ⟨p.toArray⟩,.slice a4 m4 c4,.string ⟨v.toArray⟩] 152)).drew.cell? ⟨b,off+i1*2,none⟩=some (.string ⟨z.toArray⟩)):=⟨e1,e2,e3⟩
          have HBL:Hid (b<(w2.alloc (.cells #[.int .i64 k,.string ⟨p.toArray⟩,.slice a4 m4 c4,.string ⟨v.toArray⟩] 152)).heap.size):=World.block_lt_of_cell? _ _ e1
          have KS:=zfm y (w2.alloc (.cells #[.int .i64 k,.string ⟨p.toArray⟩,.slice a4 m4 c4,.string ⟨v.toArray⟩] 152)).drew hyl
          obtain⟨su,hsu⟩:∃ su,su=sumL y:=⟨_,rfl⟩
          have HSU:Hid (su=sumL y):=hsu
          rw[←hsu] at KS
          clear hsu e1 e2 e3
          by_cases he:x=su
          · have heb:(su == x)=true:=by rw[beq_iff_eq];exact he.symm
            cases q4:Op.bytesLess z x with
            | true =>
              have q4':Op.bytesLess (⟨z.toArray⟩:ByteArray).toList (⟨x.toArray⟩:ByteArray).toList=true:=by rw[zas,zas];exact q4
              have HTR:Hid (stOk ps j=true):=by rw[Hid,HO2.out,←HOK.out,←HSU.out,q4,he];simp
              clear HB HO2
              subst he
              go_wp2_with fail
              refine wp_region_held_drew (S:=fun w'=>w'.cell? ⟨b,off+j*2,none⟩=some (.string ⟨x.toArray⟩)∧w'.cell? ⟨b,off+j*2+1,none⟩=some (.string ⟨y.toArray⟩)∧w'.cell? ⟨b,off+i1*2,none⟩=some (.string ⟨z.toArray⟩)) (by kernel_rfl) S1.out (fun hHeld=>?_)
              refine yL 0 ?_
              refine yL 1 ?_
              refine yL 2 ?_
              refine yL 3 ?_
              refine yL 4 ?_
              refine yL 5 ?_
              refine yL 6 ?_
              refine yL 7 ?_
              refine yL 9 ?_
              refine yL 10 ?_
              refine yL 11 ?_
              refine yL 12 ?_
              refine yL 13 ?_
              refine wpAnyH_ready (rs:=[8]) (by kernel_rfl) (by simp) ?_
              refine AllReadyH.cons (o:=sq8) rfl (fun K hK=>?_) AllReadyH.nil
              go_simp
              go_at_call 92
              with_reducible refine KS.mono ?_
              rintro e w3 ⟨rfl,b3'⟩
              have b3:Below (w2.alloc (.cells #[.int .i64 k,.string ⟨p.toArray⟩,.slice a4 m4 c4,.string ⟨v.toArray⟩] 152)).heap.size (w2.alloc (.cells #[.int .i64 k,.string ⟨p.toArray⟩,.slice a4 m4 c4,.string ⟨v.toArray⟩] 152)) w3:=⟨b3'.os,b3'.tape,b3'.output,b3'.size,b3'.block⟩
              have S3:Hid (w3.cell? ⟨b,off+j*2,none⟩=some (.string ⟨x.toArray⟩)∧w3.cell? ⟨b,off+j*2+1,none⟩=some (.string ⟨y.toArray⟩)∧w3.cell? ⟨b,off+i1*2,none⟩=some (.string ⟨z.toArray⟩)):=⟨(b3.cell (p:=⟨b,off+j*2,none⟩) HBL.out).trans S1.out.1,(b3.cell (p:=⟨b,off+j*2+1,none⟩) HBL.out).trans S1.out.2.1,(b3.cell (p:=⟨b,off+i1*2,none⟩) HBL.out).trans S1.out.2.2⟩
              have B3:Hid (Below w.heap.size w w3):=B2a.out.trans (b3.mono B2a.out.size)
              clear b3' b3 hHeld
              refine hK.out _ _ S3.out (fun hHeld=>?_)
              clear hK K
              refine yL 14 ?_
              refine yL 15 ?_
              refine yL 16 ?_
              refine yL 17 ?_
              refine yL 18 ?_
              refine yL 19 ?_
              refine yL 20 ?_
              refine yL 21 ?_
              refine yL 22 ?_
              refine yL 23 ?_
              refine yL 24 ?_
              refine yL 25 ?_
              refine yL 26 ?_
              refine yL 27 ?_
              refine yL 28 ?_
              refine yL 29 ?_
              refine yL 30 ?_
              refine yL 31 ?_
              refine yL 32 ?_
              refine yL 33 ?_
              refine wpAnyH_done (by kernel_rfl) ?_ _
              go_wp2
              go_roundw
              case rel=>exact⟨j+1,by omega,by go_num,HN.out HTR.out,B3.out⟩
              case measure=>simp[intOf];omega
            | false =>
              have q4':Op.bytesLess (⟨z.toArray⟩:ByteArray).toList (⟨x.toArray⟩:ByteArray).toList=false:=by rw[zas,zas];exact q4
              have HR:Hid (r=false):=HB.out (by rw[HO2.out,q4];simp[hz])
              clear HB HO2 HN
              subst he
              go_wp2_with fail
              refine wp_region_held_drew (S:=fun w'=>w'.cell? ⟨b,off+j*2,none⟩=some (.string ⟨x.toArray⟩)∧w'.cell? ⟨b,off+j*2+1,none⟩=some (.string ⟨y.toArray⟩)∧w'.cell? ⟨b,off+i1*2,none⟩=some (.string ⟨z.toArray⟩)) (by kernel_rfl) S1.out (fun hHeld=>?_)
              refine yL 0 ?_
              refine yL 1 ?_
              refine yL 2 ?_
              refine yL 3 ?_
              refine yL 4 ?_
              refine yL 5 ?_
              refine yL 6 ?_
              refine yL 7 ?_
              refine yL 9 ?_
              refine yL 10 ?_
              refine yL 11 ?_
              refine yL 12 ?_
              refine yL 13 ?_
              refine wpAnyH_ready (rs:=[8]) (by kernel_rfl) (by simp) ?_
              refine AllReadyH.cons (o:=sq8) rfl (fun K hK=>?_) AllReadyH.nil
              go_simp
              go_at_call 92
              with_reducible refine KS.mono ?_
              rintro e w3 ⟨rfl,b3'⟩
              have b3:Below (w2.alloc (.cells #[.int .i64 k,.string ⟨p.toArray⟩,.slice a4 m4 c4,.string ⟨v.toArray⟩] 152)).heap.size (w2.alloc (.cells #[.int .i64 k,.string ⟨p.toArray⟩,.slice a4 m4 c4,.string ⟨v.toArray⟩] 152)) w3:=⟨b3'.os,b3'.tape,b3'.output,b3'.size,b3'.block⟩
              have S3:Hid (w3.cell? ⟨b,off+j*2,none⟩=some (.string ⟨x.toArray⟩)∧w3.cell? ⟨b,off+j*2+1,none⟩=some (.string ⟨y.toArray⟩)∧w3.cell? ⟨b,off+i1*2,none⟩=some (.string ⟨z.toArray⟩)):=⟨(b3.cell (p:=⟨b,off+j*2,none⟩) HBL.out).trans S1.out.1,(b3.cell (p:=⟨b,off+j*2+1,none⟩) HBL.out).trans S1.out.2.1,(b3.cell (p:=⟨b,off+i1*2,none⟩) HBL.out).trans S1.out.2.2⟩
              have B3:Hid (Below w.heap.size w w3):=B2a.out.trans (b3.mono B2a.out.size)
              clear b3' b3 hHeld
              refine hK.out _ _ S3.out (fun hHeld=>?_)
              clear hK K
              refine yL 14 ?_
              refine yL 15 ?_
              refine yL 16 ?_
              refine yL 17 ?_
              refine yL 18 ?_
              refine yL 19 ?_
              refine yL 20 ?_
              refine yL 21 ?_
              refine yL 22 ?_
              refine yL 23 ?_
              refine yL 24 ?_
              refine yL 25 ?_
              refine yL 26 ?_
              refine yL 27 ?_
              refine yL 28 ?_
              refine yL 29 ?_
              refine yL 30 ?_
              refine yL 31 ?_
              refine yL 32 ?_
              refine yL 33 ?_
              refine wpAnyH_done (by kernel_rfl) ?_ _
              go_wp2
              go_ret
              rw[HR.out]
              exact⟨rfl,B3.out⟩
          · have heb:(su == x)=false:=by rw[beq_eq_false_iff_ne];exact fun e=>he e.symm
            have hebn:(su != x)=true:=by rw[bne_iff_ne];exact fun e=>he e.symm
            have hen:¬ su=x:=fun e=>he e.symm
            have HR:Hid (r=false):=HB.out (by rw[HO2.out,←HSU.out,heb];simp)
            clear HB HO2 HN
            have S1:Hid ((w2.alloc (.cells #[.int .i64 k,.string ⟨p.toArray⟩,.slice a4 m4 c4,.string ⟨v.toArray⟩] 152)).drew.cell? ⟨b,off+j*2,none⟩=some (.string ⟨x.toArray⟩)∧(w2.alloc (.cells #[.int .i64 k,.string ⟨p.toArray⟩,.slice a4 m4 c4,.string ⟨v.toArray⟩] 152)).drew.cell? ⟨b,off+j*2+1,none⟩=some (.string ⟨y.toArray⟩)):=⟨S1.out.1,S1.out.2.1⟩
            go_wp2_with fail
            refine wp_region_held_drew (S:=fun w'=>w'.cell? ⟨b,off+j*2,none⟩=some (.string ⟨x.toArray⟩)∧w'.cell? ⟨b,off+j*2+1,none⟩=some (.string ⟨y.toArray⟩)) (by kernel_rfl) S1.out (fun hHeld=>?_)
            refine yL 0 ?_
            refine yL 1 ?_
            refine yL 2 ?_
            refine yL 3 ?_
            refine yL 4 ?_
            refine yL 5 ?_
            refine yL 6 ?_
            refine yL 7 ?_
            refine yL 9 ?_
            refine yL 10 ?_
            refine yL 11 ?_
            refine yL 12 ?_
            refine yL 13 ?_
            refine wpAnyH_ready (rs:=[8]) (by kernel_rfl) (by simp) ?_
            refine AllReadyH.cons (o:=sq8) rfl (fun K hK=>?_) AllReadyH.nil
            go_simp
            go_at_call 92
            with_reducible refine KS.mono ?_
            rintro e w3 ⟨rfl,b3'⟩
            have b3:Below (w2.alloc (.cells #[.int .i64 k,.string ⟨p.toArray⟩,.slice a4 m4 c4,.string ⟨v.toArray⟩] 152)).heap.size (w2.alloc (.cells #[.int .i64 k,.string ⟨p.toArray⟩,.slice a4 m4 c4,.string ⟨v.toArray⟩] 152)) w3:=⟨b3'.os,b3'.tape,b3'.output,b3'.size,b3'.block⟩
            have S3:Hid (w3.cell? ⟨b,off+j*2,none⟩=some (.string ⟨x.toArray⟩)∧w3.cell? ⟨b,off+j*2+1,none⟩=some (.string ⟨y.toArray⟩)):=⟨(b3.cell (p:=⟨b,off+j*2,none⟩) HBL.out).trans S1.out.1,(b3.cell (p:=⟨b,off+j*2+1,none⟩) HBL.out).trans S1.out.2⟩
            have B3:Hid (Below w.heap.size w w3):=B2a.out.trans (b3.mono B2a.out.size)
            clear b3' b3 hHeld
            refine hK.out _ _ S3.out (fun hHeld=>?_)
            clear hK K
            refine yL 14 ?_
            refine yL 15 ?_
            refine yL 16 ?_
            refine nL 17 ?_
            refine nL 18 ?_
            refine nL 19 ?_
            refine nL 20 ?_
            refine nL 21 ?_
            refine nL 22 ?_
            refine nL 23 ?_
            refine nL 24 ?_
            refine nL 25 ?_
            refine nL 26 ?_
            refine nL 27 ?_
            refine nL 28 ?_
            refine nL 29 ?_
            refine nL 30 ?_
            refine nL 31 ?_
            refine nL 32 ?_
            refine yL 33 ?_
            refine wpAnyH_done (by kernel_rfl) ?_ _
            go_wp2
            go_ret
            rw[HR.out]
            exact⟨rfl,B3.out⟩
    · have hjl:j=ps.length:=by omega
      subst hjl
      have HR:Hid (r=true):=HALL.out (fun q h=>HA.out q h)
      clear HS hm2
      go_wp2
      go_ret
      rw[HR.out]
      exact⟨rfl,hbel⟩
 · have h400':¬ (ps.length:Int)≤400:=by omega
   have HR:Hid (zaa ps=false):=zrt ps h400
   obtain⟨r,hr⟩:∃ r,r=zaa ps:=⟨_,rfl⟩
   rw[←hr] at HR ⊢
   clear hs hm hr
   go_enter Tryz.func70,Tryz.ntmps70
   go_wp2
   go_ret
   rw[HR.out]
   exact⟨rfl,Below.refl _ _⟩
end Go.Proofs.YtppljdnbhoeeoaaGreatDoor
