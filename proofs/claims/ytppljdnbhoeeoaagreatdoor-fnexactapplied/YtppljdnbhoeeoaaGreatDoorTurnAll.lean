/-
 Texts that are laid as one: Turn, Bw, Spread, Mixed.
-/
import Derived.Test.YtppljdnbhoeeoaaGreatDoorMath2
import Derived.BigQuiet
import Derived.Laws.CopyOwn
namespace Go.Proofs.YtppljdnbhoeeoaaGreatDoor
open Go.RowKit
set_option linter.unusedVariables false
set_option maxHeartbeats 1000000
set_option maxRecDepth 100000
theorem zsg:(Tryz.prog.info? 227).map (·.size)=some 16:=by kernel_rfl
def zb3 (n:Nat):Prop:=n=2∨n=6∨n=7∨n=11∨n=13∨n=17∨n=18∨n=19∨n=22∨n=25
theorem zdo (a:UInt32) (n:Nat) (x:Int) (w:World) (hn:zb3 n) (hx:x=(n:Int)) :
 Calls Tryz.prog 162 #[.int .u32 (num a),.int .u64 x] w fun e w'=>e=.returned (.int .u32 (num (rr a n)))∧w'=w:=by
 subst hx
 rcases hn with rfl | rfl | rfl | rfl | rfl | rfl | rfl | rfl | rfl | rfl
 · have h1:bits .or .u32 (num a / 4) (num a*1073741824 % 4294967296)=num (rr a 2):=(zbe a 2 _ _ (by decide) (by decide)).1
   go_enter Tryz.func162,Tryz.ntmps162
   go_wp2
   go_ret
   exact⟨rfl,rfl⟩
 · have h1:bits .or .u32 (num a / 64) (num a*67108864 % 4294967296)=num (rr a 6):=(zbe a 6 _ _ (by decide) (by decide)).1
   go_enter Tryz.func162,Tryz.ntmps162
   go_wp2
   go_ret
   exact⟨rfl,rfl⟩
 · have h1:bits .or .u32 (num a / 128) (num a*33554432 % 4294967296)=num (rr a 7):=(zbe a 7 _ _ (by decide) (by decide)).1
   go_enter Tryz.func162,Tryz.ntmps162
   go_wp2
   go_ret
   exact⟨rfl,rfl⟩
 · have h1:bits .or .u32 (num a / 2048) (num a*2097152 % 4294967296)=num (rr a 11):=(zbe a 11 _ _ (by decide) (by decide)).1
   go_enter Tryz.func162,Tryz.ntmps162
   go_wp2
   go_ret
   exact⟨rfl,rfl⟩
 · have h1:bits .or .u32 (num a / 8192) (num a*524288 % 4294967296)=num (rr a 13):=(zbe a 13 _ _ (by decide) (by decide)).1
   go_enter Tryz.func162,Tryz.ntmps162
   go_wp2
   go_ret
   exact⟨rfl,rfl⟩
 · have h1:bits .or .u32 (num a / 131072) (num a*32768 % 4294967296)=num (rr a 17):=(zbe a 17 _ _ (by decide) (by decide)).1
   go_enter Tryz.func162,Tryz.ntmps162
   go_wp2
   go_ret
   exact⟨rfl,rfl⟩
 · have h1:bits .or .u32 (num a / 262144) (num a*16384 % 4294967296)=num (rr a 18):=(zbe a 18 _ _ (by decide) (by decide)).1
   go_enter Tryz.func162,Tryz.ntmps162
   go_wp2
   go_ret
   exact⟨rfl,rfl⟩
 · have h1:bits .or .u32 (num a / 524288) (num a*8192 % 4294967296)=num (rr a 19):=(zbe a 19 _ _ (by decide) (by decide)).1
   go_enter Tryz.func162,Tryz.ntmps162
   go_wp2
   go_ret
   exact⟨rfl,rfl⟩
 · have h1:bits .or .u32 (num a / 4194304) (num a*1024 % 4294967296)=num (rr a 22):=(zbe a 22 _ _ (by decide) (by decide)).1
   go_enter Tryz.func162,Tryz.ntmps162
   go_wp2
   go_ret
   exact⟨rfl,rfl⟩
 · have h1:bits .or .u32 (num a / 33554432) (num a*128 % 4294967296)=num (rr a 25):=(zbe a 25 _ _ (by decide) (by decide)).1
   go_enter Tryz.func162,Tryz.ntmps162
   go_wp2
   go_ret
   exact⟨rfl,rfl⟩
theorem za4i (a:UInt32) (n:Nat) (x:Int) (w:World) (hn:zb3 n) (hx:x = -(n:Int)) :
 Calls Tryz.prog 219 #[.int .u32 (num a),.int .i64 x] w fun e w'=>e=.returned (.int .u32 (num (rr a n)))∧w'=w:=by
 subst hx
 rcases hn with rfl | rfl | rfl | rfl | rfl | rfl | rfl | rfl | rfl | rfl
 · have h0:bits BinOp.and IntKind.u64 (IntKind.u64.wrap (-2)) 31=30:=by decide +kernel
   have h1:bits .or .u32 (num a*1073741824 % 4294967296) (num a / 4)=num (rr a 2):=(zbe a 2 _ _ (by decide) (by decide)).2
   go_enter Tryz.func219,Tryz.ntmps219
   go_wp2
   go_ret
   exact⟨rfl,rfl⟩
 · have h0:bits BinOp.and IntKind.u64 (IntKind.u64.wrap (-6)) 31=26:=by decide +kernel
   have h1:bits .or .u32 (num a*67108864 % 4294967296) (num a / 64)=num (rr a 6):=(zbe a 6 _ _ (by decide) (by decide)).2
   go_enter Tryz.func219,Tryz.ntmps219
   go_wp2
   go_ret
   exact⟨rfl,rfl⟩
 · have h0:bits BinOp.and IntKind.u64 (IntKind.u64.wrap (-7)) 31=25:=by decide +kernel
   have h1:bits .or .u32 (num a*33554432 % 4294967296) (num a / 128)=num (rr a 7):=(zbe a 7 _ _ (by decide) (by decide)).2
   go_enter Tryz.func219,Tryz.ntmps219
   go_wp2
   go_ret
   exact⟨rfl,rfl⟩
 · have h0:bits BinOp.and IntKind.u64 (IntKind.u64.wrap (-11)) 31=21:=by decide +kernel
   have h1:bits .or .u32 (num a*2097152 % 4294967296) (num a / 2048)=num (rr a 11):=(zbe a 11 _ _ (by decide) (by decide)).2
   go_enter Tryz.func219,Tryz.ntmps219
   go_wp2
   go_ret
   exact⟨rfl,rfl⟩
 · have h0:bits BinOp.and IntKind.u64 (IntKind.u64.wrap (-13)) 31=19:=by decide +kernel
   have h1:bits .or .u32 (num a*524288 % 4294967296) (num a / 8192)=num (rr a 13):=(zbe a 13 _ _ (by decide) (by decide)).2
   go_enter Tryz.func219,Tryz.ntmps219
   go_wp2
   go_ret
   exact⟨rfl,rfl⟩
 · have h0:bits BinOp.and IntKind.u64 (IntKind.u64.wrap (-17)) 31=15:=by decide +kernel
   have h1:bits .or .u32 (num a*32768 % 4294967296) (num a / 131072)=num (rr a 17):=(zbe a 17 _ _ (by decide) (by decide)).2
   go_enter Tryz.func219,Tryz.ntmps219
   go_wp2
   go_ret
   exact⟨rfl,rfl⟩
 · have h0:bits BinOp.and IntKind.u64 (IntKind.u64.wrap (-18)) 31=14:=by decide +kernel
   have h1:bits .or .u32 (num a*16384 % 4294967296) (num a / 262144)=num (rr a 18):=(zbe a 18 _ _ (by decide) (by decide)).2
   go_enter Tryz.func219,Tryz.ntmps219
   go_wp2
   go_ret
   exact⟨rfl,rfl⟩
 · have h0:bits BinOp.and IntKind.u64 (IntKind.u64.wrap (-19)) 31=13:=by decide +kernel
   have h1:bits .or .u32 (num a*8192 % 4294967296) (num a / 524288)=num (rr a 19):=(zbe a 19 _ _ (by decide) (by decide)).2
   go_enter Tryz.func219,Tryz.ntmps219
   go_wp2
   go_ret
   exact⟨rfl,rfl⟩
 · have h0:bits BinOp.and IntKind.u64 (IntKind.u64.wrap (-22)) 31=10:=by decide +kernel
   have h1:bits .or .u32 (num a*1024 % 4294967296) (num a / 4194304)=num (rr a 22):=(zbe a 22 _ _ (by decide) (by decide)).2
   go_enter Tryz.func219,Tryz.ntmps219
   go_wp2
   go_ret
   exact⟨rfl,rfl⟩
 · have h0:bits BinOp.and IntKind.u64 (IntKind.u64.wrap (-25)) 31=7:=by decide +kernel
   have h1:bits .or .u32 (num a*128 % 4294967296) (num a / 33554432)=num (rr a 25):=(zbe a 25 _ _ (by decide) (by decide)).2
   go_enter Tryz.func219,Tryz.ntmps219
   go_wp2
   go_ret
   exact⟨rfl,rfl⟩
theorem zdp (a:UInt32) (n:Nat) (x:Int) (w:World) (hn:zb3 n) (hx:x=(n:Int)) :
 Calls Tryz.prog 205 #[.int .u32 (num a),.int .i64 x] w fun e w'=>e=.returned (.int .u32 (num (rr a n)))∧w'=w:=by
 subst hx
 have H:=fun x hx=>za4i a n x w hn hx
 have hn':n<32:=by unfold zb3 at hn;omega
 clear hn
 go_enter Tryz.func205,Tryz.ntmps205
 go_wp2_with fail
 refine (H _ ?_).mono ?_
 · go_num
 rintro e w1 ⟨rfl,rfl⟩
 go_wp2
 go_ret
 exact⟨rfl,rfl⟩
theorem za4j (l:List UInt8) (w:World) (hl:l.length=64) :
 Calls Tryz.prog 170 #[.string ⟨l.toArray⟩] w fun e w'=>e=.returned (.agg (zv (bws l 64)).toArray)∧Below w.heap.size w w':=by
 have HZ:Hid (zv (bws l 0)=List.replicate 16 (.int .u32 0)):=by rw[Hid,zxs];rfl
 obtain⟨cs,hcs⟩:∃ cs,cs=(zv (bws l 64)).toArray:=⟨_,rfl⟩
 rw[←hcs]
 have HC:Hid _:=hcs
 clear hcs
 go_enter Tryz.func170,Tryz.ntmps170
 go_wp2
 go_loopw [4,7] (fun _ i wr=>∃ j:Nat,j≤64∧i=.int .i64 (j:Int)∧Arr wr (w.heap.size+1) 227 (bws l j)∧Below w.heap.size w wr∧(∃ old,wr.heap[w.heap.size]? = some (.cells old 227 (0,0))∧old.size=16)) (fun _ i _=>64 - (intOf i).toNat)
 case atStart =>
  refine⟨0,by omega,rfl,?_,((Below.refl _ _).alloc (Nat.le_refl _) _).alloc (by simp) _,?_⟩
  · unfold Arr;rw[HZ.out];exact heap_alloc2_new _ _ _
  · exact⟨_,heap_alloc2_old _ _ _,rfl⟩
 case round =>
  obtain⟨j,hj,rfl,hA,hbel,hold⟩:=hrel
  by_cases hlt:j<64
  · have hjl:j<l.length:=by omega
    have hq0:(j:Int).tdiv 4=((j / 4:Nat):Int):=by rw[Int.tdiv_eq_ediv_of_nonneg (by omega)];omega
    have c1:=hA.cell (j / 4) (by rw[zfc];omega)
    rw[zxt l j (j / 4) (by omega)] at c1
    have f1:=hA.free (j / 4)
    have hix:=fun W=>zcq (P:=Tryz.prog) Tryz.underlying9 l (j:Int) j rfl hjl W
    have hap:=e_ap (bw l j (j / 4)) l[j]
    have hS:Hid (Arr (wr.setCell ⟨w.heap.size+1,j / 4,none⟩ (.int .u32 (num (ap (bw l j (j / 4)) l[j])))) (w.heap.size+1) 227 (bws l (j+1))):=by
     have:=hA.set (j / 4) (ap (bw l j (j / 4)) l[j])
     rw[zxw l j hjl hlt] at this
     exact this
    obtain⟨x,hx⟩:∃ x,x=bw l j (j / 4):=⟨_,rfl⟩
    obtain⟨y,hy⟩:∃ y,y=l[j]:=⟨_,rfl⟩
    rw[←hx,←hy] at hap hS
    rw[←hx] at c1
    rw[←hy] at hix
    obtain⟨k,hk⟩:∃ k,k=j / 4:=⟨_,rfl⟩
    rw[←hk] at hq0 c1 f1 hS
    have hk16:k<16:=by omega
    have hj0:(j:Int)<64:=by omega
    have hy0:(y.toNat:Int) % 4294967296=(y.toNat:Int):=by have:=y.toNat_lt;omega
    obtain⟨old,ho1,ho2⟩:=hold
    have HO:Hid _:=ho1
    have HB:Hid (Below w.heap.size w wr):=hbel
    clear hx hy hk hA hl HZ hjl ho1 hbel
    go_wp2
    go_region
    go_wp2
    go_roundw
    case rel=>exact⟨j+1,by omega,by go_num,hS.out.kept rfl,⟨HB.out.os,HB.out.tape,HB.out.output,by have:=HB.out.size;simpa [World.setCell] using this,fun i hi=>by rw[heap_drew,heap_setCell_other _ _ _ _ (by simp;omega)];exact HB.out.block i hi⟩,old,by rw[heap_drew,heap_setCell_other _ _ _ _ (by simp)];exact HO.out,ho2⟩
    case measure=>simp[intOf];omega
  · have hj64:j=64:=by omega
    subst hj64
    obtain⟨old,ho1,ho2⟩:=hold
    have hz:(zv (bws l 64)).toArray.size=16:=by simp[zfb,zfc]
    have h1:=ze5 (bws l 64)
    have hA':wr.heap[w.heap.size+1]? = some (.cells (zv (bws l 64)).toArray 227 (0,0)):=hA
    rw[←HC.out] at hz h1 hA'
    clear hA HZ
    have hsz:(Tryz.prog.info? 227).map (·.size)=some cs.size:=by rw[hz];exact zsg
    have hso:old.size=cs.size:=by omega
    have hW:=setRow_heap wr w.heap.size old cs 227 (0,0) ho1
    have hbW:=below_setRow hbel (Nat.le_refl _) cs
    clear hz ho2
    go_wp2_with (first | refine wpList_load_row rfl 227 _ rfl (w.heap.size+1) rfl 227 cs (0,0) _ hA' Tryz.underlying227 rfl hsz ?_ | refine wpList_store_row rfl 227 _ _ rfl w.heap.size cs rfl rfl 227 old ho1 hsz hso h1 ?_)
    exact bodyPost_ret (v:=.agg cs) (results_cell_row rfl _ _ w.heap.size 227 cs (0,0) _ rfl hW Tryz.underlying227 rfl hsz) rfl ⟨rfl,hbW⟩
theorem zsh:(Tryz.prog.info? 252).map (·.size)=some 64:=by kernel_rfl
theorem za4k:(Tryz.prog.info? 192).map (·.size)=some 1:=by kernel_rfl
theorem arr3 (w:World) (A B C:Obj) :
 (((w.alloc A).alloc B).alloc C).heap[w.heap.size]? = some A∧(((w.alloc A).alloc B).alloc C).heap[w.heap.size+1]? = some B ∧
 (((w.alloc A).alloc B).alloc C).heap[w.heap.size+1+1]? = some C∧(((w.alloc A).alloc B).alloc C).heap.size=w.heap.size+3∧Below w.heap.size w (((w.alloc A).alloc B).alloc C):=by
 refine⟨?_,?_,?_,by simp,(((Below.refl _ _).alloc (Nat.le_refl _) _).alloc (by simp) _).alloc (by simp;omega) _⟩
 · rw[Below.heap_alloc _ _ _ (by simp;omega),Below.heap_alloc _ _ _ (by simp)];exact zcj _ _ _ rfl
 · rw[Below.heap_alloc _ _ _ (by simp)];exact zcj _ _ _ (by simp)
 · exact zcj _ _ _ (by simp)
theorem za4l (W:World) (b t:Nat) (h:W.heap[b]? = some (.cells (List.replicate 64 (Value.int .u32 0)).toArray t (0,0))):∃ old,W.heap[b]? = some (.cells old t (0,0))∧old.size=64:=⟨_,h,rfl⟩
theorem za4m (m:List UInt32) (hm:m.length=16):splice (List.replicate 64 (Value.int .u32 0)) 0 (zv m)=zv (part m 64):=by
 simp[splice,zv,part,hm,zxq]
theorem za4n (m:List UInt32) (w:World) (hm:m.length=16) :
 Calls Tryz.prog 204 #[.agg (zv m).toArray] w fun e w'=>e=.returned (.agg (zv (sch m 48)).toArray)∧Below w.heap.size w w':=by
 obtain⟨cs,hcs⟩:∃ cs,cs=(zv (sch m 48)).toArray:=⟨_,rfl⟩
 rw[←hcs]
 have HC:Hid _:=hcs
 clear hcs
 obtain⟨ms,hms⟩:∃ ms,ms=(zv m).toArray:=⟨_,rfl⟩
 rw[←hms]
 have HM:Hid _:=hms
 clear hms
 have HW:=arr3 w (.cells ms 227) (.cells (List.replicate 64 (Value.int .u32 0)).toArray 252) (.cells (List.replicate 64 (Value.int .u32 0)).toArray 252)
 have HW1:Hid (∀ j v,(zv m)[j]? = some v→(((w.alloc (.cells ms 227)).alloc (.cells (List.replicate 64 (Value.int .u32 0)).toArray 252)).alloc (.cells (List.replicate 64 (Value.int .u32 0)).toArray 252)).cell? ((⟨w.heap.size,0,none⟩:Addr).add j)=some v):=by
  intro j v hv
  rw[zgd,cell_of_row _ _ j _ _ _ HW.1,HM.out]
  simpa using hv
 have HW2:=HW.2.2.1
 have HW3:=HW.2.1
 have HW4:=HW.2.2.2.2
 have HW5:=HW.2.2.2.1
 have HH:Hid (_∧_∧_∧_):=⟨HW2,HW3,HW4,HW5⟩
 have hml:(zv m).length=Nat.min 16 64:=by rw[zfb,hm];rfl
 clear HW HW2 HW3 HW4 HW5
 go_enter Tryz.func204,Tryz.ntmps204
 go_wp2
 go_region_law (refine step_copy_splice rfl (.tmp 7) (.tmp 8) 190 190 rfl 192 Tryz.underlying190 za4k (some ⟨w.heap.size+1+1,0,none⟩) (some ⟨w.heap.size,0,none⟩) 64 64 16 16 (by simp[Act.eval,Act.put]) (by simp[Act.eval,Act.put]) (w.heap.size+1+1) 0 (List.replicate 64 (Value.int .u32 0)) 252 HH.out.1 (zv m) hml (fun _=>⟨rfl,_,rfl,HW1.out⟩) (by rw[zfb,hm];decide) (zxp m) (w.heap.size+1+1) (((w.alloc (.cells ms 227)).alloc (.cells (List.replicate 64 (Value.int .u32 0)).toArray 252)).alloc (.cells (List.replicate 64 (Value.int .u32 0)).toArray 252)) ⟨rfl,rfl,rfl,Nat.le_refl _,fun _ _=>rfl⟩ (Nat.le_refl _) ?_;intro w4 hg4 hb4)
 have hA4:Arr w4 (w.heap.size+1+1) 252 (part (sch m 0) 64):=by
  have:=hg4.out
  rw[za4m m hm] at this
  exact this
 have hO4:=za4l _ _ _ ((hb4.block _ (by omega)).trans HH.out.2.1)
 have hB4:=HH.out.2.2.1.trans (Below.mono hb4 (show w.heap.size≤w.heap.size+1+1 by omega))
 clear hg4 hb4 HH HW1 HM
 go_wp2
 go_loopw [4,5,6] (fun i _ _ wr=>∃ n:Nat,16≤n∧n≤64∧i=.int .i64 (n:Int)∧Arr wr (w.heap.size+1+1) 252 (part (sch m (n - 16)) 64)∧Below w.heap.size w wr∧(∃ old,wr.heap[w.heap.size+1]? = some (.cells old 252 (0,0))∧old.size=64)) (fun i _ _ _=>64 - (intOf i).toNat)
 case atStart=>exact⟨16,by omega,by omega,rfl,hA4,hB4,hO4⟩
 case round =>
  obtain⟨n,hn16,hn,rfl,hA,hbel,hold⟩:=hrel
  clear hA4 hB4 hO4
  by_cases hlt:n<64
  · have hsl:(sch m (n - 16)).length=n:=by rw[zfd,hm];omega
    have c15:=zgb hA (n - 15) (by omega) (by omega)
    have c2:=zgb hA (n - 2) (by omega) (by omega)
    have c16:=zgb hA (n - 16) (by omega) (by omega)
    have c7:=zgb hA (n - 7) (by omega) (by omega)
    have f1:=hA.free n
    have cn:=hA.cell n (by rw[zga _ _ (by omega)];exact hlt)
    obtain⟨z,hz⟩:∃ z,z=(part (sch m (n - 16)) 64)[n]'(by rw[zga _ _ (by omega)];exact hlt):=⟨_,rfl⟩
    rw[←hz] at cn
    clear hz
    have hS:Arr (wr.setCell ⟨w.heap.size+1+1,n,none⟩ (.int .u32 (num (nxt (sch m (n - 16)))))) (w.heap.size+1+1) 252 (part (sch m (n+1 - 16)) 64):=by
     have:=hA.set n (nxt (sch m (n - 16)))
     have e1:=zot (sch m (n - 16)) 64 (nxt (sch m (n - 16))) (by omega)
     rw[hsl] at e1
     rw[e1] at this
     rw[show n+1 - 16=(n - 16)+1 by omega]
     exact this
    have hnx:nxt (sch m (n - 16))=ad (ad (ad ((sch m (n - 16)).getD (n - 16) 0) (s0 ((sch m (n - 16)).getD (n - 15) 0))) ((sch m (n - 16)).getD (n - 7) 0)) (s1 ((sch m (n - 16)).getD (n - 2) 0)):=by unfold nxt;rw[hsl]
    rw[hnx] at hS
    obtain⟨x,hx⟩:∃ x,x=(sch m (n - 16)).getD (n - 15) 0:=⟨_,rfl⟩
    obtain⟨y,hy⟩:∃ y,y=(sch m (n - 16)).getD (n - 2) 0:=⟨_,rfl⟩
    obtain⟨p,hp⟩:∃ p,p=(sch m (n - 16)).getD (n - 16) 0:=⟨_,rfl⟩
    obtain⟨q,hq⟩:∃ q,q=(sch m (n - 16)).getD (n - 7) 0:=⟨_,rfl⟩
    rw[←hx,←hy,←hp,←hq] at hS
    rw[←hx] at c15
    rw[←hy] at c2
    rw[←hp] at c16
    rw[←hq] at c7
    have HS:Hid (Arr (wr.setCell ⟨w.heap.size+1+1,n,none⟩ (.int .u32 (num (ad (ad (ad p (s0 x)) q) (s1 y))))) (w.heap.size+1+1) 252 (part (sch m (n+1 - 16)) 64)):=hS
    obtain⟨old,ho1,ho2⟩:=hold
    have HO:Hid (wr.heap[w.heap.size+1]? = some (.cells old 252 (0,0))):=ho1
    have HB:Hid (Below w.heap.size w wr):=hbel
    have i15:(n:Int) - 15=((n - 15:Nat):Int):=by omega
    have i2:(n:Int) - 2=((n - 2:Nat):Int):=by omega
    have i16:(n:Int) - 16=((n - 16:Nat):Int):=by omega
    have i7:(n:Int) - 7=((n - 7:Nat):Int):=by omega
    have hn64:(n:Int)<64:=by omega
    have H7:=fun W=>zdp x 7 7 W (by simp[zb3]) rfl
    have H18:=fun W=>zdp x 18 18 W (by simp[zb3]) rfl
    have H17:=fun W=>zdp y 17 17 W (by simp[zb3]) rfl
    have H19:=fun W=>zdp y 19 19 W (by simp[zb3]) rfl
    have hxo:=zhk
    have had:=zej
    have h3:=zhl x 3 8 (by decide)
    have h10:=zhl y 10 1024 (by decide)
    have hs0:Hid (xo (xo (rr x 7) (rr x 18)) (sr x 3)=s0 x):=rfl
    have hs1:Hid (xo (xo (rr y 17) (rr y 19)) (sr y 10)=s1 y):=rfl
    clear hx hy hp hq hA hsl hnx hS ho1 hbel
    go_wp2
    go_quiet (fail)
    go_wp2_with fail
    refine (H7 _).mono ?_
    rintro e w1 ⟨rfl,rfl⟩
    go_wp2_with fail
    refine (H18 _).mono ?_
    rintro e w1 ⟨rfl,rfl⟩
    go_wp2_with fail
    refine (H17 _).mono ?_
    rintro e w1 ⟨rfl,rfl⟩
    go_wp2_with fail
    refine (H19 _).mono ?_
    rintro e w1 ⟨rfl,rfl⟩
    go_wp2
    go_region
    go_wp2
    go_roundw
    case rel=>exact⟨n+1,by omega,by omega,by go_num,by have:=HS.out;exact this.kept rfl,⟨HB.out.os,HB.out.tape,HB.out.output,by have:=HB.out.size;simpa [World.setCell] using this,fun i hi=>(heap_setCell_other wr _ i _ (by simp;omega)).trans (HB.out.block i hi)⟩,old,(heap_setCell_other wr _ _ _ (by simp)).trans HO.out,ho2⟩
    case measure=>simp[intOf];omega
  · have hn64:n=64:=by omega
    subst hn64
    obtain⟨old,ho1,ho2⟩:=hold
    have hl48:(sch m 48).length=64:=by rw[zfd,hm]
    have hA':wr.heap[w.heap.size+1+1]? = some (.cells (zv (sch m 48)).toArray 252 (0,0)):=by
     have:=hA
     rw[zou _ _ (by exact hl48)] at this
     exact this
    have hz:(zv (sch m 48)).toArray.size=64:=by simp[zfb,hl48]
    have h1:=ze5 (sch m 48)
    rw[←HC.out] at hz h1 hA'
    have hsz:(Tryz.prog.info? 252).map (·.size)=some cs.size:=by rw[hz];exact zsh
    have hso:old.size=cs.size:=by omega
    have hW:=setRow_heap wr (w.heap.size+1) old cs 252 (0,0) ho1
    have hbW:=below_setRow hbel (Nat.le_succ _) cs
    clear hA hz ho2 hl48 hm
    go_wp2_with (first | refine wpList_load_row rfl 252 _ rfl (w.heap.size+1+1) rfl 252 cs (0,0) _ hA' Tryz.underlying252 rfl hsz ?_ | refine wpList_store_row rfl 252 _ _ rfl (w.heap.size+1) cs rfl rfl 252 old ho1 hsz hso h1 ?_)
    exact bodyPost_ret (v:=.agg cs) (results_cell_row rfl _ _ (w.heap.size+1) 252 cs (0,0) _ rfl hW Tryz.underlying252 rfl hsz) rfl ⟨rfl,hbW⟩
theorem ziw:(Tryz.prog.info? 197).map (·.size)=some 8:=by kernel_rfl
def Tab (w:World):Prop:=1<w.heap.size∧∀ i,i<64→w.cell? ⟨1,i,none⟩=some (.int .u32 (num (kL.getD i 0)))
theorem Tab.later {w w':World} (h:Tab w) (hb:Below w.heap.size w w'):Tab w':=⟨Nat.lt_of_lt_of_le h.1 hb.size,fun i hi=>(hb.cell (p:=⟨1,i,none⟩) h.1).trans (h.2 i hi)⟩
structure Same (W w:World):Prop where
 heap:w.heap=W.heap
 os:w.os=W.os
 tape:w.tape=W.tape
 output:w.output=W.output
theorem Same.refl (W:World):Same W W:=⟨rfl,rfl,rfl,rfl⟩
theorem Same.drewN {W w:World} (h:Same W w) (q:Nat):Same W (w.drewN q):=⟨h.heap,h.os,h.tape,h.output⟩
theorem Same.cell {W w:World} (h:Same W w) (a:Addr):w.cell? a=W.cell? a:=by simp only[World.cell?,h.heap]
theorem Same.below {W w w0:World} {B:Nat} (h:Same W w) (hb:Below B w0 W):Below B w0 w:=⟨h.os.trans hb.os,h.tape.trans hb.tape,h.output.trans hb.output,by rw[h.heap];exact hb.size,fun k hk=>by rw[h.heap];exact hb.block k hk⟩
theorem za4o (s : S8) (m : List UInt32) (w : World) (hm : m.length = 16) (hT : Tab w) :
 Calls Tryz.prog 169 #[.agg (zv s.l).toArray,.agg (zv m).toArray] w fun e w'=>e=.returned (.agg (zv (mix s m).l).toArray)∧Below w.heap.size w w':=by
 obtain⟨ms,hms⟩:∃ ms,ms=(zv m).toArray:=⟨_,rfl⟩
 have hmz:ms.size=16:=by rw[hms];simp[zfb,hm]
 have HS:=fun W=>za4n m W hm
 have hl48:(sch m 48).length=64:=by rw[zfd,hm]
 have hz64:(zv (sch m 48)).toArray.size=64:=by simp[zfb,hl48]
 have h164:=ze5 (sch m 48)
 rw[←hms] at HS ⊢
 obtain⟨fin,hfin⟩:∃ fin,fin=plus (rnds kL (sch m 48) s 64) s:=⟨_,rfl⟩
 have hfm:mix s m=fin:=by rw[hfin];rfl
 rw[hfm]
 obtain⟨cf,hcf⟩:∃ cf,cf=(zv fin.l).toArray:=⟨_,rfl⟩
 rw[←hcf]
 have HCF:Hid _:=hcf
 clear hcf
 obtain⟨ws,hws⟩:∃ ws,ws=sch m 48:=⟨_,rfl⟩
 rw[←hws] at HS hz64 h164 hl48 hfin
 obtain⟨cs,hcs⟩:∃ cs,cs=(zv ws).toArray:=⟨_,rfl⟩
 rw[←hcs] at HS hz64 h164
 have HC:Hid _:=hcs
 have HF:Hid _:=hfin
 clear hms hcs hfin hfm hws
 obtain⟨a,b,c,d,e,f,g,h⟩:=s
 simp only[S8.l,zv,List.map]
 have hsz16:(Tryz.prog.info? 227).map (·.size)=some ms.size:=by rw[hmz];exact zsg
 have hsz64:(Tryz.prog.info? 252).map (·.size)=some cs.size:=by rw[hz64];exact zsh
 have HW:=arr3 w (.cells #[.int .u32 (num a),.int .u32 (num b),.int .u32 (num c),.int .u32 (num d),.int .u32 (num e),.int .u32 (num f),.int .u32 (num g),.int .u32 (num h)] 197) (.cells ms 227) (.cells #[.int .u32 0,.int .u32 0,.int .u32 0,.int .u32 0,.int .u32 0,.int .u32 0,.int .u32 0,.int .u32 0] 197)
 obtain⟨W0,hW0⟩:∃ W0,W0=((w.alloc (.cells #[.int .u32 (num a),.int .u32 (num b),.int .u32 (num c),.int .u32 (num d),.int .u32 (num e),.int .u32 (num f),.int .u32 (num g),.int .u32 (num h)] 197)).alloc (.cells ms 227)).alloc (.cells #[.int .u32 0,.int .u32 0,.int .u32 0,.int .u32 0,.int .u32 0,.int .u32 0,.int .u32 0,.int .u32 0] 197):=⟨_,rfl⟩
 rw[←hW0] at HW
 have HH:Hid _:=HW
 have HX:Hid _:=hW0
 have hms:=HW.2.1
 rw[hW0] at hms
 clear HW hW0
 go_enter Tryz.func169,Tryz.ntmps169
 go_wp2_with (refine wpList_load_row rfl 227 _ rfl (w.heap.size+1) rfl 227 ms (0,0) _ hms Tryz.underlying227 rfl hsz16 ?_)
 rw[←HX.out]
 refine (HS _).mono ?_
 rintro e' w1 ⟨rfl,hb1⟩
 clear HS hms HX
 have hz0:w1.heap.size=w1.heap.size:=rfl
 go_wp2_with (refine zxr rfl 252 _ _ rfl w1.heap.size cs rfl rfl 252 _ (heap_alloc_new w1 _) hsz64 (hz64.symm ▸ rfl) h164 ?_;intro W2 hW2)
 have hg3:w.heap.size+3≤w1.heap.size:=by have:=hb1.size;have:=HH.out.2.2.2.1;omega
 have hst2:W2.heap[w.heap.size]? = some (.cells #[.int .u32 (num a),.int .u32 (num b),.int .u32 (num c),.int .u32 (num d),.int .u32 (num e),.int .u32 (num f),.int .u32 (num g),.int .u32 (num h)] 197 (0,0)):=by
  rw[hW2.other _ (by omega),Below.heap_alloc _ _ _ (by omega),hb1.block _ (by have:=HH.out.2.2.2.1;omega)];exact HH.out.1
 have hre2:W2.heap[w.heap.size+1+1]? = some (.cells #[.int .u32 0,.int .u32 0,.int .u32 0,.int .u32 0,.int .u32 0,.int .u32 0,.int .u32 0,.int .u32 0] 197 (0,0)):=by
  rw[hW2.other _ (by omega),Below.heap_alloc _ _ _ (by omega),hb1.block _ (by have:=HH.out.2.2.2.1;omega)];exact HH.out.2.2.1
 have hAw:Arr W2 w1.heap.size 252 (ws):=by have:=hW2.row;rw[HC.out] at this;exact this
 have hB2:Below w.heap.size w W2:=hW2.below ((HH.out.2.2.2.2.trans (hb1.mono (by have:=HH.out.2.2.2.1;omega))).alloc (by omega) _) (by omega)
 have hT2:Tab W2:=hT.later hB2
 have hs2:W2.heap.size=w1.heap.size+1:=by rw[hW2.size];simp
 have HST:Hid (_=_):=hst2
 have HRE:Hid (_=_):=hre2
 have q0:=cell_of_row W2 w.heap.size 0 _ _ _ hst2
 have q1:=cell_of_row W2 w.heap.size 1 _ _ _ hst2
 have q2:=cell_of_row W2 w.heap.size 2 _ _ _ hst2
 have q3:=cell_of_row W2 w.heap.size 3 _ _ _ hst2
 have q4:=cell_of_row W2 w.heap.size 4 _ _ _ hst2
 have q5:=cell_of_row W2 w.heap.size 5 _ _ _ hst2
 have q6:=cell_of_row W2 w.heap.size 6 _ _ _ hst2
 have q7:=cell_of_row W2 w.heap.size 7 _ _ _ hst2
 clear hst2 hre2 hb1 hW2 hsz16 hmz hz64 h164 HH hz0 hT
 go_wp2
 go_quiet (fail)
 go_wp2
 go_quiet (fail)
 go_wp2
 go_loopw [6,7,8,9,10,11,12,13,39] (fun xa xb xc xd xe xf xg xh i wr=>∃ n:Nat,∃ s:S8,n≤64∧i=.int .i64 (n:Int)∧Hid (s=rnds kL (ws) ⟨a,b,c,d,e,f,g,h⟩ n)∧Same W2 wr∧xa=.int .u32 (num s.a)∧xb=.int .u32 (num s.b)∧xc=.int .u32 (num s.c)∧xd=.int .u32 (num s.d)∧xe=.int .u32 (num s.e)∧xf=.int .u32 (num s.f)∧xg=.int .u32 (num s.g)∧xh=.int .u32 (num s.h)) (fun _ _ _ _ _ _ _ _ i _=>64 - (intOf i).toNat)
 case atStart=>exact⟨0,⟨a,b,c,d,e,f,g,h⟩,by omega,rfl,rfl,(Same.refl W2).drewN _ |>.drewN _,rfl,rfl,rfl,rfl,rfl,rfl,rfl,rfl⟩
 case round =>
  obtain⟨n,s,hn,rfl,HSS,hsame,rfl,rfl,rfl,rfl,rfl,rfl,rfl,rfl⟩:=hrel
  clear q0 q1 q2 q3 q4 q5 q6 q7
  by_cases hlt:n<64
  · have hk:=(hsame.cell _).trans (hT2.2 n hlt)
    have hwd:=(hsame.cell _).trans (hAw.cell n (by rw[hl48];exact hlt))
    have hgd:(ws)[n]'(by rw[hl48];exact hlt)=(ws).getD n 0:=by simp[List.getD,hl48,hlt]
    rw[hgd] at hwd
    have HN:Hid (rnd s (kL.getD n 0) ((ws).getD n 0)=rnds kL (ws) ⟨a,b,c,d,e,f,g,h⟩ (n+1)):=by rw[Hid,HSS.out];rfl
    obtain⟨k,hk'⟩:∃ k,k=kL.getD n 0:=⟨_,rfl⟩
    obtain⟨x,hx'⟩:∃ x,x=(ws).getD n 0:=⟨_,rfl⟩
    rw[←hk',←hx'] at HN
    rw[←hk'] at hk
    rw[←hx'] at hwd
    have hn64:(n:Int)<64:=by omega
    have h6:=fun W=>zdp s.e 6 6 W (by simp[zb3]) rfl
    have h11:=fun W=>zdp s.e 11 11 W (by simp[zb3]) rfl
    have h25:=fun W=>zdp s.e 25 25 W (by simp[zb3]) rfl
    have h2:=fun W=>zdp s.a 2 2 W (by simp[zb3]) rfl
    have h13:=fun W=>zdp s.a 13 13 W (by simp[zb3]) rfl
    have h22:=fun W=>zdp s.a 22 22 W (by simp[zb3]) rfl
    have hxo:=zhk
    have had:=zej
    have han:=zoq
    have hno:=zos
    have hadw:=zg9
    have hr:Hid (rnd s k x=⟨_,_,_,_,_,_,_,_⟩):=rfl
    clear hk' hx' hgd hAw hT2 HF HC HST HRE hB2 HSS
    go_wp2
    go_quiet (first | (go_at_call_of 205 (Value.int .i64 6);exact Calls.quiet_of_same (h6 _)) | (go_at_call_of 205 (Value.int .i64 11);exact Calls.quiet_of_same (h11 _)) | (go_at_call_of 205 (Value.int .i64 25);exact Calls.quiet_of_same (h25 _)))
    go_wp2_with fail
    refine (h2 _).mono ?_
    rintro e' w5 ⟨rfl,rfl⟩
    go_wp2_with fail
    refine (h13 _).mono ?_
    rintro e' w5 ⟨rfl,rfl⟩
    go_wp2_with fail
    refine (h22 _).mono ?_
    rintro e' w5 ⟨rfl,rfl⟩
    go_wp2
    go_roundw
    case rel=>exact⟨n+1,rnd s k x,by omega,by go_num,HN,hsame.drewN _,rfl,rfl,rfl,rfl,rfl,rfl,rfl,rfl⟩
    case measure=>simp[intOf];omega
  · have hn64:n=64:=by omega
    subst hn64
    have HS2:Hid _:=hsame
    have HFF:Hid (fin=plus s ⟨a,b,c,d,e,f,g,h⟩):=by rw[Hid,HF.out,HSS.out]
    have hsz:wr.heap.size=w1.heap.size+1:=by rw[hsame.heap];exact hs2
    clear hAw hT2 HF HC hsame HSS hm hl48
    have hst:Arr wr w.heap.size 197 (S8.l ⟨a,b,c,d,e,f,g,h⟩):=by unfold Arr;rw[HS2.out.heap];exact HST.out
    have hre:wr.heap[w.heap.size+1+1]? = some (.cells #[.int .u32 0,.int .u32 0,.int .u32 0,.int .u32 0,.int .u32 0,.int .u32 0,.int .u32 0,.int .u32 0] 197 (0,0)):=by rw[HS2.out.heap];exact HRE.out
    have hB3:=HS2.out.below hB2
    have A1:Hid (_∧_∧_):=⟨hst,hre,hB3⟩
    clear hst hre hB3 HST HRE HS2 hB2
    go_wp2
    go_loopw [20,113] (fun _ i wx=>∃ j:Nat,j≤8∧i=.int .i64 (j:Int)∧Arr wx (w1.heap.size+1) 197 (pl s ⟨a,b,c,d,e,f,g,h⟩ j)∧Arr wx w.heap.size 197 (S8.l ⟨a,b,c,d,e,f,g,h⟩)∧wx.heap[w.heap.size+1+1]? = some (.cells #[.int .u32 0,.int .u32 0,.int .u32 0,.int .u32 0,.int .u32 0,.int .u32 0,.int .u32 0,.int .u32 0] 197 (0,0))∧Below w.heap.size w wx) (fun _ i _=>8 - (intOf i).toNat)
    case atStart =>
     refine⟨0,by omega,rfl,?_,?_,?_,?_⟩
     · rw[zxy];exact zcj _ _ _ hsz
     · exact A1.out.1.kept (Below.heap_alloc _ _ _ (by omega))
     · exact (Below.heap_alloc _ _ _ (by omega)).trans A1.out.2.1
     · exact A1.out.2.2.alloc (by omega) _
    case round =>
     obtain⟨j,hj,rfl,hAj,hAs,hre,hbel⟩:=hrel
     clear A1
     by_cases hlt:j<8
     · have c1:=hAj.cell j (by rw[zjx];exact hlt)
       rw[zy0 s _ j hlt] at c1
       have c2:=hAs.cell j (by simp[S8.l];exact hlt)
       rw[zhm _ j hlt] at c2
       have f1:=hAj.free j
       have HP:Hid (Arr (wr.setCell ⟨w1.heap.size+1,j,none⟩ (.int .u32 (num (ad (s.l.getD j 0) (S8.l ⟨a,b,c,d,e,f,g,h⟩ |>.getD j 0))))) (w1.heap.size+1) 197 (pl s ⟨a,b,c,d,e,f,g,h⟩ (j+1))):=by
        have:=hAj.set j (ad (s.l.getD j 0) (S8.l ⟨a,b,c,d,e,f,g,h⟩ |>.getD j 0))
        rw[zy1 s _ j hlt] at this
        exact this
       obtain⟨x,hx⟩:∃ x,x=s.l.getD j 0:=⟨_,rfl⟩
       obtain⟨y,hy⟩:∃ y,y=(S8.l ⟨a,b,c,d,e,f,g,h⟩ |>.getD j 0):=⟨_,rfl⟩
       rw[←hx,←hy] at HP
       rw[←hx] at c1
       rw[←hy] at c2
       have hj8:(j:Int)<8:=by omega
       have had:=zej x y
       have hadw:=zg9 x y
       have B1:Hid (_∧_∧_):=⟨hAs,hre,hbel⟩
       clear hx hy hAj hAs hre hbel
       go_wp2
       go_region
       go_wp2
       go_roundw
       case rel=>exact⟨j+1,by omega,by go_num,by have:=HP.out;exact this.kept rfl,B1.out.1.kept (heap_setCell_other wr _ _ _ (by simp;omega)),(heap_setCell_other wr _ _ _ (by simp;omega)).trans B1.out.2.1,⟨B1.out.2.2.os,B1.out.2.2.tape,B1.out.2.2.output,by have:=B1.out.2.2.size;simpa [World.setCell] using this,fun i hi=>(heap_setCell_other wr _ i _ (by simp;omega)).trans (B1.out.2.2.block i hi)⟩⟩
       case measure=>simp[intOf];omega
     · have hj8:j=8:=by omega
       subst hj8
       rw[zxz,←HFF.out] at hAj
       have hA':wr.heap[w1.heap.size+1]? = some (.cells cf 197 (0,0)):=by rw[HCF.out];exact hAj
       have hz8:cf.size=8:=by rw[HCF.out];rfl
       have h18:cf.all (·.oneCell')=true:=by rw[HCF.out];exact ze5 _
       have hsz8:(Tryz.prog.info? 197).map (·.size)=some cf.size:=by rw[hz8];exact ziw
       have hbW:=below_setRow hbel (show w.heap.size≤w.heap.size+1+1 by omega) cf
       have hW:=setRow_heap wr (w.heap.size+1+1) _ cf 197 (0,0) hre
       clear hAj hAs
       go_wp2_with (first | refine wpList_load_row rfl 197 _ rfl (w1.heap.size+1) rfl 197 cf (0,0) _ hA' Tryz.underlying197 rfl hsz8 ?_ | refine wpList_store_row rfl 197 _ _ rfl (w.heap.size+1+1) cf rfl rfl 197 _ hre hsz8 hz8.symm h18 ?_)
       exact bodyPost_ret (v:=.agg cf) (results_cell_row rfl _ _ (w.heap.size+1+1) 197 _ (0,0) _ rfl hW Tryz.underlying197 rfl hsz8) rfl ⟨rfl,hbW⟩
end Go.Proofs.YtppljdnbhoeeoaaGreatDoor
