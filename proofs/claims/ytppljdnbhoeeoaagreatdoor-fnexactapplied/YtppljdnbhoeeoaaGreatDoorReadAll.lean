/-
 Texts that are laid as one: Reader, Item, Reads, ITake.
-/
import Derived.Test.YtppljdnbhoeeoaaGreatDoorMath2
import Derived.OneCell
import Derived.BigQuiet
namespace Go.Proofs.YtppljdnbhoeeoaaGreatDoor
open Go.RowKit
set_option linter.unusedVariables false
set_option maxHeartbeats 400000
set_option maxRecDepth 100000
structure Turned (b:Nat) (r':List UInt8) (w w':World):Prop where
 os:w'.os=w.os
 tape:w'.tape=w.tape
 output:w'.output=w.output
 size:w.heap.size≤w'.heap.size
 block:∀ k,k<w.heap.size→k≠b→w'.heap[k]? = w.heap[k]?
 cell:w'.heap[b]? = some (.cells #[.string ⟨r'.toArray⟩] 248 (0,0))
theorem Turned.trans {b:Nat} {r1 r2:List UInt8} {w w1 w2:World} (h:Turned b r1 w w1) (h2:Turned b r2 w1 w2):Turned b r2 w w2 :=
 ⟨h2.os.trans h.os,h2.tape.trans h.tape,h2.output.trans h.output,Nat.le_trans h.size h2.size,fun k hk hb=>(h2.block k (Nat.lt_of_lt_of_le hk h.size) hb).trans (h.block k hk hb),h2.cell⟩
theorem Turned.store {b:Nat} {r:List UInt8} {w:World} (h:w.heap[b]? = some (.cells #[.string ⟨r.toArray⟩] 248 (0,0))) (r':List UInt8):Turned b r' w (w.setCell ⟨b,0,none⟩ (.string ⟨r'.toArray⟩)) :=
 ⟨rfl,rfl,rfl,by simp[World.setCell],fun k _ hb=>Below.heap_setCell _ _ _ _ hb,one_setCell h⟩
theorem Turned.same {b:Nat} {r:List UInt8} {w:World} (h:w.heap[b]? = some (.cells #[.string ⟨r.toArray⟩] 248 (0,0))):Turned b r w w :=
 ⟨rfl,rfl,rfl,Nat.le_refl _,fun _ _ _=>rfl,h⟩
theorem Turned.alloc {b:Nat} {r:List UInt8} {w w':World} (h:Turned b r w w') (o:Obj):Turned b r w (w'.alloc o) :=
 ⟨h.os,h.tape,h.output,by have:=h.size;simp;omega,fun k hk hb=>by rw[Below.heap_alloc _ _ _ (Nat.lt_of_lt_of_le hk h.size)];exact h.block k hk hb,by rw[Below.heap_alloc _ _ _ (lt_of_block h.cell)];exact h.cell⟩
theorem Turned.drew {b:Nat} {r:List UInt8} {w w':World} (h:Turned b r w w'):Turned b r w w'.drew:=⟨h.os,h.tape,h.output,h.size,h.block,h.cell⟩
def zdk (e:Ending):Prop:=∃ msg:ByteArray,e=.panicked [{ v:=.iface 9 (.string msg),recovered:=false }]
theorem zfk (b n:Nat) (x:Int) (r:List UInt8) (w:World) (hx:x=(n:Int)) (hb:w.heap[b]? = some (.cells #[.string ⟨r.toArray⟩] 248 (0,0))) (hn:n≤r.length) (hr:r.length≤1048576) :
 Calls Tryz.prog 217 #[.pointer (some ⟨b,0,none⟩),.int .i64 x] w fun e w'=>e=.returned (.string ⟨(r.take n).toArray⟩)∧Turned b (r.drop n) w w':=by
 subst hx
 have hc:=cell_of_one hb
 have hf:=free_of_one hb
 have hn':(n:Int)≤(r.length:Int):=by omega
 have hs3:=zdf r n hn
 have hs4:=zbg r n hn
 have HT:=Turned.store hb (r.drop n)
 clear hb
 go_enter Tryz.func217,Tryz.ntmps217
 go_wp2
 go_ret
 exact⟨rfl,HT⟩
theorem zi4 (b n:Nat) (x:Int) (r:List UInt8) (w:World) (hx:x=(n:Int)) (hb:w.heap[b]? = some (.cells #[.string ⟨r.toArray⟩] 248 (0,0))) (hn:r.length<n) (hn':n≤16777216) :
 Calls Tryz.prog 217 #[.pointer (some ⟨b,0,none⟩),.int .i64 x] w fun e w'=>zdk e∧∃ r',Turned b r' w w':=by
 subst hx
 have hc:=cell_of_one hb
 have hf:=free_of_one hb
 have hn'':(r.length:Int)<(n:Int):=by omega
 have HT:=Turned.same hb
 clear hb
 go_enter Tryz.func217,Tryz.ntmps217
 go_wp2
 exact⟨rfl,⟨_,rfl⟩,r,HT⟩
theorem zqd (b m:Nat) (x:Int) (r:List UInt8) (w:World) (hx:x=(m:Int)) (hb:w.heap[b]? = some (.cells #[.string ⟨r.toArray⟩] 248 (0,0))) (hm:1≤m) (hm3:m≤3) (hn:m≤r.length) (hr:r.length≤1048576) (h0:r.head?≠some 0) :
 Calls Tryz.prog 225 #[.pointer (some ⟨b,0,none⟩),.int .i64 x] w fun e w'=>e=.returned (.int .i64 (valB (r.take m):Int))∧Turned b (r.drop m) w w':=by
 subst hx
 have hm':(m:Int)≤3:=by omega
 obtain⟨d,hd⟩:∃ d,d=r.take m:=⟨_,rfl⟩
 have hdl:d.length=m:=by rw[hd];simp;omega
 have hd1:d.length≤m:=by omega
 have hd2:m≤d.length:=by omega
 have h0':∃ c d',d=c :: d'∧c≠0:=by
  match r,hn,h0 with
  | [],hn,_=>simp at hn;omega
  | c :: r', _, h0 =>
    obtain⟨m',rfl⟩:∃ m',m=m'+1:=⟨m - 1,by omega⟩
    exact⟨c,r'.take m',by rw[hd];rfl,fun h=>h0 (by rw[h];rfl)⟩
 obtain⟨c,d',hdc,hc0⟩:=h0'
 have hic:∀ W,(Instr.index 9 (.string ⟨d.toArray⟩) (.int .i64 0)).run Tryz.prog W=.ok (.int .u8 (c.toNat:Int)) W:=fun W=>by
  rw[zcq (P:=Tryz.prog) Tryz.underlying9 d 0 0 rfl (by omega) W];simp[hdc]
 have hc':((c.toNat:Int) == 0)=false:=by
  simp only[beq_eq_false_iff_ne,ne_eq]
  intro h
  exact hc0 (UInt8.toNat_inj.1 (by simpa using h))
 have HK:=zfk b m m r w rfl hb hn hr
 rw[←hd] at HK ⊢
 clear hd hdc hc0 hb hdl h0
 go_enter Tryz.func225,Tryz.ntmps225
 go_wp2_with fail
 refine HK.mono ?_
 rintro e w1 ⟨rfl,hT⟩
 go_wp2
 go_loop [6,7,20] (fun n _ i=>∃ j:Nat,j≤m∧i=.int .i64 (j:Int)∧n=.int .i64 (valB (d.take j):Int)) (fun _ _ i=>m - (intOf i).toNat)
 case atStart=>exact⟨0,Nat.zero_le _,rfl,rfl⟩
 case round =>
  obtain⟨j,hj,rfl,rfl⟩:=hrel
  have hvj:valB (d.take j)<16777216:=zgi d j (by omega)
  by_cases hlt:j<m
  · have hjr:j<d.length:=by omega
    have hij:=zcq (P:=Tryz.prog) Tryz.underlying9 d (j:Int) j rfl hjr
    have HS:Hid (valB (d.take (j+1))=256*valB (d.take j)+d[j].toNat):=zk9 d j hjr
    obtain⟨x,hx⟩:∃ x,x=valB (d.take j):=⟨_,rfl⟩
    obtain⟨y,hy⟩:∃ y,y=d[j]:=⟨_,rfl⟩
    rw[←hx] at hvj HS ⊢
    rw[←hy] at hij HS
    have hyl:=y.toNat_lt
    clear hx hy
    go_wp2
    go_round
    case rel=>exact⟨j+1,by omega,by go_num,by rw[HS.out,zz0 x y.toNat hvj hyl]⟩
    case measure=>simp[intOf];omega
  · have hjm:j=m:=by omega
    subst hjm
    have HV:Hid (valB (d.take j)=valB d):=by rw[Hid,List.take_of_length_le (by omega)]
    go_wp2
    go_ret
    exact⟨by rw[←HV.out];rfl,hT⟩
theorem za0k (b m : Nat) (x : Int) (r : List UInt8) (w : World) (hx : x = (m : Int)) (hb : w.heap[b]? = some (.cells #[.string ⟨r.toArray⟩] 248 (0, 0))) (hm : 1 ≤ m) (hm8 : m ≤ 8) (hr : r.length ≤ 1048576) (h : r.length < m ∨ 3 < m ∨ r.head? = some 0) :
 Calls Tryz.prog 225 #[.pointer (some ⟨b,0,none⟩),.int .i64 x] w fun e w'=>zdk e∧∃ r',Turned b r' w w':=by
 subst hx
 by_cases h3:3<m
 · have h3':(3:Int)<(m:Int):=by omega
   have HT:=Turned.same hb
   clear hb h
   go_enter Tryz.func225,Tryz.ntmps225
   go_wp2
   exact⟨rfl,⟨_,rfl⟩,r,HT⟩
 · have h3' : (m : Int) ≤ 3 := by omega
   by_cases hf:r.length<m
   · have HK:=zi4 b m m r w rfl hb hf (by omega)
     clear hb h
     go_enter Tryz.func225,Tryz.ntmps225
     go_wp2_with fail
     refine HK.mono ?_
     rintro e w1 ⟨⟨msg,rfl⟩,hT⟩
     exact⟨rfl,⟨_,rfl⟩,hT⟩
   · have h0:r.head? = some 0:=by rcases h with h | h | h;exact absurd h hf;exact absurd h h3;exact h
     have HK:=zfk b m m r w rfl hb (by omega) hr
     obtain⟨d,hd⟩:∃ d,d=r.take m:=⟨_,rfl⟩
     have hdl:m≤d.length:=by rw[hd];simp;omega
     have hdc:∃ d',d=0 :: d':=by
      match r,hf,h0 with
      | [],hf,_=>simp at hf;omega
      | c :: r', _, h0 =>
        obtain⟨m',rfl⟩:∃ m',m=m'+1:=⟨m - 1,by omega⟩
        have:c=0:=by simpa using h0
        exact⟨r'.take m',by rw[hd,this];rfl⟩
     obtain⟨d',hdc⟩:=hdc
     have hic:∀ W,(Instr.index 9 (.string ⟨d.toArray⟩) (.int .i64 0)).run Tryz.prog W=.ok (.int .u8 0) W:=fun W=>by
      rw[zcq (P:=Tryz.prog) Tryz.underlying9 d 0 0 rfl (by omega) W];simp[hdc]
     rw[←hd] at HK
     clear hd hdc hb h h0
     go_enter Tryz.func225,Tryz.ntmps225
     go_wp2_with fail
     refine HK.mono ?_
     rintro e w1 ⟨rfl,hT⟩
     go_wp2
     exact⟨rfl,⟨_,rfl⟩,_,hT⟩
theorem zi5 (b n:Nat) (x:Int) (r bd rest:List UInt8) (w:World) (hx:x=(n:Int)) (hb:w.heap[b]? = some (.cells #[.string ⟨r.toArray⟩] 248 (0,0))) (hn:n≤63) (hr:r.length≤1048576) (h:zaz n r=some (bd,rest)) :
 Calls Tryz.prog 218 #[.pointer (some ⟨b,0,none⟩),.int .i64 x] w fun e w'=>e=.returned (.string ⟨bd.toArray⟩)∧Turned b rest w w':=by
 subst hx
 by_cases h55:n≤55
 · have h55':(n:Int)≤55:=by omega
   rw[zgj n r h55] at h
   by_cases hf:r.length<n
   · rw[if_pos hf] at h;cases h
   · rw[if_neg hf] at h
     cases h
     have HK:=zfk b n n r w rfl hb (by omega) hr
     clear hb
     go_enter Tryz.func218,Tryz.ntmps218
     go_wp2_with fail
     refine HK.mono ?_
     rintro e w1 ⟨rfl,hT⟩
     go_wp2
     go_ret
     exact⟨rfl,hT⟩
 · obtain⟨m,rfl⟩:∃ m,n=55+m:=⟨n - 55,by omega⟩
   rw[zgk m r (by omega)] at h
   by_cases hl:r.length<m∨3<m∨r.head? = some 0
   · rw[if_pos hl] at h;cases h
   · rw[if_neg hl] at h
     by_cases hf:valB (r.take m)≤55∨60000<valB (r.take m)∨(r.drop m).length<valB (r.take m)
     · rw[if_pos hf] at h;cases h
     · rw[if_neg hf] at h
       cases h
       have HK:=zqd b m (55+(m:Int) - 55) r w (by omega) hb (by omega) (by omega) (by omega) hr (fun h=>hl (.inr (.inr h)))
       have hrl:(r.drop m).length≤1048576:=by simp;omega
       obtain⟨v,hv⟩:∃ v,v=valB (r.take m):=⟨_,rfl⟩
       obtain⟨r2,hr2⟩:∃ r2,r2=r.drop m:=⟨_,rfl⟩
       rw[←hv,←hr2] at HK hf ⊢
       rw[←hr2] at hrl
       have hv1:¬ (v:Int)≤55:=by omega
       have hv2:¬ (60000:Int)<(v:Int):=by omega
       have hv3:v≤r2.length:=by omega
       have hm1:¬ (55+(m:Int))≤55:=by omega
       clear hb hl hv hr2 hf
       go_enter Tryz.func218,Tryz.ntmps218
       go_wp2_with fail
       refine HK.mono ?_
       rintro e w1 ⟨rfl,hT⟩
       go_wp2_with fail
       refine (zfk b v v r2 _ rfl hT.cell hv3 hrl).mono ?_
       rintro e w2 ⟨rfl,hT2⟩
       go_wp2
       go_ret
       exact⟨rfl,hT.trans hT2⟩
theorem zqe (b n:Nat) (x:Int) (r:List UInt8) (w:World) (hx:x=(n:Int)) (hb:w.heap[b]? = some (.cells #[.string ⟨r.toArray⟩] 248 (0,0))) (hn:n≤63) (hr:r.length≤1048576) (h:zaz n r=none) :
 Calls Tryz.prog 218 #[.pointer (some ⟨b,0,none⟩),.int .i64 x] w fun e w'=>zdk e∧∃ r',Turned b r' w w':=by
 subst hx
 by_cases h55:n≤55
 · have h55':(n:Int)≤55:=by omega
   rw[zgj n r h55] at h
   by_cases hf:r.length<n
   · have HK:=zi4 b n n r w rfl hb hf (by omega)
     clear hb h
     go_enter Tryz.func218,Tryz.ntmps218
     go_wp2_with fail
     refine HK.mono ?_
     rintro e w1 ⟨⟨msg,rfl⟩,hT⟩
     exact⟨rfl,⟨_,rfl⟩,hT⟩
   · rw[if_neg hf] at h;cases h
 · obtain ⟨m, rfl⟩ : ∃ m, n = 55 + m := ⟨n - 55, by omega⟩
   have hm1:¬ (55+(m:Int))≤55:=by omega
   rw[zgk m r (by omega)] at h
   by_cases hl:r.length<m∨3<m∨r.head? = some 0
   · have HK:=za0k b m (55+(m:Int) - 55) r w (by omega) hb (by omega) (by omega) hr hl
     clear hb h hl
     go_enter Tryz.func218,Tryz.ntmps218
     go_wp2_with fail
     refine HK.mono ?_
     rintro e w1 ⟨⟨msg,rfl⟩,hT⟩
     exact⟨rfl,⟨_,rfl⟩,hT⟩
   · rw [if_neg hl] at h
     by_cases hf:valB (r.take m)≤55∨60000<valB (r.take m)∨(r.drop m).length<valB (r.take m)
     · have HK:=zqd b m (55+(m:Int) - 55) r w (by omega) hb (by omega) (by omega) (by omega) hr (fun h=>hl (.inr (.inr h)))
       have hrl:(r.drop m).length≤1048576:=by simp;omega
       have hvl:valB (r.take m)<16777216:=zgi r m (by omega)
       obtain⟨v,hv⟩:∃ v,v=valB (r.take m):=⟨_,rfl⟩
       obtain⟨r2,hr2⟩:∃ r2,r2=r.drop m:=⟨_,rfl⟩
       rw[←hv,←hr2] at HK hf
       rw[←hr2] at hrl
       rw[←hv] at hvl
       clear hb h hl hv hr2
       by_cases hv1:v≤55
       · have hv1':(v:Int)≤55:=by omega
         clear hf
         go_enter Tryz.func218,Tryz.ntmps218
         go_wp2_with fail
         refine HK.mono ?_
         rintro e w1 ⟨rfl,hT⟩
         go_wp2
         exact⟨rfl,⟨_,rfl⟩,_,hT⟩
       · have hv1':¬ (v:Int)≤55:=by omega
         by_cases hv2:60000<v
         · have hv2':(60000:Int)<(v:Int):=by omega
           clear hf
           go_enter Tryz.func218,Tryz.ntmps218
           go_wp2_with fail
           refine HK.mono ?_
           rintro e w1 ⟨rfl,hT⟩
           go_wp2
           exact⟨rfl,⟨_,rfl⟩,_,hT⟩
         · have hv2':¬ (60000:Int)<(v:Int):=by omega
           have hv3:r2.length<v:=by omega
           clear hf
           go_enter Tryz.func218,Tryz.ntmps218
           go_wp2_with fail
           refine HK.mono ?_
           rintro e w1 ⟨rfl,hT⟩
           go_wp2_with fail
           refine (zi4 b v v r2 _ rfl hT.cell hv3 (by omega)).mono ?_
           rintro e w2 ⟨⟨msg,rfl⟩,r',hT2⟩
           exact⟨rfl,⟨_,rfl⟩,r',hT.trans hT2⟩
     · rw[if_neg hf] at h;cases h
theorem zi6 (b:Nat) (r bd rest:List UInt8) (k:Nat) (w:World) (hb:w.heap[b]? = some (.cells #[.string ⟨r.toArray⟩] 248 (0,0))) (hr:r.length≤1048576) (h:zn r=some (k,bd,rest)) :
 Calls Tryz.prog 202 #[.pointer (some ⟨b,0,none⟩)] w fun e w'=>e=.returned (.tuple #[.int .i64 (k:Int),.string ⟨bd.toArray⟩])∧Turned b rest w w':=by
 match r,hb,hr,h with
 | [],_,_,h=>cases h
 | c :: r', hb, hr, h =>
   have HK:=zfk b 1 1 (c :: r') w rfl hb (by simp) hr
   simp only[List.take_succ_cons,List.take_zero,List.drop_succ_cons,List.drop_zero] at HK
   have hix:∀ W,(Instr.index 9 (.string ⟨#[c]⟩) (.int .i64 0)).run Tryz.prog W=.ok (.int .u8 (c.toNat:Int)) W:=fun W=>by
    rw[show (ByteArray.mk #[c])=ByteArray.mk [c].toArray from rfl,zcq (P:=Tryz.prog) Tryz.underlying9 [c] 0 0 rfl (by simp) W];rfl
   have hcl:=c.toNat_lt
   by_cases h1:c.toNat<128
   · have e:zn (c :: r')=some (1,[c],r'):=by simp only[zn];rw[if_pos h1]
     rw[e] at h
     cases h
     have h1':(c.toNat:Int)<128:=by omega
     have hcv:=zxl [c] #[.int .u8 (c.toNat:Int)] rfl 1 rfl (by decide)
     clear hb e
     go_enter Tryz.func202,Tryz.ntmps202
     go_wp2_with fail
     refine HK.mono ?_
     rintro e w1 ⟨rfl,hT⟩
     go_wp2_with fail
     go_region
     all_goals go_wp2
     all_goals go_ret2
     all_goals exact⟨rfl,(hT.alloc _).drew⟩
   · have h1' : ¬ (c.toNat : Int) < 128 := by omega
     by_cases h2:c.toNat<192
     · have h2':(c.toNat:Int)<192:=by omega
       rw[ze7 c r' h1 h2] at h
       cases hbd:zaz (c.toNat - 128) r' with
       | none=>rw[hbd] at h;cases h
       | some x =>
         obtain⟨bd',rest'⟩:=x
         rw[hbd] at h
         simp only[zbt,Bool.true_and] at h
         by_cases hl:zb6 bd'=true
         · rw[if_pos hl] at h;cases h
         · rw [if_neg hl] at h
           cases h
           have hr':r'.length≤1048576:=by simp at hr;omega
           have HB:Hid (zaz (c.toNat - 128) r'=some (bd,rest)):=hbd
           clear hb hbd
           by_cases hb1:bd.length=1
           · obtain⟨d,rfl⟩:∃ d,bd=[d]:=by
              match bd,hb1 with
              | [d],_=>exact⟨d,rfl⟩
             have hd:¬ (d.toNat:Int)<128:=by simp[zb6] at hl;omega
             have hid:∀ W,(Instr.index 9 (.string ⟨#[d]⟩) (.int .i64 0)).run Tryz.prog W=.ok (.int .u8 (d.toNat:Int)) W:=fun W=>by
              rw[show (ByteArray.mk #[d])=ByteArray.mk [d].toArray from rfl,zcq (P:=Tryz.prog) Tryz.underlying9 [d] 0 0 rfl (by simp) W];rfl
             clear hl hb1
             go_enter Tryz.func202,Tryz.ntmps202
             go_wp2_with fail
             refine HK.mono ?_
             rintro e w1 ⟨rfl,hT⟩
             go_wp2_with fail
             refine (zi5 b (c.toNat - 128) _ r' [d] rest _ (by omega) hT.cell (by omega) hr' HB.out).mono ?_
             rintro e w2 ⟨rfl,hT2⟩
             go_wp2
             go_ret2
             exact⟨rfl,hT.trans hT2⟩
           · have hb1':((bd.length:Int) == 1)=false:=by simp only[beq_eq_false_iff_ne,ne_eq];omega
             clear hl hb1
             go_enter Tryz.func202,Tryz.ntmps202
             go_wp2_with fail
             refine HK.mono ?_
             rintro e w1 ⟨rfl,hT⟩
             go_wp2_with fail
             refine (zi5 b (c.toNat - 128) _ r' bd rest _ (by omega) hT.cell (by omega) hr' HB.out).mono ?_
             rintro e w2 ⟨rfl,hT2⟩
             go_wp2
             go_ret2
             exact⟨rfl,hT.trans hT2⟩
     · have h2':¬ (c.toNat:Int)<192:=by omega
       rw[ze8 c r' h2] at h
       cases hbd:zaz (c.toNat - 192) r' with
       | none=>rw[hbd] at h;cases h
       | some x =>
         obtain⟨bd',rest'⟩:=x
         rw[hbd] at h
         simp only[zbt,Bool.false_and,Bool.false_eq_true,if_false] at h
         cases h
         have hr':r'.length≤1048576:=by simp at hr;omega
         have HB:Hid (zaz (c.toNat - 192) r'=some (bd,rest)):=hbd
         clear hb hbd
         go_enter Tryz.func202,Tryz.ntmps202
         go_wp2_with fail
         refine HK.mono ?_
         rintro e w1 ⟨rfl,hT⟩
         go_wp2_with fail
         refine (zi5 b (c.toNat - 192) _ r' bd rest _ (by omega) hT.cell (by omega) hr' HB.out).mono ?_
         rintro e w2 ⟨rfl,hT2⟩
         go_wp2
         go_ret2
         exact⟨rfl,hT.trans hT2⟩
theorem zky (b:Nat) (r:List UInt8) (w:World) (hb:w.heap[b]? = some (.cells #[.string ⟨r.toArray⟩] 248 (0,0))) (hr:r.length≤1048576) (h:zn r=none) :
 Calls Tryz.prog 202 #[.pointer (some ⟨b,0,none⟩)] w fun e w'=>zdk e∧∃ r',Turned b r' w w':=by
 match r,hb,hr,h with
 | [], hb, _, _ =>
   have HK:=zi4 b 1 1 [] w rfl hb (by simp) (by omega)
   clear hb
   go_enter Tryz.func202,Tryz.ntmps202
   go_wp2_with fail
   refine HK.mono ?_
   rintro e w1 ⟨⟨msg,rfl⟩,hT⟩
   exact⟨rfl,⟨_,rfl⟩,hT⟩
 | c :: r', hb, hr, h =>
   have HK:=zfk b 1 1 (c :: r') w rfl hb (by simp) hr
   simp only[List.take_succ_cons,List.take_zero,List.drop_succ_cons,List.drop_zero] at HK
   have hix:∀ W,(Instr.index 9 (.string ⟨#[c]⟩) (.int .i64 0)).run Tryz.prog W=.ok (.int .u8 (c.toNat:Int)) W:=fun W=>by
    rw[show (ByteArray.mk #[c])=ByteArray.mk [c].toArray from rfl,zcq (P:=Tryz.prog) Tryz.underlying9 [c] 0 0 rfl (by simp) W];rfl
   have hcl:=c.toNat_lt
   by_cases h1:c.toNat<128
   · have e:zn (c :: r')=some (1,[c],r'):=by simp only[zn];rw[if_pos h1]
     rw[e] at h
     cases h
   · have h1':¬ (c.toNat:Int)<128:=by omega
     have hr':r'.length≤1048576:=by simp at hr;omega
     by_cases h2:c.toNat<192
     · have h2' : (c.toNat : Int) < 192 := by omega
       rw[ze7 c r' h1 h2] at h
       cases hbd:zaz (c.toNat - 128) r' with
       | none =>
         have HB:Hid (zaz (c.toNat - 128) r'=none):=hbd
         clear hb hbd h
         go_enter Tryz.func202,Tryz.ntmps202
         go_wp2_with fail
         refine HK.mono ?_
         rintro e w1 ⟨rfl,hT⟩
         go_wp2_with fail
         refine (zqe b (c.toNat - 128) _ r' _ (by omega) hT.cell (by omega) hr' HB.out).mono ?_
         rintro e w2 ⟨⟨msg,rfl⟩,r'',hT2⟩
         exact⟨rfl,⟨_,rfl⟩,r'',hT.trans hT2⟩
       | some x =>
         obtain⟨bd',rest'⟩:=x
         rw[hbd] at h
         simp only[zbt,Bool.true_and] at h
         by_cases hl:zb6 bd'=true
         · obtain⟨d,rfl,hd⟩:∃ d,bd'=[d]∧d.toNat<128:=by
            match bd',hl with
            | [d],hl=>exact⟨d,rfl,by simpa [zb6] using hl⟩
            | [],hl=>simp[zb6] at hl
            | _ :: _ :: _,hl=>simp[zb6] at hl
           have hd':(d.toNat:Int)<128:=by omega
           have hid:∀ W,(Instr.index 9 (.string ⟨#[d]⟩) (.int .i64 0)).run Tryz.prog W=.ok (.int .u8 (d.toNat:Int)) W:=fun W=>by
            rw[show (ByteArray.mk #[d])=ByteArray.mk [d].toArray from rfl,zcq (P:=Tryz.prog) Tryz.underlying9 [d] 0 0 rfl (by simp) W];rfl
           have HB:Hid (zaz (c.toNat - 128) r'=some ([d],rest')):=hbd
           clear hb hbd h hl
           go_enter Tryz.func202,Tryz.ntmps202
           go_wp2_with fail
           refine HK.mono ?_
           rintro e w1 ⟨rfl,hT⟩
           go_wp2_with fail
           refine (zi5 b (c.toNat - 128) _ r' [d] rest' _ (by omega) hT.cell (by omega) hr' HB.out).mono ?_
           rintro e w2 ⟨rfl,hT2⟩
           go_wp2
           exact⟨rfl,⟨_,rfl⟩,_,hT.trans hT2⟩
         · rw[if_neg hl] at h;cases h
     · have h2':¬ (c.toNat:Int)<192:=by omega
       rw[ze8 c r' h2] at h
       cases hbd:zaz (c.toNat - 192) r' with
       | none =>
         have HB:Hid (zaz (c.toNat - 192) r'=none):=hbd
         clear hb hbd h
         go_enter Tryz.func202,Tryz.ntmps202
         go_wp2_with fail
         refine HK.mono ?_
         rintro e w1 ⟨rfl,hT⟩
         go_wp2_with fail
         refine (zqe b (c.toNat - 192) _ r' _ (by omega) hT.cell (by omega) hr' HB.out).mono ?_
         rintro e w2 ⟨⟨msg,rfl⟩,r'',hT2⟩
         exact⟨rfl,⟨_,rfl⟩,r'',hT.trans hT2⟩
       | some x =>
         obtain⟨bd',rest'⟩:=x
         rw[hbd] at h
         simp only[zbt,Bool.false_and,Bool.false_eq_true,if_false] at h
         cases h
theorem catch_panicking (p:Addr) (x:Bool) (u:TypeId) (pv:Value) (older:List PanicEntry) (w:World) (hc:w.cell? p=some (.bool x)) (hz:w.frozen? p=false) :
 CallsD Tryz.prog 216 #[.pointer (some p)] (.panicking ({ v:=.iface u pv,recovered:=false } :: older)) w fun e u' w' =>
  e=.returned (.tuple #[])∧u'=.panicking ({ v:=.iface u pv,recovered:=true } :: older)∧w'=w.setCell p (.bool false):=by
 refine callsD_of_wpS Tryz.func216 rfl fun c₀ cs hu=>?_
 apply wpS_seq
 apply wpS_region
 simp[wpOpsS,go_sem,recoverD,hu,Tryz.ntmps216,Exit.thenS]
 refine wpS_cond (t:=true) (by simp[Act.eval,Array.replicate]) ?_
 simp only[if_true]
 apply wpS_region
 simp[wpOpsS,go_sem,hc,hz,bodyPostS,results,Tryz.results216]
theorem catch_idle (p:Addr) (w:World) :
 CallsD Tryz.prog 216 #[.pointer (some p)] .returning w fun e u' w'=>e=.returned (.tuple #[])∧u'=.returning∧w'=w:=by
 refine callsD_of_wpS Tryz.func216 rfl fun c₀ cs hu=>?_
 apply wpS_seq
 apply wpS_region
 simp[wpOpsS,go_sem,recoverD,hu,Tryz.ntmps216,Exit.thenS]
 refine wpS_cond (t:=false) (by simp[Act.eval,Array.replicate]) ?_
 simp only[Bool.false_eq_true,if_false]
 refine wpS_of_wp (wp_skip ?_)
 cases c₀
 simp_all [bodyPostS,results,Tryz.results216]
theorem za0l (caps:Array Value) (w:World) (R:World→Prop)
 (H:Calls Tryz.prog 201 caps (w.alloc (.cells #[.bool false] 4)) fun e w'=>e=.returned (.tuple #[])∧w'.heap[w.heap.size]? = some (.cells #[.bool false] 4 (0,0))∧R w') :
 Calls Tryz.prog 198 #[.func (.func 201) #[] caps] w fun e w'=>e=.returned (.bool true)∧∃ w1,R w1∧w'=w1.setCell ⟨w.heap.size,0,none⟩ (.bool true):=by
 have hmf:∀ (fn:Fn) (first cap:Array Value) (w:World),(Instr.makeFunc fn first cap).run Tryz.prog w=.ok (.func fn first cap) w:=fun _ _ _ _=>rfl
 go_enter_defers Tryz.func198,Tryz.ntmps198
 go_wp2_with fail
 refine H.mono ?_
 rintro e w1 ⟨rfl,hb,hR⟩
 have hc:=cell_of_one hb
 have hf:=free_of_one hb
 have hc2:=cell_of_one (one_setCell (u:=.bool true) hb)
 go_wp2
 refine leaves_cons (f:=216) (args:=#[.pointer (some ⟨w.heap.size,0,none⟩)]) (by simp) (by simp[go_sem]) ?_
 refine (catch_idle ⟨w.heap.size,0,none⟩ _).mono ?_
 rintro e u' w'' ⟨rfl,rfl,rfl⟩
 refine⟨.bool true,?_,rfl,w1,hR,rfl⟩
 simp[results,Tryz.results198,go_sem,hc2]
theorem za0m (caps:Array Value) (w:World) (R:World→Prop)
 (H:Calls Tryz.prog 201 caps (w.alloc (.cells #[.bool false] 4)) fun e w'=>zdk e∧w'.heap[w.heap.size]? = some (.cells #[.bool false] 4 (0,0))∧R w') :
 Calls Tryz.prog 198 #[.func (.func 201) #[] caps] w fun e w'=>e=.returned (.bool false)∧∃ w1,R w1∧w'=w1.setCell ⟨w.heap.size,0,none⟩ (.bool false):=by
 have hmf:∀ (fn:Fn) (first cap:Array Value) (w:World),(Instr.makeFunc fn first cap).run Tryz.prog w=.ok (.func fn first cap) w:=fun _ _ _ _=>rfl
 go_enter_defers Tryz.func198,Tryz.ntmps198
 go_wp2_with fail
 refine H.mono ?_
 rintro e w1 ⟨⟨msg,rfl⟩,hb,hR⟩
 have hc:=cell_of_one hb
 have hf:=free_of_one hb
 have hc2:=cell_of_one (one_setCell (u:=.bool false) hb)
 refine leaves_cons (f:=216) (args:=#[.pointer (some ⟨w.heap.size,0,none⟩)]) (by simp) (by simp[go_sem]) ?_
 refine (catch_panicking ⟨w.heap.size,0,none⟩ false 9 _ [] _ hc hf).mono ?_
 rintro e u' w'' ⟨rfl,rfl,rfl⟩
 simp[Leaves,settle,results,Tryz.results198,go_sem,hc2]
 exact⟨w1,hR,rfl⟩
structure TookR (W:World) (kb bb b:Nat) (kv bv rv:Value) (w':World):Prop where
 os:w'.os=W.os
 tape:w'.tape=W.tape
 output:w'.output=W.output
 size:W.heap.size≤w'.heap.size
 block:∀ j,j<W.heap.size→j≠kb→j≠bb→j≠b→w'.heap[j]? = W.heap[j]?
 kc:w'.heap[kb]? = some (.cells #[kv] 2 (0,0))
 bc:w'.heap[bb]? = some (.cells #[bv] 9 (0,0))
 rc:w'.heap[b]? = some (.cells #[rv] 248 (0,0))
theorem za0n (kb bb b:Nat) (r bd rest:List UInt8) (k:Nat) (kv bv:Value) (w:World) (h1:kb≠bb) (h2:kb≠b) (h3:bb≠b)
 (hk:w.heap[kb]? = some (.cells #[kv] 2 (0,0))) (hbb:w.heap[bb]? = some (.cells #[bv] 9 (0,0))) (hb:w.heap[b]? = some (.cells #[.string ⟨r.toArray⟩] 248 (0,0)))
 (hr:r.length≤1048576) (h:zn r=some (k,bd,rest)) :
 Calls Tryz.prog 201 #[.pointer (some ⟨b,0,none⟩),.pointer (some ⟨kb,0,none⟩),.pointer (some ⟨bb,0,none⟩)] w fun e w' =>
  e=.returned (.tuple #[])∧TookR w kb bb b (.int .i64 (k:Int)) (.string ⟨bd.toArray⟩) (.string ⟨rest.toArray⟩) w':=by
 have HK:=zi6 b r bd rest k w hb hr h
 have lk:=lt_of_block hk
 have lb:=lt_of_block hbb
 go_enter Tryz.func201,Tryz.ntmps201
 go_wp2_with fail
 refine HK.mono ?_
 rintro e w1 ⟨rfl,hT⟩
 have k1:=(hT.block kb lk h2).trans hk
 have b1:=(hT.block bb lb h3).trans hbb
 have ck:=cell_of_one k1
 have fk:=free_of_one k1
 have k2:=one_setCell (u:=.int .i64 (k:Int)) k1
 have b2:(w1.setCell ⟨kb,0,none⟩ (.int .i64 (k:Int))).heap[bb]? = some (.cells #[bv] 9 (0,0)):=by rw[Below.heap_setCell _ _ _ _ (Ne.symm h1)];exact b1
 have cb:=cell_of_one b2
 have fb:=free_of_one b2
 have b3:=one_setCell (u:=.string ⟨bd.toArray⟩) b2
 clear HK hk hbb hb
 have HR:TookR w kb bb b (.int .i64 (k:Int)) (.string ⟨bd.toArray⟩) (.string ⟨rest.toArray⟩) ((w1.setCell ⟨kb,0,none⟩ (.int .i64 (k:Int))).setCell ⟨bb,0,none⟩ (.string ⟨bd.toArray⟩)) :=
  ⟨hT.os, hT.tape, hT.output, by have := hT.size; simpa [World.setCell] using this,
   fun j hj n1 n2 n3=>by rw[Below.heap_setCell _ _ _ _ n2,Below.heap_setCell _ _ _ _ n1];exact hT.block j hj n3,
   by rw[Below.heap_setCell _ _ _ _ h1];exact k2,b3,
   by rw[Below.heap_setCell _ _ _ _ (Ne.symm h3),Below.heap_setCell _ _ _ _ (Ne.symm h2)];exact hT.cell⟩
 clear k1 b1 k2 b2 b3 hT
 go_wp2
 go_end0
 exact⟨rfl,HR⟩
theorem za0o (kb bb b:Nat) (r:List UInt8) (w:World)
 (hb:w.heap[b]? = some (.cells #[.string ⟨r.toArray⟩] 248 (0,0)))
 (hr:r.length≤1048576) (h:zn r=none) :
 Calls Tryz.prog 201 #[.pointer (some ⟨b,0,none⟩),.pointer (some ⟨kb,0,none⟩),.pointer (some ⟨bb,0,none⟩)] w fun e w'=>zdk e∧∃ r',Turned b r' w w':=by
 have HK:=zky b r w hb hr h
 clear hb h
 go_enter Tryz.func201,Tryz.ntmps201
 go_wp2_with fail
 refine HK.mono ?_
 rintro e w1 ⟨⟨msg,rfl⟩,hT⟩
 exact⟨rfl,⟨_,rfl⟩,hT⟩
theorem zqf (w:World) (A B C D:Obj) :
 ((((w.alloc A).alloc B).alloc C).alloc D).heap[w.heap.size]? = some A∧((((w.alloc A).alloc B).alloc C).alloc D).heap[w.heap.size+1]? = some B ∧
 ((((w.alloc A).alloc B).alloc C).alloc D).heap[w.heap.size+1+1]? = some C∧((((w.alloc A).alloc B).alloc C).alloc D).heap[w.heap.size+1+1+1]? = some D ∧
 ((((w.alloc A).alloc B).alloc C).alloc D).heap.size=w.heap.size+4:=by
 refine⟨?_,?_,?_,?_,by simp⟩
 · rw[Below.heap_alloc _ _ _ (by simp;omega),Below.heap_alloc _ _ _ (by simp;omega),Below.heap_alloc _ _ _ (by simp)];exact zcj _ _ _ rfl
 · rw[Below.heap_alloc _ _ _ (by simp),Below.heap_alloc _ _ _ (by simp)];exact zcj _ _ _ (by simp)
 · rw[Below.heap_alloc _ _ _ (by simp)];exact zcj _ _ _ (by simp)
 · exact zcj _ _ _ (by simp)
theorem zqg (w:World) (A B C D:Obj):Below w.heap.size w ((((w.alloc A).alloc B).alloc C).alloc D) :=
 ((((Below.refl _ _).alloc (Nat.le_refl _) _).alloc (by simp) _).alloc (by simp;omega) _).alloc (by simp;omega) _
theorem za0p (r bd rest:List UInt8) (k:Nat) (w:World) (hr:r.length≤1048576) (h:zn r=some (k,bd,rest)) :
 Calls Tryz.prog 166 #[.string ⟨r.toArray⟩] w fun e w'=>e=.returned (tkV (some (k,bd,rest)))∧Below w.heap.size w w':=by
 have hmf:∀ (fn:Fn) (first cap:Array Value) (w:World),(Instr.makeFunc fn first cap).run Tryz.prog w=.ok (.func fn first cap) w:=fun _ _ _ _=>rfl
 obtain⟨W,hW⟩:∃ W,W=(((w.alloc (.cells #[.int .i64 0] 2)).alloc (.cells #[.string ⟨#[]⟩] 9)).alloc (.cells #[.string ⟨r.toArray⟩] 248)):=⟨_,rfl⟩
 have HB:=zqf w (.cells #[.int .i64 0] 2) (.cells #[.string ⟨#[]⟩] 9) (.cells #[.string ⟨r.toArray⟩] 248) (.cells #[.bool false] 4)
 have HL:=zqg w (.cells #[.int .i64 0] 2) (.cells #[.string ⟨#[]⟩] 9) (.cells #[.string ⟨r.toArray⟩] 248) (.cells #[.bool false] 4)
 rw[←hW] at HB HL
 have hWs:W.heap.size=w.heap.size+1+1+1:=by rw[hW];simp
 have HC:=za0n w.heap.size (w.heap.size+1) (w.heap.size+1+1) r bd rest k _ _ (W.alloc (.cells #[.bool false] 4)) (by omega) (by omega) (by omega) HB.1 HB.2.1 HB.2.2.1 hr h
 have HD:=za0l _ W (TookR (W.alloc (.cells #[.bool false] 4)) w.heap.size (w.heap.size+1) (w.heap.size+1+1) (.int .i64 (k:Int)) (.string ⟨bd.toArray⟩) (.string ⟨rest.toArray⟩))
  (HC.mono fun e w' ⟨he,hR⟩=>⟨he,by rw[hWs,hR.block _ (by omega) (by omega) (by omega) (by omega)];exact HB.2.2.2.1,hR⟩)
 have hsz4:=HB.2.2.2.2
 rw[hWs] at HD
 have HL':∀ w',TookR (W.alloc (.cells #[.bool false] 4)) w.heap.size (w.heap.size+1) (w.heap.size+1+1) (.int .i64 (k:Int)) (.string ⟨bd.toArray⟩) (.string ⟨rest.toArray⟩) w'→Below w.heap.size w w':=fun w' hR =>
  HL.trans ⟨hR.os,hR.tape,hR.output,hR.size,fun j hj=>hR.block j (by omega) (by omega) (by omega) (by omega)⟩
 obtain⟨R,hRd⟩:∃ R,R=TookR (W.alloc (.cells #[.bool false] 4)) w.heap.size (w.heap.size+1) (w.heap.size+1+1) (.int .i64 (k:Int)) (.string ⟨bd.toArray⟩) (.string ⟨rest.toArray⟩):=⟨_,rfl⟩
 have HR1:∀ w',R w'→w'.heap[w.heap.size]? = some (.cells #[.int .i64 (k:Int)] 2 (0,0)):=fun w' h=>by rw[hRd] at h;exact h.kc
 have HR2:∀ w',R w'→w'.heap[w.heap.size+1]? = some (.cells #[.string ⟨bd.toArray⟩] 9 (0,0)):=fun w' h=>by rw[hRd] at h;exact h.bc
 have HR3:∀ w',R w'→w'.heap[w.heap.size+1+1]? = some (.cells #[.string ⟨rest.toArray⟩] 248 (0,0)):=fun w' h=>by rw[hRd] at h;exact h.rc
 have HR4:∀ w',R w'→Below w.heap.size w w':=fun w' h=>by rw[hRd] at h;exact HL' w' h
 rw[←hRd,hW] at HD
 clear HC HB h hRd HL HL' hsz4 hWs hW
 go_enter Tryz.func166,Tryz.ntmps166
 go_wp2_with fail
 refine HD.mono ?_
 rintro e w2 ⟨rfl,w1,hR,hw2⟩
 have c1:w2.cell? ⟨w.heap.size,0,none⟩=some (.int .i64 (k:Int)):=cell_of_one (t:=2) (by rw[hw2,Below.heap_setCell _ _ _ _ (by simp;omega)];exact HR1 w1 hR)
 have c2:w2.cell? ⟨w.heap.size+1,0,none⟩=some (.string ⟨bd.toArray⟩):=cell_of_one (t:=9) (by rw[hw2,Below.heap_setCell _ _ _ _ (by simp)];exact HR2 w1 hR)
 have c3:w2.cell? ⟨w.heap.size+1+1,0,none⟩=some (.string ⟨rest.toArray⟩):=cell_of_one (t:=248) (by rw[hw2,Below.heap_setCell _ _ _ _ (by simp)];exact HR3 w1 hR)
 have hbl:Below w.heap.size w w2:=by rw[hw2];exact (HR4 w1 hR).setCell (by simp;omega) _
 clear hR HR1 HR2 HR3 HR4 HD hw2
 go_wp2
 go_quiet (fail)
 go_wp2
 exact bodyPost_ret (v:=.tuple #[.int .i64 (k:Int),.string ⟨bd.toArray⟩,.string ⟨rest.toArray⟩,.bool true]) (by simp[results,Tryz.results166,go_sem]) rfl ⟨rfl,below_drewN hbl _⟩
theorem za0q (r:List UInt8) (w:World) (hr:r.length≤1048576) (h:zn r=none) :
 Calls Tryz.prog 166 #[.string ⟨r.toArray⟩] w fun e w'=>e=.returned (tkV none)∧Below w.heap.size w w':=by
 have hmf:∀ (fn:Fn) (first cap:Array Value) (w:World),(Instr.makeFunc fn first cap).run Tryz.prog w=.ok (.func fn first cap) w:=fun _ _ _ _=>rfl
 obtain⟨W,hW⟩:∃ W,W=(((w.alloc (.cells #[.int .i64 0] 2)).alloc (.cells #[.string ⟨#[]⟩] 9)).alloc (.cells #[.string ⟨r.toArray⟩] 248)):=⟨_,rfl⟩
 have HB:=zqf w (.cells #[.int .i64 0] 2) (.cells #[.string ⟨#[]⟩] 9) (.cells #[.string ⟨r.toArray⟩] 248) (.cells #[.bool false] 4)
 have HL:=zqg w (.cells #[.int .i64 0] 2) (.cells #[.string ⟨#[]⟩] 9) (.cells #[.string ⟨r.toArray⟩] 248) (.cells #[.bool false] 4)
 rw[←hW] at HB HL
 have hWs:W.heap.size=w.heap.size+1+1+1:=by rw[hW];simp
 have hsz4:=HB.2.2.2.2
 have HC:=za0o w.heap.size (w.heap.size+1) (w.heap.size+1+1) r (W.alloc (.cells #[.bool false] 4)) HB.2.2.1 hr h
 have HD:=za0m _ W (fun w'=>Below w.heap.size w w')
  (HC.mono fun e w' ⟨he,r',hR⟩=>⟨he,by rw[hWs,hR.block _ (by omega) (by omega)];exact HB.2.2.2.1,HL.trans ⟨hR.os,hR.tape,hR.output,hR.size,fun j hj=>hR.block j (by omega) (by omega)⟩⟩)
 rw[hWs,hW] at HD
 clear HC HB h HL hsz4 hWs hW
 go_enter Tryz.func166,Tryz.ntmps166
 go_wp2_with fail
 refine HD.mono ?_
 rintro e w2 ⟨rfl,w1,hR,hw2⟩
 have hbl:Below w.heap.size w w2:=by rw[hw2];exact hR.setCell (by simp;omega) _
 clear hR HD hw2
 go_wp2
 exact bodyPost_ret (v:=.tuple #[.int .i64 0,.string ⟨#[]⟩,.string ⟨#[]⟩,.bool false]) (by simp[results,Tryz.results166,go_sem]) rfl ⟨rfl,hbl⟩
theorem zqh (r:List UInt8) (w:World) (hr:r.length≤1048576) :
 Calls Tryz.prog 166 #[.string ⟨r.toArray⟩] w fun e w'=>e=.returned (tkV (zn r))∧Below w.heap.size w w':=by
 cases h:zn r with
 | none=>exact za0q r w hr h
 | some x=>obtain⟨k,bd,rest⟩:=x;exact za0p r bd rest k w hr h
end Go.Proofs.YtppljdnbhoeeoaaGreatDoor
