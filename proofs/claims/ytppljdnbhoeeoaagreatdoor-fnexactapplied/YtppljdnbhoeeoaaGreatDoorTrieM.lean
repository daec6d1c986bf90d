/-
 Texts that are laid as one: MathTrie, SCom, MathTr.
-/
import Derived.Test.YtppljdnbhoeeoaaGreatDoorPairs
namespace Go.Proofs.YtppljdnbhoeeoaaGreatDoor
open Go.RowKit
set_option linter.unusedVariables false
set_option maxHeartbeats 2000000
set_option maxRecDepth 100000
def zbi (t:List UInt8):za:=(sumL t,t)
def za0 (ns:List za):List UInt8:=match ns.getLast? with
 | none=>[]
 | some p=>p.1
def lcp:List UInt8→List UInt8→Nat
 | x :: xs,y :: ys=>if x=y then lcp xs ys+1 else 0
 | _,_=>0
def zc6 (p0:List UInt8) (qs:List (List UInt8)):Nat:=qs.foldl (fun n p=>min n (lcp p p0)) p0.length
def zo:List za→Nat
 | []=>0
 | e :: es=>zc6 e.1 (es.map (·.1))
def cutE (n:Nat) (es:List za):List za:=es.map fun e=>(e.1.drop n,e.2)
def grp1 (d:Nat) (e:za):Option za:=match e.1 with
 | []=>none
 | x :: xs=>if x.toNat=d then some (xs,e.2) else none
def grp (d:Nat) (es:List za):List za:=es.filterMap (grp1 d)
def endV (es:List za):List UInt8:=es.foldl (fun acc e=>if e.1=[] then e.2 else acc) []
def zev (e:za):List UInt8:=za8 [pack (za7 e.1 true),e.2]
def zee (p h:List UInt8):List UInt8:=za8 [pack (za7 p false),h]
def zew (hs:List (List UInt8)) (v:List UInt8):List UInt8:=za8 (hs ++ [v])
def zb2:List za→List UInt8
 | []=>[]
 | e :: _=>e.1
def zk:Nat→List za→List za
 | 0,_=>[]
 | f + 1, es =>
   match es with
   | []=>[]
   | [e]=>[zbi (zev e)]
   | e :: e' :: es' =>
     if 0<zo (e :: e' :: es') then
      zk f (cutE (zo (e :: e' :: es')) (e :: e' :: es')) ++ [zbi (zee (e.1.take (zo (e :: e' :: es'))) (za0 (zk f (cutE (zo (e :: e' :: es')) (e :: e' :: es')))))]
     else
      ((List.range 16).map fun d=>zk f (grp d (e :: e' :: es'))).flatten ++ [zbi (zew ((List.range 16).map fun d=>za0 (zk f (grp d (e :: e' :: es')))) (endV (e :: e' :: es')))]
theorem zgs (f:Nat):zk f []=[]:=by cases f <;> rfl
theorem zs1 (f:Nat) (e:za):zk (f+1) [e]=[zbi (zev e)]:=rfl
theorem zir (f:Nat) (es:List za) (h2:2≤es.length) (hc:0<zo es):zk (f+1) es=zk f (cutE (zo es) es) ++ [zbi (zee ((zb2 es).take (zo es)) (za0 (zk f (cutE (zo es) es))))]:=by
 match es,h2 with
 | e :: e' :: es',_=>simp only[zk,if_pos hc,zb2]
theorem zgt (f:Nat) (es:List za) (h2:2≤es.length) (hc:¬ 0<zo es):zk (f+1) es=((List.range 16).map fun d=>zk f (grp d es)).flatten ++ [zbi (zew ((List.range 16).map fun d=>za0 (zk f (grp d es))) (endV es))]:=by
 match es,h2 with
 | e :: e' :: es',_=>simp only[zk,if_neg hc]
theorem zlv (ns:List za) (p:za):za0 (ns ++ [p])=p.1:=by simp[za0]
theorem za45:za0 []=[]:=rfl
def Fits (f:Nat) (es:List za):Prop:=∀ e∈es,2*e.1.length+2≤f
theorem zlw:∀ a b:List UInt8,lcp a b≤b.length
 | [],_=>by simp[lcp]
 | _ :: _,[]=>by simp[lcp]
 | x :: xs, y :: ys => by
   simp only[lcp]
   split
   · have:=zlw xs ys;simp;omega
   · omega
theorem zft:∀ a b:List UInt8,lcp a b≤a.length
 | [],_=>by simp[lcp]
 | _ :: _,[]=>by simp[lcp]
 | x :: xs, y :: ys => by
   simp only[lcp]
   split
   · have:=zft xs ys;simp;omega
   · omega
theorem zgu (p0:List UInt8):∀ (qs:List (List UInt8)) (n:Nat),qs.foldl (fun n p=>min n (lcp p p0)) n≤n∧∀ q∈qs,qs.foldl (fun n p=>min n (lcp p p0)) n≤lcp q p0
 | [],n=>⟨Nat.le_refl _,fun _ h=>by simp at h⟩
 | q :: qs, n => by
   have:=zgu p0 qs (min n (lcp q p0))
   simp only[List.foldl_cons]
   refine⟨by omega,fun x hx=>?_⟩
   rcases List.mem_cons.1 hx with rfl | hx
   · omega
   · exact this.2 x hx
theorem zgv (es:List za):∀ e∈es,zo es≤e.1.length:=by
 match es with
 | []=>simp
 | e :: es =>
   have:=zgu e.1 (es.map (·.1)) e.1.length
   intro x hx
   simp only[zo,zc6]
   rcases List.mem_cons.1 hx with rfl | hx
   · exact this.1
   · exact Nat.le_trans (this.2 x.1 (List.mem_map_of_mem hx)) (zft _ _)
theorem zgw {f:Nat} {es:List za} (h:Fits (f+1) es) (hc:0<zo es):Fits f (cutE (zo es) es):=by
 intro e he
 obtain⟨x,hx,rfl⟩:=List.mem_map.1 he
 have h1:=h x hx
 have h2:=zgv es x hx
 simp only[List.length_drop]
 omega
theorem zis {f d:Nat} {es:List za} (h:Fits (f+1) es):Fits f (grp d es):=by
 intro e he
 obtain⟨x,hx,he⟩:=List.mem_filterMap.1 he
 have h1:=h x hx
 unfold grp1 at he
 split at he
 · cases he
 · rename_i y ys hy
   split at he
   · cases he
     rw[hy] at h1
     simp at h1
     simp only
     omega
   · cases he
theorem zit {f:Nat} {es:List za} (h:Fits f es) (hne:es≠[]):∃ g,f=g+1:=by
 match es,hne with
 | e :: _,_=>have:=h e (by simp);exact⟨f - 1,by omega⟩
theorem zex (n:Nat) (es:List za):(cutE n es).length=es.length:=by simp[cutE]
theorem za46 (d:Nat) (es:List za) (j:Nat) (h:j<es.length):grp d (es.take (j+1))=grp d (es.take j) ++ (grp1 d es[j]).toList:=by
 rw[zdv es j h,grp,List.filterMap_append]
 cases hg:grp1 d es[j] <;> simp[grp,hg]
theorem zs2 (d:Nat) (es:List za):(grp d es).length≤es.length:=List.length_filterMap_le _ _
theorem za47 (es : List za) : ((List.range 16).map fun d => (grp d es).length).sum ≤ es.length := by
 induction es with
 | nil=>simp only[grp,List.filterMap_nil,List.length_nil];decide
 | cons e es ih =>
   have h1:∀ d,(grp d (e :: es)).length=(grp1 d e).toList.length+(grp d es).length:=by
    intro d
    cases hg:grp1 d e <;> simp[grp,hg]
    omega
   have h2 : ((List.range 16).map fun d => (grp1 d e).toList.length).sum ≤ 1 := by
    unfold grp1
    cases e.1 with
    | nil=>simp only[Option.toList,List.length_nil];decide
    | cons x xs =>
      simp only
      · have : ∀ n, ((List.range n).map fun d => (if x.toNat = d then some (xs, e.2) else none).toList.length).sum = if x.toNat < n then 1 else 0 := by
         intro n
         induction n with
         | zero=>simp
         | succ n ih =>
           rw[List.range_succ,List.map_append,List.sum_append,ih]
           by_cases h1:x.toNat=n
           · simp[h1]
           · by_cases h2:x.toNat<n
             · simp[h1,h2];omega
             · have h3:¬ x.toNat<n+1:=by omega
               simp[h1,h2,h3]
        rw[this 16]
        split <;> omega
   have h3:((List.range 16).map fun d=>(grp d (e :: es)).length).sum=((List.range 16).map fun d=>(grp1 d e).toList.length).sum+((List.range 16).map fun d=>(grp d es).length).sum:=by
    simp only[h1]
    generalize List.range 16=l
    induction l with
    | nil=>rfl
    | cons a l ih=>simp only[List.map_cons,List.sum_cons,ih];omega
   rw[h3,List.length_cons]
   omega
theorem zgx:∀ (f:Nat) (es:List za),(zk f es).length≤es.length*f
 | 0,es=>by simp[zk]
 | f + 1, es => by
   by_cases h0:es.length=0
   · rw[List.length_eq_zero_iff.1 h0,zgs];simp
   · by_cases h1:es.length=1
     · obtain⟨e,rfl⟩:=List.length_eq_one_iff.1 h1
       rw[zs1];simp
     · have h2 : 2 ≤ es.length := by omega
       by_cases hc:0<zo es
       · rw[zir f es h2 hc,List.length_append]
         have:=zgx f (cutE (zo es) es)
         rw[zex] at this
         rw[Nat.mul_succ];simp;omega
       · rw [zgt f es h2 hc, List.length_append, List.length_flatten, List.map_map]
         have h3:((List.range 16).map (List.length ∘ fun d=>zk f (grp d es))).sum≤((List.range 16).map fun d=>(grp d es).length).sum*f:=by
          generalize List.range 16=l
          induction l with
          | nil=>simp
          | cons a l ih =>
            simp only[List.map_cons,List.sum_cons,Function.comp]
            have:=zgx f (grp a es)
            rw[Nat.add_mul]
            omega
         have h4:=Nat.mul_le_mul_right f (za47 es)
         rw[Nat.mul_succ];simp;omega
theorem ziu (es:List za) (j:Nat) (h:j<es.length):endV (es.take (j+1))=if es[j].1=[] then es[j].2 else endV (es.take j):=by
 rw[zdv es j h,endV,List.foldl_append];rfl
theorem zlx:∀ (a b:List UInt8) (k:Nat) (ha:k<a.length) (hb:k<b.length),k≤lcp a b→a[k]=b[k]→k+1≤lcp a b
 | [],_,k,ha,_,_,_=>by simp at ha
 | _ :: _,[],k,_,hb,_,_=>by simp at hb
 | x :: xs,y :: ys,0,_,_,_,h=>by simp at h;simp[lcp,h]
 | x :: xs, y :: ys, k + 1, ha, hb, hk, h => by
   simp only[lcp] at hk ⊢
   split at hk
   · rename_i e
     rw[if_pos e]
     have:=zlx xs ys k (by simpa using ha) (by simpa using hb) (by omega) (by simpa using h)
     omega
   · omega
theorem zly:∀ (a b:List UInt8) (k:Nat) (ha:k<a.length) (hb:k<b.length),k≤lcp a b→a[k]≠b[k]→lcp a b=k
 | [],_,k,ha,_,_,_=>by simp at ha
 | _ :: _,[],k,_,hb,_,_=>by simp at hb
 | x :: xs,y :: ys,0,_,_,_,h=>by simp at h;simp[lcp,h]
 | x :: xs, y :: ys, k + 1, ha, hb, hk, h => by
   simp only[lcp] at hk ⊢
   split at hk
   · rename_i e
     rw[if_pos e]
     have:=zly xs ys k (by simpa using ha) (by simpa using hb) (by omega) (by simpa using h)
     omega
   · omega
theorem za48 (p0:List UInt8) (qs:List (List UInt8)) (j:Nat) (h:j<qs.length):zc6 p0 (qs.take (j+1))=min (zc6 p0 (qs.take j)) (lcp qs[j] p0):=by
 rw[List.take_succ_eq_append_getElem h,zc6,List.foldl_append];rfl
theorem za49 (p0:List UInt8) (qs:List (List UInt8)):zc6 p0 qs≤p0.length:=(zgu p0 qs _).1
theorem zfu (l:List UInt8) (k:Nat) (h:k<l.length) (h':k<(ByteArray.mk l.toArray).size):(ByteArray.mk l.toArray)[k]'h'=l[k]:=rfl
theorem zs3 (a b:List UInt8) (k:Nat) (ha:k<a.length) (hb:k<b.length) (ha':k<(ByteArray.mk a.toArray).size) (hb':k<(ByteArray.mk b.toArray).size):((((ByteArray.mk a.toArray)[k]'ha').toNat:Int) == (((ByteArray.mk b.toArray)[k]'hb').toNat:Int))=decide (a[k]=b[k]):=by
 rw[zfu a k ha,zfu b k hb,Bool.eq_iff_iff]
 simp only[beq_iff_eq,decide_eq_true_eq]
 constructor
 · intro h;exact UInt8.toNat_inj.1 (by omega)
 · intro h;rw[h]
theorem zbj {B:Nat} {w w':World} {q:Nat} (h:Below B w w'):Below B w (w'.drewN q):=⟨h.os,h.tape,h.output,h.size,h.block⟩
theorem za4a (a:Option Addr) (cap:Nat) (p0:List UInt8) (qs:List (List UInt8)) (w:World) (hl:qs.length≤1000) (hm:∀ l∈p0 :: qs,l.length≤1000) (hs:zt w a (p0 :: qs)) :
 Calls Tryz.prog 164 #[.slice a (qs.length+1) cap] w fun e w'=>e=.returned (.int .i64 ((zc6 p0 qs:Nat):Int))∧Below w.heap.size w w':=by
 rcases hs with h | ⟨b,off,rfl,hc⟩
 · simp at h
 have c0:w.cell? ⟨b,off,none⟩=some (.string ⟨p0.toArray⟩):=by have:=hc 0 (by simp);simpa using this
 have HC:Hid (∀ j (h:j<qs.length),w.cell? ⟨b,off+(j+1),none⟩=some (.string ⟨qs[j].toArray⟩)):=fun j h=>by have:=hc (j+1) (by simpa using h);simpa using this
 have h0l:p0.length≤1000:=hm p0 (by simp)
 have HM:Hid (∀ j (h:j<qs.length),qs[j].length≤1000):=fun j h=>hm _ (by simp)
 have hblt:=World.block_lt_of_cell? w _ c0
 simp only at hblt
 clear hc hm
 go_enter Tryz.func164,Tryz.ntmps164
 go_wp2
 go_loopw [3,4] (fun n i wr=>∃ j:Nat,j≤qs.length∧i=.int .i64 ((j+1:Nat):Int)∧n=.int .i64 ((zc6 p0 (qs.take j):Nat):Int)∧Below w.heap.size w wr) (fun _ i _=>qs.length+1 - (intOf i).toNat)
 case atStart=>exact⟨0,Nat.zero_le _,rfl,by simp[zc6],Below.refl _ _⟩
 case round =>
  obtain⟨j,hj,rfl,rfl,hbel⟩:=hrel
  have hsz:=hbel.size
  by_cases hlt:j<qs.length
  · have hj1 : ((j + 1 : Nat) : Int) < (qs.length : Int) + 1 := by omega
    have hj0:(0:Int)≤((j+1:Nat):Int):=by omega
    have cj:=(hbel.cell (p:=⟨b,off+(j+1),none⟩) hblt).trans (HC.out j hlt)
    have cz:=(hbel.cell (p:=⟨b,off,none⟩) hblt).trans c0
    have hql:=HM.out j hlt
    have HS:Hid (zc6 p0 (qs.take (j+1))=min (zc6 p0 (qs.take j)) (lcp qs[j] p0)):=za48 p0 qs j hlt
    have hn0:=za49 p0 (qs.take j)
    obtain⟨n,hn⟩:∃ n,n=zc6 p0 (qs.take j):=⟨_,rfl⟩
    obtain⟨q,hq⟩:∃ q,q=qs[j]:=⟨_,rfl⟩
    rw[←hn] at hn0 HS ⊢
    rw[←hq] at cj hql HS
    clear hn hq HC HM c0
    go_wp2
    go_loopw [5] (fun kk wr'=>∃ k:Nat,k≤n∧k≤lcp q p0∧kk=.int .i64 (k:Int)∧Below w.heap.size w wr') (fun kk _=>n - (intOf kk).toNat)
    case atStart=>exact⟨0,Nat.zero_le _,Nat.zero_le _,rfl,hbel⟩
    case round =>
     obtain⟨k,hkn,hkl,rfl,hbel2⟩:=hrel
     have cj2:=(hbel2.cell (p:=⟨b,off+(j+1),none⟩) hblt).trans ((hbel.cell (p:=⟨b,off+(j+1),none⟩) hblt).symm.trans cj)
     have cz2:=(hbel2.cell (p:=⟨b,off,none⟩) hblt).trans ((hbel.cell (p:=⟨b,off,none⟩) hblt).symm.trans cz)
     have HLL:Hid (lcp q p0≤q.length∧lcp q p0≤p0.length):=⟨zft _ _,zlw _ _⟩
     clear cj cz
     by_cases h1:k<n
     · have h1':(k:Int)<(n:Int):=by omega
       by_cases h2:k<q.length
       · have h2':(k:Int)<(q.length:Int):=by omega
         have h3':(k:Int)<(p0.length:Int):=by omega
         have h3:k<p0.length:=by omega
         have hk0:(0:Int)≤(k:Int):=by omega
         have HB:=zs3 q p0 k h2 h3 (by simpa [ByteArray.size] using h2) (by simpa [ByteArray.size] using h3)
         by_cases he:q[k]=p0[k]
         · rw[decide_eq_true he] at HB
           have hk1:=zlx q p0 k h2 h3 hkl he
           clear he
           go_wp2
           go_quiet (fail)
           go_wp2
           go_roundw
           case rel=>exact⟨k+1,by omega,hk1,by go_num,zbj hbel2⟩
           case measure=>simp[intOf];omega
         · rw[decide_eq_false he] at HB
           have hk1:=zly q p0 k h2 h3 hkl he
           have HS2:Hid (zc6 p0 (qs.take (j+1))=k):=by rw[Hid,HS.out,hk1];omega
           clear he HS hk1
           go_wp2
           go_quiet (fail)
           go_wp2
           go_roundw
           case rel=>exact⟨j+1,by omega,by go_num,by rw[HS2.out],zbj hbel2⟩
           case measure=>simp[intOf];omega
       · have h2':¬ (k:Int)<(q.length:Int):=by omega
         have HS2:Hid (zc6 p0 (qs.take (j+1))=k):=by rw[Hid,HS.out];have:=HLL.out;omega
         clear HS
         go_wp2
         go_quiet (fail)
         go_wp2
         go_roundw
         case rel=>exact⟨j+1,by omega,by go_num,by rw[HS2.out],zbj hbel2⟩
         case measure=>simp[intOf];omega
     · have h1':¬ (k:Int)<(n:Int):=by omega
       have HS2:Hid (zc6 p0 (qs.take (j+1))=k):=by rw[Hid,HS.out];omega
       clear HS
       go_wp2
       go_quiet (fail)
       go_wp2
       go_roundw
       case rel=>exact⟨j+1,by omega,by go_num,by rw[HS2.out],zbj hbel2⟩
       case measure=>simp[intOf];omega
  · have hj1:¬ ((j+1:Nat):Int)<(qs.length:Int)+1:=by omega
    obtain rfl:j=qs.length:=by omega
    rw[List.take_length]
    go_wp2
    go_ret
    exact⟨rfl,hbel⟩
theorem zs4 (p q : List UInt8) (w : World) (hp : p.length ≤ 1000) (hq : q.length ≤ 1000) :
 Calls Tryz.prog 112 #[.string ⟨p.toArray⟩,.string ⟨q.toArray⟩] w fun e w'=>e=.returned (.int .i64 ((lcp p q:Nat):Int))∧Below w.heap.size w w':=by
 have HLL:Hid (lcp p q≤p.length∧lcp p q≤q.length):=⟨zft _ _,zlw _ _⟩
 go_enter Tryz.func112,Tryz.ntmps112
 go_wp2
 go_loopw [5] (fun kk wr=>∃ k:Nat,k≤lcp p q∧kk=.int .i64 (k:Int)∧Below w.heap.size w wr) (fun kk _=>p.length - (intOf kk).toNat)
 case atStart=>exact⟨0,Nat.zero_le _,rfl,Below.refl _ _⟩
 case round =>
  obtain⟨k,hkl,rfl,hbel2⟩:=hrel
  have hkb:k≤1000:=by have:=HLL.out;omega
  by_cases h1:k<p.length
  · have h1':(k:Int)<(p.length:Int):=by omega
    by_cases h2:k<q.length
    · have h2':(k:Int)<(q.length:Int):=by omega
      have hk0:(0:Int)≤(k:Int):=by omega
      have HB:=zs3 p q k h1 h2 (by simpa [ByteArray.size] using h1) (by simpa [ByteArray.size] using h2)
      by_cases he:p[k]=q[k]
      · rw[decide_eq_true he] at HB
        have hk1:=zlx p q k h1 h2 hkl he
        clear he
        go_wp2
        first | go_quiet (fail) | skip
        go_wp2
        go_roundw
        case rel=>exact⟨k+1,hk1,by go_num,by first | exact hbel2 | exact zbj hbel2⟩
        case measure=>simp[intOf];omega
      · rw[decide_eq_false he] at HB
        have HS2:Hid (lcp p q=k):=zly p q k h1 h2 hkl he
        clear he hkl
        go_wp2
        first | go_quiet (fail) | skip
        go_wp2
        go_ret
        exact⟨by rw[HS2.out];rfl,by first | exact hbel2 | exact zbj hbel2⟩
    · have h2':¬ (k:Int)<(q.length:Int):=by omega
      have HS2:Hid (lcp p q=k):=by rw[Hid];have:=HLL.out;omega
      clear hkl
      go_wp2
      first | go_quiet (fail) | skip
      go_wp2
      go_ret
      exact⟨by rw[HS2.out];rfl,by first | exact hbel2 | exact zbj hbel2⟩
  · have h1':¬ (k:Int)<(p.length:Int):=by omega
    have HS2:Hid (lcp p q=k):=by rw[Hid];have:=HLL.out;omega
    clear hkl
    go_wp2
    first | go_quiet (fail) | skip
    go_wp2
    go_ret
    exact⟨by rw[HS2.out];rfl,by first | exact hbel2 | exact zbj hbel2⟩
def zbx (es:List za):Prop:=es.Pairwise fun a b=>Op.bytesLess a.1 b.1=true
theorem zlz:∀ a b:List UInt8,lcp a b=lcp b a
 | [],[]=>rfl
 | [],_ :: _=>rfl
 | _ :: _,[]=>rfl
 | x :: xs, y :: ys => by
   simp only[lcp]
   by_cases h:x=y
   · rw[if_pos h,if_pos h.symm,zlz xs ys]
   · rw[if_neg h,if_neg (fun e=>h e.symm)]
theorem ziv (a:List UInt8):Op.bytesLess a []=false:=by cases a <;> rfl
theorem zey (x y:UInt8) (xs ys:List UInt8):Op.bytesLess (x :: xs) (y :: ys)=(decide (x<y) || (decide (x=y) && Op.bytesLess xs ys)):=by
 simp only[Op.bytesLess]
 by_cases h1:x<y
 · simp[h1]
 · by_cases h2:x=y
   · subst h2;simp
   · have h3:y<x:=by
      rcases UInt8.lt_or_lt_of_ne h2 with h | h
      · exact absurd h h1
      · exact h
     simp[h1,h2]
theorem zs5:∀ a b c:List UInt8,Op.bytesLess a b=true→Op.bytesLess b c=true→lcp a c≤lcp a b
 | [],_,_,_,_=>by simp[lcp]
 | _ :: _,[],_,h,_=>by rw[ziv] at h;cases h
 | _ :: _,_ :: _,[],_,h=>by rw[ziv] at h;cases h
 | x :: xs, y :: ys, z :: zs, h1, h2 => by
   rw[zey] at h1 h2
   simp only[Bool.or_eq_true,Bool.and_eq_true,decide_eq_true_eq] at h1 h2
   simp only[lcp]
   by_cases hxz:x=z
   · rw [if_pos hxz]
     rcases h1 with h1 | ⟨h1,h1'⟩
     · rcases h2 with h2 | ⟨h2,_⟩
       · rw[hxz] at h1;exact absurd (UInt8.lt_trans h1 h2) (UInt8.lt_irrefl _)
       · rw[hxz,h2] at h1;exact absurd h1 (UInt8.lt_irrefl _)
     · rcases h2 with h2 | ⟨h2,h2'⟩
       · rw[←h1,hxz] at h2;exact absurd h2 (UInt8.lt_irrefl _)
       · rw[if_pos h1]
         have:=zs5 xs ys zs h1' h2'
         omega
   · rw[if_neg hxz];omega
theorem zs6 (p0:List UInt8) (m:Nat):∀ (qs:List (List UInt8)) (n:Nat),m≤n→(∀ q∈qs,m≤lcp q p0)→m≤qs.foldl (fun n p=>min n (lcp p p0)) n
 | [],n,h,_=>h
 | q :: qs, n, h, hq => by
   simp only[List.foldl_cons]
   exact zs6 p0 m qs _ (by have:=hq q (by simp);omega) (fun x hx=>hq x (by simp[hx]))
theorem zs7 (es:List za) (h2:2≤es.length) (hr:zbx es):zo es=lcp (es[0]'(by omega)).1 (es[es.length - 1]'(by omega)).1:=by
 match es,h2 with
 | e :: e' :: es', _ =>
   have hp:=List.pairwise_cons.1 hr
   have hlast:(e :: e' :: es')[(e :: e' :: es').length - 1]'(by simp)∈e' :: es':=by
    have:(e :: e' :: es')[(e :: e' :: es').length - 1]'(by simp)=(e' :: es')[es'.length]'(by simp):=by simp
    rw[this];exact List.getElem_mem _
   obtain⟨l,hl⟩:∃ l,l=(e :: e' :: es')[(e :: e' :: es').length - 1]'(by simp):=⟨_,rfl⟩
   rw[←hl] at hlast ⊢
   show zc6 e.1 ((e' :: es').map (·.1))=lcp e.1 l.1
   have f:=zgu e.1 ((e' :: es').map (·.1)) e.1.length
   apply Nat.le_antisymm
   · rw[zlz]
     exact f.2 l.1 (List.mem_map_of_mem hlast)
   · apply zs6
     · exact zft _ _
     · intro q hq
       obtain⟨x,hx,rfl⟩:=List.mem_map.1 hq
       rw[zlz x.1 e.1]
       by_cases hxl:x=l
       · rw[hxl];exact Nat.le_refl _
       · apply zs5 e.1 x.1 l.1 (hp.1 x hx)
         obtain⟨i,hi,rfl⟩:=List.getElem_of_mem hx
         have hl2:l=(e' :: es')[es'.length]'(by simp):=by rw[hl];simp
         have hne:i≠es'.length:=fun e=>hxl (by rw[hl2];simp[e])
         rw[hl2]
         exact List.pairwise_iff_getElem.1 hp.2 i es'.length hi (by simp) (by simp at hi;omega)
theorem zs8:∀ (n:Nat) (a b:List UInt8),n≤lcp a b→a.take n=b.take n
 | 0,_,_,_=>by simp
 | n+1,[],_,h=>by simp[lcp] at h
 | n+1,_ :: _,[],h=>by simp[lcp] at h
 | n + 1, x :: xs, y :: ys, h => by
   simp only[lcp] at h
   split at h
   · rename_i e
     rw[List.take_succ_cons,List.take_succ_cons,e,zs8 n xs ys (by omega)]
   · omega
theorem zs9:∀ (n:Nat) (a b:List UInt8),n≤a.length→n≤b.length→a.take n=b.take n→Op.bytesLess a b=Op.bytesLess (a.drop n) (b.drop n)
 | 0,_,_,_,_,_=>by simp
 | n+1,[],_,h,_,_=>by simp at h
 | n+1,_ :: _,[],_,h,_=>by simp at h
 | n + 1, x :: xs, y :: ys, h1, h2, h => by
   rw[List.take_succ_cons,List.take_succ_cons] at h
   obtain⟨e,h'⟩:=List.cons.inj h
   rw[zey,List.drop_succ_cons,List.drop_succ_cons,e,←zs9 n xs ys (by simpa using h1) (by simpa using h2) h']
   simp[UInt8.lt_irrefl]
theorem zsa (es:List za) (n:Nat) (hn:n≤zo es):∀ e∈es,e.1.take n=(zb2 es).take n:=by
 match es with
 | []=>simp
 | e :: es =>
   intro x hx
   rcases List.mem_cons.1 hx with rfl | hx
   · rfl
   · have f:=(zgu e.1 (es.map (·.1)) e.1.length).2 x.1 (List.mem_map_of_mem hx)
     exact zs8 n x.1 e.1 (Nat.le_trans hn f)
theorem za4b {n:Nat} {es:List za} (hr:zbx es) (hn:n≤zo es):zbx (cutE n es):=by
 unfold zbx cutE
 rw[List.pairwise_map]
 refine List.Pairwise.imp_of_mem ?_ hr
 intro a b ha hb h
 rw[←zs9 n a.1 b.1 (Nat.le_trans hn (zgv es a ha)) (Nat.le_trans hn (zgv es b hb)) (by rw[zsa es n hn a ha,zsa es n hn b hb])]
 exact h
theorem zsb {d:Nat} {e r:za} (h:grp1 d e=some r):∃ x,e.1=x :: r.1∧x.toNat=d∧e.2=r.2:=by
 unfold grp1 at h
 split at h
 · cases h
 · rename_i x xs hx
   split at h
   · rename_i hd
     cases h
     exact⟨x,hx,hd,rfl⟩
   · cases h
theorem za4c {d:Nat} {es:List za} (hr:zbx es):zbx (grp d es):=by
 unfold zbx grp
 rw[List.pairwise_filterMap]
 refine List.Pairwise.imp ?_ hr
 intro a b h r hr' q hq
 obtain⟨x,hx,hxd,_⟩:=zsb hr'
 obtain⟨y,hy,hyd,_⟩:=zsb hq
 have hxy:x=y:=UInt8.toNat_inj.1 (by omega)
 rw[hx,hy,zey,hxy] at h
 simpa [UInt8.lt_irrefl] using h
def hdE (e:za):Option UInt8:=e.1.head?
theorem zsc {a b:za} {x y:UInt8} (h:Op.bytesLess a.1 b.1=true) (ha:hdE a=some x) (hb:hdE b=some y):x≤y:=by
 unfold hdE at ha hb
 match h1:a.1,h2:b.1 with
 | [],_=>rw[h1] at ha;simp at ha
 | _ :: _,[]=>rw[h2] at hb;simp at hb
 | x' :: xs, y' :: ys =>
   rw[h1] at ha;rw[h2] at hb
   simp at ha hb
   subst ha hb
   rw[h1,h2,zey] at h
   simp only[Bool.or_eq_true,Bool.and_eq_true,decide_eq_true_eq] at h
   rcases h with h | h
   · exact UInt8.le_of_lt h
   · rw[h.1];exact UInt8.le_refl _
theorem za4d {d:Nat} {e:za} (h:∀ x,hdE e=some x→x.toNat≠d):grp1 d e=none:=by
 unfold grp1
 split
 · rfl
 · rename_i x xs hx
   rw[if_neg (h x (by simp[hdE,hx]))]
theorem za4e {e:za} {x:UInt8} (h:hdE e=some x):grp1 x.toNat e=some (e.1.drop 1,e.2):=by
 unfold hdE at h
 unfold grp1
 match h1:e.1 with
 | []=>rw[h1] at h;simp at h
 | y :: ys =>
   rw[h1] at h
   simp at h
   subst h
   simp
theorem zsd {d:Nat} {es:List za} (h:∀ e∈es,∀ x,hdE e=some x→x.toNat≠d):grp d es=[]:=by
 rw[grp,List.filterMap_eq_nil_iff]
 exact fun e he=>za4d (h e he)
theorem za4f {x:UInt8} {es:List za} (h:∀ e∈es,hdE e=some x):grp x.toNat es=cutE 1 es:=by
 induction es with
 | nil=>rfl
 | cons e es ih =>
   rw[grp,List.filterMap_cons,za4e (h e (by simp))]
   simp only[cutE,List.map_cons]
   rw[←grp,ih (fun y hy=>h y (by simp[hy]))]
   rfl
def subE (es:List za) (i e:Nat):List za:=(es.drop i).take (e - i)
theorem za4g (es:List za) (i e:Nat) (h:i≤e):es.take e=es.take i ++ subE es i e:=by
 have:e=i+(e - i):=by omega
 conv=>lhs;rw[this]
 rw[List.take_add,subE]
theorem zse {es:List za} {i e:Nat} {y:za} (h:y∈subE es i e):∃ k,∃ hk:k<es.length,i≤k∧k<e∧es[k]=y:=by
 obtain⟨m,hm,rfl⟩:=List.getElem_of_mem h
 simp[subE] at hm
 exact⟨i+m,by omega,by omega,by omega,by simp[subE]⟩
theorem zgy {es:List za} {i e:Nat} {x:UInt8} (hie:i≤e) (hb:∀ k (hk:k<es.length),k<i→hdE es[k]≠some x) (hrun:∀ k (hk:k<es.length),i≤k→k<e→hdE es[k]=some x) :
 grp x.toNat (es.take e)=cutE 1 (subE es i e)∧∀ d,d≠x.toNat→grp d (es.take e)=grp d (es.take i):=by
 have happ:∀ d,grp d (es.take e)=grp d (es.take i) ++ grp d (subE es i e):=fun d=>by rw[za4g es i e hie,grp,List.filterMap_append];rfl
 constructor
 · rw [happ, zsd, List.nil_append]
   · exact za4f (fun y hy=>by
      obtain⟨k,hk,h1,h2,rfl⟩:=zse hy
      exact hrun k hk h1 h2)
   · intro y hy z hz hzx
     obtain⟨k,hk,rfl⟩:=List.getElem_of_mem hy
     simp at hk
     simp only[List.getElem_take] at hz
     exact hb k (by omega) (by omega) (by rw[hz,UInt8.toNat_inj.1 hzx])
 · intro d hd
   rw[happ,zsd (es:=subE es i e),List.append_nil]
   intro y hy z hz hzd
   obtain⟨k,hk,h1,h2,rfl⟩:=zse hy
   rw[hrun k hk h1 h2] at hz
   cases hz
   exact hd hzd.symm
theorem zsf {es:List za} {i e:Nat} {x:UInt8} (hr:zbx es) (hi:i<e) (he:e<es.length) (hb:∀ k (hk:k<es.length),k<i→hdE es[k]≠some x) (hrun:∀ k (hk:k<es.length),i≤k→k<e→hdE es[k]=some x) (hx:hdE es[e]≠some x) :
 ∀ k (hk:k<es.length),k<e→hdE es[k]=none∨hdE es[k]≠hdE es[e]:=by
 intro k hk hke
 by_cases hik:i≤k
 · right
   rw[hrun k hk hik hke]
   exact fun h=>hx h.symm
 · cases hz:hdE es[k] with
   | none=>exact .inl rfl
   | some z =>
     right
     intro h
     have h1:=zsc (List.pairwise_iff_getElem.1 hr k i hk (by omega) (by omega)) hz (hrun i (by omega) (Nat.le_refl _) hi)
     have h2:=zsc (List.pairwise_iff_getElem.1 hr i e (by omega) he hi) (hrun i (by omega) (Nat.le_refl _) hi) h.symm
     have:z=x:=UInt8.le_antisymm h1 h2
     exact hb k hk (by omega) (by rw[hz,this])
theorem za4h {es:List za} (hr:zbx es) (h0:0<es.length):(∀ k (hk:k<es.length),0<k→es[k].1≠[])∧endV es=if es[0].1=[] then es[0].2 else []:=by
 have hne:∀ k (hk:k<es.length),0<k→es[k].1≠[]:=fun k hk hk0 e=>by
  have:=List.pairwise_iff_getElem.1 hr 0 k h0 hk hk0
  rw[e,ziv] at this
  cases this
 refine⟨hne,?_⟩
 have:∀ m,m+1≤es.length→endV (es.take (m+1))=if es[0].1=[] then es[0].2 else []:=by
  intro m
  induction m with
  | zero =>
    intro h
    rw[ziu es 0 (by omega)]
    simp[endV]
  | succ m ih =>
    intro h
    rw[ziu es (m+1) (by omega),if_neg (hne (m+1) (by omega) (by omega)),ih (by omega)]
 have h9:=this (es.length - 1) (by omega)
 rw[show es.length - 1+1=es.length by omega,List.take_length] at h9
 exact h9
end Go.Proofs.YtppljdnbhoeeoaaGreatDoor
