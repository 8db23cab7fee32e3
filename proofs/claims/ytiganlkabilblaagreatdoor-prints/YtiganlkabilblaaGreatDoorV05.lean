import Derived.Test.YtiganlkabilblaaGreatDoorV04
set_option linter.all false
set_option maxHeartbeats 64000000
set_option maxRecDepth 100000
namespace Go.Proofs.YtiganlkabilblaaGreatDoor
open Tryz
open Tryz renaming prog->P
open Option renaming some->S,none->N
open Value renaming int->I
open IntKind renaming i64->J
section
open Go.RowKit Go.WideMaps Go.Maps
theorem zcP(H:Term->Bool)(s:List Term)(j:Nat)(a:j<s.length):Zc H (s.drop j)=(ZG H s[j]||Zc H (s.drop (j+1))):=by rw[List.drop_eq_getElem_cons a];simp only[Zc]
theorem zcO(H:Term->Bool)(c:List (List Term))(j:Nat)(a:j<c.length):zx H (c.drop j)=(Zc H c[j]||zx H (c.drop (j+1))):=by rw[List.drop_eq_getElem_cons a];simp only[zx]
theorem KR{w:World}{b:Nat}{e:TypeId}{c:Nat}{v:Value}{n:Nat}{d:List Value}(h:w.ownsRow b e c v n d):n<=9223372036854775807:=by
 rcases h.2 with⟨_,a⟩|⟨g,f,i,k,_,_,j,a,_⟩;·omega
 ·unfold maxLen at a;omega
def qE(k:Nat):Prop:=∀(w:World) (a f d:Nat) (b:List z7) (E:List Bool) (A:Nat->Prop) (c:Z5) (u:Value),Yq w a f d b E->Zt w A c u->Qt c<=k->Calls P 125 #[u,.func (.func 126) #[] #[.pointer (S ⟨a,0,N⟩)]] w λe g=>e=.returned (.bool (zx (zv b) c))/\Below w.heap.size w g
theorem ziT(k:Nat)(hC:∀k',k'<k->qE k'):qE k:=by
 intro w bx mb eb a E A c u hF hp hk;obtain⟨us,⟨f,hA⟩,al⟩:=hp;obtain⟨ua,uc,rfl⟩:=zl f;have aN:=KR f;have aC:Hid (c.length=us.length):=zA.length al;have HF:Hid (Yq w bx mb eb a E):=hF;have ay:Hid (w.ownsRow 0 215 1 (.slice ua c.length uc) c.length us):=f;have aA:Hid (zA w A c us):=al;obtain⟨R,hR⟩:∃R,R=zx (zv a) c:=⟨_,rfl⟩;rw[<-hR];have HR:Hid (R=zx (zv a) (c.drop 0)):=by rw[hR];rfl
 clear hR hF f al;go_enter func125,ntmps125;go_wp2_with fail;go_loopg[13] c.length (λm i wr=>∃j:Nat,m=c.length-j/\j<=c.length/\i=I J j/\Below w.heap.size w wr/\Hid (R=zx (zv a) (c.drop j)));case atStart=>exact⟨0,rfl,Nat.zero_le _,rfl,Below.refl _ _,HR⟩
 case round=>
  obtain⟨j,rfl,hj,rfl,hb,M⟩:=hrel;have HB:Hid (Below w.heap.size w wr):=hb;have aR:=hb.size;clear hb;by_cases ag:j<c.length
  ·have af:j<us.length:=by have:=aC.out;omega
   obtain⟨g,rfl,aq,av⟩:=Jk ay.out (by omega);have c0:wr.cell? ⟨g,j,N⟩=S (us[j]'af):=by rw[HB.out.cell (p:=⟨g,_,N⟩) av,aq _ (by omega)];exact List.getElem?_eq_getElem af
   have aJ:=zA.get aA.out j ag af;have au:=Nat.le_trans (KH c j ag) hk;have ae:=zcO (zv a) c j ag;obtain⟨y,⟨f,aD⟩,a7⟩:=aJ;obtain⟨sa,sc,ax⟩:=zl f;rw[ax]at c0 f;have aF:=KR f;have a0:Hid (zx (zv a) (c.drop j)=(Zc (zv a) c[j]||zx (zv a) (c.drop (j+1)))):=ae;have aP:(j:Int)<c.length:=by omega
   obtain⟨s,hs⟩:∃s,s=c[j]:=⟨_,rfl⟩;rw[<-hs]at f a7 au c0 aF;have a0:Hid (zx (zv a) (c.drop j)=(Zc (zv a) s||zx (zv a) (c.drop (j+1)))):=by rw[hs];exact ae
   have ap:Hid (s.length=y.length):=zD.length a7;have az:Hid (w.ownsRow 0 249 3 (.slice sa s.length sc) s.length (QM s y)):=f;have aB:Hid (zD w A s y):=a7;clear ae ax aq hs f a7 aD av;go_wp2_with fail;go_loopg[19] s.length (λm i wx=>∃h:Nat,m=s.length-h/\h<=s.length/\i=I J h/\Below w.heap.size w wx/\Hid (Zc (zv a) s=Zc (zv a) (s.drop h)));case atStart=>exact⟨0,rfl,Nat.zero_le _,rfl,HB.out,rfl⟩
   case round=>
    obtain⟨i,rfl,hi,rfl,aa,U⟩:=hrel;have l:Hid (Below w.heap.size w wr):=aa;have a6:=aa.size;clear aa;by_cases a5:i<s.length
    ·have a4:i<y.length:=by have:=ap.out;omega
     obtain⟨H,rfl,a2,a3⟩:=Jk az.out (by omega);obtain⟨t0,t1,t2⟩:=V1 s y ap.out i a5;have d0:wr.cell? ⟨H,i *3,N⟩=S (I .u8 s[i].ahead.toNat):=by rw[l.out.cell (p:=⟨H,_,N⟩) a3,a2 _ (by omega)];exact t0
     have d1:wr.cell? ⟨H,i *3+1,N⟩=S (y[i]'a4):=by rw[l.out.cell (p:=⟨H,_,N⟩) a3,a2 _ (by omega)];exact t1
     have d2:wr.cell? ⟨H,i *3+2,N⟩=S (I .u8 s[i].behind.toNat):=by rw[l.out.cell (p:=⟨H,_,N⟩) a3,a2 _ (by omega)];exact t2
     have F:=zD.get aB.out i a5 a4;have D:=λO=>zju (wr.alloc O) bx mb eb a E A s[i] (y[i]'a4) (HF.out.below (l.out.alloc a6 O)) (Zk.kept (ZF (l.out.alloc a6 O)) _ _ F);have ad:Jx s[i]<=k:=Nat.le_trans (KI s i a5) au;have ak:=zcP (zv a) s i a5;have aQ:(i:Int)<s.length:=by omega
     obtain⟨t,ht⟩:∃t,t=s[i]:=⟨_,rfl⟩;obtain⟨vv,am⟩:∃vv,vv=y[i]'a4:=⟨_,rfl⟩;rw[<-ht]at d0 d2 F ad ak;rw[<-am]at d1 F;simp only[<-ht, <-am]at D;have a8:Hid (Zc (zv a) (s.drop i)=(ZG (zv a) t||Zc (zv a) (s.drop (i+1)))):=ak;clear ak ht am t0 t1 t2 a2 a3;obtain⟨Z,x,tb⟩:=t;simp only[Zk]at F;simp only[Jx]at ad;obtain⟨vt,vx,rfl⟩:=zp.oneCell F;simp only[QN,Term.ahead,Term.behind]at D d0 d2;have K:Hid (zp w A x (.iface vt vx)):=F;have a9:Hid (ZG (zv a) (.mk Z x tb)=((zv a) (.mk Z x tb)||Zi (zv a) x)):=by show _=_;simp only[ZG]
     clear F;obtain⟨r,hr⟩:∃r,r=(zv a) (.mk Z x tb):=⟨_,rfl⟩;simp only[<-hr]at D;have ao:Hid (r=(zv a) (.mk Z x tb)):=hr;clear hr;cases r with
     |true=>go_wp2_with fail;refine(D _).mono ?_;rintro e z⟨rfl,q⟩;have aj:=q.size;simp at aj;have V:Below w.heap.size w z:=(l.out.alloc a6 _).trans (q.mono (by simp;omega));clear D q;go_wp2_with fail;go_ret;exact⟨by rw[M.out,a0.out,U.out,a8.out,a9.out, <-ao.out];simp,V⟩
     |false=>
      go_wp2_with fail;refine(D _).mono ?_;rintro e z⟨rfl,q⟩;have aj:=q.size;simp at aj;have V:Below w.heap.size w z:=(l.out.alloc a6 _).trans (q.mono (by simp;omega));have aO:∀o,z.cell? ⟨wr.heap.size,o,N⟩=(#[I .u8 Z.toNat,.iface vt vx,I .u8 tb.toNat]:Array Value)[o]?:=λo=>by rw[q.cell (p:=⟨wr.heap.size,o,N⟩) (by simp)];exact z8 (zk _ _) o
      have n:Hid (Below w.heap.size w z):=V;have v:w.heap.size<=z.heap.size:=V.size;have aS:wr.heap.size<z.heap.size:=by omega
      clear D q V;have fin:∀B,Below w.heap.size w B->Zi (zv a) x=false->∃h:Nat,s.length-(i+1)=s.length-h/\h<=s.length/\Value.int IntKind.i64 ((i:Int)+1)=I J h/\Below w.heap.size w B/\Hid (Zc (zv a) s=Zc (zv a) (s.drop h)):=by intro B h5 aI;refine⟨i+1,rfl,by omega,by go_num,h5,?_⟩;show _=_;rw[U.out,a8.out,a9.out, <-ao.out,aI];simp
      have G:=(show Hid _ from fin);clear fin;cases x with
      |group L=>
       have d:=K.out;simp only[zp]at d;obtain⟨u2,aM,Y,ai,aw⟩:=d;obtain⟨aK,aL,rfl⟩:=zl ai.1;simp only[Value.iface.injEq]at Y;obtain⟨rfl,rfl⟩:=Y;have ar:Qt L<k:=by simp only[Y6]at ad;omega
       have X:=λO=>hC _ ar (z.alloc O) bx mb eb a E A L (.slice aK L.length aL) (HF.out.below (n.out.alloc v O)) (Zt.kept (ZF (n.out.alloc v O)) ⟨aM,ai,aw⟩) (Nat.le_refl _);have a1:=Vo;obtain⟨r2,ah⟩:∃r2,r2=zx (zv a) L:=⟨_,rfl⟩;simp only[<-ah]at X;have an:Hid (r2=Zi (zv a) (.group L)):=by show _=_;simp only[Zi];exact ah
       clear ah ai aw ar;cases r2 with
       |true=>go_wp2_with fail;refine(X _).mono ?_;rintro e B⟨rfl,W⟩;have ab:Below w.heap.size w B:=(n.out.alloc v _).trans (W.mono (by simp;omega));clear X W;go_wp2_with fail;go_ret;exact⟨by rw[M.out,a0.out,U.out,a8.out,a9.out, <-an.out];simp,ab⟩
       |false=>
        go_wp2_with fail;refine(X _).mono ?_;rintro e B⟨rfl,W⟩;have ab:Below w.heap.size w B:=(n.out.alloc v _).trans (W.mono (by simp;omega));have hN:=G.out B ab an.out.symm;clear X W;go_wp2_with fail;go_roundg (s.length-(i+1));case measure=>omega
        case rel=>exact hN
      |name b=>
       have d:=K.out;simp only[zp]at d;simp only[Value.iface.injEq]at d;obtain⟨⟨rfl,rfl⟩,_⟩:=d;have a1:=zaZ;have hN:=G.out;go_wp2_with fail;go_roundg (s.length-(i+1));case measure=>omega
       case rel=>exact G.out _ (n.out.alloc v _) rfl
      |lit b=>
       have d:=K.out;simp only[zp]at d;simp only[Value.iface.injEq]at d;obtain⟨rfl,rfl⟩:=d;have a1:=Ug;go_wp2_with fail;go_roundg (s.length-(i+1));case measure=>omega
       case rel=>exact G.out _ (n.out.alloc v _) rfl
      |cls b=>
       have d:=K.out;simp only[zp]at d;obtain⟨u3,Y,_⟩:=d;simp only[Value.iface.injEq]at Y;obtain⟨rfl,rfl⟩:=Y;have a1:=Ud;go_wp2_with fail;go_roundg (s.length-(i+1));case measure=>omega
       case rel=>exact G.out _ (n.out.alloc v _) rfl
      |any=>
       have d:=K.out;simp only[zp]at d;simp only[Value.iface.injEq]at d;obtain⟨rfl,rfl⟩:=d;have a1:=Vn;go_wp2_with fail;go_roundg (s.length-(i+1));case measure=>omega
       case rel=>exact G.out _ (n.out.alloc v _) rfl
    ·have aG:i=s.length:=by omega
     have HN:Hid (R=zx (zv a) (c.drop (j+1))):=by show _=_;rw[M.out,a0.out,U.out,aG,List.drop_length];simp only[Zc,Bool.false_or]
     clear U;go_wp2_with fail;go_roundg (c.length-(j+1));case measure=>omega
     case rel=>exact⟨j+1,rfl,by omega,by go_num,l.out,HN⟩
  ·have aH:j=c.length:=by omega
   have aE:Hid (R=false):=by have h1:=M.out;rw[aH,List.drop_length]at h1;exact h1
   clear M;go_wp2_with fail;go_ret;exact⟨by rw[aE.out];rfl,HB.out⟩
theorem ziR(k:Nat):qE k:=by
 induction k using Nat.strongRecOn with
 |ind k a=>exact ziT k a
def qD(k:Nat):Prop:=∀(w:World) (a f d:Nat) (b:List z7) (E:List Bool) (A:Nat->Prop) (c:Z5) (u:Value),Yq w a f d b E->Zt w A c u->Qt c<=k->Calls P 125 #[u,.func (.func 128) #[] #[.pointer (S ⟨a,0,N⟩)]] w λe g=>e=.returned (.bool (zx (zJ (Eb b E)) c))/\Below w.heap.size w g
theorem ziS(k:Nat)(hC:∀k',k'<k->qD k'):qD k:=by
 intro w bx mb eb a E A c u hF hp hk;obtain⟨us,⟨f,hA⟩,al⟩:=hp;obtain⟨ua,uc,rfl⟩:=zl f;have aN:=KR f;have aC:Hid (c.length=us.length):=zA.length al;have HF:Hid (Yq w bx mb eb a E):=hF;have ay:Hid (w.ownsRow 0 215 1 (.slice ua c.length uc) c.length us):=f;have aA:Hid (zA w A c us):=al;obtain⟨R,hR⟩:∃R,R=zx (zJ (Eb a E)) c:=⟨_,rfl⟩;rw[<-hR];have HR:Hid (R=zx (zJ (Eb a E)) (c.drop 0)):=by rw[hR];rfl
 clear hR hF f al;go_enter func125,ntmps125;go_wp2_with fail;go_loopg[13] c.length (λm i wr=>∃j:Nat,m=c.length-j/\j<=c.length/\i=I J j/\Below w.heap.size w wr/\Hid (R=zx (zJ (Eb a E)) (c.drop j)));case atStart=>exact⟨0,rfl,Nat.zero_le _,rfl,Below.refl _ _,HR⟩
 case round=>
  obtain⟨j,rfl,hj,rfl,hb,M⟩:=hrel;have HB:Hid (Below w.heap.size w wr):=hb;have aR:=hb.size;clear hb;by_cases ag:j<c.length
  ·have af:j<us.length:=by have:=aC.out;omega
   obtain⟨g,rfl,aq,av⟩:=Jk ay.out (by omega);have c0:wr.cell? ⟨g,j,N⟩=S (us[j]'af):=by rw[HB.out.cell (p:=⟨g,_,N⟩) av,aq _ (by omega)];exact List.getElem?_eq_getElem af
   have aJ:=zA.get aA.out j ag af;have au:=Nat.le_trans (KH c j ag) hk;have ae:=zcO (zJ (Eb a E)) c j ag;obtain⟨y,⟨f,aD⟩,a7⟩:=aJ;obtain⟨sa,sc,ax⟩:=zl f;rw[ax]at c0 f;have aF:=KR f;have a0:Hid (zx (zJ (Eb a E)) (c.drop j)=(Zc (zJ (Eb a E)) c[j]||zx (zJ (Eb a E)) (c.drop (j+1)))):=ae;have aP:(j:Int)<c.length:=by omega
   obtain⟨s,hs⟩:∃s,s=c[j]:=⟨_,rfl⟩;rw[<-hs]at f a7 au c0 aF;have a0:Hid (zx (zJ (Eb a E)) (c.drop j)=(Zc (zJ (Eb a E)) s||zx (zJ (Eb a E)) (c.drop (j+1)))):=by rw[hs];exact ae
   have ap:Hid (s.length=y.length):=zD.length a7;have az:Hid (w.ownsRow 0 249 3 (.slice sa s.length sc) s.length (QM s y)):=f;have aB:Hid (zD w A s y):=a7;clear ae ax aq hs f a7 aD av;go_wp2_with fail;go_loopg[19] s.length (λm i wx=>∃h:Nat,m=s.length-h/\h<=s.length/\i=I J h/\Below w.heap.size w wx/\Hid (Zc (zJ (Eb a E)) s=Zc (zJ (Eb a E)) (s.drop h)));case atStart=>exact⟨0,rfl,Nat.zero_le _,rfl,HB.out,rfl⟩
   case round=>
    obtain⟨i,rfl,hi,rfl,aa,U⟩:=hrel;have l:Hid (Below w.heap.size w wr):=aa;have a6:=aa.size;clear aa;by_cases a5:i<s.length
    ·have a4:i<y.length:=by have:=ap.out;omega
     obtain⟨H,rfl,a2,a3⟩:=Jk az.out (by omega);obtain⟨t0,t1,t2⟩:=V1 s y ap.out i a5;have d0:wr.cell? ⟨H,i *3,N⟩=S (I .u8 s[i].ahead.toNat):=by rw[l.out.cell (p:=⟨H,_,N⟩) a3,a2 _ (by omega)];exact t0
     have d1:wr.cell? ⟨H,i *3+1,N⟩=S (y[i]'a4):=by rw[l.out.cell (p:=⟨H,_,N⟩) a3,a2 _ (by omega)];exact t1
     have d2:wr.cell? ⟨H,i *3+2,N⟩=S (I .u8 s[i].behind.toNat):=by rw[l.out.cell (p:=⟨H,_,N⟩) a3,a2 _ (by omega)];exact t2
     have F:=zD.get aB.out i a5 a4;have D:=λO=>zfZ (wr.alloc O) bx mb eb a E A s[i] (y[i]'a4) (HF.out.below (l.out.alloc a6 O)) (Zk.kept (ZF (l.out.alloc a6 O)) _ _ F);have ad:Jx s[i]<=k:=Nat.le_trans (KI s i a5) au;have ak:=zcP (zJ (Eb a E)) s i a5;have aQ:(i:Int)<s.length:=by omega
     obtain⟨t,ht⟩:∃t,t=s[i]:=⟨_,rfl⟩;obtain⟨vv,am⟩:∃vv,vv=y[i]'a4:=⟨_,rfl⟩;rw[<-ht]at d0 d2 F ad ak;rw[<-am]at d1 F;simp only[<-ht, <-am]at D;have a8:Hid (Zc (zJ (Eb a E)) (s.drop i)=(ZG (zJ (Eb a E)) t||Zc (zJ (Eb a E)) (s.drop (i+1)))):=ak;clear ak ht am t0 t1 t2 a2 a3;obtain⟨Z,x,tb⟩:=t;simp only[Zk]at F;simp only[Jx]at ad;obtain⟨vt,vx,rfl⟩:=zp.oneCell F;simp only[QN,Term.ahead,Term.behind]at D d0 d2;have K:Hid (zp w A x (.iface vt vx)):=F;have a9:Hid (ZG (zJ (Eb a E)) (.mk Z x tb)=((zJ (Eb a E)) (.mk Z x tb)||Zi (zJ (Eb a E)) x)):=by show _=_;simp only[ZG]
     clear F;obtain⟨r,hr⟩:∃r,r=(zJ (Eb a E)) (.mk Z x tb):=⟨_,rfl⟩;simp only[<-hr]at D;have ao:Hid (r=(zJ (Eb a E)) (.mk Z x tb)):=hr;clear hr;cases r with
     |true=>go_wp2_with fail;refine(D _).mono ?_;rintro e z⟨rfl,q⟩;have aj:=q.size;simp at aj;have V:Below w.heap.size w z:=(l.out.alloc a6 _).trans (q.mono (by simp;omega));clear D q;go_wp2_with fail;go_ret;exact⟨by rw[M.out,a0.out,U.out,a8.out,a9.out, <-ao.out];simp,V⟩
     |false=>
      go_wp2_with fail;refine(D _).mono ?_;rintro e z⟨rfl,q⟩;have aj:=q.size;simp at aj;have V:Below w.heap.size w z:=(l.out.alloc a6 _).trans (q.mono (by simp;omega));have aO:∀o,z.cell? ⟨wr.heap.size,o,N⟩=(#[I .u8 Z.toNat,.iface vt vx,I .u8 tb.toNat]:Array Value)[o]?:=λo=>by rw[q.cell (p:=⟨wr.heap.size,o,N⟩) (by simp)];exact z8 (zk _ _) o
      have n:Hid (Below w.heap.size w z):=V;have v:w.heap.size<=z.heap.size:=V.size;have aS:wr.heap.size<z.heap.size:=by omega
      clear D q V;have fin:∀B,Below w.heap.size w B->Zi (zJ (Eb a E)) x=false->∃h:Nat,s.length-(i+1)=s.length-h/\h<=s.length/\Value.int IntKind.i64 ((i:Int)+1)=I J h/\Below w.heap.size w B/\Hid (Zc (zJ (Eb a E)) s=Zc (zJ (Eb a E)) (s.drop h)):=by intro B h5 aI;refine⟨i+1,rfl,by omega,by go_num,h5,?_⟩;show _=_;rw[U.out,a8.out,a9.out, <-ao.out,aI];simp
      have G:=(show Hid _ from fin);clear fin;cases x with
      |group L=>
       have d:=K.out;simp only[zp]at d;obtain⟨u2,aM,Y,ai,aw⟩:=d;obtain⟨aK,aL,rfl⟩:=zl ai.1;simp only[Value.iface.injEq]at Y;obtain⟨rfl,rfl⟩:=Y;have ar:Qt L<k:=by simp only[Y6]at ad;omega
       have X:=λO=>hC _ ar (z.alloc O) bx mb eb a E A L (.slice aK L.length aL) (HF.out.below (n.out.alloc v O)) (Zt.kept (ZF (n.out.alloc v O)) ⟨aM,ai,aw⟩) (Nat.le_refl _);have a1:=Vo;obtain⟨r2,ah⟩:∃r2,r2=zx (zJ (Eb a E)) L:=⟨_,rfl⟩;simp only[<-ah]at X;have an:Hid (r2=Zi (zJ (Eb a E)) (.group L)):=by show _=_;simp only[Zi];exact ah
       clear ah ai aw ar;cases r2 with
       |true=>go_wp2_with fail;refine(X _).mono ?_;rintro e B⟨rfl,W⟩;have ab:Below w.heap.size w B:=(n.out.alloc v _).trans (W.mono (by simp;omega));clear X W;go_wp2_with fail;go_ret;exact⟨by rw[M.out,a0.out,U.out,a8.out,a9.out, <-an.out];simp,ab⟩
       |false=>
        go_wp2_with fail;refine(X _).mono ?_;rintro e B⟨rfl,W⟩;have ab:Below w.heap.size w B:=(n.out.alloc v _).trans (W.mono (by simp;omega));have hN:=G.out B ab an.out.symm;clear X W;go_wp2_with fail;go_roundg (s.length-(i+1));case measure=>omega
        case rel=>exact hN
      |name b=>
       have d:=K.out;simp only[zp]at d;simp only[Value.iface.injEq]at d;obtain⟨⟨rfl,rfl⟩,_⟩:=d;have a1:=zaZ;have hN:=G.out;go_wp2_with fail;go_roundg (s.length-(i+1));case measure=>omega
       case rel=>exact G.out _ (n.out.alloc v _) rfl
      |lit b=>
       have d:=K.out;simp only[zp]at d;simp only[Value.iface.injEq]at d;obtain⟨rfl,rfl⟩:=d;have a1:=Ug;go_wp2_with fail;go_roundg (s.length-(i+1));case measure=>omega
       case rel=>exact G.out _ (n.out.alloc v _) rfl
      |cls b=>
       have d:=K.out;simp only[zp]at d;obtain⟨u3,Y,_⟩:=d;simp only[Value.iface.injEq]at Y;obtain⟨rfl,rfl⟩:=Y;have a1:=Ud;go_wp2_with fail;go_roundg (s.length-(i+1));case measure=>omega
       case rel=>exact G.out _ (n.out.alloc v _) rfl
      |any=>
       have d:=K.out;simp only[zp]at d;simp only[Value.iface.injEq]at d;obtain⟨rfl,rfl⟩:=d;have a1:=Vn;go_wp2_with fail;go_roundg (s.length-(i+1));case measure=>omega
       case rel=>exact G.out _ (n.out.alloc v _) rfl
    ·have aG:i=s.length:=by omega
     have HN:Hid (R=zx (zJ (Eb a E)) (c.drop (j+1))):=by show _=_;rw[M.out,a0.out,U.out,aG,List.drop_length];simp only[Zc,Bool.false_or]
     clear U;go_wp2_with fail;go_roundg (c.length-(j+1));case measure=>omega
     case rel=>exact⟨j+1,rfl,by omega,by go_num,l.out,HN⟩
  ·have aH:j=c.length:=by omega
   have aE:Hid (R=false):=by have h1:=M.out;rw[aH,List.drop_length]at h1;exact h1
   clear M;go_wp2_with fail;go_ret;exact⟨by rw[aE.out];rfl,HB.out⟩
theorem ziQ(k:Nat):qD k:=by
 induction k using Nat.strongRecOn with
 |ind k a=>exact ziS k a
def Qp(g:List ze)(p:Z5->Bool):Option Nat->Prop
 |none=>∀i (h:i<g.length),p g[i].choice=false
 |some i=>∃h:i<g.length,p g[i].choice=true/\∀t (a:t<g.length),t<i->p g[t].choice=false
theorem zfe(w:World)(d b:Nat)(a:List z7)(E:List Bool)(A:Nat->Prop)(c:Z5)(u:Value)(hF:zQ w d b a E)(i:Zt w A c u):Calls P 89 #[zI d b a.length,u] w λe m=>e=.returned (.bool (zx (zv a) c))/\Below w.heap.size w m:=by have n:∀(h:Fn) (first g:Array Value) (w:World),(Instr.makeFunc h first g).run P w=.ok (.func h first g) w:=λ_ _ _ _=>rfl;have f:Below w.heap.size w (w.alloc (ZB d b a.length)):=zc _ _;have k:=ziR (Qt c) (w.alloc (ZB d b a.length)) w.heap.size d b a E A c u ⟨zk _ _,hF.below f⟩ (i.kept (ZF f)) (Nat.le_refl _);obtain⟨q,j,_⟩:=i;obtain⟨o,p,rfl⟩:=zl j.1;generalize zx (zv a) c=r at *;simp only[zI];clear hF j;go_enter func89,ntmps89;go_wp2_with fail;refine k.mono ?_;rintro e s⟨rfl,l⟩;clear k;go_wp2_with fail;go_ret;exact⟨rfl,f.trans (l.mono (by simp))⟩
theorem zeY(w:World)(s p:Nat)(b:List z7)(E:List Bool)(A:Nat->Prop)(g:List ze)(q:Addr)(r D:Nat)(hF:zQ w s p b E)(G:Zj w A g (.slice (S q) g.length r))(a2:g.length<=20):Calls P 88 #[.slice (S q) g.length r,I J D,.func (.func 89) #[zI s p b.length] #[]] w λe W=>Below w.heap.size w W/\∃o,Qp g (zx (zv b)) o/\e=.returned (JP D o):=by
 have M:Hid (zQ w s p b E):=hF;have R:Hid (Zj w A g (.slice (S q) g.length r)):=G;clear hF G;simp only[zI];go_enter func88,ntmps88;go_wp2_with fail;go_loopg[11] g.length (λm i wr=>∃(j:Nat),m=g.length-j/\j<=g.length/\i=I J j/\Below w.heap.size w wr/\Hid (∀t (d:t<g.length),t<j->zx (zv b) g[t].choice=false));case atStart=>exact⟨0,rfl,Nat.zero_le _,rfl,Below.refl _ _,λt _ d=>by omega⟩
 case round=>
  obtain⟨j,rfl,hj,rfl,v,k⟩:=hrel;have n:Hid (Below w.heap.size w wr):=v;have z:=v.size;clear v;by_cases K:j<g.length
  ·have H:Zj wr A g (.slice (S q) g.length r):=R.out.kept (ZF n.out);obtain⟨Z,a,c,rfl,a1,a0,X,Y,F,V⟩:=H.at j K;have a3:(j:Int)<g.length:=by omega
   have h:=λO=>zfe (wr.alloc O) s p b E A g[j].choice _ (M.out.below (n.out.alloc z O)) (F.kept (ZF (zc wr O)));simp only[zI]at h;clear H F V;cases l:zx (zv b) g[j].choice with
   |true=>simp only[l]at h;have u:Hid (Qp g (zx (zv b)) (S j)):=⟨K,l,λt d L=>k.out t d L⟩;clear l k;go_wp2_with fail;refine(h _).mono ?_;rintro e B⟨rfl,f⟩;have y:=f.size;simp at y;have x:Below w.heap.size w B:=(n.out.alloc z _).trans (f.mono (by simp;omega));clear h f;go_wp2_with fail;go_ret;exact⟨x,S j,u.out,rfl⟩
   |false=>
    simp only[l]at h;have U:Hid (∀t (d:t<g.length),t<j+1->zx (zv b) g[t].choice=false):=by
     intro t d L;by_cases e:t=j;·subst e;exact l
     ·exact k.out t d (by omega)
    clear l k;go_wp2_with fail;refine(h _).mono ?_;rintro e B⟨rfl,f⟩;have y:=f.size;simp at y;have x:Below w.heap.size w B:=(n.out.alloc z _).trans (f.mono (by simp;omega));clear h f;go_wp2_with fail;go_roundg (g.length-(j+1));case measure=>omega
    case rel=>exact⟨j+1,rfl,by omega,by go_num,x,U⟩
  ·have u:Hid (Qp g (zx (zv b)) N):=λt d=>k.out t d (by omega);clear k;go_wp2_with fail;go_ret;exact⟨n.out,N,u.out,rfl⟩
theorem zfc(w:World)(d b:Nat)(a:List z7)(E:List Bool)(A:Nat->Prop)(c:Z5)(u:Value)(hF:zQ w d b a E)(i:Zt w A c u):Calls P 91 #[zI d b a.length,u] w λe m=>e=.returned (.bool (zx (zJ (Eb a E)) c))/\Below w.heap.size w m:=by have n:∀(h:Fn) (first g:Array Value) (w:World),(Instr.makeFunc h first g).run P w=.ok (.func h first g) w:=λ_ _ _ _=>rfl;have f:Below w.heap.size w (w.alloc (ZB d b a.length)):=zc _ _;have k:=ziQ (Qt c) (w.alloc (ZB d b a.length)) w.heap.size d b a E A c u ⟨zk _ _,hF.below f⟩ (i.kept (ZF f)) (Nat.le_refl _);obtain⟨q,j,_⟩:=i;obtain⟨o,p,rfl⟩:=zl j.1;generalize zx (zJ (Eb a E)) c=r at *;simp only[zI];clear hF j;go_enter func91,ntmps91;go_wp2_with fail;refine k.mono ?_;rintro e s⟨rfl,l⟩;clear k;go_wp2_with fail;go_ret;exact⟨rfl,f.trans (l.mono (by simp))⟩
theorem zeW(w:World)(s p:Nat)(b:List z7)(E:List Bool)(A:Nat->Prop)(g:List ze)(q:Addr)(r D:Nat)(hF:zQ w s p b E)(G:Zj w A g (.slice (S q) g.length r))(a2:g.length<=20):Calls P 88 #[.slice (S q) g.length r,I J D,.func (.func 91) #[zI s p b.length] #[]] w λe W=>Below w.heap.size w W/\∃o,Qp g (zx (zJ (Eb b E))) o/\e=.returned (JP D o):=by
 have M:Hid (zQ w s p b E):=hF;have R:Hid (Zj w A g (.slice (S q) g.length r)):=G;clear hF G;simp only[zI];go_enter func88,ntmps88;go_wp2_with fail;go_loopg[11] g.length (λm i wr=>∃(j:Nat),m=g.length-j/\j<=g.length/\i=I J j/\Below w.heap.size w wr/\Hid (∀t (d:t<g.length),t<j->zx (zJ (Eb b E)) g[t].choice=false));case atStart=>exact⟨0,rfl,Nat.zero_le _,rfl,Below.refl _ _,λt _ d=>by omega⟩
 case round=>
  obtain⟨j,rfl,hj,rfl,v,k⟩:=hrel;have n:Hid (Below w.heap.size w wr):=v;have z:=v.size;clear v;by_cases K:j<g.length
  ·have H:Zj wr A g (.slice (S q) g.length r):=R.out.kept (ZF n.out);obtain⟨Z,a,c,rfl,a1,a0,X,Y,F,V⟩:=H.at j K;have a3:(j:Int)<g.length:=by omega
   have h:=λO=>zfc (wr.alloc O) s p b E A g[j].choice _ (M.out.below (n.out.alloc z O)) (F.kept (ZF (zc wr O)));simp only[zI]at h;clear H F V;cases l:zx (zJ (Eb b E)) g[j].choice with
   |true=>simp only[l]at h;have u:Hid (Qp g (zx (zJ (Eb b E))) (S j)):=⟨K,l,λt d L=>k.out t d L⟩;clear l k;go_wp2_with fail;refine(h _).mono ?_;rintro e B⟨rfl,f⟩;have y:=f.size;simp at y;have x:Below w.heap.size w B:=(n.out.alloc z _).trans (f.mono (by simp;omega));clear h f;go_wp2_with fail;go_ret;exact⟨x,S j,u.out,rfl⟩
   |false=>
    simp only[l]at h;have U:Hid (∀t (d:t<g.length),t<j+1->zx (zJ (Eb b E)) g[t].choice=false):=by
     intro t d L;by_cases e:t=j;·subst e;exact l
     ·exact k.out t d (by omega)
    clear l k;go_wp2_with fail;refine(h _).mono ?_;rintro e B⟨rfl,f⟩;have y:=f.size;simp at y;have x:Below w.heap.size w B:=(n.out.alloc z _).trans (f.mono (by simp;omega));clear h f;go_wp2_with fail;go_roundg (g.length-(j+1));case measure=>omega
    case rel=>exact⟨j+1,rfl,by omega,by go_num,x,U⟩
  ·have u:Hid (Qp g (zx (zJ (Eb b E))) N):=λt d=>k.out t d (by omega);clear k;go_wp2_with fail;go_ret;exact⟨n.out,N,u.out,rfl⟩
end
end Go.Proofs.YtiganlkabilblaaGreatDoor
