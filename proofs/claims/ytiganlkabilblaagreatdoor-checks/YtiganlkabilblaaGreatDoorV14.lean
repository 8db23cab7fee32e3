import Derived.Test.YtiganlkabilblaaGreatDoorV10
set_option linter.all false
set_option maxHeartbeats 64000000
set_option maxRecDepth 100000
namespace Go.Proofs.YtiganlkabilblaaGreatDoor
open Tryz
open Tryz renaming prog->P
open Option renaming some->S,none->N
open Value renaming int->I
open IntKind renaming i64->J
section
open Go.RowKit
theorem zja{c:UInt8}{t:List UInt8}(h:Qf c=true):zM (c::t)=⟨.sign c,0,1,[],[]⟩:=by
 have a:=h;simp[Qf]at a;have d:Qu c=false:=by rcases a with rfl|rfl|rfl|rfl|rfl|rfl|rfl|rfl|rfl<;>decide
 have b:c≠60/\c≠39/\c≠91:=by rcases a with rfl|rfl|rfl|rfl|rfl|rfl|rfl|rfl|rfl<;>decide
 simp[zM,d,b.1,b.2.1,b.2.2,h]
theorem VC(c:UInt8):Qu c=true↔97<=c.toNat/\c.toNat<=122:=by unfold Qu;simp[UInt8.le_iff_toNat_le]
theorem zfL{c:UInt8}(h:Qu c=true):c≠60/\c≠39/\c≠91/\Qf c=false:=by
 rw[VC]at h;have d:c≠60:=by rintro rfl;simp at h
 have b:c≠39:=by rintro rfl;simp at h
 have e:c≠91:=by rintro rfl;simp at h
 refine⟨d,b,e,?_⟩;cases a:Qf c with
 |false=>rfl|true=>simp[Qf]at a;rcases a with rfl|rfl|rfl|rfl|rfl|rfl|rfl|rfl|rfl<;>simp at h
theorem zeP(s:ByteArray)(k:Nat)(h:k<s.size):s.extract k (k+1)=⟨[s[k]].toArray⟩:=by rw[Vx,Q6 s k h];rfl
def zaO(s:ByteArray)(k:Nat)(w:World)(e:Ending)(a:World):Prop:=∃v,e=.returned (ZN (zG k (s.data.toList.drop k)) v)/\Below w.heap.size w a/\Items a w.heap.size v (zr (zG k (s.data.toList.drop k)))
theorem zi0(s:ByteArray)(k:Nat)(w:World)(hs:s.size<=2000)(hk:k<=s.size):Calls P 97 #[.string s,I J k] w λe c=>zaO s k w e c:=by
 unfold zaO;rw[zd9];have ad:=Kb false (s.data.toList.drop k);rw[List.length_drop,show s.data.toList.length=s.size from rfl]at ad;obtain⟨r,hr⟩:∃r,r=k+blk false (s.data.toList.drop k):=⟨_,rfl⟩;rw[<-hr];have ap:r<=s.size:=by omega
 have B:=λw=>zhq s k r w hk hs (show Hid _ from hr.symm);clear hr ad;by_cases H:r<s.size
 ·have n:=λr' (h:Qf s[r]=r') w=>VO ⟨#[47,38,33,63,42,43,40,41,46]⟩ s[r] r' w (by decide) h;rw[Q6 s r H];cases l:Qf s[r]with
  |true=>
   have n:=n _ l;rw[zja l];have V:=(show Hid _ from zeP s r H);clear l;go_enter func97,ntmps97;go_wp2_with fail;refine(B _).mono ?_;rintro e c⟨rfl,rfl⟩;go_wp2_with fail;refine(n _).mono ?_;rintro e c⟨rfl,rfl⟩;go_wp2_with fail;refine bodyPost_ret (v:=.agg #[I J 5,I J r,I J ↑(r+1),.string (s.extract r (r+1)),.slice N 0 0]) (by simp[results,results97,go_sem]) rfl ⟨.slice N 0 0,?_,?_,World.ownsRow_nil _ _ _ _⟩;·rw[V.out];rfl
   ·exact zc _ _
  |false=>
   have n:=n _ l;by_cases y:s[r]=60/\∃h:r+1<s.size,s[r+1]=45
   ·obtain⟨a4,aj,a0⟩:=y;have b:zM (s[r]::s.data.toList.drop (r+1))=⟨.arrow,0,2,[],[]⟩:=by rw[Q6 s (r+1) aj,a4,a0];rfl
    rw[b];have a7:=QW a4 60 rfl;have aq:=QW a0 45 rfl;clear l a4 a0 b;go_enter func97,ntmps97;go_wp2_with fail;refine(B _).mono ?_;rintro e c⟨rfl,rfl⟩;go_wp2_with fail;refine(n _).mono ?_;rintro e c⟨rfl,rfl⟩;go_wp2_with fail;refine bodyPost_ret (v:=.agg #[I J 2,I J r,I J ↑(r+2),.string ⟨#[]⟩,.slice N 0 0]) (by simp[results,results97,go_sem]) rfl ⟨.slice N 0 0,?_,?_,World.ownsRow_nil _ _ _ _⟩;·rfl
    ·exact zc _ _
   ·have z:¬(s[r]=60/\(s.data.toList.drop (r+1)).head?=S 45):=by
     rintro⟨d,u⟩;apply y;refine⟨d,?_⟩;by_cases h:r+1<s.size;·rw[Q6 s (r+1) h]at u;exact⟨h,by simpa using u⟩
     ·rw[J6 s (r+1) (by omega)]at u;simp at u
    have W:((s[r].toNat:Int)==60)=false\/(((s[r].toNat:Int)==60)=true/\¬r+1<s.size)\/(((s[r].toNat:Int)==60)=true/\∃h:r+1<s.size,((s[r+1].toNat:Int)==45)=false):=by
     by_cases d:s[r]=60
     ·by_cases u:r+1<s.size;·refine .inr (.inr ⟨QW d 60 rfl,u,Q3 (λe=>y ⟨d,u,e⟩) 45 rfl⟩)
      ·exact .inr (.inl ⟨QW d 60 rfl,u⟩)
     ·exact .inl (Q3 d 60 rfl)
    by_cases f:s[r]=39
    ·have b:zM (s[r]::s.data.toList.drop (r+1))=Qv (s.data.toList.drop (r+1)):=by simp only[zM];rw[if_neg (by rw[f];decide),if_neg z,if_pos f]
     rw[b];have D:=λw=>zhW s r w hs H;have a7:((s[r].toNat:Int)==60)=false:=by rw[f];rfl
     have al:=QW f 39 rfl;obtain⟨T,m⟩:∃T,T=Qv (s.data.toList.drop (r+1)):=⟨_,rfl⟩;simp only[<-m]at D|-;clear l f b W z y m;go_enter func97,ntmps97;go_wp2_with fail;refine(B _).mono ?_;rintro e c⟨rfl,rfl⟩;go_wp2_with fail;refine(n _).mono ?_;rintro e c⟨rfl,rfl⟩;go_wp2_with fail;refine(D _).mono ?_;rintro e g⟨v,rfl,q,K⟩;have p:g.ownsRow (w.heap.size+1) 303 2 v (zr T).length ((zr T).flatMap ZO):=by simpa[Items]using K
     obtain⟨F,G,O⟩:=zl p;rw[O]at p|-;have a6:=q.size;simp at a6;have E:g.heap[w.heap.size]?=S (JV 0 0 0 ⟨#[]⟩ (.slice N 0 0)):=by rw[q.block _ (by simp)];exact heap_alloc_new _ _
     have a5:=z8 E;have ai:=zi E;have X:Hid (Below w.heap.size w g):=(zc _ _).trans (q.mono (by simp));have Y:Hid (g.ownsRow (w.heap.size+1) 303 2 (.slice F (zr T).length G) (zr T).length ((zr T).flatMap ZO)):=p;clear q K p O E D;simp only[ZN];go_wp2_with fail;refine bodyPost_ret (v:=ZN {T with place:=r} (.slice F (zr T).length G)) (by simp[results,results97,go_sem,ZN,a5,show w.heap.size<g.heap.size from by omega]) rfl ⟨.slice F (zr T).length G,rfl,?_,?_⟩;·exact((((X.out.setCell (Nat.le_refl _) _).setCell (Nat.le_refl _) _).setCell (Nat.le_refl _) _).setCell (Nat.le_refl _) _).setCell (Nat.le_refl _) _
     ·exact Zn (ZL (ZL (ZL (ZL (ZL Y.out (by omega)) (by omega)) (by omega)) (by omega)) (by omega)) (by omega:w.heap.size<=w.heap.size+1)
    ·have al:=Q3 f 39 rfl;by_cases o:s[r]=91
     ·have b:zM (s[r]::s.data.toList.drop (r+1))=QB (s.data.toList.drop (r+1)):=by simp only[zM];rw[if_neg (by rw[o];decide),if_neg z,if_neg f,if_pos o]
      rw[b];have D:=λw=>zhw s r w hs H;have a7:((s[r].toNat:Int)==60)=false:=by rw[o];rfl
      have am:=QW o 91 rfl;obtain⟨T,m⟩:∃T,T=QB (s.data.toList.drop (r+1)):=⟨_,rfl⟩;simp only[<-m]at D|-;clear l f o b W z y m;go_enter func97,ntmps97;go_wp2_with fail;refine(B _).mono ?_;rintro e c⟨rfl,rfl⟩;go_wp2_with fail;refine(n _).mono ?_;rintro e c⟨rfl,rfl⟩;go_wp2_with fail;refine(D _).mono ?_;rintro e g⟨v,rfl,q,K⟩;have p:g.ownsRow (w.heap.size+1) 303 2 v (zr T).length ((zr T).flatMap ZO):=by simpa[Items]using K
      obtain⟨F,G,O⟩:=zl p;rw[O]at p|-;have a6:=q.size;simp at a6;have E:g.heap[w.heap.size]?=S (JV 0 0 0 ⟨#[]⟩ (.slice N 0 0)):=by rw[q.block _ (by simp)];exact heap_alloc_new _ _
      have a5:=z8 E;have ai:=zi E;have X:Hid (Below w.heap.size w g):=(zc _ _).trans (q.mono (by simp));have Y:Hid (g.ownsRow (w.heap.size+1) 303 2 (.slice F (zr T).length G) (zr T).length ((zr T).flatMap ZO)):=p;clear q K p O E D;simp only[ZN];go_wp2_with fail;refine bodyPost_ret (v:=ZN {T with place:=r} (.slice F (zr T).length G)) (by simp[results,results97,go_sem,ZN,a5,show w.heap.size<g.heap.size from by omega]) rfl ⟨.slice F (zr T).length G,rfl,?_,?_⟩;·exact((((X.out.setCell (Nat.le_refl _) _).setCell (Nat.le_refl _) _).setCell (Nat.le_refl _) _).setCell (Nat.le_refl _) _).setCell (Nat.le_refl _) _
      ·exact Zn (ZL (ZL (ZL (ZL (ZL Y.out (by omega)) (by omega)) (by omega)) (by omega)) (by omega)) (by omega:w.heap.size<=w.heap.size+1)
     ·have am:=Q3 o 91 rfl;cases A:Qu s[r]with
      |false=>
       have b:zM (s[r]::s.data.toList.drop (r+1))=zB:=by simp only[zM];rw[if_neg (by rw[A];simp),if_neg z,if_neg f,if_neg o,if_neg (by rw[l];simp)]
       rw[b];have M:(s[r].toNat:Int)<97\/(¬(s[r].toNat:Int)<97/\(122:Int)<s[r].toNat):=by
        have h:¬(97<=s[r].toNat/\s[r].toNat<=122):=by rw[<-VC,A];simp
        omega
       clear l f o b z y A;rcases M with l1|⟨l1,l2⟩<;>rcases W with a1|⟨a1,a2⟩|⟨a1,a2,a3⟩;all_goals
        go_enter func97,ntmps97;go_wp2_with fail;refine(B _).mono ?_;rintro e c⟨rfl,rfl⟩;go_wp2_with fail;refine(n _).mono ?_;rintro e c⟨rfl,rfl⟩;go_wp2_with fail;refine bodyPost_ret (v:=.agg #[I J 7,I J r,I J 0,.string ⟨#[]⟩,.slice N 0 0]) (by simp[results,results97,go_sem]) rfl ⟨.slice N 0 0,?_,?_,World.ownsRow_nil _ _ _ _⟩;·rfl
        ·exact zc _ _
      |true=>
       have b:zM (s[r]::s.data.toList.drop (r+1))=Ql (s.data.toList.drop r):=by simp only[zM];rw[if_pos A,Q6 s r H]
       rw[b];have ag:=za8 (s.data.toList.drop r);have R:=Vx s r (ZQ (s.data.toList.drop r));rw[List.length_drop,show s.data.toList.length=s.size from rfl]at ag;have a7:((s[r].toNat:Int)==60)=false:=Q3 (zfL A).1 60 rfl;have M:=(VC _).1 A;have l1:¬(s[r].toNat:Int)<97:=by omega
       have l2:¬(122:Int)<s[r].toNat:=by omega
       obtain⟨a,L⟩:∃a,a=ZQ (s.data.toList.drop r):=⟨_,rfl⟩;obtain⟨T,m⟩:∃T,T=Ql (s.data.toList.drop r):=⟨_,rfl⟩;have aa:12<a->T=zB:=by intro h;rw[m];unfold Ql;rw[<-L,if_pos h]
       have ab:a<=12->T=⟨.name,0,a,(s.data.toList.drop r).take a,[]⟩:=by intro h;rw[m];unfold Ql;rw[<-L,if_neg (by omega)]
       rw[<-L]at ag R;rw[<-m];have a8:Hid (12<a->T=zB):=aa;have a9:Hid (a<=12->T=⟨.name,0,a,(s.data.toList.drop r).take a,[]⟩):=ab;have HN:Hid (a=ZQ (s.data.toList.drop r)):=L;have V:Hid (s.extract r (r+a)=⟨((s.data.toList.drop r).take a).toArray⟩):=R;clear L R m aa ab l f o b z y A M W;go_enter func97,ntmps97;go_wp2_with fail;refine(B _).mono ?_;rintro e c⟨rfl,rfl⟩;go_wp2_with fail;refine(n _).mono ?_;rintro e c⟨rfl,rfl⟩;go_wp2_with fail;go_loop[7] (λi=>∃j:Nat,j<=a/\i=I J ↑(r+j)/\Hid (a=j+ZQ (s.data.toList.drop (r+j)))) (λi=>s.size-(intOf i).toNat);case atStart=>exact⟨0,Nat.zero_le _,rfl,by rw[Nat.zero_add,Nat.add_zero];exact HN⟩
       case round=>
        obtain⟨j,hj,rfl,hH⟩:=hrel;by_cases x:∃H:r+j<s.size,Qu s[r+j]=true
        ·obtain⟨t,x⟩:=x;have d:j+1<=a/\Hid (a=(j+1)+ZQ (s.data.toList.drop (r+(j+1)))):=by have h:=hH.out;rw[Q6 s (r+j) t]at h;simp only[ZQ,x,if_true]at h;exact⟨by omega,show _=_ by rw[show r+(j+1)=r+j+1 from rfl];omega⟩
         have M:=(VC _).1 x;have m1:(97:Int)<=s[r+j].toNat:=by omega
         have m2:(s[r+j].toNat:Int)<=122:=by omega
         clear x M;go_wp2_with fail;go_round;case rel=>exact⟨j+1,d.1,by go_num,d.2⟩
         case measure=>simp[intOf];omega
        ·have d:j=a:=by
          have h:=hH.out;by_cases t:r+j<s.size
          ·have ae:Qu s[r+j]=false:=by
            cases R:Qu s[r+j]with
            |false=>rfl|true=>exact absurd ⟨t,R⟩ x
           rw[Q6 s (r+j) t]at h;simp[ZQ,ae]at h;exact h.symm
          ·rw[J6 s (r+j) (by omega)]at h;simpa[ZQ]using h.symm
         have af:¬r+j<s.size\/(∃h:r+j<s.size,(97:Int)<=s[r+j].toNat/\¬(s[r+j].toNat:Int)<=122)\/(∃h:r+j<s.size,¬(97:Int)<=s[r+j].toNat):=by
          by_cases t:r+j<s.size
          ·have ae:¬(97<=s[r+j].toNat/\s[r+j].toNat<=122):=by rw[<-VC];intro h;exact x ⟨t,h⟩
           by_cases an:97<=s[r+j].toNat;·exact .inr (.inl ⟨t,by omega,by omega⟩)
           ·exact .inr (.inr ⟨t,by omega⟩)
          ·exact .inl t
         clear x hH;subst d;have ao:r+j<=s.size:=by omega
         by_cases ah:12<j
         ·have Z:=a8.out ah;subst Z;clear a8 a9 V HN;rcases af with U|⟨U,q2,q3⟩|⟨U,q2⟩;all_goals
           go_wp2_with fail;refine bodyPost_ret (v:=.agg #[I J 7,I J r,I J 0,.string ⟨#[]⟩,.slice N 0 0]) (by simp[results,results97,go_sem]) rfl ⟨.slice N 0 0,?_,?_,World.ownsRow_nil _ _ _ _⟩;·rfl
           ·exact zc _ _
         ·have Z:=a9.out (by omega);subst Z;rcases af with U|⟨U,q2,q3⟩|⟨U,q2⟩;all_goals
           go_wp2_with fail;refine bodyPost_ret (v:=.agg #[I J 1,I J r,I J ↑(r+j),.string (s.extract r (r+j)),.slice N 0 0]) (by simp[results,results97,go_sem]) rfl ⟨.slice N 0 0,?_,?_,World.ownsRow_nil _ _ _ _⟩;·rw[V.out];rfl
           ·exact zc _ _
 ·rw[J6 s r (by omega)];have ak:r=s.size:=by omega
  subst ak;go_enter func97,ntmps97;go_wp2_with fail;refine(B _).mono ?_;rintro e c⟨rfl,rfl⟩;go_wp2_with fail;refine bodyPost_ret (v:=.agg #[I J 6,I J s.size,I J 0,.string ⟨#[]⟩,.slice N 0 0]) (by simp[results,results97,go_sem]) rfl ⟨.slice N 0 0,?_,?_,World.ownsRow_nil _ _ _ _⟩;·rfl
  ·exact zc _ _
end
end Go.Proofs.YtiganlkabilblaaGreatDoor
