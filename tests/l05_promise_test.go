package tests

import (
	"math/rand"
	"testing"

	"loop.example/g00280/impl"
)

// Promise 5, of every order: seven arrivals of five parcels, whichever they are and however often they come.
func TestWhateverParcelsCome(t *testing.T) {
	amounts := []int64{1, 10, 100, 1000, 10000}
	for order := range 5 * 5 * 5 * 5 * 5 * 5 * 5 {
		e := endOf(2, 0, 4, 5)
		got, next := int64(0), int64(1)
		rest := order
		for range 7 {
			p := impl.Parcel{Seq: int64(rest%5) + 1, Amount: amounts[rest%5]}
			rest /= 5
			behind, told, ack := checkReceived(t, e, p)
			if (told != 0) != (p.Seq == next) || told != 0 && told != p.Amount {
				t.Fatalf("%v on %v tells %d", p, e, told)
			}
			if p.Seq == next {
				next++
			}
			if ack != next-1 || behind.Got != ack {
				t.Fatalf("%v on %v acknowledges %d", p, e, ack)
			}
			got += told
			e = behind
		}
		want := int64(0)
		for _, amount := range amounts[:e.Got] {
			want += amount
		}
		if got != want {
			t.Fatalf("in the order %d: %d was got of the first %d, not %d", order, got, e.Got, want)
		}
	}
}

// A link has two ends and what is on its way between them, and keeps what each parcel had.
type link struct {
	a, b    impl.End
	parcels []impl.Parcel
	acks    []int64
	sent    []int64
	got     int64
}

// Promise 5, of a link that loses, doubles and mixes parcels and acknowledgements, through many rounds of the eight places, from the first Seq on and up to the last one.
func TestALinkThatLosesAndDoubles(t *testing.T) {
	for seed := range int64(30) {
		random := rand.New(rand.NewSource(seed))
		start := pick[int64](random, 0, 1, 6, impl.MaxId-60, impl.MaxId-3)
		l := &link{a: impl.End{Sent: start, Got: 5}, b: impl.End{Sent: 4, Got: start}}
		refused := false
		for range 600 {
			refused = l.step(t, random) || refused
			l.check(t, start)
			if t.Failed() {
				t.Fatalf("seed %d: %v", seed, l)
			}
		}
		if len(l.sent) < 3 || l.b.Got == start || !refused {
			t.Errorf("seed %d: only %d were sent, %d got", seed, len(l.sent), l.b.Got-start)
		}
	}
}

// step does one thing by chance, and tells whether a parcel was refused for want of room.
func (l *link) step(t *testing.T, random *rand.Rand) bool {
	t.Helper()
	switch random.Intn(4) {
	case 0:
		amount := pick(random, 1, random.Int63n(1000)+1, maxAmount)
		e, p, ok := checkPacked(t, l.a, amount)
		if !ok {
			return true
		}
		l.a = e
		l.sent = append(l.sent, amount)
		l.parcels = append(l.parcels, p)
	case 1:
		// What is open goes out again.
		l.parcels = append(l.parcels, l.a.Out...)
	case 2:
		if len(l.parcels) > 0 {
			e, told, ack := checkReceived(t, l.b, takeOne(random, &l.parcels))
			l.b = e
			l.got += told
			l.acks = append(l.acks, ack)
		}
	case 3:
		if len(l.acks) > 0 {
			e, ok := checkAcked(t, l.a, takeOne(random, &l.acks))
			if !ok {
				t.Errorf("an acknowledgement was refused by %v", l.a)
			}
			l.a = e
		}
	}
	return false
}

// takeOne takes any of a list: it may stay there, to come again, and what is left may be lost.
func takeOne[T any](random *rand.Rand, list *[]T) T {
	i := random.Intn(len(*list))
	one := (*list)[i]
	switch random.Intn(6) {
	case 0, 1:
	case 2:
		*list = (*list)[:random.Intn(len(*list))]
	default:
		*list = append(append([]T{}, (*list)[:i]...), (*list)[i+1:]...)
	}
	return one
}

// check holds what was got against what the first parcels had that were taken, and what is open against the rest.
func (l *link) check(t *testing.T, start int64) {
	t.Helper()
	got, all := int64(0), int64(0)
	for i, amount := range l.sent {
		if int64(i) < l.b.Got-start {
			got += amount
		}
		all += amount
	}
	if l.got != got {
		t.Errorf("%d was got, not %d", l.got, got)
	}
	if open := impl.OpenOf(l.a, l.b.Got); open != all-got {
		t.Errorf("%d is open, not %d", open, all-got)
	}
	if l.a.Sent != start+int64(len(l.sent)) || l.a.Got != 5 || l.b.Sent != 4 || len(l.b.Out) != 0 {
		t.Errorf("the ends are %v and %v", l.a, l.b)
	}
}
